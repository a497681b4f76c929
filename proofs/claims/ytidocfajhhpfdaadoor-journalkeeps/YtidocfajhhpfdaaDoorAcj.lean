/- What came in, opened: a slice of acts. -/
import Derived.Test.YtidocfajhhpfdaaDoorArgs
import Derived.Test.YtidocfajhhpfdaaDoorJkk
import Derived.Deep.Fields
namespace Go.Proofs.YtidocfajhhpfdaaDoor
open Go.ChangeShapes Go.WideShapes Go.ChangeAt Go.WideMaps Go.WideElems Go.RowKit Go.Deep
set_option maxRecDepth 5000 in
theorem cell_int {H : Type} {enc : TypeId × Value → H} {W : World} {t : TypeId} {k : IntKind} {n : Nat} {x : Value} {y : DataW H × List MemPlace} (ht : Tryd.prog.underlying t = some (.int k)) (h : DataW.trod enc Tryd.prog W 0 (fun _ => true) true n t [x] = some y) :
    ∃ m, x = .int k m ∧ (Lit.int k m).wf = true := by
  obtain ⟨m, hx, _, hw⟩ := DataW.trod_int ht h
  cases hx
  exact ⟨m, rfl, hw⟩
set_option maxRecDepth 5000 in
theorem cellsAct : Tryd.prog.cellsOf 40 = 2 := by kernel_rfl
set_option maxRecDepth 5000 in
theorem bytes_of {H : Type} {enc : TypeId × Value → H} {W : World} {n : Nat} {x : Value} {y : DataW H × List MemPlace} (hf : DataW.trod enc Tryd.prog W 0 (fun _ => true) true n 22 [x] = some y) :
    ∃ a len cap, x = .slice a len cap ∧ ∃ bs : List UInt8, bs.length = len ∧ SlL W a bs ∧ len ≤ cap ∧ cap ≤ maxLen := by
  rcases open_ints Tryd.underlying22 Tryd.underlying5 cellsU8 hf with ⟨hcs, hx⟩ | ⟨a, len, cap, zs, hcs, _, hl, hm, hz, hx, hcell, hwz⟩
  · simp at hcs
    subst hcs
    exact ⟨none, 0, 0, rfl, [], rfl, SlL.nil _ _, Nat.le_refl _, Nat.zero_le _⟩
  · simp at hcs
    subst hcs
    simp only [if_true] at hz
    have hlen : ((zs.take len).map fun z => UInt8.ofNat z.toNat).length = len := by simp; omega
    refine ⟨some a, len, cap, rfl, (zs.take len).map fun z => UInt8.ofNat z.toNat, hlen, fun hn => ?_, hl, hm⟩
    rw [hlen] at hn
    obtain ⟨b, off, rfl, hc⟩ := ints_at hcell (by omega)
    refine ⟨b, off, rfl, block_lt_of_cell (hc 0 (by omega)), fun j hj => ?_⟩
    rw [hlen] at hj
    rw [hc j (by omega)]
    have hjz : j < zs.length := by omega
    have hw := bounds_u8 (hwz _ (List.getElem_mem hjz))
    have e1 : zs.getD j 0 = zs[j] := by simp [hjz]
    have e2 : ((zs.take len).map fun z => UInt8.ofNat z.toNat).getD j 0 = UInt8.ofNat (zs[j]).toNat := by
      simp [hj, hjz]
    rw [e1, e2, UInt8.toNat_ofNat']
    congr 2
    omega
set_option maxRecDepth 5000 in
theorem act_of {H : Type} {enc : TypeId × Value → H} {W : World} {n : Nat} {l : List Value} {y : DataW H × List MemPlace} (h : DataW.trod enc Tryd.prog W 0 (fun _ => true) true n 40 l = some y) :
    ∃ (m : Int) (a : Option Addr) (c : Nat) (bs : List UInt8), l = [.int .i64 m, .slice a bs.length c] ∧ SlL W a bs ∧ bs.length ≤ maxLen := by
  obtain ⟨xs, n, _, _, hl, hxl, hg⟩ := DataW.trod_struct Tryd.underlying40 h
  rw [cellsAct] at hl
  match l, hl with
  | [x0, x1], _ =>
    have f0 := hg 0 _ rfl
    have f1 := hg 1 _ rfl
    have hx : ∀ i, i < 2 → xs[i]? = some (xs.getD i (.nil, [])) := fun i hi => by
      have : i < xs.length := by rw [hxl]; exact hi
      simp [this]
    rw [hx 0 (by omega)] at f0
    rw [hx 1 (by omega)] at f1
    obtain ⟨m0, rfl, w0⟩ := cell_int Tryd.underlying3 f0
    obtain ⟨a, len, cap, rfl, bs, rfl, hs, h1, h2⟩ := bytes_of f1
    exact ⟨m0, a, cap, bs, rfl, hs, by omega⟩
set_option maxRecDepth 5000 in
theorem open_acts {H : Type} {enc : TypeId × Value → H} {W : World} {a0 : Option Addr} {len cap : Nat} {d : DataW H} {p : List MemPlace} (h0 : DataW.Trod enc Tryd.prog W 0 (fun _ => true) true 27 (.slice a0 len cap) d p) : ∃ A : List (Int × List UInt8), A.length = len ∧ AcL W a0 A ∧ len ≤ maxLen := by
  obtain ⟨fuel, hf⟩ := h0
  rcases DataW.trod_slice Tryd.underlying27 hf with ⟨hcs, hx⟩ | ⟨a, len', cap', elems, rest, n, _, hcs, _, hb, hl, hm, hlen, hel, hsp, hns⟩
  · simp [Value.cells] at hcs
    obtain ⟨rfl, rfl, rfl⟩ := hcs
    exact ⟨[], rfl, fun h => by simp at h, Nat.zero_le _⟩
  · simp [Value.cells] at hcs
    obtain ⟨rfl, rfl, rfl⟩ := hcs
    have key : ∀ i, i < len → ∃ (t : Int × List UInt8) (b o : Nat), a = ⟨b, o, none⟩ ∧ W.cell? ⟨b, o + i * 2, none⟩ = some (.int .i64 t.1) ∧ ∃ a' c', W.cell? ⟨b, o + i * 2 + 1, none⟩ = some (.slice a' t.2.length c') ∧ SlL W a' t.2 ∧ t.2.length ≤ maxLen := by
      intro i hi
      have h1 := hel i hi
      have hlt : i < elems.length := by omega
      have h2 : elems[i]? = some (elems.getD i (.nil, [])) := by simp [hlt]
      rw [h2, cellsAct, Option.bind_eq_some_iff] at h1
      obtain ⟨l, hcl, ht⟩ := h1
      obtain ⟨m, a', c', bs, rfl, hs, hbl⟩ := act_of ht
      obtain ⟨_, hll, hcell⟩ := World.cells?_some hcl
      obtain ⟨b, o, spot⟩ := a
      have hspot : spot = none := by
        have h0i := hel 0 (by omega)
        have hlt0 : 0 < elems.length := by omega
        have h20 : elems[0]? = some (elems.getD 0 (.nil, [])) := by simp [hlt0]
        rw [h20, cellsAct, Option.bind_eq_some_iff] at h0i
        obtain ⟨l', hcl', ht'⟩ := h0i
        obtain ⟨m', a'', c'', bs', rfl, _, _⟩ := act_of ht'
        obtain ⟨_, _, hcell'⟩ := World.cells?_some hcl'
        have := World.cell?_spot (hcell' 0 (by omega))
        simpa [Addr.add] using this
      subst hspot
      refine ⟨(m, bs), b, o, rfl, ?_, a', c', ?_, hs, hbl⟩
      · have h3 := hcell 0 (by omega)
        rw [add_plain, add_plain] at h3
        simpa using h3
      · have h3 := hcell 1 (by omega)
        rw [add_plain, add_plain] at h3
        simpa using h3
    have hch : ∃ f : Nat → Int × List UInt8, ∀ i, i < len → ∃ (b o : Nat), a = ⟨b, o, none⟩ ∧ W.cell? ⟨b, o + i * 2, none⟩ = some (.int .i64 (f i).1) ∧ ∃ a' c', W.cell? ⟨b, o + i * 2 + 1, none⟩ = some (.slice a' (f i).2.length c') ∧ SlL W a' (f i).2 ∧ (f i).2.length ≤ maxLen := by
      refine ⟨fun i => if h : i < len then Classical.choose (key i h) else (0, []), fun i hi => ?_⟩
      have e : (fun i => if h : i < len then Classical.choose (key i h) else (0, [])) i = Classical.choose (key i hi) := dif_pos hi
      rw [e]
      exact Classical.choose_spec (key i hi)
    obtain ⟨f, hfi⟩ := hch
    refine ⟨(List.range len).map f, by simp, fun hn => ?_, by omega⟩
    simp only [List.length_map, List.length_range] at hn
    obtain ⟨b, o, rfl, h1, _⟩ := hfi 0 hn
    refine ⟨b, o, rfl, block_lt_of_cell h1, fun i hi => ?_⟩
    simp only [List.length_map, List.length_range] at hi
    obtain ⟨b', o', e, h2, a', c', h3, h4, h5⟩ := hfi i hi
    have eg : ((List.range len).map f).getD i (0, []) = f i := by simp [hi]
    injection e with e1 e2
    subst e1
    subst e2
    rw [eg]
    exact ⟨h2, a', c', h3, h4, by unfold maxLen at h5; omega⟩
end Go.Proofs.YtidocfajhhpfdaaDoor
