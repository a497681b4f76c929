/- What came in, opened: a slice of acts. -/
import Derived.Test.YtidocfajhhpfdaaDoorArgs
import Derived.Test.YtidocfajhhpfdaaDoorKps
import Derived.Deep.Fields
import Derived.Test.YtidocfajhhpfdaaDoorFls
import Derived.Test.YtidocfajhhpfdaaDoorLaid
import Derived.Test.YtidocfajhhpfdaaDoorCards
import Derived.Test.YtidocfajhhpfdaaDoorTie
import Derived.SevenTiedAt
namespace Go.Proofs.YtidocfajhhpfdaaDoor
open Go.ChangeShapes Go.WideShapes Go.ChangeAt Go.WideMaps Go.WideElems Go.RowKit Go.Deep
set_option maxRecDepth 5000 in
theorem cell_int {H : Type} {enc : TypeId × Value → H} {W : World} {t : TypeId} {k : IntKind} {n : Nat} {x : Value} {y : DataW H × List MemPlace} (ht : Tryd.prog.underlying t = some (.int k)) (h : DataW.trod enc Tryd.prog W 0 (fun _ => true) true n t [x] = some y) :
    ∃ m, x = .int k m ∧ (Lit.int k m).wf = true := by
  obtain ⟨m, hx, _, hw⟩ := DataW.trod_int ht h
  cases hx
  exact ⟨m, rfl, hw⟩
set_option maxRecDepth 5000 in
theorem cellsAct : Tryd.prog.cellsOf 40 = 2 := by kernel_rfl
set_option maxRecDepth 5000 in
theorem bytes_of {H : Type} {enc : TypeId × Value → H} {W : World} {n : Nat} {x : Value} {y : DataW H × List MemPlace} (hf : DataW.trod enc Tryd.prog W 0 (fun _ => true) true n 22 [x] = some y) :
    ∃ a len cap, x = .slice a len cap ∧ ∃ bs : List UInt8, bs.length = len ∧ SlL W a bs ∧ len ≤ cap ∧ cap ≤ maxLen := by
  rcases open_ints Tryd.underlying22 Tryd.underlying5 cellsU8 hf with ⟨hcs, hx⟩ | ⟨a, len, cap, zs, hcs, _, hl, hm, hz, hx, hcell, hwz⟩
  · simp at hcs
    subst hcs
    exact ⟨none, 0, 0, rfl, [], rfl, SlL.nil _ _, Nat.le_refl _, Nat.zero_le _⟩
  · simp at hcs
    subst hcs
    simp only [if_true] at hz
    have hlen : ((zs.take len).map fun z => UInt8.ofNat z.toNat).length = len := by simp; omega
    refine ⟨some a, len, cap, rfl, (zs.take len).map fun z => UInt8.ofNat z.toNat, hlen, fun hn => ?_, hl, hm⟩
    rw [hlen] at hn
    obtain ⟨b, off, rfl, hc⟩ := ints_at hcell (by omega)
    refine ⟨b, off, rfl, block_lt_of_cell (hc 0 (by omega)), fun j hj => ?_⟩
    rw [hlen] at hj
    rw [hc j (by omega)]
    have hjz : j < zs.length := by omega
    have hw := bounds_u8 (hwz _ (List.getElem_mem hjz))
    have e1 : zs.getD j 0 = zs[j] := by simp [hjz]
    have e2 : ((zs.take len).map fun z => UInt8.ofNat z.toNat).getD j 0 = UInt8.ofNat (zs[j]).toNat := by
      simp [hj, hjz]
    rw [e1, e2, UInt8.toNat_ofNat']
    congr 2
    omega
set_option maxRecDepth 5000 in
theorem act_of {H : Type} {enc : TypeId × Value → H} {W : World} {n : Nat} {l : List Value} {y : DataW H × List MemPlace} (h : DataW.trod enc Tryd.prog W 0 (fun _ => true) true n 40 l = some y) :
    ∃ (m : Int) (a : Option Addr) (c : Nat) (bs : List UInt8), l = [.int .i64 m, .slice a bs.length c] ∧ SlL W a bs ∧ bs.length ≤ maxLen := by
  obtain ⟨xs, n, _, _, hl, hxl, hg⟩ := DataW.trod_struct Tryd.underlying40 h
  rw [cellsAct] at hl
  match l, hl with
  | [x0, x1], _ =>
    have f0 := hg 0 _ rfl
    have f1 := hg 1 _ rfl
    have hx : ∀ i, i < 2 → xs[i]? = some (xs.getD i (.nil, [])) := fun i hi => by
      have : i < xs.length := by rw [hxl]; exact hi
      simp [this]
    rw [hx 0 (by omega)] at f0
    rw [hx 1 (by omega)] at f1
    obtain ⟨m0, rfl, w0⟩ := cell_int Tryd.underlying3 f0
    obtain ⟨a, len, cap, rfl, bs, rfl, hs, h1, h2⟩ := bytes_of f1
    exact ⟨m0, a, cap, bs, rfl, hs, by omega⟩
set_option maxRecDepth 5000 in
theorem open_acts {H : Type} {enc : TypeId × Value → H} {W : World} {a0 : Option Addr} {len cap : Nat} {d : DataW H} {p : List MemPlace} (h0 : DataW.Trod enc Tryd.prog W 0 (fun _ => true) true 27 (.slice a0 len cap) d p) : ∃ A : List (Int × List UInt8), A.length = len ∧ AcL W a0 A ∧ len ≤ maxLen := by
  obtain ⟨fuel, hf⟩ := h0
  rcases DataW.trod_slice Tryd.underlying27 hf with ⟨hcs, hx⟩ | ⟨a, len', cap', elems, rest, n, _, hcs, _, hb, hl, hm, hlen, hel, hsp, hns⟩
  · simp [Value.cells] at hcs
    obtain ⟨rfl, rfl, rfl⟩ := hcs
    exact ⟨[], rfl, fun h => by simp at h, Nat.zero_le _⟩
  · simp [Value.cells] at hcs
    obtain ⟨rfl, rfl, rfl⟩ := hcs
    have key : ∀ i, i < len → ∃ (t : Int × List UInt8) (b o : Nat), a = ⟨b, o, none⟩ ∧ W.cell? ⟨b, o + i * 2, none⟩ = some (.int .i64 t.1) ∧ ∃ a' c', W.cell? ⟨b, o + i * 2 + 1, none⟩ = some (.slice a' t.2.length c') ∧ SlL W a' t.2 ∧ t.2.length ≤ maxLen := by
      intro i hi
      have h1 := hel i hi
      have hlt : i < elems.length := by omega
      have h2 : elems[i]? = some (elems.getD i (.nil, [])) := by simp [hlt]
      rw [h2, cellsAct, Option.bind_eq_some_iff] at h1
      obtain ⟨l, hcl, ht⟩ := h1
      obtain ⟨m, a', c', bs, rfl, hs, hbl⟩ := act_of ht
      obtain ⟨_, hll, hcell⟩ := World.cells?_some hcl
      obtain ⟨b, o, spot⟩ := a
      have hspot : spot = none := by
        have h0i := hel 0 (by omega)
        have hlt0 : 0 < elems.length := by omega
        have h20 : elems[0]? = some (elems.getD 0 (.nil, [])) := by simp [hlt0]
        rw [h20, cellsAct, Option.bind_eq_some_iff] at h0i
        obtain ⟨l', hcl', ht'⟩ := h0i
        obtain ⟨m', a'', c'', bs', rfl, _, _⟩ := act_of ht'
        obtain ⟨_, _, hcell'⟩ := World.cells?_some hcl'
        have := World.cell?_spot (hcell' 0 (by omega))
        simpa [Addr.add] using this
      subst hspot
      refine ⟨(m, bs), b, o, rfl, ?_, a', c', ?_, hs, hbl⟩
      · have h3 := hcell 0 (by omega)
        rw [add_plain, add_plain] at h3
        simpa using h3
      · have h3 := hcell 1 (by omega)
        rw [add_plain, add_plain] at h3
        simpa using h3
    have hch : ∃ f : Nat → Int × List UInt8, ∀ i, i < len → ∃ (b o : Nat), a = ⟨b, o, none⟩ ∧ W.cell? ⟨b, o + i * 2, none⟩ = some (.int .i64 (f i).1) ∧ ∃ a' c', W.cell? ⟨b, o + i * 2 + 1, none⟩ = some (.slice a' (f i).2.length c') ∧ SlL W a' (f i).2 ∧ (f i).2.length ≤ maxLen := by
      refine ⟨fun i => if h : i < len then Classical.choose (key i h) else (0, []), fun i hi => ?_⟩
      have e : (fun i => if h : i < len then Classical.choose (key i h) else (0, [])) i = Classical.choose (key i hi) := dif_pos hi
      rw [e]
      exact Classical.choose_spec (key i hi)
    obtain ⟨f, hfi⟩ := hch
    refine ⟨(List.range len).map f, by simp, fun hn => ?_, by omega⟩
    simp only [List.length_map, List.length_range] at hn
    obtain ⟨b, o, rfl, h1, _⟩ := hfi 0 hn
    refine ⟨b, o, rfl, block_lt_of_cell h1, fun i hi => ?_⟩
    simp only [List.length_map, List.length_range] at hi
    obtain ⟨b', o', e, h2, a', c', h3, h4, h5⟩ := hfi i hi
    have eg : ((List.range len).map f).getD i (0, []) = f i := by simp [hi]
    injection e with e1 e2
    subst e1
    subst e2
    rw [eg]
    exact ⟨h2, a', c', h3, h4, by unfold maxLen at h5; omega⟩
end Go.Proofs.YtidocfajhhpfdaaDoor

/- What came in, opened: a slice of numbers of 64 bits. -/
namespace Go.Proofs.YtidocfajhhpfdaaDoor
open Go.ChangeShapes Go.WideShapes Go.ChangeAt Go.WideMaps Go.WideElems Go.RowKit
set_option maxRecDepth 5000 in
theorem cellsU64 : Tryd.prog.cellsOf 37 = 1 := by kernel_rfl
set_option maxRecDepth 5000 in
theorem open_u64s {H : Type} {enc : TypeId × Value → H} {W : World} {a0 : Option Addr} {len cap : Nat} {d : DataW H} {p : List MemPlace} (h0 : DataW.Trod enc Tryd.prog W 0 (fun _ => true) true 46 (.slice a0 len cap) d p) :
    ∃ A : List Nat, A.length = len ∧ U64L W a0 A ∧ len ≤ maxLen := by
  obtain ⟨fuel, hf⟩ := h0
  rcases open_ints Tryd.underlying46 Tryd.underlying37 cellsU64 hf with ⟨hcs, hx⟩ | ⟨a, len', cap', zs, hcs, _, hl, hm, hz, hx, hcell, hwz⟩
  · simp [Value.cells] at hcs
    obtain ⟨rfl, rfl, rfl⟩ := hcs
    exact ⟨[], rfl, fun h => by simp at h, Nat.zero_le _⟩
  · simp [Value.cells] at hcs
    obtain ⟨rfl, rfl, rfl⟩ := hcs
    simp only [if_true] at hz
    have hlen : ((zs.take len).map fun z => z.toNat).length = len := by simp; omega
    refine ⟨(zs.take len).map fun z => z.toNat, hlen, fun hn => ?_, by omega⟩
    rw [hlen] at hn
    obtain ⟨b, off, rfl, hc⟩ := ints_at hcell (by omega)
    refine ⟨b, off, rfl, block_lt_of_cell (hc 0 (by omega)), fun j hj => ?_⟩
    rw [hlen] at hj
    rw [hc j (by omega)]
    have hjz : j < zs.length := by omega
    have hw := bounds_u64 (hwz _ (List.getElem_mem hjz))
    have e1 : zs.getD j 0 = zs[j] := by simp [hjz]
    have e2 : ((zs.take len).map fun z => z.toNat).getD j 0 = (zs[j]).toNat := by
      simp [hj, hjz]
    rw [e1, e2]
    exact ⟨by congr 2; omega, by omega⟩
end Go.Proofs.YtidocfajhhpfdaaDoor

/- For every input the law JournalFalls returns true and leaves its arguments as they were, tied to the program's own text: where the listed variable begins as the text lays it. -/
namespace Go.Proofs.YtidocfajhhpfdaaDoor.journalFalls
open Go.ChangeShapes Go.WideShapes Go.ChangeAt Go.WideMaps Go.WideElems Go.RowKit
set_option maxRecDepth 100000 in
theorem lifted (os : Os) (started : os.Started) (HH : Type) (enc : TypeId × Value → HH) :
    ReturnsInHanded {} Tryd.checked os 5 .any (fun w args => (Rows.journalFallsSpec.pre enc Tryd.prog Tryd.f5 [] false w args ∧ laidMetH Tryd.prog laidL w) ∧ sizedMet enc Tryd.prog Tryd.f5 (OpenSpec.ofChange Rows.journalFallsSpec) false w args)
      (Rows.journalFallsSpec.post enc Tryd.prog Tryd.f5 false true false false) := by
  refine returnsInHanded_of_change_and (C := Tryd.checked) (X := fun w _ => laidMetH Tryd.prog laidL w) (fun _ _ _ hh h => h.of_heap hh) ownK started (by kernel_rfl) Tryd.func5
    (ChangeSpec.witness_shaped (enc := enc) (C := Tryd.checked) (os := os) (X := fun w _ => laidMetH Tryd.prog laidL w) false (World.doorLaid Tryd.prog 14 os) #[.int .u8 0, .slice none 0 0, .slice none 0 0, .slice none 0 0] 8 rfl (World.shaped_of_RefB (by kernel_rfl) (by kernel_rfl)) (by kernel_rfl) (by kernel_rfl) (by kernel_rfl) (door_met os _)) ?_
  intro W base args ds gs before hval0 hW _ _ hL _
  have hval : ∀ (j : Nat) t v, Tryd.f5.params[j]? = some t → args[j]? = some v → Value.okWide Tryd.prog W .any base t v := hval0
  have hW' := hW
  obtain ⟨p, q, hA0, hV, rfl, hfz, hnd⟩ := hW
  have hA : DataW.TrodAll enc Tryd.prog W 0 (fun _ => true) true Tryd.f5.params.toList args.toList ds p := hA0
  rw [Tryd.params5] at hA hval
  obtain ⟨v0, vs0, d0, ds0, p0, q0, hargs, rfl, rfl, h0, r0⟩ := trodAll_cons hA
  obtain ⟨v1, vs1, d1, ds1, p1, q1, rfl, rfl, rfl, h1, r1⟩ := trodAll_cons r0
  obtain ⟨v2, vs2, d2, ds2, p2, q2, rfl, rfl, rfl, h2, r2⟩ := trodAll_cons r1
  obtain ⟨v3, vs3, d3, ds3, p3, q3, rfl, rfl, rfl, h3, r3⟩ := trodAll_cons r2
  obtain ⟨rfl, rfl, rfl⟩ := trodAll_nil r3
  obtain rfl : args = #[v0, v1, v2, v3] := by cases args; simp_all
  obtain ⟨rfl, rfl⟩ := trodVars_none hV
  obtain ⟨b0, rfl, rfl, rfl, w0⟩ := open_int Tryd.underlying5 (hval 0 5 v0 rfl rfl) h0
  obtain ⟨a1, l1, c1, rfl⟩ := okWide_slice Tryd.underlying27 (hval 1 27 v1 rfl rfl)
  obtain ⟨a2, l2, c2, rfl⟩ := okWide_slice Tryd.underlying22 (hval 2 22 v2 rfl rfl)
  obtain ⟨a3, l3, c3, rfl⟩ := okWide_slice Tryd.underlying46 (hval 3 46 v3 rfl rfl)
  clear hA0 hval0
  have hlt1 : ∀ x ∈ p1, x.block < W.heap.size := fun x hx => by simpa using hW'.lt x (by simp [hx])
  have ha1 : ∀ (W' : World), Below W.heap.size W W' → DataW.Trod enc Tryd.prog W' 0 (fun b => decide (b < W.heap.size)) true 27 (.slice a1 l1 c1) d1 p1 :=
    fun W' hn => Below.trod laidOutT (by kernel_rfl) (of_decide_eq_true (by kernel_rfl)) h1 hn hlt1
  obtain ⟨n1, hn1, hs1, hm1⟩ := open_acts h1
  have hlt2 : ∀ x ∈ p2, x.block < W.heap.size := fun x hx => by simpa using hW'.lt x (by simp [hx])
  have ha2 : ∀ (W' : World), Below W.heap.size W W' → DataW.Trod enc Tryd.prog W' 0 (fun b => decide (b < W.heap.size)) true 22 (.slice a2 l2 c2) d2 p2 :=
    fun W' hn => Below.trod laidOutT (by kernel_rfl) (of_decide_eq_true (by kernel_rfl)) h2 hn hlt2
  obtain ⟨n2, hn2, hs2, hnil2, hlc2, hcm2⟩ := open_bytes h2
  have hlt3 : ∀ x ∈ p3, x.block < W.heap.size := fun x hx => by simpa using hW'.lt x (by simp [hx])
  have ha3 : ∀ (W' : World), Below W.heap.size W W' → DataW.Trod enc Tryd.prog W' 0 (fun b => decide (b < W.heap.size)) true 46 (.slice a3 l3 c3) d3 p3 :=
    fun W' hn => Below.trod laidOutT (by kernel_rfl) (of_decide_eq_true (by kernel_rfl)) h3 hn hlt3
  obtain ⟨n3, hn3, hs3, hm3⟩ := open_u64s h3
  obtain ⟨m0, rfl⟩ := byte_of w0
  have hT := tab_of_laid hL
  have hwalk : Calls Tryd.prog 5 #[.int .u8 (m0.toNat : Int), .slice a1 l1 c1, .slice a2 l2 c2, .slice a3 l3 c3] W fun e w' => e = .returned (.bool true) ∧ Below W.heap.size W w' := by
    subst hn1
    subst hn2
    subst hn3
    exact falls_walk W hT m0 a1 c1 n1 (by unfold maxLen at hm1; omega) hs1 a2 c2 n2 hs2 a3 c3 n3 hs3
  refine hwalk.mono fun e W' ⟨he, hb⟩ => ?_
  subst he
  refine ⟨_, rfl, _, _, _, [], ([] ++ (p1 ++ (p2 ++ (p3 ++ [])))), [], by simpa using hW', ?_, ?_, ?_, hb.frame _, fun h => by cases h⟩
  · exact trodAll_cons_mk (shut_bool Tryd.underlying4 _) trodAll_mk0
  · exact trodAll_cons_mk (shut_int Tryd.underlying5 w0) (trodAll_cons_mk (ha1 _ hb) (trodAll_cons_mk (ha2 _ hb) (trodAll_cons_mk (ha3 _ hb) trodAll_mk0)))
  · rfl
set_option maxRecDepth 5000 in
theorem row_holds : Rows.JournalFallsSaid :=
  OpenClaim.holds_of_wide 5 Tryd.f5 rfl rfl rfl rfl rfl rfl rfl ⟨rfl, rfl, rfl, rfl, rfl⟩ rfl rfl rfl rfl rfl (by kernel_rfl) Tryd.func5 (by kernel_rfl)
    (of_decide_eq_true (by kernel_rfl)) (by unfold Func.isWrapper; first | (rw [if_pos (by decide +kernel)]; kernel_rfl) | (rw [if_neg (by decide +kernel)]; exact ⟨rfl, rfl⟩))
    (fun os started HH enc _ => lifted os started HH enc)
end Go.Proofs.YtidocfajhhpfdaaDoor.journalFalls
namespace Go.Proofs.YtidocfajhhpfdaaDoor
open Go
set_option maxRecDepth 5000 in
theorem journalFalls_card_holds : Rows.JournalFallsCardSaid :=
  Claim7.holds_tied_plain_at .later [] [.data] true (true, "5b0f089365f71c8cd2d4d417c37c647d868b6fb8e356da2c86d55ce01b36dae3") true
    journalFalls.row_holds (fun _ h => by cases h) (by kernel_rfl) (fun _ h => by cases h) journalFalls_row_tie rfl ⟨rfl, rfl⟩ (by kernel_rfl) rfl
    (fun f fn hf hfn => by
      obtain rfl : f = 5 := Option.some.inj ((show Tryd.prog.funcNamed "signet/signetlaw12.JournalFalls" = some 5 by kernel_rfl).symm.trans hf) |>.symm
      obtain rfl : fn = Tryd.f5 := (Option.some.inj (Tryd.func5.symm.trans hfn)).symm
      exact ⟨by kernel_rfl, fun j t ht => by
        rw [Tryd.params5] at ht
        have hm : t ∈ [5, 27, 22, 46] := by simpa using Array.mem_of_getElem? ht
        have hall : ([5, 27, 22, 46].all fun u => !Tryd.prog.wantsStandIn u) = true := by kernel_rfl
        exact (show Tryd.prog.wantsStandIn t = false by simpa using List.all_eq_true.1 hall t hm)⟩)
    (by kernel_rfl)
#print axioms journalFalls_card_holds
end Go.Proofs.YtidocfajhhpfdaaDoor
