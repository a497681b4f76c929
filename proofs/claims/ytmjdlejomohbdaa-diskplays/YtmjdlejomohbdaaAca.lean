/- What came in, opened: a slice of acts. -/
import Derived.Test.YtmjdlejomohbdaaArgs
import Derived.Test.YtmjdlejomohbdaaPjn
import Derived.Deep.Fields
namespace Go.Proofs.Ytmjdlejomohbdaa
open Go.ChangeShapes Go.WideShapes Go.ChangeAt Go.WideMaps Go.WideElems Go.RowKit Go.Deep
set_option maxRecDepth 5000 in
theorem cell_int {H : Type} {enc : TypeId × Value → H} {W : World} {t : TypeId} {k : IntKind} {n : Nat} {x : Value} {y : DataW H × List MemPlace} (ht : Try.prog.underlying t = some (.int k)) (h : DataW.trod enc Try.prog W 0 (fun _ => true) true n t [x] = some y) :
    ∃ m, x = .int k m ∧ (Lit.int k m).wf = true := by
  obtain ⟨m, hx, _, hw⟩ := DataW.trod_int ht h
  cases hx
  exact ⟨m, rfl, hw⟩
set_option maxRecDepth 5000 in
theorem cellsAct : Try.prog.cellsOf 36 = 5 := by kernel_rfl
set_option maxRecDepth 5000 in
theorem act_of {H : Type} {enc : TypeId × Value → H} {W : World} {n : Nat} {l : List Value} {y : DataW H × List MemPlace} (h : DataW.trod enc Try.prog W 0 (fun _ => true) true n 36 l = some y) : ∃ t : ActT, l = (actRow t).toList ∧ t.keep < 18446744073709551616 := by
  obtain ⟨xs, n, _, _, hl, hxl, hg⟩ := DataW.trod_struct Try.underlying36 h
  rw [cellsAct] at hl
  match l, hl with
  | [x0, x1, x2, x3, x4], _ =>
    have f0 := hg 0 _ rfl
    have f1 := hg 1 _ rfl
    have f2 := hg 2 _ rfl
    have f3 := hg 3 _ rfl
    have f4 := hg 4 _ rfl
    have hx : ∀ i, i < 5 → xs[i]? = some (xs.getD i (.nil, [])) := fun i hi => by
      have : i < xs.length := by rw [hxl]; exact hi
      simp [this]
    rw [hx 0 (by omega)] at f0
    rw [hx 1 (by omega)] at f1
    rw [hx 2 (by omega)] at f2
    rw [hx 3 (by omega)] at f3
    rw [hx 4 (by omega)] at f4
    obtain ⟨m0, rfl, w0⟩ := cell_int Try.underlying3 f0
    obtain ⟨m1, rfl, w1⟩ := cell_int Try.underlying3 f1
    obtain ⟨m2, rfl, w2⟩ := cell_int Try.underlying3 f2
    obtain ⟨m3, rfl, w3⟩ := cell_int Try.underlying34 f3
    obtain ⟨m4, rfl, w4⟩ := cell_int Try.underlying5 f4
    obtain ⟨q3, rfl, b3⟩ := u64_of w3
    obtain ⟨q4, rfl⟩ := byte_of w4
    exact ⟨⟨m0, m1, m2, q3, q4⟩, rfl, b3⟩
set_option maxRecDepth 5000 in
theorem open_acts {H : Type} {enc : TypeId × Value → H} {W : World} {a0 : Option Addr} {len cap : Nat} {d : DataW H} {p : List MemPlace} (h0 : DataW.Trod enc Try.prog W 0 (fun _ => true) true 22 (.slice a0 len cap) d p) : Acts W a0 len := by
  obtain ⟨fuel, hf⟩ := h0
  rcases DataW.trod_slice Try.underlying22 hf with ⟨hcs, hx⟩ | ⟨a, len', cap', elems, rest, n, _, hcs, _, hb, hl, hm, hlen, hel, hsp, hns⟩
  · simp [Value.cells] at hcs
    obtain ⟨rfl, rfl, rfl⟩ := hcs
    intro i hi
    omega
  · simp [Value.cells] at hcs
    obtain ⟨rfl, rfl, rfl⟩ := hcs
    intro i hi
    have h1 := hel i hi
    have hlt : i < elems.length := by omega
    have h2 : elems[i]? = some (elems.getD i (.nil, [])) := by simp [hlt]
    rw [h2, cellsAct, Option.bind_eq_some_iff] at h1
    obtain ⟨l, hcl, ht⟩ := h1
    obtain ⟨t, rfl, hk⟩ := act_of ht
    obtain ⟨_, hll, hcell⟩ := World.cells?_some hcl
    have hc0 := hcell 0 (by omega)
    obtain ⟨b, o, spot⟩ := a
    have hspot : spot = none := by
      have h0i := hel 0 (by omega)
      have hlt0 : 0 < elems.length := by omega
      have h20 : elems[0]? = some (elems.getD 0 (.nil, [])) := by simp [hlt0]
      rw [h20, cellsAct, Option.bind_eq_some_iff] at h0i
      obtain ⟨l', hcl', ht'⟩ := h0i
      obtain ⟨t', rfl, _⟩ := act_of ht'
      obtain ⟨_, _, hcell'⟩ := World.cells?_some hcl'
      have := World.cell?_spot (hcell' 0 (by omega))
      simpa [Addr.add] using this
    subst hspot
    have hadd : ∀ k, k < 5 → W.cell? ⟨b, o + i * 5 + k, none⟩ = (actRow t)[k]? := fun k hk5 => by
      have h3 := hcell k hk5
      rw [add_plain, add_plain] at h3
      simpa using h3
    refine ⟨t, b, o, rfl, ?_, hk, hadd⟩
    exact block_lt_of_cell (hadd 0 (by omega))
end Go.Proofs.Ytmjdlejomohbdaa
