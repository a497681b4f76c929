/- What came in, opened: an array of eight bytes, numbers. -/
import Derived.Test.YtlpidcgnipgkoaaDoorOpen
import Derived.Test.YtlpidcgnipgkoaaDoorLaid
import Derived.OpenShut
namespace Go.Proofs.YtlpidcgnipgkoaaDoor
open Go.ChangeShapes Go.WideShapes Go.ChangeAt Go.WideMaps Go.WideElems Go.RowKit
set_option maxRecDepth 5000 in
theorem cells8T : Tryd.prog.cellsOf 22 = 8 := by kernel_rfl
set_option maxRecDepth 5000 in
theorem okWide_arr8 {W : World} {r : Reach} {b0 : Nat} {v : Value} (h : Value.okWide Tryd.prog W r b0 22 v) : ∃ xs : Array Value, v = .agg xs := by
  simp only [Value.okWide, Tryd.underlying22] at h
  obtain ⟨cs, h1, _⟩ := h
  exact ⟨cs, h1⟩
set_option maxRecDepth 5000 in
theorem open_arr8 {H : Type} {enc : TypeId × Value → H} {W : World} {xs : Array Value} {d : DataW H} {p : List MemPlace} (h0 : DataW.Trod enc Tryd.prog W 0 (fun _ => true) true 22 (.agg xs) d p) : ∃ f : Nat → BitVec 8, xs = rowB 8 f := by
  obtain ⟨fuel, hf⟩ := h0
  have hf' : DataW.trod enc Tryd.prog W 0 (fun _ => true) true fuel 22 xs.toList = some (d, p) := by simpa [Value.cells] using hf
  obtain ⟨ys, m, rfl, _, hl, hn, hg⟩ := DataW.trod_array Tryd.underlying22 hf'
  rw [cells8T] at hl
  have hsz : xs.size = 8 := by simpa using hl
  have hj : ∀ j, j < 8 → ∃ b : BitVec 8, xs[j]? = some (.int .u8 (b.toNat : Int)) := fun j hj => by
    have g := hg j hj
    rw [cells5, Nat.mul_one] at g
    have hjl : j < xs.toList.length := by simp; omega
    rw [List.drop_eq_getElem_cons hjl, List.take_succ_cons, List.take_zero] at g
    have hy : j < ys.length := by omega
    rw [List.getElem?_eq_getElem hy] at g
    obtain ⟨n, hx, _, hw⟩ := DataW.trod_int Tryd.underlying5 g
    obtain ⟨b, rfl⟩ := byte_of hw
    refine ⟨b, ?_⟩
    have h1 : xs.toList[j] = .int .u8 (b.toNat : Int) := by simpa using hx
    rw [← h1]; simp
  refine ⟨fun j => if h : j < 8 then (hj j h).choose else 0, ?_⟩
  apply Array.ext_getElem?
  intro j
  by_cases hjj : j < 8
  · rw [(hj j hjj).choose_spec, rowB_get _ _ _ hjj, dif_pos hjj]
  · rw [Array.getElem?_eq_none (by omega), Array.getElem?_eq_none (by rw [rowB_size]; omega)]
set_option maxRecDepth 5000 in
theorem nat_u8' {m : Int} (h : (Lit.int .u8 m).wf = true) : ∃ q : Nat, m = (q : Int) ∧ q < 256 := ⟨m.toNat, by have := bounds_u8 h; omega, by have := bounds_u8 h; omega⟩
set_option maxRecDepth 5000 in
theorem nat_u16' {m : Int} (h : (Lit.int .u16 m).wf = true) : ∃ q : Nat, m = (q : Int) ∧ q < 65536 := ⟨m.toNat, by have := bounds_u16 h; omega, by have := bounds_u16 h; omega⟩
set_option maxRecDepth 5000 in
theorem nat_u32' {m : Int} (h : (Lit.int .u32 m).wf = true) : ∃ q : Nat, m = (q : Int) ∧ q < 4294967296 := ⟨m.toNat, by have := bounds_u32 h; omega, by have := bounds_u32 h; omega⟩
end Go.Proofs.YtlpidcgnipgkoaaDoor
