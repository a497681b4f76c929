/- Helps of examples: literal bytes, lists of one and of two parts, rows of eight bytes that are unlike. -/
import Derived.Test.YtlpidcgnipgkoaaDoorEq
import Derived.Lib.SlBytesConst
namespace Go.Proofs.YtlpidcgnipgkoaaDoor
open Go.RowKit
set_option maxRecDepth 5000 in
theorem SlL.litm (w : World) (l : List (BitVec 8)) (A : Array Value) (t : TypeId) (fr : Nat × Nat) (h : A = (vb l).toArray) : SlL (w.alloc (.cells A t fr)) (some ⟨w.heap.size, 0, none⟩) l := fun _ => by
  subst h
  refine ⟨w.heap.size, 0, rfl, by simp, fun j hj => ?_⟩
  rw [cell_of_row _ _ _ _ t fr (heap_alloc_last w _), Nat.zero_add]
  simp only [List.getElem?_toArray]
  exact vb_get l j hj
set_option maxRecDepth 5000 in
theorem run_conv (w : World) (C : Array Value) (g n c : Nat) (hg : g = w.heap.size) : (convert 24 24 (.slice (some ⟨g, 0, none⟩) n c)).run Tryd.prog (w.alloc (.cells C 5)) = .ok (.slice (some ⟨g, 0, none⟩) n c) (w.alloc (.cells C 5 (C.size, C.size + 1))) := by
  subst hg; exact Lib.run_convert_bytes_const w 24 5 C n c Tryd.underlying24 Tryd.underlying5
set_option maxRecDepth 5000 in
theorem parts_one (w : World) (a : Option Addr) (p : List (BitVec 8)) (c : Nat) (t : TypeId) (hs : SlL w a p) (hn : a = none → c = 0) (hc : p.length ≤ c) : PartsAt (w.alloc (.cells #[.slice a p.length c] t)) (some ⟨w.heap.size, 0, none⟩) [p] := fun _ => by
  refine ⟨w.heap.size, 0, rfl, by simp, fun j hj => ?_⟩
  have : j = 0 := by simpa using hj
  subst this
  exact ⟨a, c, by rw [(RowAt.new w t _).cell]; rfl, hs.alloc _, hn, hc⟩
set_option maxRecDepth 5000 in
theorem parts_two (w : World) (a a' : Option Addr) (p p' : List (BitVec 8)) (c c' : Nat) (t : TypeId) (hs : SlL w a p) (hn : a = none → c = 0) (hc : p.length ≤ c) (hs' : SlL w a' p') (hn' : a' = none → c' = 0) (hc' : p'.length ≤ c') : PartsAt (w.alloc (.cells #[.slice a p.length c, .slice a' p'.length c'] t)) (some ⟨w.heap.size, 0, none⟩) [p, p'] := fun _ => by
  refine ⟨w.heap.size, 0, rfl, by simp, fun j hj => ?_⟩
  have hj2 : j < 2 := hj
  rcases (show j = 0 ∨ j = 1 by omega) with rfl | rfl
  · exact ⟨a, c, by rw [(RowAt.new w t _).cell]; rfl, hs.alloc _, hn, hc⟩
  · exact ⟨a', c', by rw [(RowAt.new w t _).cell]; rfl, hs'.alloc _, hn', hc'⟩
set_option maxRecDepth 5000 in
theorem run_ne8 (F G : Nat → BitVec 8) (h : (decide (∀ j ∈ List.range 8, F j = G j)) = false) (w : World) : (Op.equalIn 10000 22 (.agg #[.int .u8 (F 0).toNat, .int .u8 (F 1).toNat, .int .u8 (F 2).toNat, .int .u8 (F 3).toNat, .int .u8 (F 4).toNat, .int .u8 (F 5).toNat, .int .u8 (F 6).toNat, .int .u8 (F 7).toNat]) (.agg #[.int .u8 (G 0).toNat, .int .u8 (G 1).toNat, .int .u8 (G 2).toNat, .int .u8 (G 3).toNat, .int .u8 (G 4).toNat, .int .u8 (G 5).toNat, .int .u8 (G 6).toNat, .int .u8 (G 7).toNat])).run Tryd.prog w = .ok false w := by
  have h1 := run_eqB Tryd.underlying22 F G w
  rw [h] at h1
  exact h1
set_option maxRecDepth 5000 in
theorem cells8 {w : World} {g : Nat} {t : TypeId} {F : Nat → BitVec 8} (h : RowAt w g t (rowB 8 F)) : w.cell? ⟨g, 0, none⟩ = some (.int .u8 (F 0).toNat) ∧ w.cell? ⟨g, 1, none⟩ = some (.int .u8 (F 1).toNat) ∧ w.cell? ⟨g, 2, none⟩ = some (.int .u8 (F 2).toNat) ∧ w.cell? ⟨g, 3, none⟩ = some (.int .u8 (F 3).toNat) ∧ w.cell? ⟨g, 4, none⟩ = some (.int .u8 (F 4).toNat) ∧ w.cell? ⟨g, 5, none⟩ = some (.int .u8 (F 5).toNat) ∧ w.cell? ⟨g, 6, none⟩ = some (.int .u8 (F 6).toNat) ∧ w.cell? ⟨g, 7, none⟩ = some (.int .u8 (F 7).toNat) :=
  ⟨h.cell 0, h.cell 1, h.cell 2, h.cell 3, h.cell 4, h.cell 5, h.cell 6, h.cell 7⟩
end Go.Proofs.YtlpidcgnipgkoaaDoor
