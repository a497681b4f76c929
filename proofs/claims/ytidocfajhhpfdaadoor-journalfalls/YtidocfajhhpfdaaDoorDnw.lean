/- make of bytes and of lists of bytes; New. -/
import Derived.Test.YtidocfajhhpfdaaDoorDop
import Derived.Laws.MakeOwn
namespace Go.Proofs.YtidocfajhhpfdaaDoor
open Go.RowKit
set_option maxRecDepth 5000 in
theorem infoBs : (Tryd.prog.info? 22).map (fun i => (i.zero, i.size, i.bytes)) = some (some (.slice none 0 0), 1, 24) := by kernel_rfl
set_option maxRecDepth 5000 in
theorem make_zeros (n : Nat) (hn : n ≤ 1000000) (W : World) : (Instr.makeSlice 22 (.int .i64 (n : Int)) (.int .i64 (n : Int))).run Tryd.prog W = .ok (.slice (some ⟨W.heap.size, 0, none⟩) n n) (W.alloc (.cells (vb (List.replicate n 0)).toArray 5)) := by
  obtain ⟨i0, hi, hz0, hz1, hz2⟩ := info_parts infoB
  rw [run_make (P := Tryd.prog) W 22 5 i0 (.int .u8 0) Tryd.underlying22 hi hz0 .i64 .i64 n n (by omega) (Int.le_refl _) (by rw [hz2]; omega) (by omega)]
  rw [Int.toNat_natCast, hz1, Nat.mul_one]
  have e : (Value.int .u8 0).cells = #[.int .u8 0] := rfl
  have e2 : madeCells #[.int .u8 0] n = (vb (List.replicate n 0)).toArray := by
    apply Array.toList_inj.1
    rw [toList_madeCells_one]
    simp [vb]
  rw [e, e2]
set_option maxRecDepth 5000 in
theorem make_nils (n : Nat) (hn : n ≤ 1000000) (W : World) : (Instr.makeSlice 32 (.int .i64 (n : Int)) (.int .i64 (n : Int))).run Tryd.prog W = .ok (.slice (some ⟨W.heap.size, 0, none⟩) n n) (W.alloc (.cells ((List.range n).map fun _ => Value.slice none 0 0).toArray 22)) := by
  obtain ⟨i0, hi, hz0, hz1, hz2⟩ := info_parts infoBs
  rw [run_make (P := Tryd.prog) W 32 22 i0 (.slice none 0 0) Tryd.underlying32 hi hz0 .i64 .i64 n n (by omega) (Int.le_refl _) (by rw [hz2]; omega) (by omega)]
  rw [Int.toNat_natCast, hz1, Nat.mul_one]
  have e : (Value.slice none 0 0).cells = #[.slice none 0 0] := rfl
  have e2 : madeCells #[.slice none 0 0] n = ((List.range n).map fun _ => Value.slice none 0 0).toArray := by
    apply Array.toList_inj.1
    rw [toList_madeCells_one]
    simp [List.map_const']
  rw [e, e2]
set_option maxRecDepth 5000 in
theorem new_at (A : Nat → Prop) (w : World) (hA : ∀ g, A g → g < w.heap.size) (n sz : Int) (N Z : Nat) (hN1 : 1 ≤ N) (hN2 : N ≤ 4096) (hZ1 : 64 ≤ Z) (hZ2 : Z ≤ 4096) (hn : min (max n 1) 4096 = (N : Int)) (hz : min (max sz 64) 4096 = (Z : Int)) :
    Calls Tryd.prog 13 #[.int .i64 n, .int .i64 sz] w fun e w' => e = .returned (.pointer (some ⟨w.heap.size + 2, 0, none⟩)) ∧ DiskAt A w' (w.heap.size + 2) w.heap.size (w.heap.size + 1) (K.St.new N Z) ∧ Below w.heap.size w w' ∧ w'.heap.size = w.heap.size + 3 := by
  have hm := make_nils N (by omega)
  generalize hg : (Obj.cells ((List.range N).map fun _ => Value.slice none 0 0).toArray 22) = ob at hm
  have G := hide hg
  clear hg
  have hmm : ∀ W : World, (Instr.makeMap 61 none).run Tryd.prog W = .ok (.map (some W.heap.size)) (W.alloc (.map #[] 0)) := fun W => run_makeMap _ W
  go_enter Tryd.func13, Tryd.ntmps13
  go_wp2
  go_ret
  refine ⟨rfl, ⟨fun _ => .slice none 0 0, fun _ => none, ?_⟩, ?_, by simp⟩
  · refine ⟨?_, ?_, ?_, fun _ _ => rfl, fun _ => rfl, fun _ _ _ h => (by cases h), fun _ h => (by cases h), hZ1, hZ2, hN1, hN2, by show (0 : Nat) ≤ _; omega, fun g hg => by have := hA g hg; simp; omega⟩
    · have := RowAt.new ((w.alloc ob).alloc (.map #[] 0)) 63 (dkRow Z w.heap.size N (w.heap.size + 1) false false 0)
      rw [show ((w.alloc ob).alloc (.map #[] 0)).heap.size = w.heap.size + 2 by simp] at this
      exact this
    · have h0 : RowAt (w.alloc ob) w.heap.size 22 ((List.range N).map fun _ => Value.slice none 0 0).toArray := by rw [← G.out]; exact RowAt.new w _ _
      exact (h0.alloc _).alloc _
    · have h0 : MapAt ((w.alloc ob).alloc (.map #[] 0)) (w.heap.size + 1) (fun _ => none) N := by
        have := MapAt.made (w.alloc ob) N
        simpa using this
      exact h0.heap (Below.heap_alloc _ _ _ (by simp))
  · exact (((Below.refl _ w).alloc (Nat.le_refl _) _).alloc (by simp) _).alloc (by simp; omega) _
end Go.Proofs.YtidocfajhhpfdaaDoor
