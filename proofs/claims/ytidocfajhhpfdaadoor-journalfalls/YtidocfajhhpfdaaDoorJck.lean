/- slices.Chunk at bytes, as an iterator. -/
import Derived.Test.YtidocfajhhpfdaaDoorJph
import Derived.RangeFuncNested
import Derived.RangeFuncBound
import Derived.RangeFuncCalls
import Derived.RangeFuncLeaves
import Derived.Shelf.Abstract
import Derived.Shelf.RegionOpen
import Derived.WalkKit
import Derived.OwnWalkIn
import Derived.TacticsInMore
import Derived.LoopNIn
import Derived.LoopIn
namespace Go.Proofs.YtidocfajhhpfdaaDoor
open Go.RowKit Go.Shelf
attribute [local go_sem] Oper.semAt_some
set_option maxRecDepth 5000 in
theorem chunk_any (w : World) (ao : Option Addr) (L c Z : Nat) (hZ : 0 < Z) : Calls Tryd.prog 70 #[.slice ao L c, .int .i64 (Z : Int)] w fun e w' =>
    e = .returned (.func (.func 77) #[] #[.pointer (some ⟨w.heap.size, 0, none⟩), .pointer (some ⟨w.heap.size + 1, 0, none⟩)]) ∧ w' = (w.alloc (.cells #[.slice ao L c] 22)).alloc (.cells #[.int .i64 (Z : Int)] 3) := by
  have h1 : ¬ (Z : Int) < 1 := by omega
  have hmf : ∀ (fn : Fn) (first cap : Array Value) (w : World), (Instr.makeFunc fn first cap).run Tryd.prog w = .ok (.func fn first cap) w := fun _ _ _ _ => rfl
  go_enter Tryd.func70, Tryd.ntmps70
  go_wp2
  go_ret
  exact ⟨rfl, rfl⟩
/- what two boxes hold is kept -/
def KpB (b1 b2 : Nat) (W W' : World) : Prop := W'.heap[b1]? = W.heap[b1]? ∧ W'.heap[b2]? = W.heap[b2]?
def chv (g o L Z : Nat) (k : Nat) : Array Value := #[.slice (some ⟨g, o + k * Z, none⟩) (min Z (L - k * Z)) (min Z (L - k * Z))]
set_option maxRecDepth 5000 in
theorem sl_three (g o L C A B : Nat) (hAB : A < B) (hBC : B ≤ C) (w : World) : (Instr.sliceAt 22 (.slice (some ⟨g, o, none⟩) L C) (some (.int .i64 (A : Int))) (some (.int .i64 (B : Int))) (some (.int .i64 (B : Int)))).run Tryd.prog w = .ok (.slice (some ⟨g, o + A, none⟩) (B - A) (B - A)) w := by
  have h1 : (A : Int) ≤ (B : Int) := by omega
  have h2 : (B : Int) ≤ (C : Int) := by omega
  have h3 : ¬ B = A := by omega
  rw [run_sliceAt_slice w 22 _ _ _ _ Tryd.underlying22]
  simp [Instr.slice, run_underlying Tryd.underlying22, Instr.sliceBounds, run_sliceBound, h1, h2, h3, Addr.add]
set_option maxRecDepth 100000 in
set_option maxHeartbeats 2000000 in
theorem chunk1_in (l b1 b2 g o L C Z : Nat) (hZ : 0 < Z) (hZ2 : Z ≤ 4096) (hL : L ≤ 1000000000) (hLC : L ≤ C) (J Jx : List Nat → World → Prop) (hJd : ∀ pre A, J pre A → J pre A.drew)
    (hY : ∀ pre x W, J pre W → pre.length * Z < L → YieldAt Fence.wide 4 Tryd.prog l (chv g o L Z x) W fun e W' =>
      (e = .returned (.bool true) ∧ J (pre ++ [x]) W' ∧ KpB b1 b2 W W') ∨ (e = .returned (.bool false) ∧ Jx (pre ++ [x]) W'))
    (W : World) (hb1 : RowAt W b1 22 #[.slice (some ⟨g, o, none⟩) L C]) (hb2 : RowAt W b2 3 #[.int .i64 (Z : Int)]) (h0 : J [] W) :
    CallsIn Fence.wide 5 Tryd.prog 77 #[.func (.yield l) #[] #[], .pointer (some ⟨b1, 0, none⟩), .pointer (some ⟨b2, 0, none⟩)] W fun e W' => (∃ v, e = .returned v) ∧
      ((∃ k, (k * Z < L + Z ∧ L ≤ k * Z) ∧ J (List.range k) W') ∨ (∃ pre, True ∧ Jx pre W')) := by
  refine callsIn_of_wp Tryd.func77 rfl trivial ?_ rfl
  simp only [Tryd.ntmps77, List.size_toArray, List.length_cons, List.length_nil, Nat.reduceAdd, Nat.reduceSub, Array.replicate_succ, Array.replicate_zero, List.push_toArray, List.append_toArray, List.nil_append, List.cons_append]
  gi_wp2
  gi_loopw [4] (fun i wr => ∃ k : Nat, k * Z < L + Z ∧ i = .int .i64 ((k * Z : Nat) : Int) ∧ J (List.range k) wr ∧ RowAt wr b1 22 #[.slice (some ⟨g, o, none⟩) L C] ∧ RowAt wr b2 3 #[.int .i64 (Z : Int)])
    (fun i _ => L + Z - (intOf i).toNat)
  case atStart => exact ⟨0, by omega, by simp, by simpa using h0, hb1, hb2⟩
  case round =>
    obtain ⟨k, hk, rfl, hJs, hr1, hr2⟩ := hrel
    have x1 : wr.cell? ⟨b1, 0, none⟩ = some (.slice (some ⟨g, o, none⟩) L C) := hr1.cell 0
    have x2 : wr.cell? ⟨b2, 0, none⟩ = some (.int .i64 (Z : Int)) := hr2.cell 0
    obtain ⟨Y, hYe⟩ : ∃ Y, Y = k * Z := ⟨_, rfl⟩
    rw [← hYe] at hk ⊢
    have HYE := hide hYe
    clear hYe
    have hmx : Tryd.prog.follows .mixedOrders = true := by kernel_rfl
    by_cases hlt : Y < L
    · have hlt' : (Y : Int) < (L : Int) := by omega
      have s3 := sl_suf g o L C Y (by omega)
      generalize (if C = Y then o else o + Y) = oY at s3
      generalize C - Y = cY at s3
      obtain ⟨T, hT⟩ : ∃ T, T = L - Y := ⟨_, rfl⟩
      obtain ⟨E, hE⟩ : ∃ E, E = min Z (L - Y) := ⟨_, rfl⟩
      rw [← hT] at s3
      have hE1 : 0 < E ∧ E ≤ Z ∧ Y + E ≤ L := by omega
      have hmin : Hid (min (Z : Int) (T : Int) = (E : Int)) := by show _ = _; omega
      have HE := hide hE
      clear hE hT
      gi_wp2
      gi_region_o
      rw [hmin.out]
      obtain ⟨fn, tmps, assign, body, hy, hR⟩ := hY (List.range k) k wr.drew (hJd _ _ hJs) (by rw [List.length_range, ← HYE.out]; exact hlt)
      unfold chv at hy
      rw [← HYE.out, ← HE.out] at hy
      have hr1' := hr1.drew
      have hr2' := hr2.drew
      generalize wr.drew = wd at hy hR hr1' hr2' ⊢
      clear x1 x2 hr1 hr2 hmin s3
      have x1 : wd.cell? ⟨b1, 0, none⟩ = some (.slice (some ⟨g, o, none⟩) L C) := hr1'.cell 0
      have s4 := sl_three g o L C Y (Y + E) (by omega) (by omega)
      rw [Nat.add_sub_cancel_left] at s4
      have hw1 : IntKind.i64.wrap ((Y : Int) + (E : Int)) = ((Y + E : Nat) : Int) := by rw [IntKind.wrap_i64]; omega
      generalize Y + E = YE at s4 hw1
      have HR := hide hR
      clear hR
      gi_wp2
      refine HR.out.mono ?_
      rintro e W3 (⟨rfl, hJ3, hk3⟩ | ⟨rfl, hJx3⟩)
      · have hr13 : RowAt W3 b1 22 #[.slice (some ⟨g, o, none⟩) L C] := hk3.1.trans hr1'
        have hr23 : RowAt W3 b2 3 #[.int .i64 (Z : Int)] := hk3.2.trans hr2'
        have x3 : W3.cell? ⟨b2, 0, none⟩ = some (.int .i64 (Z : Int)) := hr23.cell 0
        gi_wp2
        go_roundw
        case rel => exact ⟨k + 1, by rw [Nat.succ_mul, ← HYE.out]; omega, by rw [Nat.succ_mul, ← HYE.out]; simp, by rw [List.range_succ]; exact hJ3, hr13, hr23⟩
        case measure => simp [intOf]; omega
      · gi_wp2
        refine bodyPost_ret (results_none rfl _ _ _) rfl ?_
        exact ⟨⟨_, rfl⟩, .inr ⟨_, trivial, hJx3⟩⟩
    · have hlt' : ¬ (Y : Int) < (L : Int) := by omega
      gi_wp2
      go_end0
      exact ⟨⟨_, rfl⟩, .inl ⟨k, ⟨by rw [← HYE.out]; exact hk, by rw [← HYE.out]; omega⟩, hJs⟩⟩
end Go.Proofs.YtidocfajhhpfdaaDoor
