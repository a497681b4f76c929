/- Open. -/
import Derived.Test.YtidocfajhhpfdaaDoorJo1
namespace Go.Proofs.YtidocfajhhpfdaaDoor
open Go.RowKit
set_option maxHeartbeats 4000000 in
set_option maxRecDepth 5000 in
theorem opn_ok (w : World) (ht : Tab w) (D S M : Nat) (s s1 : K.St) (H : J.H) (hH : HOk H) (fs : List (Nat × List UInt8)) (hd : DiskAt FF w D S M s) (hs8 : 8 ≤ s.n) (hpos : 0 < D ∧ 0 < S ∧ 0 < M)
    (hnew : ∀ W, Tab W → DiskAt FF W D S M s → Calls Tryd.prog 31 #[.agg #[.pointer (some ⟨D, 0, none⟩)]] W fun e w' => e = .returned (.agg (hrow H)) ∧ DiskAt FF w' D S M s1 ∧ Mv D S M W w')
    (hp : Pw s1) (hn : 8 ≤ s1.n) (hHu : H.u ≤ J.arb s1) (henc : (J.cat s1 (2 + H.a * J.ars s1) (J.ars s1)).take H.u = J.enc fs) (hul : (J.enc fs).length = H.u) (hri : J.Ri 0 fs H.b) :
    Calls Tryd.prog 14 #[.pointer (some ⟨D, 0, none⟩)] w fun e w' => ∃ v M', e = .returned (.tuple #[.pointer (some ⟨w.heap.size, 0, none⟩), v, .int .i64 0]) ∧ RowAt w' w.heap.size 69 (jrow D H false) ∧ DiskAt FF w' D S M' s1.synced ∧ Mv D S M w w' ∧ w.heap.size ≤ M' ∧ OwnBs w' w.heap.size v (J.dec fs H.b) := by
  obtain ⟨hD, hS, hM⟩ := hd.lts
  have hse := sectors_any w D S M s hd
  have he : ∀ W : World, (binOp .eql 29 (.pointer (some ⟨D, 0, none⟩)) (.pointer none)).run Tryd.prog W = .ok (.bool false) W := fun _ => rfl
  have h8 : ¬ (s.n : Int) < 8 := by omega
  have hmf : ∀ (fn : Fn) (first cap : Array Value) (w : World), (Instr.makeFunc fn first cap).run Tryd.prog w = .ok (.func fn first cap) w := fun _ _ _ _ => rfl
  go_enter Tryd.func14, Tryd.ntmps14
  go_wp2_with (go_at_call 28; refine hse.mono ?_; rintro e w' ⟨rfl, hw⟩; rw [hw]; clear hw w')
  have A1 : Hid (RowAt (((w.alloc (.cells #[.pointer (some ⟨D, 0, none⟩), .int .u64 0, .int .i64 0, .int .i64 0, .int .i64 0, .bool false] 69)).alloc (.cells #[.pointer (some ⟨w.heap.size, 0, none⟩)] 31)).alloc (.cells #[.slice none 0 0] 32)) w.heap.size 69 (jrow D ⟨0, 0, 0, 0⟩ false) ∧ RowAt (((w.alloc (.cells #[.pointer (some ⟨D, 0, none⟩), .int .u64 0, .int .i64 0, .int .i64 0, .int .i64 0, .bool false] 69)).alloc (.cells #[.pointer (some ⟨w.heap.size, 0, none⟩)] 31)).alloc (.cells #[.slice none 0 0] 32)) (w.heap.size + 1) 31 #[.pointer (some ⟨w.heap.size, 0, none⟩)] ∧ RowAt (((w.alloc (.cells #[.pointer (some ⟨D, 0, none⟩), .int .u64 0, .int .i64 0, .int .i64 0, .int .i64 0, .bool false] 69)).alloc (.cells #[.pointer (some ⟨w.heap.size, 0, none⟩)] 31)).alloc (.cells #[.slice none 0 0] 32)) (w.heap.size + 2) 32 #[.slice none 0 0] ∧ Below w.heap.size w (((w.alloc (.cells #[.pointer (some ⟨D, 0, none⟩), .int .u64 0, .int .i64 0, .int .i64 0, .int .i64 0, .bool false] 69)).alloc (.cells #[.pointer (some ⟨w.heap.size, 0, none⟩)] 31)).alloc (.cells #[.slice none 0 0] 32)) ∧ (((w.alloc (.cells #[.pointer (some ⟨D, 0, none⟩), .int .u64 0, .int .i64 0, .int .i64 0, .int .i64 0, .bool false] 69)).alloc (.cells #[.pointer (some ⟨w.heap.size, 0, none⟩)] 31)).alloc (.cells #[.slice none 0 0] 32)).heap.size = w.heap.size + 3) := by
    refine ⟨((RowAt.new w _ _).alloc _).alloc _, ?_, ?_, (((Below.refl _ w).alloc (Nat.le_refl _) _).alloc (by simp) _).alloc (by simp; omega) _, by simp⟩
    · have := (RowAt.new (w.alloc (.cells #[.pointer (some ⟨D, 0, none⟩), .int .u64 0, .int .i64 0, .int .i64 0, .int .i64 0, .bool false] 69)) 31 #[.pointer (some ⟨w.heap.size, 0, none⟩)]).alloc (.cells #[.slice none 0 0] 32)
      rwa [World.size_alloc] at this
    · have := RowAt.new ((w.alloc (.cells #[.pointer (some ⟨D, 0, none⟩), .int .u64 0, .int .i64 0, .int .i64 0, .int .i64 0, .bool false] 69)).alloc (.cells #[.pointer (some ⟨w.heap.size, 0, none⟩)] 31)) 32 #[.slice none 0 0]
      rwa [World.size_alloc, World.size_alloc] at this
  generalize (((w.alloc (.cells #[.pointer (some ⟨D, 0, none⟩), .int .u64 0, .int .i64 0, .int .i64 0, .int .i64 0, .bool false] 69)).alloc (.cells #[.pointer (some ⟨w.heap.size, 0, none⟩)] 31)).alloc (.cells #[.slice none 0 0] 32)) = w3 at A1 ⊢
  rw [show w.heap.size + 1 + 1 = w.heap.size + 2 from rfl]
  have hb4 : Below w.heap.size w (w3.alloc (.cells #[.int .i64 0] 33)) := A1.out.2.2.2.1.alloc A1.out.2.2.2.1.size _
  have ho1 := opn1_ok w (w3.alloc (.cells #[.int .i64 0] 33)) (ht.below hb4 ht.1) D S M (w.heap.size + 1) w.heap.size (w.heap.size + 2) w3.heap.size s s1 H hH fs (Mv.of_below hb4) hD hS hM (by omega) (Nat.le_refl _) (by omega) (by rw [A1.out.2.2.2.2]; omega) ⟨A1.out.2.1.alloc _, A1.out.1.alloc _, A1.out.2.2.1.alloc _, RowAt.new w3 _ _⟩ (hd.below hb4 (Nat.le_refl _)) ⟨ht.1, hpos⟩ hnew hp hn hHu henc hul hri
  have hat := attempt_ok w3 30 #[.pointer (some ⟨w.heap.size + 1, 0, none⟩), .pointer (some ⟨w.heap.size + 2, 0, none⟩)] (enters_of Tryd.func30 (by kernel_rfl) rfl) (fun w' => ∃ v M', OpW D (w.heap.size + 1) w.heap.size (w.heap.size + 2) w3.heap.size H v w' ∧ DiskAt FF w' D S M' s1.synced ∧ Mv D S M w w' ∧ w.heap.size ≤ M' ∧ OwnBs w' w.heap.size v (J.dec fs H.b)) ho1 (fun w' ⟨v, M', h, _⟩ => h.ce)
  refine hat.mono ?_
  rintro e w5 ⟨rfl, w4, ⟨v, M', O4, D4, M4, z4, B4⟩, hw5⟩
  have hn1 := (O4.ce.ne O4.cj (by decide)).symm
  have hn2 := (O4.ce.ne O4.jr (by decide)).symm
  have hn3 := (O4.ce.ne O4.cl (by decide)).symm
  have b5 : Below w3.heap.size w4 w5 := by rw [hw5]; exact (Below.refl w3.heap.size w4).setCell (p := ⟨w3.heap.size, 0, none⟩) (Nat.le_refl _) _
  have k5 : Rows w4 w5 := fun g' c' hg' => by rw [hw5]; exact hg'.other _ _ (O4.ce.ne hg' (by decide)).symm
  have x1 : w5.cell? ⟨w.heap.size + 1, 0, none⟩ = some (.pointer (some ⟨w.heap.size, 0, none⟩)) := by rw [hw5]; exact (O4.cj.other _ _ hn1).cell 0
  have x2 : w5.cell? ⟨w.heap.size + 2, 0, none⟩ = some v := by rw [hw5]; exact (O4.cl.other _ _ hn3).cell 0
  have JR := hide (show RowAt w5 w.heap.size 69 (jrow D H false) by rw [hw5]; exact O4.jr.other _ _ hn2)
  have DD : Hid (DiskAt FF w5 D S M' s1.synced) := by
    obtain ⟨sv, uv, hk⟩ := D4
    have hM' : M' ≠ w3.heap.size := fun e => hk.un.row_ne O4.ce e.symm
    refine ⟨sv, uv, hk.keepA b5.size (b5.block _ (by rw [A1.out.2.2.2.2]; omega)) (b5.block _ (by rw [A1.out.2.2.2.2]; omega)) ?_ k5.any⟩
    rw [hw5]; exact heap_setCell_other _ _ _ _ hM'
  have MM := hide (M4.belowB b5 A1.out.2.2.2.1.size)
  have BB : Hid (OwnBs w5 w.heap.size v (J.dec fs H.b)) := B4.kept (by rw [hw5]; simp) (fun g o ho hb => by
    rw [hw5]
    refine heap_setCell_other _ _ _ _ (fun e => ?_)
    have h9 := O4.ce
    unfold RowAt at h9
    rw [show g = w3.heap.size from e, h9] at ho
    injection ho with ho
    rcases hb with ⟨c, fr, hb⟩ | ⟨_, c, fr, hb⟩
    · rw [hb] at ho; injection ho with _ ho _; exact absurd ho (by decide)
    · rw [hb] at ho; injection ho with _ ho _; exact absurd ho (by decide))
  obtain ⟨av, nv, hv⟩ := B4.slice
  rw [hv] at x2 BB
  have Z4 := hide z4
  clear O4 D4 M4 B4 z4 b5 k5 hw5 hn1 hn2 hn3 hat ho1 hnew hv
  go_wp2
  go_region_held3 (fun w' => w'.cell? ⟨w.heap.size + 1, 0, none⟩ = some (.pointer (some ⟨w.heap.size, 0, none⟩)) ∧ w'.cell? ⟨w.heap.size + 2, 0, none⟩ = some (.slice av (J.dec fs H.b).length nv)) (first | exact ⟨x1, x2⟩ | fail) (first | fail)
  all_goals go_wp2
  all_goals go_ret3
  all_goals exact ⟨_, M', rfl, JR.out.drew, (by obtain ⟨sv, uv, hk⟩ := DD.out; exact ⟨sv, uv, hk.drew⟩), MM.out.drew, Z4.out, BB.out.kept (Nat.le_refl _) (fun _ _ _ _ => rfl)⟩
set_option maxRecDepth 5000 in
theorem opn_small (w : World) (D S M : Nat) (s : K.St) (hd : DiskAt FF w D S M s) (hs8 : s.n < 8) :
    Calls Tryd.prog 14 #[.pointer (some ⟨D, 0, none⟩)] w fun e w' => e = .returned (.tuple #[.pointer none, .slice none 0 0, .int .i64 91]) ∧ w' = w := by
  have hse := sectors_any w D S M s hd
  have he : ∀ W : World, (binOp .eql 29 (.pointer (some ⟨D, 0, none⟩)) (.pointer none)).run Tryd.prog W = .ok (.bool false) W := fun _ => rfl
  have h8 : (s.n : Int) < 8 := by omega
  go_enter Tryd.func14, Tryd.ntmps14
  go_wp2_with (go_at_call 28; refine hse.mono ?_; rintro e w' ⟨rfl, hw⟩; rw [hw]; clear hw w')
  go_ret3
  exact ⟨rfl, rfl⟩
end Go.Proofs.YtidocfajhhpfdaaDoor
