/- Reset. -/
import Derived.Test.YtidocfajhhpfdaaDoorJcm
namespace Go.Proofs.YtidocfajhhpfdaaDoor
open Go.RowKit
set_option maxHeartbeats 4000000 in
set_option maxRecDepth 5000 in
theorem reset_any (w : World) (D bJ : Nat) (H : J.H) (t : Bool) (ha : H.a < 2) (hj : RowAt w bJ 69 (jrow D H t)) (l : Value) (Q : Int → World → Prop)
    (hl : ∀ W, Below w.heap.size w W → Calls Tryd.prog 37 #[.pointer (some ⟨bJ, 0, none⟩), l, .agg (hrow ⟨H.c, 1 - H.a, 0, 0⟩)] W fun e w' => ∃ x, e = .returned (.int .i64 x) ∧ Q x w') :
    Calls Tryd.prog 19 #[.pointer (some ⟨bJ, 0, none⟩), l] w fun e w' => ∃ x, e = .returned (.int .i64 x) ∧ Q x w' := by
  obtain ⟨Hc, Ha, Hu, Hb⟩ := H
  simp only at ha hl
  have x1 : w.cell? ⟨bJ, 1, none⟩ = some (.int .u64 (Hc : Int)) := hj.cell 1
  have x2 : w.cell? ⟨bJ, 2, none⟩ = some (.int .i64 (Ha : Int)) := hj.cell 2
  unfold hrow at hl
  simp only at hl
  have hw : IntKind.i64.wrap ((1 : Int) - (Ha : Int)) = ((1 - Ha : Nat) : Int) := by rw [IntKind.wrap_i64]; omega
  obtain ⟨A, hA⟩ : ∃ A, A = 1 - Ha := ⟨_, rfl⟩
  rw [← hA] at hw hl
  clear hj hA ha
  have b0 : Below w.heap.size w w := Below.refl _ _
  go_enter Tryd.func19, Tryd.ntmps19
  go_wp2
  go_region_with (go_at_call 37; refine (hl _ (by first | exact b0 | exact b0.drew | exact below_drewN b0 _)).mono ?_; rintro e w1 ⟨x, rfl, hq⟩; have HQ := hide hq; clear hq)
  all_goals go_wp2
  all_goals go_ret
  all_goals exact ⟨x, rfl, HQ.out⟩
end Go.Proofs.YtidocfajhhpfdaaDoor
