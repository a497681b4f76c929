/- Commit. -/
import Derived.Test.YtidocfajhhpfdaaDoorJly
namespace Go.Proofs.YtidocfajhhpfdaaDoor
open Go.RowKit
set_option maxRecDepth 5000 in
theorem commit_any (w : World) (D bJ : Nat) (H : J.H) (t : Bool) (hj : RowAt w bJ 69 (jrow D H t)) (l : Value) (Q : Ending → World → Prop) (hl : Calls Tryd.prog 37 #[.pointer (some ⟨bJ, 0, none⟩), l, .agg (hrow H)] w fun e w' => (∃ x, e = .returned (.int .i64 x)) ∧ Q e w') :
    Calls Tryd.prog 21 #[.pointer (some ⟨bJ, 0, none⟩), l] w Q := by
  have x1 : w.cell? ⟨bJ, 1, none⟩ = some (.int .u64 (H.c : Int)) := hj.cell 1
  have x2 : w.cell? ⟨bJ, 2, none⟩ = some (.int .i64 (H.a : Int)) := hj.cell 2
  have x3 : w.cell? ⟨bJ, 3, none⟩ = some (.int .i64 (H.u : Int)) := hj.cell 3
  have x4 : w.cell? ⟨bJ, 4, none⟩ = some (.int .i64 (H.b : Int)) := hj.cell 4
  unfold hrow at hl
  clear hj
  go_enter Tryd.func21, Tryd.ntmps21
  go_wp2_with (go_at_call 37; refine hl.mono ?_; rintro e w1 ⟨⟨x, rfl⟩, hq⟩; have HQ := hide hq; clear hq)
  exact HQ.out
end Go.Proofs.YtidocfajhhpfdaaDoor

/- Reset. -/
namespace Go.Proofs.YtidocfajhhpfdaaDoor
open Go.RowKit
set_option maxHeartbeats 4000000 in
set_option maxRecDepth 5000 in
theorem reset_any (w : World) (D bJ : Nat) (H : J.H) (t : Bool) (ha : H.a < 2) (hj : RowAt w bJ 69 (jrow D H t)) (l : Value) (Q : Int → World → Prop)
    (hl : ∀ W, Below w.heap.size w W → Calls Tryd.prog 37 #[.pointer (some ⟨bJ, 0, none⟩), l, .agg (hrow ⟨H.c, 1 - H.a, 0, 0⟩)] W fun e w' => ∃ x, e = .returned (.int .i64 x) ∧ Q x w') :
    Calls Tryd.prog 19 #[.pointer (some ⟨bJ, 0, none⟩), l] w fun e w' => ∃ x, e = .returned (.int .i64 x) ∧ Q x w' := by
  obtain ⟨Hc, Ha, Hu, Hb⟩ := H
  simp only at ha hl
  have x1 : w.cell? ⟨bJ, 1, none⟩ = some (.int .u64 (Hc : Int)) := hj.cell 1
  have x2 : w.cell? ⟨bJ, 2, none⟩ = some (.int .i64 (Ha : Int)) := hj.cell 2
  unfold hrow at hl
  simp only at hl
  have hw : IntKind.i64.wrap ((1 : Int) - (Ha : Int)) = ((1 - Ha : Nat) : Int) := by rw [IntKind.wrap_i64]; omega
  obtain ⟨A, hA⟩ : ∃ A, A = 1 - Ha := ⟨_, rfl⟩
  rw [← hA] at hw hl
  clear hj hA ha
  have b0 : Below w.heap.size w w := Below.refl _ _
  go_enter Tryd.func19, Tryd.ntmps19
  go_wp2
  go_region_with (go_at_call 37; refine (hl _ (by first | exact b0 | exact b0.drew | exact below_drewN b0 _)).mono ?_; rintro e w1 ⟨x, rfl, hq⟩; have HQ := hide hq; clear hq)
  all_goals go_wp2
  all_goals go_ret
  all_goals exact ⟨x, rfl, HQ.out⟩
end Go.Proofs.YtidocfajhhpfdaaDoor

/- Room. -/
namespace Go.Proofs.YtidocfajhhpfdaaDoor
open Go.RowKit
def J.room (s : K.St) (H : J.H) : Nat := min (J.arb s - H.u - 12) ((1048576 - H.b) * 16)
set_option maxHeartbeats 4000000 in
set_option maxRecDepth 5000 in
theorem room_any (w : World) (D S M bJ : Nat) (s : K.St) (H : J.H) (t : Bool) (hd : DiskAt FF w D S M s) (hn : 8 ≤ s.n) (hu : H.u ≤ J.arb s) (hb : H.b ≤ 1048576) (hj : RowAt w bJ 69 (jrow D H t)) :
    Calls Tryd.prog 15 #[.pointer (some ⟨bJ, 0, none⟩)] w fun e w' => e = .returned (.int .i64 (J.room s H : Int)) ∧ Below w.heap.size w w' := by
  obtain ⟨hb1, hb2, hb3, hb4⟩ := hd.bds
  have harb : J.arb s ≤ 16777216 := by
    have : J.arb s ≤ 4096 * 4096 := Nat.mul_le_mul (by unfold J.ars; omega) hb2
    omega
  have hab : ∀ W, Below w.heap.size w W → Calls Tryd.prog 35 #[.agg #[.pointer (some ⟨D, 0, none⟩)]] W fun e w' => e = .returned (.int .i64 (J.arb s : Int)) ∧ Below W.heap.size W w' := fun W hW => areaBytes_any W D S M s (hd.below hW (Nat.le_refl _)) hn
  have hR : Hid ((J.room s H : Int) = max 0 (min ((J.arb s : Int) - (H.u : Int) - 12) ((1048576 - (H.b : Int)) * 16))) := by show _ = _; unfold J.room; omega
  generalize J.room s H = R at hR ⊢
  generalize J.arb s = X at *
  obtain ⟨Hc, Ha, Hu, Hb⟩ := H
  simp only at hu hb hR
  have x0 : w.cell? ⟨bJ, 0, none⟩ = some (.pointer (some ⟨D, 0, none⟩)) := hj.cell 0
  have x3 : w.cell? ⟨bJ, 3, none⟩ = some (.int .i64 (Hu : Int)) := hj.cell 3
  have x4 : w.cell? ⟨bJ, 4, none⟩ = some (.int .i64 (Hb : Int)) := hj.cell 4
  have HJ := hide hj
  clear hj hd
  have b0 : Below w.heap.size w w := Below.refl _ _
  have hw1 : IntKind.i64.wrap ((1048576 : Int) - (Hb : Int)) = (1048576 : Int) - (Hb : Int) := by rw [IntKind.wrap_i64]; omega
  go_enter Tryd.func15, Tryd.ntmps15
  go_wp2
  go_region_held3 (fun w' => w'.cell? ⟨bJ, 0, none⟩ = some (.pointer (some ⟨D, 0, none⟩)) ∧ w'.cell? ⟨bJ, 3, none⟩ = some (.int .i64 (Hu : Int))) (first | exact ⟨x0, x3⟩ | exact cc1.out | fail) (first
    | (go_at_call 35; refine (hab _ (by first | exact b0 | exact b0.drew | exact below_drewN b0 _)).mono ?_; rintro e w1 ⟨rfl, b1⟩; have b1a := below_rx (w := w) b1 rfl rfl rfl rfl; have J1 := HJ.out.below b1a HJ.out.lt; have cc1 := hide (And.intro (J1.cell 0) (J1.cell 3)); have B1 := hide b1a; clear b1 b1a J1))
  have hw2 : IntKind.i64.wrap ((X : Int) - (Hu : Int)) = (X : Int) - (Hu : Int) := by rw [IntKind.wrap_i64]; omega
  have hw3 : IntKind.i64.wrap ((X : Int) - (Hu : Int) - 12) = (X : Int) - (Hu : Int) - 12 := by rw [IntKind.wrap_i64]; omega
  have hw4 : IntKind.i64.wrap (((1048576 : Int) - (Hb : Int)) * 16) = ((1048576 : Int) - (Hb : Int)) * 16 := by rw [IntKind.wrap_i64]; omega
  go_wp2
  go_ret
  exact ⟨by rw [hR.out]; rfl, B1.out⟩
end Go.Proofs.YtidocfajhhpfdaaDoor
