/- Commit. -/
import Derived.Test.YtidocfajhhpfdaaDoorJly
namespace Go.Proofs.YtidocfajhhpfdaaDoor
open Go.RowKit
set_option maxRecDepth 5000 in
theorem commit_any (w : World) (D bJ : Nat) (H : J.H) (t : Bool) (hj : RowAt w bJ 69 (jrow D H t)) (l : Value) (Q : Ending → World → Prop) (hl : Calls Tryd.prog 37 #[.pointer (some ⟨bJ, 0, none⟩), l, .agg (hrow H)] w fun e w' => (∃ x, e = .returned (.int .i64 x)) ∧ Q e w') :
    Calls Tryd.prog 21 #[.pointer (some ⟨bJ, 0, none⟩), l] w Q := by
  have x1 : w.cell? ⟨bJ, 1, none⟩ = some (.int .u64 (H.c : Int)) := hj.cell 1
  have x2 : w.cell? ⟨bJ, 2, none⟩ = some (.int .i64 (H.a : Int)) := hj.cell 2
  have x3 : w.cell? ⟨bJ, 3, none⟩ = some (.int .i64 (H.u : Int)) := hj.cell 3
  have x4 : w.cell? ⟨bJ, 4, none⟩ = some (.int .i64 (H.b : Int)) := hj.cell 4
  unfold hrow at hl
  clear hj
  go_enter Tryd.func21, Tryd.ntmps21
  go_wp2_with (go_at_call 37; refine hl.mono ?_; rintro e w1 ⟨⟨x, rfl⟩, hq⟩; have HQ := hide hq; clear hq)
  exact HQ.out
end Go.Proofs.YtidocfajhhpfdaaDoor
