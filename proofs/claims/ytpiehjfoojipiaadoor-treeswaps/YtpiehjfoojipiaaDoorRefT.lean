/- signetref1.table hands back the rounds' words, in memory of its own. -/
import Derived.Test.YtpiehjfoojipiaaDoorPad
namespace Go.Proofs.YtpiehjfoojipiaaDoor
open Go.RowKit
set_option maxRecDepth 3000 in
set_option maxHeartbeats 400000 in
theorem table_any (w : World) : Calls Tryd.prog 52 #[] w fun e w' => e = .returned (.agg (rowW 64 Sha.kt)) ∧ Below w.heap.size w w' := by
  go_enter Tryd.func52, Tryd.ntmps52
  go_wp2_with (refine wpList_store_rowAt rfl 81 (.tmp 0) (.tmp 1) rfl w.heap.size (rowW 64 Sha.kt) rfl (by kernel_rfl) 81 _ (RowAt.new w 81 _) (by rw [rowW_size]; exact info44) (by rw [rowW_size]; rfl) (rowW_one _ _) ?_)
  exact bodyPost_ret (v := .agg (rowW 64 Sha.kt)) (results_rowAt Tryd.results52 _ _ w.heap.size 81 _ _ rfl (setRow_same (RowAt.new w 81 _) _) Tryd.underlying81 rfl (by rw [rowW_size]; exact info44)) rfl ⟨rfl, below_setRow ((Below.refl _ _).alloc (Nat.le_refl _) _) (Nat.le_refl _) _⟩
end Go.Proofs.YtpiehjfoojipiaaDoor
