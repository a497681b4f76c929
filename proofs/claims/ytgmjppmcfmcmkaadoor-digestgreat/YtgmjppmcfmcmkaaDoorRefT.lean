/- signetref1.table hands back the rounds' words, in memory of its own. -/
import Derived.Test.YtgmjppmcfmcmkaaDoorPad
namespace Go.Proofs.YtgmjppmcfmcmkaaDoor
namespace H
open Go.RowKit
set_option maxRecDepth 3000 in
set_option maxHeartbeats 400000 in
theorem table_any (w : World) : Calls Tryd.prog 38 #[] w fun e w' => e = .returned (.agg (rowW 64 Sha.kt)) ∧ Below w.heap.size w w' := by
  go_enter Tryd.func38, Tryd.ntmps38
  go_wp2_with (refine wpList_store_rowAt rfl 61 (.tmp 0) (.tmp 1) rfl w.heap.size (rowW 64 Sha.kt) rfl (by kernel_rfl) 61 _ (RowAt.new w 61 _) (by rw [rowW_size]; exact info44) (by rw [rowW_size]; rfl) (rowW_one _ _) ?_)
  exact bodyPost_ret (v := .agg (rowW 64 Sha.kt)) (results_rowAt Tryd.results38 _ _ w.heap.size 61 _ _ rfl (setRow_same (RowAt.new w 61 _) _) Tryd.underlying61 rfl (by rw [rowW_size]; exact info44)) rfl ⟨rfl, below_setRow ((Below.refl _ _).alloc (Nat.le_refl _) _) (Nat.le_refl _) _⟩
end H
end Go.Proofs.YtgmjppmcfmcmkaaDoor
