/- The listed variable, the words of the rounds, as the walks want it; and a start that meets the rows' condition. -/
import Derived.Test.YtgmjppmcfmcmkaaDoorInv2
import Derived.ProofKit
import Derived.LaidMore
import Derived.OpenShut
import Derived.Stop.Joined
import Derived.Lib.LaidTab
namespace Go.Proofs.YtgmjppmcfmcmkaaDoor
namespace H
open Go.ChangeShapes Go.WideShapes Go.ChangeAt Go.WideMaps Go.WideElems Go.RowKit
def laidL : List (String × DataW Unit) := [("signet/hash.roundWords", Rows.laid_signet_hash_roundWords)]
set_option maxRecDepth 5000 in
theorem ownK : ownKnob Tryd.prog.godebug = none := by kernel_rfl
set_option maxRecDepth 5000 in
theorem gTab : Tryd.prog.globalNamed "signet/hash.roundWords" = some 0 := by kernel_rfl
set_option maxRecDepth 5000 in
theorem tTab : (Tryd.prog.globals[0]?).map (·.type) = some 61 := by kernel_rfl
set_option maxRecDepth 5000 in
theorem cells36 : Tryd.prog.cellsOf 41 = 1 := by kernel_rfl
set_option maxRecDepth 5000 in
theorem cells44 : Tryd.prog.cellsOf 61 = 64 := by kernel_rfl
set_option maxRecDepth 5000 in
theorem laid_is : laidL = [("signet/hash.roundWords", Lib.tabData .u32 (Sha.ktab.map fun x => (x.toNat : Int)))] := by kernel_rfl
set_option maxRecDepth 5000 in
theorem tab_of_laid {W : World} (h : laidMetH Tryd.prog laidL W) : Tab W := by
  rw [MakeChecks.laidMetH_plain _ _ _ (by kernel_rfl)] at h
  rw [laid_is] at h
  have hT := Lib.tabIs_of_head gTab tTab Tryd.underlying61 Tryd.underlying41 cells36 cells44 h
  have hc : ∀ i, i < 64 → W.cell? ⟨0, i, none⟩ = some (.int .u32 (Sha.kt i).toNat) := fun i hi => by
    rw [hT.cell gTab i (by simpa [Sha.ktab] using hi)]
    have : (Sha.ktab.map fun x => (x.toNat : Int)).getD i 0 = ((Sha.kt i).toNat : Int) := by
      unfold Sha.kt
      rw [List.getD_eq_getElem?_getD, List.getD_eq_getElem?_getD, List.getElem?_map]
      cases h2 : Sha.ktab[i]? with
      | none => rfl
      | some b => rfl
    rw [this]
  exact ⟨block_lt_of_cell (hc 0 (by omega)), hc⟩
set_option maxRecDepth 5000 in
theorem door_met (os : Os) (args : Array Value) : laidMetH Tryd.prog laidL ((World.doorLaid Tryd.prog 14 os).forCall (fun _ _ => 0) ⟨#[], args, []⟩).memory :=
  laidMetH_of_parts3 (fuel := 8) (laidMet_of_run' 8 (by kernel_rfl) (by kernel_rfl)) (by kernel_rfl) (by kernel_rfl)
end H
end Go.Proofs.YtgmjppmcfmcmkaaDoor
