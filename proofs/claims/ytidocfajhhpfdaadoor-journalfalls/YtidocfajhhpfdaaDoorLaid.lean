/- The listed variable, the table of the sums, as the walks want it; and a start that meets the rows' condition. -/
import Derived.Test.YtidocfajhhpfdaaDoorArgs
import Derived.Test.YtidocfajhhpfdaaDoorJcr
import Derived.Lib.LaidTab
namespace Go.Proofs.YtidocfajhhpfdaaDoor
open Go.ChangeShapes Go.WideShapes Go.ChangeAt Go.WideMaps Go.WideElems Go.RowKit
def laidL : List (String × DataW Unit) := [("signet/journal.crcTable", Rows.laid_signet_journal_crcTable)]
set_option maxRecDepth 5000 in
theorem gTab : Tryd.prog.globalNamed "signet/journal.crcTable" = some 0 := by kernel_rfl
set_option maxRecDepth 5000 in
theorem tTab : (Tryd.prog.globals[0]?).map (·.type) = some 60 := by kernel_rfl
set_option maxRecDepth 5000 in
theorem cellsU32 : Tryd.prog.cellsOf 24 = 1 := by kernel_rfl
set_option maxRecDepth 5000 in
theorem cellsTab : Tryd.prog.cellsOf 60 = 16 := by kernel_rfl
set_option maxRecDepth 5000 in
theorem laid_is : laidL = [("signet/journal.crcTable", Lib.tabData .u32 (J.tab.map fun x => (x.toNat : Int)))] := by kernel_rfl
set_option maxRecDepth 5000 in
theorem tab_of_laid {W : World} (h : laidMetH Tryd.prog laidL W) : Tab W := by
  rw [MakeChecks.laidMetH_plain _ _ _ (by kernel_rfl)] at h
  rw [laid_is] at h
  have hT := Lib.tabIs_of_head gTab tTab Tryd.underlying60 Tryd.underlying24 cellsU32 cellsTab h
  have hc : ∀ i, i < 16 → W.cell? ⟨0, i, none⟩ = some (.int .u32 ((J.tb i).toNat : Int)) := fun i hi => by
    rw [hT.cell gTab i (by simpa [J.tab] using hi)]
    have : (J.tab.map fun x => (x.toNat : Int)).getD i 0 = ((J.tb i).toNat : Int) := by
      unfold J.tb
      rw [List.getD_eq_getElem?_getD, List.getD_eq_getElem?_getD, List.getElem?_map]
      cases h2 : J.tab[i]? with
      | none => rfl
      | some b => rfl
    rw [this]
  exact ⟨block_lt_of_cell (hc 0 (by omega)), hc⟩
set_option maxRecDepth 5000 in
theorem door_met (os : Os) (args : Array Value) : laidMetH Tryd.prog laidL ((World.doorLaid Tryd.prog 14 os).forCall (fun _ _ => 0) ⟨#[], args, []⟩).memory :=
  laidMetH_of_parts3 (fuel := 8) (laidMet_of_run' 8 (by kernel_rfl) (by kernel_rfl)) (by kernel_rfl) (by kernel_rfl)
end Go.Proofs.YtidocfajhhpfdaaDoor
