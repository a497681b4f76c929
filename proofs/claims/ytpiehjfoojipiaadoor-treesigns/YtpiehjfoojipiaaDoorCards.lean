/-
  DERIVED. GIVEN WITH THE SEED: THE CARDS: each row of YtpiehjfoojipiaaDoorRows.lean that lists a variable, with what it lists TIED to the program's text (the seventh form; the later family's looks); each row that meets fmt, with fmt's text TOLD by the authors' own Lean function (tested against real Go, not proved from fmt's source: count such statements apart). THE CARD IS WHAT COUNTS. Prove the row's statement (the work); the ties are given (YtpiehjfoojipiaaDoorTie.lean); close each card by the builder's one call (the guide's Derived/Test/ToyasCard.lean, 'card_holds'). Laid BY PROGRAM, IN A SANDBOX (cutbox-door.mjs). By AI agents, Wed Nov 11 2026. No macro, syntax, notation, axiom, sorry.
-/
import Derived.Test.YtpiehjfoojipiaaDoorRows
import GoSem.ClaimSeven
namespace Go.Proofs.YtpiehjfoojipiaaDoor
namespace Rows

/-- THE TIED CARD OF 'signetlaw8.TreeRoots'. -/
def treeRootsCard : Claim7 := { stood := { row := treeRootsRow, standIns := [], harness := (true, "b9272fe4adaf4ab0a792f4621c6be8fdbbd857e661ebe25caddcc5dfa19f0910"), looks := false }, kinds := [], alts := [], laidByText := true, laidKinds := [.data], laidTests := true, laidLooks := .later }
def TreeRootsCardSaid : Prop := Claim7.holds Tryd.pinned (.plain (OpenSpec.ofChange treeRootsSpec)) treeRootsCard

/-- THE TIED CARD OF 'signetlaw8.TreeSigns'. -/
def treeSignsCard : Claim7 := { stood := { row := treeSignsRow, standIns := [], harness := (true, "b9272fe4adaf4ab0a792f4621c6be8fdbbd857e661ebe25caddcc5dfa19f0910"), looks := false }, kinds := [], alts := [], laidByText := true, laidKinds := [.data], laidTests := true, laidLooks := .later }
def TreeSignsCardSaid : Prop := Claim7.holds Tryd.pinned (.plain (OpenSpec.ofChange treeSignsSpec)) treeSignsCard

/-- THE TIED CARD OF 'signetlaw8.TreeVerifies'. -/
def treeVerifiesCard : Claim7 := { stood := { row := treeVerifiesRow, standIns := [], harness := (true, "b9272fe4adaf4ab0a792f4621c6be8fdbbd857e661ebe25caddcc5dfa19f0910"), looks := false }, kinds := [], alts := [], laidByText := true, laidKinds := [.data], laidTests := true, laidLooks := .later }
def TreeVerifiesCardSaid : Prop := Claim7.holds Tryd.pinned (.plain (OpenSpec.ofChange treeVerifiesSpec)) treeVerifiesCard

/-- THE TIED CARD OF 'signetlaw8.TreeHeights'. -/
def treeHeightsCard : Claim7 := { stood := { row := treeHeightsRow, standIns := [], harness := (true, "b9272fe4adaf4ab0a792f4621c6be8fdbbd857e661ebe25caddcc5dfa19f0910"), looks := false }, kinds := [], alts := [], laidByText := true, laidKinds := [.data], laidTests := true, laidLooks := .later }
def TreeHeightsCardSaid : Prop := Claim7.holds Tryd.pinned (.plain (OpenSpec.ofChange treeHeightsSpec)) treeHeightsCard

/-- THE TIED CARD OF 'signetlaw8.TreePaths'. -/
def treePathsCard : Claim7 := { stood := { row := treePathsRow, standIns := [], harness := (true, "b9272fe4adaf4ab0a792f4621c6be8fdbbd857e661ebe25caddcc5dfa19f0910"), looks := false }, kinds := [], alts := [], laidByText := true, laidKinds := [.data], laidTests := true, laidLooks := .later }
def TreePathsCardSaid : Prop := Claim7.holds Tryd.pinned (.plain (OpenSpec.ofChange treePathsSpec)) treePathsCard

/-- THE TIED CARD OF 'signetlaw8.TreeSwaps'. -/
def treeSwapsCard : Claim7 := { stood := { row := treeSwapsRow, standIns := [], harness := (true, "b9272fe4adaf4ab0a792f4621c6be8fdbbd857e661ebe25caddcc5dfa19f0910"), looks := false }, kinds := [], alts := [], laidByText := true, laidKinds := [.data], laidTests := true, laidLooks := .later }
def TreeSwapsCardSaid : Prop := Claim7.holds Tryd.pinned (.plain (OpenSpec.ofChange treeSwapsSpec)) treeSwapsCard

/-- THE SECOND FORM's CARD OF 'signetlaw8.TreeRoots'. -/
def treeRootsUptoCard : Claim7 := { stood := { row := treeRootsUptoRow, standIns := [], harness := (true, "b9272fe4adaf4ab0a792f4621c6be8fdbbd857e661ebe25caddcc5dfa19f0910"), looks := false }, kinds := [], alts := [], laidByText := true, laidKinds := [.data], laidTests := true, laidLooks := .later }
def TreeRootsUptoCardSaid : Prop := Claim7.holds Tryd.pinned (.plain (OpenSpec.upto treeRootsSpec)) treeRootsUptoCard

/-- THE SECOND FORM's CARD OF 'signetlaw8.TreeSigns'. -/
def treeSignsUptoCard : Claim7 := { stood := { row := treeSignsUptoRow, standIns := [], harness := (true, "b9272fe4adaf4ab0a792f4621c6be8fdbbd857e661ebe25caddcc5dfa19f0910"), looks := false }, kinds := [], alts := [], laidByText := true, laidKinds := [.data], laidTests := true, laidLooks := .later }
def TreeSignsUptoCardSaid : Prop := Claim7.holds Tryd.pinned (.plain (OpenSpec.upto treeSignsSpec)) treeSignsUptoCard

/-- THE SECOND FORM's CARD OF 'signetlaw8.TreeVerifies'. -/
def treeVerifiesUptoCard : Claim7 := { stood := { row := treeVerifiesUptoRow, standIns := [], harness := (true, "b9272fe4adaf4ab0a792f4621c6be8fdbbd857e661ebe25caddcc5dfa19f0910"), looks := false }, kinds := [], alts := [], laidByText := true, laidKinds := [.data], laidTests := true, laidLooks := .later }
def TreeVerifiesUptoCardSaid : Prop := Claim7.holds Tryd.pinned (.plain (OpenSpec.upto treeVerifiesSpec)) treeVerifiesUptoCard

/-- THE SECOND FORM's CARD OF 'signetlaw8.TreeHeights'. -/
def treeHeightsUptoCard : Claim7 := { stood := { row := treeHeightsUptoRow, standIns := [], harness := (true, "b9272fe4adaf4ab0a792f4621c6be8fdbbd857e661ebe25caddcc5dfa19f0910"), looks := false }, kinds := [], alts := [], laidByText := true, laidKinds := [.data], laidTests := true, laidLooks := .later }
def TreeHeightsUptoCardSaid : Prop := Claim7.holds Tryd.pinned (.plain (OpenSpec.upto treeHeightsSpec)) treeHeightsUptoCard

/-- THE SECOND FORM's CARD OF 'signetlaw8.TreePaths'. -/
def treePathsUptoCard : Claim7 := { stood := { row := treePathsUptoRow, standIns := [], harness := (true, "b9272fe4adaf4ab0a792f4621c6be8fdbbd857e661ebe25caddcc5dfa19f0910"), looks := false }, kinds := [], alts := [], laidByText := true, laidKinds := [.data], laidTests := true, laidLooks := .later }
def TreePathsUptoCardSaid : Prop := Claim7.holds Tryd.pinned (.plain (OpenSpec.upto treePathsSpec)) treePathsUptoCard

/-- THE SECOND FORM's CARD OF 'signetlaw8.TreeSwaps'. -/
def treeSwapsUptoCard : Claim7 := { stood := { row := treeSwapsUptoRow, standIns := [], harness := (true, "b9272fe4adaf4ab0a792f4621c6be8fdbbd857e661ebe25caddcc5dfa19f0910"), looks := false }, kinds := [], alts := [], laidByText := true, laidKinds := [.data], laidTests := true, laidLooks := .later }
def TreeSwapsUptoCardSaid : Prop := Claim7.holds Tryd.pinned (.plain (OpenSpec.upto treeSwapsSpec)) treeSwapsUptoCard
end Rows
end Go.Proofs.YtpiehjfoojipiaaDoor
