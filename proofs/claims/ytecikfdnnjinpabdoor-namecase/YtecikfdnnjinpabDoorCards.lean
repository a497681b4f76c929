/-
  DERIVED. GIVEN WITH THE SEED: THE CARDS: each row of YtecikfdnnjinpabDoorRows.lean that lists a variable, with what it lists TIED to the program's text (the seventh form; the later family's looks); each row that meets fmt, with fmt's text TOLD by the authors' own Lean function (tested against real Go, not proved from fmt's source: count such statements apart). THE CARD IS WHAT COUNTS. Prove the row's statement (the work); the ties are given (YtecikfdnnjinpabDoorTie.lean); close each card by the builder's one call (the guide's Derived/Test/ToyasCard.lean, 'card_holds'). Laid BY PROGRAM, IN A SANDBOX (cutbox-door.mjs). By AI agents, Wed Nov 11 2026. No macro, syntax, notation, axiom, sorry.
-/
import Derived.Test.YtecikfdnnjinpabDoorRows
import GoSem.ClaimSeven
namespace Go.Proofs.YtecikfdnnjinpabDoor
namespace Rows

/-- THE TIED CARD OF 'signetlaw3.NameBytes'. -/
def nameBytesCard : Claim7 := { stood := { row := nameBytesRow, standIns := [], harness := (true, "e57f997c73c7ec1dfc72dfbe278dc04a4ed5a70ab37330969188b48cff683ed0"), looks := false }, kinds := [], alts := [], laidByText := true, laidKinds := [.data, .pinned], laidTests := true, laidLooks := .later }
def NameBytesCardSaid : Prop := Claim7.holds Tryd.pinned (.plain (OpenSpec.ofChange nameBytesSpec)) nameBytesCard

/-- THE TIED CARD OF 'signetlaw3.NameCase'. -/
def nameCaseCard : Claim7 := { stood := { row := nameCaseRow, standIns := [], harness := (true, "e57f997c73c7ec1dfc72dfbe278dc04a4ed5a70ab37330969188b48cff683ed0"), looks := false }, kinds := [], alts := [], laidByText := true, laidKinds := [.data, .pinned], laidTests := true, laidLooks := .later }
def NameCaseCardSaid : Prop := Claim7.holds Tryd.pinned (.plain (OpenSpec.ofChange nameCaseSpec)) nameCaseCard

/-- THE SECOND FORM's CARD OF 'signetlaw3.NameBytes'. -/
def nameBytesUptoCard : Claim7 := { stood := { row := nameBytesUptoRow, standIns := [], harness := (true, "e57f997c73c7ec1dfc72dfbe278dc04a4ed5a70ab37330969188b48cff683ed0"), looks := false }, kinds := [], alts := [], laidByText := true, laidKinds := [.data, .pinned], laidTests := true, laidLooks := .later }
def NameBytesUptoCardSaid : Prop := Claim7.holds Tryd.pinned (.plain (OpenSpec.upto nameBytesSpec)) nameBytesUptoCard

/-- THE SECOND FORM's CARD OF 'signetlaw3.NameCase'. -/
def nameCaseUptoCard : Claim7 := { stood := { row := nameCaseUptoRow, standIns := [], harness := (true, "e57f997c73c7ec1dfc72dfbe278dc04a4ed5a70ab37330969188b48cff683ed0"), looks := false }, kinds := [], alts := [], laidByText := true, laidKinds := [.data, .pinned], laidTests := true, laidLooks := .later }
def NameCaseUptoCardSaid : Prop := Claim7.holds Tryd.pinned (.plain (OpenSpec.upto nameCaseSpec)) nameCaseUptoCard
end Rows
end Go.Proofs.YtecikfdnnjinpabDoor
