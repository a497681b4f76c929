/-
  DERIVED. GIVEN WITH THE SEED: THE CARDS: each row of YtfpggcgfmhooeaaDoorRows.lean that lists a variable, with what it lists TIED to the program's text (the seventh form; the later family's looks); each row that meets fmt, with fmt's text TOLD by the authors' own Lean function (tested against real Go, not proved from fmt's source: count such statements apart). THE CARD IS WHAT COUNTS. Prove the row's statement (the work); the ties are given (YtfpggcgfmhooeaaDoorTie.lean); close each card by the builder's one call (the guide's Derived/Test/ToyasCard.lean, 'card_holds'). Laid BY PROGRAM, IN A SANDBOX (cutbox-door.mjs). By AI agents, Wed Nov 11 2026. No macro, syntax, notation, axiom, sorry.
-/
import Derived.Test.YtfpggcgfmhooeaaDoorRows
import GoSem.ClaimSeven
namespace Go.Proofs.YtfpggcgfmhooeaaDoor
namespace Rows

/-- THE TIED CARD OF 'signetlaw1.HashSums'. -/
def hashSumsCard : Claim7 := { stood := { row := hashSumsRow, standIns := [], harness := (true, "6d46db688675c2196e5116654144b92aab8073b0cde0a245f8d7fec8a7b413ff"), looks := false }, kinds := [], alts := [], laidByText := true, laidKinds := [.data], laidTests := true, laidLooks := .later }
def HashSumsCardSaid : Prop := Claim7.holds Tryd.pinned (.plain (OpenSpec.ofChange hashSumsSpec)) hashSumsCard

/-- THE TIED CARD OF 'signetlaw1.HashShorts'. -/
def hashShortsCard : Claim7 := { stood := { row := hashShortsRow, standIns := [], harness := (true, "6d46db688675c2196e5116654144b92aab8073b0cde0a245f8d7fec8a7b413ff"), looks := false }, kinds := [], alts := [], laidByText := true, laidKinds := [.data], laidTests := true, laidLooks := .later }
def HashShortsCardSaid : Prop := Claim7.holds Tryd.pinned (.plain (OpenSpec.ofChange hashShortsSpec)) hashShortsCard

/-- THE TIED CARD OF 'signetlaw1.HashParts'. -/
def hashPartsCard : Claim7 := { stood := { row := hashPartsRow, standIns := [], harness := (true, "6d46db688675c2196e5116654144b92aab8073b0cde0a245f8d7fec8a7b413ff"), looks := false }, kinds := [], alts := [], laidByText := true, laidKinds := [.data], laidTests := true, laidLooks := .later }
def HashPartsCardSaid : Prop := Claim7.holds Tryd.pinned (.plain (OpenSpec.ofChange hashPartsSpec)) hashPartsCard

/-- THE TIED CARD OF 'signetlaw1.HashLengths'. -/
def hashLengthsCard : Claim7 := { stood := { row := hashLengthsRow, standIns := [], harness := (true, "6d46db688675c2196e5116654144b92aab8073b0cde0a245f8d7fec8a7b413ff"), looks := false }, kinds := [], alts := [], laidByText := true, laidKinds := [.data], laidTests := true, laidLooks := .later }
def HashLengthsCardSaid : Prop := Claim7.holds Tryd.pinned (.plain (OpenSpec.ofChange hashLengthsSpec)) hashLengthsCard

/-- THE SECOND FORM's CARD OF 'signetlaw1.HashSums'. -/
def hashSumsUptoCard : Claim7 := { stood := { row := hashSumsUptoRow, standIns := [], harness := (true, "6d46db688675c2196e5116654144b92aab8073b0cde0a245f8d7fec8a7b413ff"), looks := false }, kinds := [], alts := [], laidByText := true, laidKinds := [.data], laidTests := true, laidLooks := .later }
def HashSumsUptoCardSaid : Prop := Claim7.holds Tryd.pinned (.plain (OpenSpec.upto hashSumsSpec)) hashSumsUptoCard

/-- THE SECOND FORM's CARD OF 'signetlaw1.HashShorts'. -/
def hashShortsUptoCard : Claim7 := { stood := { row := hashShortsUptoRow, standIns := [], harness := (true, "6d46db688675c2196e5116654144b92aab8073b0cde0a245f8d7fec8a7b413ff"), looks := false }, kinds := [], alts := [], laidByText := true, laidKinds := [.data], laidTests := true, laidLooks := .later }
def HashShortsUptoCardSaid : Prop := Claim7.holds Tryd.pinned (.plain (OpenSpec.upto hashShortsSpec)) hashShortsUptoCard

/-- THE SECOND FORM's CARD OF 'signetlaw1.HashParts'. -/
def hashPartsUptoCard : Claim7 := { stood := { row := hashPartsUptoRow, standIns := [], harness := (true, "6d46db688675c2196e5116654144b92aab8073b0cde0a245f8d7fec8a7b413ff"), looks := false }, kinds := [], alts := [], laidByText := true, laidKinds := [.data], laidTests := true, laidLooks := .later }
def HashPartsUptoCardSaid : Prop := Claim7.holds Tryd.pinned (.plain (OpenSpec.upto hashPartsSpec)) hashPartsUptoCard

/-- THE SECOND FORM's CARD OF 'signetlaw1.HashLengths'. -/
def hashLengthsUptoCard : Claim7 := { stood := { row := hashLengthsUptoRow, standIns := [], harness := (true, "6d46db688675c2196e5116654144b92aab8073b0cde0a245f8d7fec8a7b413ff"), looks := false }, kinds := [], alts := [], laidByText := true, laidKinds := [.data], laidTests := true, laidLooks := .later }
def HashLengthsUptoCardSaid : Prop := Claim7.holds Tryd.pinned (.plain (OpenSpec.upto hashLengthsSpec)) hashLengthsUptoCard
end Rows
end Go.Proofs.YtfpggcgfmhooeaaDoor
