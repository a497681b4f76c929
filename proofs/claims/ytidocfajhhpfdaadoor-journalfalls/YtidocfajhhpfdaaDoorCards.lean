/-
  DERIVED. GIVEN WITH THE SEED: THE CARDS: each row of YtidocfajhhpfdaaDoorRows.lean that lists a variable, with what it lists TIED to the program's text (the seventh form; the later family's looks); each row that meets fmt, with fmt's text TOLD by the authors' own Lean function (tested against real Go, not proved from fmt's source: count such statements apart). THE CARD IS WHAT COUNTS. Prove the row's statement (the work); the ties are given (YtidocfajhhpfdaaDoorTie.lean); close each card by the builder's one call (the guide's Derived/Test/ToyasCard.lean, 'card_holds'). Laid BY PROGRAM, IN A SANDBOX (cutbox-door.mjs). By AI agents, Wed Nov 11 2026. No macro, syntax, notation, axiom, sorry.
-/
import Derived.Test.YtidocfajhhpfdaaDoorRows
import GoSem.ClaimSeven
namespace Go.Proofs.YtidocfajhhpfdaaDoor
namespace Rows

/-- THE TIED CARD OF 'signetlaw12.JournalSums'. -/
def journalSumsCard : Claim7 := { stood := { row := journalSumsRow, standIns := [], harness := (true, "5b0f089365f71c8cd2d4d417c37c647d868b6fb8e356da2c86d55ce01b36dae3"), looks := true }, kinds := [], alts := [], laidByText := true, laidKinds := [.data], laidTests := true, laidLooks := .later }
def JournalSumsCardSaid : Prop := Claim7.holds Tryd.pinned (.plain (OpenSpec.ofChange journalSumsSpec)) journalSumsCard

/-- THE TIED CARD OF 'signetlaw12.JournalKeeps'. -/
def journalKeepsCard : Claim7 := { stood := { row := journalKeepsRow, standIns := [], harness := (true, "5b0f089365f71c8cd2d4d417c37c647d868b6fb8e356da2c86d55ce01b36dae3"), looks := true }, kinds := [], alts := [], laidByText := true, laidKinds := [.data], laidTests := true, laidLooks := .later }
def JournalKeepsCardSaid : Prop := Claim7.holds Tryd.pinned (.plain (OpenSpec.ofChange journalKeepsSpec)) journalKeepsCard

/-- THE TIED CARD OF 'signetlaw12.JournalFalls'. -/
def journalFallsCard : Claim7 := { stood := { row := journalFallsRow, standIns := [], harness := (true, "5b0f089365f71c8cd2d4d417c37c647d868b6fb8e356da2c86d55ce01b36dae3"), looks := true }, kinds := [], alts := [], laidByText := true, laidKinds := [.data], laidTests := true, laidLooks := .later }
def JournalFallsCardSaid : Prop := Claim7.holds Tryd.pinned (.plain (OpenSpec.ofChange journalFallsSpec)) journalFallsCard

/-- THE TIED CARD OF 'signetlaw12.JournalTwice'. -/
def journalTwiceCard : Claim7 := { stood := { row := journalTwiceRow, standIns := [], harness := (true, "5b0f089365f71c8cd2d4d417c37c647d868b6fb8e356da2c86d55ce01b36dae3"), looks := true }, kinds := [], alts := [], laidByText := true, laidKinds := [.data], laidTests := true, laidLooks := .later }
def JournalTwiceCardSaid : Prop := Claim7.holds Tryd.pinned (.plain (OpenSpec.ofChange journalTwiceSpec)) journalTwiceCard

/-- THE TIED CARD OF 'signetlaw12.JournalResets'. -/
def journalResetsCard : Claim7 := { stood := { row := journalResetsRow, standIns := [], harness := (true, "5b0f089365f71c8cd2d4d417c37c647d868b6fb8e356da2c86d55ce01b36dae3"), looks := true }, kinds := [], alts := [], laidByText := true, laidKinds := [.data], laidTests := true, laidLooks := .later }
def JournalResetsCardSaid : Prop := Claim7.holds Tryd.pinned (.plain (OpenSpec.ofChange journalResetsSpec)) journalResetsCard

/-- THE TIED CARD OF 'signetlaw12.JournalForeign'. -/
def journalForeignCard : Claim7 := { stood := { row := journalForeignRow, standIns := [], harness := (true, "5b0f089365f71c8cd2d4d417c37c647d868b6fb8e356da2c86d55ce01b36dae3"), looks := true }, kinds := [], alts := [], laidByText := true, laidKinds := [.data], laidTests := true, laidLooks := .later }
def JournalForeignCardSaid : Prop := Claim7.holds Tryd.pinned (.plain (OpenSpec.ofChange journalForeignSpec)) journalForeignCard

/-- THE SECOND FORM's CARD OF 'signetlaw12.JournalSums'. -/
def journalSumsUptoCard : Claim7 := { stood := { row := journalSumsUptoRow, standIns := [], harness := (true, "5b0f089365f71c8cd2d4d417c37c647d868b6fb8e356da2c86d55ce01b36dae3"), looks := true }, kinds := [], alts := [], laidByText := true, laidKinds := [.data], laidTests := true, laidLooks := .later }
def JournalSumsUptoCardSaid : Prop := Claim7.holds Tryd.pinned (.plain (OpenSpec.upto journalSumsSpec)) journalSumsUptoCard

/-- THE SECOND FORM's CARD OF 'signetlaw12.JournalKeeps'. -/
def journalKeepsUptoCard : Claim7 := { stood := { row := journalKeepsUptoRow, standIns := [], harness := (true, "5b0f089365f71c8cd2d4d417c37c647d868b6fb8e356da2c86d55ce01b36dae3"), looks := true }, kinds := [], alts := [], laidByText := true, laidKinds := [.data], laidTests := true, laidLooks := .later }
def JournalKeepsUptoCardSaid : Prop := Claim7.holds Tryd.pinned (.plain (OpenSpec.upto journalKeepsSpec)) journalKeepsUptoCard

/-- THE SECOND FORM's CARD OF 'signetlaw12.JournalFalls'. -/
def journalFallsUptoCard : Claim7 := { stood := { row := journalFallsUptoRow, standIns := [], harness := (true, "5b0f089365f71c8cd2d4d417c37c647d868b6fb8e356da2c86d55ce01b36dae3"), looks := true }, kinds := [], alts := [], laidByText := true, laidKinds := [.data], laidTests := true, laidLooks := .later }
def JournalFallsUptoCardSaid : Prop := Claim7.holds Tryd.pinned (.plain (OpenSpec.upto journalFallsSpec)) journalFallsUptoCard

/-- THE SECOND FORM's CARD OF 'signetlaw12.JournalTwice'. -/
def journalTwiceUptoCard : Claim7 := { stood := { row := journalTwiceUptoRow, standIns := [], harness := (true, "5b0f089365f71c8cd2d4d417c37c647d868b6fb8e356da2c86d55ce01b36dae3"), looks := true }, kinds := [], alts := [], laidByText := true, laidKinds := [.data], laidTests := true, laidLooks := .later }
def JournalTwiceUptoCardSaid : Prop := Claim7.holds Tryd.pinned (.plain (OpenSpec.upto journalTwiceSpec)) journalTwiceUptoCard

/-- THE SECOND FORM's CARD OF 'signetlaw12.JournalResets'. -/
def journalResetsUptoCard : Claim7 := { stood := { row := journalResetsUptoRow, standIns := [], harness := (true, "5b0f089365f71c8cd2d4d417c37c647d868b6fb8e356da2c86d55ce01b36dae3"), looks := true }, kinds := [], alts := [], laidByText := true, laidKinds := [.data], laidTests := true, laidLooks := .later }
def JournalResetsUptoCardSaid : Prop := Claim7.holds Tryd.pinned (.plain (OpenSpec.upto journalResetsSpec)) journalResetsUptoCard

/-- THE SECOND FORM's CARD OF 'signetlaw12.JournalForeign'. -/
def journalForeignUptoCard : Claim7 := { stood := { row := journalForeignUptoRow, standIns := [], harness := (true, "5b0f089365f71c8cd2d4d417c37c647d868b6fb8e356da2c86d55ce01b36dae3"), looks := true }, kinds := [], alts := [], laidByText := true, laidKinds := [.data], laidTests := true, laidLooks := .later }
def JournalForeignUptoCardSaid : Prop := Claim7.holds Tryd.pinned (.plain (OpenSpec.upto journalForeignSpec)) journalForeignUptoCard
end Rows
end Go.Proofs.YtidocfajhhpfdaaDoor
