/-
  NARROWER THAN 'FOR EVERY INPUT', by the rows' own cells (each row's printed sentence says how): JournalSums: laid · JournalKeeps: laid · JournalFalls: laid · JournalTwice: laid · JournalResets: laid · JournalForeign: laid.
  DERIVED. THE GIVEN ROWS OF THIS SEAT. 6 by the template 'for every input the law returns true; each argument reads behind the call as it read before'; 0 by the template 'total and deterministic' (their statements: YtidocfajhhpfdaaDoorTotals.lean).
  GIVEN WITH THE SEED: the statements are not yours to turn. If you find one false, say at which input.
  Laid BY PROGRAM, IN A SANDBOX (cutbox-rows.mjs): the forced cells as the released guide's own fill.sh prints them over the translation 29d5ee3abfe6b7e3… (all of the seat's roots in one cut). By AI agents, Wed Nov 11 2026. No macro, syntax, notation, axiom, sorry.
-/
import Derived.Test.YtidocfajhhpfdaaDoorChecked
import GoSem.Claim
import GoSem.ClaimJoined
import GoSem.ClaimMapViews
import Derived.JoinedTies
import Derived.KernelRfl
namespace Go.Proofs.YtidocfajhhpfdaaDoor
/- THE CELL 'sum', in the pinned program and in every row, IS THE sha256 OF THE DUMP (.gsa) THAT YtidocfajhhpfdaaDoorProg.lean LOADS. Nothing in Lean hashes anything: it is a label: what it is worth is what the hold of that sum in a sandbox is worth. -/
noncomputable def Tryd.pinned : Pinned := { name := "ytidocfajhhpfdaadoor", sum := "29d5ee3abfe6b7e3ffdd3401dc4fb81adf59c3f6b5c11aa71961e6de6a9a7bd0", checked := Tryd.checked }
namespace Rows
def none {H : Type} : Left H := { results := [], args := [] }

/- WHAT THE LISTED PACKAGE-LEVEL VARIABLES READ AS WHEN THE CALL BEGINS. Each datum BY PROGRAM (the guide's laid-datum.mjs) off the statement by which the dump's own 'gosem.cut.vars' lays the variable. In a bare row this is a premise. The card (YtidocfajhhpfdaaDoorCards.lean) ties it to the program's text. -/
def laid_signet_journal_crcTable {H : Type} : DataW H := .agg [.lit (.int .u32 0), .lit (.int .u32 498536548), .lit (.int .u32 997073096), .lit (.int .u32 651767980), .lit (.int .u32 1994146192), .lit (.int .u32 1802195444), .lit (.int .u32 1303535960), .lit (.int .u32 1342533948), .lit (.int .u32 3988292384), .lit (.int .u32 4027552580), .lit (.int .u32 3604390888), .lit (.int .u32 3412177804), .lit (.int .u32 2607071920), .lit (.int .u32 2262029012), .lit (.int .u32 2685067896), .lit (.int .u32 3183342108)]

/-- 'signetlaw12.JournalSums': WHATEVER THE INPUT: true; the input reads as it did. -/
def journalSumsSpec : ChangeSpec := { name := "journalSums", fn := fun _ => fun
  | [d] => { results := [.lit (.bool true)], args := [d] }
  | _ => none }
def journalSumsRow : OpenClaim := { program := "ytidocfajhhpfdaadoor", sum := "29d5ee3abfe6b7e3ffdd3401dc4fb81adf59c3f6b5c11aa71961e6de6a9a7bd0", func := "signet/signetlaw12.JournalSums", spec := "journalSums", inPlace := ["internal/bytealg.Count", "internal/bytealg.IndexByte", "internal/bytealg.Index"], unfollowed := true, recurses := true, named := ["internal/bytealg.MaxLen", "signet/journal.crcTable"], apart := false, laid := [("signet/journal.crcTable", laid_signet_journal_crcTable)] }
def JournalSumsSaid : Prop := journalSumsRow.holds Tryd.pinned (OpenSpec.ofChange journalSumsSpec)

/-- ITS FALSE NEIGHBOUR: 'it returns false'. Refute it at one input. -/
def journalSumsWrong : ChangeSpec := { name := "journalSums", fn := fun _ => fun
  | [d] => { results := [.lit (.bool false)], args := [d] }
  | _ => none }
def JournalSumsWrongFalsely : Prop := journalSumsRow.holds Tryd.pinned (OpenSpec.ofChange journalSumsWrong)

/-- 'signetlaw12.JournalKeeps': WHATEVER THE INPUT: true; the input reads as it did. -/
def journalKeepsSpec : ChangeSpec := { name := "journalKeeps", fn := fun _ => fun
  | [d1, d2] => { results := [.lit (.bool true)], args := [d1, d2] }
  | _ => none }
def journalKeepsRow : OpenClaim := { program := "ytidocfajhhpfdaadoor", sum := "29d5ee3abfe6b7e3ffdd3401dc4fb81adf59c3f6b5c11aa71961e6de6a9a7bd0", func := "signet/signetlaw12.JournalKeeps", spec := "journalKeeps", inPlace := ["internal/bytealg.Count", "internal/bytealg.IndexByte", "internal/bytealg.Index"], unfollowed := true, recurses := true, named := ["internal/bytealg.MaxLen", "signet/journal.crcTable"], apart := false, laid := [("signet/journal.crcTable", laid_signet_journal_crcTable)] }
def JournalKeepsSaid : Prop := journalKeepsRow.holds Tryd.pinned (OpenSpec.ofChange journalKeepsSpec)

/-- ITS FALSE NEIGHBOUR: 'it returns false'. Refute it at one input. -/
def journalKeepsWrong : ChangeSpec := { name := "journalKeeps", fn := fun _ => fun
  | [d1, d2] => { results := [.lit (.bool false)], args := [d1, d2] }
  | _ => none }
def JournalKeepsWrongFalsely : Prop := journalKeepsRow.holds Tryd.pinned (OpenSpec.ofChange journalKeepsWrong)

/-- 'signetlaw12.JournalFalls': WHATEVER THE INPUT: true; the input reads as it did. -/
def journalFallsSpec : ChangeSpec := { name := "journalFalls", fn := fun _ => fun
  | [d1, d2, d3, d4] => { results := [.lit (.bool true)], args := [d1, d2, d3, d4] }
  | _ => none }
def journalFallsRow : OpenClaim := { program := "ytidocfajhhpfdaadoor", sum := "29d5ee3abfe6b7e3ffdd3401dc4fb81adf59c3f6b5c11aa71961e6de6a9a7bd0", func := "signet/signetlaw12.JournalFalls", spec := "journalFalls", inPlace := ["internal/bytealg.Count", "internal/bytealg.IndexByte", "internal/bytealg.Index"], unfollowed := true, recurses := true, named := ["internal/bytealg.MaxLen", "signet/journal.crcTable"], apart := false, laid := [("signet/journal.crcTable", laid_signet_journal_crcTable)] }
def JournalFallsSaid : Prop := journalFallsRow.holds Tryd.pinned (OpenSpec.ofChange journalFallsSpec)

/-- ITS FALSE NEIGHBOUR: 'it returns false'. Refute it at one input. -/
def journalFallsWrong : ChangeSpec := { name := "journalFalls", fn := fun _ => fun
  | [d1, d2, d3, d4] => { results := [.lit (.bool false)], args := [d1, d2, d3, d4] }
  | _ => none }
def JournalFallsWrongFalsely : Prop := journalFallsRow.holds Tryd.pinned (OpenSpec.ofChange journalFallsWrong)

/-- 'signetlaw12.JournalTwice': WHATEVER THE INPUT: true; the input reads as it did. -/
def journalTwiceSpec : ChangeSpec := { name := "journalTwice", fn := fun _ => fun
  | [d1, d2, d3, d4, d5, d6] => { results := [.lit (.bool true)], args := [d1, d2, d3, d4, d5, d6] }
  | _ => none }
def journalTwiceRow : OpenClaim := { program := "ytidocfajhhpfdaadoor", sum := "29d5ee3abfe6b7e3ffdd3401dc4fb81adf59c3f6b5c11aa71961e6de6a9a7bd0", func := "signet/signetlaw12.JournalTwice", spec := "journalTwice", inPlace := ["internal/bytealg.Count", "internal/bytealg.IndexByte", "internal/bytealg.Index"], unfollowed := true, recurses := true, named := ["internal/bytealg.MaxLen", "signet/journal.crcTable"], apart := false, laid := [("signet/journal.crcTable", laid_signet_journal_crcTable)] }
def JournalTwiceSaid : Prop := journalTwiceRow.holds Tryd.pinned (OpenSpec.ofChange journalTwiceSpec)

/-- ITS FALSE NEIGHBOUR: 'it returns false'. Refute it at one input. -/
def journalTwiceWrong : ChangeSpec := { name := "journalTwice", fn := fun _ => fun
  | [d1, d2, d3, d4, d5, d6] => { results := [.lit (.bool false)], args := [d1, d2, d3, d4, d5, d6] }
  | _ => none }
def JournalTwiceWrongFalsely : Prop := journalTwiceRow.holds Tryd.pinned (OpenSpec.ofChange journalTwiceWrong)

/-- 'signetlaw12.JournalResets': WHATEVER THE INPUT: true; the input reads as it did. -/
def journalResetsSpec : ChangeSpec := { name := "journalResets", fn := fun _ => fun
  | [d1, d2, d3] => { results := [.lit (.bool true)], args := [d1, d2, d3] }
  | _ => none }
def journalResetsRow : OpenClaim := { program := "ytidocfajhhpfdaadoor", sum := "29d5ee3abfe6b7e3ffdd3401dc4fb81adf59c3f6b5c11aa71961e6de6a9a7bd0", func := "signet/signetlaw12.JournalResets", spec := "journalResets", inPlace := ["internal/bytealg.Count", "internal/bytealg.IndexByte", "internal/bytealg.Index"], unfollowed := true, recurses := true, named := ["internal/bytealg.MaxLen", "signet/journal.crcTable"], apart := false, laid := [("signet/journal.crcTable", laid_signet_journal_crcTable)] }
def JournalResetsSaid : Prop := journalResetsRow.holds Tryd.pinned (OpenSpec.ofChange journalResetsSpec)

/-- ITS FALSE NEIGHBOUR: 'it returns false'. Refute it at one input. -/
def journalResetsWrong : ChangeSpec := { name := "journalResets", fn := fun _ => fun
  | [d1, d2, d3] => { results := [.lit (.bool false)], args := [d1, d2, d3] }
  | _ => none }
def JournalResetsWrongFalsely : Prop := journalResetsRow.holds Tryd.pinned (OpenSpec.ofChange journalResetsWrong)

/-- 'signetlaw12.JournalForeign': WHATEVER THE INPUT: true; the input reads as it did. -/
def journalForeignSpec : ChangeSpec := { name := "journalForeign", fn := fun _ => fun
  | [d1, d2, d3] => { results := [.lit (.bool true)], args := [d1, d2, d3] }
  | _ => none }
def journalForeignRow : OpenClaim := { program := "ytidocfajhhpfdaadoor", sum := "29d5ee3abfe6b7e3ffdd3401dc4fb81adf59c3f6b5c11aa71961e6de6a9a7bd0", func := "signet/signetlaw12.JournalForeign", spec := "journalForeign", inPlace := ["internal/bytealg.Count", "internal/bytealg.IndexByte", "internal/bytealg.Index"], unfollowed := true, recurses := true, named := ["internal/bytealg.MaxLen", "signet/journal.crcTable"], apart := false, laid := [("signet/journal.crcTable", laid_signet_journal_crcTable)] }
def JournalForeignSaid : Prop := journalForeignRow.holds Tryd.pinned (OpenSpec.ofChange journalForeignSpec)

/-- ITS FALSE NEIGHBOUR: 'it returns false'. Refute it at one input. -/
def journalForeignWrong : ChangeSpec := { name := "journalForeign", fn := fun _ => fun
  | [d1, d2, d3] => { results := [.lit (.bool false)], args := [d1, d2, d3] }
  | _ => none }
def JournalForeignWrongFalsely : Prop := journalForeignRow.holds Tryd.pinned (OpenSpec.ofChange journalForeignWrong)

/- THE SECOND FORM. 'bulk': how many values and letters a reading holds, each counted each time it is reached (what is shared counts as often as it is met; a slice's spare places count too). A statement '..UptoSaid' is the law's where the arguments, and the package variables that the reading takes, are together of bulk at most 1048576: NARROWER than '..Said'. Prove '..Said' where nothing that the law and all that it calls make is longer than what came in: it says more and counts as full. Else prove '..UptoSaid'. A law counts once. -/
mutual
def uptoBulk {H : Type} : DataW H → Nat
  | .lit (.string bytes) => bytes.length + 1
  | .lit _ => 1
  | .nil => 1
  | .ptr d => uptoBulk d + 1
  | .slice elems spare => uptoBulkAll elems + uptoBulkAll spare + 1
  | .agg parts => uptoBulkAll parts + 1
  | .iface _ d => uptoBulk d + 1
  | .map entries => uptoBulkEntries entries + 1
  | .held _ => 1
def uptoBulkAll {H : Type} : List (DataW H) → Nat
  | [] => 0
  | d :: r => uptoBulk d + uptoBulkAll r
def uptoBulkEntries {H : Type} : List (Lit × DataW H) → Nat
  | [] => 0
  | x :: r => uptoBulkEntry x + uptoBulkEntries r
def uptoBulkEntry {H : Type} : Lit × DataW H → Nat
  | (.string bytes, d) => bytes.length + uptoBulk d + 1
  | (_, d) => uptoBulk d + 1
 end
def uptoSmall : (H : Type) → List (DataW H) → Bool := fun _ ds => decide (uptoBulkAll ds ≤ 1048576)
def OpenSpec.upto (s : _root_.Go.ChangeSpec) : _root_.Go.OpenSpec := { _root_.Go.OpenSpec.ofChange s with cond := some uptoSmall }

/-- 'signetlaw12.JournalSums', WHERE WHAT IT READS IS OF BULK AT MOST 1048576: true; the input reads as it did. -/
def journalSumsUptoRow : OpenClaim := { program := "ytidocfajhhpfdaadoor", sum := "29d5ee3abfe6b7e3ffdd3401dc4fb81adf59c3f6b5c11aa71961e6de6a9a7bd0", func := "signet/signetlaw12.JournalSums", spec := "journalSums", inPlace := ["internal/bytealg.Count", "internal/bytealg.IndexByte", "internal/bytealg.Index"], unfollowed := true, recurses := true, named := ["internal/bytealg.MaxLen", "signet/journal.crcTable"], apart := false, laid := [("signet/journal.crcTable", laid_signet_journal_crcTable)], narrowed := true }
def JournalSumsUptoSaid : Prop := journalSumsUptoRow.holds Tryd.pinned (OpenSpec.upto journalSumsSpec)

/-- 'signetlaw12.JournalKeeps', WHERE WHAT IT READS IS OF BULK AT MOST 1048576: true; the input reads as it did. -/
def journalKeepsUptoRow : OpenClaim := { program := "ytidocfajhhpfdaadoor", sum := "29d5ee3abfe6b7e3ffdd3401dc4fb81adf59c3f6b5c11aa71961e6de6a9a7bd0", func := "signet/signetlaw12.JournalKeeps", spec := "journalKeeps", inPlace := ["internal/bytealg.Count", "internal/bytealg.IndexByte", "internal/bytealg.Index"], unfollowed := true, recurses := true, named := ["internal/bytealg.MaxLen", "signet/journal.crcTable"], apart := false, laid := [("signet/journal.crcTable", laid_signet_journal_crcTable)], narrowed := true }
def JournalKeepsUptoSaid : Prop := journalKeepsUptoRow.holds Tryd.pinned (OpenSpec.upto journalKeepsSpec)

/-- 'signetlaw12.JournalFalls', WHERE WHAT IT READS IS OF BULK AT MOST 1048576: true; the input reads as it did. -/
def journalFallsUptoRow : OpenClaim := { program := "ytidocfajhhpfdaadoor", sum := "29d5ee3abfe6b7e3ffdd3401dc4fb81adf59c3f6b5c11aa71961e6de6a9a7bd0", func := "signet/signetlaw12.JournalFalls", spec := "journalFalls", inPlace := ["internal/bytealg.Count", "internal/bytealg.IndexByte", "internal/bytealg.Index"], unfollowed := true, recurses := true, named := ["internal/bytealg.MaxLen", "signet/journal.crcTable"], apart := false, laid := [("signet/journal.crcTable", laid_signet_journal_crcTable)], narrowed := true }
def JournalFallsUptoSaid : Prop := journalFallsUptoRow.holds Tryd.pinned (OpenSpec.upto journalFallsSpec)

/-- 'signetlaw12.JournalTwice', WHERE WHAT IT READS IS OF BULK AT MOST 1048576: true; the input reads as it did. -/
def journalTwiceUptoRow : OpenClaim := { program := "ytidocfajhhpfdaadoor", sum := "29d5ee3abfe6b7e3ffdd3401dc4fb81adf59c3f6b5c11aa71961e6de6a9a7bd0", func := "signet/signetlaw12.JournalTwice", spec := "journalTwice", inPlace := ["internal/bytealg.Count", "internal/bytealg.IndexByte", "internal/bytealg.Index"], unfollowed := true, recurses := true, named := ["internal/bytealg.MaxLen", "signet/journal.crcTable"], apart := false, laid := [("signet/journal.crcTable", laid_signet_journal_crcTable)], narrowed := true }
def JournalTwiceUptoSaid : Prop := journalTwiceUptoRow.holds Tryd.pinned (OpenSpec.upto journalTwiceSpec)

/-- 'signetlaw12.JournalResets', WHERE WHAT IT READS IS OF BULK AT MOST 1048576: true; the input reads as it did. -/
def journalResetsUptoRow : OpenClaim := { program := "ytidocfajhhpfdaadoor", sum := "29d5ee3abfe6b7e3ffdd3401dc4fb81adf59c3f6b5c11aa71961e6de6a9a7bd0", func := "signet/signetlaw12.JournalResets", spec := "journalResets", inPlace := ["internal/bytealg.Count", "internal/bytealg.IndexByte", "internal/bytealg.Index"], unfollowed := true, recurses := true, named := ["internal/bytealg.MaxLen", "signet/journal.crcTable"], apart := false, laid := [("signet/journal.crcTable", laid_signet_journal_crcTable)], narrowed := true }
def JournalResetsUptoSaid : Prop := journalResetsUptoRow.holds Tryd.pinned (OpenSpec.upto journalResetsSpec)

/-- 'signetlaw12.JournalForeign', WHERE WHAT IT READS IS OF BULK AT MOST 1048576: true; the input reads as it did. -/
def journalForeignUptoRow : OpenClaim := { program := "ytidocfajhhpfdaadoor", sum := "29d5ee3abfe6b7e3ffdd3401dc4fb81adf59c3f6b5c11aa71961e6de6a9a7bd0", func := "signet/signetlaw12.JournalForeign", spec := "journalForeign", inPlace := ["internal/bytealg.Count", "internal/bytealg.IndexByte", "internal/bytealg.Index"], unfollowed := true, recurses := true, named := ["internal/bytealg.MaxLen", "signet/journal.crcTable"], apart := false, laid := [("signet/journal.crcTable", laid_signet_journal_crcTable)], narrowed := true }
def JournalForeignUptoSaid : Prop := journalForeignUptoRow.holds Tryd.pinned (OpenSpec.upto journalForeignSpec)

end Rows
end Go.Proofs.YtidocfajhhpfdaaDoor
