/-
  DERIVED. GIVEN WITH THE SEED: THE CARDS: each row of YtgmjppmcfmcmkaaDoorRows.lean that lists a variable, with what it lists TIED to the program's text (the seventh form; the later family's looks); each row that meets fmt, with fmt's text TOLD by the authors' own Lean function (tested against real Go, not proved from fmt's source: count such statements apart). THE CARD IS WHAT COUNTS. Prove the row's statement (the work); the ties are given (YtgmjppmcfmcmkaaDoorTie.lean); close each card by the builder's one call (the guide's Derived/Test/ToyasCard.lean, 'card_holds'). Laid BY PROGRAM, IN A SANDBOX (cutbox-door.mjs). By AI agents, Wed Nov 11 2026. No macro, syntax, notation, axiom, sorry.
-/
import Derived.Test.YtgmjppmcfmcmkaaDoorRows
import GoSem.ClaimSeven
namespace Go.Proofs.YtgmjppmcfmcmkaaDoor
namespace Rows

/-- THE TIED CARD OF 'signetlaw9.DigestTags'. -/
def digestTagsCard : Claim7 := { stood := { row := digestTagsRow, standIns := [], harness := (true, "f3126bd54d46f838687ac0caaa4613a16c5ae17faf290a8386e7563782e64a87"), looks := false }, kinds := [], alts := [], laidByText := true, laidKinds := [.data], laidTests := true, laidLooks := .later }
def DigestTagsCardSaid : Prop := Claim7.holds Tryd.pinned (.plain (OpenSpec.ofChange digestTagsSpec)) digestTagsCard

/-- THE TIED CARD OF 'signetlaw9.DigestHashes'. -/
def digestHashesCard : Claim7 := { stood := { row := digestHashesRow, standIns := [], harness := (true, "f3126bd54d46f838687ac0caaa4613a16c5ae17faf290a8386e7563782e64a87"), looks := false }, kinds := [], alts := [], laidByText := true, laidKinds := [.data], laidTests := true, laidLooks := .later }
def DigestHashesCardSaid : Prop := Claim7.holds Tryd.pinned (.plain (OpenSpec.ofChange digestHashesSpec)) digestHashesCard

/-- THE TIED CARD OF 'signetlaw9.DigestGreat'. -/
def digestGreatCard : Claim7 := { stood := { row := digestGreatRow, standIns := [], harness := (true, "f3126bd54d46f838687ac0caaa4613a16c5ae17faf290a8386e7563782e64a87"), looks := false }, kinds := [], alts := [], laidByText := true, laidKinds := [.data], laidTests := true, laidLooks := .later }
def DigestGreatCardSaid : Prop := Claim7.holds Tryd.pinned (.plain (OpenSpec.ofChange digestGreatSpec)) digestGreatCard

/-- THE TIED CARD OF 'signetlaw9.DigestKeys'. -/
def digestKeysCard : Claim7 := { stood := { row := digestKeysRow, standIns := [], harness := (true, "f3126bd54d46f838687ac0caaa4613a16c5ae17faf290a8386e7563782e64a87"), looks := false }, kinds := [], alts := [], laidByText := true, laidKinds := [.data], laidTests := true, laidLooks := .later }
def DigestKeysCardSaid : Prop := Claim7.holds Tryd.pinned (.plain (OpenSpec.ofChange digestKeysSpec)) digestKeysCard

/-- THE SECOND FORM's CARD OF 'signetlaw9.DigestTags'. -/
def digestTagsUptoCard : Claim7 := { stood := { row := digestTagsUptoRow, standIns := [], harness := (true, "f3126bd54d46f838687ac0caaa4613a16c5ae17faf290a8386e7563782e64a87"), looks := false }, kinds := [], alts := [], laidByText := true, laidKinds := [.data], laidTests := true, laidLooks := .later }
def DigestTagsUptoCardSaid : Prop := Claim7.holds Tryd.pinned (.plain (OpenSpec.upto digestTagsSpec)) digestTagsUptoCard

/-- THE SECOND FORM's CARD OF 'signetlaw9.DigestHashes'. -/
def digestHashesUptoCard : Claim7 := { stood := { row := digestHashesUptoRow, standIns := [], harness := (true, "f3126bd54d46f838687ac0caaa4613a16c5ae17faf290a8386e7563782e64a87"), looks := false }, kinds := [], alts := [], laidByText := true, laidKinds := [.data], laidTests := true, laidLooks := .later }
def DigestHashesUptoCardSaid : Prop := Claim7.holds Tryd.pinned (.plain (OpenSpec.upto digestHashesSpec)) digestHashesUptoCard

/-- THE SECOND FORM's CARD OF 'signetlaw9.DigestGreat'. -/
def digestGreatUptoCard : Claim7 := { stood := { row := digestGreatUptoRow, standIns := [], harness := (true, "f3126bd54d46f838687ac0caaa4613a16c5ae17faf290a8386e7563782e64a87"), looks := false }, kinds := [], alts := [], laidByText := true, laidKinds := [.data], laidTests := true, laidLooks := .later }
def DigestGreatUptoCardSaid : Prop := Claim7.holds Tryd.pinned (.plain (OpenSpec.upto digestGreatSpec)) digestGreatUptoCard

/-- THE SECOND FORM's CARD OF 'signetlaw9.DigestKeys'. -/
def digestKeysUptoCard : Claim7 := { stood := { row := digestKeysUptoRow, standIns := [], harness := (true, "f3126bd54d46f838687ac0caaa4613a16c5ae17faf290a8386e7563782e64a87"), looks := false }, kinds := [], alts := [], laidByText := true, laidKinds := [.data], laidTests := true, laidLooks := .later }
def DigestKeysUptoCardSaid : Prop := Claim7.holds Tryd.pinned (.plain (OpenSpec.upto digestKeysSpec)) digestKeysUptoCard
end Rows
end Go.Proofs.YtgmjppmcfmcmkaaDoor
