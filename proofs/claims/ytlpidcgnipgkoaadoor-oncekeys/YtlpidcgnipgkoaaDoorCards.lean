/-
  DERIVED. GIVEN WITH THE SEED: THE CARDS: each row of YtlpidcgnipgkoaaDoorRows.lean that lists a variable, with what it lists TIED to the program's text (the seventh form; the later family's looks); each row that meets fmt, with fmt's text TOLD by the authors' own Lean function (tested against real Go, not proved from fmt's source: count such statements apart). THE CARD IS WHAT COUNTS. Prove the row's statement (the work); the ties are given (YtlpidcgnipgkoaaDoorTie.lean); close each card by the builder's one call (the guide's Derived/Test/ToyasCard.lean, 'card_holds'). Laid BY PROGRAM, IN A SANDBOX (cutbox-door.mjs). By AI agents, Wed Nov 11 2026. No macro, syntax, notation, axiom, sorry.
-/
import Derived.Test.YtlpidcgnipgkoaaDoorRows
import GoSem.ClaimSeven
namespace Go.Proofs.YtlpidcgnipgkoaaDoor
namespace Rows

/-- THE TIED CARD OF 'signetlaw7.OnceSigns'. -/
def onceSignsCard : Claim7 := { stood := { row := onceSignsRow, standIns := [], harness := (true, "2fa7bd68dc8ec18d4559323a7aa957f6baeed479ce70e02eba8595d5900061ab"), looks := false }, kinds := [], alts := [], laidByText := true, laidKinds := [.data], laidTests := true, laidLooks := .later }
def OnceSignsCardSaid : Prop := Claim7.holds Tryd.pinned (.plain (OpenSpec.ofChange onceSignsSpec)) onceSignsCard

/-- THE TIED CARD OF 'signetlaw7.OnceOpens'. -/
def onceOpensCard : Claim7 := { stood := { row := onceOpensRow, standIns := [], harness := (true, "2fa7bd68dc8ec18d4559323a7aa957f6baeed479ce70e02eba8595d5900061ab"), looks := false }, kinds := [], alts := [], laidByText := true, laidKinds := [.data], laidTests := true, laidLooks := .later }
def OnceOpensCardSaid : Prop := Claim7.holds Tryd.pinned (.plain (OpenSpec.ofChange onceOpensSpec)) onceOpensCard

/-- THE TIED CARD OF 'signetlaw7.OnceOther'. -/
def onceOtherCard : Claim7 := { stood := { row := onceOtherRow, standIns := [], harness := (true, "2fa7bd68dc8ec18d4559323a7aa957f6baeed479ce70e02eba8595d5900061ab"), looks := false }, kinds := [], alts := [], laidByText := true, laidKinds := [.data], laidTests := true, laidLooks := .later }
def OnceOtherCardSaid : Prop := Claim7.holds Tryd.pinned (.plain (OpenSpec.ofChange onceOtherSpec)) onceOtherCard

/-- THE TIED CARD OF 'signetlaw7.OnceKeys'. -/
def onceKeysCard : Claim7 := { stood := { row := onceKeysRow, standIns := [], harness := (true, "2fa7bd68dc8ec18d4559323a7aa957f6baeed479ce70e02eba8595d5900061ab"), looks := false }, kinds := [], alts := [], laidByText := true, laidKinds := [.data], laidTests := true, laidLooks := .later }
def OnceKeysCardSaid : Prop := Claim7.holds Tryd.pinned (.plain (OpenSpec.ofChange onceKeysSpec)) onceKeysCard

/-- THE SECOND FORM's CARD OF 'signetlaw7.OnceSigns'. -/
def onceSignsUptoCard : Claim7 := { stood := { row := onceSignsUptoRow, standIns := [], harness := (true, "2fa7bd68dc8ec18d4559323a7aa957f6baeed479ce70e02eba8595d5900061ab"), looks := false }, kinds := [], alts := [], laidByText := true, laidKinds := [.data], laidTests := true, laidLooks := .later }
def OnceSignsUptoCardSaid : Prop := Claim7.holds Tryd.pinned (.plain (OpenSpec.upto onceSignsSpec)) onceSignsUptoCard

/-- THE SECOND FORM's CARD OF 'signetlaw7.OnceOpens'. -/
def onceOpensUptoCard : Claim7 := { stood := { row := onceOpensUptoRow, standIns := [], harness := (true, "2fa7bd68dc8ec18d4559323a7aa957f6baeed479ce70e02eba8595d5900061ab"), looks := false }, kinds := [], alts := [], laidByText := true, laidKinds := [.data], laidTests := true, laidLooks := .later }
def OnceOpensUptoCardSaid : Prop := Claim7.holds Tryd.pinned (.plain (OpenSpec.upto onceOpensSpec)) onceOpensUptoCard

/-- THE SECOND FORM's CARD OF 'signetlaw7.OnceOther'. -/
def onceOtherUptoCard : Claim7 := { stood := { row := onceOtherUptoRow, standIns := [], harness := (true, "2fa7bd68dc8ec18d4559323a7aa957f6baeed479ce70e02eba8595d5900061ab"), looks := false }, kinds := [], alts := [], laidByText := true, laidKinds := [.data], laidTests := true, laidLooks := .later }
def OnceOtherUptoCardSaid : Prop := Claim7.holds Tryd.pinned (.plain (OpenSpec.upto onceOtherSpec)) onceOtherUptoCard

/-- THE SECOND FORM's CARD OF 'signetlaw7.OnceKeys'. -/
def onceKeysUptoCard : Claim7 := { stood := { row := onceKeysUptoRow, standIns := [], harness := (true, "2fa7bd68dc8ec18d4559323a7aa957f6baeed479ce70e02eba8595d5900061ab"), looks := false }, kinds := [], alts := [], laidByText := true, laidKinds := [.data], laidTests := true, laidLooks := .later }
def OnceKeysUptoCardSaid : Prop := Claim7.holds Tryd.pinned (.plain (OpenSpec.upto onceKeysSpec)) onceKeysUptoCard
end Rows
end Go.Proofs.YtlpidcgnipgkoaaDoor
