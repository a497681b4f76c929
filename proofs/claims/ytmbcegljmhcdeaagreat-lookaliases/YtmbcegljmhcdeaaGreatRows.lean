/-
  No cell of these rows narrows 'for every input' (looked for: loops, veiled, ifaces, maps, wideKeys, modest, calm, conditions, laid).
  DERIVED. THE GIVEN ROWS OF THIS SEAT. 7 by the template 'for every input the law returns true; each argument reads behind the call as it read before'; 0 by the template 'total and deterministic' (their statements: YtmbcegljmhcdeaaGreatTotals.lean).
  GIVEN WITH THE SEED: the statements are not yours to turn. If you find one false, say at which input.
  Laid BY PROGRAM, IN A SANDBOX (cutbox-rows.mjs): the forced cells as the released guide's own fill.sh prints them over the translation eca2288e19c29261… (all of the seat's roots in one cut). By AI agents, Wed Nov 11 2026. No macro, syntax, notation, axiom, sorry.
-/
import Derived.Test.YtmbcegljmhcdeaaGreatChecked
import GoSem.Claim
import GoSem.ClaimJoined
import GoSem.ClaimMapViews
import Derived.JoinedTies
import Derived.KernelRfl
namespace Go.Proofs.YtmbcegljmhcdeaaGreat
/- THE CELL 'sum', in the pinned program and in every row, IS THE sha256 OF THE DUMP (.gsa) THAT YtmbcegljmhcdeaaGreatProg.lean LOADS. Nothing in Lean hashes anything: it is a label: what it is worth is what the hold of that sum in a sandbox is worth. -/
noncomputable def Tryz.pinned : Pinned := { name := "ytmbcegljmhcdeaagreat", sum := "eca2288e19c2926119069b548919417cf96aa7504e8d2adfc8db35d6c2f7248f", checked := Tryz.checked }
namespace Rows
def none {H : Type} : Left H := { results := [], args := [] }

/-- 'signetlaw15.ZonePlays': WHATEVER THE INPUT: true; the input reads as it did. -/
def zonePlaysSpec : ChangeSpec := { name := "zonePlays", fn := fun _ => fun
  | [d] => { results := [.lit (.bool true)], args := [d] }
  | _ => none }
def zonePlaysRow : OpenClaim := { program := "ytmbcegljmhcdeaagreat", sum := "eca2288e19c2926119069b548919417cf96aa7504e8d2adfc8db35d6c2f7248f", func := "signet/signetlaw15.ZonePlays", spec := "zonePlays", unfollowed := true, recurses := true, apart := false }
def ZonePlaysSaid : Prop := zonePlaysRow.holds Tryz.pinned (OpenSpec.ofChange zonePlaysSpec)

/-- ITS FALSE NEIGHBOUR: 'it returns false'. Refute it at one input. -/
def zonePlaysWrong : ChangeSpec := { name := "zonePlays", fn := fun _ => fun
  | [d] => { results := [.lit (.bool false)], args := [d] }
  | _ => none }
def ZonePlaysWrongFalsely : Prop := zonePlaysRow.holds Tryz.pinned (OpenSpec.ofChange zonePlaysWrong)

/-- 'signetlaw15.ZoneTells': WHATEVER THE INPUT: true; the input reads as it did. -/
def zoneTellsSpec : ChangeSpec := { name := "zoneTells", fn := fun _ => fun
  | [d1, d2, d3, d4] => { results := [.lit (.bool true)], args := [d1, d2, d3, d4] }
  | _ => none }
def zoneTellsRow : OpenClaim := { program := "ytmbcegljmhcdeaagreat", sum := "eca2288e19c2926119069b548919417cf96aa7504e8d2adfc8db35d6c2f7248f", func := "signet/signetlaw15.ZoneTells", spec := "zoneTells", unfollowed := true, recurses := true, apart := false }
def ZoneTellsSaid : Prop := zoneTellsRow.holds Tryz.pinned (OpenSpec.ofChange zoneTellsSpec)

/-- ITS FALSE NEIGHBOUR: 'it returns false'. Refute it at one input. -/
def zoneTellsWrong : ChangeSpec := { name := "zoneTells", fn := fun _ => fun
  | [d1, d2, d3, d4] => { results := [.lit (.bool false)], args := [d1, d2, d3, d4] }
  | _ => none }
def ZoneTellsWrongFalsely : Prop := zoneTellsRow.holds Tryz.pinned (OpenSpec.ofChange zoneTellsWrong)

/-- 'signetlaw16.LookFinds': WHATEVER THE INPUT: true; the input reads as it did. -/
def lookFindsSpec : ChangeSpec := { name := "lookFinds", fn := fun _ => fun
  | [d1, d2, d3, d4] => { results := [.lit (.bool true)], args := [d1, d2, d3, d4] }
  | _ => none }
def lookFindsRow : OpenClaim := { program := "ytmbcegljmhcdeaagreat", sum := "eca2288e19c2926119069b548919417cf96aa7504e8d2adfc8db35d6c2f7248f", func := "signet/signetlaw16.LookFinds", spec := "lookFinds", unfollowed := true, recurses := true, apart := false }
def LookFindsSaid : Prop := lookFindsRow.holds Tryz.pinned (OpenSpec.ofChange lookFindsSpec)

/-- ITS FALSE NEIGHBOUR: 'it returns false'. Refute it at one input. -/
def lookFindsWrong : ChangeSpec := { name := "lookFinds", fn := fun _ => fun
  | [d1, d2, d3, d4] => { results := [.lit (.bool false)], args := [d1, d2, d3, d4] }
  | _ => none }
def LookFindsWrongFalsely : Prop := lookFindsRow.holds Tryz.pinned (OpenSpec.ofChange lookFindsWrong)

/-- 'signetlaw16.LookClosest': WHATEVER THE INPUT: true; the input reads as it did. -/
def lookClosestSpec : ChangeSpec := { name := "lookClosest", fn := fun _ => fun
  | [d1, d2, d3] => { results := [.lit (.bool true)], args := [d1, d2, d3] }
  | _ => none }
def lookClosestRow : OpenClaim := { program := "ytmbcegljmhcdeaagreat", sum := "eca2288e19c2926119069b548919417cf96aa7504e8d2adfc8db35d6c2f7248f", func := "signet/signetlaw16.LookClosest", spec := "lookClosest", unfollowed := true, recurses := true, apart := false }
def LookClosestSaid : Prop := lookClosestRow.holds Tryz.pinned (OpenSpec.ofChange lookClosestSpec)

/-- ITS FALSE NEIGHBOUR: 'it returns false'. Refute it at one input. -/
def lookClosestWrong : ChangeSpec := { name := "lookClosest", fn := fun _ => fun
  | [d1, d2, d3] => { results := [.lit (.bool false)], args := [d1, d2, d3] }
  | _ => none }
def LookClosestWrongFalsely : Prop := lookClosestRow.holds Tryz.pinned (OpenSpec.ofChange lookClosestWrong)

/-- 'signetlaw16.LookRaw': WHATEVER THE INPUT: true; the input reads as it did. -/
def lookRawSpec : ChangeSpec := { name := "lookRaw", fn := fun _ => fun
  | [d1, d2, d3] => { results := [.lit (.bool true)], args := [d1, d2, d3] }
  | _ => none }
def lookRawRow : OpenClaim := { program := "ytmbcegljmhcdeaagreat", sum := "eca2288e19c2926119069b548919417cf96aa7504e8d2adfc8db35d6c2f7248f", func := "signet/signetlaw16.LookRaw", spec := "lookRaw", unfollowed := true, recurses := true, apart := false }
def LookRawSaid : Prop := lookRawRow.holds Tryz.pinned (OpenSpec.ofChange lookRawSpec)

/-- ITS FALSE NEIGHBOUR: 'it returns false'. Refute it at one input. -/
def lookRawWrong : ChangeSpec := { name := "lookRaw", fn := fun _ => fun
  | [d1, d2, d3] => { results := [.lit (.bool false)], args := [d1, d2, d3] }
  | _ => none }
def LookRawWrongFalsely : Prop := lookRawRow.holds Tryz.pinned (OpenSpec.ofChange lookRawWrong)

/-- 'signetlaw16.LookAliases': WHATEVER THE INPUT: true; the input reads as it did. -/
def lookAliasesSpec : ChangeSpec := { name := "lookAliases", fn := fun _ => fun
  | [d1, d2, d3] => { results := [.lit (.bool true)], args := [d1, d2, d3] }
  | _ => none }
def lookAliasesRow : OpenClaim := { program := "ytmbcegljmhcdeaagreat", sum := "eca2288e19c2926119069b548919417cf96aa7504e8d2adfc8db35d6c2f7248f", func := "signet/signetlaw16.LookAliases", spec := "lookAliases", unfollowed := true, recurses := true, apart := false }
def LookAliasesSaid : Prop := lookAliasesRow.holds Tryz.pinned (OpenSpec.ofChange lookAliasesSpec)

/-- ITS FALSE NEIGHBOUR: 'it returns false'. Refute it at one input. -/
def lookAliasesWrong : ChangeSpec := { name := "lookAliases", fn := fun _ => fun
  | [d1, d2, d3] => { results := [.lit (.bool false)], args := [d1, d2, d3] }
  | _ => none }
def LookAliasesWrongFalsely : Prop := lookAliasesRow.holds Tryz.pinned (OpenSpec.ofChange lookAliasesWrong)

/-- 'signetlaw16.LookWild': WHATEVER THE INPUT: true; the input reads as it did. -/
def lookWildSpec : ChangeSpec := { name := "lookWild", fn := fun _ => fun
  | [d1, d2] => { results := [.lit (.bool true)], args := [d1, d2] }
  | _ => none }
def lookWildRow : OpenClaim := { program := "ytmbcegljmhcdeaagreat", sum := "eca2288e19c2926119069b548919417cf96aa7504e8d2adfc8db35d6c2f7248f", func := "signet/signetlaw16.LookWild", spec := "lookWild", unfollowed := true, recurses := true, apart := false }
def LookWildSaid : Prop := lookWildRow.holds Tryz.pinned (OpenSpec.ofChange lookWildSpec)

/-- ITS FALSE NEIGHBOUR: 'it returns false'. Refute it at one input. -/
def lookWildWrong : ChangeSpec := { name := "lookWild", fn := fun _ => fun
  | [d1, d2] => { results := [.lit (.bool false)], args := [d1, d2] }
  | _ => none }
def LookWildWrongFalsely : Prop := lookWildRow.holds Tryz.pinned (OpenSpec.ofChange lookWildWrong)

/- THE SECOND FORM. 'bulk': how many values and letters a reading holds, each counted each time it is reached (what is shared counts as often as it is met; a slice's spare places count too). A statement '..UptoSaid' is the law's where the arguments, and the package variables that the reading takes, are together of bulk at most 1048576: NARROWER than '..Said'. Prove '..Said' where nothing that the law and all that it calls make is longer than what came in: it says more and counts as full. Else prove '..UptoSaid'. A law counts once. -/
mutual
def uptoBulk {H : Type} : DataW H → Nat
  | .lit (.string bytes) => bytes.length + 1
  | .lit _ => 1
  | .nil => 1
  | .ptr d => uptoBulk d + 1
  | .slice elems spare => uptoBulkAll elems + uptoBulkAll spare + 1
  | .agg parts => uptoBulkAll parts + 1
  | .iface _ d => uptoBulk d + 1
  | .map entries => uptoBulkEntries entries + 1
  | .held _ => 1
def uptoBulkAll {H : Type} : List (DataW H) → Nat
  | [] => 0
  | d :: r => uptoBulk d + uptoBulkAll r
def uptoBulkEntries {H : Type} : List (Lit × DataW H) → Nat
  | [] => 0
  | x :: r => uptoBulkEntry x + uptoBulkEntries r
def uptoBulkEntry {H : Type} : Lit × DataW H → Nat
  | (.string bytes, d) => bytes.length + uptoBulk d + 1
  | (_, d) => uptoBulk d + 1
 end
def uptoSmall : (H : Type) → List (DataW H) → Bool := fun _ ds => decide (uptoBulkAll ds ≤ 1048576)
def OpenSpec.upto (s : _root_.Go.ChangeSpec) : _root_.Go.OpenSpec := { _root_.Go.OpenSpec.ofChange s with cond := some uptoSmall }

/-- 'signetlaw15.ZonePlays', WHERE WHAT IT READS IS OF BULK AT MOST 1048576: true; the input reads as it did. -/
def zonePlaysUptoRow : OpenClaim := { program := "ytmbcegljmhcdeaagreat", sum := "eca2288e19c2926119069b548919417cf96aa7504e8d2adfc8db35d6c2f7248f", func := "signet/signetlaw15.ZonePlays", spec := "zonePlays", unfollowed := true, recurses := true, apart := false, narrowed := true }
def ZonePlaysUptoSaid : Prop := zonePlaysUptoRow.holds Tryz.pinned (OpenSpec.upto zonePlaysSpec)

/-- 'signetlaw15.ZoneTells', WHERE WHAT IT READS IS OF BULK AT MOST 1048576: true; the input reads as it did. -/
def zoneTellsUptoRow : OpenClaim := { program := "ytmbcegljmhcdeaagreat", sum := "eca2288e19c2926119069b548919417cf96aa7504e8d2adfc8db35d6c2f7248f", func := "signet/signetlaw15.ZoneTells", spec := "zoneTells", unfollowed := true, recurses := true, apart := false, narrowed := true }
def ZoneTellsUptoSaid : Prop := zoneTellsUptoRow.holds Tryz.pinned (OpenSpec.upto zoneTellsSpec)

/-- 'signetlaw16.LookFinds', WHERE WHAT IT READS IS OF BULK AT MOST 1048576: true; the input reads as it did. -/
def lookFindsUptoRow : OpenClaim := { program := "ytmbcegljmhcdeaagreat", sum := "eca2288e19c2926119069b548919417cf96aa7504e8d2adfc8db35d6c2f7248f", func := "signet/signetlaw16.LookFinds", spec := "lookFinds", unfollowed := true, recurses := true, apart := false, narrowed := true }
def LookFindsUptoSaid : Prop := lookFindsUptoRow.holds Tryz.pinned (OpenSpec.upto lookFindsSpec)

/-- 'signetlaw16.LookClosest', WHERE WHAT IT READS IS OF BULK AT MOST 1048576: true; the input reads as it did. -/
def lookClosestUptoRow : OpenClaim := { program := "ytmbcegljmhcdeaagreat", sum := "eca2288e19c2926119069b548919417cf96aa7504e8d2adfc8db35d6c2f7248f", func := "signet/signetlaw16.LookClosest", spec := "lookClosest", unfollowed := true, recurses := true, apart := false, narrowed := true }
def LookClosestUptoSaid : Prop := lookClosestUptoRow.holds Tryz.pinned (OpenSpec.upto lookClosestSpec)

/-- 'signetlaw16.LookRaw', WHERE WHAT IT READS IS OF BULK AT MOST 1048576: true; the input reads as it did. -/
def lookRawUptoRow : OpenClaim := { program := "ytmbcegljmhcdeaagreat", sum := "eca2288e19c2926119069b548919417cf96aa7504e8d2adfc8db35d6c2f7248f", func := "signet/signetlaw16.LookRaw", spec := "lookRaw", unfollowed := true, recurses := true, apart := false, narrowed := true }
def LookRawUptoSaid : Prop := lookRawUptoRow.holds Tryz.pinned (OpenSpec.upto lookRawSpec)

/-- 'signetlaw16.LookAliases', WHERE WHAT IT READS IS OF BULK AT MOST 1048576: true; the input reads as it did. -/
def lookAliasesUptoRow : OpenClaim := { program := "ytmbcegljmhcdeaagreat", sum := "eca2288e19c2926119069b548919417cf96aa7504e8d2adfc8db35d6c2f7248f", func := "signet/signetlaw16.LookAliases", spec := "lookAliases", unfollowed := true, recurses := true, apart := false, narrowed := true }
def LookAliasesUptoSaid : Prop := lookAliasesUptoRow.holds Tryz.pinned (OpenSpec.upto lookAliasesSpec)

/-- 'signetlaw16.LookWild', WHERE WHAT IT READS IS OF BULK AT MOST 1048576: true; the input reads as it did. -/
def lookWildUptoRow : OpenClaim := { program := "ytmbcegljmhcdeaagreat", sum := "eca2288e19c2926119069b548919417cf96aa7504e8d2adfc8db35d6c2f7248f", func := "signet/signetlaw16.LookWild", spec := "lookWild", unfollowed := true, recurses := true, apart := false, narrowed := true }
def LookWildUptoSaid : Prop := lookWildUptoRow.holds Tryz.pinned (OpenSpec.upto lookWildSpec)

end Rows
end Go.Proofs.YtmbcegljmhcdeaaGreat
