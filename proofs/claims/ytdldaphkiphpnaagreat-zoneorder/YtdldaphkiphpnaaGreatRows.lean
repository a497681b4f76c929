/-
  No cell of these rows narrows 'for every input' (looked for: loops, veiled, ifaces, maps, wideKeys, modest, calm, conditions, laid).
  DERIVED. THE GIVEN ROWS OF THIS SEAT. 6 by the template 'for every input the law returns true; each argument reads behind the call as it read before'; 0 by the template 'total and deterministic' (their statements: YtdldaphkiphpnaaGreatTotals.lean).
  GIVEN WITH THE SEED: the statements are not yours to turn. If you find one false, say at which input.
  Laid BY PROGRAM, IN A SANDBOX (cutbox-rows.mjs): the forced cells as the released guide's own fill.sh prints them over the translation 38e030feb5b59e89… (all of the seat's roots in one cut). By AI agents, Wed Nov 11 2026. No macro, syntax, notation, axiom, sorry.
-/
import Derived.Test.YtdldaphkiphpnaaGreatChecked
import GoSem.Claim
import GoSem.ClaimJoined
import GoSem.ClaimMapViews
import Derived.JoinedTies
import Derived.KernelRfl
namespace Go.Proofs.YtdldaphkiphpnaaGreat
/- THE CELL 'sum', in the pinned program and in every row, IS THE sha256 OF THE DUMP (.gsa) THAT YtdldaphkiphpnaaGreatProg.lean LOADS. Nothing in Lean hashes anything: it is a label: what it is worth is what the hold of that sum in a sandbox is worth. -/
noncomputable def Tryz.pinned : Pinned := { name := "ytdldaphkiphpnaagreat", sum := "38e030feb5b59e8922f5bb451ff1dd54fd9914220ca9b79fd37184b3634a57ba", checked := Tryz.checked }
namespace Rows
def none {H : Type} : Left H := { results := [], args := [] }

/-- 'signetlaw15.ZonePlays': WHATEVER THE INPUT: true; the input reads as it did. -/
def zonePlaysSpec : ChangeSpec := { name := "zonePlays", fn := fun _ => fun
  | [d] => { results := [.lit (.bool true)], args := [d] }
  | _ => none }
def zonePlaysRow : OpenClaim := { program := "ytdldaphkiphpnaagreat", sum := "38e030feb5b59e8922f5bb451ff1dd54fd9914220ca9b79fd37184b3634a57ba", func := "signet/signetlaw15.ZonePlays", spec := "zonePlays", unfollowed := true, recurses := true, apart := false }
def ZonePlaysSaid : Prop := zonePlaysRow.holds Tryz.pinned (OpenSpec.ofChange zonePlaysSpec)

/-- ITS FALSE NEIGHBOUR: 'it returns false'. Refute it at one input. -/
def zonePlaysWrong : ChangeSpec := { name := "zonePlays", fn := fun _ => fun
  | [d] => { results := [.lit (.bool false)], args := [d] }
  | _ => none }
def ZonePlaysWrongFalsely : Prop := zonePlaysRow.holds Tryz.pinned (OpenSpec.ofChange zonePlaysWrong)

/-- 'signetlaw15.ZoneTells': WHATEVER THE INPUT: true; the input reads as it did. -/
def zoneTellsSpec : ChangeSpec := { name := "zoneTells", fn := fun _ => fun
  | [d1, d2, d3, d4] => { results := [.lit (.bool true)], args := [d1, d2, d3, d4] }
  | _ => none }
def zoneTellsRow : OpenClaim := { program := "ytdldaphkiphpnaagreat", sum := "38e030feb5b59e8922f5bb451ff1dd54fd9914220ca9b79fd37184b3634a57ba", func := "signet/signetlaw15.ZoneTells", spec := "zoneTells", unfollowed := true, recurses := true, apart := false }
def ZoneTellsSaid : Prop := zoneTellsRow.holds Tryz.pinned (OpenSpec.ofChange zoneTellsSpec)

/-- ITS FALSE NEIGHBOUR: 'it returns false'. Refute it at one input. -/
def zoneTellsWrong : ChangeSpec := { name := "zoneTells", fn := fun _ => fun
  | [d1, d2, d3, d4] => { results := [.lit (.bool false)], args := [d1, d2, d3, d4] }
  | _ => none }
def ZoneTellsWrongFalsely : Prop := zoneTellsRow.holds Tryz.pinned (OpenSpec.ofChange zoneTellsWrong)

/-- 'signetlaw15.ZoneCopies': WHATEVER THE INPUT: true; the input reads as it did. -/
def zoneCopiesSpec : ChangeSpec := { name := "zoneCopies", fn := fun _ => fun
  | [d1, d2] => { results := [.lit (.bool true)], args := [d1, d2] }
  | _ => none }
def zoneCopiesRow : OpenClaim := { program := "ytdldaphkiphpnaagreat", sum := "38e030feb5b59e8922f5bb451ff1dd54fd9914220ca9b79fd37184b3634a57ba", func := "signet/signetlaw15.ZoneCopies", spec := "zoneCopies", inPlace := ["maps.clone"], unfollowed := true, recurses := true, apart := false }
def ZoneCopiesSaid : Prop := zoneCopiesRow.holds Tryz.pinned (OpenSpec.ofChange zoneCopiesSpec)

/-- ITS FALSE NEIGHBOUR: 'it returns false'. Refute it at one input. -/
def zoneCopiesWrong : ChangeSpec := { name := "zoneCopies", fn := fun _ => fun
  | [d1, d2] => { results := [.lit (.bool false)], args := [d1, d2] }
  | _ => none }
def ZoneCopiesWrongFalsely : Prop := zoneCopiesRow.holds Tryz.pinned (OpenSpec.ofChange zoneCopiesWrong)

/-- 'signetlaw15.ZoneFull': WHATEVER THE INPUT: true; the input reads as it did. -/
def zoneFullSpec : ChangeSpec := { name := "zoneFull", fn := fun _ => fun
  | [d1, d2] => { results := [.lit (.bool true)], args := [d1, d2] }
  | _ => none }
def zoneFullRow : OpenClaim := { program := "ytdldaphkiphpnaagreat", sum := "38e030feb5b59e8922f5bb451ff1dd54fd9914220ca9b79fd37184b3634a57ba", func := "signet/signetlaw15.ZoneFull", spec := "zoneFull", unfollowed := true, recurses := true, apart := false }
def ZoneFullSaid : Prop := zoneFullRow.holds Tryz.pinned (OpenSpec.ofChange zoneFullSpec)

/-- ITS FALSE NEIGHBOUR: 'it returns false'. Refute it at one input. -/
def zoneFullWrong : ChangeSpec := { name := "zoneFull", fn := fun _ => fun
  | [d1, d2] => { results := [.lit (.bool false)], args := [d1, d2] }
  | _ => none }
def ZoneFullWrongFalsely : Prop := zoneFullRow.holds Tryz.pinned (OpenSpec.ofChange zoneFullWrong)

/-- 'signetlaw15.ZoneOrder': WHATEVER THE INPUT: true; the input reads as it did. -/
def zoneOrderSpec : ChangeSpec := { name := "zoneOrder", fn := fun _ => fun
  | [d1, d2] => { results := [.lit (.bool true)], args := [d1, d2] }
  | _ => none }
def zoneOrderRow : OpenClaim := { program := "ytdldaphkiphpnaagreat", sum := "38e030feb5b59e8922f5bb451ff1dd54fd9914220ca9b79fd37184b3634a57ba", func := "signet/signetlaw15.ZoneOrder", spec := "zoneOrder", unfollowed := true, recurses := true, apart := false }
def ZoneOrderSaid : Prop := zoneOrderRow.holds Tryz.pinned (OpenSpec.ofChange zoneOrderSpec)

/-- ITS FALSE NEIGHBOUR: 'it returns false'. Refute it at one input. -/
def zoneOrderWrong : ChangeSpec := { name := "zoneOrder", fn := fun _ => fun
  | [d1, d2] => { results := [.lit (.bool false)], args := [d1, d2] }
  | _ => none }
def ZoneOrderWrongFalsely : Prop := zoneOrderRow.holds Tryz.pinned (OpenSpec.ofChange zoneOrderWrong)

/-- 'signetlaw15.ZoneTwice': WHATEVER THE INPUT: true; the input reads as it did. -/
def zoneTwiceSpec : ChangeSpec := { name := "zoneTwice", fn := fun _ => fun
  | [d1, d2] => { results := [.lit (.bool true)], args := [d1, d2] }
  | _ => none }
def zoneTwiceRow : OpenClaim := { program := "ytdldaphkiphpnaagreat", sum := "38e030feb5b59e8922f5bb451ff1dd54fd9914220ca9b79fd37184b3634a57ba", func := "signet/signetlaw15.ZoneTwice", spec := "zoneTwice", unfollowed := true, recurses := true, apart := false }
def ZoneTwiceSaid : Prop := zoneTwiceRow.holds Tryz.pinned (OpenSpec.ofChange zoneTwiceSpec)

/-- ITS FALSE NEIGHBOUR: 'it returns false'. Refute it at one input. -/
def zoneTwiceWrong : ChangeSpec := { name := "zoneTwice", fn := fun _ => fun
  | [d1, d2] => { results := [.lit (.bool false)], args := [d1, d2] }
  | _ => none }
def ZoneTwiceWrongFalsely : Prop := zoneTwiceRow.holds Tryz.pinned (OpenSpec.ofChange zoneTwiceWrong)

/- THE SECOND FORM. 'bulk': how many values and letters a reading holds, each counted each time it is reached (what is shared counts as often as it is met; a slice's spare places count too). A statement '..UptoSaid' is the law's where the arguments, and the package variables that the reading takes, are together of bulk at most 1048576: NARROWER than '..Said'. Prove '..Said' where nothing that the law and all that it calls make is longer than what came in: it says more and counts as full. Else prove '..UptoSaid'. A law counts once. -/
mutual
def uptoBulk {H : Type} : DataW H → Nat
  | .lit (.string bytes) => bytes.length + 1
  | .lit _ => 1
  | .nil => 1
  | .ptr d => uptoBulk d + 1
  | .slice elems spare => uptoBulkAll elems + uptoBulkAll spare + 1
  | .agg parts => uptoBulkAll parts + 1
  | .iface _ d => uptoBulk d + 1
  | .map entries => uptoBulkEntries entries + 1
  | .held _ => 1
def uptoBulkAll {H : Type} : List (DataW H) → Nat
  | [] => 0
  | d :: r => uptoBulk d + uptoBulkAll r
def uptoBulkEntries {H : Type} : List (Lit × DataW H) → Nat
  | [] => 0
  | x :: r => uptoBulkEntry x + uptoBulkEntries r
def uptoBulkEntry {H : Type} : Lit × DataW H → Nat
  | (.string bytes, d) => bytes.length + uptoBulk d + 1
  | (_, d) => uptoBulk d + 1
 end
def uptoSmall : (H : Type) → List (DataW H) → Bool := fun _ ds => decide (uptoBulkAll ds ≤ 1048576)
def OpenSpec.upto (s : _root_.Go.ChangeSpec) : _root_.Go.OpenSpec := { _root_.Go.OpenSpec.ofChange s with cond := some uptoSmall }

/-- 'signetlaw15.ZonePlays', WHERE WHAT IT READS IS OF BULK AT MOST 1048576: true; the input reads as it did. -/
def zonePlaysUptoRow : OpenClaim := { program := "ytdldaphkiphpnaagreat", sum := "38e030feb5b59e8922f5bb451ff1dd54fd9914220ca9b79fd37184b3634a57ba", func := "signet/signetlaw15.ZonePlays", spec := "zonePlays", unfollowed := true, recurses := true, apart := false, narrowed := true }
def ZonePlaysUptoSaid : Prop := zonePlaysUptoRow.holds Tryz.pinned (OpenSpec.upto zonePlaysSpec)

/-- 'signetlaw15.ZoneTells', WHERE WHAT IT READS IS OF BULK AT MOST 1048576: true; the input reads as it did. -/
def zoneTellsUptoRow : OpenClaim := { program := "ytdldaphkiphpnaagreat", sum := "38e030feb5b59e8922f5bb451ff1dd54fd9914220ca9b79fd37184b3634a57ba", func := "signet/signetlaw15.ZoneTells", spec := "zoneTells", unfollowed := true, recurses := true, apart := false, narrowed := true }
def ZoneTellsUptoSaid : Prop := zoneTellsUptoRow.holds Tryz.pinned (OpenSpec.upto zoneTellsSpec)

/-- 'signetlaw15.ZoneCopies', WHERE WHAT IT READS IS OF BULK AT MOST 1048576: true; the input reads as it did. -/
def zoneCopiesUptoRow : OpenClaim := { program := "ytdldaphkiphpnaagreat", sum := "38e030feb5b59e8922f5bb451ff1dd54fd9914220ca9b79fd37184b3634a57ba", func := "signet/signetlaw15.ZoneCopies", spec := "zoneCopies", inPlace := ["maps.clone"], unfollowed := true, recurses := true, apart := false, narrowed := true }
def ZoneCopiesUptoSaid : Prop := zoneCopiesUptoRow.holds Tryz.pinned (OpenSpec.upto zoneCopiesSpec)

/-- 'signetlaw15.ZoneFull', WHERE WHAT IT READS IS OF BULK AT MOST 1048576: true; the input reads as it did. -/
def zoneFullUptoRow : OpenClaim := { program := "ytdldaphkiphpnaagreat", sum := "38e030feb5b59e8922f5bb451ff1dd54fd9914220ca9b79fd37184b3634a57ba", func := "signet/signetlaw15.ZoneFull", spec := "zoneFull", unfollowed := true, recurses := true, apart := false, narrowed := true }
def ZoneFullUptoSaid : Prop := zoneFullUptoRow.holds Tryz.pinned (OpenSpec.upto zoneFullSpec)

/-- 'signetlaw15.ZoneOrder', WHERE WHAT IT READS IS OF BULK AT MOST 1048576: true; the input reads as it did. -/
def zoneOrderUptoRow : OpenClaim := { program := "ytdldaphkiphpnaagreat", sum := "38e030feb5b59e8922f5bb451ff1dd54fd9914220ca9b79fd37184b3634a57ba", func := "signet/signetlaw15.ZoneOrder", spec := "zoneOrder", unfollowed := true, recurses := true, apart := false, narrowed := true }
def ZoneOrderUptoSaid : Prop := zoneOrderUptoRow.holds Tryz.pinned (OpenSpec.upto zoneOrderSpec)

/-- 'signetlaw15.ZoneTwice', WHERE WHAT IT READS IS OF BULK AT MOST 1048576: true; the input reads as it did. -/
def zoneTwiceUptoRow : OpenClaim := { program := "ytdldaphkiphpnaagreat", sum := "38e030feb5b59e8922f5bb451ff1dd54fd9914220ca9b79fd37184b3634a57ba", func := "signet/signetlaw15.ZoneTwice", spec := "zoneTwice", unfollowed := true, recurses := true, apart := false, narrowed := true }
def ZoneTwiceUptoSaid : Prop := zoneTwiceUptoRow.holds Tryz.pinned (OpenSpec.upto zoneTwiceSpec)

end Rows
end Go.Proofs.YtdldaphkiphpnaaGreat
