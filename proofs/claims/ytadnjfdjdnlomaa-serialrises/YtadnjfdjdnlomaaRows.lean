/-
  No cell of these rows narrows 'for every input' (looked for: loops, veiled, ifaces, maps, wideKeys, modest, calm, conditions, laid).
  DERIVED. THE GIVEN ROWS OF THIS SEAT. 4 by the template 'for every input the law returns true; each argument reads behind the call as it read before'; 0 by the template 'total and deterministic' (their statements: YtadnjfdjdnlomaaTotals.lean).
  GIVEN WITH THE SEED: the statements are not yours to turn. If you find one false, say at which input.
  Laid BY PROGRAM, IN A SANDBOX (cutbox-rows.mjs): the forced cells as the released guide's own fill.sh prints them over the translation 17ab96a2199a57cf… (all of the seat's roots in one cut). By AI agents, Wed Nov 11 2026. No macro, syntax, notation, axiom, sorry.
-/
import Derived.Test.YtadnjfdjdnlomaaChecked
import GoSem.Claim
import GoSem.ClaimJoined
import GoSem.ClaimMapViews
import Derived.JoinedTies
import Derived.KernelRfl
namespace Go.Proofs.Ytadnjfdjdnlomaa
/- THE CELL 'sum', in the pinned program and in every row, IS THE sha256 OF THE DUMP (.gsa) THAT YtadnjfdjdnlomaaProg.lean LOADS. Nothing in Lean hashes anything: it is a label: what it is worth is what the hold of that sum in a sandbox is worth. -/
noncomputable def Try.pinned : Pinned := { name := "ytadnjfdjdnlomaa", sum := "17ab96a2199a57cf3d6c211b6be7b9dc7f73d7db9ec149172be935bc2103a1de", checked := Try.checked }
namespace Rows
def none {H : Type} : Left H := { results := [], args := [] }

/-- 'signetlaw13.SerialCounts': WHATEVER THE INPUT: true; the input reads as it did. -/
def serialCountsSpec : ChangeSpec := { name := "serialCounts", fn := fun _ => fun
  | [d1, d2] => { results := [.lit (.bool true)], args := [d1, d2] }
  | _ => none }
def serialCountsRow : OpenClaim := { program := "ytadnjfdjdnlomaa", sum := "17ab96a2199a57cf3d6c211b6be7b9dc7f73d7db9ec149172be935bc2103a1de", func := "signet/signetlaw13.SerialCounts", spec := "serialCounts", apart := false }
def SerialCountsSaid : Prop := serialCountsRow.holds Try.pinned (OpenSpec.ofChange serialCountsSpec)

/-- ITS FALSE NEIGHBOUR: 'it returns false'. Refute it at one input. -/
def serialCountsWrong : ChangeSpec := { name := "serialCounts", fn := fun _ => fun
  | [d1, d2] => { results := [.lit (.bool false)], args := [d1, d2] }
  | _ => none }
def SerialCountsWrongFalsely : Prop := serialCountsRow.holds Try.pinned (OpenSpec.ofChange serialCountsWrong)

/-- 'signetlaw13.SerialRises': WHATEVER THE INPUT: true; the input reads as it did. -/
def serialRisesSpec : ChangeSpec := { name := "serialRises", fn := fun _ => fun
  | [d1, d2] => { results := [.lit (.bool true)], args := [d1, d2] }
  | _ => none }
def serialRisesRow : OpenClaim := { program := "ytadnjfdjdnlomaa", sum := "17ab96a2199a57cf3d6c211b6be7b9dc7f73d7db9ec149172be935bc2103a1de", func := "signet/signetlaw13.SerialRises", spec := "serialRises", apart := false }
def SerialRisesSaid : Prop := serialRisesRow.holds Try.pinned (OpenSpec.ofChange serialRisesSpec)

/-- ITS FALSE NEIGHBOUR: 'it returns false'. Refute it at one input. -/
def serialRisesWrong : ChangeSpec := { name := "serialRises", fn := fun _ => fun
  | [d1, d2] => { results := [.lit (.bool false)], args := [d1, d2] }
  | _ => none }
def SerialRisesWrongFalsely : Prop := serialRisesRow.holds Try.pinned (OpenSpec.ofChange serialRisesWrong)

/-- 'signetlaw13.SerialRounds': WHATEVER THE INPUT: true; the input reads as it did. -/
def serialRoundsSpec : ChangeSpec := { name := "serialRounds", fn := fun _ => fun
  | [d1, d2] => { results := [.lit (.bool true)], args := [d1, d2] }
  | _ => none }
def serialRoundsRow : OpenClaim := { program := "ytadnjfdjdnlomaa", sum := "17ab96a2199a57cf3d6c211b6be7b9dc7f73d7db9ec149172be935bc2103a1de", func := "signet/signetlaw13.SerialRounds", spec := "serialRounds", apart := false }
def SerialRoundsSaid : Prop := serialRoundsRow.holds Try.pinned (OpenSpec.ofChange serialRoundsSpec)

/-- ITS FALSE NEIGHBOUR: 'it returns false'. Refute it at one input. -/
def serialRoundsWrong : ChangeSpec := { name := "serialRounds", fn := fun _ => fun
  | [d1, d2] => { results := [.lit (.bool false)], args := [d1, d2] }
  | _ => none }
def SerialRoundsWrongFalsely : Prop := serialRoundsRow.holds Try.pinned (OpenSpec.ofChange serialRoundsWrong)

/-- 'signetlaw13.SerialTimes': WHATEVER THE INPUT: true; the input reads as it did. -/
def serialTimesSpec : ChangeSpec := { name := "serialTimes", fn := fun _ => fun
  | [d1, d2, d3] => { results := [.lit (.bool true)], args := [d1, d2, d3] }
  | _ => none }
def serialTimesRow : OpenClaim := { program := "ytadnjfdjdnlomaa", sum := "17ab96a2199a57cf3d6c211b6be7b9dc7f73d7db9ec149172be935bc2103a1de", func := "signet/signetlaw13.SerialTimes", spec := "serialTimes", apart := false }
def SerialTimesSaid : Prop := serialTimesRow.holds Try.pinned (OpenSpec.ofChange serialTimesSpec)

/-- ITS FALSE NEIGHBOUR: 'it returns false'. Refute it at one input. -/
def serialTimesWrong : ChangeSpec := { name := "serialTimes", fn := fun _ => fun
  | [d1, d2, d3] => { results := [.lit (.bool false)], args := [d1, d2, d3] }
  | _ => none }
def SerialTimesWrongFalsely : Prop := serialTimesRow.holds Try.pinned (OpenSpec.ofChange serialTimesWrong)

/- THE SECOND FORM. 'bulk': how many values and letters a reading holds, each counted each time it is reached (what is shared counts as often as it is met; a slice's spare places count too). A statement '..UptoSaid' is the law's where the arguments, and the package variables that the reading takes, are together of bulk at most 1048576: NARROWER than '..Said'. Prove '..Said' where nothing that the law and all that it calls make is longer than what came in: it says more and counts as full. Else prove '..UptoSaid'. A law counts once. -/
mutual
def uptoBulk {H : Type} : DataW H → Nat
  | .lit (.string bytes) => bytes.length + 1
  | .lit _ => 1
  | .nil => 1
  | .ptr d => uptoBulk d + 1
  | .slice elems spare => uptoBulkAll elems + uptoBulkAll spare + 1
  | .agg parts => uptoBulkAll parts + 1
  | .iface _ d => uptoBulk d + 1
  | .map entries => uptoBulkEntries entries + 1
  | .held _ => 1
def uptoBulkAll {H : Type} : List (DataW H) → Nat
  | [] => 0
  | d :: r => uptoBulk d + uptoBulkAll r
def uptoBulkEntries {H : Type} : List (Lit × DataW H) → Nat
  | [] => 0
  | x :: r => uptoBulkEntry x + uptoBulkEntries r
def uptoBulkEntry {H : Type} : Lit × DataW H → Nat
  | (.string bytes, d) => bytes.length + uptoBulk d + 1
  | (_, d) => uptoBulk d + 1
 end
def uptoSmall : (H : Type) → List (DataW H) → Bool := fun _ ds => decide (uptoBulkAll ds ≤ 1048576)
def OpenSpec.upto (s : _root_.Go.ChangeSpec) : _root_.Go.OpenSpec := { _root_.Go.OpenSpec.ofChange s with cond := some uptoSmall }

/-- 'signetlaw13.SerialCounts', WHERE WHAT IT READS IS OF BULK AT MOST 1048576: true; the input reads as it did. -/
def serialCountsUptoRow : OpenClaim := { program := "ytadnjfdjdnlomaa", sum := "17ab96a2199a57cf3d6c211b6be7b9dc7f73d7db9ec149172be935bc2103a1de", func := "signet/signetlaw13.SerialCounts", spec := "serialCounts", apart := false, narrowed := true }
def SerialCountsUptoSaid : Prop := serialCountsUptoRow.holds Try.pinned (OpenSpec.upto serialCountsSpec)

/-- 'signetlaw13.SerialRises', WHERE WHAT IT READS IS OF BULK AT MOST 1048576: true; the input reads as it did. -/
def serialRisesUptoRow : OpenClaim := { program := "ytadnjfdjdnlomaa", sum := "17ab96a2199a57cf3d6c211b6be7b9dc7f73d7db9ec149172be935bc2103a1de", func := "signet/signetlaw13.SerialRises", spec := "serialRises", apart := false, narrowed := true }
def SerialRisesUptoSaid : Prop := serialRisesUptoRow.holds Try.pinned (OpenSpec.upto serialRisesSpec)

/-- 'signetlaw13.SerialRounds', WHERE WHAT IT READS IS OF BULK AT MOST 1048576: true; the input reads as it did. -/
def serialRoundsUptoRow : OpenClaim := { program := "ytadnjfdjdnlomaa", sum := "17ab96a2199a57cf3d6c211b6be7b9dc7f73d7db9ec149172be935bc2103a1de", func := "signet/signetlaw13.SerialRounds", spec := "serialRounds", apart := false, narrowed := true }
def SerialRoundsUptoSaid : Prop := serialRoundsUptoRow.holds Try.pinned (OpenSpec.upto serialRoundsSpec)

/-- 'signetlaw13.SerialTimes', WHERE WHAT IT READS IS OF BULK AT MOST 1048576: true; the input reads as it did. -/
def serialTimesUptoRow : OpenClaim := { program := "ytadnjfdjdnlomaa", sum := "17ab96a2199a57cf3d6c211b6be7b9dc7f73d7db9ec149172be935bc2103a1de", func := "signet/signetlaw13.SerialTimes", spec := "serialTimes", apart := false, narrowed := true }
def SerialTimesUptoSaid : Prop := serialTimesUptoRow.holds Try.pinned (OpenSpec.upto serialTimesSpec)

end Rows
end Go.Proofs.Ytadnjfdjdnlomaa
