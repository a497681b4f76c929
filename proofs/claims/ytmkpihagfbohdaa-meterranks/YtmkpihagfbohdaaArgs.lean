/- What came in, opened: numbers of 64 and 8 bits, slices of numbers of 64 bits. -/
import Derived.Test.YtmkpihagfbohdaaSrt
import Derived.Test.YtmkpihagfbohdaaRows
import Derived.ProofKit
import Derived.LaidMore
import Derived.OpenShut
import Derived.Lay
import Derived.Stop.Joined
namespace Go.Proofs.Ytmkpihagfbohdaa
open Go.ChangeShapes Go.WideShapes Go.ChangeAt Go.WideMaps Go.WideElems Go.RowKit
set_option maxRecDepth 5000 in
theorem ownK : ownKnob Try.prog.godebug = none := by kernel_rfl
set_option maxRecDepth 5000 in
theorem laidOutT : laidOutB Try.prog = true := by kernel_rfl
set_option maxRecDepth 5000 in
theorem u64_of {a : Int} (h : (Lit.int .u64 a).wf = true) : ∃ b : Nat, a = (b : Int) ∧ b < 2 ^ 64 := by
  simp [Lit.wf] at h
  rw [show IntKind.u64.min = 0 from rfl, show IntKind.u64.max = 18446744073709551615 from rfl] at h
  exact ⟨a.toNat, by omega, by omega⟩
set_option maxRecDepth 5000 in
theorem u8_of {a : Int} (h : (Lit.int .u8 a).wf = true) : ∃ b : Nat, a = (b : Int) ∧ b < 256 := by
  simp [Lit.wf] at h
  rw [show IntKind.u8.min = 0 from rfl, show IntKind.u8.max = 255 from rfl] at h
  exact ⟨a.toNat, by omega, by omega⟩
end Go.Proofs.Ytmkpihagfbohdaa
