/- Arguments: numbers. -/
import Derived.Test.YtdldaphkiphpnaaGreatRows
import Derived.Test.YtdldaphkiphpnaaGreatZlv
import Derived.LaidMore
import Derived.Lay
import Derived.OpenShut
import Derived.ProofKit
import Derived.WalkKit
import Derived.WalkLawsBesides
namespace Go.Proofs.YtdldaphkiphpnaaGreat
open Go.RowKit
open Go.ChangeShapes Go.WideShapes Go.ChangeAt Go.WideMaps Go.WideElems
set_option maxRecDepth 5000 in
theorem ownK : ownKnob Tryz.prog.godebug = none := by kernel_rfl
set_option maxRecDepth 5000 in
theorem laidOutT : laidOutB Tryz.prog = true := by kernel_rfl
set_option maxRecDepth 5000 in
theorem u32_of {a : Int} (h : (Lit.int .u32 a).wf = true) : ∃ b : Nat, a = (b : Int) ∧ b < 4294967296 := by
  have h1 : IntKind.u32.min = 0 := by decide
  have h2 : IntKind.u32.max = 4294967295 := by decide
  simp only [Lit.wf, Bool.and_eq_true, decide_eq_true_eq, h1, h2] at h
  exact ⟨a.toNat, by omega, by omega⟩
set_option maxRecDepth 5000 in
theorem u16_of {a : Int} (h : (Lit.int .u16 a).wf = true) : ∃ b : Nat, a = (b : Int) ∧ b < 65536 := by
  have h1 : IntKind.u16.min = 0 := by decide
  have h2 : IntKind.u16.max = 65535 := by decide
  simp only [Lit.wf, Bool.and_eq_true, decide_eq_true_eq, h1, h2] at h
  exact ⟨a.toNat, by omega, by omega⟩
set_option maxRecDepth 5000 in
theorem u8_of {a : Int} (h : (Lit.int .u8 a).wf = true) : ∃ b : Nat, a = (b : Int) ∧ b < 256 := by
  have h1 : IntKind.u8.min = 0 := by decide
  have h2 : IntKind.u8.max = 255 := by decide
  simp only [Lit.wf, Bool.and_eq_true, decide_eq_true_eq, h1, h2] at h
  exact ⟨a.toNat, by omega, by omega⟩
end Go.Proofs.YtdldaphkiphpnaaGreat
