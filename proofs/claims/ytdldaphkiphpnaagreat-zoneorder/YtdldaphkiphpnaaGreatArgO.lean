/- Arguments: numbers. -/
import Derived.Test.YtdldaphkiphpnaaGreatRows
import Derived.Test.YtdldaphkiphpnaaGreatZlv
import Derived.LaidMore
import Derived.Lay
import Derived.OpenShut
import Derived.ProofKit
import Derived.WalkKit
import Derived.WalkLawsBesides
import Derived.Test.YtdldaphkiphpnaaGreatZbx
namespace Go.Proofs.YtdldaphkiphpnaaGreat
open Go.RowKit
open Go.ChangeShapes Go.WideShapes Go.ChangeAt Go.WideMaps Go.WideElems
set_option maxRecDepth 5000 in
theorem ownK : ownKnob Tryz.prog.godebug = none := by kernel_rfl
set_option maxRecDepth 5000 in
theorem laidOutT : laidOutB Tryz.prog = true := by kernel_rfl
set_option maxRecDepth 5000 in
theorem u32_of {a : Int} (h : (Lit.int .u32 a).wf = true) : ∃ b : Nat, a = (b : Int) ∧ b < 4294967296 := by
  have h1 : IntKind.u32.min = 0 := by decide
  have h2 : IntKind.u32.max = 4294967295 := by decide
  simp only [Lit.wf, Bool.and_eq_true, decide_eq_true_eq, h1, h2] at h
  exact ⟨a.toNat, by omega, by omega⟩
set_option maxRecDepth 5000 in
theorem u16_of {a : Int} (h : (Lit.int .u16 a).wf = true) : ∃ b : Nat, a = (b : Int) ∧ b < 65536 := by
  have h1 : IntKind.u16.min = 0 := by decide
  have h2 : IntKind.u16.max = 65535 := by decide
  simp only [Lit.wf, Bool.and_eq_true, decide_eq_true_eq, h1, h2] at h
  exact ⟨a.toNat, by omega, by omega⟩
set_option maxRecDepth 5000 in
theorem u8_of {a : Int} (h : (Lit.int .u8 a).wf = true) : ∃ b : Nat, a = (b : Int) ∧ b < 256 := by
  have h1 : IntKind.u8.min = 0 := by decide
  have h2 : IntKind.u8.max = 255 := by decide
  simp only [Lit.wf, Bool.and_eq_true, decide_eq_true_eq, h1, h2] at h
  exact ⟨a.toNat, by omega, by omega⟩
end Go.Proofs.YtdldaphkiphpnaaGreat

/- Arguments: a slice of numbers of 32 bits. -/
namespace Go.Proofs.YtdldaphkiphpnaaGreat
open Go.ChangeShapes Go.WideShapes Go.ChangeAt Go.WideMaps Go.WideElems Go.RowKit
set_option maxRecDepth 5000 in
theorem cellsU32 : Tryz.prog.cellsOf 35 = 1 := by kernel_rfl
set_option maxRecDepth 5000 in
theorem open_u32s {H : Type} {enc : TypeId × Value → H} {W : World} {a0 : Option Addr} {len cap : Nat} {d : DataW H} {p : List MemPlace} (h0 : DataW.Trod enc Tryz.prog W 0 (fun _ => true) true 72 (.slice a0 len cap) d p) :
    ∃ A : List Nat, A.length = len ∧ SlU W a0 A ∧ (∀ x ∈ A, x < 4294967296) ∧ len ≤ maxLen := by
  obtain ⟨fuel, hf⟩ := h0
  rcases open_ints Tryz.underlying72 Tryz.underlying35 cellsU32 hf with ⟨hcs, hx⟩ | ⟨a, len', cap', zs, hcs, _, hl, hm, hz, hx, hcell, hwz⟩
  · simp [Value.cells] at hcs
    obtain ⟨rfl, rfl, rfl⟩ := hcs
    exact ⟨[], rfl, fun h => by simp at h, fun x hx => by simp at hx, Nat.zero_le _⟩
  · simp [Value.cells] at hcs
    obtain ⟨rfl, rfl, rfl⟩ := hcs
    simp only [if_true] at hz
    have hlen : ((zs.take len).map fun z => z.toNat).length = len := by simp; omega
    refine ⟨(zs.take len).map fun z => z.toNat, hlen, fun hn => ?_, fun x hx => ?_, by omega⟩
    · rw [hlen] at hn
      obtain ⟨b, off, rfl, hc⟩ := ints_at hcell (by omega)
      refine ⟨b, off, rfl, block_lt_of_cell (hc 0 (by omega)), fun j hj => ?_⟩
      rw [hlen] at hj
      rw [hc j (by omega)]
      have hjz : j < zs.length := by omega
      have hw := bounds_u32 (hwz _ (List.getElem_mem hjz))
      have e1 : zs.getD j 0 = zs[j] := by simp [hjz]
      have e2 : ((zs.take len).map fun z => z.toNat).getD j 0 = (zs[j]).toNat := by
        simp [hj, hjz]
      rw [e1, e2]
      congr 2; omega
    · obtain ⟨z, hz', rfl⟩ := List.mem_map.1 hx
      have hw := bounds_u32 (hwz _ (List.mem_of_mem_take hz'))
      omega
end Go.Proofs.YtdldaphkiphpnaaGreat
