/- The listed variable, the words of the rounds, as the walks want it; and a start that meets the rows' condition. -/
import Derived.Test.YtpiehjfoojipiaaDoorPut
import Derived.ProofKit
import Derived.LaidMore
import Derived.OpenShut
import Derived.Stop.Joined
import Derived.Lib.LaidTab
import Derived.Test.YtpiehjfoojipiaaDoorBytes
import Derived.Test.YtpiehjfoojipiaaDoorLck
namespace Go.Proofs.YtpiehjfoojipiaaDoor
open Go.ChangeShapes Go.WideShapes Go.ChangeAt Go.WideMaps Go.WideElems Go.RowKit
def laidL : List (String × DataW Unit) := [("signet/hash.roundWords", Rows.laid_signet_hash_roundWords)]
set_option maxRecDepth 5000 in
theorem ownK : ownKnob Tryd.prog.godebug = none := by kernel_rfl
set_option maxRecDepth 5000 in
theorem gTab : Tryd.prog.globalNamed "signet/hash.roundWords" = some 0 := by kernel_rfl
set_option maxRecDepth 5000 in
theorem tTab : (Tryd.prog.globals[0]?).map (·.type) = some 81 := by kernel_rfl
set_option maxRecDepth 5000 in
theorem cells36 : Tryd.prog.cellsOf 31 = 1 := by kernel_rfl
set_option maxRecDepth 5000 in
theorem cells44 : Tryd.prog.cellsOf 81 = 64 := by kernel_rfl
set_option maxRecDepth 5000 in
theorem laid_is : laidL = [("signet/hash.roundWords", Lib.tabData .u32 (Sha.ktab.map fun x => (x.toNat : Int)))] := by kernel_rfl
set_option maxRecDepth 5000 in
theorem tab_of_laid {W : World} (h : laidMetH Tryd.prog laidL W) : Tab W := by
  rw [MakeChecks.laidMetH_plain _ _ _ (by kernel_rfl)] at h
  rw [laid_is] at h
  have hT := Lib.tabIs_of_head gTab tTab Tryd.underlying81 Tryd.underlying31 cells36 cells44 h
  have hc : ∀ i, i < 64 → W.cell? ⟨0, i, none⟩ = some (.int .u32 (Sha.kt i).toNat) := fun i hi => by
    rw [hT.cell gTab i (by simpa [Sha.ktab] using hi)]
    have : (Sha.ktab.map fun x => (x.toNat : Int)).getD i 0 = ((Sha.kt i).toNat : Int) := by
      unfold Sha.kt
      rw [List.getD_eq_getElem?_getD, List.getD_eq_getElem?_getD, List.getElem?_map]
      cases h2 : Sha.ktab[i]? with
      | none => rfl
      | some b => rfl
    rw [this]
  exact ⟨block_lt_of_cell (hc 0 (by omega)), hc⟩
set_option maxRecDepth 5000 in
theorem door_met (os : Os) (args : Array Value) : laidMetH Tryd.prog laidL ((World.doorLaid Tryd.prog 14 os).forCall (fun _ _ => 0) ⟨#[], args, []⟩).memory :=
  laidMetH_of_parts3 (fuel := 8) (laidMet_of_run' 8 (by kernel_rfl) (by kernel_rfl)) (by kernel_rfl) (by kernel_rfl)
end Go.Proofs.YtpiehjfoojipiaaDoor

/- A slice of bytes that came in, opened: its bytes as words of eight bits. -/
namespace Go.Proofs.YtpiehjfoojipiaaDoor
open Go.ChangeShapes Go.WideShapes Go.ChangeAt Go.WideMaps Go.WideElems Go.RowKit
set_option maxRecDepth 5000 in
theorem laidOutT : laidOutB Tryd.prog = true := by kernel_rfl
set_option maxRecDepth 5000 in
theorem byte_of {a : Int} (h : (Lit.int .u8 a).wf = true) : ∃ b : BitVec 8, a = (b.toNat : Int) := by
  have hb := bounds_u8 h
  exact ⟨BitVec.ofNat 8 a.toNat, by rw [BitVec.toNat_ofNat]; omega⟩
set_option maxRecDepth 5000 in
theorem open_bytes {H : Type} {enc : TypeId × Value → H} {W : World} {a0 : Option Addr} {len cap : Nat} {d : DataW H} {p : List MemPlace} (h0 : DataW.Trod enc Tryd.prog W 0 (fun _ => true) true 34 (.slice a0 len cap) d p) :
    ∃ bs : List (BitVec 8), bs.length = len ∧ SlL W a0 bs ∧ (a0 = none → cap = 0) ∧ len ≤ cap ∧ cap ≤ maxLen := by
  obtain ⟨fuel, hf⟩ := h0
  rcases open_ints Tryd.underlying34 Tryd.underlying5 cells5 hf with ⟨hcs, hx⟩ | ⟨a, len', cap', zs, hcs, _, hl, hm, hz, hx, hcell, hwz⟩
  · simp [Value.cells] at hcs
    obtain ⟨rfl, rfl, rfl⟩ := hcs
    exact ⟨[], rfl, SlL.nil _ _, fun _ => rfl, Nat.le_refl _, Nat.zero_le _⟩
  · simp [Value.cells] at hcs
    obtain ⟨rfl, rfl, rfl⟩ := hcs
    simp only [if_true] at hz
    have hlen : ((zs.take len).map fun z => BitVec.ofNat 8 z.toNat).length = len := by simp; omega
    refine ⟨(zs.take len).map fun z => BitVec.ofNat 8 z.toNat, hlen, fun hn => ?_, fun h => (by cases h), hl, hm⟩
    rw [hlen] at hn
    obtain ⟨b, off, rfl, hc⟩ := ints_at hcell (by omega)
    refine ⟨b, off, rfl, block_lt_of_cell (hc 0 (by omega)), fun j hj => ?_⟩
    rw [hlen] at hj
    rw [hc j (by omega)]
    have hjz : j < zs.length := by omega
    have hw := bounds_u8 (hwz _ (List.getElem_mem hjz))
    have e1 : zs.getD j 0 = zs[j] := by simp [hjz]
    have e2 : ((zs.take len).map fun z => BitVec.ofNat 8 z.toNat).getD j 0 = BitVec.ofNat 8 (zs[j]).toNat := by
      simp [hj, hjz]
    rw [e1, e2, BitVec.toNat_ofNat]
    congr 2
    omega
end Go.Proofs.YtpiehjfoojipiaaDoor

/- What came in, opened: an array of eight bytes, numbers. -/
namespace Go.Proofs.YtpiehjfoojipiaaDoor
open Go.ChangeShapes Go.WideShapes Go.ChangeAt Go.WideMaps Go.WideElems Go.RowKit
set_option maxRecDepth 5000 in
theorem cells8T : Tryd.prog.cellsOf 22 = 8 := by kernel_rfl
set_option maxRecDepth 5000 in
theorem okWide_arr8 {W : World} {r : Reach} {b0 : Nat} {v : Value} (h : Value.okWide Tryd.prog W r b0 22 v) : ∃ xs : Array Value, v = .agg xs := by
  simp only [Value.okWide, Tryd.underlying22] at h
  obtain ⟨cs, h1, _⟩ := h
  exact ⟨cs, h1⟩
set_option maxRecDepth 5000 in
theorem open_arr8 {H : Type} {enc : TypeId × Value → H} {W : World} {xs : Array Value} {d : DataW H} {p : List MemPlace} (h0 : DataW.Trod enc Tryd.prog W 0 (fun _ => true) true 22 (.agg xs) d p) : ∃ f : Nat → BitVec 8, xs = rowB 8 f := by
  obtain ⟨fuel, hf⟩ := h0
  have hf' : DataW.trod enc Tryd.prog W 0 (fun _ => true) true fuel 22 xs.toList = some (d, p) := by simpa [Value.cells] using hf
  obtain ⟨ys, m, rfl, _, hl, hn, hg⟩ := DataW.trod_array Tryd.underlying22 hf'
  rw [cells8T] at hl
  have hsz : xs.size = 8 := by simpa using hl
  have hj : ∀ j, j < 8 → ∃ b : BitVec 8, xs[j]? = some (.int .u8 (b.toNat : Int)) := fun j hj => by
    have g := hg j hj
    rw [cells5, Nat.mul_one] at g
    have hjl : j < xs.toList.length := by simp; omega
    rw [List.drop_eq_getElem_cons hjl, List.take_succ_cons, List.take_zero] at g
    have hy : j < ys.length := by omega
    rw [List.getElem?_eq_getElem hy] at g
    obtain ⟨n, hx, _, hw⟩ := DataW.trod_int Tryd.underlying5 g
    obtain ⟨b, rfl⟩ := byte_of hw
    refine ⟨b, ?_⟩
    have h1 : xs.toList[j] = .int .u8 (b.toNat : Int) := by simpa using hx
    rw [← h1]; simp
  refine ⟨fun j => if h : j < 8 then (hj j h).choose else 0, ?_⟩
  apply Array.ext_getElem?
  intro j
  by_cases hjj : j < 8
  · rw [(hj j hjj).choose_spec, rowB_get _ _ _ hjj, dif_pos hjj]
  · rw [Array.getElem?_eq_none (by omega), Array.getElem?_eq_none (by rw [rowB_size]; omega)]
set_option maxRecDepth 5000 in
theorem nat_u8' {m : Int} (h : (Lit.int .u8 m).wf = true) : ∃ q : Nat, m = (q : Int) ∧ q < 256 := ⟨m.toNat, by have := bounds_u8 h; omega, by have := bounds_u8 h; omega⟩
set_option maxRecDepth 5000 in
theorem nat_u16' {m : Int} (h : (Lit.int .u16 m).wf = true) : ∃ q : Nat, m = (q : Int) ∧ q < 65536 := ⟨m.toNat, by have := bounds_u16 h; omega, by have := bounds_u16 h; omega⟩
set_option maxRecDepth 5000 in
theorem nat_u32' {m : Int} (h : (Lit.int .u32 m).wf = true) : ∃ q : Nat, m = (q : Int) ∧ q < 4294967296 := ⟨m.toNat, by have := bounds_u32 h; omega, by have := bounds_u32 h; omega⟩
end Go.Proofs.YtpiehjfoojipiaaDoor
