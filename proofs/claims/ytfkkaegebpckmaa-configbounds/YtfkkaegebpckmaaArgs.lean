/- What came in, opened: bytes, names (texts of stage 3, at this seat). -/
import Derived.Test.YtfkkaegebpckmaaNmB
import Derived.Test.YtfkkaegebpckmaaRows
import Derived.ProofKit
import Derived.LaidMore
import Derived.OpenShut
import Derived.Lay
import Derived.Stop.Joined
import Derived.Deep.Strs
/- stage3/Laid -/
/- The two tables of the library that the rows list, as the walks want them; names and bytes that came in. -/
namespace Go.Proofs.Ytfkkaegebpckmaa
open Go.ChangeShapes Go.WideShapes Go.ChangeAt Go.WideMaps Go.WideElems Go.RowKit Go.Deep
set_option maxRecDepth 5000 in
theorem ownK : ownKnob Try.prog.godebug = none := by kernel_rfl
set_option maxRecDepth 5000 in
theorem laidOutT : laidOutB Try.prog = true := by kernel_rfl
set_option maxRecDepth 5000 in
theorem cellsU8 : Try.prog.cellsOf 5 = 1 := by kernel_rfl
set_option maxRecDepth 5000 in
theorem cellsStr : Try.prog.cellsOf 9 = 1 := by kernel_rfl
set_option maxRecDepth 5000 in
theorem byte_of {a : Int} (h : (Lit.int .u8 a).wf = true) : ∃ b : UInt8, a = (b.toNat : Int) := by
  have hb := bounds_u8 h
  exact ⟨UInt8.ofNat a.toNat, by rw [UInt8.toNat_ofNat']; omega⟩
set_option maxRecDepth 5000 in
theorem open_bytes {H : Type} {enc : TypeId × Value → H} {W : World} {a0 : Option Addr} {len cap : Nat} {d : DataW H} {p : List MemPlace} (h0 : DataW.Trod enc Try.prog W 0 (fun _ => true) true 25 (.slice a0 len cap) d p) :
    ∃ bs : List UInt8, bs.length = len ∧ SlL W a0 bs ∧ (a0 = none → cap = 0) ∧ len ≤ cap ∧ cap ≤ maxLen := by
  obtain ⟨fuel, hf⟩ := h0
  rcases open_ints Try.underlying25 Try.underlying5 cellsU8 hf with ⟨hcs, hx⟩ | ⟨a, len', cap', zs, hcs, _, hl, hm, hz, hx, hcell, hwz⟩
  · simp [Value.cells] at hcs
    obtain ⟨rfl, rfl, rfl⟩ := hcs
    exact ⟨[], rfl, SlL.nil _ _, fun _ => rfl, Nat.le_refl _, Nat.zero_le _⟩
  · simp [Value.cells] at hcs
    obtain ⟨rfl, rfl, rfl⟩ := hcs
    simp only [if_true] at hz
    have hlen : ((zs.take len).map fun z => UInt8.ofNat z.toNat).length = len := by simp; omega
    refine ⟨(zs.take len).map fun z => UInt8.ofNat z.toNat, hlen, fun hn => ?_, fun h => (by cases h), hl, hm⟩
    rw [hlen] at hn
    obtain ⟨b, off, rfl, hc⟩ := ints_at hcell (by omega)
    refine ⟨b, off, rfl, block_lt_of_cell (hc 0 (by omega)), fun j hj => ?_⟩
    rw [hlen] at hj
    rw [hc j (by omega)]
    have hjz : j < zs.length := by omega
    have hw := bounds_u8 (hwz _ (List.getElem_mem hjz))
    have e1 : zs.getD j 0 = zs[j] := by simp [hjz]
    have e2 : ((zs.take len).map fun z => UInt8.ofNat z.toNat).getD j 0 = UInt8.ofNat (zs[j]).toNat := by
      simp [hj, hjz]
    rw [e1, e2, UInt8.toNat_ofNat']
    congr 2
    omega
set_option maxRecDepth 5000 in
theorem open_name {H : Type} {enc : TypeId × Value → H} {W : World} {a0 : Option Addr} {len cap : Nat} {d : DataW H} {p : List MemPlace} (h0 : DataW.Trod enc Try.prog W 0 (fun _ => true) true 23 (.slice a0 len cap) d p) :
    ∃ n : List (List UInt8), n.length = len ∧ SlS W a0 n ∧ Sane n ∧ len ≤ cap ∧ cap ≤ 9223372036854775807 := by
  obtain ⟨fuel, hf⟩ := h0
  rcases open_strs Try.underlying23 Try.underlying9 cellsStr hf with ⟨hcs, hx⟩ | ⟨a, len', cap', m, Sx, hcs, _, hl, hm, hmm, hx, hcell⟩
  · simp [Value.cells] at hcs
    obtain ⟨rfl, rfl, rfl⟩ := hcs
    exact ⟨[], rfl, SlS.nil _ _, fun l hl => by simp at hl, Nat.le_refl _, by omega⟩
  · simp [Value.cells] at hcs
    obtain ⟨rfl, rfl, rfl⟩ := hcs
    simp only [if_true] at hmm
    subst hmm
    unfold maxLen at hm
    have hlen : ((List.range len).map fun r => (Sx r).data.toList).length = len := by simp
    refine ⟨(List.range len).map fun r => (Sx r).data.toList, hlen, fun hn => ?_, fun l hl' => ?_, hl, by omega⟩
    · rw [hlen] at hn
      have hc0 := (hcell 0 (by omega)).1
      have hspot : a.spot = none := by
        have := World.cell?_spot hc0
        simpa [Addr.add] using this
      obtain ⟨b, off, spot⟩ := a
      simp only at hspot
      subst hspot
      refine ⟨b, off, rfl, ?_, fun j hj => ?_⟩
      · have := block_lt_of_cell hc0
        rw [Addr.add_mid] at this; exact this
      · rw [hlen] at hj
        have hc := (hcell j (by omega)).1
        rw [Addr.add_mid] at hc
        rw [hc]
        have e : ((List.range len).map fun r => (Sx r).data.toList).getD j [] = (Sx j).data.toList := by simp [hj]
        rw [e]
    · simp only [List.mem_map, List.mem_range] at hl'
      obtain ⟨r, hr, rfl⟩ := hl'
      have := (hcell r (by omega)).2
      unfold maxLen at this
      show (Sx r).size ≤ _
      omega
end Go.Proofs.Ytfkkaegebpckmaa

/- stage3/Nil -/
/- A name that came in as nil has no room. -/
namespace Go.Proofs.Ytfkkaegebpckmaa
open Go.ChangeShapes Go.WideShapes Go.ChangeAt Go.WideMaps Go.WideElems Go.RowKit Go.Deep
set_option maxRecDepth 5000 in
theorem name_nil {H : Type} {enc : TypeId × Value → H} {W : World} {a0 : Option Addr} {len cap : Nat} {d : DataW H} {p : List MemPlace} (h0 : DataW.Trod enc Try.prog W 0 (fun _ => true) true 23 (.slice a0 len cap) d p) : a0 = none → cap = 0 := by
  obtain ⟨fuel, hf⟩ := h0
  rcases open_strs Try.underlying23 Try.underlying9 cellsStr hf with ⟨hcs, hx⟩ | ⟨a, len', cap', m, Sx, hcs, _⟩
  · simp [Value.cells] at hcs
    exact fun _ => hcs.2.2
  · simp [Value.cells] at hcs
    intro e
    rw [hcs.1] at e
    cases e
end Go.Proofs.Ytfkkaegebpckmaa

