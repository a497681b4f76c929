/- The law HashLengths returns true, for every number and byte, and turns nothing that was there. -/
import Derived.Test.YtfpggcgfmhooeaaDoorEql
import Derived.Test.YtfpggcgfmhooeaaDoorRef
namespace Go.Proofs.YtfpggcgfmhooeaaDoor
open Go.RowKit
theorem made_zero (n : Nat) : (madeCells (Value.int .u8 0).cells (n * 1)).toList = vb (List.replicate n 0) := by
  unfold madeCells vb
  simp only [Array.toList_map, Array.toList_range, Nat.mul_one, List.map_replicate]
  apply List.ext_getElem?
  intro i
  by_cases h : i < n
  · simp [h, Value.cells, Nat.mod_one]
  · simp [h]
def fillB (n : Nat) (x : BitVec 8) (k : Nat) : List (BitVec 8) := (List.range n).map (fun i => if i < k then x + BitVec.ofNat 8 i else 0)
theorem fillB_len (n : Nat) (x : BitVec 8) (k : Nat) : (fillB n x k).length = n := by simp [fillB]
theorem fillB_zero (n : Nat) (x : BitVec 8) : fillB n x 0 = List.replicate n 0 := by
  apply List.ext_getElem?
  intro i
  by_cases h : i < n <;> simp [fillB, h]
theorem fillB_set (n : Nat) (x : BitVec 8) (k : Nat) (h : k < n) : vb (fillB n x (k + 1)) = (vb (fillB n x k)).set k (.int .u8 ((x + BitVec.ofNat 8 k).toNat : Int)) := by
  apply List.ext_getElem?
  intro i
  by_cases hi : i < n
  · by_cases e : k = i
    · subst e; simp [vb, fillB, h]
    · rw [List.getElem?_set_ne e]
      simp only [vb, fillB, List.getElem?_map, List.getElem?_range hi, Option.map_some]
      by_cases h2 : i < k
      · rw [if_pos h2, if_pos (by omega)]
      · rw [if_neg h2, if_neg (by omega)]
  · rw [List.getElem?_eq_none (by rw [vb_len, fillB_len]; omega), List.getElem?_eq_none (by rw [List.length_set, vb_len, fillB_len]; omega)]
theorem byte_sum (x : BitVec 8) (k : Nat) : ((x.toNat : Int) + (k : Int)) % 256 = ((x + BitVec.ofNat 8 k).toNat : Int) := by
  rw [BitVec.toNat_add, BitVec.toNat_ofNat]; omega
set_option maxRecDepth 3000 in
set_option maxHeartbeats 1000000 in
theorem hashLengths_walk (m x : BitVec 8) (w : World) (hT : Tab w) :
    Calls Tryd.prog 6 #[.int .u8 m.toNat, .int .u8 x.toNat] w fun e w' => e = .returned (.bool true) ∧ Below w.heap.size w w' := by
  obtain ⟨i0, hi, hz0, hz1, hz2⟩ := info_parts info5
  have hT0 := hT.1
  obtain ⟨N, hN⟩ : ∃ N, N = m.toNat + 50 := ⟨_, rfl⟩
  have HNN := hide hN
  have hN1 : N ≤ 305 := by omega
  have hN0 : 0 < N := by omega
  clear hN
  go_enter Tryd.func6, Tryd.ntmps6
  go_wp2_with (first
    | (go_at_call 7; refine (known_any _ (by exact hT)).mono ?_; rintro e w1 ⟨rfl, hB1⟩; have hzz1 := hB1.size)
    | (at_make; refine wpList_make_full _ rfl (.tmp 11) (.tmp 11) 22 rfl w.heap.size 5 i0 (.int .u8 0) 1 Tryd.underlying22 hi hz0 hz1 .i64 .i64 _ _ N rfl rfl (by have := HNN.out; omega) (by have := HNN.out; omega) (by rw [hz2]; omega) (by unfold maxLen; omega) hzz1 ?_; intro w2 hO2 hG2; have hB2 : Below w.heap.size w w2 := hB1.grown hG2 hzz1 (fun k hk => by cases hk); have ho2 : OwnB w2 w.heap.size (.slice (some ⟨w1.heap.size, 0, none⟩) N N) (fillB N x 0) := (by unfold OwnB; rw [fillB_len, fillB_zero, ← made_zero]; exact hO2); clear hG2 hO2))
  go_loopw [6] (fun i wr => ∃ k : Nat, k ≤ N ∧ i = .int .i64 (k : Int) ∧ OwnB wr w.heap.size (.slice (some ⟨w1.heap.size, 0, none⟩) N N) (fillB N x k) ∧ Below w.heap.size w wr) (fun i _ => N - (intOf i).toNat)
  case atStart => exact ⟨0, by omega, rfl, ho2, hB2⟩
  case round =>
    clear ho2 hB2
    obtain ⟨k, hk, rfl, hO, hB⟩ := hrel
    have hO' : wr.ownsRow w.heap.size 5 1 (.slice (some ⟨w1.heap.size, 0, none⟩) N N) N (vb (fillB N x k)) := by
      have h := hO; unfold OwnB at h; rw [fillB_len] at h; exact h
    by_cases hlt : k < N
    · have hc := World.ownsRow.cellAt hO' k (by omega)
      rw [vb_get _ _ (by rw [fillB_len]; exact hlt)] at hc
      obtain ⟨v, hv⟩ : ∃ v, wr.cell? ⟨w1.heap.size, k, none⟩ = some v := ⟨_, hc⟩
      have hf := World.ownsRow.frozenAt hO' k
      clear hc
      go_wp2
      go_roundw
      case rel =>
        refine ⟨k + 1, by omega, by go_num, ?_, hB.setCell (by simp; omega) _⟩
        have h := (World.ownsRow.stored hO' k (.int .u8 ((x + BitVec.ofNat 8 k).toNat : Int))).1
        rw [← fillB_set N x k hlt] at h
        unfold OwnB
        rw [fillB_len, byte_sum]
        exact h
      case measure => simp [intOf]; omega
    · have hkN : k = N := by omega
      subst hkN
      have hlen := fillB_len k x k
      have hO2 : OwnB wr w.heap.size (.slice (some ⟨w1.heap.size, 0, none⟩) (fillB k x k).length k) (fillB k x k) := by rw [hlen]; exact hO
      have hsl := hO2.sl
      have hTr := hT.below hB hT0
      have hzr := hB.size
      clear hO hO2 hO'
      generalize fillB k x k = bs at hsl hlen
      have HL := hide hlen
      have hsp := hsl.pad
      rw [hlen] at hsp
      clear hlen
      go_wp2_with fail
      refine (sum_any bs _ k k _ HL (by exact hsp) (by omega) (by omega) (by exact hTr)).mono ?_
      rintro e w3 ⟨rfl, hB3⟩
      have hb3 := hB.trans (hB3.mono hzr)
      have hs3 := hsl.below hB3 (Nat.le_refl _)
      clear hB3 hB hTr hsp hsl
      go_wp2_with fail
      refine (ref_any bs _ k k _ HL (by exact hs3) (by simp) (by omega)).mono ?_
      rintro e w4 ⟨rfl, hB4⟩
      have hb4 := hb3.trans (hB4.mono (by have := hb3.size; omega))
      clear hB4 hb3 hs3
      go_wp2_with (refine wpList_eql_B rfl 24 24 (.tmp 27) (.tmp 29) rfl 32 (Sha.digB (Sha.run (Sha.padF bs) (Sha.nb k))) Tryd.underlying24 guard24 rfl rfl ?_)
      go_ret
      exact ⟨rfl, hb4⟩
end Go.Proofs.YtfpggcgfmhooeaaDoor
