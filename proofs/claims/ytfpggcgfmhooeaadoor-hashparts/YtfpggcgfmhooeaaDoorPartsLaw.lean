/- The law HashParts returns true, for every slice of bytes and every number, and turns nothing that was there. -/
import Derived.Test.YtfpggcgfmhooeaaDoorPartsP
import Derived.Test.YtfpggcgfmhooeaaDoorPartsN
namespace Go.Proofs.YtfpggcgfmhooeaaDoor
open Go.RowKit
theorem add_zero' (a : Addr) : a.add 0 = a := by simp [Addr.add]
theorem run_head (a : Addr) (n cap j : Nat) (h : j ≤ cap) (w : World) : (Instr.sliceAt 22 (.slice (some a) n cap) none (some (.int .i64 (j : Int))) none).run Tryd.prog w = .ok (.slice (some a) j cap) w := by
  simp [Instr.sliceAt, Instr.slice, run_underlying Tryd.underlying22, Instr.sliceBounds, Instr.sliceBound, asIntOf, h, run_size size5, add_zero']
theorem run_tail (b o n cap j : Nat) (h : j ≤ n) (w : World) : (Instr.sliceAt 22 (.slice (some ⟨b, o, none⟩) n cap) (some (.int .i64 (j : Int))) none none).run Tryd.prog w = .ok (.slice (some ⟨b, if cap = j then o else o + j, none⟩) (n - j) (cap - j)) w := by
  simp [Instr.sliceAt, Instr.slice, run_underlying Tryd.underlying22, Instr.sliceBounds, Instr.sliceBound, asIntOf, h, run_size size5, Addr.add]
  by_cases h1 : cap = j
  · simp [h1]
  · by_cases h2 : j = 0
    · simp [h2]
    · simp [h1, h2]
theorem run_tailz (a : Addr) (cap : Nat) (w : World) : (Instr.sliceAt 22 (.slice (some a) 0 cap) (some (.int .i64 ((0 : Nat) : Int))) none none).run Tryd.prog w = .ok (.slice (some a) 0 cap) w := by
  simp [Instr.sliceAt, Instr.slice, run_underlying Tryd.underlying22, Instr.sliceBounds, Instr.sliceBound, asIntOf, run_size size5, add_zero']
theorem run_head0 (w : World) : (Instr.sliceAt 22 (.slice none 0 0) none (some (.int .i64 ((0 : Nat) : Int))) none).run Tryd.prog w = .ok (.slice none 0 0) w := by
  simp [Instr.sliceAt, Instr.slice, run_underlying Tryd.underlying22, Instr.sliceBounds, Instr.sliceBound, asIntOf, run_size size5]
theorem run_tail0 (w : World) : (Instr.sliceAt 22 (.slice none 0 0) (some (.int .i64 ((0 : Nat) : Int))) none none).run Tryd.prog w = .ok (.slice none 0 0) w := by
  simp [Instr.sliceAt, Instr.slice, run_underlying Tryd.underlying22, Instr.sliceBounds, Instr.sliceBound, asIntOf, run_size size5]
theorem hashParts_walk (bs : List (BitVec 8)) (ao : Option Addr) (n cap : Nat) (x : Int) (w : World) (hl : bs.length = n) (hs : SlL w ao bs) (hnil : ao = none → cap = 0) (hc : n ≤ cap) (hT : Tab w) (hn : n ≤ 1000) :
    Calls Tryd.prog 5 #[.slice ao n cap, .int .i64 x] w fun e w' => e = .returned (.bool true) ∧ Below w.heap.size w w' := by
  obtain ⟨j, hj⟩ : ∃ j, j = (x.tmod ((n : Int) + 1)).natAbs := ⟨_, rfl⟩
  have hjn : j ≤ n := by
    rw [Int.natAbs_tmod] at hj
    have h1 : ((n : Int) + 1).natAbs = n + 1 := by omega
    rw [h1] at hj
    have := Nat.mod_lt x.natAbs (show 0 < n + 1 by omega)
    omega
  have key : ∀ (l1 l2 : List (BitVec 8)) (a1 a2 : Option Addr) (c1 m c2 : Nat), PartIn w a1 l1 j c1 → PartIn w a2 l2 m c2 → j + m ≤ 1000 →
      (∀ w, (Instr.sliceAt 22 (.slice ao n cap) none (some (.int .i64 (j : Int))) none).run Tryd.prog w = .ok (.slice a1 j c1) w) →
      (∀ w, (Instr.sliceAt 22 (.slice ao n cap) (some (.int .i64 (j : Int))) none none).run Tryd.prog w = .ok (.slice a2 m c2) w) →
      Calls Tryd.prog 5 #[.slice ao n cap, .int .i64 x] w fun e w' => e = .returned (.bool true) ∧ Below w.heap.size w w' := by
    intro l1 l2 a1 a2 c1 m c2 h1 h2 hjm hA hC
    rcases Int.natAbs_eq (x.tmod ((n : Int) + 1)) with h | h
    · rw [← hj] at h
      exact hashParts_pos l1 l2 ao a1 a2 n cap j c1 m c2 x w h1 h2 hT hn hjm h hA hC
    · rw [← hj] at h
      by_cases h0 : j = 0
      · exact hashParts_pos l1 l2 ao a1 a2 n cap j c1 m c2 x w h1 h2 hT hn hjm (by rw [h, h0]; rfl) hA hC
      · exact hashParts_neg l1 l2 ao a1 a2 n cap j c1 m c2 x w h1 h2 hT hn hjm (by omega) h hA hC
  have nilIn : ∀ (a : Option Addr) (c : Nat), (a = none → c = 0) → PartIn w a [] 0 c := fun a c h => ⟨rfl, SlL.nil _ _, h, Nat.zero_le _⟩
  rcases Nat.eq_zero_or_pos n with h0 | h0
  · subst h0
    obtain rfl : j = 0 := by omega
    cases ao with
    | none =>
      obtain rfl := hnil rfl
      exact key [] [] none none 0 0 0 (nilIn _ _ (fun _ => rfl)) (nilIn _ _ (fun _ => rfl)) (by omega) run_head0 run_tail0
    | some a => exact key [] [] (some a) (some a) cap 0 cap (nilIn _ _ (fun h => by cases h)) (nilIn _ _ (fun h => by cases h)) (by omega) (run_head a 0 cap 0 (by omega)) (run_tailz a cap)
  · obtain ⟨b, o, rfl, hb, hcl⟩ := hs (by omega)
    refine key (bs.take j) (bs.drop j) (some ⟨b, o, none⟩) (some ⟨b, if cap = j then o else o + j, none⟩) cap (n - j) (cap - j) ⟨by simp; omega, fun hn1 => ?_, fun h => (by cases h), by omega⟩ ⟨by simp; omega, fun hn1 => ?_, fun h => (by cases h), by omega⟩ (by omega) (run_head _ n cap j (by omega)) (run_tail b o n cap j hjn)
    · refine ⟨b, o, rfl, hb, fun i hi => ?_⟩
      have hi1 : i < j := by simp at hi; omega
      rw [hcl i (by omega)]
      simp [hi1]
    · have hjl : j < n := by simp at hn1; omega
      rw [if_neg (by omega)]
      refine ⟨b, o + j, rfl, hb, fun i hi => ?_⟩
      have hi1 : i < n - j := by simp at hi; omega
      rw [show o + j + i = o + (j + i) by omega, hcl (j + i) (by omega)]
      simp
end Go.Proofs.YtfpggcgfmhooeaaDoor
