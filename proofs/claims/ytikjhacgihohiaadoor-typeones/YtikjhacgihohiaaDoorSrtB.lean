/- slices.Sort at uint16: reverseRangeOrdered, siftDownOrdered, heapSortOrdered. -/
import Derived.Test.YtikjhacgihohiaaDoorSrtA
import Derived.Sort.WalkB3
namespace Go.Proofs.YtikjhacgihohiaaDoor
open Go.RowKit Go.Sort Q
set_option maxHeartbeats 3200000 in
theorem rev_any (w0 w : World) (g o N cap a b : Nat) (d : Array UInt16) (R : Rw w0 g o N) (h : St w0 g o N d w) (hab : a ≤ b) (hb : b ≤ N) :
    Calls Tryd.prog 51 #[.slice (some ⟨g, o, none⟩) N cap, .int .i64 a, .int .i64 b] w fun e w' => e = .returned (.tuple #[]) ∧ St w0 g o N (Sort.reverseRange d a b) w' := by
  have hsm := R.small
  go_enter Tryd.func51, Tryd.ntmps51
  go_wp2
  go_loopw [6, 7] (fun v u W => ∃ (i j : Nat) (dk : Array UInt16), v = .int .i64 (i : Int) ∧ u = .int .i64 ((j : Int) - 1) ∧ i ≤ N ∧ j ≤ N ∧ St w0 g o N dk W ∧ reverseLoop i (j - 1) dk = reverseLoop a (b - 1) d) (fun v u _ => ((intOf u) - (intOf v)).toNat)
  case atStart => exact ⟨a, b, d, rfl, rfl, by omega, hb, h, rfl⟩
  case round =>
    clear h
    obtain ⟨i, j, dk, rfl, rfl, hi, hj, hS, hO⟩ := hrel
    obtain ⟨G, HG, hc, hf⟩ := hS.look R
    have HO : Hid _ := hO
    have HS : Hid _ := hS
    clear hO hS
    by_cases hlt : i < j - 1
    · have e1 : (i : Int) < (j : Int) - 1 := by omega
      have e2 : ((j : Int) - 1) = ((j - 1 : Nat) : Int) := by omega
      rw [e2] at *
      go_wp2
      go_region
      all_goals go_wp2
      go_roundw
      case rel => exact ⟨i + 1, j - 1, swp dk i (j - 1), by go_num, by go_num, by omega, by omega, HS.out.swap R HG.out _ i (j - 1) (by omega) (by omega), by rw [← HO.out]; conv => rhs; rw [reverseLoop, if_pos hlt]⟩
      case measure => simp [intOf]; omega
    · have e1 : ¬ ((i : Int) < (j : Int) - 1) := by omega
      go_wp2
      go_end0
      refine ⟨rfl, ?_⟩
      unfold Sort.reverseRange
      rw [← HO.out, reverseLoop, if_neg hlt]; exact HS.out
set_option maxHeartbeats 6400000 in
theorem sift_any (w0 w : World) (g o N cap l hi F : Nat) (d : Array UInt16) (R : Rw w0 g o N) (h : St w0 g o N d w) (hb : F + hi ≤ N) (hl : l ≤ N) :
    Calls Tryd.prog 61 #[.slice (some ⟨g, o, none⟩) N cap, .int .i64 l, .int .i64 hi, .int .i64 F] w fun e w' => e = .returned (.tuple #[]) ∧ St w0 g o N (Sort.siftDown lt hi F l d) w' := by
  have hsm := R.small
  go_enter Tryd.func61, Tryd.ntmps61
  go_wp2
  go_loopw [8] (fun v W => ∃ (r : Nat) (dk : Array UInt16), v = .int .i64 (r : Int) ∧ r ≤ N ∧ St w0 g o N dk W ∧ siftDown lt hi F r dk = siftDown lt hi F l d) (fun v _ => N + 1 - (intOf v).toNat)
  case atStart => exact ⟨l, d, rfl, hl, h, rfl⟩
  case round =>
    clear h
    obtain ⟨r, dk, rfl, hr, hS, hO⟩ := hrel
    obtain ⟨G, HG, hc, hf⟩ := hS.look R
    have HO : Hid _ := hO
    have HS : Hid _ := hS
    clear hO hS
    by_cases hend : hi ≤ 2 * r + 1
    · have e1 : (hi : Int) ≤ 2 * (r : Int) + 1 := by omega
      go_wp2
      go_end0
      exact ⟨rfl, by rw [← HO.out, sd_end lt dk hend]; exact HS.out⟩
    · have e1 : ¬ (hi : Int) ≤ 2 * (r : Int) + 1 := by omega
      obtain ⟨c, hcc⟩ : ∃ c, 2 * r + 1 = c := ⟨_, rfl⟩
      have e2 : 2 * (r : Int) + 1 = (c : Int) := by omega
      have HC : Hid _ := hcc
      clear hcc
      rw [e2] at e1
      have hcN : F + c < N := by omega
      have hrN : F + r < N := by have := HC.out; omega
      go_wp2
      by_cases hc1 : c + 1 < hi
      · have e3 : (c : Int) + 1 < (hi : Int) := by omega
        have hcN1 : F + c + 1 < N := by omega
        go_quiet (first | (go_at_call 53; refine Calls.quiet_of_same (less_any _ _ _)))
        go_wp2
        · have hl1 : lt (G (F + c)) (G (F + c + 1)) = true := by assumption
          have hXr : r < c + 1 := by have := HC.out; omega
          have hXN : F + (c + 1) < N := by omega
          go_wp2
          replace HS : Hid (St w0 g o N dk (wr.drewN nq)) := HS.out.drewN nq
          replace hc : ∀ t, t < N → (wr.drewN nq).cell? ⟨g, o + t, none⟩ = some (.int .u16 ((G t).toNat : Int)) := hc
          replace hf : ∀ t, t < N → (wr.drewN nq).frozen? ⟨g, o + t, none⟩ = false := hf
          generalize wr.drewN nq = wr2 at HS hc hf ⊢
          clear nq
          go_quiet (first | (go_at_call 53; refine Calls.quiet_of_same (less_any _ _ _)))
          go_wp2
          · have hl : lt (G (F + r)) (G (F + (c + 1))) = false := by
              have : (!lt (G (F + r)) (G (F + (c + 1)))) = true := by assumption
              simpa using this
            (try simp only [Exit.inBlock, Exit.then]); refine bodyPost_ret (results_none rfl _ _ _) rfl ?_
            have := HC.out
            exact ⟨rfl, by rw [← HO.out, sd_right_stop lt dk (by omega) (by rw [HG.out, HG.out, show F + (2 * r + 1) = F + c by omega, show F + (2 * r + 2) = F + c + 1 by omega]; exact hl1) (by rw [HG.out, HG.out, show F + (2 * r + 2) = F + (c + 1) by omega]; exact hl)]; exact HS.out.drewN _⟩
          · have hl : lt (G (F + r)) (G (F + (c + 1))) = true := by
              have : (!lt (G (F + r)) (G (F + (c + 1)))) = false := by assumption
              simpa using this
            replace HS : Hid (St w0 g o N dk (wr2.drewN nq)) := HS.out.drewN nq
            replace hc : ∀ t, t < N → (wr2.drewN nq).cell? ⟨g, o + t, none⟩ = some (.int .u16 ((G t).toNat : Int)) := hc
            replace hf : ∀ t, t < N → (wr2.drewN nq).frozen? ⟨g, o + t, none⟩ = false := hf
            generalize wr2.drewN nq = wr3 at HS hc hf ⊢
            clear nq
            go_region
            all_goals go_wp2
            go_roundw
            case rel =>
              have := HC.out
              exact ⟨c + 1, swp dk (F + r) (F + (c + 1)), by go_num, by omega, HS.out.swap R HG.out _ (F + r) (F + (c + 1)) (by omega) (by omega), by rw [← HO.out, sd_right_go lt dk (by omega) (by rw [HG.out, HG.out, show F + (2 * r + 1) = F + c by omega, show F + (2 * r + 2) = F + c + 1 by omega]; exact hl1) (by rw [HG.out, HG.out, show F + (2 * r + 2) = F + (c + 1) by omega]; exact hl), show 2 * r + 2 = c + 1 by omega]⟩
            case measure => simp [intOf]; omega
        · have hl1 : lt (G (F + c)) (G (F + c + 1)) = false := by assumption
          have hXr : r < c := by have := HC.out; omega
          have hXN : F + (c) < N := by omega
          go_wp2
          replace HS : Hid (St w0 g o N dk (wr.drewN nq)) := HS.out.drewN nq
          replace hc : ∀ t, t < N → (wr.drewN nq).cell? ⟨g, o + t, none⟩ = some (.int .u16 ((G t).toNat : Int)) := hc
          replace hf : ∀ t, t < N → (wr.drewN nq).frozen? ⟨g, o + t, none⟩ = false := hf
          generalize wr.drewN nq = wr2 at HS hc hf ⊢
          clear nq
          go_quiet (first | (go_at_call 53; refine Calls.quiet_of_same (less_any _ _ _)))
          go_wp2
          · have hl : lt (G (F + r)) (G (F + (c))) = false := by
              have : (!lt (G (F + r)) (G (F + (c)))) = true := by assumption
              simpa using this
            (try simp only [Exit.inBlock, Exit.then]); refine bodyPost_ret (results_none rfl _ _ _) rfl ?_
            have := HC.out
            exact ⟨rfl, by rw [← HO.out, sd_left_stop lt dk (by omega) (fun _ => (by rw [HG.out, HG.out, show F + (2 * r + 1) = F + c by omega, show F + (2 * r + 2) = F + c + 1 by omega]; exact hl1)) (by rw [HG.out, HG.out, show F + (2 * r + 1) = F + c by omega]; exact hl)]; exact HS.out.drewN _⟩
          · have hl : lt (G (F + r)) (G (F + (c))) = true := by
              have : (!lt (G (F + r)) (G (F + (c)))) = false := by assumption
              simpa using this
            replace HS : Hid (St w0 g o N dk (wr2.drewN nq)) := HS.out.drewN nq
            replace hc : ∀ t, t < N → (wr2.drewN nq).cell? ⟨g, o + t, none⟩ = some (.int .u16 ((G t).toNat : Int)) := hc
            replace hf : ∀ t, t < N → (wr2.drewN nq).frozen? ⟨g, o + t, none⟩ = false := hf
            generalize wr2.drewN nq = wr3 at HS hc hf ⊢
            clear nq
            go_region
            all_goals go_wp2
            go_roundw
            case rel =>
              have := HC.out
              exact ⟨c, swp dk (F + r) (F + (c)), by go_num, by omega, HS.out.swap R HG.out _ (F + r) (F + (c)) (by omega) (by omega), by rw [← HO.out, sd_left_go lt dk (by omega) (fun _ => (by rw [HG.out, HG.out, show F + (2 * r + 1) = F + c by omega, show F + (2 * r + 2) = F + c + 1 by omega]; exact hl1)) (by rw [HG.out, HG.out, show F + (2 * r + 1) = F + c by omega]; exact hl), this]⟩
            case measure => simp [intOf]; omega
      · have e3 : decide ((c : Int) + 1 < (hi : Int)) = false := decide_eq_false (by omega)
        go_quiet (first | (go_at_call 53; refine Calls.quiet_of_same (less_any _ _ _)))
        have hXr : r < c := by have := HC.out; omega
        have hXN : F + (c) < N := by omega
        go_wp2
        replace HS : Hid (St w0 g o N dk (wr.drewN nq)) := HS.out.drewN nq
        replace hc : ∀ t, t < N → (wr.drewN nq).cell? ⟨g, o + t, none⟩ = some (.int .u16 ((G t).toNat : Int)) := hc
        replace hf : ∀ t, t < N → (wr.drewN nq).frozen? ⟨g, o + t, none⟩ = false := hf
        generalize wr.drewN nq = wr2 at HS hc hf ⊢
        clear nq
        go_quiet (first | (go_at_call 53; refine Calls.quiet_of_same (less_any _ _ _)))
        go_wp2
        · have hl : lt (G (F + r)) (G (F + (c))) = false := by
            have : (!lt (G (F + r)) (G (F + (c)))) = true := by assumption
            simpa using this
          (try simp only [Exit.inBlock, Exit.then]); refine bodyPost_ret (results_none rfl _ _ _) rfl ?_
          have := HC.out
          exact ⟨rfl, by rw [← HO.out, sd_left_stop lt dk (by omega) (fun h => absurd h (by omega)) (by rw [HG.out, HG.out, show F + (2 * r + 1) = F + c by omega]; exact hl)]; exact HS.out.drewN _⟩
        · have hl : lt (G (F + r)) (G (F + (c))) = true := by
            have : (!lt (G (F + r)) (G (F + (c)))) = false := by assumption
            simpa using this
          replace HS : Hid (St w0 g o N dk (wr2.drewN nq)) := HS.out.drewN nq
          replace hc : ∀ t, t < N → (wr2.drewN nq).cell? ⟨g, o + t, none⟩ = some (.int .u16 ((G t).toNat : Int)) := hc
          replace hf : ∀ t, t < N → (wr2.drewN nq).frozen? ⟨g, o + t, none⟩ = false := hf
          generalize wr2.drewN nq = wr3 at HS hc hf ⊢
          clear nq
          go_region
          all_goals go_wp2
          go_roundw
          case rel =>
            have := HC.out
            exact ⟨c, swp dk (F + r) (F + (c)), by go_num, by omega, HS.out.swap R HG.out _ (F + r) (F + (c)) (by omega) (by omega), by rw [← HO.out, sd_left_go lt dk (by omega) (fun h => absurd h (by omega)) (by rw [HG.out, HG.out, show F + (2 * r + 1) = F + c by omega]; exact hl), this]⟩
          case measure => simp [intOf]; omega
end Go.Proofs.YtikjhacgihohiaaDoor
