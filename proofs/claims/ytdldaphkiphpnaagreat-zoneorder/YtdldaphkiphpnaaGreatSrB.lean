/- slices.Sort at uint16, second part (texts of stage 4, at this seat). -/
import Derived.Test.YtdldaphkiphpnaaGreatSrA
import Derived.Sort.WalkA6
import Derived.Sort.WalkC4
/- stage4/SrtF -/
/- slices.Sort at uint16: partialInsertionSortOrdered. -/
namespace Go.Proofs.YtdldaphkiphpnaaGreat
open Go.RowKit Go.Sort Q
set_option maxRecDepth 100000 in
set_option maxHeartbeats 12800000 in
theorem pins_any (w0 w : World) (g o N cap a b : Nat) (d : Array UInt16) (R : Rw w0 g o N) (h : St w0 g o N d w) (hab : a < b) (hb : b ≤ N) :
    Calls Tryz.prog 140 #[.slice (some ⟨g, o, none⟩) N cap, .int .i64 a, .int .i64 b] w fun e w' => e = .returned (.bool (partialInsertionSort lt d a b).2) ∧ St w0 g o N (partialInsertionSort lt d a b).1 w' := by
  have hsm := R.small
  go_enter Tryz.func140, Tryz.ntmps140
  go_wp2
  go_loopw [7, 8] (fun v u W => ∃ (i s : Nat) (dk : Array UInt16), v = .int .i64 (i : Int) ∧ u = .int .i64 (s : Int) ∧ a < i ∧ i ≤ b ∧ s ≤ 5 ∧ St w0 g o N dk W ∧ partialIns lt a b (5 - s) i dk = partialInsertionSort lt d a b) (fun _ u _ => 5 - (intOf u).toNat)
  case atStart => exact ⟨a + 1, 0, d, by go_num, rfl, by omega, by omega, by omega, h, rfl⟩
  case round =>
    clear h
    obtain ⟨i0, s, dk, rfl, rfl, hai0, hib0, hs, hS, hO⟩ := hrel
    have HO : Hid _ := hO
    clear hO
    by_cases hs5 : s < 5
    · go_wp2
      go_loopw [7] (fun v W => ∃ i : Nat, v = .int .i64 (i : Int) ∧ i0 ≤ i ∧ i ≤ b ∧ St w0 g o N dk W ∧ scanSorted lt dk b i0 = scanSorted lt dk b i) (fun v _ => b - (intOf v).toNat)
      case atStart => exact ⟨i0, rfl, Nat.le_refl _, hib0, hS, rfl⟩
      case round =>
        clear hS
        obtain ⟨i, rfl, hi1, hi2, hS, hK⟩ := hrel
        obtain ⟨G, HG, hc, hf⟩ := hS.look R
        have HS : Hid _ := hS
        have HKK : Hid _ := hK
        clear hS hK
        go_wp2
        by_cases hib : i < b
        · have hne : ((i : Int) == (b : Int)) = false := by simp; omega
          go_quiet (first | (go_at_call 141; refine Calls.quiet_of_same (less_any _ _ _)))
          go_wp2
          · have hl : lt (G i) (G (i - 1)) = false := by
              have : (!lt (G i) (G (i - 1))) = true := by assumption
              simpa using this
            go_roundw
            case rel => exact ⟨i + 1, by go_num, by omega, by omega, HS.out.drewN _, by rw [HKK.out, scanSorted_go lt dk b i hib (by rw [HG.out, HG.out]; exact hl)]⟩
            case measure => simp [intOf]; omega
          · have hl : lt (G i) (G (i - 1)) = true := by
              have : (!lt (G i) (G (i - 1))) = false := by assumption
              simpa using this
            have e50 : (b : Int) - (a : Int) < 50 := by assumption
            have h50 : b - a < 50 := by omega
            have HK : Hid (scanSorted lt dk b i0 = i) := by show scanSorted lt dk b i0 = i; rw [HKK.out, scanSorted_stop lt dk b i (Or.inr (by rw [HG.out, HG.out]; exact hl))]
            go_ret
            have e := pi_short lt a b s i0 dk hs5 (by rw [HK.out]; omega) h50
            rw [HO.out] at e
            rw [e]; exact ⟨rfl, HS.out.drewN _⟩
          · have hl : lt (G i) (G (i - 1)) = true := by
              have : (!lt (G i) (G (i - 1))) = false := by assumption
              simpa using this
            have e50 : 50 ≤ (b : Int) - (a : Int) := by assumption
            have h50 : ¬ b - a < 50 := by omega
            have HK : Hid (scanSorted lt dk b i0 = i) := by show scanSorted lt dk b i0 = i; rw [HKK.out, scanSorted_stop lt dk b i (Or.inr (by rw [HG.out, HG.out]; exact hl))]
            clear HKK hl e50 hne
            replace HS : Hid (St w0 g o N dk (wr.drewN nq)) := HS.out.drewN nq
            replace hc : ∀ t, t < N → (wr.drewN nq).cell? ⟨g, o + t, none⟩ = some (.int .u16 ((G t).toNat : Int)) := hc
            replace hf : ∀ t, t < N → (wr.drewN nq).frozen? ⟨g, o + t, none⟩ = false := hf
            generalize wr.drewN nq = wr2 at HS hc hf ⊢
            clear nq
            go_region
            have HS1 : Hid (St w0 g o N (swp dk i (i - 1)) ((wr2.setCell ⟨g, o + i, none⟩ (.int .u16 ((G (i - 1)).toNat : Int))).setCell ⟨g, o + (i - 1), none⟩ (.int .u16 ((G i).toNat : Int))).drew) := HS.out.swap R HG.out 1 i (i - 1) (by omega) (by omega)
            clear HS hc hf
            have HS := HS1
            clear HS1
            generalize ((wr2.setCell ⟨g, o + i, none⟩ (.int .u16 ((G (i - 1)).toNat : Int))).setCell ⟨g, o + (i - 1), none⟩ (.int .u16 ((G i).toNat : Int))).drew = wr3 at HS ⊢
            clear HG
            obtain ⟨d1, hd1⟩ : ∃ d1, swp dk i (i - 1) = d1 := ⟨_, rfl⟩
            rw [hd1] at HS
            have HD1 : Hid _ := hd1
            clear hd1
            have eKK : Hid (∀ dy : Array UInt16, fixUp lt b i (fixDown lt a i d1) = dy → partialIns lt a b (5 - (s + 1)) i dy = partialInsertionSort lt d a b) := fun dy hdy => by rw [← HO.out, pi_go lt a b s i0 i dk hs5 HK.out (by omega) h50, HD1.out, hdy]
            clear HO HK HD1 h50
            obtain ⟨G1, HG, hc, hf⟩ := HS.out.look R
            have hai : a < i := by omega
            by_cases h2 : 2 ≤ i - a
            · have e2 : (2 : Int) ≤ (i : Int) - (a : Int) := by omega
              go_wp2
              go_loopw [9] (fun v W => ∃ (j : Nat) (dj : Array UInt16), v = .int .i64 (j : Int) ∧ j < i ∧ St w0 g o N dj W ∧ shiftDown lt j dj = fixDown lt a i d1) (fun v _ => (intOf v).toNat)
              case atStart => exact ⟨i - 1, d1, by congr 1; omega, by omega, HS.out, by rw [fixDown, if_pos h2]⟩
              case round =>
                clear HS hc hf HG
                obtain ⟨j, dj, rfl, hj1, hS, hDD⟩ := hrel
                have HS : Hid _ := hS
                have HDD : Hid _ := hDD
                clear hDD
                obtain ⟨G, HG, hc, hf⟩ := hS.look R
                clear hS
                by_cases hj0 : 1 ≤ j
                · have ej0 : (1 : Int) ≤ (j : Int) := by omega
                  go_wp2
                  by_cases hl : lt (G j) (G (j - 1)) = true
                  · go_quiet (first | (go_at_call 141; refine Calls.quiet_of_same (less_any _ _ _)))
                    replace HS : Hid (St w0 g o N dj (wr.drewN nq)) := HS.out.drewN nq
                    replace hc : ∀ t, t < N → (wr.drewN nq).cell? ⟨g, o + t, none⟩ = some (.int .u16 ((G t).toNat : Int)) := hc
                    replace hf : ∀ t, t < N → (wr.drewN nq).frozen? ⟨g, o + t, none⟩ = false := hf
                    generalize wr.drewN nq = wr4 at HS hc hf ⊢
                    clear nq
                    go_wp2
                    go_region
                    all_goals go_wp2
                    go_roundw
                    case rel => exact ⟨j - 1, swp dj j (j - 1), by congr 1; omega, by omega, HS.out.swap R HG.out _ j (j - 1) (by omega) (by omega), by rw [← HDD.out, shiftDown_go lt j dj hj0 (by rw [HG.out, HG.out]; exact hl)]⟩
                    case measure => simp [intOf]; omega
                  · have hl : lt (G j) (G (j - 1)) = false := by simpa using hl
                    have HD : Hid (fixDown lt a i d1 = dj) := by show fixDown lt a i d1 = dj; rw [← HDD.out, shiftDown_stop lt j dj (Or.inr (by rw [HG.out, HG.out]; exact hl))]
                    go_quiet (first | (go_at_call 141; refine Calls.quiet_of_same (less_any _ _ _)))
                    replace HS : Hid (St w0 g o N dj (wr.drewN nq)) := HS.out.drewN nq
                    replace hc : ∀ t, t < N → (wr.drewN nq).cell? ⟨g, o + t, none⟩ = some (.int .u16 ((G t).toNat : Int)) := hc
                    replace hf : ∀ t, t < N → (wr.drewN nq).frozen? ⟨g, o + t, none⟩ = false := hf
                    generalize wr.drewN nq = wr4 at HS hc hf ⊢
                    clear nq
                    clear hl HDD ej0 hj0
                    clear hc hf HG
                    obtain ⟨G, HG, hc, hf⟩ := HS.out.look R
                    by_cases hbi : 2 ≤ b - i
                    · have ebi : (2 : Int) ≤ (b : Int) - (i : Int) := by omega
                      go_wp2
                      go_loopw [10] (fun v W => ∃ (j : Nat) (du : Array UInt16), v = .int .i64 (j : Int) ∧ i < j ∧ j ≤ b ∧ St w0 g o N du W ∧ shiftUp lt b j du = shiftUp lt b (i + 1) dj) (fun v _ => b - (intOf v).toNat)
                      case atStart => exact ⟨i + 1, dj, by go_num, by omega, by omega, HS.out, rfl⟩
                      case round =>
                        clear HS hc hf HG
                        obtain ⟨j, du, rfl, hj1, hj2, hS, hU⟩ := hrel
                        have HS : Hid _ := hS
                        have HUU : Hid _ := hU
                        clear hU
                        obtain ⟨G, HG, hc, hf⟩ := hS.look R
                        clear hS
                        by_cases hjb : j < b
                        · go_wp2
                          go_quiet (first | (go_at_call 141; refine Calls.quiet_of_same (less_any _ _ _)))
                          go_wp2
                          · have hl : lt (G j) (G (j - 1)) = false := by
                              have : (!lt (G j) (G (j - 1))) = true := by assumption
                              simpa using this
                            have HU : Hid (fixUp lt b i dj = du) := by show fixUp lt b i dj = du; rw [fixUp, if_pos hbi, ← HUU.out, shiftUp_stop lt b j du (Or.inr (by rw [HG.out, HG.out]; exact hl))]
                            go_roundw
                            case rel => exact ⟨i, s + 1, du, by go_num, by go_num, by omega, by omega, by omega, HS.out.drewN _, eKK.out _ (by rw [HD.out, HU.out])⟩
                            case measure => simp [intOf]; omega
                          · have hl : lt (G j) (G (j - 1)) = true := by
                              have : (!lt (G j) (G (j - 1))) = false := by assumption
                              simpa using this
                            replace HS : Hid (St w0 g o N du (wr.drewN nq)) := HS.out.drewN nq
                            replace hc : ∀ t, t < N → (wr.drewN nq).cell? ⟨g, o + t, none⟩ = some (.int .u16 ((G t).toNat : Int)) := hc
                            replace hf : ∀ t, t < N → (wr.drewN nq).frozen? ⟨g, o + t, none⟩ = false := hf
                            generalize wr.drewN nq = wr2 at HS hc hf ⊢
                            clear nq
                            go_region
                            all_goals go_wp2
                            go_roundw
                            case rel => exact ⟨j + 1, swp du j (j - 1), by go_num, by omega, by omega, HS.out.swap R HG.out _ j (j - 1) (by omega) (by omega), by rw [← HUU.out, shiftUp_go lt b j du hjb (by rw [HG.out, HG.out]; exact hl)]⟩
                            case measure => simp [intOf]; omega
                        · go_wp2
                          have HU : Hid (fixUp lt b i dj = du) := by show fixUp lt b i dj = du; rw [fixUp, if_pos hbi, ← HUU.out, shiftUp_stop lt b j du (Or.inl hjb)]
                          go_roundw
                          case rel => exact ⟨i, s + 1, du, by go_num, by go_num, by omega, by omega, by omega, HS.out, eKK.out _ (by rw [HD.out, HU.out])⟩
                          case measure => simp [intOf]; omega
                    · have ebi : ¬ (2 : Int) ≤ (b : Int) - (i : Int) := by omega
                      go_wp2
                      have HU : Hid (fixUp lt b i dj = dj) := by show fixUp lt b i dj = dj; rw [fixUp, if_neg hbi]
                      go_roundw
                      case rel => exact ⟨i, s + 1, dj, by go_num, by go_num, by omega, by omega, by omega, HS.out, eKK.out _ (by rw [HD.out, HU.out])⟩
                      case measure => simp [intOf]; omega
                · have ej0 : ¬ (1 : Int) ≤ (j : Int) := by omega
                  have HD : Hid (fixDown lt a i d1 = dj) := by show fixDown lt a i d1 = dj; rw [← HDD.out, shiftDown_stop lt j dj (Or.inl (by omega))]
                  clear HDD hj0
                  clear hc hf HG
                  obtain ⟨G, HG, hc, hf⟩ := HS.out.look R
                  by_cases hbi : 2 ≤ b - i
                  · have ebi : (2 : Int) ≤ (b : Int) - (i : Int) := by omega
                    go_wp2
                    go_loopw [10] (fun v W => ∃ (j : Nat) (du : Array UInt16), v = .int .i64 (j : Int) ∧ i < j ∧ j ≤ b ∧ St w0 g o N du W ∧ shiftUp lt b j du = shiftUp lt b (i + 1) dj) (fun v _ => b - (intOf v).toNat)
                    case atStart => exact ⟨i + 1, dj, by go_num, by omega, by omega, HS.out, rfl⟩
                    case round =>
                      clear HS hc hf HG
                      obtain ⟨j, du, rfl, hj1, hj2, hS, hU⟩ := hrel
                      have HS : Hid _ := hS
                      have HUU : Hid _ := hU
                      clear hU
                      obtain ⟨G, HG, hc, hf⟩ := hS.look R
                      clear hS
                      by_cases hjb : j < b
                      · go_wp2
                        go_quiet (first | (go_at_call 141; refine Calls.quiet_of_same (less_any _ _ _)))
                        go_wp2
                        · have hl : lt (G j) (G (j - 1)) = false := by
                            have : (!lt (G j) (G (j - 1))) = true := by assumption
                            simpa using this
                          have HU : Hid (fixUp lt b i dj = du) := by show fixUp lt b i dj = du; rw [fixUp, if_pos hbi, ← HUU.out, shiftUp_stop lt b j du (Or.inr (by rw [HG.out, HG.out]; exact hl))]
                          go_roundw
                          case rel => exact ⟨i, s + 1, du, by go_num, by go_num, by omega, by omega, by omega, HS.out.drewN _, eKK.out _ (by rw [HD.out, HU.out])⟩
                          case measure => simp [intOf]; omega
                        · have hl : lt (G j) (G (j - 1)) = true := by
                            have : (!lt (G j) (G (j - 1))) = false := by assumption
                            simpa using this
                          replace HS : Hid (St w0 g o N du (wr.drewN nq)) := HS.out.drewN nq
                          replace hc : ∀ t, t < N → (wr.drewN nq).cell? ⟨g, o + t, none⟩ = some (.int .u16 ((G t).toNat : Int)) := hc
                          replace hf : ∀ t, t < N → (wr.drewN nq).frozen? ⟨g, o + t, none⟩ = false := hf
                          generalize wr.drewN nq = wr2 at HS hc hf ⊢
                          clear nq
                          go_region
                          all_goals go_wp2
                          go_roundw
                          case rel => exact ⟨j + 1, swp du j (j - 1), by go_num, by omega, by omega, HS.out.swap R HG.out _ j (j - 1) (by omega) (by omega), by rw [← HUU.out, shiftUp_go lt b j du hjb (by rw [HG.out, HG.out]; exact hl)]⟩
                          case measure => simp [intOf]; omega
                      · go_wp2
                        have HU : Hid (fixUp lt b i dj = du) := by show fixUp lt b i dj = du; rw [fixUp, if_pos hbi, ← HUU.out, shiftUp_stop lt b j du (Or.inl hjb)]
                        go_roundw
                        case rel => exact ⟨i, s + 1, du, by go_num, by go_num, by omega, by omega, by omega, HS.out, eKK.out _ (by rw [HD.out, HU.out])⟩
                        case measure => simp [intOf]; omega
                  · have ebi : ¬ (2 : Int) ≤ (b : Int) - (i : Int) := by omega
                    go_wp2
                    have HU : Hid (fixUp lt b i dj = dj) := by show fixUp lt b i dj = dj; rw [fixUp, if_neg hbi]
                    go_roundw
                    case rel => exact ⟨i, s + 1, dj, by go_num, by go_num, by omega, by omega, by omega, HS.out, eKK.out _ (by rw [HD.out, HU.out])⟩
                    case measure => simp [intOf]; omega
            · have e2 : ¬ (2 : Int) ≤ (i : Int) - (a : Int) := by omega
              have HD : Hid (fixDown lt a i d1 = d1) := by show fixDown lt a i d1 = d1; rw [fixDown, if_neg h2]
              clear hc hf HG
              obtain ⟨G, HG, hc, hf⟩ := HS.out.look R
              by_cases hbi : 2 ≤ b - i
              · have ebi : (2 : Int) ≤ (b : Int) - (i : Int) := by omega
                go_wp2
                go_loopw [10] (fun v W => ∃ (j : Nat) (du : Array UInt16), v = .int .i64 (j : Int) ∧ i < j ∧ j ≤ b ∧ St w0 g o N du W ∧ shiftUp lt b j du = shiftUp lt b (i + 1) d1) (fun v _ => b - (intOf v).toNat)
                case atStart => exact ⟨i + 1, d1, by go_num, by omega, by omega, HS.out, rfl⟩
                case round =>
                  clear HS hc hf HG
                  obtain ⟨j, du, rfl, hj1, hj2, hS, hU⟩ := hrel
                  have HS : Hid _ := hS
                  have HUU : Hid _ := hU
                  clear hU
                  obtain ⟨G, HG, hc, hf⟩ := hS.look R
                  clear hS
                  by_cases hjb : j < b
                  · go_wp2
                    go_quiet (first | (go_at_call 141; refine Calls.quiet_of_same (less_any _ _ _)))
                    go_wp2
                    · have hl : lt (G j) (G (j - 1)) = false := by
                        have : (!lt (G j) (G (j - 1))) = true := by assumption
                        simpa using this
                      have HU : Hid (fixUp lt b i d1 = du) := by show fixUp lt b i d1 = du; rw [fixUp, if_pos hbi, ← HUU.out, shiftUp_stop lt b j du (Or.inr (by rw [HG.out, HG.out]; exact hl))]
                      go_roundw
                      case rel => exact ⟨i, s + 1, du, by go_num, by go_num, by omega, by omega, by omega, HS.out.drewN _, eKK.out _ (by rw [HD.out, HU.out])⟩
                      case measure => simp [intOf]; omega
                    · have hl : lt (G j) (G (j - 1)) = true := by
                        have : (!lt (G j) (G (j - 1))) = false := by assumption
                        simpa using this
                      replace HS : Hid (St w0 g o N du (wr.drewN nq)) := HS.out.drewN nq
                      replace hc : ∀ t, t < N → (wr.drewN nq).cell? ⟨g, o + t, none⟩ = some (.int .u16 ((G t).toNat : Int)) := hc
                      replace hf : ∀ t, t < N → (wr.drewN nq).frozen? ⟨g, o + t, none⟩ = false := hf
                      generalize wr.drewN nq = wr2 at HS hc hf ⊢
                      clear nq
                      go_region
                      all_goals go_wp2
                      go_roundw
                      case rel => exact ⟨j + 1, swp du j (j - 1), by go_num, by omega, by omega, HS.out.swap R HG.out _ j (j - 1) (by omega) (by omega), by rw [← HUU.out, shiftUp_go lt b j du hjb (by rw [HG.out, HG.out]; exact hl)]⟩
                      case measure => simp [intOf]; omega
                  · go_wp2
                    have HU : Hid (fixUp lt b i d1 = du) := by show fixUp lt b i d1 = du; rw [fixUp, if_pos hbi, ← HUU.out, shiftUp_stop lt b j du (Or.inl hjb)]
                    go_roundw
                    case rel => exact ⟨i, s + 1, du, by go_num, by go_num, by omega, by omega, by omega, HS.out, eKK.out _ (by rw [HD.out, HU.out])⟩
                    case measure => simp [intOf]; omega
              · have ebi : ¬ (2 : Int) ≤ (b : Int) - (i : Int) := by omega
                go_wp2
                have HU : Hid (fixUp lt b i d1 = d1) := by show fixUp lt b i d1 = d1; rw [fixUp, if_neg hbi]
                go_roundw
                case rel => exact ⟨i, s + 1, d1, by go_num, by go_num, by omega, by omega, by omega, HS.out, eKK.out _ (by rw [HD.out, HU.out])⟩
                case measure => simp [intOf]; omega
        · have eib : decide ((i : Int) < (b : Int)) = false := decide_eq_false (by omega)
          obtain rfl : i = b := by omega
          go_quiet (first | (go_at_call 141; refine Calls.quiet_of_same (less_any _ _ _)))
          go_wp2
          go_ret
          have e := pi_true lt a i s i0 dk hs5 (by rw [HKK.out, scanSorted_stop lt dk i i (Or.inl (by omega))])
          rw [HO.out] at e
          rw [e]; exact ⟨rfl, HS.out.drewN _⟩
    · obtain rfl : s = 5 := by omega
      go_wp2
      go_ret
      have e := HO.out
      rw [pi_end] at e
      rw [← e]; exact ⟨rfl, hS⟩
end Go.Proofs.YtdldaphkiphpnaaGreat

/- stage4/SrtG -/
/- slices.Sort at uint16: partitionEqualOrdered. -/
namespace Go.Proofs.YtdldaphkiphpnaaGreat
open Go.RowKit Go.Sort Q
set_option maxRecDepth 100000 in
set_option maxHeartbeats 12800000 in
theorem peq_any (w0 w : World) (g o N cap a b p : Nat) (d : Array UInt16) (R : Rw w0 g o N) (h : St w0 g o N d w) (hap : a ≤ p) (hpb : p < b) (hb : b ≤ N) :
    Calls Tryz.prog 142 #[.slice (some ⟨g, o, none⟩) N cap, .int .i64 a, .int .i64 b, .int .i64 p] w fun e w' => e = .returned (.int .i64 ((partitionEqual lt d a b p).1 : Int)) ∧ St w0 g o N (partitionEqual lt d a b p).2 w' := by
  have hsm := R.small
  obtain ⟨G, HG, hc, hf⟩ := h.look R
  obtain ⟨x0, hx0⟩ := two hc a p (by omega) (by omega) (.int .u16 ((G p).toNat : Int))
  have HS : Hid _ := h
  clear h
  have haN : a < N := by omega
  have hpN : p < N := by omega
  go_enter Tryz.func142, Tryz.ntmps142
  go_wp2
  go_region
  have HS1 : Hid (St w0 g o N (swp d a p) ((w.setCell ⟨g, o + a, none⟩ (.int .u16 ((G p).toNat : Int))).setCell ⟨g, o + p, none⟩ (.int .u16 ((G a).toNat : Int))).drew) := HS.out.swap R HG.out 1 a p haN hpN
  clear HS hc hf hx0
  generalize ((w.setCell ⟨g, o + a, none⟩ (.int .u16 ((G p).toNat : Int))).setCell ⟨g, o + p, none⟩ (.int .u16 ((G a).toNat : Int))).drew = w1 at HS1 ⊢
  clear HG
  go_wp2
  go_loopw [9, 10] (fun v u W => ∃ (i j : Nat) (dk : Array UInt16), v = .int .i64 (i : Int) ∧ u = .int .i64 (j : Int) ∧ a < i ∧ i ≤ j + 1 ∧ j < b ∧ St w0 g o N dk W ∧ partEqLoop lt a i j dk = partitionEqual lt d a b p) (fun v u _ => ((intOf u) + 1 - (intOf v)).toNat)
  case atStart => exact ⟨a + 1, b - 1, swp d a p, by go_num, by congr 1; omega, by omega, by omega, by omega, HS1.out, rfl⟩
  case round =>
    clear HS1
    obtain ⟨i, j, dk, rfl, rfl, hai, hij, hjb, hS, hO⟩ := hrel
    have HO : Hid _ := hO
    clear hO
    go_wp2
    go_loopw [9] (fun v W => ∃ k : Nat, v = .int .i64 (k : Int) ∧ i ≤ k ∧ k ≤ j + 1 ∧ St w0 g o N dk W ∧ scanUp (fun x => !lt dk[a]! x) dk j i = scanUp (fun x => !lt dk[a]! x) dk j k) (fun v _ => j + 1 - (intOf v).toNat)
    case atStart => exact ⟨i, rfl, Nat.le_refl _, hij, hS, rfl⟩
    case round =>
      clear hS
      obtain ⟨i2, rfl, hi1, hi2, hS, hI⟩ := hrel
      obtain ⟨G, HG, hc, hf⟩ := hS.look R
      have HS : Hid _ := hS
      have HII : Hid _ := hI
      clear hS hI
      go_wp2
      by_cases hik : i2 ≤ j
      · by_cases hl : lt (G a) (G i2) = true
        · have HI : Hid (i2 = scanUp (fun x => !lt dk[a]! x) dk j i) := by show i2 = _; rw [HII.out, scanUp_end (fun x => !lt dk[a]! x) dk j i2 (Or.inr (by rw [HG.out, HG.out, hl]; rfl))]
          go_quiet (first | (go_at_call 141; refine Calls.quiet_of_same (less_any _ _ _)))
          replace HS : Hid (St w0 g o N dk (wr.drewN nq)) := HS.out.drewN nq
          replace hc : ∀ t, t < N → (wr.drewN nq).cell? ⟨g, o + t, none⟩ = some (.int .u16 ((G t).toNat : Int)) := hc
          replace hf : ∀ t, t < N → (wr.drewN nq).frozen? ⟨g, o + t, none⟩ = false := hf
          generalize wr.drewN nq = wr2 at HS hc hf ⊢
          clear nq
          clear HII
          go_wp2
          go_loopw [10] (fun v W => ∃ k : Nat, v = .int .i64 (k : Int) ∧ i2 ≤ k + 1 ∧ k ≤ j ∧ St w0 g o N dk W ∧ scanDown (fun x => lt dk[a]! x) dk i2 j = scanDown (fun x => lt dk[a]! x) dk i2 k) (fun v _ => (intOf v).toNat)
          case atStart => exact ⟨j, rfl, by omega, Nat.le_refl _, HS.out, rfl⟩
          case round =>
            clear HS hc hf
            obtain ⟨k, rfl, hk1, hk2, hS, hJ⟩ := hrel
            have HS : Hid _ := hS
            have HJ : Hid _ := hJ
            clear hJ HG
            obtain ⟨G, HG, hc, hf⟩ := hS.look R
            clear hS
            go_wp2
            by_cases hik : i2 ≤ k
            · have hk0 : 0 < k := by omega
              by_cases hl : lt (G a) (G k) = true
              · go_quiet (first | (go_at_call 141; refine Calls.quiet_of_same (less_any _ _ _)))
                go_wp2
                go_roundw
                case rel => exact ⟨k - 1, by congr 1; omega, by omega, by omega, HS.out.drewN _, by rw [HJ.out, scanDown_go (fun x => lt dk[a]! x) dk i2 k hik hk0 (by rw [HG.out, HG.out]; exact hl)]⟩
                case measure => simp [intOf]; omega
              · have hl' : lt (G a) (G k) = false := by simpa using hl
                clear hl
                have HJ2 : Hid (k = scanDown (fun x => lt dk[a]! x) dk i2 j) := by show k = _; rw [HJ.out, scanDown_end (fun x => lt dk[a]! x) dk i2 k (Or.inr (by rw [HG.out, HG.out]; exact hl'))]
                have hlt : i2 < k := scans_lt lt a i j dk (by omega) HI.out HJ2.out hik
                have elt : ¬ (k : Int) < (i2 : Int) := by omega
                go_quiet (first | (go_at_call 141; refine Calls.quiet_of_same (less_any _ _ _)))
                replace HS : Hid (St w0 g o N dk (wr.drewN nq)) := HS.out.drewN nq
                replace hc : ∀ t, t < N → (wr.drewN nq).cell? ⟨g, o + t, none⟩ = some (.int .u16 ((G t).toNat : Int)) := hc
                replace hf : ∀ t, t < N → (wr.drewN nq).frozen? ⟨g, o + t, none⟩ = false := hf
                generalize wr.drewN nq = wrk at HS hc hf ⊢
                clear nq
                go_wp2
                go_region
                all_goals go_wp2
                go_roundw
                case rel => exact ⟨i2 + 1, k - 1, swp dk i2 k, by go_num, by congr 1; omega, by omega, by omega, by omega, HS.out.swap R HG.out _ i2 k (by omega) (by omega), by rw [← HO.out, partEq_go lt a i j dk HI.out HJ2.out (by omega)]⟩
                case measure => simp [intOf]; omega
            · have eik : decide ((i2 : Int) ≤ (k : Int)) = false := decide_eq_false (by omega)
              have HJ2 : Hid (k = scanDown (fun x => lt dk[a]! x) dk i2 j) := by show k = _; rw [HJ.out, scanDown_end (fun x => lt dk[a]! x) dk i2 k (Or.inl hik)]
              have elt : (k : Int) < (i2 : Int) := by omega
              go_quiet (first | (go_at_call 141; refine Calls.quiet_of_same (less_any _ _ _)))
              go_wp2
              go_ret
              have e := HO.out
              rw [partEq_break lt a i j dk HI.out HJ2.out (by omega)] at e
              rw [← e]; exact ⟨rfl, HS.out.drewN _⟩
        · have hl' : lt (G a) (G i2) = false := by simpa using hl
          clear hl
          go_quiet (first | (go_at_call 141; refine Calls.quiet_of_same (less_any _ _ _)))
          go_wp2
          go_roundw
          case rel => exact ⟨i2 + 1, by go_num, by omega, by omega, HS.out.drewN _, by rw [HII.out, scanUp_go (fun x => !lt dk[a]! x) dk j i2 hik (by rw [HG.out, HG.out, hl']; rfl)]⟩
          case measure => simp [intOf]; omega
      · have eik : decide ((i2 : Int) ≤ (j : Int)) = false := decide_eq_false (by omega)
        have HI : Hid (i2 = scanUp (fun x => !lt dk[a]! x) dk j i) := by show i2 = _; rw [HII.out, scanUp_end (fun x => !lt dk[a]! x) dk j i2 (Or.inl hik)]
        go_quiet (first | (go_at_call 141; refine Calls.quiet_of_same (less_any _ _ _)))
        replace HS : Hid (St w0 g o N dk (wr.drewN nq)) := HS.out.drewN nq
        replace hc : ∀ t, t < N → (wr.drewN nq).cell? ⟨g, o + t, none⟩ = some (.int .u16 ((G t).toNat : Int)) := hc
        replace hf : ∀ t, t < N → (wr.drewN nq).frozen? ⟨g, o + t, none⟩ = false := hf
        generalize wr.drewN nq = wr2 at HS hc hf ⊢
        clear nq
        clear HII eik
        go_wp2
        go_loopw [10] (fun v W => ∃ k : Nat, v = .int .i64 (k : Int) ∧ i2 ≤ k + 1 ∧ k ≤ j ∧ St w0 g o N dk W ∧ scanDown (fun x => lt dk[a]! x) dk i2 j = scanDown (fun x => lt dk[a]! x) dk i2 k) (fun v _ => (intOf v).toNat)
        case atStart => exact ⟨j, rfl, by omega, Nat.le_refl _, HS.out, rfl⟩
        case round =>
          clear HS hc hf
          obtain ⟨k, rfl, hk1, hk2, hS, hJ⟩ := hrel
          have HS : Hid _ := hS
          have HJ : Hid _ := hJ
          clear hJ HG
          obtain ⟨G, HG, hc, hf⟩ := hS.look R
          clear hS
          go_wp2
          by_cases hik : i2 ≤ k
          · omega
          · have eik : decide ((i2 : Int) ≤ (k : Int)) = false := decide_eq_false (by omega)
            have HJ2 : Hid (k = scanDown (fun x => lt dk[a]! x) dk i2 j) := by show k = _; rw [HJ.out, scanDown_end (fun x => lt dk[a]! x) dk i2 k (Or.inl hik)]
            have elt : (k : Int) < (i2 : Int) := by omega
            go_quiet (first | (go_at_call 141; refine Calls.quiet_of_same (less_any _ _ _)))
            go_wp2
            go_ret
            have e := HO.out
            rw [partEq_break lt a i j dk HI.out HJ2.out (by omega)] at e
            rw [← e]; exact ⟨rfl, HS.out.drewN _⟩
end Go.Proofs.YtdldaphkiphpnaaGreat

