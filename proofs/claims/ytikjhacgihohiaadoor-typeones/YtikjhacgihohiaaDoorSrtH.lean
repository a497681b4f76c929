/- slices.Sort at uint16: partitionOrdered. -/
import Derived.Test.YtikjhacgihohiaaDoorSrtC
import Derived.Sort.WalkC4
namespace Go.Proofs.YtikjhacgihohiaaDoor
open Go.RowKit Go.Sort Q
set_option maxRecDepth 100000 in
set_option maxHeartbeats 25600000 in
theorem part_any (w0 w : World) (g o N cap a b p : Nat) (d : Array UInt16) (R : Rw w0 g o N) (h : St w0 g o N d w) (hap : a ≤ p) (hpb : p < b) (hb : b ≤ N) :
    Calls Tryd.prog 55 #[.slice (some ⟨g, o, none⟩) N cap, .int .i64 a, .int .i64 b, .int .i64 p] w fun e w' => e = .returned (.tuple #[.int .i64 ((partition lt d a b p).1 : Int), .bool (partition lt d a b p).2.1]) ∧ St w0 g o N (partition lt d a b p).2.2 w' := by
  have hsm := R.small
  obtain ⟨G, HG, hc, hf⟩ := h.look R
  obtain ⟨x0, hx0⟩ := two hc a p (by omega) (by omega) (.int .u16 ((G p).toNat : Int))
  have HS : Hid _ := h
  clear h
  have haN : a < N := by omega
  have hpN : p < N := by omega
  go_enter Tryd.func55, Tryd.ntmps55
  go_wp2
  go_region
  have HS1 : Hid (St w0 g o N (swp d a p) ((w.setCell ⟨g, o + a, none⟩ (.int .u16 ((G p).toNat : Int))).setCell ⟨g, o + p, none⟩ (.int .u16 ((G a).toNat : Int))).drew) := HS.out.swap R HG.out 1 a p haN hpN
  clear HS hc hf hx0
  generalize ((w.setCell ⟨g, o + a, none⟩ (.int .u16 ((G p).toNat : Int))).setCell ⟨g, o + p, none⟩ (.int .u16 ((G a).toNat : Int))).drew = w1 at HS1 ⊢
  clear HG
  obtain ⟨i, hi⟩ : ∃ i, i = a + 1 := ⟨_, rfl⟩
  obtain ⟨j, hj⟩ : ∃ j, j = b - 1 := ⟨_, rfl⟩
  obtain ⟨dk, hdk⟩ : ∃ dk, dk = swp d a p := ⟨_, rfl⟩
  rw [← hdk] at HS1
  have HI0 : Hid (i = a + 1 ∧ j = b - 1 ∧ dk = swp d a p) := ⟨hi, hj, hdk⟩
  have hai : a < i := by omega
  have hij : i ≤ j + 1 := by omega
  have hjb : j < b := by omega
  have ei : (a : Int) + 1 = (i : Int) := by omega
  have ej : (b : Int) - 1 = (j : Int) := by omega
  have HS := HS1
  clear hi hj hdk HS1
  go_wp2
  go_loopw [10] (fun v W => ∃ k : Nat, v = .int .i64 (k : Int) ∧ i ≤ k ∧ k ≤ j + 1 ∧ St w0 g o N dk W ∧ scanUp (fun x => lt x dk[a]!) dk j i = scanUp (fun x => lt x dk[a]!) dk j k) (fun v _ => j + 1 - (intOf v).toNat)
  case atStart => exact ⟨i, by first | rfl | (congr 1; omega), Nat.le_refl _, hij, HS.out, rfl⟩
  case round =>
    clear HS
    obtain ⟨i2, rfl, hi1, hi2, hS, hI⟩ := hrel
    obtain ⟨G, HG, hc, hf⟩ := hS.look R
    have HS : Hid _ := hS
    have HII : Hid _ := hI
    clear hS hI
    go_wp2
    by_cases hik : i2 ≤ j
    · by_cases hl : lt (G i2) (G a) = true
      · go_quiet (first | (go_at_call 53; refine Calls.quiet_of_same (less_any _ _ _)))
        go_wp2
        go_roundw
        case rel => exact ⟨i2 + 1, by go_num, by omega, by omega, HS.out.drewN _, by rw [HII.out, scanUp_go (fun x => lt x dk[a]!) dk j i2 hik (by rw [HG.out, HG.out]; exact hl)]⟩
        case measure => simp [intOf]; omega
      · have hl' : lt (G i2) (G a) = false := by simpa using hl
        clear hl
        have HI : Hid (i2 = scanUp (fun x => lt x dk[a]!) dk j i) := by show i2 = _; rw [HII.out, scanUp_end (fun x => lt x dk[a]!) dk j i2 (Or.inr (by rw [HG.out, HG.out]; exact hl'))]
        go_quiet (first | (go_at_call 53; refine Calls.quiet_of_same (less_any _ _ _)))
        replace HS : Hid (St w0 g o N dk (wr.drewN nq)) := HS.out.drewN nq
        replace hc : ∀ t, t < N → (wr.drewN nq).cell? ⟨g, o + t, none⟩ = some (.int .u16 ((G t).toNat : Int)) := hc
        replace hf : ∀ t, t < N → (wr.drewN nq).frozen? ⟨g, o + t, none⟩ = false := hf
        generalize wr.drewN nq = wr2 at HS hc hf ⊢
        clear nq
        clear HII hl'
        go_wp2
        go_loopw [11] (fun v W => ∃ k : Nat, v = .int .i64 (k : Int) ∧ i2 ≤ k + 1 ∧ k ≤ j ∧ St w0 g o N dk W ∧ scanDown (fun x => !lt x dk[a]!) dk i2 j = scanDown (fun x => !lt x dk[a]!) dk i2 k) (fun v _ => (intOf v).toNat)
        case atStart => exact ⟨j, by first | rfl | (congr 1; omega), by omega, Nat.le_refl _, HS.out, rfl⟩
        case round =>
          clear HS hc hf
          obtain ⟨k, rfl, hk1, hk2, hS, hJ⟩ := hrel
          have HS : Hid _ := hS
          have HJ : Hid _ := hJ
          clear hJ HG
          obtain ⟨G, HG, hc, hf⟩ := hS.look R
          clear hS
          go_wp2
          by_cases hik : i2 ≤ k
          · have hk0 : 0 < k := by omega
            by_cases hl : lt (G k) (G a) = true
            · have HJ2 : Hid (k = scanDown (fun x => !lt x dk[a]!) dk i2 j) := by show k = _; rw [HJ.out, scanDown_end (fun x => !lt x dk[a]!) dk i2 k (Or.inr (by rw [HG.out, HG.out, hl]; rfl))]
              have hlt : i2 < k := part_scans_lt lt a i j dk (by omega) HI.out HJ2.out hik
              have elt : ¬ (k : Int) < (i2 : Int) := by omega
              go_quiet (first | (go_at_call 53; refine Calls.quiet_of_same (less_any _ _ _)))
              replace HS : Hid (St w0 g o N dk (wr.drewN nq)) := HS.out.drewN nq
              replace hc : ∀ t, t < N → (wr.drewN nq).cell? ⟨g, o + t, none⟩ = some (.int .u16 ((G t).toNat : Int)) := hc
              replace hf : ∀ t, t < N → (wr.drewN nq).frozen? ⟨g, o + t, none⟩ = false := hf
              generalize wr.drewN nq = wrk at HS hc hf ⊢
              clear nq
              go_wp2
              go_region
              have HS1 : Hid (St w0 g o N (swp dk i2 k) ((wrk.setCell ⟨g, o + i2, none⟩ (.int .u16 ((G k).toNat : Int))).setCell ⟨g, o + k, none⟩ (.int .u16 ((G i2).toNat : Int))).drew) := HS.out.swap R HG.out 1 i2 k (by omega) (by omega)
              have HE : Hid (partition lt d a b p = ((partLoop lt a (i2 + 1) (k - 1) (swp dk i2 k)).1, false, swp (partLoop lt a (i2 + 1) (k - 1) (swp dk i2 k)).2 (partLoop lt a (i2 + 1) (k - 1) (swp dk i2 k)).1 a)) := part_first_go lt d a b p HI0.out.1 HI0.out.2.1 HI0.out.2.2 HI.out HJ2.out (by omega)
              clear HS hc hf
              generalize ((wrk.setCell ⟨g, o + i2, none⟩ (.int .u16 ((G k).toNat : Int))).setCell ⟨g, o + k, none⟩ (.int .u16 ((G i2).toNat : Int))).drew = wrq at HS1 ⊢
              have hik1 : a < i2 + 1 ∧ i2 + 1 ≤ (k - 1) + 1 ∧ k - 1 < b := by omega
              obtain ⟨r1, r2, r3⟩ := hik1
              have ek1 : (k : Int) - 1 = ((k - 1 : Nat) : Int) := by omega
              generalize swp dk i2 k = ds at HS1 HE
              clear HI HJ2 HJ HG hl hik hi1 hi2 hk1 hk2 hlt elt hk0
              go_wp2
              go_loopw [10, 11] (fun v u W => ∃ (i j : Nat) (dk : Array UInt16), v = .int .i64 (i : Int) ∧ u = .int .i64 (j : Int) ∧ a < i ∧ i ≤ j + 1 ∧ j < b ∧ St w0 g o N dk W ∧ partLoop lt a i j dk = partLoop lt a (i2 + 1) (k - 1) ds) (fun v u _ => ((intOf u) + 1 - (intOf v)).toNat)
              case atStart => exact ⟨i2 + 1, k - 1, ds, by go_num, by congr 1, r1, r2, r3, HS1.out, rfl⟩
              case round =>
                clear HS1 HI0 hij hjb hai ek1 r1 r2 r3
                obtain ⟨i, j, dk, rfl, rfl, hai, hij, hjb, hS, hO⟩ := hrel
                have HO : Hid _ := hO
                have HS : Hid _ := hS
                clear hO hS
                go_wp2
                go_loopw [10] (fun v W => ∃ k : Nat, v = .int .i64 (k : Int) ∧ i ≤ k ∧ k ≤ j + 1 ∧ St w0 g o N dk W ∧ scanUp (fun x => lt x dk[a]!) dk j i = scanUp (fun x => lt x dk[a]!) dk j k) (fun v _ => j + 1 - (intOf v).toNat)
                case atStart => exact ⟨i, by first | rfl | (congr 1; omega), Nat.le_refl _, hij, HS.out, rfl⟩
                case round =>
                  clear HS
                  obtain ⟨i2, rfl, hi1, hi2, hS, hI⟩ := hrel
                  obtain ⟨G, HG, hc, hf⟩ := hS.look R
                  have HS : Hid _ := hS
                  have HII : Hid _ := hI
                  clear hS hI
                  go_wp2
                  by_cases hik : i2 ≤ j
                  · by_cases hl : lt (G i2) (G a) = true
                    · go_quiet (first | (go_at_call 53; refine Calls.quiet_of_same (less_any _ _ _)))
                      go_wp2
                      go_roundw
                      case rel => exact ⟨i2 + 1, by go_num, by omega, by omega, HS.out.drewN _, by rw [HII.out, scanUp_go (fun x => lt x dk[a]!) dk j i2 hik (by rw [HG.out, HG.out]; exact hl)]⟩
                      case measure => simp [intOf]; omega
                    · have hl' : lt (G i2) (G a) = false := by simpa using hl
                      clear hl
                      have HI : Hid (i2 = scanUp (fun x => lt x dk[a]!) dk j i) := by show i2 = _; rw [HII.out, scanUp_end (fun x => lt x dk[a]!) dk j i2 (Or.inr (by rw [HG.out, HG.out]; exact hl'))]
                      go_quiet (first | (go_at_call 53; refine Calls.quiet_of_same (less_any _ _ _)))
                      replace HS : Hid (St w0 g o N dk (wr.drewN nq)) := HS.out.drewN nq
                      replace hc : ∀ t, t < N → (wr.drewN nq).cell? ⟨g, o + t, none⟩ = some (.int .u16 ((G t).toNat : Int)) := hc
                      replace hf : ∀ t, t < N → (wr.drewN nq).frozen? ⟨g, o + t, none⟩ = false := hf
                      generalize wr.drewN nq = wr2 at HS hc hf ⊢
                      clear nq
                      clear HII hl'
                      go_wp2
                      go_loopw [11] (fun v W => ∃ k : Nat, v = .int .i64 (k : Int) ∧ i2 ≤ k + 1 ∧ k ≤ j ∧ St w0 g o N dk W ∧ scanDown (fun x => !lt x dk[a]!) dk i2 j = scanDown (fun x => !lt x dk[a]!) dk i2 k) (fun v _ => (intOf v).toNat)
                      case atStart => exact ⟨j, by first | rfl | (congr 1; omega), by omega, Nat.le_refl _, HS.out, rfl⟩
                      case round =>
                        clear HS hc hf
                        obtain ⟨k, rfl, hk1, hk2, hS, hJ⟩ := hrel
                        have HS : Hid _ := hS
                        have HJ : Hid _ := hJ
                        clear hJ HG
                        obtain ⟨G, HG, hc, hf⟩ := hS.look R
                        clear hS
                        go_wp2
                        by_cases hik : i2 ≤ k
                        · have hk0 : 0 < k := by omega
                          by_cases hl : lt (G k) (G a) = true
                          · have HJ2 : Hid (k = scanDown (fun x => !lt x dk[a]!) dk i2 j) := by show k = _; rw [HJ.out, scanDown_end (fun x => !lt x dk[a]!) dk i2 k (Or.inr (by rw [HG.out, HG.out, hl]; rfl))]
                            have hlt : i2 < k := part_scans_lt lt a i j dk (by omega) HI.out HJ2.out hik
                            have elt : ¬ (k : Int) < (i2 : Int) := by omega
                            go_quiet (first | (go_at_call 53; refine Calls.quiet_of_same (less_any _ _ _)))
                            replace HS : Hid (St w0 g o N dk (wr.drewN nq)) := HS.out.drewN nq
                            replace hc : ∀ t, t < N → (wr.drewN nq).cell? ⟨g, o + t, none⟩ = some (.int .u16 ((G t).toNat : Int)) := hc
                            replace hf : ∀ t, t < N → (wr.drewN nq).frozen? ⟨g, o + t, none⟩ = false := hf
                            generalize wr.drewN nq = wrk at HS hc hf ⊢
                            clear nq
                            go_wp2
                            go_region
                            all_goals go_wp2
                            go_roundw
                            case rel => exact ⟨i2 + 1, k - 1, swp dk i2 k, by go_num, by congr 1; omega, by omega, by omega, by omega, HS.out.swap R HG.out _ i2 k (by omega) (by omega), by rw [← HO.out, part_go lt a i j dk HI.out HJ2.out (by omega)]⟩
                            case measure => simp [intOf]; omega
                          · have hl' : lt (G k) (G a) = false := by simpa using hl
                            clear hl
                            go_quiet (first | (go_at_call 53; refine Calls.quiet_of_same (less_any _ _ _)))
                            go_wp2
                            go_roundw
                            case rel => exact ⟨k - 1, by congr 1; omega, by omega, by omega, HS.out.drewN _, by rw [HJ.out, scanDown_go (fun x => !lt x dk[a]!) dk i2 k hik hk0 (by rw [HG.out, HG.out, hl']; rfl)]⟩
                            case measure => simp [intOf]; omega
                        · have eik : decide ((i2 : Int) ≤ (k : Int)) = false := decide_eq_false (by omega)
                          have HJ2 : Hid (k = scanDown (fun x => !lt x dk[a]!) dk i2 j) := by show k = _; rw [HJ.out, scanDown_end (fun x => !lt x dk[a]!) dk i2 k (Or.inl hik)]
                          have elt : (k : Int) < (i2 : Int) := by omega
                          go_quiet (first | (go_at_call 53; refine Calls.quiet_of_same (less_any _ _ _)))
                          replace HS : Hid (St w0 g o N dk (wr.drewN nq)) := HS.out.drewN nq
                          replace hc : ∀ t, t < N → (wr.drewN nq).cell? ⟨g, o + t, none⟩ = some (.int .u16 ((G t).toNat : Int)) := hc
                          replace hf : ∀ t, t < N → (wr.drewN nq).frozen? ⟨g, o + t, none⟩ = false := hf
                          generalize wr.drewN nq = wrk at HS hc hf ⊢
                          clear nq
                          clear eik
                          have hkN : k < N := by omega
                          obtain ⟨x0, hx0⟩ := two hc k a hkN haN (.int .u16 ((G a).toNat : Int))
                          go_wp2
                          go_region
                          all_goals go_wp2
                          go_ret2
                          have e := HO.out
                          rw [part_break lt a i j dk HI.out HJ2.out (by omega)] at e
                          rw [HE.out, ← e]
                          exact ⟨rfl, HS.out.swap R HG.out 1 k a hkN haN⟩
                  · have eik : decide ((i2 : Int) ≤ (j : Int)) = false := decide_eq_false (by omega)
                    have HI : Hid (i2 = scanUp (fun x => lt x dk[a]!) dk j i) := by show i2 = _; rw [HII.out, scanUp_end (fun x => lt x dk[a]!) dk j i2 (Or.inl hik)]
                    go_quiet (first | (go_at_call 53; refine Calls.quiet_of_same (less_any _ _ _)))
                    replace HS : Hid (St w0 g o N dk (wr.drewN nq)) := HS.out.drewN nq
                    replace hc : ∀ t, t < N → (wr.drewN nq).cell? ⟨g, o + t, none⟩ = some (.int .u16 ((G t).toNat : Int)) := hc
                    replace hf : ∀ t, t < N → (wr.drewN nq).frozen? ⟨g, o + t, none⟩ = false := hf
                    generalize wr.drewN nq = wr2 at HS hc hf ⊢
                    clear nq
                    clear HII eik
                    go_wp2
                    go_loopw [11] (fun v W => ∃ k : Nat, v = .int .i64 (k : Int) ∧ i2 ≤ k + 1 ∧ k ≤ j ∧ St w0 g o N dk W ∧ scanDown (fun x => !lt x dk[a]!) dk i2 j = scanDown (fun x => !lt x dk[a]!) dk i2 k) (fun v _ => (intOf v).toNat)
                    case atStart => exact ⟨j, by first | rfl | (congr 1; omega), by omega, Nat.le_refl _, HS.out, rfl⟩
                    case round =>
                      clear HS hc hf
                      obtain ⟨k, rfl, hk1, hk2, hS, hJ⟩ := hrel
                      have HS : Hid _ := hS
                      have HJ : Hid _ := hJ
                      clear hJ HG
                      obtain ⟨G, HG, hc, hf⟩ := hS.look R
                      clear hS
                      go_wp2
                      by_cases hik : i2 ≤ k
                      · omega
                      · have eik : decide ((i2 : Int) ≤ (k : Int)) = false := decide_eq_false (by omega)
                        have HJ2 : Hid (k = scanDown (fun x => !lt x dk[a]!) dk i2 j) := by show k = _; rw [HJ.out, scanDown_end (fun x => !lt x dk[a]!) dk i2 k (Or.inl hik)]
                        have elt : (k : Int) < (i2 : Int) := by omega
                        go_quiet (first | (go_at_call 53; refine Calls.quiet_of_same (less_any _ _ _)))
                        replace HS : Hid (St w0 g o N dk (wr.drewN nq)) := HS.out.drewN nq
                        replace hc : ∀ t, t < N → (wr.drewN nq).cell? ⟨g, o + t, none⟩ = some (.int .u16 ((G t).toNat : Int)) := hc
                        replace hf : ∀ t, t < N → (wr.drewN nq).frozen? ⟨g, o + t, none⟩ = false := hf
                        generalize wr.drewN nq = wrk at HS hc hf ⊢
                        clear nq
                        clear eik
                        have hkN : k < N := by omega
                        obtain ⟨x0, hx0⟩ := two hc k a hkN haN (.int .u16 ((G a).toNat : Int))
                        go_wp2
                        go_region
                        all_goals go_wp2
                        go_ret2
                        have e := HO.out
                        rw [part_break lt a i j dk HI.out HJ2.out (by omega)] at e
                        rw [HE.out, ← e]
                        exact ⟨rfl, HS.out.swap R HG.out 1 k a hkN haN⟩
            · have hl' : lt (G k) (G a) = false := by simpa using hl
              clear hl
              go_quiet (first | (go_at_call 53; refine Calls.quiet_of_same (less_any _ _ _)))
              go_wp2
              go_roundw
              case rel => exact ⟨k - 1, by congr 1; omega, by omega, by omega, HS.out.drewN _, by rw [HJ.out, scanDown_go (fun x => !lt x dk[a]!) dk i2 k hik hk0 (by rw [HG.out, HG.out, hl']; rfl)]⟩
              case measure => simp [intOf]; omega
          · have eik : decide ((i2 : Int) ≤ (k : Int)) = false := decide_eq_false (by omega)
            have HJ2 : Hid (k = scanDown (fun x => !lt x dk[a]!) dk i2 j) := by show k = _; rw [HJ.out, scanDown_end (fun x => !lt x dk[a]!) dk i2 k (Or.inl hik)]
            have elt : (k : Int) < (i2 : Int) := by omega
            go_quiet (first | (go_at_call 53; refine Calls.quiet_of_same (less_any _ _ _)))
            replace HS : Hid (St w0 g o N dk (wr.drewN nq)) := HS.out.drewN nq
            replace hc : ∀ t, t < N → (wr.drewN nq).cell? ⟨g, o + t, none⟩ = some (.int .u16 ((G t).toNat : Int)) := hc
            replace hf : ∀ t, t < N → (wr.drewN nq).frozen? ⟨g, o + t, none⟩ = false := hf
            generalize wr.drewN nq = wrk at HS hc hf ⊢
            clear nq
            clear eik
            have hkN : k < N := by omega
            obtain ⟨x0, hx0⟩ := two hc k a hkN haN (.int .u16 ((G a).toNat : Int))
            go_wp2
            go_region
            all_goals go_wp2
            go_ret2
            rw [part_first_break lt d a b p HI0.out.1 HI0.out.2.1 HI0.out.2.2 HI.out HJ2.out (by omega)]
            exact ⟨rfl, HS.out.swap R HG.out 1 k a hkN haN⟩
    · have eik : decide ((i2 : Int) ≤ (j : Int)) = false := decide_eq_false (by omega)
      have HI : Hid (i2 = scanUp (fun x => lt x dk[a]!) dk j i) := by show i2 = _; rw [HII.out, scanUp_end (fun x => lt x dk[a]!) dk j i2 (Or.inl hik)]
      go_quiet (first | (go_at_call 53; refine Calls.quiet_of_same (less_any _ _ _)))
      replace HS : Hid (St w0 g o N dk (wr.drewN nq)) := HS.out.drewN nq
      replace hc : ∀ t, t < N → (wr.drewN nq).cell? ⟨g, o + t, none⟩ = some (.int .u16 ((G t).toNat : Int)) := hc
      replace hf : ∀ t, t < N → (wr.drewN nq).frozen? ⟨g, o + t, none⟩ = false := hf
      generalize wr.drewN nq = wr2 at HS hc hf ⊢
      clear nq
      clear HII eik
      go_wp2
      go_loopw [11] (fun v W => ∃ k : Nat, v = .int .i64 (k : Int) ∧ i2 ≤ k + 1 ∧ k ≤ j ∧ St w0 g o N dk W ∧ scanDown (fun x => !lt x dk[a]!) dk i2 j = scanDown (fun x => !lt x dk[a]!) dk i2 k) (fun v _ => (intOf v).toNat)
      case atStart => exact ⟨j, by first | rfl | (congr 1; omega), by omega, Nat.le_refl _, HS.out, rfl⟩
      case round =>
        clear HS hc hf
        obtain ⟨k, rfl, hk1, hk2, hS, hJ⟩ := hrel
        have HS : Hid _ := hS
        have HJ : Hid _ := hJ
        clear hJ HG
        obtain ⟨G, HG, hc, hf⟩ := hS.look R
        clear hS
        go_wp2
        by_cases hik : i2 ≤ k
        · omega
        · have eik : decide ((i2 : Int) ≤ (k : Int)) = false := decide_eq_false (by omega)
          have HJ2 : Hid (k = scanDown (fun x => !lt x dk[a]!) dk i2 j) := by show k = _; rw [HJ.out, scanDown_end (fun x => !lt x dk[a]!) dk i2 k (Or.inl hik)]
          have elt : (k : Int) < (i2 : Int) := by omega
          go_quiet (first | (go_at_call 53; refine Calls.quiet_of_same (less_any _ _ _)))
          replace HS : Hid (St w0 g o N dk (wr.drewN nq)) := HS.out.drewN nq
          replace hc : ∀ t, t < N → (wr.drewN nq).cell? ⟨g, o + t, none⟩ = some (.int .u16 ((G t).toNat : Int)) := hc
          replace hf : ∀ t, t < N → (wr.drewN nq).frozen? ⟨g, o + t, none⟩ = false := hf
          generalize wr.drewN nq = wrk at HS hc hf ⊢
          clear nq
          clear eik
          have hkN : k < N := by omega
          obtain ⟨x0, hx0⟩ := two hc k a hkN haN (.int .u16 ((G a).toNat : Int))
          go_wp2
          go_region
          all_goals go_wp2
          go_ret2
          rw [part_first_break lt d a b p HI0.out.1 HI0.out.2.1 HI0.out.2.2 HI.out HJ2.out (by omega)]
          exact ⟨rfl, HS.out.swap R HG.out 1 k a hkN haN⟩
end Go.Proofs.YtikjhacgihohiaaDoor
