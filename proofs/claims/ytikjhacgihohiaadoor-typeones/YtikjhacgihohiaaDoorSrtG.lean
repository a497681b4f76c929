/- slices.Sort at uint16: partitionEqualOrdered. -/
import Derived.Test.YtikjhacgihohiaaDoorSrtC
import Derived.Sort.WalkC4
namespace Go.Proofs.YtikjhacgihohiaaDoor
open Go.RowKit Go.Sort Q
set_option maxRecDepth 100000 in
set_option maxHeartbeats 12800000 in
theorem peq_any (w0 w : World) (g o N cap a b p : Nat) (d : Array UInt16) (R : Rw w0 g o N) (h : St w0 g o N d w) (hap : a ≤ p) (hpb : p < b) (hb : b ≤ N) :
    Calls Tryd.prog 54 #[.slice (some ⟨g, o, none⟩) N cap, .int .i64 a, .int .i64 b, .int .i64 p] w fun e w' => e = .returned (.int .i64 ((partitionEqual lt d a b p).1 : Int)) ∧ St w0 g o N (partitionEqual lt d a b p).2 w' := by
  have hsm := R.small
  obtain ⟨G, HG, hc, hf⟩ := h.look R
  obtain ⟨x0, hx0⟩ := two hc a p (by omega) (by omega) (.int .u16 ((G p).toNat : Int))
  have HS : Hid _ := h
  clear h
  have haN : a < N := by omega
  have hpN : p < N := by omega
  go_enter Tryd.func54, Tryd.ntmps54
  go_wp2
  go_region
  have HS1 : Hid (St w0 g o N (swp d a p) ((w.setCell ⟨g, o + a, none⟩ (.int .u16 ((G p).toNat : Int))).setCell ⟨g, o + p, none⟩ (.int .u16 ((G a).toNat : Int))).drew) := HS.out.swap R HG.out 1 a p haN hpN
  clear HS hc hf hx0
  generalize ((w.setCell ⟨g, o + a, none⟩ (.int .u16 ((G p).toNat : Int))).setCell ⟨g, o + p, none⟩ (.int .u16 ((G a).toNat : Int))).drew = w1 at HS1 ⊢
  clear HG
  go_wp2
  go_loopw [9, 10] (fun v u W => ∃ (i j : Nat) (dk : Array UInt16), v = .int .i64 (i : Int) ∧ u = .int .i64 (j : Int) ∧ a < i ∧ i ≤ j + 1 ∧ j < b ∧ St w0 g o N dk W ∧ partEqLoop lt a i j dk = partitionEqual lt d a b p) (fun v u _ => ((intOf u) + 1 - (intOf v)).toNat)
  case atStart => exact ⟨a + 1, b - 1, swp d a p, by go_num, by congr 1; omega, by omega, by omega, by omega, HS1.out, rfl⟩
  case round =>
    clear HS1
    obtain ⟨i, j, dk, rfl, rfl, hai, hij, hjb, hS, hO⟩ := hrel
    have HO : Hid _ := hO
    clear hO
    go_wp2
    go_loopw [9] (fun v W => ∃ k : Nat, v = .int .i64 (k : Int) ∧ i ≤ k ∧ k ≤ j + 1 ∧ St w0 g o N dk W ∧ scanUp (fun x => !lt dk[a]! x) dk j i = scanUp (fun x => !lt dk[a]! x) dk j k) (fun v _ => j + 1 - (intOf v).toNat)
    case atStart => exact ⟨i, rfl, Nat.le_refl _, hij, hS, rfl⟩
    case round =>
      clear hS
      obtain ⟨i2, rfl, hi1, hi2, hS, hI⟩ := hrel
      obtain ⟨G, HG, hc, hf⟩ := hS.look R
      have HS : Hid _ := hS
      have HII : Hid _ := hI
      clear hS hI
      go_wp2
      by_cases hik : i2 ≤ j
      · by_cases hl : lt (G a) (G i2) = true
        · have HI : Hid (i2 = scanUp (fun x => !lt dk[a]! x) dk j i) := by show i2 = _; rw [HII.out, scanUp_end (fun x => !lt dk[a]! x) dk j i2 (Or.inr (by rw [HG.out, HG.out, hl]; rfl))]
          go_quiet (first | (go_at_call 53; refine Calls.quiet_of_same (less_any _ _ _)))
          replace HS : Hid (St w0 g o N dk (wr.drewN nq)) := HS.out.drewN nq
          replace hc : ∀ t, t < N → (wr.drewN nq).cell? ⟨g, o + t, none⟩ = some (.int .u16 ((G t).toNat : Int)) := hc
          replace hf : ∀ t, t < N → (wr.drewN nq).frozen? ⟨g, o + t, none⟩ = false := hf
          generalize wr.drewN nq = wr2 at HS hc hf ⊢
          clear nq
          clear HII
          go_wp2
          go_loopw [10] (fun v W => ∃ k : Nat, v = .int .i64 (k : Int) ∧ i2 ≤ k + 1 ∧ k ≤ j ∧ St w0 g o N dk W ∧ scanDown (fun x => lt dk[a]! x) dk i2 j = scanDown (fun x => lt dk[a]! x) dk i2 k) (fun v _ => (intOf v).toNat)
          case atStart => exact ⟨j, rfl, by omega, Nat.le_refl _, HS.out, rfl⟩
          case round =>
            clear HS hc hf
            obtain ⟨k, rfl, hk1, hk2, hS, hJ⟩ := hrel
            have HS : Hid _ := hS
            have HJ : Hid _ := hJ
            clear hJ HG
            obtain ⟨G, HG, hc, hf⟩ := hS.look R
            clear hS
            go_wp2
            by_cases hik : i2 ≤ k
            · have hk0 : 0 < k := by omega
              by_cases hl : lt (G a) (G k) = true
              · go_quiet (first | (go_at_call 53; refine Calls.quiet_of_same (less_any _ _ _)))
                go_wp2
                go_roundw
                case rel => exact ⟨k - 1, by congr 1; omega, by omega, by omega, HS.out.drewN _, by rw [HJ.out, scanDown_go (fun x => lt dk[a]! x) dk i2 k hik hk0 (by rw [HG.out, HG.out]; exact hl)]⟩
                case measure => simp [intOf]; omega
              · have hl' : lt (G a) (G k) = false := by simpa using hl
                clear hl
                have HJ2 : Hid (k = scanDown (fun x => lt dk[a]! x) dk i2 j) := by show k = _; rw [HJ.out, scanDown_end (fun x => lt dk[a]! x) dk i2 k (Or.inr (by rw [HG.out, HG.out]; exact hl'))]
                have hlt : i2 < k := scans_lt lt a i j dk (by omega) HI.out HJ2.out hik
                have elt : ¬ (k : Int) < (i2 : Int) := by omega
                go_quiet (first | (go_at_call 53; refine Calls.quiet_of_same (less_any _ _ _)))
                replace HS : Hid (St w0 g o N dk (wr.drewN nq)) := HS.out.drewN nq
                replace hc : ∀ t, t < N → (wr.drewN nq).cell? ⟨g, o + t, none⟩ = some (.int .u16 ((G t).toNat : Int)) := hc
                replace hf : ∀ t, t < N → (wr.drewN nq).frozen? ⟨g, o + t, none⟩ = false := hf
                generalize wr.drewN nq = wrk at HS hc hf ⊢
                clear nq
                go_wp2
                go_region
                all_goals go_wp2
                go_roundw
                case rel => exact ⟨i2 + 1, k - 1, swp dk i2 k, by go_num, by congr 1; omega, by omega, by omega, by omega, HS.out.swap R HG.out _ i2 k (by omega) (by omega), by rw [← HO.out, partEq_go lt a i j dk HI.out HJ2.out (by omega)]⟩
                case measure => simp [intOf]; omega
            · have eik : decide ((i2 : Int) ≤ (k : Int)) = false := decide_eq_false (by omega)
              have HJ2 : Hid (k = scanDown (fun x => lt dk[a]! x) dk i2 j) := by show k = _; rw [HJ.out, scanDown_end (fun x => lt dk[a]! x) dk i2 k (Or.inl hik)]
              have elt : (k : Int) < (i2 : Int) := by omega
              go_quiet (first | (go_at_call 53; refine Calls.quiet_of_same (less_any _ _ _)))
              go_wp2
              go_ret
              have e := HO.out
              rw [partEq_break lt a i j dk HI.out HJ2.out (by omega)] at e
              rw [← e]; exact ⟨rfl, HS.out.drewN _⟩
        · have hl' : lt (G a) (G i2) = false := by simpa using hl
          clear hl
          go_quiet (first | (go_at_call 53; refine Calls.quiet_of_same (less_any _ _ _)))
          go_wp2
          go_roundw
          case rel => exact ⟨i2 + 1, by go_num, by omega, by omega, HS.out.drewN _, by rw [HII.out, scanUp_go (fun x => !lt dk[a]! x) dk j i2 hik (by rw [HG.out, HG.out, hl']; rfl)]⟩
          case measure => simp [intOf]; omega
      · have eik : decide ((i2 : Int) ≤ (j : Int)) = false := decide_eq_false (by omega)
        have HI : Hid (i2 = scanUp (fun x => !lt dk[a]! x) dk j i) := by show i2 = _; rw [HII.out, scanUp_end (fun x => !lt dk[a]! x) dk j i2 (Or.inl hik)]
        go_quiet (first | (go_at_call 53; refine Calls.quiet_of_same (less_any _ _ _)))
        replace HS : Hid (St w0 g o N dk (wr.drewN nq)) := HS.out.drewN nq
        replace hc : ∀ t, t < N → (wr.drewN nq).cell? ⟨g, o + t, none⟩ = some (.int .u16 ((G t).toNat : Int)) := hc
        replace hf : ∀ t, t < N → (wr.drewN nq).frozen? ⟨g, o + t, none⟩ = false := hf
        generalize wr.drewN nq = wr2 at HS hc hf ⊢
        clear nq
        clear HII eik
        go_wp2
        go_loopw [10] (fun v W => ∃ k : Nat, v = .int .i64 (k : Int) ∧ i2 ≤ k + 1 ∧ k ≤ j ∧ St w0 g o N dk W ∧ scanDown (fun x => lt dk[a]! x) dk i2 j = scanDown (fun x => lt dk[a]! x) dk i2 k) (fun v _ => (intOf v).toNat)
        case atStart => exact ⟨j, rfl, by omega, Nat.le_refl _, HS.out, rfl⟩
        case round =>
          clear HS hc hf
          obtain ⟨k, rfl, hk1, hk2, hS, hJ⟩ := hrel
          have HS : Hid _ := hS
          have HJ : Hid _ := hJ
          clear hJ HG
          obtain ⟨G, HG, hc, hf⟩ := hS.look R
          clear hS
          go_wp2
          by_cases hik : i2 ≤ k
          · omega
          · have eik : decide ((i2 : Int) ≤ (k : Int)) = false := decide_eq_false (by omega)
            have HJ2 : Hid (k = scanDown (fun x => lt dk[a]! x) dk i2 j) := by show k = _; rw [HJ.out, scanDown_end (fun x => lt dk[a]! x) dk i2 k (Or.inl hik)]
            have elt : (k : Int) < (i2 : Int) := by omega
            go_quiet (first | (go_at_call 53; refine Calls.quiet_of_same (less_any _ _ _)))
            go_wp2
            go_ret
            have e := HO.out
            rw [partEq_break lt a i j dk HI.out HJ2.out (by omega)] at e
            rw [← e]; exact ⟨rfl, HS.out.drewN _⟩
end Go.Proofs.YtikjhacgihohiaaDoor
