/- Loads, walked: finite, New, Add, Value, Count, and the reference's. -/
import Derived.Test.YtmkpihagfbohdaaAri
import Derived.Laws.BitsAllLaws
namespace Go.Proofs.Ytmkpihagfbohdaa
open Go.RowKit
namespace F
set_option maxRecDepth 5000 in
theorem key_small {r : Nat} (h : r < 9223372036854775808) : key r = (r : Int) := by unfold key; rw [if_pos (by omega)]
set_option maxRecDepth 5000 in
theorem nan_rung (b : Nat) : nan (b % 9223372036854775808) = nan b := by
  rw [nan_iff, nan_iff]; congr 2; unfold rung; omega
set_option maxRecDepth 5000 in
theorem inf_cmp (b : Nat) (hn : nan b = false) : (FloatKind.f64.format.order (b % 9223372036854775808) 9218868437227405311 == some .gt) = !fin b := by
  have h1 : b % 9223372036854775808 < 9223372036854775808 := Nat.mod_lt _ (by decide)
  rw [order_key (by omega) (by decide), nan_rung, hn, show nan 9218868437227405311 = false by kernel_rfl]
  simp only [Bool.or_self, Bool.false_eq_true, if_false]
  rw [key_small h1, key_small (by omega)]
  unfold fin rung
  by_cases h : b % 9223372036854775808 < 9218868437227405312
  · rw [decide_eq_true (by omega : b % 2 ^ 63 < 9218868437227405312)]
    have : compare ((b % 9223372036854775808 : Nat) : Int) ((9218868437227405311 : Nat) : Int) ≠ .gt := fun hc => by
      have := Int.compare_eq_gt.1 hc; omega
    cases hc : compare ((b % 9223372036854775808 : Nat) : Int) ((9218868437227405311 : Nat) : Int)
    · rfl
    · rfl
    · exact absurd hc this
  · rw [decide_eq_false (by omega : ¬ b % 2 ^ 63 < 9218868437227405312), Int.compare_eq_gt.2 (by omega)]; rfl
set_option maxRecDepth 5000 in
theorem nan_fin {b : Nat} (h : nan b = true) : fin b = false := by
  cases hf : fin b
  · rfl
  · rw [fin_nan hf] at h; cases h
/- a part that may be, or the whole -/
def part (p : Nat) : Nat := if (FloatKind.f64.format.order p 0 == some .gt) && (FloatKind.f64.format.order p 4607182418800017408 == some .lt || FloatKind.f64.format.order p 4607182418800017408 == some .eq) then p else 4607182418800017408
set_option maxRecDepth 5000 in
theorem part_good {p : Nat} (hp : p < 2 ^ 64) : fin (part p) = true ∧ 0 < rung (part p) ∧ part p < 2 ^ 64 := by
  unfold part
  split
  · rename_i h
    simp only [Bool.and_eq_true, Bool.or_eq_true, beq_iff_eq] at h
    obtain ⟨h1, h2⟩ := h
    obtain ⟨n1, _, c1⟩ := num_of hp (by decide) h1
    have c1 := Int.compare_eq_gt.1 c1
    have c2 : key p ≤ 4607182418800017408 := by
      rcases h2 with h2 | h2
      · obtain ⟨_, _, c⟩ := num_of hp (by decide) h2
        have := Int.compare_eq_lt.1 c
        rw [show key 4607182418800017408 = 4607182418800017408 by kernel_rfl] at this; omega
      · obtain ⟨_, _, c⟩ := num_of hp (by decide) h2
        have := Int.compare_eq_eq.1 c
        rw [show key 4607182418800017408 = 4607182418800017408 by kernel_rfl] at this; omega
    rw [show key 0 = 0 by kernel_rfl] at c1
    unfold key at c1 c2
    split at c1
    · rename_i hl
      rw [if_pos hl] at c2
      refine ⟨?_, ?_, hp⟩
      · unfold fin rung; exact decide_eq_true (by omega)
      · unfold rung; omega
    · omega
  · exact ⟨by kernel_rfl, by decide, by decide⟩
/- where a value goes -/
def step (p v x : Nat) : Nat := if fin v then (if fin (ar .add v (ar .mul p (ar .sub x v))) then ar .add v (ar .mul p (ar .sub x v)) else x) else x
set_option maxRecDepth 5000 in
theorem step_lt {p v x : Nat} (hx : x < 2 ^ 64) : step p v x < 2 ^ 64 := by
  unfold step; split
  · split
    · exact ar_lt ..
    · exact hx
  · exact hx
set_option maxRecDepth 5000 in
theorem step_ok {p v x : Nat} (hp : fin p = true) (h0 : 0 < rung p) (hv : fin v = true) (hx : nan x = false) :
    ∃ d s r, floatBits .sub .f64 x v = some d ∧ floatBits .mul .f64 p d = some s ∧ floatBits .add .f64 v s = some r ∧ r < 2 ^ 64 ∧ step p v x = if fin r then r else x := by
  obtain ⟨d, hd⟩ := sub_ok hx hv
  obtain ⟨s, hs⟩ := mul_ok hp h0 (fb_num hd)
  obtain ⟨r, hr⟩ := add_ok hv (fb_num hs)
  refine ⟨d, s, r, hd, hs, hr, fb_lt hr, ?_⟩
  unfold step
  rw [hv, ar_some hd, ar_some hs, ar_some hr]; rfl
end F
set_option maxRecDepth 5000 in
theorem andNot_top (n : Nat) (h : n < 2 ^ 64) : Go.bits .andNot .u64 (n : Int) 9223372036854775808 = ((n % 9223372036854775808 : Nat) : Int) := by
  have := u64_andNot_nat n 9223372036854775808 (by omega) (by omega)
  rw [show ((9223372036854775808 : Nat) : Int) = 9223372036854775808 from rfl] at this
  rw [this]
  congr 1
  exact Nat.and_two_pow_sub_one_eq_mod n 63
set_option maxRecDepth 5000 in
theorem abs_any (a : Nat) (ha : a < 2 ^ 64) (w : World) : Calls Try.prog 62 #[.float .f64 a] w fun e w' => e = .returned (.float .f64 (a % 9223372036854775808)) ∧ w' = w := by
  have hb := run_tobits a
  have hc := andNot_top a ha
  obtain ⟨R, hR⟩ : ∃ R, a % 9223372036854775808 = R := ⟨_, rfl⟩
  rw [hR] at hc ⊢
  have hf := run_frombits (R : Int)
  rw [Int.toNat_natCast] at hf
  go_enter Try.func62, Try.ntmps62
  go_wp2
  go_ret
  exact ⟨rfl, rfl⟩
set_option maxRecDepth 5000 in
theorem isInf_any (a : Nat) (ha : a < 2 ^ 64) (hn : F.nan a = false) (w : World) : Calls Try.prog 48 #[.float .f64 a, .int .i64 0] w fun e w' => e = .returned (.bool (!F.fin a)) ∧ w' = w := by
  have hc := F.inf_cmp a hn
  go_enter Try.func48, Try.ntmps48
  go_wp2_with (go_at_call 62; refine (abs_any _ ha _).mono ?_; rintro e w' ⟨rfl, rfl⟩)
  go_ret
  exact ⟨rfl, rfl⟩
set_option maxRecDepth 5000 in
theorem finite_any (a : Nat) (ha : a < 2 ^ 64) (w : World) : Calls Try.prog 47 #[.float .f64 a] w fun e w' => e = .returned (.bool (F.fin a)) ∧ w' = w := by
  cases hn : F.nan a
  · go_enter Try.func47, Try.ntmps47
    go_wp2_with (first | (go_at_call 32; refine (isNaN_any _ _).mono ?_; rintro e w' ⟨rfl, rfl⟩; rw [hn]) | (go_at_call 48; refine (isInf_any _ ha hn _).mono ?_; rintro e w' ⟨rfl, rfl⟩))
    go_ret
    exact ⟨by simp, rfl⟩
  · rw [F.nan_fin hn]
    go_enter Try.func47, Try.ntmps47
    go_wp2_with (first | (go_at_call 32; refine (isNaN_any _ _).mono ?_; rintro e w' ⟨rfl, rfl⟩; rw [hn]) | (go_at_call 48; refine (isInf_any _ ha hn _).mono ?_; rintro e w' ⟨rfl, rfl⟩))
    go_ret
    exact ⟨rfl, rfl⟩
set_option maxRecDepth 5000 in
theorem rfinite_any (a : Nat) (ha : a < 2 ^ 64) (w : World) : Calls Try.prog 41 #[.float .f64 a] w fun e w' => e = .returned (.bool (F.fin a)) ∧ w' = w := by
  cases hn : F.nan a
  · go_enter Try.func41, Try.ntmps41
    go_wp2_with (first | (go_at_call 34; refine (rnan_any _ _).mono ?_; rintro e w' ⟨rfl, rfl⟩; rw [hn]) | (go_at_call 48; refine (isInf_any _ ha hn _).mono ?_; rintro e w' ⟨rfl, rfl⟩))
    go_ret
    exact ⟨by simp, rfl⟩
  · rw [F.nan_fin hn]
    go_enter Try.func41, Try.ntmps41
    go_wp2_with (first | (go_at_call 34; refine (rnan_any _ _).mono ?_; rintro e w' ⟨rfl, rfl⟩; rw [hn]) | (go_at_call 48; refine (isInf_any _ ha hn _).mono ?_; rintro e w' ⟨rfl, rfl⟩))
    go_ret
    exact ⟨rfl, rfl⟩
/- a load in memory: its part, its value, its count -/
def lrow (p v : Nat) (n : Int) : Array Value := #[.float .f64 p, .float .f64 v, .int .i64 n]
set_option maxRecDepth 5000 in
theorem new_any (p : Nat) (w : World) : Calls Try.prog 21 #[.float .f64 p] w fun e w' => e = .returned (.pointer (some ⟨w.heap.size, 0, none⟩)) ∧ w' = w.alloc (.cells (lrow (F.part p) 9221120237041090561 0) 61) := by
  have hn := hnot
  have h4 : F.norm 9221120237041090561 = 9221120237041090561 := by kernel_rfl
  unfold F.part
  cases h1 : (FloatKind.f64.format.order p 0 == some .gt)
  · go_enter Try.func21, Try.ntmps21
    go_wp2_with (first | (go_at_call 28; refine (nanF_any _).mono ?_; rintro e w' ⟨rfl, rfl⟩) | (go_at_call 36; refine (told_any _ _).mono ?_; rintro e w' ⟨rfl, rfl⟩; rw [h4]))
    go_ret
    exact ⟨rfl, rfl⟩
  · cases h2 : (FloatKind.f64.format.order p 4607182418800017408 == some .lt || FloatKind.f64.format.order p 4607182418800017408 == some .eq)
    all_goals
      go_enter Try.func21, Try.ntmps21
      go_wp2_with (first | (go_at_call 28; refine (nanF_any _).mono ?_; rintro e w' ⟨rfl, rfl⟩) | (go_at_call 36; refine (told_any _ _).mono ?_; rintro e w' ⟨rfl, rfl⟩; rw [h4]))
      go_ret
      exact ⟨rfl, rfl⟩
set_option maxRecDepth 5000 in
theorem rnew_any (p : Nat) (w : World) : Calls Try.prog 22 #[.float .f64 p] w fun e w' => e = .returned (.pointer (some ⟨w.heap.size, 0, none⟩)) ∧ w' = w.alloc (.cells (lrow (F.part p) 9221120237041090561 0) 42) := by
  have hn := hnot
  unfold F.part
  cases h1 : (FloatKind.f64.format.order p 0 == some .gt)
  · go_enter Try.func22, Try.ntmps22
    go_wp2_with (go_at_call 28; refine (nanF_any _).mono ?_; rintro e w' ⟨rfl, rfl⟩)
    go_ret
    exact ⟨rfl, rfl⟩
  · cases h2 : (FloatKind.f64.format.order p 4607182418800017408 == some .lt || FloatKind.f64.format.order p 4607182418800017408 == some .eq)
    all_goals
      go_enter Try.func22, Try.ntmps22
      go_wp2_with (go_at_call 28; refine (nanF_any _).mono ?_; rintro e w' ⟨rfl, rfl⟩)
      go_ret
      exact ⟨rfl, rfl⟩
set_option maxRecDepth 5000 in
theorem value_any (g p v : Nat) (n : Int) (w : World) (hR : RowAt w g 61 (lrow p v n)) : Calls Try.prog 23 #[.pointer (some ⟨g, 0, none⟩)] w fun e w' => e = .returned (.float .f64 v) ∧ w' = w := by
  have c1 : w.cell? ⟨g, 1, none⟩ = some (.float .f64 v) := hR.cell 1
  go_enter Try.func23, Try.ntmps23
  go_wp2
  go_ret
  exact ⟨rfl, rfl⟩
set_option maxRecDepth 5000 in
theorem count_any (g p v : Nat) (n : Int) (w : World) (hR : RowAt w g 61 (lrow p v n)) : Calls Try.prog 24 #[.pointer (some ⟨g, 0, none⟩)] w fun e w' => e = .returned (.int .i64 n) ∧ w' = w := by
  have c1 : w.cell? ⟨g, 2, none⟩ = some (.int .i64 n) := hR.cell 2
  go_enter Try.func24, Try.ntmps24
  go_wp2
  go_ret
  exact ⟨rfl, rfl⟩
end Go.Proofs.Ytmkpihagfbohdaa
