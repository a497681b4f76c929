/- What is rounded to itself; whole parts of floats; plain. -/
import Derived.Test.YtmkpihagfbohdaaAri
namespace Go.Proofs.Ytmkpihagfbohdaa
namespace F
open Ieee
set_option maxRecDepth 5000 in
theorem log2_mul_pow (K d : Nat) (hK : K ≠ 0) : (K * 2 ^ d).log2 = K.log2 + d := by
  have hp : K * 2 ^ d ≠ 0 := Nat.mul_ne_zero hK (Nat.ne_of_gt (Nat.two_pow_pos d))
  have h1 : 2 ^ K.log2 ≤ K := Nat.log2_self_le hK
  have h2 : K < 2 ^ (K.log2 + 1) := Nat.lt_log2_self
  have a : K.log2 + d ≤ (K * 2 ^ d).log2 := (Nat.le_log2 hp).2 (by rw [Nat.pow_add]; exact Nat.mul_le_mul_right _ h1)
  have b : (K * 2 ^ d).log2 < K.log2 + d + 1 := (Nat.log2_lt hp).2 (by
    rw [show K.log2 + d + 1 = (K.log2 + 1) + d by omega, Nat.pow_add]; exact Nat.mul_lt_mul_of_pos_right h2 (Nat.two_pow_pos d))
  omega
set_option maxRecDepth 5000 in
theorem cut_exact (s : Bool) (way : Toward) (n drop c : Nat) (h : n = c * 2 ^ drop) (hc : c ≠ 0) : way.cut s n drop = c := by
  subst h
  unfold Toward.cut
  have hl := log2_mul_pow c drop hc
  simp only [hl, Nat.shiftLeft_eq, Nat.one_mul]
  rw [Nat.min_eq_left (by omega), Nat.mul_div_cancel _ (Nat.two_pow_pos drop), Nat.mul_mod_left]
  have hp := Nat.two_pow_pos drop
  cases way
  · have h2 : (2 ^ drop == 2 * 0) = false := by rw [beq_eq_false_iff_ne]; omega
    simp [h2]
  · simp
  · simp
  · simp
/- a number of at most 53 digits is rounded to itself -/
set_option maxRecDepth 5000 in
theorem nearest_exact (s : Bool) (m : Nat) (p e : Int) (K : Nat) (hK : K < 2 ^ 53) (hpe : p ≤ e) (he : -1074 ≤ e) (he2 : e ≤ 900) (hm : m = K * 2 ^ (e - p).toNat) :
    ∃ r, FloatKind.f64.format.nearest s m p = FloatKind.f64.format.word s r ∧ r < 9218868437227405312 ∧ V r = K * 2 ^ (e + 1074).toNat := by
  by_cases hK0 : K = 0
  · subst hK0
    rw [Nat.zero_mul] at hm
    subst hm
    exact ⟨0, by unfold Format.nearest; rw [if_pos rfl], by decide, by rw [Nat.zero_mul]; decide⟩
  · have hm0 : m ≠ 0 := by rw [hm]; exact Nat.mul_ne_zero hK0 (Nat.ne_of_gt (Nat.two_pow_pos _))
    have hL : m.log2 = K.log2 + (e - p).toNat := by rw [hm]; exact log2_mul_pow K _ hK0
    have hk52 : K.log2 < 53 := (Nat.log2_lt hK0).2 hK
    unfold Format.nearest
    rw [if_neg hm0]
    simp only [fmt_lp, fmt_bin, fmt_inf]
    rw [show ((FloatKind.f64.format.fractionBits : Nat) : Int) = 52 from rfl]
    obtain ⟨last, hlast⟩ : ∃ last : Int, max (p + (m.log2 : Int) - 52) (-1074) = last := ⟨_, rfl⟩
    rw [hlast]
    have hle : last ≤ e := by rw [hL] at hlast; omega
    have hge : -1074 ≤ last := by omega
    obtain ⟨c, hc⟩ : ∃ c, K * 2 ^ (e - last).toNat = c := ⟨_, rfl⟩
    have hc0 : c ≠ 0 := by rw [← hc]; exact Nat.mul_ne_zero hK0 (Nat.ne_of_gt (Nat.two_pow_pos _))
    have hcl : c.log2 = K.log2 + (e - last).toNat := by rw [← hc]; exact log2_mul_pow K _ hK0
    have hcut : Toward.even.cut s (m <<< (p - last).toNat) (last - p).toNat = c := by
      refine cut_exact s .even _ _ c ?_ hc0
      rw [Nat.shiftLeft_eq, hm, ← hc, Nat.mul_assoc, Nat.mul_assoc, ← Nat.pow_add, ← Nat.pow_add]
      congr 2; omega
    rw [hcut]
    have hclt : c < 2 ^ 53 := (Nat.log2_lt hc0).1 (by rw [hcl]; rw [hL] at hlast; omega)
    obtain ⟨t, ht⟩ : ∃ t, (last - -1074).toNat = t := ⟨_, rfl⟩
    rw [ht]
    have ht9 : t ≤ 1974 := by omega
    refine ⟨t * 2 ^ 52 + c, by rw [Nat.min_eq_left (by omega)], by omega, ?_⟩
    by_cases ht0 : t = 0
    · subst ht0
      have h1 : last = -1074 := by omega
      subst h1
      rw [show (e - -1074).toNat = (e + 1074).toNat by omega] at hc
      rw [hc]
      unfold V
      by_cases h5 : 0 * 2 ^ 52 + c < 2 ^ 52
      · rw [if_pos h5]; omega
      · rw [if_neg h5, show (0 * 2 ^ 52 + c) / 2 ^ 52 - 1 = 0 by omega, show (0 * 2 ^ 52 + c) % 2 ^ 52 = c - 2 ^ 52 by omega]; omega
    · have hbig : 2 ^ 52 ≤ c := by
        have h1 : c.log2 = 52 := by rw [hcl]; rw [hL] at hlast; omega
        have := Nat.log2_self_le hc0
        rw [h1] at this; exact this
      unfold V
      rw [if_neg (by omega), show (t * 2 ^ 52 + c) / 2 ^ 52 - 1 = t by omega, show 2 ^ 52 + (t * 2 ^ 52 + c) % 2 ^ 52 = c by omega, ← hc, Nat.mul_assoc, ← Nat.pow_add]
      congr 2; omega
set_option maxRecDepth 5000 in
theorem cut_zero (s : Bool) (n drop : Nat) : Toward.zero.cut s n drop = n / 2 ^ drop := by
  unfold Toward.cut
  simp only [Nat.shiftLeft_eq, Nat.one_mul, Bool.toNat_false, Nat.add_zero]
  by_cases h : drop ≤ n.log2 + 2
  · rw [Nat.min_eq_left h]
  · rw [Nat.min_eq_right (by omega)]
    have h1 : n < 2 ^ (n.log2 + 1) := Nat.lt_log2_self
    have h2 : 2 ^ (n.log2 + 1) ≤ 2 ^ (n.log2 + 2) := Nat.pow_le_pow_right (by decide) (by omega)
    have h3 : 2 ^ (n.log2 + 2) ≤ 2 ^ drop := Nat.pow_le_pow_right (by decide) (by omega)
    rw [Nat.div_eq_of_lt (by omega), Nat.div_eq_of_lt (by omega)]
set_option maxRecDepth 5000 in
theorem cut_down (n drop : Nat) : Toward.down.cut false n drop = n / 2 ^ drop := by
  rw [← cut_zero false n drop]; rfl
/- the whole part of a number, of the rung r -/
def zp : Nat := 1074
set_option maxRecDepth 5000 in
theorem zp_eq : zp = 1074 := rfl
set_option maxRecDepth 5000 in
theorem pow_split (a b c : Nat) (h : a = b + c) : 2 ^ a = 2 ^ b * 2 ^ c := by rw [h, Nat.pow_add]
def whole (r : Nat) : Nat := V r / 2 ^ zp
set_option maxRecDepth 5000 in
theorem whole_of {m : Nat} {p : Int} {r : Nat} (hp : -1074 ≤ p) (h : m * 2 ^ (p + 1074).toNat = V r) : (m <<< p.toNat) / 2 ^ (-p).toNat = whole r := by
  unfold whole
  rw [← h, Nat.shiftLeft_eq]
  by_cases h0 : p ≤ 0
  · obtain ⟨k, hk⟩ : ∃ k : Nat, p = -(k : Int) := ⟨(-p).toNat, by omega⟩
    subst hk
    have e1 : (-(k : Int)).toNat = 0 := by omega
    have e2 : (-(-(k : Int))).toNat = k := by omega
    have e3 : (-(k : Int) + 1074).toNat = 1074 - k := by omega
    rw [e1, e2, e3, Nat.pow_zero, Nat.mul_one]
    have e4 : 2 ^ zp = 2 ^ (1074 - k) * 2 ^ k := pow_split _ _ _ (by rw [zp_eq]; omega)
    rw [e4, Nat.mul_comm m, Nat.mul_div_mul_left _ _ (Nat.two_pow_pos _)]
  · obtain ⟨k, hk⟩ : ∃ k : Nat, p = (k : Int) := ⟨p.toNat, by omega⟩
    subst hk
    have e1 : (k : Int).toNat = k := by omega
    have e2 : (-(k : Int)).toNat = 0 := by omega
    have e3 : ((k : Int) + 1074).toNat = k + zp := by rw [zp_eq]; omega
    rw [e1, e2, e3, Nat.pow_zero, Nat.div_one, Nat.pow_add, ← Nat.mul_assoc, Nat.mul_div_cancel _ (Nat.two_pow_pos _)]
set_option maxRecDepth 5000 in
theorem toInt_read {b : Nat} (h : rung b < 9218868437227405312) : (FloatKind.f64.format.read b).toInt .zero = some (if neg b then -((whole (rung b) : Nat) : Int) else (whole (rung b) : Nat)) := by
  obtain ⟨m, p, hr, hp, hv⟩ := read_fin h
  rw [hr]
  unfold Datum.toInt Datum.integral
  dsimp only
  rw [cut_zero, whole_of hp hv]
  unfold signed
  rw [Nat.shiftLeft_zero]
/- the whole part of a positive number, or of a nought, down or towards nought -/
set_option maxRecDepth 5000 in
theorem floor_read {b : Nat} (h : rung b < 9218868437227405312) (hn : neg b = true → rung b = 0) : (FloatKind.f64.format.read b).integral .down = .number (neg b) (whole (rung b)) 0 := by
  obtain ⟨m, p, hr, hp, hv⟩ := read_fin h
  rw [hr]
  unfold Datum.integral
  dsimp only
  cases hs : neg b
  · rw [cut_down, whole_of hp hv]
  · have h0 := hn hs
    have hv0 : V (rung b) = 0 := by rw [h0]; decide
    have hm : m = 0 := by
      rw [hv0] at hv
      rcases Nat.mul_eq_zero.1 hv with h | h
      · exact h
      · exact absurd h (Nat.ne_of_gt (Nat.two_pow_pos _))
    subst hm
    unfold whole
    rw [hv0, Nat.zero_div]
    congr 1
    rw [Nat.shiftLeft_eq, Nat.zero_mul]
    unfold Toward.cut
    simp
set_option maxRecDepth 5000 in
theorem neg_word (s : Bool) (r : Nat) (h : r < 2 ^ 63) : neg (FloatKind.f64.format.word s r) = s := by
  unfold Format.word neg
  rw [fmt_sw]
  cases s
  · simp only [Bool.false_eq_true, if_false, beq_eq_false_iff_ne]; omega
  · simp only [if_true, beq_iff_eq]; omega
/- a whole number of at most 53 digits, made a float and back -/
set_option maxRecDepth 5000 in
theorem whole_back (s : Bool) (T : Nat) (hT : T < 2 ^ 53) : (FloatKind.f64.format.read (FloatKind.f64.format.nearest s T 0)).toInt .zero = some (if s then -(T : Int) else (T : Int)) := by
  obtain ⟨r, hw, hr, hv⟩ := nearest_exact s T 0 0 T hT (by omega) (by omega) (by omega) (by simp)
  rw [hw, toInt_read (by rw [rung_word s r (by omega)]; exact hr), rung_word s r (by omega), neg_word s r (by omega)]
  unfold whole
  rw [hv, show ((0 : Int) + 1074).toNat = zp from rfl, Nat.mul_div_cancel _ (Nat.two_pow_pos _)]
end F
end Go.Proofs.Ytmkpihagfbohdaa
