/- Floats of 64 bits, plain: which are no numbers, and how they stand to one another: by a key that is a whole number. -/
import Derived.Laws.FloatArith
import Derived.Laws.Cover2
import Derived.KernelRfl
namespace Go.Proofs.Ytmkpihagfbohdaa
namespace F
open Ieee

set_option maxRecDepth 5000 in
theorem fmt_sw : FloatKind.f64.format.signWeight = 2 ^ 63 := by kernel_rfl
set_option maxRecDepth 5000 in
theorem fmt_bin : FloatKind.f64.format.binade = 2 ^ 52 := by kernel_rfl
set_option maxRecDepth 5000 in
theorem fmt_inf : FloatKind.f64.format.infRung = 9218868437227405312 := by kernel_rfl
set_option maxRecDepth 5000 in
theorem fmt_lp : FloatKind.f64.format.leastPlace = -1074 := by kernel_rfl

/- The magnitude of a rung, in units of the least place. -/
def V (r : Nat) : Nat := if r < 2 ^ 52 then r else (2 ^ 52 + r % 2 ^ 52) * 2 ^ (r / 2 ^ 52 - 1)

set_option maxRecDepth 5000 in
theorem V_succ (r : Nat) : V r < V (r + 1) := by
  unfold V
  by_cases h1 : r + 1 < 2 ^ 52
  · rw [if_pos h1, if_pos (by omega)]; omega
  · rw [if_neg h1]
    by_cases h2 : r < 2 ^ 52
    · rw [if_pos h2]
      have : r + 1 = 2 ^ 52 := by omega
      rw [this]; omega
    · rw [if_neg h2]
      obtain ⟨e, f, he, hf⟩ : ∃ e f, r = (e + 1) * 2 ^ 52 + f ∧ f < 2 ^ 52 := ⟨r / 2 ^ 52 - 1, r % 2 ^ 52, by omega, by omega⟩
      have d1 : r / 2 ^ 52 - 1 = e := by omega
      have m1 : r % 2 ^ 52 = f := by omega
      by_cases h3 : f + 1 < 2 ^ 52
      · have d2 : (r + 1) / 2 ^ 52 - 1 = e := by omega
        have m2 : (r + 1) % 2 ^ 52 = f + 1 := by omega
        rw [d1, m1, d2, m2]
        exact Nat.mul_lt_mul_of_pos_right (by omega) (Nat.two_pow_pos e)
      · have d2 : (r + 1) / 2 ^ 52 - 1 = e + 1 := by omega
        have m2 : (r + 1) % 2 ^ 52 = 0 := by omega
        rw [d1, m1, d2, m2]
        have hp : 2 ^ (e + 1) = 2 * 2 ^ e := by rw [Nat.pow_succ, Nat.mul_comm]
        rw [hp, Nat.add_zero, ← Nat.mul_assoc]
        exact Nat.mul_lt_mul_of_pos_right (by omega) (Nat.two_pow_pos e)

set_option maxRecDepth 5000 in
theorem V_lt {r s : Nat} (h : r < s) : V r < V s := by
  induction s with
  | zero => omega
  | succ n ih =>
    by_cases e : r = n
    · subst e; exact V_succ r
    · exact Nat.lt_trans (ih (by omega)) (V_succ n)

set_option maxRecDepth 5000 in
theorem V_inj {r s : Nat} (h : V r = V s) : r = s := by
  rcases Nat.lt_trichotomy r s with g | g | g
  · have := V_lt g; omega
  · exact g
  · have := V_lt g; omega

/- Is it none: a NaN? -/
def nan (b : Nat) : Bool := (FloatKind.f64.format.read b).isNaN

/- Sign and magnitude as a whole number: how numbers stand to one another, the noughts alike. -/
def key (b : Nat) : Int := if b < 2 ^ 63 then (b : Int) else -((b - 2 ^ 63 : Nat) : Int)

def rung (b : Nat) : Nat := b % 2 ^ 63
def neg (b : Nat) : Bool := b / 2 ^ 63 % 2 == 1

set_option maxRecDepth 5000 in
theorem read_fin {b : Nat} (h : rung b < 9218868437227405312) :
    ∃ m p, FloatKind.f64.format.read b = .number (neg b) m p ∧ -1074 ≤ p ∧ m * 2 ^ (p + 1074).toNat = V (rung b) := by
  unfold Format.read
  simp only [fmt_sw, fmt_bin, fmt_inf, fmt_lp]
  unfold rung at h ⊢
  unfold neg V
  by_cases h1 : b % 2 ^ 63 < 2 ^ 52
  · rw [if_pos h1, if_pos h1]
    exact ⟨_, _, rfl, by omega, by simp⟩
  · rw [if_neg h1, if_pos h, if_neg h1]
    refine ⟨_, _, rfl, by omega, ?_⟩
    congr 2
    omega

set_option maxRecDepth 5000 in
theorem read_inf {b : Nat} (h : rung b = 9218868437227405312) : FloatKind.f64.format.read b = .infinity (neg b) := by
  unfold Format.read
  simp only [fmt_sw, fmt_bin, fmt_inf, fmt_lp]
  unfold rung at h
  rw [if_neg (by omega), if_neg (by omega), if_pos h]
  rfl

set_option maxRecDepth 5000 in
theorem read_nan {b : Nat} (h : 9218868437227405312 < rung b) : FloatKind.f64.format.read b = .nan (neg b) (rung b - 9218868437227405312) := by
  unfold Format.read
  simp only [fmt_sw, fmt_bin, fmt_inf, fmt_lp]
  unfold rung at h ⊢
  rw [if_neg (by omega), if_neg (by omega), if_neg (by omega)]
  rfl

set_option maxRecDepth 5000 in
theorem nan_iff (b : Nat) : nan b = decide (9218868437227405312 < rung b) := by
  unfold nan
  rcases Nat.lt_trichotomy (rung b) 9218868437227405312 with h | h | h
  · obtain ⟨m, p, hr, _⟩ := read_fin h
    rw [hr]; simp [Datum.isNaN]; omega
  · rw [read_inf h]; simp [Datum.isNaN]; omega
  · rw [read_nan h]; simp [Datum.isNaN]; omega

set_option maxRecDepth 5000 in
theorem key_of {b : Nat} (hb : b < 2 ^ 64) : key b = if neg b then -((rung b : Nat) : Int) else (rung b : Nat) := by
  unfold key neg rung
  by_cases h : b < 2 ^ 63
  · rw [if_pos h, if_neg (by simp; omega)]; omega
  · rw [if_neg h, if_pos (by simp; omega)]; omega

/- The signed magnitude in units of the least place. -/
def sv (b : Nat) : Int := if neg b then -((V (rung b) : Nat) : Int) else (V (rung b) : Nat)

set_option maxRecDepth 5000 in
theorem signed_mul (s : Bool) (m u k : Nat) : signed s m u * (2 ^ k : Nat) = if s then -((m * 2 ^ (u + k) : Nat) : Int) else (m * 2 ^ (u + k) : Nat) := by
  unfold signed
  rw [Nat.shiftLeft_eq]
  cases s
  · simp only [Bool.false_eq_true, if_false]; rw [← Int.natCast_mul, Nat.mul_assoc, ← Nat.pow_add]
  · simp only [if_true]; rw [Int.neg_mul, ← Int.natCast_mul, Nat.mul_assoc, ← Nat.pow_add]

set_option maxRecDepth 5000 in
theorem compare_mul (x y : Int) (k : Nat) : compare x y = compare (x * (2 ^ k : Nat)) (y * (2 ^ k : Nat)) := by
  have hk : (0 : Int) < (2 ^ k : Nat) := by exact_mod_cast Nat.two_pow_pos k
  rcases Int.lt_trichotomy x y with h | h | h
  · rw [Int.compare_eq_lt.2 h, Int.compare_eq_lt.2 (Int.mul_lt_mul_of_pos_right h hk)]
  · subst h; simp
  · rw [Int.compare_eq_gt.2 h, Int.compare_eq_gt.2 (Int.mul_lt_mul_of_pos_right h hk)]

set_option maxRecDepth 5000 in
theorem order_num (s t : Bool) (m n : Nat) (i j : Int) (hi : -1074 ≤ i) (hj : -1074 ≤ j) :
    Datum.order (.number s m i) (.number t n j) = some (compare (if s then -((m * 2 ^ (i + 1074).toNat : Nat) : Int) else (m * 2 ^ (i + 1074).toNat : Nat)) (if t then -((n * 2 ^ (j + 1074).toNat : Nat) : Int) else (n * 2 ^ (j + 1074).toNat : Nat))) := by
  show some _ = some _
  congr 1
  rw [compare_mul _ _ (min i j + 1074).toNat, signed_mul, signed_mul]
  have e1 : (i - min i j).toNat + (min i j + 1074).toNat = (i + 1074).toNat := by omega
  have e2 : (j - min i j).toNat + (min i j + 1074).toNat = (j + 1074).toNat := by omega
  rw [e1, e2]

set_option maxRecDepth 5000 in
theorem order_fin {a b : Nat} (ha : rung a < 9218868437227405312) (hb : rung b < 9218868437227405312) :
    FloatKind.f64.format.order a b = some (compare (sv a) (sv b)) := by
  obtain ⟨m, i, hr, hi, hv⟩ := read_fin ha
  obtain ⟨n, j, hs, hj, hu⟩ := read_fin hb
  unfold Format.order
  rw [hr, hs, order_num _ _ _ _ _ _ hi hj, hv, hu]
  rfl

set_option maxRecDepth 5000 in
theorem sv_cmp {a b : Nat} (hxa : a < 2 ^ 64) (hxb : b < 2 ^ 64) : compare (sv a) (sv b) = compare (key a) (key b) := by
  rw [key_of hxa, key_of hxb]
  unfold sv
  have v0 : V 0 = 0 := by decide
  have P : ∀ r, 0 ≤ V r := fun r => Nat.zero_le _
  have Z : ∀ r, 0 < r → 0 < V r := fun r h => by have := V_lt h; omega
  generalize rung a = x
  generalize rung b = y
  rcases Nat.lt_trichotomy x y with h | h | h
  · have := V_lt h
    have := Z y (by omega)
    cases neg a <;> cases neg b <;> simp only [Bool.false_eq_true, if_false, if_true]
    · rw [Int.compare_eq_lt.2 (by omega), Int.compare_eq_lt.2 (by omega)]
    · rw [Int.compare_eq_gt.2 (by omega), Int.compare_eq_gt.2 (by omega)]
    · rw [Int.compare_eq_lt.2 (by omega), Int.compare_eq_lt.2 (by omega)]
    · rw [Int.compare_eq_gt.2 (by omega), Int.compare_eq_gt.2 (by omega)]
  · subst h
    by_cases hx : x = 0
    · subst hx; rw [v0]
    · have := Z x (by omega)
      cases neg a <;> cases neg b <;> simp only [Bool.false_eq_true, if_false, if_true]
      · simp
      · rw [Int.compare_eq_gt.2 (by omega), Int.compare_eq_gt.2 (by omega)]
      · rw [Int.compare_eq_lt.2 (by omega), Int.compare_eq_lt.2 (by omega)]
      · simp
  · have := V_lt h
    have := Z x (by omega)
    cases neg a <;> cases neg b <;> simp only [Bool.false_eq_true, if_false, if_true]
    · rw [Int.compare_eq_gt.2 (by omega), Int.compare_eq_gt.2 (by omega)]
    · rw [Int.compare_eq_gt.2 (by omega), Int.compare_eq_gt.2 (by omega)]
    · rw [Int.compare_eq_lt.2 (by omega), Int.compare_eq_lt.2 (by omega)]
    · rw [Int.compare_eq_lt.2 (by omega), Int.compare_eq_lt.2 (by omega)]

/- HOW TWO NUMBERS STAND: by their keys; none where one is no number. -/
set_option maxRecDepth 5000 in
theorem order_key {a b : Nat} (hxa : a < 2 ^ 64) (hxb : b < 2 ^ 64) :
    FloatKind.f64.format.order a b = if nan a || nan b then none else some (compare (key a) (key b)) := by
  rw [nan_iff, nan_iff]
  have ra : rung a < 2 ^ 63 := Nat.mod_lt _ (by decide)
  have rb : rung b < 2 ^ 63 := Nat.mod_lt _ (by decide)
  rcases Nat.lt_trichotomy (rung a) 9218868437227405312 with h | h | h
  · rcases Nat.lt_trichotomy (rung b) 9218868437227405312 with g | g | g
    · rw [order_fin h g, sv_cmp hxa hxb]
      rw [if_neg (by simp; omega)]
    · obtain ⟨m, i, hr, hi, hv⟩ := read_fin h
      unfold Format.order
      rw [hr, read_inf g, if_neg (by simp; omega)]
      show some _ = _
      rw [key_of hxa, key_of hxb]
      congr 1
      cases neg a <;> cases neg b <;> simp only [Bool.false_eq_true, if_false, if_true]
      · exact (Int.compare_eq_lt.2 (by omega)).symm
      · exact (Int.compare_eq_gt.2 (by omega)).symm
      · exact (Int.compare_eq_lt.2 (by omega)).symm
      · exact (Int.compare_eq_gt.2 (by omega)).symm
    · unfold Format.order
      rw [read_nan g, if_pos (by simp; omega)]
      cases FloatKind.f64.format.read a <;> rfl
  · rcases Nat.lt_trichotomy (rung b) 9218868437227405312 with g | g | g
    · obtain ⟨m, i, hr, hi, hv⟩ := read_fin g
      unfold Format.order
      rw [hr, read_inf h, if_neg (by simp; omega)]
      show some _ = _
      rw [key_of hxa, key_of hxb]
      congr 1
      cases neg a <;> cases neg b <;> simp only [Bool.false_eq_true, if_false, if_true]
      · exact (Int.compare_eq_gt.2 (by omega)).symm
      · exact (Int.compare_eq_gt.2 (by omega)).symm
      · exact (Int.compare_eq_lt.2 (by omega)).symm
      · exact (Int.compare_eq_lt.2 (by omega)).symm
    · unfold Format.order
      rw [read_inf h, read_inf g, if_neg (by simp; omega)]
      show some _ = _
      rw [key_of hxa, key_of hxb]
      congr 1
      cases neg a <;> cases neg b <;> simp only [Bool.false_eq_true, if_false, if_true]
      · rw [h, g]; rfl
      · exact (Int.compare_eq_gt.2 (by omega)).symm
      · exact (Int.compare_eq_lt.2 (by omega)).symm
      · rw [h, g]; rfl
    · unfold Format.order
      rw [read_nan g, if_pos (by simp; omega)]
      cases FloatKind.f64.format.read a <;> rfl
  · unfold Format.order
    rw [read_nan h, if_pos (by simp; omega)]
    cases FloatKind.f64.format.read b <;> rfl
end F
end Go.Proofs.Ytmkpihagfbohdaa
