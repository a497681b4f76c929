/- Floats that are whole numbers of parts of 2 ^ 15: sums, differences, halves of them are exact; plain. -/
import Derived.Test.YtmkpihagfbohdaaExa
import Derived.Test.YtmkpihagfbohdaaLod
namespace Go.Proofs.Ytmkpihagfbohdaa
namespace F
open Ieee
def ex : Nat := 1059
set_option maxRecDepth 5000 in
theorem ex_eq : ex = 1059 := rfl
/- b is the number N / 2 ^ 15 -/
def Is (b : Nat) (N : Int) : Prop := b < 2 ^ 64 ∧ rung b < 9218868437227405312 ∧ sv b = N * ((2 ^ ex : Nat) : Int)
set_option maxRecDepth 5000 in
theorem read_fin2 {b : Nat} (h : rung b < 9218868437227405312) :
    ∃ m p, FloatKind.f64.format.read b = .number (neg b) m p ∧ -1074 ≤ p ∧ m * 2 ^ (p + 1074).toNat = V (rung b) ∧ (p = -1074 ∨ 2 ^ 52 ≤ m) := by
  unfold Format.read
  simp only [fmt_sw, fmt_bin, fmt_inf, fmt_lp]
  unfold rung at h ⊢
  unfold neg V
  by_cases h1 : b % 2 ^ 63 < 2 ^ 52
  · rw [if_pos h1, if_pos h1]
    exact ⟨_, _, rfl, by omega, by simp, Or.inl rfl⟩
  · rw [if_neg h1, if_pos h, if_neg h1]
    refine ⟨_, _, rfl, by omega, ?_, Or.inr (by omega)⟩
    congr 2
    omega
set_option maxRecDepth 5000 in
theorem pow_pos' (n : Nat) : 0 < 2 ^ n := Nat.two_pow_pos n
/- what such a float reads as: N's magnitude, at a place that is low enough -/
set_option maxRecDepth 5000 in
theorem Is.reads {b : Nat} {N : Int} (h : Is b N) (hN : N.natAbs < 2 ^ 53) : ∃ m p, FloatKind.f64.format.read b = .number (neg b) m p ∧ -1074 ≤ p ∧ p ≤ -15 ∧ m = N.natAbs * 2 ^ (-15 - p).toNat ∧ (N < 0 → neg b = true) ∧ (0 < N → neg b = false) := by
  obtain ⟨hb, hr, hs⟩ := h
  obtain ⟨m, p, hread, hp, hv, hn⟩ := read_fin2 hr
  have hP := pow_pos' ex
  have hV : V (rung b) = N.natAbs * 2 ^ ex := by
    have h1 := congrArg Int.natAbs hs
    rw [Int.natAbs_mul, Int.natAbs_natCast] at h1
    unfold sv at h1
    split at h1
    · rw [Int.natAbs_neg, Int.natAbs_natCast] at h1; exact h1
    · rw [Int.natAbs_natCast] at h1; exact h1
  have hsg : (N < 0 → neg b = true) ∧ (0 < N → neg b = false) := by
    have hPi : (0 : Int) < ((2 ^ ex : Nat) : Int) := by exact_mod_cast hP
    unfold sv at hs
    constructor
    · intro h
      have := Int.mul_neg_of_neg_of_pos h hPi
      cases hb : neg b
      · rw [hb] at hs; simp only [Bool.false_eq_true, if_false] at hs; omega
      · rfl
    · intro h
      have := Int.mul_pos h hPi
      cases hb : neg b
      · rfl
      · rw [hb] at hs; simp only [if_true] at hs; omega
  have hp15 : p ≤ -15 := by
    rcases hn with hn | hn
    · omega
    · refine Int.not_lt.1 fun hlt => ?_
      obtain ⟨k, hk⟩ : ∃ k : Nat, (p + 1074).toNat = k + 1 + ex := ⟨(p + 1074).toNat - 1 - ex, by rw [ex_eq]; omega⟩
      rw [hk, hV, Nat.pow_add, Nat.pow_succ] at hv
      have h1 := pow_pos' k
      generalize 2 ^ ex = Z at hv hP
      generalize 2 ^ k = Y at hv h1
      rw [← Nat.mul_assoc] at hv
      have h2 := Nat.eq_of_mul_eq_mul_right hP hv
      have h3 : 2 ^ 52 * (1 * 2) ≤ m * (Y * 2) := Nat.mul_le_mul hn (Nat.mul_le_mul_right 2 h1)
      omega
  refine ⟨m, p, hread, hp, hp15, ?_, hsg⟩
  obtain ⟨k, hk⟩ : ∃ k : Nat, (p + 1074).toNat + k = ex := ⟨ex - (p + 1074).toNat, by rw [ex_eq]; omega⟩
  have hk2 : (-15 - p).toNat = k := by rw [ex_eq] at hk; omega
  rw [hk2]
  rw [hV, ← hk, Nat.add_comm, Nat.pow_add, ← Nat.mul_assoc] at hv
  exact Nat.eq_of_mul_eq_mul_right (pow_pos' _) hv
set_option maxRecDepth 5000 in
theorem sv_word (s : Bool) (r : Nat) (h : r < 2 ^ 63) : sv (FloatKind.f64.format.word s r) = if s then -((V r : Nat) : Int) else (V r : Nat) := by
  unfold sv; rw [neg_word s r h, rung_word s r h]
/- a number that is one of these is rounded to itself -/
set_option maxRecDepth 5000 in
theorem is_near (s : Bool) (m : Nat) (p e : Int) (K : Nat) (N : Int) (hK : K < 2 ^ 53) (hpe : p ≤ e) (he : -1074 ≤ e) (he2 : e ≤ 0) (hm : m = K * 2 ^ (e - p).toNat) (hN : K * 2 ^ (e + 1074).toNat = N.natAbs * 2 ^ ex) (hs1 : N < 0 → s = true) (hs2 : 0 < N → s = false) : Is (FloatKind.f64.format.nearest s m p) N := by
  obtain ⟨r, hw, hr, hv⟩ := nearest_exact s m p e K hK hpe he (by omega) hm
  rw [hw]
  refine ⟨?_, by rw [rung_word s r (by omega)]; exact hr, ?_⟩
  · exact FloatKind.f64.format.word_lt s (by rw [fmt_sw]; omega)
  · rw [sv_word s r (by omega), hv, hN]
    rcases Int.lt_trichotomy N 0 with h | h | h
    · rw [hs1 h, if_pos rfl, Int.natCast_mul, show ((N.natAbs : Nat) : Int) = -N by omega, Int.neg_mul, Int.neg_neg]
    · subst h; simp
    · rw [hs2 h, if_neg (by decide), Int.natCast_mul, show ((N.natAbs : Nat) : Int) = N by omega]
set_option maxRecDepth 5000 in
theorem is_int (X : Int) (h : X.natAbs ≤ 32768) : Is (floatOfInt .f64 X) (X * 32768) := by
  show Is (FloatKind.f64.format.nearest (decide (X < 0)) X.natAbs 0) _
  refine is_near _ _ 0 0 X.natAbs _ (by omega) (by omega) (by omega) (by omega) (by simp) ?_ (fun h => decide_eq_true (by omega)) (fun h => decide_eq_false (by omega))
  rw [show ((0 : Int) + 1074).toNat = 15 + ex from rfl, Nat.pow_add, Int.natAbs_mul, ← Nat.mul_assoc]
  rfl
set_option maxRecDepth 5000 in
theorem signed_val (s : Bool) (m u : Nat) : signed s m u = if s then -((m * 2 ^ u : Nat) : Int) else (m * 2 ^ u : Nat) := by
  unfold signed; rw [Nat.shiftLeft_eq]
set_option maxRecDepth 5000 in
theorem signed_is {b : Nat} {N : Int} {m : Nat} {p base : Int} (hm : m = N.natAbs * 2 ^ (-15 - p).toNat) (h1 : N < 0 → neg b = true) (h2 : 0 < N → neg b = false) (hb : base ≤ p) (hp : p ≤ -15) : signed (neg b) m (p - base).toNat = N * ((2 ^ (-15 - base).toNat : Nat) : Int) := by
  rw [signed_val, hm, Nat.mul_assoc, ← Nat.pow_add, show (-15 - p).toNat + (p - base).toNat = (-15 - base).toNat by omega]
  rcases Int.lt_trichotomy N 0 with h | h | h
  · rw [h1 h, if_pos rfl, Int.natCast_mul, show ((N.natAbs : Nat) : Int) = -N by omega, Int.neg_mul, Int.neg_neg]
  · subst h; simp
  · rw [h2 h, if_neg (by decide), Int.natCast_mul, show ((N.natAbs : Nat) : Int) = N by omega]
set_option maxRecDepth 5000 in
theorem signed_not (s : Bool) (m u : Nat) : signed (!s) m u = - signed s m u := by
  unfold signed; cases s <;> simp
/- the sum of two such numbers -/
set_option maxRecDepth 5000 in
theorem is_sum {A B : Int} {a b : Nat} (sb : Bool) (ha : Is a A) (hb : Is b B) (hA : A.natAbs < 2 ^ 40) (hB : B.natAbs < 2 ^ 40) :
    ∃ r, ((FloatKind.f64.format.read a).sum (if sb then (FloatKind.f64.format.read b).opposite else FloatKind.f64.format.read b)).map FloatKind.f64.format.write = some r ∧ Is r (if sb then A - B else A + B) := by
  obtain ⟨m, i, hr, hi, hi2, hm, a1, a2⟩ := ha.reads (by omega)
  obtain ⟨n, j, hs, hj, hj2, hn, b1, b2⟩ := hb.reads (by omega)
  have e1 := signed_is (b := a) (base := min i j) hm a1 a2 (by omega) hi2
  have e2 := signed_is (b := b) (base := min i j) hn b1 b2 (by omega) hj2
  obtain ⟨t, ht⟩ : ∃ t : Bool, t = if sb then !neg b else neg b := ⟨_, rfl⟩
  have e3 : signed t n (j - min i j).toNat = (if sb then -B else B) * ((2 ^ (-15 - min i j).toNat : Nat) : Int) := by
    rw [ht]; cases sb
    · exact e2
    · simp only [if_true]; rw [signed_not, e2, Int.neg_mul]
  have hread : (if sb then (FloatKind.f64.format.read b).opposite else FloatKind.f64.format.read b) = .number t n j := by
    rw [ht, hs]; cases sb <;> rfl
  rw [hread, hr]
  refine ⟨_, rfl, ?_⟩
  obtain ⟨T, hT⟩ : ∃ T : Int, T = if sb then A - B else A + B := ⟨_, rfl⟩
  rw [← hT]
  have hTb : T.natAbs < 2 ^ 41 := by rw [hT]; cases sb <;> simp only [Bool.false_eq_true, if_false, if_true] <;> omega
  have htot : signed (neg a) m (i - min i j).toNat + signed t n (j - min i j).toNat = T * ((2 ^ (-15 - min i j).toNat : Nat) : Int) := by
    rw [e1, e3, ← Int.add_mul, hT]; congr 1; cases sb <;> simp only [Bool.false_eq_true, if_false, if_true] <;> omega
  have hPos : (0 : Int) < ((2 ^ (-15 - min i j).toNat : Nat) : Int) := by exact_mod_cast pow_pos' _
  show Is (FloatKind.f64.format.nearest (if signed (neg a) m (i - min i j).toNat + signed t n (j - min i j).toNat = 0 then neg a && t else decide (signed (neg a) m (i - min i j).toNat + signed t n (j - min i j).toNat < 0)) (signed (neg a) m (i - min i j).toNat + signed t n (j - min i j).toNat).natAbs (min i j)) T
  rw [htot]
  refine is_near _ _ _ (-15) T.natAbs T (by omega) (by omega) (by omega) (by omega) (by rw [Int.natAbs_mul, Int.natAbs_natCast]) (by rw [show ((-15 : Int) + 1074).toNat = ex from rfl]) (fun h => ?_) (fun h => ?_)
  · have := Int.mul_neg_of_neg_of_pos h hPos
    rw [if_neg (by omega), decide_eq_true this]
  · have := Int.mul_pos h hPos
    rw [if_neg (by omega), decide_eq_false (by omega)]
set_option maxRecDepth 5000 in
theorem is_sub {A B : Int} {a b : Nat} (ha : Is a A) (hb : Is b B) (hA : A.natAbs < 2 ^ 40) (hB : B.natAbs < 2 ^ 40) : Is (ar .sub a b) (A - B) := by
  obtain ⟨r, h1, h2⟩ := is_sum true ha hb hA hB
  have : floatBits .sub .f64 a b = some r := h1
  rw [ar_some this]; exact h2
set_option maxRecDepth 5000 in
theorem is_add {A B : Int} {a b : Nat} (ha : Is a A) (hb : Is b B) (hA : A.natAbs < 2 ^ 40) (hB : B.natAbs < 2 ^ 40) : Is (ar .add a b) (A + B) := by
  obtain ⟨r, h1, h2⟩ := is_sum false ha hb hA hB
  have : floatBits .add .f64 a b = some r := h1
  rw [ar_some this]; exact h2
/- a part of 2 ^ k -/
set_option maxRecDepth 5000 in
theorem is_mul {k P : Nat} {Q : Int} {b : Nat} (hk : k ≤ 3) (hP : FloatKind.f64.format.read P = .number false (2 ^ 52) (-52 - (k : Int))) (hb : Is b (Q * ((2 ^ k : Nat) : Int))) (hB : (Q * ((2 ^ k : Nat) : Int)).natAbs < 2 ^ 45) : Is (ar .mul P b) Q := by
  obtain ⟨n, j, hs, hj, hj2, hn, b1, b2⟩ := hb.reads (by omega)
  have hPos : (0 : Int) < ((2 ^ k : Nat) : Int) := by exact_mod_cast pow_pos' k
  have hfb : floatBits .mul .f64 P b = some (FloatKind.f64.format.nearest (neg b) (2 ^ 52 * n) (-52 - (k : Int) + j)) := by
    show ((FloatKind.f64.format.read P).product (FloatKind.f64.format.read b)).map _ = _
    rw [hP, hs]
    show some (FloatKind.f64.format.nearest (false ^^ neg b) _ _) = _
    rw [Bool.false_xor]
  rw [ar_some hfb]
  have hQ : Q.natAbs ≤ (Q * ((2 ^ k : Nat) : Int)).natAbs := by
    rw [Int.natAbs_mul, Int.natAbs_natCast]; exact Nat.le_mul_of_pos_right _ (pow_pos' k)
  refine is_near _ _ _ (-15) Q.natAbs Q (by omega) (by omega) (by omega) (by omega) ?_ (by rw [show ((-15 : Int) + 1074).toNat = ex from rfl]) (fun h => b1 (Int.mul_neg_of_neg_of_pos h hPos)) (fun h => b2 (Int.mul_pos h hPos))
  rw [hn, Int.natAbs_mul, Int.natAbs_natCast, show (-15 - (-52 - (k : Int) + j)).toNat = 52 + k + (-15 - j).toNat by omega, Nat.pow_add, Nat.pow_add]
  ac_rfl
set_option maxRecDepth 5000 in
theorem Is.fin {b : Nat} {N : Int} (h : Is b N) : fin b = true := decide_eq_true h.2.1
set_option maxRecDepth 5000 in
theorem step_is {k P : Nat} {v x : Nat} {N X : Int} (hk : k ≤ 3) (hP : FloatKind.f64.format.read P = .number false (2 ^ 52) (-52 - (k : Int))) (hv : Is v N) (hx : Is x X) (Q : Int) (hQ : X - N = Q * ((2 ^ k : Nat) : Int)) (hN : N.natAbs < 2 ^ 39) (hX : X.natAbs < 2 ^ 39) (hQb : Q.natAbs < 2 ^ 40) : Is (step P v x) (N + Q) := by
  have h1 := is_sub hx hv (by omega) (by omega)
  rw [hQ] at h1
  have h2 := is_mul hk hP h1 (by rw [← hQ]; omega)
  have h3 := is_add hv h2 (by omega) hQb
  unfold step
  rw [hv.fin, h3.fin]
  exact h3
/- how they stand to one another -/
set_option maxRecDepth 5000 in
theorem is_order {a b : Nat} {A B : Int} (ha : Is a A) (hb : Is b B) : FloatKind.f64.format.order a b = some (compare A B) := by
  rw [order_fin ha.2.1 hb.2.1, ha.2.2, hb.2.2, ← compare_mul]
end F
end Go.Proofs.Ytmkpihagfbohdaa
