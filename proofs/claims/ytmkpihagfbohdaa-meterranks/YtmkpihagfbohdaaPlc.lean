/- Which place a part asks for: products of parts and counts, their whole parts; plain. -/
import Derived.Test.YtmkpihagfbohdaaExa
import Derived.Test.YtmkpihagfbohdaaLod
namespace Go.Proofs.Ytmkpihagfbohdaa
namespace F
open Ieee
set_option maxRecDepth 5000 in
theorem V_pow (e : Nat) : V ((e + 1) * 2 ^ 52) = 2 ^ (52 + e) := by
  unfold V
  rw [if_neg (by omega), show (e + 1) * 2 ^ 52 % 2 ^ 52 = 0 by omega, show (e + 1) * 2 ^ 52 / 2 ^ 52 - 1 = e by omega, Nat.add_zero, ← Nat.pow_add]
set_option maxRecDepth 5000 in
theorem pow_sp3 (z : Nat) : 2 ^ (10 + z + z) = 2 ^ z * (1024 * 2 ^ z) := by
  rw [Nat.pow_add, Nat.pow_add]
  generalize 2 ^ z = Z
  show 1024 * Z * Z = _
  ac_rfl
set_option maxRecDepth 5000 in
theorem V_le {r s : Nat} (h : r ≤ s) : V r ≤ V s := by
  rcases Nat.eq_or_lt_of_le h with h | h
  · rw [h]; exact Nat.le_refl _
  · exact Nat.le_of_lt (V_lt h)
set_option maxRecDepth 5000 in
theorem cut_le (s : Bool) (n drop : Nat) : Toward.even.cut s n drop ≤ n / 2 ^ drop + 1 := by
  rw [← cut_zero s n drop]
  unfold Toward.cut
  simp only [Bool.toNat_false, Nat.add_zero]
  exact Nat.add_le_add_left (Bool.toNat_le _) _
/- what is rounded stays small -/
set_option maxRecDepth 5000 in
theorem near_bound (s : Bool) (m : Nat) (p : Int) (hm : m ≠ 0) (h : p + (m.log2 : Int) ≤ 9) : ∃ r, FloatKind.f64.format.nearest s m p = FloatKind.f64.format.word s r ∧ r ≤ 1033 * 2 ^ 52 := by
  unfold Format.nearest
  rw [if_neg hm]
  simp only [fmt_lp, fmt_bin, fmt_inf]
  rw [show ((FloatKind.f64.format.fractionBits : Nat) : Int) = 52 from rfl]
  refine ⟨_, rfl, ?_⟩
  obtain ⟨last, hlast⟩ : ∃ last : Int, max (p + (m.log2 : Int) - 52) (-1074) = last := ⟨_, rfl⟩
  rw [hlast]
  have hk : Toward.even.cut s (m <<< (p - last).toNat) (last - p).toNat ≤ 2 ^ 53 := by
    by_cases hd : last ≤ p
    · have hc := cut_exact s .even (m <<< (p - last).toNat) (last - p).toNat (m <<< (p - last).toNat) (by rw [show (last - p).toNat = 0 by omega]; simp) (by rw [Nat.shiftLeft_eq]; exact Nat.mul_ne_zero hm (Nat.ne_of_gt (Nat.two_pow_pos _)))
      rw [hc, Nat.shiftLeft_eq]
      have hl := log2_mul_pow m (p - last).toNat hm
      have h0 : m * 2 ^ (p - last).toNat ≠ 0 := Nat.mul_ne_zero hm (Nat.ne_of_gt (Nat.two_pow_pos _))
      exact Nat.le_of_lt ((Nat.log2_lt h0).1 (by rw [hl]; omega))
    · refine Nat.le_trans (cut_le s _ _) ?_
      rw [show (p - last).toNat = 0 by omega, Nat.shiftLeft_zero]
      have h1 : m < 2 ^ (m.log2 + 1) := Nat.lt_log2_self
      have h2 : 2 ^ (m.log2 + 1) ≤ 2 ^ ((last - p).toNat + 53) := Nat.pow_le_pow_right (by decide) (by omega)
      have h3 : m / 2 ^ (last - p).toNat < 2 ^ 53 := by
        rw [Nat.div_lt_iff_lt_mul (Nat.two_pow_pos _), ← Nat.pow_add, Nat.add_comm 53]; omega
      omega
  have ht : (last - -1074).toNat ≤ 1031 := by omega
  refine Nat.le_trans (Nat.min_le_left _ _) ?_
  generalize (last - -1074).toNat = t at ht
  generalize Toward.even.cut s (m <<< (p - last).toNat) (last - p).toNat = c at hk
  omega
set_option maxRecDepth 5000 in
theorem whole_le {r : Nat} (h : r ≤ 1033 * 2 ^ 52) : whole r ≤ 1024 := by
  have h1 := V_le h
  rw [V_pow 1032] at h1
  unfold whole
  rw [show 52 + 1032 = 10 + zp from rfl, Nat.pow_add] at h1
  generalize 2 ^ zp = Z at h1 ⊢
  exact Nat.div_le_of_le_mul (by omega)
def ge1 (q : Nat) : Bool := FloatKind.f64.format.order q 4607182418800017408 == some .gt || FloatKind.f64.format.order q 4607182418800017408 == some .eq
def ge0 (q : Nat) : Bool := FloatKind.f64.format.order q 0 == some .gt || FloatKind.f64.format.order q 0 == some .eq
def tr (q n : Nat) : Nat := whole (rung (ar .mul q (floatOfInt .f64 (n : Int))))
def plc (q n : Nat) : Nat := if ge1 q then n - 1 else if ge0 q then min (tr q n) (n - 1) else 0
set_option maxRecDepth 5000 in
theorem part_of {q : Nat} (hq : q < 2 ^ 64) (h0 : ge0 q = true) (h1 : ge1 q = false) : rung q < 4607182418800017408 ∧ (neg q = true → rung q = 0) := by
  unfold ge0 at h0
  simp only [Bool.or_eq_true, beq_iff_eq] at h0
  have hn : nan q = false ∧ 0 ≤ key q := by
    rcases h0 with h | h
    · obtain ⟨a, _, c⟩ := num_of hq (by decide) h
      have := Int.compare_eq_gt.1 c
      rw [show key 0 = 0 by kernel_rfl] at this; exact ⟨a, by omega⟩
    · obtain ⟨a, _, c⟩ := num_of hq (by decide) h
      have := Int.compare_eq_eq.1 c
      rw [show key 0 = 0 by kernel_rfl] at this; exact ⟨a, by omega⟩
  have hk : key q < 4607182418800017408 := by
    unfold ge1 at h1
    rw [order_key hq (by decide), hn.1, show nan 4607182418800017408 = false by kernel_rfl, show key 4607182418800017408 = 4607182418800017408 by kernel_rfl] at h1
    simp only [Bool.or_self, Bool.false_eq_true, if_false] at h1
    rcases Int.lt_trichotomy (key q) 4607182418800017408 with h | h | h
    · exact h
    · rw [Int.compare_eq_eq.2 h] at h1; simp at h1
    · rw [Int.compare_eq_gt.2 h] at h1; simp at h1
  have hkq := key_of hq
  cases hs : neg q
  · rw [hs] at hkq; simp only [Bool.false_eq_true, if_false] at hkq
    exact ⟨by omega, fun h => by cases h⟩
  · rw [hs] at hkq; simp only [if_true] at hkq
    exact ⟨by omega, fun _ => by omega⟩
set_option maxRecDepth 5000 in
theorem mul_small {q n : Nat} (hq : rung q < 4607182418800017408) (hz : neg q = true → rung q = 0) (hn : n < 1024) :
    ∃ r, floatBits .mul .f64 q (floatOfInt .f64 (n : Int)) = some (FloatKind.f64.format.word (neg q) r) ∧ r ≤ 1033 * 2 ^ 52 ∧ (neg q = true → r = 0) := by
  obtain ⟨m, i, hr, hi, hv⟩ := read_fin (b := q) (by omega)
  obtain ⟨rn, hw, hrn, hvn⟩ := nearest_exact false n 0 0 n (by omega) (by omega) (by omega) (by omega) (by simp)
  have hfn : floatOfInt .f64 (n : Int) = FloatKind.f64.format.word false rn := by
    rw [← hw]
    show FloatKind.f64.format.nearest (decide ((n : Int) < 0)) (n : Int).natAbs 0 = _
    rw [decide_eq_false (by omega), Int.natAbs_natCast]
  obtain ⟨m2, j, hr2, hj, hv2⟩ := read_fin (b := FloatKind.f64.format.word false rn) (by rw [rung_word false rn (by omega)]; exact hrn)
  rw [rung_word false rn (by omega)] at hv2
  rw [neg_word false rn (by omega)] at hr2
  have hfb : floatBits .mul .f64 q (floatOfInt .f64 (n : Int)) = some (FloatKind.f64.format.nearest (neg q) (m * m2) (i + j)) := by
    rw [hfn]
    show ((FloatKind.f64.format.read q).product (FloatKind.f64.format.read _)).map _ = _
    rw [hr, hr2]
    show some (FloatKind.f64.format.nearest (neg q ^^ false) (m * m2) (i + j)) = _
    rw [Bool.xor_false]
  by_cases h0 : m * m2 = 0
  · refine ⟨0, ?_, by omega, fun _ => rfl⟩
    rw [hfb, h0]; unfold Format.nearest; rw [if_pos rfl]
  · have hneg : neg q = false := by
      cases hs : neg q
      · rfl
      · have := hz hs
        rw [this, show V 0 = 0 by decide] at hv
        rcases Nat.mul_eq_zero.1 hv with h | h
        · rw [h, Nat.zero_mul] at h0; exact absurd rfl h0
        · exact absurd h (Nat.ne_of_gt (Nat.two_pow_pos _))
    have hb : i + j + ((m * m2).log2 : Int) ≤ 9 := by
      have b1 : V (rung q) < 2 ^ zp := by
        have := V_lt hq
        rw [show (4607182418800017408 : Nat) = (1022 + 1) * 2 ^ 52 by decide, V_pow 1022, show 52 + 1022 = zp from rfl] at this
        exact this
      rw [show ((0 : Int) + 1074).toNat = zp from rfl] at hvn
      have b2 : m * m2 * 2 ^ ((i + 1074).toNat + (j + 1074).toNat) < 2 ^ (10 + zp + zp) := by
        rw [show m * m2 * 2 ^ ((i + 1074).toNat + (j + 1074).toNat) = (m * 2 ^ (i + 1074).toNat) * (m2 * 2 ^ (j + 1074).toNat) by rw [Nat.pow_add]; ac_rfl, hv, hv2, hvn, pow_sp3]
        have p1 := Nat.two_pow_pos zp
        generalize 2 ^ zp = Z at b1 p1 ⊢
        calc V (rung q) * (n * Z) ≤ V (rung q) * (1024 * Z) := Nat.mul_le_mul_left _ (Nat.mul_le_mul_right _ (by omega))
          _ < Z * (1024 * Z) := Nat.mul_lt_mul_of_pos_right b1 (by omega)
      have b3 := Nat.log2_self_le h0
      have b4 : 2 ^ ((m * m2).log2 + ((i + 1074).toNat + (j + 1074).toNat)) < 2 ^ (10 + zp + zp) := by
        rw [Nat.pow_add]
        exact Nat.lt_of_le_of_lt (Nat.mul_le_mul_right _ b3) b2
      have b5 := (Nat.pow_lt_pow_iff_right (by decide : 1 < 2)).1 b4
      rw [zp_eq] at b5
      omega
    obtain ⟨r, hr3, hle⟩ := near_bound (neg q) (m * m2) (i + j) h0 hb
    exact ⟨r, by rw [hfb, hr3], hle, fun h => by rw [hneg] at h; cases h⟩
set_option maxRecDepth 5000 in
theorem range_ok (T : Nat) (h : T ≤ 1024) : IntKind.i64.min ≤ (T : Int) ∧ (T : Int) ≤ IntKind.i64.max := by
  rw [show IntKind.i64.min = -9223372036854775808 from rfl, show IntKind.i64.max = 9223372036854775807 from rfl]; omega
/- WHAT place AND THE REFERENCE RECKON WITH, where a part is neither below nought nor the whole. -/
set_option maxRecDepth 5000 in
theorem place_ok {q n : Nat} (hq : q < 2 ^ 64) (h0 : ge0 q = true) (h1 : ge1 q = false) (hn : n < 1024) :
    ∃ b c, floatBits .mul .f64 q (floatOfInt .f64 (n : Int)) = some b ∧ floatToIntVal .f64 b .i64 = some (tr q n : Int) ∧ (FloatKind.f64.format.read b).isNaN = false ∧ FloatKind.f64.encode ((FloatKind.f64.format.read b).integral .down) = c ∧ floatToIntVal .f64 c .i64 = some (tr q n : Int) ∧ tr q n ≤ 1024 := by
  obtain ⟨g1, g2⟩ := part_of hq h0 h1
  obtain ⟨r, hb, hr, hz⟩ := mul_small g1 g2 hn
  have hrw := rung_word (neg q) r (by omega)
  have hnw := neg_word (neg q) r (by omega)
  have ht : tr q n = whole r := by unfold tr; rw [ar_some hb, hrw]
  have hle : whole r ≤ 1024 := whole_le hr
  have hz0 : neg q = true → whole r = 0 := fun h => by rw [hz h]; unfold whole; rw [show V 0 = 0 by decide, Nat.zero_div]
  have hsg : (if neg q then -((whole r : Nat) : Int) else (whole r : Nat)) = (whole r : Int) := by
    cases hs : neg q
    · rfl
    · rw [hz0 hs]; rfl
  refine ⟨_, _, hb, ?_, ?_, rfl, ?_, by rw [ht]; exact hle⟩
  · unfold floatToIntVal
    show (match (FloatKind.f64.format.read _).toInt .zero with | some n => if IntKind.i64.min ≤ n ∧ n ≤ IntKind.i64.max then some n else none | none => none) = _
    rw [toInt_read (by rw [hrw]; omega), hrw, hnw, hsg, ht]
    dsimp only
    rw [if_pos (range_ok _ hle)]
  · exact nan_word (neg q) r (by omega)
  · rw [floor_read (by rw [hrw]; omega) (by rw [hrw, hnw]; exact hz), hrw, hnw]
    unfold floatToIntVal
    show (match (FloatKind.f64.format.read (FloatKind.f64.format.nearest (neg q) (whole r) 0)).toInt .zero with | some n => if IntKind.i64.min ≤ n ∧ n ≤ IntKind.i64.max then some n else none | none => none) = _
    rw [whole_back (neg q) (whole r) (by omega), hsg, ht]
    dsimp only
    rw [if_pos (range_ok _ hle)]
set_option maxRecDepth 5000 in
theorem ge1_ge0 {q : Nat} (hq : q < 2 ^ 64) (h : ge1 q = true) : ge0 q = true := by
  unfold ge1 at h
  simp only [Bool.or_eq_true, beq_iff_eq] at h
  have hk : nan q = false ∧ 0 < key q := by
    rcases h with h | h
    · obtain ⟨a, _, c⟩ := num_of hq (by decide) h
      have := Int.compare_eq_gt.1 c
      rw [show key 4607182418800017408 = 4607182418800017408 by kernel_rfl] at this; exact ⟨a, by omega⟩
    · obtain ⟨a, _, c⟩ := num_of hq (by decide) h
      have := Int.compare_eq_eq.1 c
      rw [show key 4607182418800017408 = 4607182418800017408 by kernel_rfl] at this; exact ⟨a, by omega⟩
  unfold ge0
  rw [order_key hq (by decide), hk.1, show nan 0 = false by kernel_rfl, show key 0 = 0 by kernel_rfl, Int.compare_eq_gt.2 hk.2]
  rfl
set_option maxRecDepth 5000 in
theorem lt0_of {q : Nat} (hq : q < 2 ^ 64) : (nan q || FloatKind.f64.format.order q 0 == some .lt) = !ge0 q := by
  unfold ge0
  rw [order_key hq (by decide), show nan 0 = false by kernel_rfl]
  cases hn : nan q
  · simp only [Bool.or_self, Bool.false_eq_true, if_false, Bool.false_or]
    cases compare (key q) (key 0) <;> rfl
  · rfl
set_option maxRecDepth 5000 in
theorem plc_lt {q n : Nat} (hn : 0 < n) : plc q n < n := by
  unfold plc; split
  · omega
  · split
    · have := Nat.min_le_right (tr q n) (n - 1); omega
    · omega
end F
end Go.Proofs.Ytmkpihagfbohdaa
