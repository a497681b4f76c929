/- More asks for no less; the least, the greatest, a rank is one of the numbers; plain. -/
import Derived.Test.YtmkpihagfbohdaaRka
import Derived.Test.YtmkpihagfbohdaaRkb
import Derived.Test.YtmkpihagfbohdaaRkc
import Derived.Test.YtmkpihagfbohdaaRkd
import Derived.Test.YtmkpihagfbohdaaBt0
namespace Go.Proofs.Ytmkpihagfbohdaa
namespace F
set_option maxRecDepth 5000 in
theorem chk_all {n : Nat} (h1 : 1 ≤ n) (h2 : n ≤ 100) : chk n = true := by
  have A := fun i (h : i < 25) => List.all_eq_true.1 chk_a i (List.mem_range.2 h)
  have B := fun i (h : i < 25) => List.all_eq_true.1 chk_b i (List.mem_range.2 h)
  have C := fun i (h : i < 25) => List.all_eq_true.1 chk_c i (List.mem_range.2 h)
  have D := fun i (h : i < 25) => List.all_eq_true.1 chk_d i (List.mem_range.2 h)
  by_cases a : n ≤ 25
  · have := A (n - 1) (by omega); rwa [show n - 1 + 1 = n by omega] at this
  · by_cases b : n ≤ 50
    · have := B (n - 26) (by omega); rwa [show n - 26 + 26 = n by omega] at this
    · by_cases c : n ≤ 75
      · have := C (n - 51) (by omega); rwa [show n - 51 + 51 = n by omega] at this
      · have := D (n - 76) (by omega); rwa [show n - 76 + 76 = n by omega] at this
set_option maxRecDepth 5000 in
theorem up_le {a : Nat} {l : List Nat} (h : up a l = true) : ∀ x ∈ l, a ≤ x := by
  induction l generalizing a with
  | nil => intro x hx; simp at hx
  | cons b r ih =>
    simp only [up, Bool.and_eq_true, Nat.ble_eq] at h
    intro x hx
    rcases List.mem_cons.1 hx with rfl | hx
    · exact h.1
    · exact Nat.le_trans h.1 (ih h.2 x hx)
set_option maxRecDepth 5000 in
theorem up_pair {a : Nat} {l : List Nat} (h : up a l = true) : l.Pairwise (· ≤ ·) := by
  induction l generalizing a with
  | nil => exact List.Pairwise.nil
  | cons b r ih =>
    simp only [up, Bool.and_eq_true, Nat.ble_eq] at h
    exact List.pairwise_cons.2 ⟨up_le h.2, ih h.2⟩
set_option maxRecDepth 5000 in
theorem fp_mem {p : Nat} (h : p < 255) : fp p ∈ fpl := by
  rw [← fpl_is]; exact List.mem_map.2 ⟨p, List.mem_range.2 h, rfl⟩
set_option maxRecDepth 5000 in
theorem fp_ge {p : Nat} (h : p < 255) : ge1 (fp p) = false ∧ ge0 (fp p) = true := by
  have := List.all_eq_true.1 fpl_ge (fp p) (fp_mem h)
  simpa using this
set_option maxRecDepth 5000 in
theorem fp_one : fp 255 = 4607182418800017408 := by kernel_rfl
set_option maxRecDepth 5000 in
theorem ge1_one : ge1 4607182418800017408 = true := by kernel_rfl
set_option maxRecDepth 5000 in
theorem tr_mono {n p q : Nat} (h1 : 1 ≤ n) (h2 : n ≤ 100) (hpq : p ≤ q) (hq : q < 255) : tr (fp p) n ≤ tr (fp q) n := by
  have h := up_pair (chk_all h1 h2)
  rw [← fpl_is, List.map_map] at h
  rcases Nat.eq_or_lt_of_le hpq with e | e
  · rw [e]; exact Nat.le_refl _
  · have := List.pairwise_iff_getElem.1 h p q (by simp; omega) (by simp; omega) e
    simpa using this
set_option maxRecDepth 5000 in
theorem plc_mono {n p q : Nat} (h1 : 1 ≤ n) (h2 : n ≤ 100) (hpq : p ≤ q) (hq : q ≤ 255) : plc (fp p) n ≤ plc (fp q) n := by
  rcases Nat.eq_or_lt_of_le hq with e | e
  · subst e
    have := plc_lt (q := fp p) (n := n) (by omega)
    have h3 : plc (fp 255) n = n - 1 := by unfold plc; rw [fp_one, ge1_one]; rfl
    omega
  · obtain ⟨a1, a0⟩ := fp_ge (p := p) (by omega)
    obtain ⟨b1, b0⟩ := fp_ge e
    have := tr_mono h1 h2 hpq e
    unfold plc
    rw [a1, a0, b1, b0]
    simp only [Bool.false_eq_true, if_false, if_true]
    omega
set_option maxRecDepth 5000 in
theorem fp_lt (p : Nat) : fp p < 2 ^ 64 := ar_lt ..
/- all numbers: nothing is left out -/
set_option maxRecDepth 5000 in
theorem nums_all {m : List Nat} (h : ∀ x ∈ m, nan x = false) : nums m = m := by
  unfold nums
  rw [List.filter_eq_self]
  intro x hx; rw [h x hx]; rfl
set_option maxRecDepth 5000 in
theorem srt_mem {m : List Nat} (h : ∀ x ∈ m, nan x = false) {i : Nat} (hi : i < m.length) : (srt m).getD i 0 ∈ m := by
  have hp := srt_perm m
  rw [nums_all h] at hp
  have hl : i < (srt m).length := by rw [hp.length_eq]; exact hi
  have : (srt m).getD i 0 = (srt m)[i] := by simp [hl]
  rw [this]
  exact hp.mem_iff.1 (List.getElem_mem hl)
set_option maxRecDepth 5000 in
theorem rank_is {m : List Nat} (h : ∀ x ∈ m, nan x = false) (h0 : 0 < m.length) (q : Nat) : rank m q = (srt m).getD (plc q m.length) 0 := by
  unfold rank; rw [nums_all h, if_neg (by omega)]
set_option maxRecDepth 5000 in
theorem rank_mem {m : List Nat} (h : ∀ x ∈ m, nan x = false) (h0 : 0 < m.length) (q : Nat) : rank m q ∈ m := by
  rw [rank_is h h0]; exact srt_mem h (plc_lt h0)
set_option maxRecDepth 5000 in
theorem srt_up {m : List Nat} (h : ∀ x ∈ m, nan x = false) {i j : Nat} (hij : i ≤ j) (hj : j < m.length) : okey ((srt m).getD i 0) ≤ okey ((srt m).getD j 0) := by
  have hl : (srt m).length = m.length := by rw [srt_len, nums_all h]
  rcases Nat.eq_or_lt_of_le hij with e | e
  · rw [e]; exact Int.le_refl _
  · have := List.pairwise_iff_getElem.1 (srt_sorted m) i j (by omega) (by omega) e
    have e1 : (srt m).getD i 0 = (srt m)[i] := by simp [show i < (srt m).length by omega]
    have e2 : (srt m).getD j 0 = (srt m)[j] := by simp [show j < (srt m).length by omega]
    rw [e1, e2]; exact this
set_option maxRecDepth 5000 in
theorem srt_find {m : List Nat} (h : ∀ x ∈ m, nan x = false) {x : Nat} (hx : x ∈ m) : ∃ i, i < m.length ∧ (srt m).getD i 0 = x := by
  have hp := srt_perm m
  rw [nums_all h] at hp
  obtain ⟨i, hi, e⟩ := List.getElem_of_mem (hp.mem_iff.2 hx)
  exact ⟨i, by rw [← hp.length_eq]; exact hi, by rw [← e]; simp [hi]⟩
set_option maxRecDepth 5000 in
theorem tr_zero {n : Nat} (h0 : 0 < n) (hn : n ≤ 1000) : tr 0 n = 0 := by
  obtain ⟨m2, j, hr, _, _, _, _, hneg⟩ := (is_int (n : Int) (by omega)).reads (by omega)
  have hng := hneg (by omega)
  have hz : FloatKind.f64.format.read 0 = .number false 0 (-1074) := by kernel_rfl
  have hfb : floatBits .mul .f64 0 (floatOfInt .f64 (n : Int)) = some (FloatKind.f64.format.nearest false 0 (-1074 + j)) := by
    show ((FloatKind.f64.format.read 0).product (FloatKind.f64.format.read _)).map _ = _
    rw [hz, hr, hng]
    show some (FloatKind.f64.format.nearest (false ^^ false) (0 * m2) _) = _
    rw [Nat.zero_mul, Bool.false_xor]
  have hne : FloatKind.f64.format.nearest false 0 (-1074 + j) = 0 := by
    unfold Ieee.Format.nearest; rw [if_pos rfl]; rfl
  unfold tr
  rw [ar_some hfb, hne]
  unfold whole
  rw [show V (rung 0) = 0 by decide, Nat.zero_div]
set_option maxRecDepth 5000 in
theorem plc_zero {n : Nat} (h0 : 0 < n) (hn : n ≤ 1000) : plc 0 n = 0 := by
  unfold plc
  rw [show ge1 0 = false by kernel_rfl, show ge0 0 = true by kernel_rfl, tr_zero h0 hn]
  simp
set_option maxRecDepth 5000 in
theorem plc_one (n : Nat) : plc 4607182418800017408 n = n - 1 := by unfold plc; rw [ge1_one]; rfl
set_option maxRecDepth 5000 in
theorem rank_least {m : List Nat} (hs : Small m) (h : ∀ x ∈ m, nan x = false) (h0 : 0 < m.length) (hm : m.length ≤ 1000) {a : Nat} (ha : a ∈ m) (hl : ∀ x ∈ m, okey a ≤ okey x) : rank m 0 = a := by
  rw [rank_is h h0, plc_zero h0 hm]
  have m0 := srt_mem h (i := 0) h0
  obtain ⟨i, hi, e⟩ := srt_find h ha
  have h1 := srt_up h (Nat.zero_le i) hi
  rw [e] at h1
  exact okey_eq (hs _ m0) (hs _ ha) (h _ m0) (Int.le_antisymm h1 (hl _ m0))
set_option maxRecDepth 5000 in
theorem rank_most {m : List Nat} (hs : Small m) (h : ∀ x ∈ m, nan x = false) (h0 : 0 < m.length) {a : Nat} (ha : a ∈ m) (hl : ∀ x ∈ m, okey x ≤ okey a) : rank m 4607182418800017408 = a := by
  rw [rank_is h h0, plc_one]
  have m0 := srt_mem h (i := m.length - 1) (by omega)
  obtain ⟨i, hi, e⟩ := srt_find h ha
  have h1 := srt_up h (i := i) (j := m.length - 1) (by omega) (by omega)
  rw [e] at h1
  exact okey_eq (hs _ m0) (hs _ ha) (h _ m0) (Int.le_antisymm (hl _ m0) h1)
set_option maxRecDepth 5000 in
theorem rank_mono {m : List Nat} (h : ∀ x ∈ m, nan x = false) (h0 : 0 < m.length) (hm : m.length ≤ 100) {p q : Nat} (hpq : p ≤ q) (hq : q ≤ 255) : cmp (rank m (fp p)) (rank m (fp q)) ≤ 0 := by
  rw [rank_is h h0, rank_is h h0]
  have h1 := plc_mono (n := m.length) h0 hm hpq hq
  have h2 := srt_up h h1 (plc_lt h0)
  unfold cmp
  split
  · omega
  · rw [if_neg (by omega)]; omega
end F
end Go.Proofs.Ytmkpihagfbohdaa
