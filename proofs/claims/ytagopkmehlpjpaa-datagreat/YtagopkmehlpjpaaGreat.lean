/- signethelp.Place; signetlaw5.DataGreat: the walk. -/
import Derived.Test.YtagopkmehlpjpaaKnown
namespace Go.Proofs.Ytagopkmehlpjpaa
open Go.RowKit
set_option maxRecDepth 5000 in
theorem place_any (n : Int) (k : Nat) (w : World) (hk : 0 < k) (hk2 : k ≤ 1000000) :
    Calls Try.prog 36 #[.int .i64 n, .int .i64 (k : Int)] w fun e w' => ∃ r : Nat, r < k ∧ e = .returned (.int .i64 (r : Int)) ∧ w' = w := by
  have hne : ((k : Int) == 0) = false := beq_eq_false_iff_ne.2 (by omega)
  have hk0 : (k : Int) ≠ 0 := by omega
  have hb : -(k : Int) < n.tmod k ∧ n.tmod k < k := by
    have h3 := Int.tmod_lt_of_pos n (b := (k : Int)) (by omega)
    refine ⟨?_, h3⟩
    have h4 := Int.lt_tmod_of_pos n (b := (k : Int)) (by omega)
    exact h4
  go_enter Try.func36, Try.ntmps36
  go_wp2
  · go_ret
    refine ⟨(n.tmod k + k).toNat, by omega, ?_, rfl⟩
    show Ending.returned (.int .i64 (n.tmod k + k)) = _
    rw [Int.toNat_of_nonneg (by omega)]
  · go_ret
    refine ⟨(n.tmod k).toNat, by omega, ?_, rfl⟩
    show Ending.returned (.int .i64 (n.tmod k)) = _
    rw [Int.toNat_of_nonneg (by omega)]
namespace D
set_option maxRecDepth 5000 in
theorem can_great (t K : Nat) (ht : t = 99 ∨ t = 43 ∨ t = 48) (hK : 5 ≤ K) : ∃ x, can t (List.replicate K 0) = some (x, []) := by
  rcases ht with rfl | rfl | rfl
  · exact ⟨_, rfl⟩
  · have h : by_ 5 (List.replicate K 0) = some ((List.replicate K 0).take 5, (List.replicate K 0).drop 5) := by
      unfold by_; rw [if_neg (by rw [List.length_replicate]; omega)]
    exact ⟨_, show (by_ 5 (List.replicate K 0)).map _ = _ by rw [h]; rfl⟩
  · obtain ⟨m, rfl⟩ : ∃ m, K = m + 4 := ⟨K - 4, by omega⟩
    exact ⟨_, rfl⟩
end D
set_option maxRecDepth 5000 in
theorem great_code (t K : Nat) (ht : t = 99 ∨ t = 43 ∨ t = 48) (hK : 5 ≤ K) : codeOf (D.full (List.replicate K 0) (D.can t (List.replicate K 0))) = if K ≤ 8192 then 0 else 50 := by
  obtain ⟨x, hx⟩ := D.can_great t K ht hK
  split
  · rw [D.full_some (by rw [List.length_replicate]; omega) hx]; rfl
  · rw [D.full_long (by rw [List.length_replicate]; omega)]; rfl
set_option maxHeartbeats 800000 in
set_option maxRecDepth 5000 in
theorem great_part (t : Nat) (n : Int) (w : World) (t' : Nat) (ht : t' = 99 ∨ t' = 43 ∨ t' = 48) (htt : t = t' ∨ (t' = 99 ∧ t ≠ 99 ∧ t ≠ 43 ∧ t ≠ 48)) :
    Calls Try.prog 7 #[.int .u16 (t : Int), .int .i64 n] w fun e w' => e = .returned (.bool true) ∧ Below w.heap.size w w' := by
  go_enter Try.func7, Try.ntmps7
  go_wp2_with fail
  refine (known_any _).mono ?_
  rintro e w1 ⟨rfl, hb1⟩
  have hz := hb1.size
  rcases htt with rfl | ⟨rfl, n1, n2, n3⟩
  · rcases ht with rfl | rfl | rfl
    all_goals
      go_wp2_with fail
      refine (place_any n 5 _ (by omega) (by omega)).mono ?_
      rintro e w2 ⟨r, hr, rfl, rfl⟩
      obtain ⟨K, hK⟩ : ∃ K : Nat, 8190 + r = K := ⟨_, rfl⟩
      have hK2 : 8190 + (r : Int) = (K : Int) := by omega
      have hcode := fun tt ht => great_code tt K ht (by omega)
      have hmk := make_zeros K (by omega)
      have hKK : K ≤ 8194 := by omega
      clear hK hr
      go_wp2_with fail
      refine (dCheck_any _ (List.replicate K 0) _ K K _ (by show _ = _; simp) (by exact SlL.litm w2 (List.replicate K 0) _ 5 (0, 0) rfl) (Nat.le_refl _) (by intro h; cases h)).mono ?_
      rw [hcode _ (by simp)]
      rintro e w3 ⟨rfl, hb3⟩
      have hb := (hb1.alloc hz (.cells (vb (List.replicate K 0)).toArray 5)).trans (hb3.mono (by simp; omega))
      clear hcode hmk hb3
      by_cases hk : K ≤ 8192
      · rw [if_pos hk]
        have hk2 : (K : Int) ≤ 8192 := by omega
        go_wp2
        go_ret
        exact ⟨rfl, hb⟩
      · rw [if_neg hk]
        have hk2 : decide ((K : Int) ≤ 8192) = false := decide_eq_false (by omega)
        go_wp2
        go_ret
        exact ⟨rfl, hb⟩
  · have b1 : ((t : Int) != 99) = true := by simp; omega
    have b2 : ((t : Int) != 43) = true := by simp; omega
    have b3 : ((t : Int) != 48) = true := by simp; omega
    clear n1 n2 n3
    go_wp2_with fail
    refine (place_any n 5 _ (by omega) (by omega)).mono ?_
    rintro e w2 ⟨r, hr, rfl, rfl⟩
    obtain ⟨K, hK⟩ : ∃ K : Nat, 8190 + r = K := ⟨_, rfl⟩
    have hK2 : 8190 + (r : Int) = (K : Int) := by omega
    have hcode := great_code 99 K (by simp) (by omega)
    have hmk := make_zeros K (by omega)
    have hKK : K ≤ 8194 := by omega
    clear hK hr
    go_wp2_with fail
    refine (dCheck_any 99 (List.replicate K 0) _ K K _ (by show _ = _; simp) (by exact SlL.litm w2 (List.replicate K 0) _ 5 (0, 0) rfl) (Nat.le_refl _) (by intro h; cases h)).mono ?_
    rw [hcode]
    rintro e w3 ⟨rfl, hb3⟩
    have hb := (hb1.alloc hz (.cells (vb (List.replicate K 0)).toArray 5)).trans (hb3.mono (by simp; omega))
    clear hcode hmk hb3
    by_cases hk : K ≤ 8192
    · rw [if_pos hk]
      have hk2 : (K : Int) ≤ 8192 := by omega
      go_wp2
      go_ret
      exact ⟨rfl, hb⟩
    · rw [if_neg hk]
      have hk2 : decide ((K : Int) ≤ 8192) = false := decide_eq_false (by omega)
      go_wp2
      go_ret
      exact ⟨rfl, hb⟩
set_option maxRecDepth 5000 in
theorem great_walk (t : Nat) (n : Int) (w : World) :
    Calls Try.prog 7 #[.int .u16 (t : Int), .int .i64 n] w fun e w' => e = .returned (.bool true) ∧ Below w.heap.size w w' := by
  by_cases h : t = 99 ∨ t = 43 ∨ t = 48
  · exact great_part t n w t h (Or.inl rfl)
  · exact great_part t n w 99 (Or.inl rfl) (Or.inr ⟨rfl, by omega, by omega, by omega⟩)
end Go.Proofs.Ytagopkmehlpjpaa
