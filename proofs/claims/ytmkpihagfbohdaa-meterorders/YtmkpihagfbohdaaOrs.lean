/- The law MeterOrders. -/
import Derived.Test.YtmkpihagfbohdaaKnw
namespace Go.Proofs.Ytmkpihagfbohdaa
open Go.RowKit
namespace F
set_option maxRecDepth 5000 in
theorem cmp_rev (a b : Nat) : cmp b a = - cmp a b := by
  unfold cmp
  by_cases h1 : okey a < okey b
  · rw [if_pos h1, if_neg (by omega), if_pos h1]; rfl
  · by_cases h2 : okey b < okey a
    · simp [h1, h2]
    · rw [if_neg h1, if_neg h2, if_neg h2, if_neg h1]; rfl
set_option maxRecDepth 5000 in
theorem cmp_cases (a b : Nat) : (cmp a b = -1 ∧ okey a < okey b) ∨ (cmp a b = 0 ∧ okey a = okey b) ∨ (cmp a b = 1 ∧ okey b < okey a) := by
  unfold cmp
  by_cases h1 : okey a < okey b
  · rw [if_pos h1]; exact Or.inl ⟨rfl, h1⟩
  · by_cases h2 : okey b < okey a
    · rw [if_neg h1, if_pos h2]; exact Or.inr (Or.inr ⟨rfl, h2⟩)
    · rw [if_neg h1, if_neg h2]; exact Or.inr (Or.inl ⟨rfl, by omega⟩)
set_option maxRecDepth 5000 in
theorem norm_same {a b : Nat} (ha : a < 2 ^ 64) (hb : b < 2 ^ 64) (h : okey a = okey b) : ((norm a : Int) == (norm b : Int)) = true := by
  rw [okey_inj ha hb h]; simp
set_option maxRecDepth 5000 in
theorem norm_differ {a b : Nat} (h : okey a ≠ okey b) : ((norm a : Int) == (norm b : Int)) = false := by
  rw [beq_eq_false_iff_ne]
  intro e
  have e : norm a = norm b := by omega
  apply h
  rw [← okey_norm (a := a), e, okey_norm]
end F
set_option maxHeartbeats 2000000 in
set_option maxRecDepth 5000 in
theorem orders_walk (a b c : Nat) (ha : a < 2 ^ 64) (hb : b < 2 ^ 64) (hc : c < 2 ^ 64) (w : World) :
    Calls Try.prog 3 #[.int .u64 (a : Int), .int .u64 (b : Int), .int .u64 (c : Int)] w fun e w' => e = .returned (.bool true) ∧ Below w.heap.size w w' := by
  have hn := hnot
  have hK := known_any w
  have hba := F.cmp_rev a b
  have nn : ((F.norm a : Int) != (F.norm a : Int)) = false := by simp
  rcases F.cmp_cases a b with ⟨hab, kab⟩ | ⟨hab, kab⟩ | ⟨hab, kab⟩
  · have hnm := F.norm_differ (a := a) (b := b) (by omega)
    rw [hab] at hba
    rcases F.cmp_cases b c with ⟨hbc, kbc⟩ | ⟨hbc, kbc⟩ | ⟨hbc, kbc⟩
    · obtain ⟨Z, hac, hZ⟩ : ∃ Z, F.cmp a c = Z ∧ Z ≤ 0 := by rcases F.cmp_cases a c with ⟨h, k⟩ | ⟨h, k⟩ | ⟨h, k⟩ <;> exact ⟨_, h, by omega⟩
      clear kab kbc
      go_enter Try.func3, Try.ntmps3
      go_wp2_with (first | (go_at_call 9; refine hK.mono ?_; rintro e w1 ⟨rfl, hB⟩) | (go_at_call 11; refine (at_any _ _).mono ?_; rintro e w' ⟨rfl, hw⟩; rw [hw, Int.toNat_natCast]; clear hw w') | (go_at_call 10; refine (order_any _ _ (by assumption) (by assumption) _).mono ?_; rintro e w' ⟨rfl, hw⟩; rw [hw]; clear hw w'; first | rw [hab] | rw [hbc] | rw [hba] | rw [hac]) | (go_at_call 12; refine (rorder_any _ _ (by assumption) (by assumption) _).mono ?_; rintro e w' ⟨rfl, hw⟩; rw [hw, hab]; clear hw w') | (go_at_call 13; refine (bits_any _ _).mono ?_; rintro e w' ⟨rfl, hw⟩; rw [hw]; clear hw w') | (go_at_call 14; refine (rbits_any _ _).mono ?_; rintro e w' ⟨rfl, hw⟩; rw [hw]; clear hw w'))
      go_ret
      exact ⟨by simp_all, hB⟩
    · obtain ⟨Z, hac, hZ⟩ : ∃ Z, F.cmp a c = Z ∧ Z ≤ 0 := by rcases F.cmp_cases a c with ⟨h, k⟩ | ⟨h, k⟩ | ⟨h, k⟩ <;> exact ⟨_, h, by omega⟩
      clear kab kbc
      go_enter Try.func3, Try.ntmps3
      go_wp2_with (first | (go_at_call 9; refine hK.mono ?_; rintro e w1 ⟨rfl, hB⟩) | (go_at_call 11; refine (at_any _ _).mono ?_; rintro e w' ⟨rfl, hw⟩; rw [hw, Int.toNat_natCast]; clear hw w') | (go_at_call 10; refine (order_any _ _ (by assumption) (by assumption) _).mono ?_; rintro e w' ⟨rfl, hw⟩; rw [hw]; clear hw w'; first | rw [hab] | rw [hbc] | rw [hba] | rw [hac]) | (go_at_call 12; refine (rorder_any _ _ (by assumption) (by assumption) _).mono ?_; rintro e w' ⟨rfl, hw⟩; rw [hw, hab]; clear hw w') | (go_at_call 13; refine (bits_any _ _).mono ?_; rintro e w' ⟨rfl, hw⟩; rw [hw]; clear hw w') | (go_at_call 14; refine (rbits_any _ _).mono ?_; rintro e w' ⟨rfl, hw⟩; rw [hw]; clear hw w'))
      go_ret
      exact ⟨by simp_all, hB⟩
    · obtain ⟨Z, hac⟩ : ∃ Z, F.cmp a c = Z := ⟨_, rfl⟩
      clear kab kbc
      go_enter Try.func3, Try.ntmps3
      go_wp2_with (first | (go_at_call 9; refine hK.mono ?_; rintro e w1 ⟨rfl, hB⟩) | (go_at_call 11; refine (at_any _ _).mono ?_; rintro e w' ⟨rfl, hw⟩; rw [hw, Int.toNat_natCast]; clear hw w') | (go_at_call 10; refine (order_any _ _ (by assumption) (by assumption) _).mono ?_; rintro e w' ⟨rfl, hw⟩; rw [hw]; clear hw w'; first | rw [hab] | rw [hbc] | rw [hba] | rw [hac]) | (go_at_call 12; refine (rorder_any _ _ (by assumption) (by assumption) _).mono ?_; rintro e w' ⟨rfl, hw⟩; rw [hw, hab]; clear hw w') | (go_at_call 13; refine (bits_any _ _).mono ?_; rintro e w' ⟨rfl, hw⟩; rw [hw]; clear hw w') | (go_at_call 14; refine (rbits_any _ _).mono ?_; rintro e w' ⟨rfl, hw⟩; rw [hw]; clear hw w'))
      go_ret
      exact ⟨by simp_all, hB⟩
  · have hnm := F.norm_same ha hb kab
    rw [hab] at hba
    rcases F.cmp_cases b c with ⟨hbc, kbc⟩ | ⟨hbc, kbc⟩ | ⟨hbc, kbc⟩
    · obtain ⟨Z, hac, hZ⟩ : ∃ Z, F.cmp a c = Z ∧ Z ≤ 0 := by rcases F.cmp_cases a c with ⟨h, k⟩ | ⟨h, k⟩ | ⟨h, k⟩ <;> exact ⟨_, h, by omega⟩
      clear kab kbc
      go_enter Try.func3, Try.ntmps3
      go_wp2_with (first | (go_at_call 9; refine hK.mono ?_; rintro e w1 ⟨rfl, hB⟩) | (go_at_call 11; refine (at_any _ _).mono ?_; rintro e w' ⟨rfl, hw⟩; rw [hw, Int.toNat_natCast]; clear hw w') | (go_at_call 10; refine (order_any _ _ (by assumption) (by assumption) _).mono ?_; rintro e w' ⟨rfl, hw⟩; rw [hw]; clear hw w'; first | rw [hab] | rw [hbc] | rw [hba] | rw [hac]) | (go_at_call 12; refine (rorder_any _ _ (by assumption) (by assumption) _).mono ?_; rintro e w' ⟨rfl, hw⟩; rw [hw, hab]; clear hw w') | (go_at_call 13; refine (bits_any _ _).mono ?_; rintro e w' ⟨rfl, hw⟩; rw [hw]; clear hw w') | (go_at_call 14; refine (rbits_any _ _).mono ?_; rintro e w' ⟨rfl, hw⟩; rw [hw]; clear hw w'))
      go_ret
      exact ⟨by simp_all, hB⟩
    · obtain ⟨Z, hac, hZ⟩ : ∃ Z, F.cmp a c = Z ∧ Z ≤ 0 := by rcases F.cmp_cases a c with ⟨h, k⟩ | ⟨h, k⟩ | ⟨h, k⟩ <;> exact ⟨_, h, by omega⟩
      clear kab kbc
      go_enter Try.func3, Try.ntmps3
      go_wp2_with (first | (go_at_call 9; refine hK.mono ?_; rintro e w1 ⟨rfl, hB⟩) | (go_at_call 11; refine (at_any _ _).mono ?_; rintro e w' ⟨rfl, hw⟩; rw [hw, Int.toNat_natCast]; clear hw w') | (go_at_call 10; refine (order_any _ _ (by assumption) (by assumption) _).mono ?_; rintro e w' ⟨rfl, hw⟩; rw [hw]; clear hw w'; first | rw [hab] | rw [hbc] | rw [hba] | rw [hac]) | (go_at_call 12; refine (rorder_any _ _ (by assumption) (by assumption) _).mono ?_; rintro e w' ⟨rfl, hw⟩; rw [hw, hab]; clear hw w') | (go_at_call 13; refine (bits_any _ _).mono ?_; rintro e w' ⟨rfl, hw⟩; rw [hw]; clear hw w') | (go_at_call 14; refine (rbits_any _ _).mono ?_; rintro e w' ⟨rfl, hw⟩; rw [hw]; clear hw w'))
      go_ret
      exact ⟨by simp_all, hB⟩
    · obtain ⟨Z, hac⟩ : ∃ Z, F.cmp a c = Z := ⟨_, rfl⟩
      clear kab kbc
      go_enter Try.func3, Try.ntmps3
      go_wp2_with (first | (go_at_call 9; refine hK.mono ?_; rintro e w1 ⟨rfl, hB⟩) | (go_at_call 11; refine (at_any _ _).mono ?_; rintro e w' ⟨rfl, hw⟩; rw [hw, Int.toNat_natCast]; clear hw w') | (go_at_call 10; refine (order_any _ _ (by assumption) (by assumption) _).mono ?_; rintro e w' ⟨rfl, hw⟩; rw [hw]; clear hw w'; first | rw [hab] | rw [hbc] | rw [hba] | rw [hac]) | (go_at_call 12; refine (rorder_any _ _ (by assumption) (by assumption) _).mono ?_; rintro e w' ⟨rfl, hw⟩; rw [hw, hab]; clear hw w') | (go_at_call 13; refine (bits_any _ _).mono ?_; rintro e w' ⟨rfl, hw⟩; rw [hw]; clear hw w') | (go_at_call 14; refine (rbits_any _ _).mono ?_; rintro e w' ⟨rfl, hw⟩; rw [hw]; clear hw w'))
      go_ret
      exact ⟨by simp_all, hB⟩
  · have hnm := F.norm_differ (a := a) (b := b) (by omega)
    rw [hab] at hba
    obtain ⟨Y, hbc⟩ : ∃ Y, F.cmp b c = Y := ⟨_, rfl⟩
    obtain ⟨Z, hac⟩ : ∃ Z, F.cmp a c = Z := ⟨_, rfl⟩
    clear kab
    go_enter Try.func3, Try.ntmps3
    go_wp2_with (first | (go_at_call 9; refine hK.mono ?_; rintro e w1 ⟨rfl, hB⟩) | (go_at_call 11; refine (at_any _ _).mono ?_; rintro e w' ⟨rfl, hw⟩; rw [hw, Int.toNat_natCast]; clear hw w') | (go_at_call 10; refine (order_any _ _ (by assumption) (by assumption) _).mono ?_; rintro e w' ⟨rfl, hw⟩; rw [hw]; clear hw w'; first | rw [hab] | rw [hbc] | rw [hba] | rw [hac]) | (go_at_call 12; refine (rorder_any _ _ (by assumption) (by assumption) _).mono ?_; rintro e w' ⟨rfl, hw⟩; rw [hw, hab]; clear hw w') | (go_at_call 13; refine (bits_any _ _).mono ?_; rintro e w' ⟨rfl, hw⟩; rw [hw]; clear hw w') | (go_at_call 14; refine (rbits_any _ _).mono ?_; rintro e w' ⟨rfl, hw⟩; rw [hw]; clear hw w'))
    go_ret
    exact ⟨by simp_all, hB⟩
end Go.Proofs.Ytmkpihagfbohdaa
