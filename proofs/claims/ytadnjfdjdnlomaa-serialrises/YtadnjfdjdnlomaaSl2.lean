/- The laws SerialRises and SerialTimes, walked. -/
import Derived.Test.YtadnjfdjdnlomaaSlw
namespace Go.Proofs.Ytadnjfdjdnlomaa
open Go.RowKit
namespace S
set_option maxRecDepth 5000 in
theorem nxt_lt (a : Nat) (ha : a < 4294967296) : nxt a < 4294967296 := by unfold nxt; split <;> omega
set_option maxRecDepth 5000 in
theorem nxt_pos (a : Nat) : 0 < nxt a := by unfold nxt; split <;> omega
set_option maxRecDepth 5000 in
theorem cmp_up (a b : Nat) (ha : a < 4294967296) (hb : b < 4294967296) (h : dif b a < 2147483648) (h' : 0 < dif b a) : cmp a b = -1 ∧ tld a b = true ∧ cmp b a = 1 ∧ tld b a = true := by
  unfold cmp tld
  have h1 : dif a b = 4294967296 - dif b a := by unfold dif at *; omega
  refine ⟨?_, ?_, ?_, ?_⟩
  · rw [if_neg (by omega), if_neg (by omega), if_neg (by omega)]
  · rw [decide_eq_false (by omega)]; rfl
  · rw [if_neg (by omega), if_neg (by omega), if_pos (by omega)]
  · rw [decide_eq_false (by omega)]; rfl
set_option maxRecDepth 5000 in
theorem cmp_same (a : Nat) (h : a < 4294967296) : cmp a a = 0 ∧ tld a a = true := by
  unfold cmp tld

  have h1 : dif a a = 0 := by unfold dif; omega
  exact ⟨by rw [h1]; rfl, by rw [h1]; rfl⟩
set_option maxRecDepth 5000 in
theorem dif_nxt (a : Nat) (ha : a < 4294967296) : dif (nxt a) a < 2147483648 ∧ 0 < dif (nxt a) a := by
  unfold dif nxt; split <;> omega
end S
set_option maxRecDepth 100000 in
set_option maxHeartbeats 1000000 in
theorem rises_walk (a n : Nat) (ha : a < 4294967296) (w : World) : Calls Try.prog 4 #[.int .u32 (a : Int), .int .u32 (n : Int)] w fun e w' => e = .returned (.bool true) ∧ Below w.heap.size w w' := by
  have hm : (n : Int).tmod 2147483648 = ((n % 2147483648 : Nat) : Int) := rfl
  have hn : n % 2147483648 < 2147483648 := by omega
  generalize hN : n % 2147483648 = N at hm hn
  have hb : S.add a N < 4294967296 := by unfold S.add; split <;> omega
  have c3 := add_any a N w
  rw [decide_eq_true hn] at c3
  have c1 := compare_any a (S.add a N) hb w
  have c2 := compare_any (S.add a N) a ha w
  have c5 := next_any a ha w
  have c4 := compare_any a (S.nxt a) (S.nxt_lt a ha) w
  obtain ⟨d1, d2, -, -⟩ := S.cmp_up a (S.nxt a) ha (S.nxt_lt a ha) (S.dif_nxt a ha).1 (S.dif_nxt a ha).2
  rw [d1, d2] at c4
  have z5 : ¬ (S.nxt a : Int) = 0 := by have := S.nxt_pos a; omega
  have hT : True := trivial
  have hU : True := trivial
  generalize (S.nxt a : Int) = x5 at c4 c5 z5
  by_cases h0 : N = 0
  · subst h0
    have e1 : S.add a 0 = a := by unfold S.add; rw [if_neg (by omega)]; omega
    rw [e1] at c1 c2 c3
    rw [(S.cmp_same a ha).1, (S.cmp_same a ha).2] at c1 c2
    clear ha hb e1 d1 d2 hn hN c2
    replace hm : (n : Int).tmod 2147483648 = 0 := hm
    replace c3 : Calls Try.prog 10 #[.int .u32 (a : Int), .int .u32 0] w fun e w' => e = .returned (.tuple #[.int .u32 (a : Int), .bool true]) ∧ w' = w := c3
    generalize (a : Int) = A at c1 c3 c4 c5
    generalize (n : Int) = M at hm
    go_enter Try.func4, Try.ntmps4
    go_wp2_with (first
      | (go_at_call 7; refine (known_any _).mono ?_; rintro e w' ⟨rfl, hw⟩; rw [hw]; clear hw w')
      | (go_at_call 10; refine c3.mono ?_; rintro e w' ⟨rfl, hw⟩; rw [hw]; clear hw w')
      | (go_at_call 8; have hk := hT; clear hk hT; refine c1.mono ?_; rintro e w' ⟨rfl, hw⟩; rw [hw]; clear hw w')
      | (go_at_call 8; have hk := hU; clear hk hU; refine c1.mono ?_; rintro e w' ⟨rfl, hw⟩; rw [hw]; clear hw w')
      | (go_at_call 8; refine c4.mono ?_; rintro e w' ⟨rfl, hw⟩; rw [hw]; clear hw w')
      | (go_at_call 12; refine c5.mono ?_; rintro e w' ⟨rfl, hw⟩; rw [hw]; clear hw w'))
    go_ret
    exact ⟨by simp [z5], Below.refl _ _⟩
  · have hd : S.dif (S.add a N) a = N := by unfold S.dif S.add; rw [if_neg (by omega)]; omega
    obtain ⟨e1, e2, e3, e4⟩ := S.cmp_up a (S.add a N) ha hb (by omega) (by omega)
    rw [e1, e2] at c1
    rw [e3, e4] at c2
    have z0 : ¬ (N : Int) = 0 := by omega
    have z1 : (N : Int) > 0 := by omega
    generalize (S.add a N : Int) = B at c1 c2 c3
    clear ha hb e1 e2 e3 e4 d1 d2 hn hN hd h0
    generalize (a : Int) = A at c1 c2 c3 c4 c5
    generalize (n : Int) = M at hm
    generalize (N : Int) = N' at hm c3 z0 z1
    go_enter Try.func4, Try.ntmps4
    go_wp2_with (first
      | (go_at_call 7; refine (known_any _).mono ?_; rintro e w' ⟨rfl, hw⟩; rw [hw]; clear hw w')
      | (go_at_call 10; refine c3.mono ?_; rintro e w' ⟨rfl, hw⟩; rw [hw]; clear hw w')
      | (go_at_call 8; have hk := hT; clear hk hT; refine c1.mono ?_; rintro e w' ⟨rfl, hw⟩; rw [hw]; clear hw w')
      | (go_at_call 8; have hk := hU; clear hk hU; refine c2.mono ?_; rintro e w' ⟨rfl, hw⟩; rw [hw]; clear hw w')
      | (go_at_call 8; refine c4.mono ?_; rintro e w' ⟨rfl, hw⟩; rw [hw]; clear hw w')
      | (go_at_call 12; refine c5.mono ?_; rintro e w' ⟨rfl, hw⟩; rw [hw]; clear hw w'))
    go_ret
    exact ⟨by simp [z5], Below.refl _ _⟩
set_option maxRecDepth 100000 in
set_option maxHeartbeats 1000000 in
theorem times_walk (a b c : Nat) (ha : a < 4294967296) (hb : b < 4294967296) (w : World) : Calls Try.prog 6 #[.int .u32 (a : Int), .int .u32 (b : Int), .int .u32 (c : Int)] w fun e w' => e = .returned (.bool true) ∧ Below w.heap.size w w' := by
  have hx : S.pls a b < 4294967296 := by unfold S.pls; omega
  have c1 := plus_any a b ha w
  have c2 := plus_any b a hb w
  rw [show S.pls b a = S.pls a b from by unfold S.pls; omega] at c2
  have c3 := plus_any (S.pls a b) c hx w
  have c4 := due_any (S.pls a b) a w
  rw [decide_eq_true (show a ≤ S.pls a b by unfold S.pls; omega)] at c4
  have c5 := due_any a (S.pls a b) w
  rw [show decide (S.pls a b ≤ a) = decide ((S.pls a b : Int) = (a : Int)) from decide_eq_decide.2 (by unfold S.pls; omega)] at c5
  have z1 : (S.pls a b : Int) ≥ (b : Int) := by unfold S.pls; omega
  have z2 : (S.pls (S.pls a b) c : Int) ≥ (S.pls a b : Int) := by unfold S.pls; omega
  have hT : True := trivial
  have hU : True := trivial
  have hV : True := trivial
  have hD : True := trivial
  generalize (S.pls (S.pls a b) c : Int) = y at c3 z2
  generalize (S.pls a b : Int) = x at c1 c2 c3 c4 c5 z1 z2
  clear ha hb hx
  generalize (a : Int) = A at c1 c2 c4 c5
  generalize (b : Int) = B at c1 c2 z1
  generalize (c : Int) = C at c3
  go_enter Try.func6, Try.ntmps6
  go_wp2_with (first
    | (go_at_call 7; refine (known_any _).mono ?_; rintro e w' ⟨rfl, hw⟩; rw [hw]; clear hw w')
    | (go_at_call 14; have hk := hT; clear hk hT; refine c1.mono ?_; rintro e w' ⟨rfl, hw⟩; rw [hw]; clear hw w')
    | (go_at_call 14; have hk := hU; clear hk hU; refine c3.mono ?_; rintro e w' ⟨rfl, hw⟩; rw [hw]; clear hw w')
    | (go_at_call 14; have hk := hV; clear hk hV; refine c1.mono ?_; rintro e w' ⟨rfl, hw⟩; rw [hw]; clear hw w')
    | (go_at_call 14; refine c2.mono ?_; rintro e w' ⟨rfl, hw⟩; rw [hw]; clear hw w')
    | (go_at_call 16; have hk := hD; clear hk hD; refine c4.mono ?_; rintro e w' ⟨rfl, hw⟩; rw [hw]; clear hw w')
    | (go_at_call 16; refine c5.mono ?_; rintro e w' ⟨rfl, hw⟩; rw [hw]; clear hw w'))
  go_ret
  exact ⟨by simp, Below.refl _ _⟩
end Go.Proofs.Ytadnjfdjdnlomaa
