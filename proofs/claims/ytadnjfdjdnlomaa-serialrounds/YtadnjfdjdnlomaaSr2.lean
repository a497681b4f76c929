/- Package serial and the reference's answers, walked: the reference's Compare, Add, Next, Plus, Due. -/
import Derived.Test.YtadnjfdjdnlomaaSer
namespace Go.Proofs.Ytadnjfdjdnlomaa
open Go.RowKit
set_option maxRecDepth 100000 in
theorem rcompare_any (a b : Nat) (ha : a < 4294967296) (hb : b < 4294967296) (w : World) : Calls Try.prog 9 #[.int .u32 (a : Int), .int .u32 (b : Int)] w fun e w' => e = .returned (.tuple #[.int .i64 (S.cmp a b), .bool (S.tld a b)]) ∧ w' = w := by
  have hD := w32_sub b a ha
  have hl : S.dif b a < 4294967296 := by unfold S.dif; omega
  have hc : S.cmp a b = if S.dif b a = 0 then 0 else if S.dif b a = 2147483648 then 0 else if S.dif b a < 2147483648 then -1 else 1 := by
    unfold S.cmp S.dif
    split <;> split <;> (try split) <;> (try split) <;> (try split) <;> (try split) <;> first | rfl | (exfalso; omega)
  have ht : S.tld a b = !decide (S.dif b a = 2147483648) := by
    unfold S.tld S.dif
    congr 1
    exact decide_eq_decide.2 (by omega)
  rw [hc, ht]
  clear hc ht
  rw [show (b + (4294967296 - a)) % 4294967296 = S.dif b a from rfl] at hD
  generalize S.dif b a = D at hD hl
  clear ha hb
  by_cases h0 : D = 0
  · subst h0
    go_enter Try.func9, Try.ntmps9
    go_wp2
    go_ret2
    exact ⟨by simp, rfl⟩
  · by_cases h1 : D = 2147483648
    · subst h1
      go_enter Try.func9, Try.ntmps9
      go_wp2
      go_ret2
      exact ⟨by simp, rfl⟩
    · rw [if_neg h0, if_neg h1, decide_eq_false h1]
      have e0 : ¬ (D : Int) = 0 := by omega
      have e1 : ¬ (D : Int) = 2147483648 := by omega
      by_cases h2 : D < 2147483648
      · rw [if_pos h2]
        have e2 : (D : Int) < 2147483648 := by omega
        clear h0 h1 h2 hl
        generalize (D : Int) = z at hD e0 e1 e2
        go_enter Try.func9, Try.ntmps9
        go_wp2
        go_ret2
        exact ⟨rfl, rfl⟩
      · rw [if_neg h2]
        have e2 : ¬ (D : Int) < 2147483648 := by omega
        clear h0 h1 h2 hl
        generalize (D : Int) = z at hD e0 e1 e2
        go_enter Try.func9, Try.ntmps9
        go_wp2
        go_ret2
        exact ⟨rfl, rfl⟩
set_option maxRecDepth 100000 in
theorem add_any (a n : Nat) (w : World) : Calls Try.prog 10 #[.int .u32 (a : Int), .int .u32 (n : Int)] w fun e w' => e = .returned (.tuple #[.int .u32 (S.add a n : Int), .bool (decide (n < 2147483648))]) ∧ w' = w := by
  have hD := w32_add a n
  unfold S.add
  by_cases h : 2147483648 ≤ n
  · rw [if_pos h, decide_eq_false (by omega)]
    have e : (n : Int) ≥ 2147483648 := by omega
    clear hD h
    generalize (n : Int) = z at e
    go_enter Try.func10, Try.ntmps10
    go_wp2
    go_ret2
    exact ⟨rfl, rfl⟩
  · rw [if_neg h, decide_eq_true (by omega)]
    have e : ¬ (n : Int) ≥ 2147483648 := by omega
    generalize (((a + n) % 4294967296 : Nat) : Int) = y at hD
    generalize (n : Int) = z at hD e
    clear h
    go_enter Try.func10, Try.ntmps10
    go_wp2
    go_ret2
    exact ⟨rfl, rfl⟩
set_option maxRecDepth 100000 in
theorem rsum_any (a n : Nat) (w : World) : Calls Try.prog 11 #[.int .u32 (a : Int), .int .u32 (n : Int)] w fun e w' => e = .returned (.tuple #[.int .u32 (S.add a n : Int), .bool (decide (n < 2147483648))]) ∧ w' = w := by
  have hD := w32_add a n
  unfold S.add
  by_cases h : 2147483648 ≤ n
  · rw [if_pos h, decide_eq_false (by omega)]
    have e : (n : Int) > 2147483647 := by omega
    clear hD h
    generalize (n : Int) = z at e
    go_enter Try.func11, Try.ntmps11
    go_wp2
    go_ret2
    exact ⟨rfl, rfl⟩
  · rw [if_neg h, decide_eq_true (by omega)]
    have e : ¬ (n : Int) > 2147483647 := by omega
    generalize (((a + n) % 4294967296 : Nat) : Int) = y at hD
    generalize (n : Int) = z at hD e
    clear h
    go_enter Try.func11, Try.ntmps11
    go_wp2
    go_ret2
    exact ⟨rfl, rfl⟩
set_option maxRecDepth 100000 in
theorem next_any (a : Nat) (ha : a < 4294967296) (w : World) : Calls Try.prog 12 #[.int .u32 (a : Int)] w fun e w' => e = .returned (.int .u32 (S.nxt a : Int)) ∧ w' = w := by
  unfold S.nxt
  by_cases h : a = 4294967295
  · subst h
    rw [if_pos rfl]
    go_enter Try.func12, Try.ntmps12
    go_wp2
    go_ret
    exact ⟨rfl, rfl⟩
  · rw [if_neg h]
    have hD : IntKind.u32.wrap ((a : Int) + 1) = ((a + 1 : Nat) : Int) := by rw [IntKind.wrap_u32]; omega
    have e : ¬ ((a + 1 : Nat) : Int) < 1 := by omega
    generalize ((a + 1 : Nat) : Int) = y at hD e
    clear h ha
    generalize (a : Int) = x at hD
    go_enter Try.func12, Try.ntmps12
    go_wp2
    go_ret
    exact ⟨rfl, rfl⟩
set_option maxRecDepth 100000 in
theorem rnext_any (a : Nat) (ha : a < 4294967296) (w : World) : Calls Try.prog 13 #[.int .u32 (a : Int)] w fun e w' => e = .returned (.int .u32 (S.nxt a : Int)) ∧ w' = w := by
  unfold S.nxt
  by_cases h : a = 4294967295
  · subst h
    rw [if_pos rfl]
    go_enter Try.func13, Try.ntmps13
    go_wp2
    go_ret
    exact ⟨rfl, rfl⟩
  · rw [if_neg h]
    have hD : IntKind.u32.wrap ((a : Int) + 1) = ((a + 1 : Nat) : Int) := by rw [IntKind.wrap_u32]; omega
    have e : ¬ ((a + 1 : Nat) : Int) = 0 := by omega
    generalize ((a + 1 : Nat) : Int) = y at hD e
    clear h ha
    generalize (a : Int) = x at hD
    go_enter Try.func13, Try.ntmps13
    go_wp2
    go_ret
    exact ⟨rfl, rfl⟩
set_option maxRecDepth 100000 in
theorem plus_any (a b : Nat) (ha : a < 4294967296) (w : World) : Calls Try.prog 14 #[.int .u32 (a : Int), .int .u32 (b : Int)] w fun e w' => e = .returned (.int .u32 (S.pls a b : Int)) ∧ w' = w := by
  have hD : IntKind.u32.wrap (4294967295 - (a : Int)) = ((4294967295 - a : Nat) : Int) := by rw [IntKind.wrap_u32]; omega
  unfold S.pls
  by_cases h : b < 4294967295 - a
  · have hE : IntKind.u32.wrap ((a : Int) + (b : Int)) = ((min (a + b) 4294967295 : Nat) : Int) := by rw [IntKind.wrap_u32]; omega
    have e : (b : Int) < ((4294967295 - a : Nat) : Int) := by omega
    have e' : ¬ ((4294967295 - a : Nat) : Int) < (b : Int) := by omega
    generalize ((4294967295 - a : Nat) : Int) = y at hD e e'
    generalize ((min (a + b) 4294967295 : Nat) : Int) = v at hE
    clear h ha
    generalize (a : Int) = x at hD hE
    generalize (b : Int) = z at e e' hE
    go_enter Try.func14, Try.ntmps14
    go_wp2
    go_ret
    exact ⟨rfl, rfl⟩
  · have hE : IntKind.u32.wrap ((a : Int) + ((4294967295 - a : Nat) : Int)) = ((min (a + b) 4294967295 : Nat) : Int) := by rw [IntKind.wrap_u32]; omega
    have e : ¬ (b : Int) < ((4294967295 - a : Nat) : Int) := by omega
    by_cases h' : b = 4294967295 - a
    · subst h'
      have e' : ¬ ((4294967295 - a : Nat) : Int) < ((4294967295 - a : Nat) : Int) := by omega
      generalize ((min (a + (4294967295 - a)) 4294967295 : Nat) : Int) = v at hE
      clear h ha
      generalize ((4294967295 - a : Nat) : Int) = y at hD e e' hE
      generalize (a : Int) = x at hD hE
      go_enter Try.func14, Try.ntmps14
      go_wp2
      go_ret
      exact ⟨rfl, rfl⟩
    · have e' : ((4294967295 - a : Nat) : Int) < (b : Int) := by omega
      generalize ((min (a + b) 4294967295 : Nat) : Int) = v at hE
      generalize ((4294967295 - a : Nat) : Int) = y at hD e e' hE
      clear h h' ha
      generalize (a : Int) = x at hD hE
      generalize (b : Int) = z at e e'
      go_enter Try.func14, Try.ntmps14
      go_wp2
      go_ret
      exact ⟨rfl, rfl⟩
set_option maxRecDepth 100000 in
theorem rplus_any (a b : Nat) (ha : a < 4294967296) (hb : b < 4294967296) (w : World) : Calls Try.prog 15 #[.int .u32 (a : Int), .int .u32 (b : Int)] w fun e w' => e = .returned (.int .u32 (S.pls a b : Int)) ∧ w' = w := by
  have ha1 : IntKind.u64.wrap (a : Int) = (a : Int) := by rw [IntKind.wrap_u64]; omega
  have hb1 : IntKind.u64.wrap (b : Int) = (b : Int) := by rw [IntKind.wrap_u64]; omega
  have hs : IntKind.u64.wrap ((a : Int) + (b : Int)) = ((a + b : Nat) : Int) := by rw [IntKind.wrap_u64]; omega
  unfold S.pls
  have hv : IntKind.u32.wrap ((min (a + b) 4294967295 : Nat) : Int) = ((min (a + b) 4294967295 : Nat) : Int) := by rw [IntKind.wrap_u32]; omega
  by_cases h : a + b < 4294967295
  · rw [show min (a + b) 4294967295 = a + b from by omega] at hv ⊢
    have e : ((a + b : Nat) : Int) < 4294967295 := by omega
    have e' : ¬ (4294967295 : Int) < ((a + b : Nat) : Int) := by omega
    generalize ((a + b : Nat) : Int) = y at hs hv e e'
    clear h ha hb
    generalize (a : Int) = x at ha1 hs
    generalize (b : Int) = z at hb1 hs
    go_enter Try.func15, Try.ntmps15
    go_wp2
    go_ret
    exact ⟨rfl, rfl⟩
  · rw [show min (a + b) 4294967295 = 4294967295 from by omega] at hv ⊢
    have e : ¬ ((a + b : Nat) : Int) < 4294967295 := by omega
    generalize ((a + b : Nat) : Int) = y at hs e
    clear h ha hb
    generalize (a : Int) = x at ha1 hs
    generalize (b : Int) = z at hb1 hs
    by_cases e' : (4294967295 : Int) < y
    · go_enter Try.func15, Try.ntmps15
      go_wp2
      go_ret
      exact ⟨rfl, rfl⟩
    · obtain rfl : y = 4294967295 := by omega
      go_enter Try.func15, Try.ntmps15
      go_wp2
      go_ret
      exact ⟨rfl, rfl⟩
set_option maxRecDepth 100000 in
theorem due_any (a b : Nat) (w : World) : Calls Try.prog 16 #[.int .u32 (a : Int), .int .u32 (b : Int)] w fun e w' => e = .returned (.bool (decide (b ≤ a))) ∧ w' = w := by
  have h : decide (b ≤ a) = decide ((b : Int) ≤ (a : Int)) := decide_eq_decide.2 (by omega)
  rw [h]
  generalize (a : Int) = x
  generalize (b : Int) = z
  go_enter Try.func16, Try.ntmps16
  go_wp2
  go_ret
  exact ⟨rfl, rfl⟩
end Go.Proofs.Ytadnjfdjdnlomaa
