/- base.digitValue, signetref1.value: what a digit stands for. -/
import Derived.Test.YtffggdjmhgialaaBytes
namespace Go.Proofs.Ytffggdjmhgialaa
open Go.RowKit
namespace B
def dval (x : Nat) : Nat := if 48 ≤ x ∧ x ≤ 57 then x - 48 else if 97 ≤ x ∧ x ≤ 122 then x - 87 else if 65 ≤ x ∧ x ≤ 90 then x - 55 else 99
theorem dval_cases (x : Nat) : (48 ≤ x ∧ x ≤ 57 ∧ dval x = x - 48) ∨ (97 ≤ x ∧ x ≤ 122 ∧ dval x = x - 87) ∨ (65 ≤ x ∧ x ≤ 90 ∧ dval x = x - 55) ∨ ((x < 48 ∨ (57 < x ∧ x < 65) ∨ (90 < x ∧ x < 97) ∨ 122 < x) ∧ dval x = 99) := by
  unfold dval
  by_cases h1 : 48 ≤ x ∧ x ≤ 57
  · left; rw [if_pos h1]; exact ⟨h1.1, h1.2, rfl⟩
  · rw [if_neg h1]
    by_cases h2 : 97 ≤ x ∧ x ≤ 122
    · right; left; rw [if_pos h2]; exact ⟨h2.1, h2.2, rfl⟩
    · rw [if_neg h2]
      by_cases h3 : 65 ≤ x ∧ x ≤ 90
      · right; right; left; rw [if_pos h3]; exact ⟨h3.1, h3.2, rfl⟩
      · rw [if_neg h3]; right; right; right; exact ⟨by omega, rfl⟩
theorem dval_high {x : Nat} (h : 122 < x) : dval x = 99 := by
  rcases dval_cases x with h1 | h1 | h1 | h1 <;> omega
end B
theorem digit_yes (r d : Nat) (w : World) (h : Hid (B.dval r = d)) (hd : d < 99) (hr : r ≤ 2147483647) :
    Calls Try.prog 25 #[.int .i32 (r : Int)] w fun e w' => e = .returned (.tuple #[.int .u64 (d : Int), .bool true]) ∧ w' = w := by
  have hh := h.out
  have h4 := B.dval_cases r
  rw [hh] at h4
  clear h hh
  rcases h4 with ⟨h1, h2, h3⟩ | ⟨h1, h2, h3⟩ | ⟨h1, h2, h3⟩ | ⟨h1, h3⟩
  · subst h3
    go_enter Try.func25, Try.ntmps25
    go_wp2
    go_ret2
    exact ⟨by rw [show ((r - 48 : Nat) : Int) = (r : Int) - 48 by omega] <;> rfl, rfl⟩
  · subst h3
    go_enter Try.func25, Try.ntmps25
    go_wp2
    go_ret2
    exact ⟨by rw [show ((r - 87 : Nat) : Int) = (r : Int) - 97 + 10 by omega] <;> rfl, rfl⟩
  · subst h3
    go_enter Try.func25, Try.ntmps25
    go_wp2
    go_ret2
    exact ⟨by rw [show ((r - 55 : Nat) : Int) = (r : Int) - 65 + 10 by omega] <;> rfl, rfl⟩
  · omega
theorem digit_no (r : Nat) (w : World) (h : Hid (B.dval r = 99)) (hr : r ≤ 2147483647) :
    Calls Try.prog 25 #[.int .i32 (r : Int)] w fun e w' => e = .returned (.tuple #[.int .u64 0, .bool false]) ∧ w' = w := by
  have hh := h.out
  have h4 := B.dval_cases r
  rw [hh] at h4
  clear h hh
  rcases h4 with ⟨h1, h2, h3⟩ | ⟨h1, h2, h3⟩ | ⟨h1, h2, h3⟩ | ⟨h1 | h1 | h1 | h1, h3⟩
  · omega
  · omega
  · omega
  all_goals
    clear h3
    go_enter Try.func25, Try.ntmps25
    go_wp2
    go_ret2
    exact ⟨rfl, rfl⟩
theorem value_yes (r d : Nat) (w : World) (h : Hid (B.dval r = d)) (hd : d < 32) (hr : r ≤ 255) :
    Calls Try.prog 21 #[.int .u8 (r : Int)] w fun e w' => e = .returned (.int .i64 (d : Int)) ∧ w' = w := by
  have hh := h.out
  have h4 := B.dval_cases r
  rw [hh] at h4
  clear h hh
  rcases h4 with ⟨h1, h2, h3⟩ | ⟨h1, h2, h3⟩ | ⟨h1, h2, h3⟩ | ⟨h1, h3⟩
  · subst h3
    go_enter Try.func21, Try.ntmps21
    go_wp2
    go_ret
    exact ⟨by rw [show ((r - 48 : Nat) : Int) = (r : Int) - 48 by omega] <;> rfl, rfl⟩
  · subst h3
    go_enter Try.func21, Try.ntmps21
    go_wp2
    go_ret
    exact ⟨by rw [show ((r - 87 : Nat) : Int) = (r : Int) - 97 + 10 by omega] <;> rfl, rfl⟩
  · subst h3
    go_enter Try.func21, Try.ntmps21
    go_wp2
    go_ret
    exact ⟨by rw [show ((r - 55 : Nat) : Int) = (r : Int) - 65 + 10 by omega] <;> rfl, rfl⟩
  · omega
theorem value_no (r : Nat) (w : World) (h : Hid (32 ≤ B.dval r)) (hr : r ≤ 255) :
    Calls Try.prog 21 #[.int .u8 (r : Int)] w fun e w' => e = .returned (.int .i64 (-1)) ∧ w' = w := by
  have hh := h.out
  have h4 := B.dval_cases r
  have h5 : r < 48 ∨ (57 < r ∧ r < 65) ∨ (86 < r ∧ r < 97) ∨ 118 < r := by omega
  clear h hh h4
  rcases h5 with h1 | h1 | h1 | h1
  all_goals
    go_enter Try.func21, Try.ntmps21
    go_wp2
    go_ret
    exact ⟨rfl, rfl⟩
end Go.Proofs.Ytffggdjmhgialaa
