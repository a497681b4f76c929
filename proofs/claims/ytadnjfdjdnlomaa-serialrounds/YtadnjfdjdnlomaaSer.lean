/- Package serial and the reference's answers, walked: each call answers a number, and leaves the world as it was. -/
import Derived.Test.YtadnjfdjdnlomaaChecked
import Derived.WalkKit
import Derived.WalkLawsBesides
namespace Go.Proofs.Ytadnjfdjdnlomaa
open Go.RowKit
set_option maxRecDepth 5000 in
theorem w32_add (a b : Nat) : IntKind.u32.wrap ((a : Int) + (b : Int)) = (((a + b) % 4294967296 : Nat) : Int) := by rw [IntKind.wrap_u32]; omega
set_option maxRecDepth 5000 in
theorem w32_sub (a b : Nat) (hb : b < 4294967296) : IntKind.u32.wrap ((a : Int) - (b : Int)) = (((a + (4294967296 - b)) % 4294967296 : Nat) : Int) := by rw [IntKind.wrap_u32]; omega
namespace S
def dif (a b : Nat) : Nat := (a + (4294967296 - b)) % 4294967296
def cmp (a b : Nat) : Int := if dif a b = 0 then 0 else if dif a b = 2147483648 then 0 else if dif a b < 2147483648 then 1 else -1
def tld (a b : Nat) : Bool := !decide (dif a b = 2147483648)
def add (a n : Nat) : Nat := if 2147483648 ≤ n then a else (a + n) % 4294967296
def nxt (a : Nat) : Nat := if a = 4294967295 then 1 else a + 1
def pls (a b : Nat) : Nat := min (a + b) 4294967295
end S
set_option maxRecDepth 100000 in
theorem compare_any (a b : Nat) (hb : b < 4294967296) (w : World) : Calls Try.prog 8 #[.int .u32 (a : Int), .int .u32 (b : Int)] w fun e w' => e = .returned (.tuple #[.int .i64 (S.cmp a b), .bool (S.tld a b)]) ∧ w' = w := by
  have hD := w32_sub a b hb
  have hl : S.dif a b < 4294967296 := by unfold S.dif; omega
  unfold S.cmp S.tld
  rw [show (a + (4294967296 - b)) % 4294967296 = S.dif a b from rfl] at hD
  generalize S.dif a b = D at hD hl
  by_cases h0 : D = 0
  · subst h0
    go_enter Try.func8, Try.ntmps8
    go_wp2
    go_ret2
    exact ⟨by simp, rfl⟩
  · by_cases h1 : D = 2147483648
    · subst h1
      go_enter Try.func8, Try.ntmps8
      go_wp2
      go_ret2
      exact ⟨by simp, rfl⟩
    · rw [if_neg h0, if_neg h1, decide_eq_false h1]
      have e0 : ¬ (D : Int) = 0 := by omega
      have e1 : ¬ (D : Int) = 2147483648 := by omega
      by_cases h2 : D < 2147483648
      · rw [if_pos h2]
        have e2 : (D : Int) < 2147483648 := by omega
        clear h0 h1 h2 hl
        generalize (D : Int) = z at hD e0 e1 e2
        go_enter Try.func8, Try.ntmps8
        go_wp2
        go_ret2
        exact ⟨rfl, rfl⟩
      · rw [if_neg h2]
        have e2 : ¬ (D : Int) < 2147483648 := by omega
        clear h0 h1 h2 hl
        generalize (D : Int) = z at hD e0 e1 e2
        go_enter Try.func8, Try.ntmps8
        go_wp2
        go_ret2
        exact ⟨rfl, rfl⟩
end Go.Proofs.Ytadnjfdjdnlomaa
