/- signethelp.Place. -/
import Derived.Test.YtpgebiopckmgbabGreatMsg
import Derived.Test.YtpgebiopckmgbabGreatRda
namespace Go.Proofs.YtpgebiopckmgbabGreat
open Go.RowKit
set_option maxRecDepth 5000 in
theorem place_any (k : Int) (n : Nat) (w : World) (h0 : 0 < n) (hn : n < 1000000) : Calls Tryz.prog 9 #[.int .i64 k, .int .i64 (n : Int)] w fun e w' => ∃ r : Nat, r < n ∧ e = .returned (.int .i64 (r : Int)) ∧ w' = w := by
  have e1 : Int.tmod k (n : Int) < (n : Int) := Int.tmod_lt_of_pos k (by omega)
  have e2 : -(n : Int) < Int.tmod k (n : Int) := by
    have h3 := Int.natAbs_tmod k (n : Int)
    have h4 : k.natAbs % (n : Int).natAbs < n := by rw [Int.natAbs_natCast]; exact Nat.mod_lt _ h0
    omega
  have hnz : ¬ ((n : Int) = 0) := by omega
  have hn1 : ¬ ((n : Int) = -1) := by omega
  obtain ⟨t, ht⟩ : ∃ t, Int.tmod k (n : Int) = t := ⟨_, rfl⟩
  rw [ht] at e1 e2
  have hw : IntKind.i64.wrap t = t := by rw [IntKind.wrap_i64]; omega
  by_cases h1 : t < 0
  · have q : decide (t < 0) = true := by simpa using h1
    obtain ⟨r, hr⟩ : ∃ r : Nat, t + (n : Int) = (r : Int) := ⟨(t + n).toNat, by omega⟩
    have hr2 : r < n := by omega
    have hw2 : IntKind.i64.wrap (t + (n : Int)) = (r : Int) := by rw [IntKind.wrap_i64]; omega
    clear hr
    go_enter Tryz.func9, Tryz.ntmps9
    go_wp2
    go_ret
    exact ⟨r, hr2, rfl, rfl⟩
  · have q : decide (t < 0) = false := by simpa using h1
    obtain ⟨r, rfl⟩ : ∃ r : Nat, t = (r : Int) := ⟨t.toNat, by omega⟩
    go_enter Tryz.func9, Tryz.ntmps9
    go_wp2
    go_ret
    exact ⟨r, by omega, rfl, rfl⟩
end Go.Proofs.YtpgebiopckmgbabGreat
