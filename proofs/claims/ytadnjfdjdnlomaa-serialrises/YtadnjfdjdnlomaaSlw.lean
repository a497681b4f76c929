/- The laws of layer 13, walked: known, SerialCounts, SerialRises, SerialTimes. -/
import Derived.Test.YtadnjfdjdnlomaaSr2
namespace Go.Proofs.Ytadnjfdjdnlomaa
open Go.RowKit
set_option maxRecDepth 5000 in
theorem known_c1 (w : World) : Calls Try.prog 8 #[.int .u32 4294967295, .int .u32 0] w fun e w' => e = .returned (.tuple #[.int .i64 (-1), .bool true]) ∧ w' = w := compare_any 4294967295 0 (by omega) w
set_option maxRecDepth 5000 in
theorem known_c2 (w : World) : Calls Try.prog 8 #[.int .u32 0, .int .u32 2147483648] w fun e w' => e = .returned (.tuple #[.int .i64 0, .bool false]) ∧ w' = w := compare_any 0 2147483648 (by omega) w
set_option maxRecDepth 5000 in
theorem known_a (w : World) : Calls Try.prog 10 #[.int .u32 4294967295, .int .u32 2] w fun e w' => e = .returned (.tuple #[.int .u32 1, .bool true]) ∧ w' = w := add_any 4294967295 2 w
set_option maxRecDepth 5000 in
theorem known_n (w : World) : Calls Try.prog 12 #[.int .u32 4294967295] w fun e w' => e = .returned (.int .u32 1) ∧ w' = w := next_any 4294967295 (by omega) w
set_option maxRecDepth 5000 in
theorem known_p (w : World) : Calls Try.prog 14 #[.int .u32 4294967294, .int .u32 9] w fun e w' => e = .returned (.int .u32 4294967295) ∧ w' = w := plus_any 4294967294 9 (by omega) w
set_option maxRecDepth 5000 in
theorem known_d (w : World) : Calls Try.prog 16 #[.int .u32 5, .int .u32 5] w fun e w' => e = .returned (.bool true) ∧ w' = w := due_any 5 5 w
set_option maxRecDepth 100000 in
theorem known_any (w : World) : Calls Try.prog 7 #[] w fun e w' => e = .returned (.bool true) ∧ w' = w := by
  have hT : True := trivial
  go_enter Try.func7, Try.ntmps7
  go_wp2_with (first
    | (go_at_call 8; have hk := hT; clear hk hT; refine (known_c1 _).mono ?_; rintro e w' ⟨rfl, hw⟩; rw [hw]; clear hw w')
    | (go_at_call 8; refine (known_c2 _).mono ?_; rintro e w' ⟨rfl, hw⟩; rw [hw]; clear hw w')
    | (go_at_call 10; refine (known_a _).mono ?_; rintro e w' ⟨rfl, hw⟩; rw [hw]; clear hw w')
    | (go_at_call 12; refine (known_n _).mono ?_; rintro e w' ⟨rfl, hw⟩; rw [hw]; clear hw w')
    | (go_at_call 14; refine (known_p _).mono ?_; rintro e w' ⟨rfl, hw⟩; rw [hw]; clear hw w')
    | (go_at_call 16; refine (known_d _).mono ?_; rintro e w' ⟨rfl, hw⟩; rw [hw]; clear hw w'))
  go_ret
  exact ⟨rfl, rfl⟩
set_option maxRecDepth 100000 in
theorem counts_walk (a b : Nat) (ha : a < 4294967296) (hb : b < 4294967296) (w : World) : Calls Try.prog 3 #[.int .u32 (a : Int), .int .u32 (b : Int)] w fun e w' => e = .returned (.bool true) ∧ Below w.heap.size w w' := by
  have c1 := compare_any a b hb w
  have c2 := rcompare_any a b ha hb w
  have c3 := add_any a b w
  have c4 := rsum_any a b w
  have c5 := next_any a ha w
  have c6 := rnext_any a ha w
  have c7 := plus_any a b ha w
  have c8 := rplus_any a b ha hb w
  have c9 := due_any a b w
  rw [show decide (b ≤ a) = decide ((b : Int) ≤ (a : Int)) from decide_eq_decide.2 (by omega)] at c9
  generalize S.cmp a b = x1 at c1 c2
  generalize S.tld a b = x2 at c1 c2
  generalize (S.add a b : Int) = x3 at c3 c4
  generalize decide (b < 2147483648) = x4 at c3 c4
  generalize (S.nxt a : Int) = x5 at c5 c6
  generalize (S.pls a b : Int) = x6 at c7 c8
  clear ha hb
  generalize (a : Int) = A at c1 c2 c3 c4 c5 c6 c7 c8 c9
  generalize (b : Int) = B at c1 c2 c3 c4 c7 c8 c9
  go_enter Try.func3, Try.ntmps3
  go_wp2_with (first
    | (go_at_call 7; refine (known_any _).mono ?_; rintro e w' ⟨rfl, hw⟩; rw [hw]; clear hw w')
    | (go_at_call 8; refine c1.mono ?_; rintro e w' ⟨rfl, hw⟩; rw [hw]; clear hw w')
    | (go_at_call 9; refine c2.mono ?_; rintro e w' ⟨rfl, hw⟩; rw [hw]; clear hw w')
    | (go_at_call 10; refine c3.mono ?_; rintro e w' ⟨rfl, hw⟩; rw [hw]; clear hw w')
    | (go_at_call 11; refine c4.mono ?_; rintro e w' ⟨rfl, hw⟩; rw [hw]; clear hw w')
    | (go_at_call 12; refine c5.mono ?_; rintro e w' ⟨rfl, hw⟩; rw [hw]; clear hw w')
    | (go_at_call 13; refine c6.mono ?_; rintro e w' ⟨rfl, hw⟩; rw [hw]; clear hw w')
    | (go_at_call 14; refine c7.mono ?_; rintro e w' ⟨rfl, hw⟩; rw [hw]; clear hw w')
    | (go_at_call 15; refine c8.mono ?_; rintro e w' ⟨rfl, hw⟩; rw [hw]; clear hw w')
    | (go_at_call 16; refine c9.mono ?_; rintro e w' ⟨rfl, hw⟩; rw [hw]; clear hw w'))
  go_ret
  exact ⟨by simp, Below.refl _ _⟩
end Go.Proofs.Ytadnjfdjdnlomaa
