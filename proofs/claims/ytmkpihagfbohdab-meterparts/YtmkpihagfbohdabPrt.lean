/- The law MeterParts. -/
import Derived.Test.YtmkpihagfbohdabKnw
namespace Go.Proofs.Ytmkpihagfbohdab
open Go.RowKit
namespace F
def nv (P v x : Nat) : Nat := if nan x then v else step P v x
def nk (k : Int) (x : Nat) : Int := if nan x then k else k + 1
set_option maxRecDepth 5000 in
theorem nv_lt {P v x : Nat} (hv : v < 2 ^ 64) (hx : x < 2 ^ 64) : nv P v x < 2 ^ 64 := by
  unfold nv; split
  · exact hv
  · exact step_lt hx
set_option maxRecDepth 5000 in
theorem nk_le (k : Int) (x : Nat) : k ≤ nk k x ∧ nk k x ≤ k + 1 := by unfold nk; split <;> omega
set_option maxRecDepth 5000 in
theorem nk_zero {P v x : Nat} {k : Int} (hk : 0 ≤ k) (hz : k = 0 → fin v = false) : nk k x = 0 → fin (nv P v x) = false := by
  unfold nk nv
  split
  · exact hz
  · intro h; omega
set_option maxRecDepth 5000 in
theorem part_one : part 4607182418800017408 = 4607182418800017408 := by kernel_rfl
end F
set_option maxRecDepth 5000 in
theorem fin_told : F.fin 9221120237041090561 = false := by kernel_rfl
set_option maxRecDepth 5000 in
theorem add_gen (g p v x : Nat) (n : Int) (w : World) (hR : RowAt w g 45 (lrow p v n)) (hp : F.fin p = true) (h0 : 0 < F.rung p) (hv : v < 2 ^ 64) (hn0 : 0 ≤ n) (hn : n < 4611686018427387904) :
    Calls Try.prog 7 #[.pointer (some ⟨g, 0, none⟩), .float .f64 x] w fun e w' => e = .returned (.tuple #[]) ∧ RowAt w' g 45 (lrow p (F.nv p v x) (F.nk n x)) ∧ Upd g w w' := by
  unfold F.nv F.nk
  cases hx : F.nan x
  · exact add_any g p v x n w hR hp h0 hv hx hn0 hn
  · exact (add_nan g x w hx).mono fun _ _ ⟨h1, h2⟩ => ⟨h1, by rw [h2]; exact hR, by rw [h2]; exact Upd.refl g w⟩
set_option maxRecDepth 5000 in
theorem radd_gen (g p v x : Nat) (n : Int) (w : World) (hR : RowAt w g 34 (lrow p v n)) (hp : F.fin p = true) (h0 : 0 < F.rung p) (hv : v < 2 ^ 64) (hn0 : 0 ≤ n) (hn : n < 4611686018427387904) (hz : n = 0 → F.fin v = false) :
    Calls Try.prog 9 #[.pointer (some ⟨g, 0, none⟩), .float .f64 x] w fun e w' => e = .returned (.tuple #[]) ∧ RowAt w' g 34 (lrow p (F.nv p v x) (F.nk n x)) ∧ Upd g w w' := by
  unfold F.nv F.nk
  cases hx : F.nan x
  · exact radd_any g p v x n w hR hp h0 hv hx hn0 hn hz
  · exact (radd_nan g x w hx).mono fun _ _ ⟨h1, h2⟩ => ⟨h1, by rw [h2]; exact hR, by rw [h2]; exact Upd.refl g w⟩
/- the same load in the program and in the reference -/
set_option maxRecDepth 5000 in
theorem parts_walk (p x y : Nat) (hp : p < 2 ^ 64) (hx : x < 2 ^ 64) (_hy : y < 2 ^ 64) (w : World) : Calls Try.prog 3 #[.int .u64 (p : Int), .int .u64 (x : Int), .int .u64 (y : Int)] w fun e w' => e = .returned (.bool true) ∧ Below w.heap.size w w' := by
  have hn := hnot
  have hKn := known_any w
  obtain ⟨P1, P2, P3⟩ := F.part_good hp
  have hN := new_any p
  have hQ : ∃ rp, F.part rp = F.part p ∧ ((((FloatKind.f64.format.order p 0 == some .gt) && (FloatKind.f64.format.order p 4607182418800017408 == some .lt || FloatKind.f64.format.order p 4607182418800017408 == some .eq)) = true ∧ rp = p) ∨ (((FloatKind.f64.format.order p 0 == some .gt) && (FloatKind.f64.format.order p 4607182418800017408 == some .lt || FloatKind.f64.format.order p 4607182418800017408 == some .eq)) = false ∧ rp = 4607182418800017408)) := by
    cases h : ((FloatKind.f64.format.order p 0 == some .gt) && (FloatKind.f64.format.order p 4607182418800017408 == some .lt || FloatKind.f64.format.order p 4607182418800017408 == some .eq))
    · exact ⟨4607182418800017408, by rw [F.part_one]; unfold F.part; rw [h]; rfl, Or.inr ⟨rfl, rfl⟩⟩
    · exact ⟨p, rfl, Or.inl ⟨rfl, rfl⟩⟩
  obtain ⟨rp, hrp, hcase⟩ := hQ
  have hN2 := rnew_any rp
  rw [hrp] at hN2
  clear hrp
  generalize F.part p = P at *
  have v1 : F.nv P 9221120237041090561 x < 2 ^ 64 := F.nv_lt (by decide) hx
  have k1 := F.nk_le 0 x
  have z1 := F.nk_zero (P := P) (v := 9221120237041090561) (x := x) (k := 0) (Int.le_refl _) (fun _ => fin_told)
  have hA1 : ∀ g W, RowAt W g 45 (lrow P 9221120237041090561 0) → _ := fun g W h => add_gen g P 9221120237041090561 x 0 W h P1 P2 (by decide) (by decide) (by decide)
  have hA2 : ∀ g W, RowAt W g 45 (lrow P (F.nv P 9221120237041090561 x) (F.nk 0 x)) → _ := fun g W h => add_gen g P (F.nv P 9221120237041090561 x) y (F.nk 0 x) W h P1 P2 v1 (by omega) (by omega)
  have hC1 : ∀ g W, RowAt W g 34 (lrow P 9221120237041090561 0) → _ := fun g W h => radd_gen g P 9221120237041090561 x 0 W h P1 P2 (by decide) (by decide) (by decide) (fun _ => fin_told)
  have hC2 : ∀ g W, RowAt W g 34 (lrow P (F.nv P 9221120237041090561 x) (F.nk 0 x)) → _ := fun g W h => radd_gen g P (F.nv P 9221120237041090561 x) y (F.nk 0 x) W h P1 P2 v1 (by omega) (by omega) z1
  clear v1 k1 z1
  generalize F.nv P (F.nv P 9221120237041090561 x) y = v2 at hA2 hC2
  generalize F.nk (F.nk 0 x) y = n2 at hA2 hC2
  generalize F.nv P 9221120237041090561 x = v1 at hA1 hA2 hC1 hC2
  generalize F.nk 0 x = n1 at hA1 hA2 hC1 hC2
  have ev : ((F.norm v2 : Int) == (F.norm v2 : Int)) = true := by simp
  have ek : (n2 == n2) = true := by simp
  rcases hcase with ⟨hc, rfl⟩ | ⟨hc, rfl⟩
  · simp only [Bool.and_eq_true] at hc
    obtain ⟨hc1, hc2⟩ := hc
    go_enter Try.func3, Try.ntmps3
    go_wp2_with (first | (go_at_call 4; refine hKn.mono ?_; rintro e w1 ⟨rfl, hB1⟩; clear hKn) | (go_at_call 5; refine (at_any _ _).mono ?_; rintro e w' ⟨rfl, hw⟩; rw [hw, Int.toNat_natCast]; clear hw w') | (go_at_call 6; refine (hN _).mono ?_; rintro e w2 ⟨rfl, hw⟩; have hR2 : RowAt w2 w1.heap.size 45 (lrow P 9221120237041090561 0) := (by rw [hw]; exact RowAt.new _ _ _); have hB2 : Below w.heap.size w w2 := (by rw [hw]; exact hB1.alloc hB1.size _); clear hw) | (go_at_call 7; have hk := hR2; clear hk; refine (hA1 _ _ hR2).mono ?_; rintro e w3 ⟨rfl, hR3, hU3⟩; have hB3 := hU3.below hB2 hB1.size; clear hR2 hU3 hB2) | (go_at_call 7; have hk := hR3; clear hk; refine (hA2 _ _ hR3).mono ?_; rintro e w4 ⟨rfl, hR4, hU4⟩; have hB4 := hU4.below hB3 hB1.size; clear hR3 hU4 hB3) | (go_at_call 8; refine (hN2 _).mono ?_; rintro e w5 ⟨rfl, hw⟩; have hQ5 : RowAt w5 w4.heap.size 34 (lrow P 9221120237041090561 0) := (by rw [hw]; exact RowAt.new _ _ _); have hR5 : RowAt w5 w1.heap.size 45 (lrow P v2 n2) := (by rw [hw]; exact hR4.alloc _); have hB5 : Below w.heap.size w w5 := (by rw [hw]; exact hB4.alloc hB4.size _); have hne := hR4.lt; have hz4 := hB4.size; clear hw hR4) | (go_at_call 9; have hk := hQ5; clear hk; refine (hC1 _ _ hQ5).mono ?_; rintro e w6 ⟨rfl, hQ6, hU6⟩; have hB6 := hU6.below hB5 hz4; have hR6 := hU6.row hR5 (by omega); clear hQ5 hU6 hB5 hR5) | (go_at_call 9; have hk := hQ6; clear hk; refine (hC2 _ _ hQ6).mono ?_; rintro e w7 ⟨rfl, hQ7, hU7⟩; have hB7 := hU7.below hB6 hz4; have hR7 := hU7.row hR6 (by omega); clear hQ6 hU7 hB6 hR6))
    have q1 : w7.cell? ⟨w4.heap.size, 1, none⟩ = some (.float .f64 v2) := hQ7.cell 1
    have q2 : w7.cell? ⟨w4.heap.size, 2, none⟩ = some (.int .i64 n2) := hQ7.cell 2
    have HR := hide hR7
    clear hR7 hQ7
    go_quiet (first | (go_at_call 11; exact Calls.quiet_of_same (value_any _ _ _ _ _ (HR.out.drewN _))) | (go_at_call 12; exact Calls.quiet_of_same (count_any _ _ _ _ _ (HR.out.drewN _))) | (go_at_call 10; exact Calls.quiet_of_same (same_any _ _ _)))
    go_wp2
    go_ret
    exact ⟨by first | rfl | (show Ending.returned (.bool ((F.norm v2 : Int) == (F.norm v2 : Int))) = _; rw [ev]), below_drewN hB7 nq⟩
  · cases hc1 : (FloatKind.f64.format.order p 0 == some .gt)
    · clear hc
      go_enter Try.func3, Try.ntmps3
      go_wp2_with (first | (go_at_call 4; refine hKn.mono ?_; rintro e w1 ⟨rfl, hB1⟩; clear hKn) | (go_at_call 5; refine (at_any _ _).mono ?_; rintro e w' ⟨rfl, hw⟩; rw [hw, Int.toNat_natCast]; clear hw w') | (go_at_call 6; refine (hN _).mono ?_; rintro e w2 ⟨rfl, hw⟩; have hR2 : RowAt w2 w1.heap.size 45 (lrow P 9221120237041090561 0) := (by rw [hw]; exact RowAt.new _ _ _); have hB2 : Below w.heap.size w w2 := (by rw [hw]; exact hB1.alloc hB1.size _); clear hw) | (go_at_call 7; have hk := hR2; clear hk; refine (hA1 _ _ hR2).mono ?_; rintro e w3 ⟨rfl, hR3, hU3⟩; have hB3 := hU3.below hB2 hB1.size; clear hR2 hU3 hB2) | (go_at_call 7; have hk := hR3; clear hk; refine (hA2 _ _ hR3).mono ?_; rintro e w4 ⟨rfl, hR4, hU4⟩; have hB4 := hU4.below hB3 hB1.size; clear hR3 hU4 hB3) | (go_at_call 8; refine (hN2 _).mono ?_; rintro e w5 ⟨rfl, hw⟩; have hQ5 : RowAt w5 w4.heap.size 34 (lrow P 9221120237041090561 0) := (by rw [hw]; exact RowAt.new _ _ _); have hR5 : RowAt w5 w1.heap.size 45 (lrow P v2 n2) := (by rw [hw]; exact hR4.alloc _); have hB5 : Below w.heap.size w w5 := (by rw [hw]; exact hB4.alloc hB4.size _); have hne := hR4.lt; have hz4 := hB4.size; clear hw hR4) | (go_at_call 9; have hk := hQ5; clear hk; refine (hC1 _ _ hQ5).mono ?_; rintro e w6 ⟨rfl, hQ6, hU6⟩; have hB6 := hU6.below hB5 hz4; have hR6 := hU6.row hR5 (by omega); clear hQ5 hU6 hB5 hR5) | (go_at_call 9; have hk := hQ6; clear hk; refine (hC2 _ _ hQ6).mono ?_; rintro e w7 ⟨rfl, hQ7, hU7⟩; have hB7 := hU7.below hB6 hz4; have hR7 := hU7.row hR6 (by omega); clear hQ6 hU7 hB6 hR6))
      have q1 : w7.cell? ⟨w4.heap.size, 1, none⟩ = some (.float .f64 v2) := hQ7.cell 1
      have q2 : w7.cell? ⟨w4.heap.size, 2, none⟩ = some (.int .i64 n2) := hQ7.cell 2
      have HR := hide hR7
      clear hR7 hQ7
      go_quiet (first | (go_at_call 11; exact Calls.quiet_of_same (value_any _ _ _ _ _ (HR.out.drewN _))) | (go_at_call 12; exact Calls.quiet_of_same (count_any _ _ _ _ _ (HR.out.drewN _))) | (go_at_call 10; exact Calls.quiet_of_same (same_any _ _ _)))
      go_wp2
      go_ret
      exact ⟨by first | rfl | (show Ending.returned (.bool ((F.norm v2 : Int) == (F.norm v2 : Int))) = _; rw [ev]), below_drewN hB7 nq⟩
    · rw [hc1, Bool.true_and] at hc
      go_enter Try.func3, Try.ntmps3
      go_wp2_with (first | (go_at_call 4; refine hKn.mono ?_; rintro e w1 ⟨rfl, hB1⟩; clear hKn) | (go_at_call 5; refine (at_any _ _).mono ?_; rintro e w' ⟨rfl, hw⟩; rw [hw, Int.toNat_natCast]; clear hw w') | (go_at_call 6; refine (hN _).mono ?_; rintro e w2 ⟨rfl, hw⟩; have hR2 : RowAt w2 w1.heap.size 45 (lrow P 9221120237041090561 0) := (by rw [hw]; exact RowAt.new _ _ _); have hB2 : Below w.heap.size w w2 := (by rw [hw]; exact hB1.alloc hB1.size _); clear hw) | (go_at_call 7; have hk := hR2; clear hk; refine (hA1 _ _ hR2).mono ?_; rintro e w3 ⟨rfl, hR3, hU3⟩; have hB3 := hU3.below hB2 hB1.size; clear hR2 hU3 hB2) | (go_at_call 7; have hk := hR3; clear hk; refine (hA2 _ _ hR3).mono ?_; rintro e w4 ⟨rfl, hR4, hU4⟩; have hB4 := hU4.below hB3 hB1.size; clear hR3 hU4 hB3) | (go_at_call 8; refine (hN2 _).mono ?_; rintro e w5 ⟨rfl, hw⟩; have hQ5 : RowAt w5 w4.heap.size 34 (lrow P 9221120237041090561 0) := (by rw [hw]; exact RowAt.new _ _ _); have hR5 : RowAt w5 w1.heap.size 45 (lrow P v2 n2) := (by rw [hw]; exact hR4.alloc _); have hB5 : Below w.heap.size w w5 := (by rw [hw]; exact hB4.alloc hB4.size _); have hne := hR4.lt; have hz4 := hB4.size; clear hw hR4) | (go_at_call 9; have hk := hQ5; clear hk; refine (hC1 _ _ hQ5).mono ?_; rintro e w6 ⟨rfl, hQ6, hU6⟩; have hB6 := hU6.below hB5 hz4; have hR6 := hU6.row hR5 (by omega); clear hQ5 hU6 hB5 hR5) | (go_at_call 9; have hk := hQ6; clear hk; refine (hC2 _ _ hQ6).mono ?_; rintro e w7 ⟨rfl, hQ7, hU7⟩; have hB7 := hU7.below hB6 hz4; have hR7 := hU7.row hR6 (by omega); clear hQ6 hU7 hB6 hR6))
      have q1 : w7.cell? ⟨w4.heap.size, 1, none⟩ = some (.float .f64 v2) := hQ7.cell 1
      have q2 : w7.cell? ⟨w4.heap.size, 2, none⟩ = some (.int .i64 n2) := hQ7.cell 2
      have HR := hide hR7
      clear hR7 hQ7
      go_quiet (first | (go_at_call 11; exact Calls.quiet_of_same (value_any _ _ _ _ _ (HR.out.drewN _))) | (go_at_call 12; exact Calls.quiet_of_same (count_any _ _ _ _ _ (HR.out.drewN _))) | (go_at_call 10; exact Calls.quiet_of_same (same_any _ _ _)))
      go_wp2
      go_ret
      exact ⟨by first | rfl | (show Ending.returned (.bool ((F.norm v2 : Int) == (F.norm v2 : Int))) = _; rw [ev]), below_drewN hB7 nq⟩
end Go.Proofs.Ytmkpihagfbohdab
