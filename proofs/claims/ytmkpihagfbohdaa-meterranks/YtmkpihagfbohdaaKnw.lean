/- known: the chapter's examples. -/
import Derived.Test.YtmkpihagfbohdaaSrt
namespace Go.Proofs.Ytmkpihagfbohdaa
open Go.RowKit
set_option maxRecDepth 5000 in
theorem copysign_neg (w : World) : Calls Try.prog 29 #[.float .f64 0, .float .f64 13830554455654793216] w fun e w' => e = .returned (.float .f64 9223372036854775808) ∧ w' = w := by
  have b1 := run_tobits 0
  have b2 := run_tobits 13830554455654793216
  have c1 : Go.bits .andNot .u64 0 9223372036854775808 = 0 := by kernel_rfl
  have c2 : Go.bits .and .u64 13830554455654793216 9223372036854775808 = 9223372036854775808 := by kernel_rfl
  have c3 : Go.bits .or .u64 0 9223372036854775808 = 9223372036854775808 := by kernel_rfl
  have hf := run_frombits 9223372036854775808
  go_enter Try.func29, Try.ntmps29
  go_wp2
  go_ret
  exact ⟨rfl, rfl⟩
namespace F
set_option maxRecDepth 5000 in
theorem k_part : part 4602678819172646912 = 4602678819172646912 := by kernel_rfl
set_option maxRecDepth 5000 in
theorem k_fin : fin 4602678819172646912 = true := by kernel_rfl
set_option maxRecDepth 5000 in
theorem k_step1 : step 4602678819172646912 9221120237041090561 4607182418800017408 = 4607182418800017408 := by kernel_rfl
set_option maxRecDepth 5000 in
theorem k_step2 : step 4602678819172646912 4607182418800017408 4613937818241073152 = 4611686018427387904 := by kernel_rfl
set_option maxRecDepth 5000 in
theorem k_mean : norm (mean [4607182418800017408, 4613937818241073152]) = 4611686018427387904 := by kernel_rfl
set_option maxRecDepth 5000 in
theorem k_cmp : cmp 9223372036854775808 0 = -1 := by kernel_rfl
set_option maxRecDepth 5000 in
theorem k_nums : nums [4617315517961601024, 4607182418800017408] = [4617315517961601024, 4607182418800017408] := by kernel_rfl
set_option maxRecDepth 5000 in
theorem k_plc : plc 4602678819172646912 2 = 1 := by kernel_rfl
set_option maxRecDepth 5000 in
theorem k_small : Small [4617315517961601024, 4607182418800017408] := fun x hx => by
  simp only [List.mem_cons, List.not_mem_nil, or_false] at hx
  omega
set_option maxRecDepth 5000 in
theorem k_srt : srt [4617315517961601024, 4607182418800017408] = [4607182418800017408, 4617315517961601024] := by
  refine (srt_only k_small ?_ ?_).symm
  · rw [k_nums]; exact List.Perm.swap _ _ _
  · refine List.pairwise_cons.2 ⟨fun x hx => ?_, List.pairwise_singleton _ _⟩
    simp only [List.mem_cons, List.not_mem_nil, or_false] at hx
    subst hx
    rw [show okey 4607182418800017408 = 4607182418800017408 by kernel_rfl, show okey 4617315517961601024 = 4617315517961601024 by kernel_rfl]; decide
set_option maxRecDepth 5000 in
theorem k_rank : rank [4617315517961601024, 4607182418800017408] 4602678819172646912 = 4617315517961601024 := by
  unfold rank
  rw [k_nums, k_srt, if_neg (by decide)]
  show List.getD _ (plc 4602678819172646912 2) 0 = _
  rw [k_plc]; rfl
set_option maxRecDepth 5000 in
theorem k_norm : norm 4607182418800017408 = 4607182418800017408 := by kernel_rfl
set_option maxRecDepth 5000 in
theorem k_e2 : (FloatKind.f64.format.order 4611686018427387904 4611686018427387904 == some .eq) = true := by kernel_rfl
set_option maxRecDepth 5000 in
theorem k_e5 : (FloatKind.f64.format.order 4617315517961601024 4617315517961601024 == some .eq) = true := by kernel_rfl
end F
set_option maxHeartbeats 1000000 in
set_option maxRecDepth 5000 in
theorem known_any (w : World) : Calls Try.prog 9 #[] w fun e w' => e = .returned (.bool true) ∧ Below w.heap.size w w' := by
  have e2 := F.k_e2
  have e5 := F.k_e5
  have hN := new_any 4602678819172646912 w
  rw [F.k_part] at hN
  have hA1 : ∀ W, RowAt W w.heap.size 61 (lrow 4602678819172646912 9221120237041090561 0) → Calls Try.prog 25 #[.pointer (some ⟨w.heap.size, 0, none⟩), .float .f64 4607182418800017408] W fun e w' => e = .returned (.tuple #[]) ∧ RowAt w' w.heap.size 61 (lrow 4602678819172646912 4607182418800017408 1) ∧ Upd w.heap.size W w' := fun W hR => by
    have h := add_any w.heap.size 4602678819172646912 9221120237041090561 4607182418800017408 0 W hR F.k_fin (by decide) (by decide) (by kernel_rfl) (by decide) (by decide)
    rw [F.k_step1] at h; exact h
  have hA2 : ∀ W, RowAt W w.heap.size 61 (lrow 4602678819172646912 4607182418800017408 1) → Calls Try.prog 25 #[.pointer (some ⟨w.heap.size, 0, none⟩), .float .f64 4613937818241073152] W fun e w' => e = .returned (.tuple #[]) ∧ RowAt w' w.heap.size 61 (lrow 4602678819172646912 4611686018427387904 2) ∧ Upd w.heap.size W w' := fun W hR => by
    have h := add_any w.heap.size 4602678819172646912 4607182418800017408 4613937818241073152 1 W hR F.k_fin (by decide) (by decide) (by kernel_rfl) (by decide) (by decide)
    rw [F.k_step2] at h; exact h
  have hO := order_any 9223372036854775808 0 (by decide) (by decide)
  rw [F.k_cmp] at hO
  have hM : ∀ W : World, Calls Try.prog 17 #[.slice (some ⟨W.heap.size, 0, none⟩) 2 2] (W.alloc (.cells #[.float .f64 4607182418800017408, .float .f64 4613937818241073152] 25)) fun e w' => e = .returned (.float .f64 4611686018427387904) ∧ ∃ q, w' = (W.alloc (.cells #[.float .f64 4607182418800017408, .float .f64 4613937818241073152] 25)).drewN q := fun W => by
    have h := mean_any [4607182418800017408, 4613937818241073152] (some ⟨W.heap.size, 0, none⟩) 2 2 (W.alloc (.cells #[.float .f64 4607182418800017408, .float .f64 4613937818241073152] 25)) (hide rfl) (SlF.litm W _ _ _ _ rfl) (by decide)
    rw [F.k_mean] at h; exact h
  have hK : ∀ W : World, Calls Try.prog 19 #[.slice (some ⟨W.heap.size, 0, none⟩) 2 2, .float .f64 4602678819172646912] (W.alloc (.cells #[.float .f64 4617315517961601024, .float .f64 4607182418800017408] 25)) fun e w' => e = .returned (.float .f64 4617315517961601024) ∧ Below W.heap.size W w' := fun W => by
    have h := rank_any [4617315517961601024, 4607182418800017408] 4602678819172646912 (some ⟨W.heap.size, 0, none⟩) 2 2 (W.alloc (.cells #[.float .f64 4617315517961601024, .float .f64 4607182418800017408] 25)) (hide rfl) (SlF.litm W _ _ _ _ rfl) (Or.inr ⟨_, _, rfl⟩) F.k_small (by decide) (by decide)
    rw [F.k_rank] at h
    refine h.mono fun _ _ ⟨h1, h2⟩ => ⟨h1, ?_⟩
    have hb : Below W.heap.size W (W.alloc (.cells #[.float .f64 4617315517961601024, .float .f64 4607182418800017408] 25)) := (Below.refl W.heap.size W).alloc (Nat.le_refl _) _
    exact hb.trans (h2.mono (by simp))
  have hBt := bits_any 4607182418800017408
  rw [F.k_norm] at hBt
  go_enter Try.func9, Try.ntmps9
  go_wp2_with (go_at_call 21; refine hN.mono ?_; rintro e w1 ⟨rfl, hw⟩; have hR1 : RowAt w1 w.heap.size 61 (lrow 4602678819172646912 9221120237041090561 0) := (by rw [hw]; exact RowAt.new _ _ _); have hB1 : Below w.heap.size w w1 := (by rw [hw]; exact (Below.refl w.heap.size w).alloc (Nat.le_refl _) _); clear hw)
  go_wp2_with (go_at_call 25; refine (hA1 _ hR1).mono ?_; rintro e w2 ⟨rfl, hR2, hU2⟩; have hB2 := hU2.below hB1 (Nat.le_refl _); clear hR1 hU2 hB1)
  go_wp2_with (go_at_call 25; refine (hA2 _ hR2).mono ?_; rintro e w3 ⟨rfl, hR3, hU3⟩; have hB3 := hU3.below hB2 (Nat.le_refl _); clear hR2 hU3 hB2)
  go_wp2_with (first | (go_at_call 29; refine (copysign_neg _).mono ?_; rintro e w' ⟨rfl, hw⟩; rw [hw]; clear hw w') | (go_at_call 10; refine (hO _).mono ?_; rintro e w' ⟨rfl, hw⟩; rw [hw]; clear hw w') | (go_at_call 17; refine (hM _).mono ?_; rintro e w4 ⟨rfl, q, hw⟩; have hR4 : RowAt w4 w.heap.size 61 (lrow 4602678819172646912 4611686018427387904 2) := (by rw [hw]; exact (hR3.alloc _).drewN q); have hB4 : Below w.heap.size w w4 := (by rw [hw]; exact below_drewN (hB3.alloc hB3.size _) q); clear hw hR3 hB3))
  go_wp2_with (first | (go_at_call 23; refine (value_any _ _ _ _ _ hR4).mono ?_; rintro e w' ⟨rfl, hw⟩; rw [hw]; clear hw w') | (go_at_call 24; refine (count_any _ _ _ _ _ hR4).mono ?_; rintro e w' ⟨rfl, hw⟩; rw [hw]; clear hw w') | (go_at_call 19; refine (hK _).mono ?_; rintro e w5 ⟨rfl, hb⟩; have hB5 : Below w.heap.size w w5 := hB4.trans (hb.mono hB4.size); clear hb hB4 hR4) | (go_at_call 13; refine (hBt _).mono ?_; rintro e w' ⟨rfl, hw⟩; rw [hw]; clear hw w'))
  go_ret
  exact ⟨rfl, hB5⟩
end Go.Proofs.Ytmkpihagfbohdaa
