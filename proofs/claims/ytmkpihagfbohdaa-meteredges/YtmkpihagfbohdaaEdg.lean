/- The law MeterEdges. -/
import Derived.Test.YtmkpihagfbohdaaKnw
namespace Go.Proofs.Ytmkpihagfbohdaa
open Go.RowKit
set_option maxRecDepth 5000 in
theorem inf_pos (w : World) : Calls Try.prog 27 #[.int .i64 1] w fun e w' => e = .returned (.float .f64 9218868437227405312) ∧ w' = w := by
  have hf := run_frombits 9218868437227405312
  go_enter Try.func27, Try.ntmps27
  go_wp2
  go_ret
  exact ⟨rfl, rfl⟩
set_option maxRecDepth 5000 in
theorem inf_neg (w : World) : Calls Try.prog 27 #[.int .i64 (-1)] w fun e w' => e = .returned (.float .f64 18442240474082181120) ∧ w' = w := by
  have hf := run_frombits 18442240474082181120
  go_enter Try.func27, Try.ntmps27
  go_wp2
  go_ret
  exact ⟨rfl, rfl⟩
namespace F
set_option maxRecDepth 5000 in
theorem e_step1 : step 4602678819172646912 9221120237041090561 9218868437227405312 = 9218868437227405312 := by kernel_rfl
set_option maxRecDepth 5000 in
theorem e_step2 (x : Nat) : step 4602678819172646912 9218868437227405312 x = x := by
  unfold step; rw [show fin 9218868437227405312 = false by kernel_rfl]; rfl
set_option maxRecDepth 5000 in
theorem e_mean1 : norm (mean [9218868437227405312, 18442240474082181120]) = 9221120237041090561 := by kernel_rfl
set_option maxRecDepth 5000 in
theorem e_mean2 : norm (mean []) = 9221120237041090561 := by kernel_rfl
set_option maxRecDepth 5000 in
theorem e_mean3 : norm (mean [9223372036854775808]) = 0 := by kernel_rfl
set_option maxRecDepth 5000 in
theorem e_nn : (FloatKind.f64.format.order 9221120237041090561 9221120237041090561 != some .eq) = true := by kernel_rfl
set_option maxRecDepth 5000 in
theorem e_ne : (FloatKind.f64.format.order 9221120237041090561 9221120237041090561 == some .eq) = false := by kernel_rfl
set_option maxRecDepth 5000 in
theorem e_cmp : cmp 9221120237041090561 9218868437227405312 = 1 := by kernel_rfl
set_option maxRecDepth 5000 in
theorem cmp_self (x : Nat) : cmp x x = 0 := by unfold cmp; rw [if_neg (by omega), if_neg (by omega)]
set_option maxRecDepth 5000 in
theorem e_nums : nums [0, 9223372036854775808] = [0, 9223372036854775808] := by kernel_rfl
set_option maxRecDepth 5000 in
theorem e_small : Small [0, 9223372036854775808] := fun x hx => by
  simp only [List.mem_cons, List.not_mem_nil, or_false] at hx
  omega
set_option maxRecDepth 5000 in
theorem e_srt : srt [0, 9223372036854775808] = [9223372036854775808, 0] := by
  refine (srt_only e_small ?_ ?_).symm
  · rw [e_nums]; exact List.Perm.swap _ _ _
  · refine List.pairwise_cons.2 ⟨fun x hx => ?_, List.pairwise_singleton _ _⟩
    simp only [List.mem_cons, List.not_mem_nil, or_false] at hx
    subst hx
    rw [show okey 9223372036854775808 = -1 by kernel_rfl, show okey 0 = 0 by kernel_rfl]; decide
set_option maxRecDepth 5000 in
theorem e_rank : rank [0, 9223372036854775808] 0 = 9223372036854775808 := by
  unfold rank
  rw [e_nums, e_srt, if_neg (by decide)]
  show List.getD _ (plc 0 2) 0 = _
  rw [show plc 0 2 = 0 by kernel_rfl]; rfl
end F
set_option maxHeartbeats 2000000 in
set_option maxRecDepth 5000 in
theorem edges_walk (x n : Nat) (hx : x < 2 ^ 64) (w : World) : Calls Try.prog 8 #[.int .u64 (x : Int), .int .u8 (n : Int)] w fun e w' => e = .returned (.bool true) ∧ Below w.heap.size w w' := by
  have hn := hnot
  have hKn := known_any w
  have e1 := F.e_nn
  have e2 := F.e_ne
  have hA1 : ∀ (g : Nat) (W : World), RowAt W g 61 (lrow 4602678819172646912 9221120237041090561 0) → Calls Try.prog 25 #[.pointer (some ⟨g, 0, none⟩), .float .f64 9218868437227405312] W fun e w' => e = .returned (.tuple #[]) ∧ RowAt w' g 61 (lrow 4602678819172646912 9218868437227405312 1) ∧ Upd g W w' := fun g W hR => by
    have h := add_any g 4602678819172646912 9221120237041090561 9218868437227405312 0 W hR F.k_fin (by decide) (by decide) (by kernel_rfl) (by decide) (by decide)
    rw [F.e_step1] at h; exact h
  have hO1 := order_any 9221120237041090561 9218868437227405312 (by decide) (by decide)
  rw [F.e_cmp] at hO1
  have hO2 := order_any x x hx hx
  rw [F.cmp_self] at hO2
  have hM1 : ∀ W : World, Calls Try.prog 17 #[.slice (some ⟨W.heap.size, 0, none⟩) 2 2] (W.alloc (.cells #[.float .f64 9218868437227405312, .float .f64 18442240474082181120] 25)) fun e w' => e = .returned (.float .f64 9221120237041090561) ∧ ∃ q, w' = (W.alloc (.cells #[.float .f64 9218868437227405312, .float .f64 18442240474082181120] 25)).drewN q := fun W => by
    have h := mean_any [9218868437227405312, 18442240474082181120] (some ⟨W.heap.size, 0, none⟩) 2 2 (W.alloc (.cells #[.float .f64 9218868437227405312, .float .f64 18442240474082181120] 25)) (hide rfl) (SlF.litm W _ _ _ _ rfl) (by decide)
    rw [F.e_mean1] at h; exact h
  have hM2 : ∀ W : World, Calls Try.prog 17 #[.slice none 0 0] W fun e w' => e = .returned (.float .f64 9221120237041090561) ∧ ∃ q, w' = W.drewN q := fun W => by
    have h := mean_any [] none 0 0 W (hide rfl) (SlF.nil _ _) (by decide)
    rw [F.e_mean2] at h; exact h
  have hM3 : ∀ W : World, Calls Try.prog 17 #[.slice (some ⟨W.heap.size, 0, none⟩) 1 1] (W.alloc (.cells #[.float .f64 9223372036854775808] 25)) fun e w' => e = .returned (.float .f64 0) ∧ ∃ q, w' = (W.alloc (.cells #[.float .f64 9223372036854775808] 25)).drewN q := fun W => by
    have h := mean_any [9223372036854775808] (some ⟨W.heap.size, 0, none⟩) 1 1 (W.alloc (.cells #[.float .f64 9223372036854775808] 25)) (hide rfl) (SlF.litm W _ _ _ _ rfl) (by decide)
    rw [F.e_mean3] at h; exact h
  have hK : ∀ W : World, Calls Try.prog 19 #[.slice (some ⟨W.heap.size, 0, none⟩) 2 2, .float .f64 0] (W.alloc (.cells #[.float .f64 0, .float .f64 9223372036854775808] 25)) fun e w' => e = .returned (.float .f64 9223372036854775808) ∧ Below W.heap.size W w' := fun W => by
    have h := rank_any [0, 9223372036854775808] 0 (some ⟨W.heap.size, 0, none⟩) 2 2 (W.alloc (.cells #[.float .f64 0, .float .f64 9223372036854775808] 25)) (hide rfl) (SlF.litm W _ _ _ _ rfl) (Or.inr ⟨_, _, rfl⟩) F.e_small (by decide) (by decide)
    rw [F.e_rank] at h
    refine h.mono fun _ _ ⟨h1, h2⟩ => ⟨h1, ?_⟩
    have hb : Below W.heap.size W (W.alloc (.cells #[.float .f64 0, .float .f64 9223372036854775808] 25)) := (Below.refl W.heap.size W).alloc (Nat.le_refl _) _
    exact hb.trans (h2.mono (by simp))
  have s0 : ∀ (b : Nat) (W : World), Calls Try.prog 16 #[.float .f64 b, .float .f64 b] W fun e w' => e = .returned (.bool true) ∧ w' = W := fun b W => by
    have h := same_any b b W
    rw [show ((F.norm b : Int) == (F.norm b : Int)) = true by simp] at h; exact h
  have hxx := F.neq_self x
  cases hnx : F.nan x
  · rw [hnx] at hxx
    have hA2 : ∀ (g : Nat) (W : World), RowAt W g 61 (lrow 4602678819172646912 9218868437227405312 1) → Calls Try.prog 25 #[.pointer (some ⟨g, 0, none⟩), .float .f64 x] W fun e w' => e = .returned (.tuple #[]) ∧ RowAt w' g 61 (lrow 4602678819172646912 x 2) ∧ Upd g W w' := fun g W hR => by
      have h := add_any g 4602678819172646912 9218868437227405312 x 1 W hR F.k_fin (by decide) (by decide) hnx (by decide) (by decide)
      rw [F.e_step2] at h; exact h
    go_enter Try.func8, Try.ntmps8
    go_wp2_with (first | (go_at_call 9; refine hKn.mono ?_; rintro e w1 ⟨rfl, hB1⟩; clear hKn) | (go_at_call 11; refine (at_any _ _).mono ?_; rintro e w' ⟨rfl, hw⟩; rw [hw, Int.toNat_natCast]; clear hw w') | (go_at_call 27; refine (inf_pos _).mono ?_; rintro e w' ⟨rfl, hw⟩; rw [hw]; clear hw w') | (go_at_call 21; refine (new_any _ _).mono ?_; rintro e w2 ⟨rfl, hw⟩; have hR2 : RowAt w2 w1.heap.size 61 (lrow 4602678819172646912 9221120237041090561 0) := (by rw [hw, F.k_part]; exact RowAt.new _ _ _); have hB2 : Below w.heap.size w w2 := (by rw [hw]; exact hB1.alloc hB1.size _); clear hw) | (go_at_call 28; refine (nanF_any _).mono ?_; rintro e w' ⟨rfl, hw⟩; rw [hw]; clear hw w'))
    have hT0 : True := trivial
    go_wp2_with (first | (go_at_call 25; have hk := hT0; clear hk hT0; refine (add_nan _ _ _ F.nan_told).mono ?_; rintro e w' ⟨rfl, hw⟩; rw [hw]; clear hw w'; have hT1 : True := trivial) | (go_at_call 25; have hk := hT1; clear hk hT1; refine (hA1 _ _ hR2).mono ?_; rintro e w3 ⟨rfl, hR3, hU3⟩; have hB3 := hU3.below hB2 hB1.size; clear hR2 hU3 hB2; have hT2 : True := trivial) | (go_at_call 25; have hk := hT2; clear hk hT2; refine (hA2 _ _ hR3).mono ?_; rintro e w4 ⟨rfl, hR4, hU4⟩; have hB4 := hU4.below hB3 hB1.size; clear hR3 hU4 hB3) | (go_at_call 23; first | (refine (value_any _ _ _ _ _ hR2).mono ?_; rintro e w' ⟨rfl, hw⟩; rw [hw]; clear hw w') | (refine (value_any _ _ _ _ _ hR4).mono ?_; rintro e w' ⟨rfl, hw⟩; rw [hw]; clear hw w')) | (go_at_call 24; refine (count_any _ _ _ _ _ hR2).mono ?_; rintro e w' ⟨rfl, hw⟩; rw [hw]; clear hw w') | (go_at_call 16; refine (s0 _ _).mono ?_; rintro e w' ⟨rfl, hw⟩; rw [hw]; clear hw w') | (go_at_call 27; refine (inf_neg _).mono ?_; rintro e w' ⟨rfl, hw⟩; rw [hw]; clear hw w') | (go_at_call 17; have hk := hR4; clear hk; refine (hM1 _).mono ?_; rintro e w5 ⟨rfl, q, hw⟩; have hB5 : Below w.heap.size w w5 := (by rw [hw]; exact below_drewN (hB4.alloc hB4.size _) q); clear hw hR4 hB4; have hT5 : True := trivial) | (go_at_call 17; have hk := hT5; clear hk hT5; refine (hM2 _).mono ?_; rintro e w6 ⟨rfl, q, hw⟩; have hB6 : Below w.heap.size w w6 := (by rw [hw]; exact below_drewN hB5 q); clear hw hB5; have hT6 : True := trivial) | (go_at_call 29; refine (copysign_neg _).mono ?_; rintro e w' ⟨rfl, hw⟩; rw [hw]; clear hw w') | (go_at_call 17; have hk := hT6; clear hk hT6; refine (hM3 _).mono ?_; rintro e w7 ⟨rfl, q, hw⟩; have hB7 : Below w.heap.size w w7 := (by rw [hw]; exact below_drewN (hB6.alloc hB6.size _) q); clear hw hB6; have hT7 : True := trivial) | (go_at_call 10; have hk := hT7; clear hk hT7; refine (hO2 _).mono ?_; rintro e w' ⟨rfl, hw⟩; rw [hw]; clear hw w'; have hT8 : True := trivial) | (go_at_call 28; refine (nanF_any _).mono ?_; rintro e w' ⟨rfl, hw⟩; rw [hw]; clear hw w') | (go_at_call 10; have hk := hT8; clear hk hT8; refine (hO1 _).mono ?_; rintro e w' ⟨rfl, hw⟩; rw [hw]; clear hw w') | (go_at_call 19; refine (hK _).mono ?_; rintro e w8 ⟨rfl, hb⟩; have hB8 : Below w.heap.size w w8 := hB7.trans (hb.mono hB7.size); clear hb hB7))
    go_ret
    exact ⟨rfl, hB8⟩
  · rw [hnx] at hxx
    go_enter Try.func8, Try.ntmps8
    go_wp2_with (first | (go_at_call 9; refine hKn.mono ?_; rintro e w1 ⟨rfl, hB1⟩; clear hKn) | (go_at_call 11; refine (at_any _ _).mono ?_; rintro e w' ⟨rfl, hw⟩; rw [hw, Int.toNat_natCast]; clear hw w') | (go_at_call 27; refine (inf_pos _).mono ?_; rintro e w' ⟨rfl, hw⟩; rw [hw]; clear hw w') | (go_at_call 21; refine (new_any _ _).mono ?_; rintro e w2 ⟨rfl, hw⟩; have hR2 : RowAt w2 w1.heap.size 61 (lrow 4602678819172646912 9221120237041090561 0) := (by rw [hw, F.k_part]; exact RowAt.new _ _ _); have hB2 : Below w.heap.size w w2 := (by rw [hw]; exact hB1.alloc hB1.size _); clear hw) | (go_at_call 28; refine (nanF_any _).mono ?_; rintro e w' ⟨rfl, hw⟩; rw [hw]; clear hw w'))
    have hT0 : True := trivial
    go_wp2_with (first | (go_at_call 25; have hk := hT0; clear hk hT0; refine (add_nan _ _ _ F.nan_told).mono ?_; rintro e w' ⟨rfl, hw⟩; rw [hw]; clear hw w'; have hT1 : True := trivial) | (go_at_call 25; have hk := hT1; clear hk hT1; refine (hA1 _ _ hR2).mono ?_; rintro e w3 ⟨rfl, hR3, hU3⟩; have hB3 := hU3.below hB2 hB1.size; clear hR2 hU3 hB2; have hT2 : True := trivial) | (go_at_call 25; have hk := hT2; clear hk hT2; refine (add_nan _ _ _ hnx).mono ?_; rintro e w' ⟨rfl, hw⟩; rw [hw]; clear hw w'; have hR4 := hR3; have hB4 := hB3; clear hR3 hB3) | (go_at_call 23; first | (refine (value_any _ _ _ _ _ hR2).mono ?_; rintro e w' ⟨rfl, hw⟩; rw [hw]; clear hw w') | (refine (value_any _ _ _ _ _ hR4).mono ?_; rintro e w' ⟨rfl, hw⟩; rw [hw]; clear hw w')) | (go_at_call 24; refine (count_any _ _ _ _ _ hR2).mono ?_; rintro e w' ⟨rfl, hw⟩; rw [hw]; clear hw w') | (go_at_call 16; refine (s0 _ _).mono ?_; rintro e w' ⟨rfl, hw⟩; rw [hw]; clear hw w') | (go_at_call 27; refine (inf_neg _).mono ?_; rintro e w' ⟨rfl, hw⟩; rw [hw]; clear hw w') | (go_at_call 17; have hk := hR4; clear hk; refine (hM1 _).mono ?_; rintro e w5 ⟨rfl, q, hw⟩; have hB5 : Below w.heap.size w w5 := (by rw [hw]; exact below_drewN (hB4.alloc hB4.size _) q); clear hw hR4 hB4; have hT5 : True := trivial) | (go_at_call 17; have hk := hT5; clear hk hT5; refine (hM2 _).mono ?_; rintro e w6 ⟨rfl, q, hw⟩; have hB6 : Below w.heap.size w w6 := (by rw [hw]; exact below_drewN hB5 q); clear hw hB5; have hT6 : True := trivial) | (go_at_call 29; refine (copysign_neg _).mono ?_; rintro e w' ⟨rfl, hw⟩; rw [hw]; clear hw w') | (go_at_call 17; have hk := hT6; clear hk hT6; refine (hM3 _).mono ?_; rintro e w7 ⟨rfl, q, hw⟩; have hB7 : Below w.heap.size w w7 := (by rw [hw]; exact below_drewN (hB6.alloc hB6.size _) q); clear hw hB6; have hT7 : True := trivial) | (go_at_call 10; have hk := hT7; clear hk hT7; refine (hO2 _).mono ?_; rintro e w' ⟨rfl, hw⟩; rw [hw]; clear hw w'; have hT8 : True := trivial) | (go_at_call 28; refine (nanF_any _).mono ?_; rintro e w' ⟨rfl, hw⟩; rw [hw]; clear hw w') | (go_at_call 10; have hk := hT8; clear hk hT8; refine (hO1 _).mono ?_; rintro e w' ⟨rfl, hw⟩; rw [hw]; clear hw w') | (go_at_call 19; refine (hK _).mono ?_; rintro e w8 ⟨rfl, hb⟩; have hB8 : Below w.heap.size w w8 := hB7.trans (hb.mono hB7.size); clear hb hB7))
    go_ret
    exact ⟨rfl, hB8⟩
end Go.Proofs.Ytmkpihagfbohdaa
