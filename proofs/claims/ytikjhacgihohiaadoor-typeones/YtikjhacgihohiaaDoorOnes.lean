/- The statement on bitmaps of one type, walked. -/
import Derived.Test.YtikjhacgihohiaaDoorOnes0
import Derived.BigQuiet
namespace Go.Proofs.YtikjhacgihohiaaDoor
open Go.RowKit
set_option maxRecDepth 10000 in
set_option maxHeartbeats 6400000 in
theorem ones_any (t : UInt16) (x : UInt8) (w : World) (G : Glob w) :
    Calls Tryd.prog 6 #[.int .u16 (t.toNat : Int), .int .u8 (x.toNat : Int)] w fun e w' => e = .returned (.bool true) ∧ Below w.heap.size w w' := by
  have ck := known_any w G
  have elo := lo_and t
  have ehi := wrap_hi t
  have hlo := T.lo_lt t
  have hhi := T.hi_lt t
  have hbk := T.opn_one_back t
  have hbm := T.bmp_one t
  obtain ⟨K, hK⟩ : ∃ K, T.lo t = K := ⟨_, rfl⟩
  obtain ⟨H, hH⟩ : ∃ H, T.hi t = H := ⟨_, rfl⟩
  rw [hK] at elo hlo hbk hbm
  rw [hH] at ehi hhi hbk hbm
  obtain ⟨P, hP⟩ : ∃ P, K / 8 = P := ⟨_, rfl⟩
  obtain ⟨r, hr⟩ : ∃ r, K % 8 = r := ⟨_, rfl⟩
  have h8 : r < 8 := by omega
  have hP32 : P < 32 := by omega
  have e1 : Int.tmod (K : Int) 8 = (r : Int) := by rw [Int.tmod_eq_emod_of_nonneg (by omega)]; omega
  have e2 : (K : Int) % 8 = (r : Int) := by omega
  have e3 : (K : Int) / 8 = (P : Int) := by omega
  have e4 : Int.tdiv (K : Int) 8 = (P : Int) := by rw [Int.tdiv_eq_ediv_of_nonneg (by omega)]; exact e3
  have e5 : IntKind.i64.wrap (K : Int) = (K : Int) := wrap_nat K (by omega)
  have e6 : IntKind.u8.wrap (H : Int) = (H : Int) := by rw [IntKind.wrap_u8]; omega
  have e7 : (t.toNat : Int) / 256 = (H : Int) := by unfold T.hi at hH; omega
  rw [hP, hr] at hbk hbm
  have HBK := hide hbk
  have HBM := hide hbm
  clear hK hH hP hr hbk hbm hlo
  go_enter Tryd.func6, Tryd.ntmps6
  go_wp2_with (go_at_call 7; refine ck.mono ?_; rintro e w1 ⟨rfl, hB1⟩)
  have cb := bitmap_any [t] (some ⟨w1.heap.size, 0, none⟩) 1 1 (w1.alloc (.cells #[.int .u16 (t.toNat : Int)] 22)) rfl (SlH.one w1 t 22) (by simp) (by omega)
  have hB1a := hB1.alloc hB1.size (.cells #[.int .u16 (t.toNat : Int)] 22)
  refine cb.mono ?_
  rintro e w2 ⟨v2, c, rfl, hcl, _, hO2, hB2⟩
  obtain rfl := hcl.unique (T.clean_one t)
  rw [HBM.out] at hO2
  obtain ⟨g2, c2, rfl, _, hlc, hcm, hg2, hc⟩ := hO2.form (by rw [T.oneB_len]; omega)
  have hS2 := hO2.sl
  have b2 := hB1a.trans (hB2.mono hB1a.size)
  have q0 := hc 0 (by rw [T.oneB_len]; omega)
  have q1 := hc 1 (by rw [T.oneB_len]; omega)
  have q2 := hc (P + 2) (by rw [T.oneB_len]; omega)
  rw [T.oneB_0, T.nat8 H hhi] at q0
  rw [T.oneB_1, T.nat8 (P + 1) (by omega)] at q1
  rw [T.oneB_2] at q2
  rw [T.oneB_len] at hlc ⊢
  obtain ⟨N, hN⟩ : ∃ N, P + 3 = N := ⟨_, rfl⟩
  obtain ⟨N1, hN1⟩ : ∃ N1, P + 2 = N1 := ⟨_, rfl⟩
  obtain ⟨M, hM⟩ : ∃ M, P + 1 = M := ⟨_, rfl⟩
  rw [hN] at hlc ⊢
  rw [hM] at q1
  rw [hN1] at q2
  have f0 : IntKind.i64.wrap (P : Int) = (P : Int) := wrap_nat P (by omega)
  have f1 : IntKind.i64.wrap (3 + (P : Int)) = (N : Int) := by rw [IntKind.wrap_i64]; omega
  have f2 : IntKind.i64.wrap (1 + (P : Int)) = (M : Int) := by rw [IntKind.wrap_i64]; omega
  have f3 : IntKind.i64.wrap ((N : Int) - 1) = (N1 : Int) := by rw [IntKind.wrap_i64]; omega
  have f5 : ((N : Int) != (N : Int)) = false := by simp
  have f6 : ((M : Int) != (M : Int)) = false := by simp
  have f7 : ((H : Int) != (H : Int)) = false := by simp
  have f4 : IntKind.i64.wrap (M : Int) = (M : Int) := wrap_nat M (by omega)
  have hx1 : N1 < N := by omega
  have hx2 : 1 < N := by omega
  have hx0 : 0 < N := by omega
  clear hc cb ck hcl hB2 hB1a hB1
  have HS2 := hide hS2
  have HO2 := hide hO2
  clear hS2 hO2
  obtain ⟨Z, hZ⟩ : ∃ Z, (UInt8.ofNat (2 ^ (7 - r))).toNat = Z := ⟨_, rfl⟩
  rw [hZ] at q2
  have f8 : (128 : Int) / 2 ^ r = (Z : Int) := by
    rw [← hZ]
    clear q2 hZ
    rcases (by omega : r = 0 ∨ r = 1 ∨ r = 2 ∨ r = 3 ∨ r = 4 ∨ r = 5 ∨ r = 6 ∨ r = 7) with rfl | rfl | rfl | rfl | rfl | rfl | rfl | rfl <;> rfl
  have f9 : ((Z : Int) != (Z : Int)) = false := by simp
  have HOL : Hid ((T.oneB H P r).length = N) := (T.oneB_len H P r).trans hN
  have HMO : Hid (T.opn 0 (T.oneB H P r ++ [x]) = none) := T.opn_more H P r hP32 x
  have HLE : Hid (T.opn 0 ((T.oneB H P r).take N1) = none) := by rw [← hN1]; exact T.opn_less H P r hP32
  clear hZ
  go_wp2_with fail
  go_quiet (fail)
  have bq := below_drewN b2 nq
  have HS : Hid (SlL (w2.drewN nq) (some ⟨g2, 0, none⟩) (T.oneB H P r)) := HS2.out
  generalize w2.drewN nq = W2 at bq HS ⊢
  clear nq q0 q1 q2 HO2 HS2 hg2 b2 HBM elo ehi e1 e2 e3 e4 e5 e6 e7 f0 f1 f2 f4 f5 f6 f7 f8 f9
  generalize T.oneB H P r = B at *
  have hcm' : c2 ≤ 9223372036854775807 := by unfold maxLen at hcm; omega
  have hxc : N1 ≤ c2 := by omega
  have hN40 : N ≤ 40 := by omega
  have HBL := hide hN40
  go_wp2_with (first
    | (at_builtin; refine wpList_append_B rfl (.const (.slice none 0 0)) (.tmp 59) rfl W2.heap.size (.slice none 0 0) [] rfl (OwnB.nil _ _) _ _ _ B rfl HOL.out HS.out (by simp) (by simp; omega) (Nat.le_refl _) ?_; intro v4 w4 hO4 hG4; have hB4 := grown_below (OwnB.nil _ _) hG4 (Below.refl _ W2) (Nat.le_refl _); have HO4 := hide hO4; have hz4 := hB4.size; clear hG4 hO4)
    | (at_builtin; refine wpList_append_B rfl (.tmp 60) (.tmp 62) rfl W2.heap.size v4 ([] ++ B) rfl (by exact HO4.out.alloc _) _ _ _ [x] rfl rfl (SlL.one _ x _) (by simp) (by rw [List.nil_append, HOL.out]; omega) (by simp; omega) ?_; intro v5 w5 hO5 hG5; have hB5 := grown_below (HO4.out.alloc _) hG5 (hB4.alloc hz4 _) (by simp; omega); clear hG5))
  rw [List.nil_append] at hO5
  obtain ⟨a5, c5, rfl, hS5, _, hc5, hm5⟩ := hO5.open
  have HL5 : Hid ((B ++ [x]).length = N + 1) := by show _ = _; rw [List.length_append, HOL.out]; rfl
  have co := open_any (B ++ [x]) a5 (N + 1) c5 w5 HL5 hS5 (by rw [← HL5.out]; exact hc5) (by unfold maxLen at hm5; omega) (by omega)
  rw [HMO.out] at co
  rw [HL5.out]
  have b5 := bq.trans (hB5.mono bq.size)
  clear hO5 hS5 HO4 hB4 hc5 hz4
  go_wp2_with fail
  go_at_call 13
  refine co.mono ?_
  rintro e w6 ⟨hB6, h6⟩
  obtain ⟨_, _, h, _, _⟩ | ⟨_, rfl⟩ := h6
  · cases h
  have b6 := b5.trans (hB6.mono b5.size)
  have hB26 := hB5.trans (hB6.mono hB5.size)
  have co2 := open_any (B.take N1) (some ⟨g2, 0, none⟩) N1 c2 w6 (by show _ = _; rw [List.length_take, HOL.out]; omega) ((HS.out.below hB26 (Nat.le_refl _)).take N1) hxc hcm' (by omega)
  rw [HLE.out] at co2
  clear co hB5 hB6 b5
  go_wp2_with fail
  go_at_call 13
  refine co2.mono ?_
  rintro e w7 ⟨hB7, h7⟩
  obtain ⟨_, _, h, _, _⟩ | ⟨_, rfl⟩ := h7
  · cases h
  have b7 := b6.trans (hB7.mono b6.size)
  have hB27 := hB26.trans (hB7.mono hB26.size)
  have co3 := open_any B (some ⟨g2, 0, none⟩) N c2 w7 HOL.out (HS.out.below hB27 (Nat.le_refl _)) hlc hcm' (by omega)
  rw [HBK.out] at co3
  clear co2 hB7 b6 hB26
  go_wp2_with fail
  go_at_call 13
  refine co3.mono ?_
  rintro e w8 ⟨hB8, h8'⟩
  obtain ⟨m, v8, hm, rfl, hO8⟩ | ⟨h, _⟩ := h8'
  · obtain rfl := (Option.some.inj hm).symm
    obtain ⟨a8, c8, rfl, hS8, _, _, _⟩ := hO8.open
    have b8 := b7.trans (hB8.mono b7.size)
    have ct := htypes_any [t] [t] a8 (some ⟨w8.heap.size, 0, none⟩) 1 c8 1 1 (w8.alloc (.cells #[.int .u16 (t.toNat : Int)] 22)) (hS8.alloc _) (SlH.one w8 t 22) rfl rfl (by omega)
    rw [decide_eq_true rfl] at ct
    have b8a := b8.alloc b8.size (.cells #[.int .u16 (t.toNat : Int)] 22)
    clear co3 hB8 b7 hO8 hS8 hm hB27
    go_wp2_with fail
    go_at_call 17
    refine ct.mono ?_
    rintro e w9 ⟨rfl, hB9⟩
    have b9 := b8a.trans (hB9.mono b8a.size)
    clear ct hB9
    go_wp2
    go_ret
    exact ⟨rfl, b9⟩
  · cases h
end Go.Proofs.YtikjhacgihohiaaDoor
