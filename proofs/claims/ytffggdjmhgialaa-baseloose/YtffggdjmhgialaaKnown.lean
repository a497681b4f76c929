/- signetlaw2.known answers true: the chapter's examples. -/
import Derived.Test.YtffggdjmhgialaaHelp
namespace Go.Proofs.Ytffggdjmhgialaa
open Go.RowKit
theorem is_f : Is 5 32 [102] [12, 24] := ⟨⟨2, by decide, by decide, by decide⟩, by decide⟩
theorem is_x : Is 4 16 [10, 255] [0, 10, 15, 15] := ⟨⟨0, by decide, by decide, by decide⟩, by decide⟩
theorem good_CO : B.Good 5 32 [67, 79] [102] := ⟨by intro x hx; revert x; decide, ⟨2, by decide, by decide, by decide⟩⟩
theorem good_0aFF : B.Good 4 16 [48, 97, 70, 70] [10, 255] := ⟨by intro x hx; revert x; decide, ⟨0, by decide, by decide, by decide⟩⟩
theorem bad_c (b : List UInt8) : ¬ B.Good 5 32 [99] b := by
  rintro ⟨_, p, hp, hl, _⟩
  have : (B.dv [99]).length = 1 := rfl
  omega
theorem txt_f : B.txt [12, 24] = [99, 111] := by decide
theorem txt_x : B.txt [0, 10, 15, 15] = [48, 97, 102, 102] := by decide
set_option maxRecDepth 3000 in
set_option maxHeartbeats 1000000 in
theorem known_any (w : World) : Calls Try.prog 8 #[] w fun e w' => e = .returned (.bool true) ∧ Below w.heap.size w w' := by
  go_enter Try.func8, Try.ntmps8
  go_wp2_with fail
  refine (o32_good _ [67, 79] [102] 1 _ rfl (by exact rfl) (by decide) good_CO).mono ?_
  rintro e w1 ⟨a1, c1, rfl, hs1, hB1⟩
  have hz1 := hB1.size
  have HS1 := hide hs1
  clear hs1
  go_wp2_with fail
  refine (o16_good _ [48, 97, 70, 70] [10, 255] 2 _ rfl (by exact rfl) (by decide) good_0aFF).mono ?_
  rintro e w2 ⟨a2, c2, rfl, hs2, hB2⟩
  have hs12 := HS1.out.below hB2 (Nat.le_refl _)
  have hb2 := hB1.trans (hB2.mono hz1)
  have hz2 := hb2.size
  clear hB1 hB2 HS1
  go_wp2_with fail
  refine (o32_bad _ [99] _ (by exact rfl) (by decide) bad_c).mono ?_
  rintro e w3 ⟨rfl, hB3⟩
  have hs13 := hs12.below hB3 (Nat.le_refl _)
  have hs23 := hs2.below hB3 (Nat.le_refl _)
  have hb3 := hb2.trans (hB3.mono hz2)
  have hz3 := hb3.size
  clear hb2 hB3 hs12 hs2
  have hcv := run_conv w3 #[.int .u8 102] w3.heap.size 1 1 rfl
  go_wp2_with fail
  have hb3a : Below w3.heap.size w3 (w3.alloc (.cells #[.int .u8 102] 5 (1, 2))) := (Below.refl _ _).alloc (Nat.le_refl _) _
  refine (hex32_is [102] [12, 24] _ 1 1 _ rfl (by exact SlL.litm w3 [102] _ 5 (1, 2) rfl) (by decide) is_f).mono ?_
  rintro e w4 ⟨rfl, hB4⟩
  have hb34 : Below w3.heap.size w3 w4 := hb3a.trans (hB4.mono (by simp))
  have hs14 := hs13.below hb34 (Nat.le_refl _)
  have hs24 := hs23.below hb34 (Nat.le_refl _)
  have hb4 := hb3.trans (hb34.mono hz3)
  have hz4 := hb4.size
  rw [txt_f]
  have hst := run_str 1 c1 hs14 rfl
  clear hb3 hb34 hB4 hb3a hs13 hs23 hcv hs14
  go_wp2_with fail
  have hb5 : Below w4.heap.size w4 (w4.alloc (.cells #[.int .u8 10, .int .u8 255] 5)) := (Below.refl _ _).alloc (Nat.le_refl _) _
  refine (bytes_same [10, 255] a2 _ 2 2 c2 2 _ (by exact hs24.alloc _) (by exact SlL.litm w4 [10, 255] _ 5 (0, 0) rfl) rfl rfl).mono ?_
  rintro e w5 ⟨rfl, rfl⟩
  go_wp2_with fail
  refine (hex16_is [10, 255] [0, 10, 15, 15] _ 2 2 _ rfl (by have h := SlL.litm (w4.alloc (.cells #[.int .u8 10, .int .u8 255] 5)) [10, 255] #[.int .u8 10, .int .u8 255] 5 (0, 0) rfl; simpa using h) (by decide) is_x).mono ?_
  rintro e w6 ⟨rfl, hB6⟩
  rw [txt_x]
  go_wp2
  go_ret
  refine ⟨rfl, ((hb4.alloc hz4 _).alloc (by simp; omega) _).trans (hB6.mono (by simp; omega))⟩
end Go.Proofs.Ytffggdjmhgialaa
