/- signetlaw5.known: the chapter's first examples. -/
import Derived.Test.YtagopkmehlpjpaaWhlK
import Derived.Test.YtagopkmehlpjpaaTyR
import Derived.Laws.MakeOwn
namespace Go.Proofs.Ytagopkmehlpjpaa
open Go.RowKit
set_option maxRecDepth 5000 in
theorem code_4 : codeOf (D.full [0, 0, 0, 0] (D.can 1 [0, 0, 0, 0])) = 0 := rfl
set_option maxRecDepth 5000 in
theorem code_3 : codeOf (D.full [0, 0, 0] (D.can 1 [0, 0, 0])) = 50 := rfl
set_option maxRecDepth 5000 in
theorem can_A : D.full [1, 65, 0] (D.can 2 [1, 65, 0]) = some [1, 97, 0] := by decide +kernel
set_option maxRecDepth 5000 in
theorem tgt_A : D.full [1, 65, 0] (D.tgt 2 [1, 65, 0]) = some [[65]] := by decide +kernel
set_option maxRecDepth 5000 in
theorem key_A : D.full [1, 0, 3, 253, 9] (D.key [1, 0, 3, 253, 9]) = some ⟨256, 3, 253, [9]⟩ := rfl
/- make([]byte, n) -/
set_option maxRecDepth 5000 in
theorem make_zeros (n : Nat) (hn : n ≤ 1000000) (W : World) : (Instr.makeSlice 23 (.int .i64 (n : Int)) (.int .i64 (n : Int))).run Try.prog W = .ok (.slice (some ⟨W.heap.size, 0, none⟩) n n) (W.alloc (.cells (vb (List.replicate n 0)).toArray 5)) := by
  obtain ⟨i0, hi, hz0, hz1, hz2⟩ := info_parts infoB
  rw [run_make (P := Try.prog) W 23 5 i0 (.int .u8 0) Try.underlying23 hi hz0 .i64 .i64 n n (by omega) (Int.le_refl _) (by rw [hz2]; omega) (by omega)]
  rw [Int.toNat_natCast, hz1, Nat.mul_one]
  have e : (Value.int .u8 0).cells = #[.int .u8 0] := rfl
  have e2 : madeCells #[.int .u8 0] n = (vb (List.replicate n 0)).toArray := by
    apply Array.toList_inj.1
    rw [toList_madeCells_one]
    simp [vb]
  rw [e, e2]
set_option maxHeartbeats 1600000 in
set_option maxRecDepth 5000 in
theorem known_any (w : World) : Calls Try.prog 9 #[] w fun e w' => e = .returned (.bool true) ∧ Below w.heap.size w w' := by
  have h4 : ∀ W, (Instr.makeSlice 23 (.int .i64 4) (.int .i64 4)).run Try.prog W = .ok (.slice (some ⟨W.heap.size, 0, none⟩) 4 4) (W.alloc (.cells #[.int .u8 0, .int .u8 0, .int .u8 0, .int .u8 0] 5)) := make_zeros 4 (by omega)
  have h3 : ∀ W, (Instr.makeSlice 23 (.int .i64 3) (.int .i64 3)).run Try.prog W = .ok (.slice (some ⟨W.heap.size, 0, none⟩) 3 3) (W.alloc (.cells #[.int .u8 0, .int .u8 0, .int .u8 0] 5)) := make_zeros 3 (by omega)
  go_enter Try.func9, Try.ntmps9
  go_wp2
  go_region_law (first
    | (refine step_call rfl 14 #[.int .u16 1, .slice (some ⟨w.heap.size, 0, none⟩) 4 4] (by go_simp) (dCheck_any 1 [0, 0, 0, 0] (some ⟨w.heap.size, 0, none⟩) 4 4 _ rfl (by first | exact SlL.litm w [0, 0, 0, 0] _ 5 (0, 0) rfl | exact (SlL.litm w [0, 0, 0, 0] _ 5 (0, 0) rfl).alloc _) (by omega) (by intro h; cases h)) (by rintro e w' ⟨rfl, _⟩; exact ⟨_, rfl⟩) ?_; rw [code_4]; rintro v1 w1 ⟨he, hb1⟩; cases he; have B1 := hide (Below.trans (by first | exact ((Below.refl w.heap.size w).alloc (Nat.le_refl _) _).drew | exact (((Below.refl w.heap.size w).alloc (Nat.le_refl _) _).alloc (by simp) _).drew) (hb1.mono (by simp <;> omega))); (try (have S3 : Hid (SlL w1 (some ⟨w.heap.size + 1, 0, none⟩) [0, 0, 0]) := SlL.below (by have h := SlL.litm (w.alloc (.cells #[.int .u8 0, .int .u8 0, .int .u8 0, .int .u8 0] 5)) [0, 0, 0] _ 5 (0, 0) rfl; rw [World.size_alloc] at h; exact h) hb1 (by simp <;> omega))); clear hb1)
    | (refine step_call rfl 14 #[.int .u16 1, .slice (some ⟨w.heap.size + 1, 0, none⟩) 4 4] (by go_simp) (dCheck_any 1 [0, 0, 0, 0] (some ⟨w.heap.size + 1, 0, none⟩) 4 4 _ rfl (by have h := SlL.litm (w.alloc (.cells #[.int .u8 0, .int .u8 0, .int .u8 0] 5)) [0, 0, 0, 0] _ 5 (0, 0) rfl; rw [World.size_alloc] at h; exact h) (by omega) (by intro h; cases h)) (by rintro e w' ⟨rfl, _⟩; exact ⟨_, rfl⟩) ?_; rw [code_4]; rintro v1 w1 ⟨he, hb1⟩; cases he; have B1 := hide (Below.trans (by first | exact ((Below.refl w.heap.size w).alloc (Nat.le_refl _) _).drew | exact (((Below.refl w.heap.size w).alloc (Nat.le_refl _) _).alloc (by simp) _).drew) (hb1.mono (by simp <;> omega))); have S4 : Hid (SlL w1 (some ⟨w.heap.size, 0, none⟩) [0, 0, 0]) := SlL.below (by exact (SlL.litm w [0, 0, 0] _ 5 (0, 0) rfl).alloc _) hb1 (by simp <;> omega); clear hb1)
    | (refine step_call rfl 14 #[.int .u16 1, .slice (some ⟨w1.heap.size, 0, none⟩) 3 3] (by go_simp) (dCheck_any 1 [0, 0, 0] (some ⟨w1.heap.size, 0, none⟩) 3 3 _ rfl (by exact SlL.litm w1 [0, 0, 0] _ 5 (0, 0) rfl) (by omega) (by intro h; cases h)) (by rintro e w' ⟨rfl, _⟩; exact ⟨_, rfl⟩) ?_; rw [code_3]; rintro v2 w2 ⟨he, hb2⟩; cases he; have B2 := hide (Below.trans (by first | exact B1.out | exact (B1.out.alloc B1.out.size _)) (hb2.mono (by first | exact B1.out.size | (simp; have := B1.out.size; omega)))); clear hb2)
    | (refine step_call rfl 14 #[.int .u16 1, .slice (some ⟨w.heap.size + 1, 0, none⟩) 3 3] (by go_simp) (dCheck_any 1 [0, 0, 0] (some ⟨w.heap.size + 1, 0, none⟩) 3 3 _ rfl (by exact S3.out) (by omega) (by intro h; cases h)) (by rintro e w' ⟨rfl, _⟩; exact ⟨_, rfl⟩) ?_; rw [code_3]; rintro v2 w2 ⟨he, hb2⟩; cases he; have B2 := hide (Below.trans (by first | exact B1.out | exact (B1.out.alloc B1.out.size _)) (hb2.mono (by first | exact B1.out.size | (simp; have := B1.out.size; omega)))); clear hb2)
    | (refine step_call rfl 14 #[.int .u16 1, .slice (some ⟨w.heap.size, 0, none⟩) 3 3] (by go_simp) (dCheck_any 1 [0, 0, 0] (some ⟨w.heap.size, 0, none⟩) 3 3 _ rfl (by exact S4.out) (by omega) (by intro h; cases h)) (by rintro e w' ⟨rfl, _⟩; exact ⟨_, rfl⟩) ?_; rw [code_3]; rintro v2 w2 ⟨he, hb2⟩; cases he; have B2 := hide (Below.trans (by first | exact B1.out | exact (B1.out.alloc B1.out.size _)) (hb2.mono (by first | exact B1.out.size | (simp; have := B1.out.size; omega)))); clear hb2))
  all_goals
    clear h3 h4 B1
    go_wp2_with fail
    refine (Canon_any 2 [1, 65, 0] (some ⟨w2.heap.size, 0, none⟩) 3 3 _ rfl (by exact SlL.litm w2 [1, 65, 0] _ 5 (0, 0) rfl) (by omega) (by intro h; cases h)).mono ?_
    rw [can_A]
    rintro e w3 ⟨⟨x, v, ho, rfl, hx⟩ | ⟨ho, _⟩, hb3⟩
    rotate_left
    · cases ho
    cases ho
    obtain ⟨a3, c3, rfl, hs3, hn3, _⟩ := OwnB.open hx
    have z2 := B2.out.size
    have B3 := hide ((B2.out.alloc z2 (.cells #[.int .u8 1, .int .u8 65, .int .u8 0] 5)).trans (hb3.mono (by simp; omega)))
    have S3 := hide hs3
    clear hx hs3 hb3
    go_wp2_with fail
    refine (Target_any 2 [1, 65, 0] (some ⟨w3.heap.size, 0, none⟩) 3 3 _ rfl (by exact SlL.litm w3 [1, 65, 0] _ 5 (0, 0) rfl) (by omega) (by intro h; cases h)).mono ?_
    rw [tgt_A]
    rintro e w4 ⟨⟨x, v, ho, rfl, hx⟩ | ⟨ho, _⟩, hb4⟩
    rotate_left
    · cases ho
    cases ho
    obtain ⟨a4, c4, rfl, hs4, hn4, _⟩ := OwnS.open hx
    obtain ⟨g4, o4, rfl, hl4, hc4⟩ := hs4 (by simp)
    have e4 : w4.cell? ⟨g4, o4, none⟩ = some (.string ⟨#[65]⟩) := hc4 0 (by simp)
    have z3 := B3.out.size
    have B4 := hide ((B3.out.alloc z3 (.cells #[.int .u8 1, .int .u8 65, .int .u8 0] 5)).trans (hb4.mono (by simp; omega)))
    have S4 := hide ((S3.out.alloc (.cells #[.int .u8 1, .int .u8 65, .int .u8 0] 5)).below hb4 (Nat.le_refl _))
    clear hx hs4 hb4 hc4 S3
    go_wp2_with fail
    refine (Key_any [1, 0, 3, 253, 9] (some ⟨w4.heap.size, 0, none⟩) 5 5 _ rfl (by exact SlL.litm w4 [1, 0, 3, 253, 9] _ 5 (0, 0) rfl) (by omega) (by intro h; cases h)).mono ?_
    rw [key_A]
    rintro e w5 ⟨⟨x, v, ho, rfl, hx⟩ | ⟨ho, _⟩, hb5⟩
    rotate_left
    · cases ho
    cases ho
    obtain ⟨a5, c5, rfl, hO5⟩ := hx
    obtain ⟨hs5, hn5⟩ := OwnB.slOf hO5
    have z4 := B4.out.size
    have B5 := hide ((B4.out.alloc z4 (.cells #[.int .u8 1, .int .u8 0, .int .u8 3, .int .u8 253, .int .u8 9] 5)).trans (hb5.mono (by simp; omega)))
    have S5 := hide ((S4.out.alloc (.cells #[.int .u8 1, .int .u8 0, .int .u8 3, .int .u8 253, .int .u8 9] 5)).below hb5 (Nat.le_refl _))
    have e5 : w5.cell? ⟨g4, o4, none⟩ = some (.string ⟨#[65]⟩) := (hb5.cell (p := ⟨g4, o4, none⟩) (by simp; omega)).trans ((((Below.refl w4.heap.size w4).alloc (Nat.le_refl _) _).cell (p := ⟨g4, o4, none⟩) hl4).trans e4)
    have l5 : g4 < w5.heap.size := Nat.lt_of_lt_of_le (by simp; omega) hb5.size
    have KS := hide hs5
    have KN := hide hn5
    clear hO5 hs5 hn5 hb5 S4 e4
    have e6 : ((w5.alloc (.cells #[.int .u16 256, .int .u8 3, .int .u8 253, .slice a5 1 c5] 68)).alloc (.cells #[.int .u8 1, .int .u8 97, .int .u8 0] 5)).cell? ⟨g4, o4, none⟩ = some (.string ⟨#[65]⟩) := ((((Below.refl w5.heap.size w5).alloc (Nat.le_refl _) _).alloc (by simp) _).cell (p := ⟨g4, o4, none⟩) l5).trans e5
    have B6 := hide ((B5.out.alloc B5.out.size (.cells #[.int .u16 256, .int .u8 3, .int .u8 253, .slice a5 1 c5] 68)).alloc (by have := B5.out.size; simp; omega) (.cells #[.int .u8 1, .int .u8 97, .int .u8 0] 5))
    have eb : (([1, 97, 0] : List UInt8) == [1, 97, 0]) = true := rfl
    go_wp2_with fail
    refine (hbytes_any [1, 97, 0] [1, 97, 0] a3 (some ⟨w5.heap.size + 1, 0, none⟩) 3 c3 3 3 _ (by exact (S5.out.alloc _).alloc _) (by have h := SlL.litm (w5.alloc (.cells #[.int .u16 256, .int .u8 3, .int .u8 253, .slice a5 1 c5] 68)) [1, 97, 0] _ 5 (0, 0) rfl; rw [World.size_alloc] at h; exact h) rfl rfl).mono ?_
    rw [eb]
    rintro e w6 ⟨rfl, rfl⟩
    clear eb e5
    go_wp2_with fail
    refine (keyBytes_any ⟨256, 3, 253, [9]⟩ a5 1 c5 _ ⟨by decide, by decide, by decide⟩ rfl (by exact (KS.out.alloc _).alloc _) KN.out (by omega)).mono ?_
    rintro e w7 ⟨v7, rfl, hO7, hb7⟩
    obtain ⟨a7, c7, rfl, _⟩ := hO7.open
    rw [show (D.keyB ⟨256, 3, 253, [9]⟩).length = 5 from rfl]
    have B7 := hide (B6.out.trans (hb7.mono B6.out.size))
    clear hO7 hb7 B6
    go_wp2
    go_ret
    exact ⟨rfl, B7.out⟩
end Go.Proofs.Ytagopkmehlpjpaa
