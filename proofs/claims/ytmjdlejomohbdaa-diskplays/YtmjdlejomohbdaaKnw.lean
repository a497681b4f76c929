/- signetlaw11.known. -/
import Derived.Test.YtmjdlejomohbdaaDcr
namespace Go.Proofs.Ytmjdlejomohbdaa
open Go.RowKit
def l7 : List UInt8 := 7 :: List.replicate 63 0
def kn2 : K.St := ((K.St.new 3 64).put 1 l7).put 2 l7
set_option maxRecDepth 5000 in
theorem kn_rd1 : (kn2.crashed 2).rd 1 = List.replicate 64 0 := by decide +kernel
set_option maxRecDepth 5000 in
theorem kn_rd2 : (kn2.crashed 2).rd 2 = l7 := by decide +kernel
/- the bytes of which the first is x -/
def lz (x : UInt8) : List UInt8 := x :: List.replicate 63 0
set_option maxRecDepth 5000 in
theorem make_64 (W : World) : (Instr.makeSlice 32 (.int .i64 64) (.int .i64 64)).run Try.prog W = .ok (.slice (some ⟨W.heap.size, 0, none⟩) 64 64) (W.alloc (.cells (vb (lz 0)).toArray 5)) := make_zeros 64 (by omega) W
set_option maxRecDepth 5000 in
theorem lz_set (x y : UInt8) : (vb (lz x)).toArray.setIfInBounds 0 (.int .u8 (y.toNat : Int)) = (vb (lz y)).toArray := by
  simp [vb, lz]
set_option maxRecDepth 5000 in
theorem lz_cell {w : World} {g : Nat} {x : UInt8} (h : RowAt w g 5 (vb (lz x)).toArray) : w.cell? ⟨g, 0, none⟩ = some (.int .u8 (x.toNat : Int)) := by
  rw [h.cell]; rfl
set_option maxHeartbeats 1000000 in
set_option maxRecDepth 5000 in
theorem known_any (w : World) : Calls Try.prog 6 #[] w fun e w' => e = .returned (.bool true) ∧ Below w.heap.size w w' := by
  have hn := new_at (fun _ => False) w (fun _ h => h.elim) 3 64 3 64 (by omega) (by omega) (by omega) (by omega) (by decide) (by decide)
  have hmk := make_64
  obtain ⟨zz, hzz⟩ : ∃ zz, zz = (vb (lz 0)).toArray := ⟨_, rfl⟩
  rw [← hzz] at hmk
  have HZ := hide hzz
  clear hzz
  go_enter Try.func6, Try.ntmps6
  go_wp2_with fail
  refine hn.mono ?_
  rintro e w1 ⟨rfl, hD, hB1, hs1⟩
  obtain ⟨D, hDe⟩ : ∃ D, D = w.heap.size + 2 := ⟨_, rfl⟩
  rw [← hDe] at hD ⊢
  have hse : Calls Try.prog 9 #[.pointer (some ⟨D, 0, none⟩)] w1 fun e w' => e = .returned (.int .i64 3) ∧ w' = w1 := sectors_any w1 _ _ _ _ hD
  have hsi : Calls Try.prog 10 #[.pointer (some ⟨D, 0, none⟩)] w1 fun e w' => e = .returned (.int .i64 64) ∧ w' = w1 := size_any w1 _ _ _ _ hD
  have HDE := hide hDe
  clear hDe
  have HD := hide hD
  have HB1 := hide hB1
  have HS1 := hide hs1
  clear hD hB1 hs1 hn
  have R0 : Hid (RowAt (w1.alloc (.cells zz 5)) w1.heap.size 5 zz) := RowAt.new w1 _ _
  have g0 : (w1.alloc (.cells zz 5)).cell? ⟨w1.heap.size, 0, none⟩ = some (.int .u8 0) := by rw [R0.out.cell, HZ.out]; rfl
  have g1 : (w1.alloc (.cells zz 5)).frozen? ⟨w1.heap.size, 0, none⟩ = false := R0.out.frozen 0
  go_wp2_with (first
    | (go_at_call 9; refine hse.mono ?_; rintro e w' ⟨rfl, hw⟩; rw [hw]; clear hw w')
    | (go_at_call 10; refine hsi.mono ?_; rintro e w' ⟨rfl, hw⟩; rw [hw]; clear hw w'))
  have e7 : zz.setIfInBounds 0 (.int .u8 7) = (vb l7).toArray := by rw [HZ.out]; exact lz_set 0 7
  rw [e7]
  clear g0 g1 R0 HZ hmk hse hsi e7 zz
  have R1 : Hid (RowAt (w1.alloc (.cells (vb l7).toArray 5)) w1.heap.size 5 (vb l7).toArray) := RowAt.new w1 _ _
  have HD1 := hide (HD.out.alloc (.cells (vb l7).toArray 5))
  have HB2 : Hid (Below w.heap.size w (w1.alloc (.cells (vb l7).toArray 5)) ∧ w.heap.size + 3 ≤ (w1.alloc (.cells (vb l7).toArray 5)).heap.size) := ⟨HB1.out.alloc HB1.out.size _, by rw [← HS1.out]; simp⟩
  generalize (w1.alloc (.cells (vb l7).toArray 5)) = X at R1 HD1 HB2 ⊢
  generalize w1.heap.size = gb at R1 ⊢
  clear HD HB1 HS1
  refine (show Calls Try.prog 12 #[.pointer (some ⟨D, 0, none⟩), .int .i64 1, .slice (some ⟨gb, 0, none⟩) 64 64] X _ from write_ok X D _ _ _ HD1.out rfl 1 (by decide) (some ⟨gb, 0, none⟩) 64 l7 rfl (SlU.row R1.out) rfl).mono ?_
  rintro e w2 ⟨rfl, hD2, hM2⟩
  have R2 : Hid (RowAt w2 gb 5 (vb l7).toArray) := by
    obtain ⟨sv, uv, hk⟩ := HD1.out
    exact hM2.rows hk _ _ R1.out
  have HD2 := hide hD2
  have HB3 : Hid (Below w.heap.size w w2 ∧ w.heap.size + 3 ≤ w2.heap.size) := ⟨hM2.below HB2.out.1 (by have := HB2.out.2; omega) (by rw [HDE.out]; omega) (Nat.le_refl _) (by omega), Nat.le_trans HB2.out.2 hM2.size⟩
  clear hD2 hM2 HD1 R1 HB2
  go_wp2_with fail
  refine (show Calls Try.prog 12 #[.pointer (some ⟨D, 0, none⟩), .int .i64 2, .slice (some ⟨gb, 0, none⟩) 64 64] w2 _ from write_ok w2 D _ _ _ HD2.out rfl 2 (by decide) (some ⟨gb, 0, none⟩) 64 l7 rfl (SlU.row R2.out) rfl).mono ?_
  rintro e w3 ⟨rfl, hD3, hM3⟩
  have HD3 : Hid (DiskAt (fun _ => False) w3 D w.heap.size (w.heap.size + 1) kn2) := hD3
  have HB4 : Hid (Below w.heap.size w w3 ∧ w.heap.size + 3 ≤ w3.heap.size) := ⟨hM3.below HB3.out.1 (by have := HB3.out.2; omega) (by rw [HDE.out]; omega) (Nat.le_refl _) (by omega), Nat.le_trans HB3.out.2 hM3.size⟩
  clear hD3 hM3 HD2 R2 HB3
  go_wp2_with fail
  refine (show Calls Try.prog 15 #[.pointer (some ⟨D, 0, none⟩), .int .u64 2] w3 _ from crash_any w3 D _ _ _ HD3.out 2 (by omega)).mono ?_
  rintro e w4 ⟨rfl, M, hD4, hM4, hM5, hM6⟩
  have HD4 := hide hD4
  have HB5 : Hid (Below w.heap.size w w4 ∧ w.heap.size + 3 ≤ w4.heap.size ∧ w.heap.size ≤ M) := ⟨hM4.below HB4.out.1 (by have := HB4.out.2; omega) (by rw [HDE.out]; omega) (Nat.le_refl _) (by omega), Nat.le_trans HB4.out.2 hM4.size, by have := HB4.out.2; omega⟩
  clear hD4 hM4 HD3 HB4 hM5 hM6
  go_wp2_with fail
  refine (show Calls Try.prog 17 #[.pointer (some ⟨D, 0, none⟩), .int .i64 1] w4 _ from read_ok w4 D _ _ _ HD4.out rfl 1 (by decide)).mono ?_
  rintro e w5 ⟨rfl, hR5, hB5⟩
  rw [kn_rd1] at hR5
  have R5 := hide hR5
  have HD5 := hide (HD4.out.below hB5 (Nat.le_refl _))
  have HB6 : Hid (Below w.heap.size w w5 ∧ w.heap.size + 3 ≤ w5.heap.size ∧ w.heap.size ≤ M) := ⟨HB5.out.1.trans (hB5.mono (by have := HB5.out.2.1; omega)), Nat.le_trans HB5.out.2.1 hB5.size, HB5.out.2.2⟩
  generalize w4.heap.size = ga at R5 ⊢
  clear hR5 HD4 HB5 hB5
  go_wp2_with fail
  refine (show Calls Try.prog 17 #[.pointer (some ⟨D, 0, none⟩), .int .i64 2] w5 _ from read_ok w5 D _ _ _ HD5.out rfl 2 (by decide)).mono ?_
  rintro e w6 ⟨rfl, hR6, hB6⟩
  rw [kn_rd2] at hR6
  have R6 := hide hR6
  have R56 := hide (R5.out.below hB6 R5.out.lt)
  have HD6 := hide (HD5.out.below hB6 (Nat.le_refl _))
  have HB7 : Hid (Below w.heap.size w w6 ∧ w.heap.size + 3 ≤ w6.heap.size ∧ w.heap.size ≤ M) := ⟨HB6.out.1.trans (hB6.mono (by have := HB6.out.2.1; omega)), Nat.le_trans HB6.out.2.1 hB6.size, HB6.out.2.2⟩
  generalize w5.heap.size = gc at R6 ⊢
  clear hR6 HD5 HB6 hB6 R5
  go_wp2_with fail
  refine (show Calls Try.prog 14 #[.pointer (some ⟨D, 0, none⟩), .int .i64 0] w6 _ from cut_any w6 D _ _ _ HD6.out 0 (by omega)).mono ?_
  rintro e w7 ⟨rfl, hD7, hM7, _⟩
  have HD7 := hide hD7
  have hrk : Rows w6 w7 := by obtain ⟨sv, uv, hk⟩ := HD6.out; exact hM7.rows hk
  have R67 := hide (hrk _ _ R6.out)
  have R57 := hide (hrk _ _ R56.out)
  have HB8 : Hid (Below w.heap.size w w7 ∧ w.heap.size + 3 ≤ w7.heap.size ∧ w.heap.size ≤ M) := ⟨hM7.below HB7.out.1 (by have := HB7.out.2.1; omega) (by rw [HDE.out]; omega) (Nat.le_refl _) HB7.out.2.2, Nat.le_trans HB7.out.2.1 hM7.size, HB7.out.2.2⟩
  clear hD7 hM7 hrk HD6 HB7 R6 R56
  go_wp2_with fail
  refine (show Calls Try.prog 13 #[.pointer (some ⟨D, 0, none⟩)] w7 _ from sync_cut w7 D _ _ _ HD7.out rfl rfl).mono ?_
  rintro e w8 ⟨rfl, hD8, hM8⟩
  have hrk : Rows w7 w8 := by obtain ⟨sv, uv, hk⟩ := HD7.out; exact hM8.rows hk
  have x1 : w8.cell? ⟨gc, 0, none⟩ = some (.int .u8 7) := lz_cell (x := 7) (hrk _ _ R67.out)
  have x2 : w8.cell? ⟨ga, 0, none⟩ = some (.int .u8 0) := lz_cell (x := 0) (hrk _ _ R57.out)
  have hde : Calls Try.prog 18 #[.pointer (some ⟨D, 0, none⟩)] w8 fun e w' => e = .returned (.bool true) ∧ w' = w8 := dead_any w8 D _ _ _ hD8
  have HB9 : Hid (Below w.heap.size w w8) := hM8.below HB8.out.1 (by have := HB8.out.2.1; omega) (by rw [HDE.out]; omega) (Nat.le_refl _) HB8.out.2.2
  clear hD8 hM8 hrk HD7 HB8 R67 R57
  go_wp2_with (go_at_call 18; refine hde.mono ?_; rintro e w' ⟨rfl, hw⟩; rw [hw]; clear hw w')
  go_ret
  exact ⟨rfl, HB9.out⟩
end Go.Proofs.Ytmjdlejomohbdaa
