/- signetlaw1.known answers true: the example of the sum of abc, and two lists of parts that are shortened unlike. -/
import Derived.Test.YtfpggcgfmhooeaaDoorEq
import Derived.Lib.SlBytesConst
namespace Go.Proofs.YtfpggcgfmhooeaaDoor
open Go.RowKit
theorem abc0 : sumF [97, 98, 99] 0 = 186 := by decide +kernel
theorem abc1 : sumF [97, 98, 99] 1 = 120 := by decide +kernel
theorem abc31 : sumF [97, 98, 99] 31 = 173 := by decide +kernel
theorem unlike : (decide (∀ j ∈ List.range 8, sumF (1 :: ptext [[97], [98]]) j = sumF (1 :: ptext [[97, 98]]) j)) = false := by decide +kernel
theorem SlL.litm (w : World) (l : List (BitVec 8)) (A : Array Value) (t : TypeId) (fr : Nat × Nat) (h : A = (vb l).toArray) : SlL (w.alloc (.cells A t fr)) (some ⟨w.heap.size, 0, none⟩) l := fun _ => by
  subst h
  refine ⟨w.heap.size, 0, rfl, by simp, fun j hj => ?_⟩
  rw [cell_of_row _ _ _ _ t fr (heap_alloc_last w _), Nat.zero_add]
  simp only [List.getElem?_toArray]
  exact vb_get l j hj
theorem run_conv (w : World) (C : Array Value) (g n c : Nat) (hg : g = w.heap.size) : (convert 22 22 (.slice (some ⟨g, 0, none⟩) n c)).run Tryd.prog (w.alloc (.cells C 5)) = .ok (.slice (some ⟨g, 0, none⟩) n c) (w.alloc (.cells C 5 (C.size, C.size + 1))) := by
  subst hg; exact Lib.run_convert_bytes_const w 22 5 C n c Tryd.underlying22 Tryd.underlying5
theorem parts_one (w : World) (a : Option Addr) (p : List (BitVec 8)) (c : Nat) (t : TypeId) (hs : SlL w a p) (hn : a = none → c = 0) (hc : p.length ≤ c) : PartsAt (w.alloc (.cells #[.slice a p.length c] t)) (some ⟨w.heap.size, 0, none⟩) [p] := fun _ => by
  refine ⟨w.heap.size, 0, rfl, by simp, fun j hj => ?_⟩
  have : j = 0 := by simpa using hj
  subst this
  exact ⟨a, c, by rw [(RowAt.new w t _).cell]; rfl, hs.alloc _, hn, hc⟩
theorem parts_two (w : World) (a a' : Option Addr) (p p' : List (BitVec 8)) (c c' : Nat) (t : TypeId) (hs : SlL w a p) (hn : a = none → c = 0) (hc : p.length ≤ c) (hs' : SlL w a' p') (hn' : a' = none → c' = 0) (hc' : p'.length ≤ c') : PartsAt (w.alloc (.cells #[.slice a p.length c, .slice a' p'.length c'] t)) (some ⟨w.heap.size, 0, none⟩) [p, p'] := fun _ => by
  refine ⟨w.heap.size, 0, rfl, by simp, fun j hj => ?_⟩
  have hj2 : j < 2 := hj
  rcases (show j = 0 ∨ j = 1 by omega) with rfl | rfl
  · exact ⟨a, c, by rw [(RowAt.new w t _).cell]; rfl, hs.alloc _, hn, hc⟩
  · exact ⟨a', c', by rw [(RowAt.new w t _).cell]; rfl, hs'.alloc _, hn', hc'⟩
theorem run_ne8 (F G : Nat → BitVec 8) (h : (decide (∀ j ∈ List.range 8, F j = G j)) = false) (w : World) : (Op.equalIn 10000 28 (.agg #[.int .u8 (F 0).toNat, .int .u8 (F 1).toNat, .int .u8 (F 2).toNat, .int .u8 (F 3).toNat, .int .u8 (F 4).toNat, .int .u8 (F 5).toNat, .int .u8 (F 6).toNat, .int .u8 (F 7).toNat]) (.agg #[.int .u8 (G 0).toNat, .int .u8 (G 1).toNat, .int .u8 (G 2).toNat, .int .u8 (G 3).toNat, .int .u8 (G 4).toNat, .int .u8 (G 5).toNat, .int .u8 (G 6).toNat, .int .u8 (G 7).toNat])).run Tryd.prog w = .ok false w := by
  have h1 := run_eqB Tryd.underlying28 F G w
  rw [h] at h1
  exact h1
theorem cells8 {w : World} {g : Nat} {t : TypeId} {F : Nat → BitVec 8} (h : RowAt w g t (rowB 8 F)) : w.cell? ⟨g, 0, none⟩ = some (.int .u8 (F 0).toNat) ∧ w.cell? ⟨g, 1, none⟩ = some (.int .u8 (F 1).toNat) ∧ w.cell? ⟨g, 2, none⟩ = some (.int .u8 (F 2).toNat) ∧ w.cell? ⟨g, 3, none⟩ = some (.int .u8 (F 3).toNat) ∧ w.cell? ⟨g, 4, none⟩ = some (.int .u8 (F 4).toNat) ∧ w.cell? ⟨g, 5, none⟩ = some (.int .u8 (F 5).toNat) ∧ w.cell? ⟨g, 6, none⟩ = some (.int .u8 (F 6).toNat) ∧ w.cell? ⟨g, 7, none⟩ = some (.int .u8 (F 7).toNat) :=
  ⟨h.cell 0, h.cell 1, h.cell 2, h.cell 3, h.cell 4, h.cell 5, h.cell 6, h.cell 7⟩
set_option maxRecDepth 3000 in
set_option maxHeartbeats 1000000 in
theorem known_any (w : World) (hT : Tab w) : Calls Tryd.prog 7 #[] w fun e w' => e = .returned (.bool true) ∧ Below w.heap.size w w' := by
  have hT0 := hT.1
  have hc1 := run_conv w #[.int .u8 97, .int .u8 98, .int .u8 99] w.heap.size 3 3 rfl
  have hb0 : Below w.heap.size w (w.alloc (.cells #[.int .u8 97, .int .u8 98, .int .u8 99] 5 (3, 4))) := (Below.refl _ _).alloc (Nat.le_refl _) _
  go_enter Tryd.func7, Tryd.ntmps7
  go_wp2_with fail
  refine (sum_any [97, 98, 99] _ _ _ _ (by exact rfl) (by exact (SlL.litm w [97, 98, 99] _ 5 _ rfl).pad) (by omega) (by omega) (by exact hT.below hb0 hT0)).mono ?_
  rintro e w1 ⟨rfl, hB1⟩
  have hb1 : Below w.heap.size w w1 := hb0.trans (hB1.mono (by simp))
  have hz1 := hb1.size
  clear hB1 hb0 hc1
  go_wp2_with (refine wpList_store_abs rfl 24 (.tmp 1) (.tmp 6) rfl w1.heap.size (rowB 32 (sumF [97, 98, 99])) rfl rfl 24 _ (RowAt.new w1 24 _) (by rw [rowB_size]; exact info24) (by rw [rowB_size]; rfl) (rowB_one _ _) w1.heap.size (Nat.le_refl _) ?_; intro w2 hR2 hO2 hz2 hB2; have hb2 := (hb1.alloc hz1 _).trans (hB2.mono hz1); have hz2' : w1.heap.size < w2.heap.size := (by rw [hz2]; simp); have hcA := run_conv w2 #[.int .u8 97] w2.heap.size 1 1 rfl; have hcB := run_conv (w2.alloc (.cells #[.int .u8 97] 5 (1, 2))) #[.int .u8 98] (w2.heap.size + 1) 1 1 (by simp); clear hO2 hz2 hB2)
  have hb3 : Below w2.heap.size w2 (((w2.alloc (.cells #[.int .u8 97] 5 (1, 2))).alloc (.cells #[.int .u8 98] 5 (1, 2))).alloc (.cells #[.slice (some ⟨w2.heap.size, 0, none⟩) 1 1, .slice (some ⟨w2.heap.size + 1, 0, none⟩) 1 1] 22)) := below_thd _ _ _ _
  have hp3 := parts_two ((w2.alloc (.cells #[.int .u8 97] 5 (1, 2))).alloc (.cells #[.int .u8 98] 5 (1, 2))) (some ⟨w2.heap.size, 0, none⟩) (some ⟨w2.heap.size + 1, 0, none⟩) [97] [98] 1 1 22 ((SlL.litm w2 [97] _ 5 (1, 2) rfl).alloc _) (by simp) (by simp) (by have h := SlL.litm (w2.alloc (.cells #[.int .u8 97] 5 (1, 2))) [98] #[.int .u8 98] 5 (1, 2) rfl; simpa using h) (by simp) (by simp)
  refine (short_any 1 [[97], [98]] _ _ _ _ (by exact rfl) (by simpa using hp3) (by omega) (by simp) (by exact hT.below (hb2.trans (hb3.mono (by omega))) hT0)).mono ?_
  rintro e w3 ⟨rfl, hB3⟩
  have hb4 : Below w2.heap.size w2 w3 := hb3.trans (hB3.mono (by simp; omega))
  have hz4 := hb4.size
  have hcC := run_conv w3 #[.int .u8 97, .int .u8 98] w3.heap.size 2 2 rfl
  clear hB3 hb3 hp3 hcA hcB
  go_wp2_with fail
  have hb5 : Below w3.heap.size w3 ((w3.alloc (.cells #[.int .u8 97, .int .u8 98] 5 (2, 3))).alloc (.cells #[.slice (some ⟨w3.heap.size, 0, none⟩) 2 2] 22)) := ((Below.refl _ _).alloc (Nat.le_refl _) _).alloc (by simp) _
  have hp5 := parts_one (w3.alloc (.cells #[.int .u8 97, .int .u8 98] 5 (2, 3))) (some ⟨w3.heap.size, 0, none⟩) [97, 98] 2 22 (SlL.litm w3 [97, 98] _ 5 (2, 3) rfl) (by simp) (by simp)
  refine (short_any 1 [[97, 98]] _ _ _ _ (by exact rfl) (by simpa using hp5) (by omega) (by simp) (by exact hT.below ((hb2.trans (hb4.mono (by omega))).trans (hb5.mono (by omega))) hT0)).mono ?_
  rintro e w4 ⟨rfl, hB5⟩
  have hb6 : Below w3.heap.size w3 w4 := hb5.trans (hB5.mono (by simp; omega))
  clear hB5 hb5 hp5 hcC
  go_wp2_with (first
    | (refine wpList_store_abs rfl 28 (.tmp 2) (.tmp 12) rfl w4.heap.size (rowB 8 (sumF (1 :: ptext [[97], [98]]))) rfl rfl 28 _ ((RowAt.new w4 28 _).alloc _) (by rw [rowB_size]; exact info28) (by rw [rowB_size]; rfl) (rowB_one _ _) w4.heap.size (Nat.le_refl _) ?_; intro w5 hR5 hO5 hz5 hB5)
    | (refine wpList_store_abs rfl 28 (.tmp 3) (.tmp 16) rfl (w4.heap.size + 1) (rowB 8 (sumF (1 :: ptext [[97, 98]]))) rfl rfl 28 _ (hO5 _ _ _ (by omega) (row_snd w4 _ 28 _)) (by rw [rowB_size]; exact info28) (by rw [rowB_size]; rfl) (rowB_one _ _) (w4.heap.size + 1) (Nat.le_refl _) ?_; intro w6 hR6 hO6 hz6 hB6; have hz2w := hz2'; have hz6w := hb6.size; have h24 := hO6 _ _ _ (by omega) (hO5 _ _ _ (by omega) (((hR2.below hb4 hz2').below hb6 (by omega)).alloc _ |>.alloc _)); have h28 := hO6 _ _ _ (by omega) hR5; have hbb : Below w.heap.size w w6 := ((((((hb2.trans (hb4.mono (by omega))).trans (hb6.mono (by omega))).alloc (by omega) _).alloc (by simp; omega) _).trans (hB5.mono (by omega))).trans (hB6.mono (by omega))); have c0 : w6.cell? ⟨w1.heap.size, 0, none⟩ = some (.int .u8 186) := (by rw [h24.cell, rowB_get _ _ _ (by omega), abc0]; rfl); have c1 : w6.cell? ⟨w1.heap.size, 1, none⟩ = some (.int .u8 120) := (by rw [h24.cell, rowB_get _ _ _ (by omega), abc1]; rfl); have c31 : w6.cell? ⟨w1.heap.size, 31, none⟩ = some (.int .u8 173) := (by rw [h24.cell, rowB_get _ _ _ (by omega), abc31]; rfl); obtain ⟨F1, HF1⟩ : ∃ F1, Hid (F1 = sumF (1 :: ptext [[97], [98]])) := ⟨_, rfl⟩; obtain ⟨F2, HF2⟩ : ∃ F2, Hid (F2 = sumF (1 :: ptext [[97, 98]])) := ⟨_, rfl⟩; rw [← HF1.out] at h28; rw [← HF2.out] at hR6; have hne := run_ne8 F1 F2 (by rw [HF1.out, HF2.out]; exact unlike) w6; obtain ⟨p0, p1, p2, p3, p4, p5, p6, p7⟩ := cells8 h28; obtain ⟨q0, q1, q2, q3, q4, q5, q6, q7⟩ := cells8 hR6; clear hO5 hO6 hz5 hz6 hB6 hB5 hR5 h28 hR6 h24 hR2 hb1 hb2 hb4 hb6))
  go_ret
  exact ⟨rfl, hbb⟩
end Go.Proofs.YtfpggcgfmhooeaaDoor
