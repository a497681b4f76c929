/- The law HashParts returns true where the cut's number is not below nought. -/
import Derived.Test.YtfpggcgfmhooeaaDoorPartsA
namespace Go.Proofs.YtfpggcgfmhooeaaDoor
open Go.RowKit
set_option maxRecDepth 3000 in
set_option maxHeartbeats 6000000 in
theorem hashParts_pos (l1 l2 : List (BitVec 8)) (ao a1 a2 : Option Addr) (n cap j c1 m c2 : Nat) (x : Int) (w : World) (h1 : PartIn w a1 l1 j c1) (h2 : PartIn w a2 l2 m c2) (hT : Tab w) (hn : n ≤ 1000) (hjm : j + m ≤ 1000) (hx : x.tmod ((n : Int) + 1) = (j : Int))
    (hA : ∀ w, (Instr.sliceAt 22 (.slice ao n cap) none (some (.int .i64 (j : Int))) none).run Tryd.prog w = .ok (.slice a1 j c1) w)
    (hC : ∀ w, (Instr.sliceAt 22 (.slice ao n cap) (some (.int .i64 (j : Int))) none none).run Tryd.prog w = .ok (.slice a2 m c2) w) :
    Calls Tryd.prog 5 #[.slice ao n cap, .int .i64 x] w fun e w' => e = .returned (.bool true) ∧ Below w.heap.size w w' := by
  have H1 := hide h1
  have H2 := hide h2
  have hT0 := hT.1
  clear h1 h2
  go_enter Tryd.func5, Tryd.ntmps5
  go_wp2_with (go_at_call 7; refine (known_any _ (by exact hT)).mono ?_; rintro e w1 ⟨rfl, hB1⟩; have hz1 := hB1.size)
  have hs1 := hide (H1.out.sl.below hB1 (Nat.le_refl _))
  go_region_with (first
    | (go_at_call_of 12 a1; go_must (refine (part_any w.heap.size _ [9] l1 a1 j c1 _ H1.out.len (by exact (OwnB.build w1 9 w.heap.size hz1)) (by exact (hs1.out.alloc _)) H1.out.low H1.out.nil (by simp) (by omega) (by simp; omega)).mono ?_); go_must (rintro e w2 ⟨v2, rfl, hO2, hB2⟩; have hb2 : Below w.heap.size w w2 := ((hB1.alloc hz1 (.cells #[.int .u8 9] 5)).drew).trans hB2; have hz2 := hb2.size; clear hB2))
    | (go_at_call_of 12 a2; go_must (refine (part_any w.heap.size v2 _ l2 a2 m c2 _ H2.out.len (by exact hO2) (by exact H2.out.sl.below hb2 (Nat.le_refl _)) H2.out.low H2.out.nil (by simp [Sha.len4]; have := H1.out.len; omega) (by omega) (by exact hz2)).mono ?_); go_must (rintro e w3 ⟨v3, rfl, hO3, hB3⟩; have hb3 := hb2.trans hB3; clear hB3 hO2 hb2)))
  obtain ⟨T, hT1⟩ : ∃ T, T = [9] ++ Sha.len4 j ++ l1 ++ Sha.len4 m ++ l2 := ⟨_, rfl⟩
  rw [← hT1] at hO3
  have hTL : T.length = 9 + j + m := by rw [hT1]; simp [Sha.len4]; have := H1.out.len; have := H2.out.len; omega
  have HTT : Hid (T = 9 :: ptext [l1, l2]) := by
    show _ = _
    rw [hT1]; simp [ptext, H1.out.len, H2.out.len]
  have HT2 : Hid (T ++ Sha.len4 0 ++ [] = 9 :: ptext [l1, l2, []]) := by
    show _ = _
    rw [hT1]; simp [ptext, H1.out.len, H2.out.len]
  clear hT1
  obtain ⟨g, cT, rfl, hg1, hg2, hg3, hg4, _⟩ := hO3.form (by omega)
  have hTle : T.length ≤ 1009 := by omega
  have hsl3 := hO3.sl
  have hsp3 := hsl3.pad
  have hT3 := hT.below hb3 hT0
  have hz3 := hb3.size
  obtain ⟨F1, HF1⟩ : ∃ F1, Hid (F1 = sumF T) := ⟨_, rfl⟩
  obtain ⟨F2, HF2⟩ : ∃ F2, Hid (F2 = sumF (9 :: ptext [l1, l2, []])) := ⟨_, rfl⟩
  obtain ⟨T2, HTT2⟩ : ∃ T2, Hid (T2 = T ++ Sha.len4 0) := ⟨T ++ Sha.len4 0, rfl⟩
  have hT2a : 0 < T2.length := by rw [HTT2.out]; simp [Sha.len4]
  have hT2b : T2.length ≤ 1013 := by rw [HTT2.out]; simp [Sha.len4]; omega
  have HF2T : Hid (F2 = sumF T2) := by show _ = _; rw [HF2.out, HTT2.out, ← HT2.out, List.append_nil]
  have HF1' : Hid (F1 = sumF (9 :: ptext [l1, l2])) := by show _ = _; rw [HF1.out, HTT.out]
  clear hg3 hTL hsl3
  go_wp2_with fail
  refine (sum_any T _ T.length cT _ (by exact rfl) (by exact hsp3) hg2 (by omega) (by exact hT3)).mono ?_
  rintro e w4 ⟨rfl, hB4⟩
  rw [show Sha.digB (Sha.run (Sha.padF T) (Sha.nb T.length)) = F1 from HF1.out.symm]
  have hb4 := hb3.trans (hB4.mono hz3)
  have hO4 := hO3.below hB4
  have hz4 := hb4.size
  have hg4' : g < w4.heap.size := Nat.lt_of_lt_of_le hg4 hB4.size
  clear hB4 hb3 hO3 hsp3 hT3 hg4 hz3
  go_wp2_with (refine wpList_store_abs rfl 24 (.tmp 7) (.tmp 32) rfl w4.heap.size (rowB 32 F1) rfl rfl 24 _ (RowAt.new w4 24 _) (by rw [rowB_size]; exact info24) (by rw [rowB_size]; rfl) (rowB_one _ _) w4.heap.size (Nat.le_refl _) ?_; intro w5 hR5 hO5 hz5 hB5; have hb5 := (hb4.alloc hz4 _).trans (hB5.mono hz4); have hbb : Below w4.heap.size w4 w5 := ((Below.refl _ _).alloc (Nat.le_refl _) _).trans hB5; have ho5 := hO4.below hbb; have hlt5 : w4.heap.size < w5.heap.size := (by rw [hz5]; simp); clear hO5 hz5 hB5 hb4 hO4 hbb)
  have hz5 := hb5.size
  obtain ⟨p0, p1, p2, p3, p4, p5, p6, p7⟩ := cells8r hR5
  have harr := run_arr
  have heq1 := run_eq8 F1
  have heq2 := run_eq8 F2
  have hT5 := hT.below hb5 hT0
  have hP1 := hide (H1.out.below hb5 (Nat.le_refl _))
  have hP2 := hide (H2.out.below hb5 (Nat.le_refl _))
  have HO5 := hide ho5
  clear ho5
  go_frame
  go_region_held3 (fun w' => w'.cell? ⟨w4.heap.size, 0, none⟩ = some (.int .u8 (F1 0).toNat) ∧ w'.cell? ⟨w4.heap.size, 1, none⟩ = some (.int .u8 (F1 1).toNat) ∧ w'.cell? ⟨w4.heap.size, 2, none⟩ = some (.int .u8 (F1 2).toNat) ∧ w'.cell? ⟨w4.heap.size, 3, none⟩ = some (.int .u8 (F1 3).toNat) ∧ w'.cell? ⟨w4.heap.size, 4, none⟩ = some (.int .u8 (F1 4).toNat) ∧ w'.cell? ⟨w4.heap.size, 5, none⟩ = some (.int .u8 (F1 5).toNat) ∧ w'.cell? ⟨w4.heap.size, 6, none⟩ = some (.int .u8 (F1 6).toNat) ∧ w'.cell? ⟨w4.heap.size, 7, none⟩ = some (.int .u8 (F1 7).toNat)) ((first | exact ⟨p0, p1, p2, p3, p4, p5, p6, p7⟩ | exact cells8r (hR5.alloc _) | exact ⟨q0, q1, q2, q3, q4, q5, q6, q7⟩ | exact cells8r ((hR5.below hb6 hlt5).alloc _) | exact cells8r (hR5.below hb7 hlt5) | exact cells8r hR8 | exact cells8r hR9)) ((first
    | (go_at_call_of 10 (2 : Nat); go_must (refine (short_lit 9 [l1, l2] F1 _ _ _ _ HF1'.out (by exact rfl) (by exact parts_in2 hP1.out hP2.out 22) (by omega) (by simp; have := H1.out.len; have := H2.out.len; omega) (by exact hT5.alloc _)).mono ?_); go_must (rintro e w6 ⟨rfl, hB6⟩; have hb6 : Below w5.heap.size w5 w6 := ((Below.refl w5.heap.size w5).alloc (Nat.le_refl _) (.cells #[.slice a1 j c1, .slice a2 m c2] 22)).drew.trans (hB6.mono (by simp)); obtain ⟨q0, q1, q2, q3, q4, q5, q6, q7⟩ := cells8r (hR5.below hb6 hlt5); have hz6 := hb6.size; clear hB6))
    | (go_at_call_of 10 (3 : Nat); go_must (refine (short_lit 9 [l1, l2, []] F2 _ _ _ _ HF2.out (by exact rfl) (by exact parts_in3 (hP1.out.below hb6 (Nat.le_refl _)) (hP2.out.below hb6 (Nat.le_refl _)) 22) (by omega) (by simp; have := H1.out.len; have := H2.out.len; omega) (by exact (hT5.below hb6 (by omega)).alloc _)).mono ?_); go_must (rintro e w7 ⟨rfl, hB7⟩; have hb7 : Below w5.heap.size w5 w7 := hb6.trans (((Below.refl w5.heap.size w6).alloc hz6 (.cells #[.slice a1 j c1, .slice a2 m c2, .slice none 0 0] 22)).trans (hB7.mono (by simp; omega))); have hz7 := hb7.size; have ho7 := hide (HO5.out.below hb7); have hR7 := hR5.below hb7 hlt5; clear hB7))
    | (go_at_call 12; go_must (refine (part_nil w.heap.size _ T _ (by exact ho7.out) (by omega) (by omega)).mono ?_); go_must (rintro e w8 ⟨v8, rfl, hO8, hB8, hK8⟩; have hO9 : OwnB w8 w.heap.size v8 T2 := (by rw [HTT2.out]; exact hO8); obtain ⟨g8, c8, rfl, hk1, hk2, hk3, hk4, hk5⟩ := hO9.form hT2a; have hs8 := hide hO9.sl; have hb8 : Below w.heap.size w w8 := (hb5.trans (hb7.mono hz5)).trans hB8; have hz8 := hb8.size; have hR8 : RowAt w8 w4.heap.size 24 (rowB 32 F1) := (hK8 w4.heap.size hR7.lt (by simp [Value.ownBlock]; omega)).trans hR7; clear hk5 hO8 hB8 hO9 hk3 hK8))
    | (go_at_call 13; go_must (refine (cut_lit T2 F2 _ T2.length c8 _ HF2T.out (by exact rfl) (by exact hs8.out) (fun h => (by cases h)) (by omega)).mono ?_); go_must (rintro e w9 ⟨rfl, hB9⟩; have hb9 : Below w.heap.size w w9 := hb8.trans (hB9.mono hz8); have hR9 := hR8.below hB9 hR8.lt; clear hB9))))
  all_goals go_wp2
  all_goals go_ret
  all_goals exact ⟨rfl, hb9⟩
end Go.Proofs.YtfpggcgfmhooeaaDoor
