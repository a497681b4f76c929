/- signetlaw7.known answers true. -/
import Derived.Test.YtlpidcgnipgkoaaDoorHlp
import Derived.Test.YtlpidcgnipgkoaaDoorKnn
namespace Go.Proofs.YtlpidcgnipgkoaaDoor
open Go.RowKit
def a1 : Array Value := #[.int .u8 1, .int .u8 0, .int .u8 0, .int .u8 0, .int .u8 0, .int .u8 0, .int .u8 0, .int .u8 0]
set_option maxRecDepth 5000 in
theorem a1_row : a1 = rowB 8 f1 := by kernel_rfl
set_option maxRecDepth 5000 in
theorem a1_new (w : World) : RowAt (w.alloc (.cells a1 22)) w.heap.size 22 (rowB 8 f1) := by rw [← a1_row]; exact RowAt.new _ _ _
set_option maxRecDepth 5000 in
theorem run_nz8 (F : Nat → BitVec 8) (h : (F 0 == 176) = true) (w : World) : (Op.equalIn 10000 22 (.agg #[.int .u8 (F 0).toNat, .int .u8 (F 1).toNat, .int .u8 (F 2).toNat, .int .u8 (F 3).toNat, .int .u8 (F 4).toNat, .int .u8 (F 5).toNat, .int .u8 (F 6).toNat, .int .u8 (F 7).toNat]) (.agg #[.int .u8 0, .int .u8 0, .int .u8 0, .int .u8 0, .int .u8 0, .int .u8 0, .int .u8 0, .int .u8 0])).run Tryd.prog w = .ok false w := by
  have h1 := run_cmp8 F (fun _ => 0) w
  rw [← z8_row] at h1
  have h2 : decide (∀ j ∈ List.range 8, F j = (fun _ => 0) j) = false := by
    rw [decide_eq_false_iff_not]
    intro h3
    have h4 := h3 0 (by simp)
    rw [h4] at h
    exact absurd h (by decide)
  rw [h2] at h1
  rw [lit8]
  exact h1
set_option maxRecDepth 3000 in
set_option maxHeartbeats 2000000 in
theorem known_any (w : World) (hT : Tab w) : Calls Tryd.prog 7 #[] w fun e w' => e = .returned (.bool true) ∧ Below w.heap.size w w' := by
  have hT0 := hT.1
  have hR0 := a1_new w
  have hb0 : Below w.heap.size w (w.alloc (.cells a1 22)) := (Below.refl _ _).alloc (Nat.le_refl _) _
  have hcv := run_conv (w.alloc (.cells a1 22)) #[.int .u8 104, .int .u8 105] (w.heap.size + 1) 2 2 (by simp)
  have hs0 := SlL.litm (w.alloc (.cells a1 22)) [104, 105] #[.int .u8 104, .int .u8 105] 5 (2, 3) rfl
  rw [show (w.alloc (.cells a1 22)).heap.size = w.heap.size + 1 by simp] at hs0
  unfold a1 at hR0 hb0 hcv hs0
  have hbA := hb0.alloc (by simp) (.cells #[.int .u8 104, .int .u8 105] 5 (2, 3))
  have hRA := hR0.alloc (.cells #[.int .u8 104, .int .u8 105] 5 (2, 3))
  have hTA := hT.below hbA hT0
  obtain ⟨L, HL⟩ : ∃ L, Hid (O.sigL f1 3 (O.dig [104, 105]) 32 = L) := ⟨_, rfl⟩
  obtain ⟨Pf, HPf⟩ : ∃ Pf, Hid (O.pub f1 3 = Pf) := ⟨_, rfl⟩
  have hLl : L.length = 512 := by rw [← HL.out, O.sigL_len]
  have HLl := hide hLl
  have HOP : Hid (O.opened (O.dig [104, 105]) L = Pf) := by show _ = _; rw [← HL.out, O.opened_sig]; exact HPf.out
  go_enter Tryd.func7, Tryd.ntmps7
  go_wp2_with (refine wpList_load_rowAt rfl 22 (.tmp 1) rfl w.heap.size rfl 22 _ _ (by exact hR0) Tryd.underlying22 rfl (by rw [rowB_size]; exact info28) ?_)
  refine (sign_any f1 3 [104, 105] _ 2 2 _ (by exact rfl) (by exact hs0) (by omega) (by omega) (by omega) (by exact hTA)).mono ?_
  rintro e w1 ⟨v1, rfl, hM1, hB1⟩
  rw [HL.out] at hM1
  obtain ⟨g, c, rfl, hg, hc, hS1⟩ := hM1.at512 hLl
  have hb1 := hbA.trans (hB1.mono (by simp; omega))
  have hR1 := hRA.below hB1 (by simp; omega)
  have hz1 := hb1.size
  have hgz : g < w1.heap.size := by
    obtain ⟨b, o, e, hlt⟩ := hS1.at (by omega)
    cases e; exact hlt
  have hcv1 := run_conv w1 #[.int .u8 104, .int .u8 105] w1.heap.size 2 2 rfl
  have hs1 := SlL.litm w1 [104, 105] #[.int .u8 104, .int .u8 105] 5 (2, 3) rfl
  have hbB := hb1.alloc hz1 (.cells #[.int .u8 104, .int .u8 105] 5 (2, 3))
  have hTB := hT.below hbB hT0
  have hS1' := hS1.alloc (.cells #[.int .u8 104, .int .u8 105] 5 (2, 3))
  have hR1' := hR1.alloc (.cells #[.int .u8 104, .int .u8 105] 5 (2, 3))
  clear hM1 hB1 hbA hRA hTA hcv hs0 hR0 hb0
  go_wp2_with fail
  refine (open_any [104, 105] L _ _ 2 2 c _ (by exact rfl) (by exact hs1) (by omega) (by omega) HLl (by exact hS1') (by exact hc) (by exact hTB)).mono ?_
  rintro e w2 ⟨rfl, hB2⟩
  rw [HOP.out]
  have hb2 := hbB.trans (hB2.mono (by simp; omega))
  have hR2 := hR1'.below hB2 hR1'.lt
  have hz2 := hb2.size
  have hw2 := hR2.lt
  clear hB2 hbB hTB hS1' hR1' hcv1 hs1 hS1
  go_wp2_with (refine wpList_store_abs rfl 22 (.tmp 3) (.tmp 17) rfl w2.heap.size (rowB 8 Pf) rfl rfl 22 _ (RowAt.new w2 22 _) (by rw [rowB_size]; exact info28) (by rw [rowB_size]; rfl) (rowB_one _ _) w2.heap.size (Nat.le_refl _) ?_; intro w3 hR3 hO3 hz3 hB3; have hb3 := (hb2.alloc hz2 _).trans (hB3.mono hz2); have hq3 := hO3 _ _ _ (by omega) (hR2.alloc _); have hz3' := hb3.size; have hcv3 := run_conv w3 #[.int .u8 104, .int .u8 105] w3.heap.size 2 2 rfl; clear hO3 hz3 hB3 hb2 hR2)
  refine (open_bad _ none 2 2 0 0 _ (by omega)).mono ?_
  rintro e w4 ⟨rfl, hB4⟩
  have hb4 := (hb3.alloc hz3' _).trans (hB4.mono (by simp; omega))
  have hR4 := (hR3.alloc _).below hB4 (hR3.alloc _).lt
  have hq4 := (hq3.alloc _).below hB4 (hq3.alloc _).lt
  have hz4 := hb4.size
  have hw4 := hR4.lt
  have hw5 := hq4.lt
  clear hB4 hb3 hR3 hq3 hcv3
  go_wp2_with (refine wpList_store_abs rfl 22 (.tmp 5) (.tmp 23) rfl w4.heap.size (rowB 8 (fun _ => 0)) rfl rfl 22 _ (RowAt.new w4 22 _) (by rw [rowB_size]; exact info28) (by rw [rowB_size]; rfl) (rowB_one _ _) w4.heap.size (Nat.le_refl _) ?_; intro w5 hR5 hO5 hz5 hB5; have hb5 := (hb4.alloc hz4 _).trans (hB5.mono hz4); have hq5 := hO5 _ _ _ (by omega) (hq4.alloc _); have hp5 := hO5 _ _ _ (by omega) (hR4.alloc _); clear hO5 hz5 hB5 hb4 hR4 hq4 hR5)
  have hK5 : KS f1 Pf w.heap.size w2.heap.size w w5 := ⟨hb5, hq5, hp5⟩
  clear hb5 hq5 hp5
  have heq := run_eq8 Pf
  have hne := run_nz8 Pf (by rw [← HPf.out]; exact pub_known)
  have HT := hide hT
  clear hT hLl hR1 hb1
  go_region_held (fun w' => KS f1 Pf w.heap.size w2.heap.size w w' ∧ w'.cell? ⟨w.heap.size, 0, none⟩ = some (.int .u8 (f1 0).toNat) ∧ w'.cell? ⟨w.heap.size, 1, none⟩ = some (.int .u8 (f1 1).toNat) ∧ w'.cell? ⟨w.heap.size, 2, none⟩ = some (.int .u8 (f1 2).toNat) ∧ w'.cell? ⟨w.heap.size, 3, none⟩ = some (.int .u8 (f1 3).toNat) ∧ w'.cell? ⟨w.heap.size, 4, none⟩ = some (.int .u8 (f1 4).toNat) ∧ w'.cell? ⟨w.heap.size, 5, none⟩ = some (.int .u8 (f1 5).toNat) ∧ w'.cell? ⟨w.heap.size, 6, none⟩ = some (.int .u8 (f1 6).toNat) ∧ w'.cell? ⟨w.heap.size, 7, none⟩ = some (.int .u8 (f1 7).toNat) ∧ w'.cell? ⟨w2.heap.size, 0, none⟩ = some (.int .u8 (Pf 0).toNat) ∧ w'.cell? ⟨w2.heap.size, 1, none⟩ = some (.int .u8 (Pf 1).toNat) ∧ w'.cell? ⟨w2.heap.size, 2, none⟩ = some (.int .u8 (Pf 2).toNat) ∧ w'.cell? ⟨w2.heap.size, 3, none⟩ = some (.int .u8 (Pf 3).toNat) ∧ w'.cell? ⟨w2.heap.size, 4, none⟩ = some (.int .u8 (Pf 4).toNat) ∧ w'.cell? ⟨w2.heap.size, 5, none⟩ = some (.int .u8 (Pf 5).toNat) ∧ w'.cell? ⟨w2.heap.size, 6, none⟩ = some (.int .u8 (Pf 6).toNat) ∧ w'.cell? ⟨w2.heap.size, 7, none⟩ = some (.int .u8 (Pf 7).toNat))
    (first | exact hK5.loads | exact hK5.drew.loads | exact hK6.loads | exact (KS.alloc hK6 _).loads | exact hK7.loads | fail)
    (first
      | (go_at_call 12; refine (public_lit f1 3 _ (by omega) (by exact HT.out.below hK5.drew.below hT0)).mono ?_; rintro e w6 ⟨rfl, hB6⟩; rw [HPf.out]; have hK6 := KS.called hK5.drew hB6; have hcv6 := run_conv w6 #[.int .u8 97, .int .u8 98, .int .u8 99] w6.heap.size 3 3 rfl; clear hB6)
      | (go_at_call 14; refine (digest_any [97, 98, 99] _ 3 3 _ (by exact rfl) (by exact SlL.litm w6 [97, 98, 99] _ 5 _ rfl) (by omega) (by omega) (by exact HT.out.below (hK6.alloc _).below hT0)).mono ?_; rintro e w7 ⟨rfl, hB7⟩; rw [dig_known]; have hK7 := KS.called (hK6.alloc _) hB7; clear hB7))
  all_goals go_wp2
  all_goals go_ret
  all_goals exact ⟨rfl, hK7.below⟩
end Go.Proofs.YtlpidcgnipgkoaaDoor
