/- signetlaw8.known answers true. -/
import Derived.Test.YtpiehjfoojipiaaDoorVfy
import Derived.Test.YtpiehjfoojipiaaDoorTsg
import Derived.Test.YtpiehjfoojipiaaDoorKnx
namespace Go.Proofs.YtpiehjfoojipiaaDoor
open Go.RowKit
def a5 : Array Value := #[.int .u8 5, .int .u8 0, .int .u8 0, .int .u8 0, .int .u8 0, .int .u8 0, .int .u8 0, .int .u8 0]
set_option maxRecDepth 5000 in
theorem a5_row : a5 = rowB 8 f5 := by kernel_rfl
set_option maxRecDepth 5000 in
theorem new5 (w : World) (hT : Tab w) : Calls Tryd.prog 11 #[.agg #[.int .u8 5, .int .u8 0, .int .u8 0, .int .u8 0, .int .u8 0, .int .u8 0, .int .u8 0, .int .u8 0], .int .i64 2] w fun e w' => ∃ t, e = .returned (.tuple #[.pointer (some ⟨t, 0, none⟩), .int .i64 0]) ∧ TreeAt w' t f5 2 ∧ w.heap.size ≤ t ∧ Below w.heap.size w w' := by
  have h := new_any f5 2 w (by omega) hT
  rw [← a5_row] at h; exact h
set_option maxRecDepth 5000 in
theorem new5_bad (w : World) : Calls Tryd.prog 11 #[.agg #[.int .u8 5, .int .u8 0, .int .u8 0, .int .u8 0, .int .u8 0, .int .u8 0, .int .u8 0, .int .u8 0], .int .i64 11] w fun e w' => e = .returned (.tuple #[.pointer none, .int .i64 70]) ∧ Below w.heap.size w w' := by
  have h := new_bad f5 11 w (by omega)
  rw [← a5_row] at h; exact h
/- a signature that a call made, and that lies in memory -/
set_option maxRecDepth 5000 in
theorem sig_form {w' : World} {base : Nat} {v : Value} {L : List (BitVec 8)} {n : Nat} (h : OwnB w' base v L) (hl : L.length = n) (h0 : 0 < n) : ∃ g c, v = .slice (some ⟨g, 0, none⟩) n c ∧ base ≤ g ∧ n ≤ c ∧ SlL w' (some ⟨g, 0, none⟩) L := by
  obtain ⟨g, c, rfl, h1, h2, h3, h4, _⟩ := h.form (by omega)
  have hs := h.sl
  rw [hl] at h2
  exact ⟨g, c, by rw [hl], h1, h2, hs⟩
set_option maxRecDepth 5000 in
theorem below_alloc {w w' : World} (h : Below w.heap.size w w') (o : Obj) : Below w.heap.size w (w'.alloc o) := h.alloc h.size o
set_option maxRecDepth 5000 in
theorem below_call {w w' w2 : World} (h : Below w.heap.size w w') (hb : Below w'.heap.size w' w2) : Below w.heap.size w w2 := h.trans (hb.mono h.size)
set_option maxRecDepth 3000 in
set_option maxHeartbeats 2000000 in
theorem known_any (w : World) (hT : Tab w) : Calls Tryd.prog 9 #[] w fun e w' => e = .returned (.bool true) ∧ Below w.heap.size w w' := by
  have hT0 := hT.1
  have HT := hide hT
  obtain ⟨R, HR⟩ : ∃ R, Hid (T.nd f5 2 0 = R) := ⟨_, hide rfl⟩
  obtain ⟨L, HL⟩ : ∃ L, Hid (T.sig f5 2 1 [104, 105] = L) := ⟨_, hide rfl⟩
  have HLl : Hid (L.length = 532) := by show _ = _; rw [← HL.out, T.sig_len]
  have HV1 : Hid (T.ver (O.lst R) 2 [104, 105] L = true) := by show _ = _; rw [← HR.out, ← HL.out]; exact ver_hi
  have HV2 : Hid (T.ver (O.lst R) 2 [104, 97] L = false) := by show _ = _; rw [← HR.out, ← HL.out]; exact ver_ha
  have HNU : Hid (T.num L = 1) := by show _ = _; rw [← HL.out]; exact sig_num _ _ _ _ (by omega)
  clear hT
  go_enter Tryd.func9, Tryd.ntmps9
  go_wp2_with fail
  refine (new5 w HT.out).mono ?_
  rintro e w1 ⟨t, rfl, hT1, _, hB1⟩
  have HT1 := hide hT1
  have HB1 := hide hB1
  have hcv := run_conv w1 #[.int .u8 104, .int .u8 105] w1.heap.size 2 2 rfl
  have HLV : Hid (∀ W, TreeAt W t f5 2 → Calls Tryd.prog 14 #[.pointer (some ⟨t, 0, none⟩)] W fun e w' => e = .returned (.int .u32 4) ∧ w' = W) := fun W h => leaves_any f5 2 t W (by omega) h
  have HBA : Hid (Below w.heap.size w (w1.alloc (.cells #[.int .u8 104, .int .u8 105] 5 (2, 3)))) := below_alloc hB1 _
  have HTA : Hid (TreeAt (w1.alloc (.cells #[.int .u8 104, .int .u8 105] 5 (2, 3))) t f5 2) := hT1.alloc _
  have HSA := hide (SlL.litm w1 [104, 105] #[.int .u8 104, .int .u8 105] 5 (2, 3) rfl)
  clear hT1 hB1
  go_wp2_with (go_at_call 14; refine (HLV.out _ (by exact HT1.out)).mono ?_; rintro e w' ⟨rfl, hw'⟩; rw [hw']; clear hw' w')
  refine (sign_ok f5 2 t 1 [104, 105] _ 2 2 _ (by omega) (by exact HTA.out) (by decide) (by exact rfl) (by exact HSA.out) (by omega) (by omega) (by exact HT.out.below HBA.out hT0)).mono ?_
  rintro e w2 ⟨v2, rfl, hO2, hB2⟩
  rw [HL.out] at hO2
  obtain ⟨g, c, rfl, hg, hc, hS2⟩ := sig_form hO2 HLl.out (by omega)
  have HS2 := hide hS2
  have HT2 := hide (HTA.out.below hB2)
  have HB2 := hide (below_call HBA.out hB2)
  clear hO2 hB2 hS2 hcv
  go_wp2_with fail
  refine (root_any f5 2 t _ (by omega) (by exact HT2.out)).mono ?_
  rintro e w3 ⟨rfl, hB3⟩
  rw [HR.out]
  have HS3 := hide (HS2.out.below hB3 (Nat.le_refl _))
  have HT3 := hide (HT2.out.below hB3)
  have HB3 := hide (below_call HB2.out hB3)
  clear hB3
  go_wp2_with (refine wpList_store_abs rfl 22 (.tmp 5) (.tmp 36) rfl w3.heap.size (rowB 8 R) rfl rfl 22 _ (RowAt.new w3 22 _) (by rw [rowB_size]; exact info28) (by rw [rowB_size]; rfl) (rowB_one _ _) w3.heap.size (Nat.le_refl _) ?_; intro w4 hR4 hO4 hz4 hB4; have hb4 : Below w3.heap.size w3 w4 := ((Below.refl _ _).alloc (Nat.le_refl _) _).trans hB4; have HR4 := hide hR4; have HS4 := hide (HS3.out.below hb4 (Nat.le_refl _)); have HT4 := hide (HT3.out.below hb4); have HB4 := hide (below_call HB3.out hb4); clear hO4 hz4 hB4 hb4 hR4)
  refine (sign_bad f5 2 t 4 none 0 0 _ (by omega) (by exact HT4.out) (by decide)).mono ?_
  rintro e w' ⟨rfl, hw'⟩
  rw [hw']; clear hw' w'
  go_wp2_with fail
  refine (new5_bad _).mono ?_
  rintro e w5 ⟨rfl, hB5⟩
  have HS5 := hide (HS4.out.below hB5 (Nat.le_refl _))
  have HR5 := hide (HR4.out.below hB5 HR4.out.lt)
  have HB5 := hide (below_call HB4.out hB5)
  clear hB5
  go_wp2_with fail
  refine (leaf_any L g 532 c _ HLl (by exact HS5.out) (by omega)).mono ?_
  rintro e w6 ⟨rfl, hB6⟩
  rw [HNU.out]
  have HS6 := hide (HS5.out.below hB6 (Nat.le_refl _))
  have HR6 := hide (HR5.out.below hB6 HR5.out.lt)
  have HB6 := hide (below_call HB5.out hB6)
  clear hB6
  have hcv6 := run_conv w6 #[.int .u8 104, .int .u8 105] w6.heap.size 2 2 rfl
  have HM6 := hide (SlL.litm w6 [104, 105] #[.int .u8 104, .int .u8 105] 5 (2, 3) rfl)
  have HS7 : Hid (SlL (w6.alloc (.cells #[.int .u8 104, .int .u8 105] 5 (2, 3))) (some ⟨g, 0, none⟩) L) := HS6.out.alloc _
  have HR7 : Hid (RowAt (w6.alloc (.cells #[.int .u8 104, .int .u8 105] 5 (2, 3))) w3.heap.size 22 (rowB 8 R)) := HR6.out.alloc _
  have HB7 : Hid (Below w.heap.size w (w6.alloc (.cells #[.int .u8 104, .int .u8 105] 5 (2, 3)))) := below_alloc HB6.out _
  go_wp2_with fail
  refine (verify_any (O.lst R) [104, 105] L 2 _ _ g 8 8 2 2 532 c _ (O.lst_len _) HLl (by exact rfl) hc (by exact HR7.out.sl8) (by exact HM6.out) (by exact HS7.out) (by omega) (by omega) (by exact HT.out.below HB7.out hT0)).mono ?_
  rintro e w8 ⟨rfl, hB8⟩
  rw [HV1.out]
  have HS8 := hide (HS7.out.below hB8 (Nat.le_refl _))
  have HR8 := hide (HR7.out.below hB8 HR7.out.lt)
  have HB8 := hide (below_call HB7.out hB8)
  clear hB8 hcv6
  have hcv8 := run_conv w8 #[.int .u8 104, .int .u8 97] w8.heap.size 2 2 rfl
  have HM8 := hide (SlL.litm w8 [104, 97] #[.int .u8 104, .int .u8 97] 5 (2, 3) rfl)
  have HS9 : Hid (SlL (w8.alloc (.cells #[.int .u8 104, .int .u8 97] 5 (2, 3))) (some ⟨g, 0, none⟩) L) := HS8.out.alloc _
  have HR9 : Hid (RowAt (w8.alloc (.cells #[.int .u8 104, .int .u8 97] 5 (2, 3))) w3.heap.size 22 (rowB 8 R)) := HR8.out.alloc _
  have HB9 : Hid (Below w.heap.size w (w8.alloc (.cells #[.int .u8 104, .int .u8 97] 5 (2, 3)))) := below_alloc HB8.out _
  go_wp2_with fail
  refine (verify_any (O.lst R) [104, 97] L 2 _ _ g 8 8 2 2 532 c _ (O.lst_len _) HLl (by exact rfl) hc (by exact HR9.out.sl8) (by exact HM8.out) (by exact HS9.out) (by omega) (by omega) (by exact HT.out.below HB9.out hT0)).mono ?_
  rintro e w10 ⟨rfl, hB10⟩
  rw [HV2.out]
  have HB10 := hide (below_call HB9.out hB10)
  clear hB10 hcv8
  go_wp2
  go_ret
  exact ⟨rfl, HB10.out⟩
end Go.Proofs.YtpiehjfoojipiaaDoor
