/- The law TreeSigns. -/
import Derived.Test.YtpiehjfoojipiaaDoorKno
namespace Go.Proofs.YtpiehjfoojipiaaDoor
open Go.RowKit
structure QS (f : Nat → BitVec 8) (g : Nat) (L : List (BitVec 8)) (w wr : World) : Prop where
  q : QInv f w wr
  sl : SlL wr (some ⟨g, 0, none⟩) L
set_option maxRecDepth 5000 in
theorem QS.drew {f : Nat → BitVec 8} {g : Nat} {L : List (BitVec 8)} {w wr : World} (h : QS f g L w wr) : QS f g L w wr.drew := ⟨h.q.drew, h.sl.drew⟩
set_option maxRecDepth 5000 in
theorem QS.called {f : Nat → BitVec 8} {g : Nat} {L : List (BitVec 8)} {w wr w' : World} (h : QS f g L w wr) (hb : Below wr.heap.size wr w') : QS f g L w w' := ⟨h.q.called hb, h.sl.below hb (Nat.le_refl _)⟩
set_option maxRecDepth 5000 in
theorem QS.loads {f : Nat → BitVec 8} {g : Nat} {L : List (BitVec 8)} {w w' : World} (h : QS f g L w w') : QS f g L w w' ∧ w'.cell? ⟨w.heap.size, 0, none⟩ = some (.int .u8 (f 0).toNat) ∧ w'.cell? ⟨w.heap.size, 1, none⟩ = some (.int .u8 (f 1).toNat) ∧ w'.cell? ⟨w.heap.size, 2, none⟩ = some (.int .u8 (f 2).toNat) ∧ w'.cell? ⟨w.heap.size, 3, none⟩ = some (.int .u8 (f 3).toNat) ∧ w'.cell? ⟨w.heap.size, 4, none⟩ = some (.int .u8 (f 4).toNat) ∧ w'.cell? ⟨w.heap.size, 5, none⟩ = some (.int .u8 (f 5).toNat) ∧ w'.cell? ⟨w.heap.size, 6, none⟩ = some (.int .u8 (f 6).toNat) ∧ w'.cell? ⟨w.heap.size, 7, none⟩ = some (.int .u8 (f 7).toNat) := ⟨h, h.q.loads.2⟩
set_option maxRecDepth 3000 in
set_option maxHeartbeats 1000000 in
theorem signs_walk (f : Nat → BitVec 8) (h0 : Int) (lf : Nat) (m : List (BitVec 8)) (ao : Option Addr) (n cap : Nat) (w : World) (hlf : lf < 4294967296) (hl : Hid (m.length = n)) (hs : SlL w ao m) (hnil : ao = none → cap = 0) (hc : n ≤ cap) (hT : Tab w) :
    Calls Tryd.prog 4 #[.agg (rowB 8 f), .int .i64 h0, .int .u32 (lf : Int), .slice ao n cap] w fun e w' => e = .returned (.bool true) ∧ Below w.heap.size w w' := by
  have hT0 := hT.1
  have HT := hide hT
  have HS := hide hs
  have hb0 : Below w.heap.size w (w.alloc (.cells (rowB 8 f) 22)) := (Below.refl _ _).alloc (Nat.le_refl _) _
  have HB0 := hide hb0
  have HR0 := hide (RowAt.new w 22 (rowB 8 f))
  have HTa := hide (hT.alloc (.cells (rowB 8 f) 22))
  have HNIL := hide hnil
  clear hnil hs hT hb0
  by_cases hbig : 300 < n
  · have q : decide ((300 : Int) < (n : Int)) = true := by simp; omega
    go_enter Tryd.func4, Tryd.ntmps4
    go_wp2_with ((go_at_call 9; refine (known_any _ (by exact HTa.out)).mono ?_; rintro e w1 ⟨rfl, hB1⟩; have HB1 := hide (HB0.out.trans (hB1.mono (by simp))); have HR1 := hide (HR0.out.below hB1 (by simp)); clear hB1))
    go_ret
    exact ⟨rfl, HB1.out⟩
  have q : decide ((300 : Int) < (n : Int)) = false := by simp; omega
  go_enter Tryd.func4, Tryd.ntmps4
  go_wp2_with ((go_at_call 9; refine (known_any _ (by exact HTa.out)).mono ?_; rintro e w1 ⟨rfl, hB1⟩; have HB1 := hide (HB0.out.trans (hB1.mono (by simp))); have HR1 := hide (HR0.out.below hB1 (by simp)); clear hB1))
  refine (place_any h0 5 _ (by omega) (by omega)).mono ?_
  rintro e w' ⟨H, hH, rfl, hw'⟩
  rw [hw']; clear hw' w'
  go_wp2_with ((refine wpList_load_rowAt rfl 22 (.tmp 4) rfl w.heap.size rfl 22 _ _ (by exact HR1.out) Tryd.underlying22 rfl (by rw [rowB_size]; exact info28) ?_))
  refine (new_any f H _ (by omega) (by exact HT.out.below HB1.out hT0)).mono ?_
  rintro e w2 ⟨t, rfl, hT2, _, hB2⟩
  have HT2 := hide hT2
  have HR2 := hide (HR1.out.below hB2 HR1.out.lt)
  have HB2 := hide (below_call HB1.out hB2)
  clear hT2 hB2
  obtain ⟨N, HN⟩ : ∃ N, Hid (2 ^ H = N) := ⟨_, hide rfl⟩
  have hpw := pow_le10 H (by omega)
  have hpos : 0 < 2 ^ H := Nat.pow_pos (by omega)
  have hm32 : min H 32 = H := by omega
  have hw0 : IntKind.u32.wrap ((2 : Int) ^ H) = (N : Int) := by
    have : ((2 : Int) ^ H) = ((2 ^ H : Nat) : Int) := by simp
    rw [this, HN.out, IntKind.wrap_u32]
    rw [HN.out] at hpw
    omega
  rw [HN.out] at hpw hpos
  obtain ⟨LF, hLF, HLF, HLFN⟩ : ∃ LF : Nat, LF < 2 ^ H ∧ Hid (lf % N = LF) ∧ (LF < N) := ⟨lf % N, by rw [HN.out]; exact Nat.mod_lt _ hpos, hide rfl, Nat.mod_lt _ hpos⟩
  obtain ⟨R, HR⟩ : ∃ R, Hid (T.nd f H 0 = R) := ⟨_, hide rfl⟩
  obtain ⟨L, HL⟩ : ∃ L, Hid (T.sig f H LF m = L) := ⟨_, hide rfl⟩
  obtain ⟨G, HG⟩ : ∃ G, Hid (O.sigL f LF (O.dig m) 32 = G) := ⟨_, hide rfl⟩
  have HGl : Hid (G.length = 512) := by show _ = _; rw [← HG.out, O.sigL_len]
  have HGL : Hid ((L.drop 4).take 512 = G) := by show _ = _; rw [← HL.out, sig_mid, HG.out]
  obtain ⟨NS, ns1, ns2⟩ : ∃ NS : Nat, NS ≤ 516 + 8 * H ∧ 516 + 8 * H ≤ NS := ⟨516 + 8 * H, Nat.le_refl _, Nat.le_refl _⟩
  obtain ⟨H8, e81, e82⟩ : ∃ H8 : Nat, H8 ≤ 8 * H ∧ 8 * H ≤ H8 := ⟨8 * H, Nat.le_refl _, Nat.le_refl _⟩
  have HLl : Hid (L.length = NS) := by show _ = _; rw [← HL.out, T.sig_len]; omega
  have HV1 : Hid (T.ver (O.lst R) (H : Int) m L = true) := by show _ = _; rw [← HR.out, ← HL.out]; exact T.ver_sig f H LF m (by omega) hLF
  have HNU : Hid (T.num L = LF) := by show _ = _; rw [← HL.out]; exact sig_num _ _ _ _ (by omega)
  have hm1 : IntKind.i64.wrap (8 * (H : Int)) = (H8 : Int) := by rw [IntKind.wrap_i64]; omega
  have hm2 : IntKind.i64.wrap (516 + (H8 : Int)) = (NS : Int) := by rw [IntKind.wrap_i64]; omega
  have HLFP := hide hLF
  have HSG : Hid (∀ W, TreeAt W t f H → Below w.heap.size w W → Calls Tryd.prog 15 #[.pointer (some ⟨t, 0, none⟩), .int .u32 (LF : Int), .slice ao n cap] W fun e w' => ∃ v, e = .returned (.tuple #[v, .int .i64 0]) ∧ OwnB w' W.heap.size v L ∧ Below W.heap.size W w') := fun W h1 h2 => by
    have := sign_ok f H t LF m ao n cap W (by omega) h1 HLFP.out hl (HS.out.below h2 (Nat.le_refl _)) hc (by omega) (HT.out.below h2 hT0)
    rwa [HL.out] at this
  have hmod : Int.tmod (lf : Int) (N : Int) = (LF : Int) := by have := HLF.out; rw [Int.tmod_eq_emod_of_nonneg (by omega), ← Int.natCast_emod, HLF.out]
  have hNz : ¬ ((N : Int) = 0) := by omega
  clear hLF
  by_cases hbad : N ≤ lf
  · have q4 : decide (N ≤ lf) = true := by simpa using hbad
    go_wp2_with fail
    refine (sign_bad f H t lf ao n cap _ (by omega) (by exact HT2.out) (by rw [HN.out]; exact hbad)).mono ?_
    rintro e w' ⟨rfl, hw'⟩
    rw [hw']; clear hw' w'
    clear hbad
    go_wp2_with fail
    refine (HSG.out _ (by exact HT2.out) (by exact HB2.out)).mono ?_
    rintro e w3 ⟨v3, rfl, hO3, hB3⟩
    obtain ⟨g, c, rfl, _, hgc, hS3⟩ := sig_form hO3 HLl.out (by omega)
    have HG3 := hide hS3
    have HT3 := hide (HT2.out.below hB3)
    have HR3 := hide (HR2.out.below hB3 HR2.out.lt)
    have HB3 := hide (below_call HB2.out hB3)
    clear hO3 hB3 hS3
    go_wp2_with fail
    refine (root_any f H t _ (by omega) (by exact HT3.out)).mono ?_
    rintro e w4 ⟨rfl, hB4⟩
    rw [HR.out]
    have HG4 := hide (HG3.out.below hB4 (Nat.le_refl _))
    have HR4 := hide (HR3.out.below hB4 HR3.out.lt)
    have HB4 := hide (below_call HB3.out hB4)
    clear hB4
    go_wp2_with (refine wpList_store_abs rfl 22 (.tmp 13) (.tmp 61) rfl w4.heap.size (rowB 8 R) rfl rfl 22 _ (RowAt.new w4 22 _) (by rw [rowB_size]; exact info28) (by rw [rowB_size]; rfl) (rowB_one _ _) w4.heap.size (Nat.le_refl _) ?_; intro w5 hRx hOx hzx hBx; have hbx : Below w4.heap.size w4 w5 := ((Below.refl _ _).alloc (Nat.le_refl _) _).trans hBx; have HRR5 := hide hRx; have HG5 := hide (HG4.out.below hbx (Nat.le_refl _)); have HR5 := hide (HR4.out.below hbx HR4.out.lt); have HB5 := hide (below_call HB4.out hbx); clear hOx hzx hBx hbx hRx)
    refine (leaf_any L g NS c _ HLl (by exact HG5.out) (by omega)).mono ?_
    rintro e w6 ⟨rfl, hB6⟩
    rw [HNU.out]
    have HG6 := hide (HG5.out.below hB6 (Nat.le_refl _))
    have HR6 := hide (HR5.out.below hB6 HR5.out.lt)
    have HRR6 := hide (HRR5.out.below hB6 HRR5.out.lt)
    have HB6 := hide (below_call HB5.out hB6)
    clear hB6
    go_wp2_with fail
    refine (verify_any (O.lst R) m L (H : Int) _ ao g 8 8 n cap NS c _ (O.lst_len _) HLl hl hgc (by exact HRR6.out.sl8) (by exact HS.out.below HB6.out (Nat.le_refl _)) (by exact HG6.out) hc (by omega) (by exact HT.out.below HB6.out hT0)).mono ?_
    rintro e w7 ⟨rfl, hB7⟩
    rw [HV1.out]
    have HG7 := hide (HG6.out.below hB7 (Nat.le_refl _))
    have HR7 := hide (HR6.out.below hB7 HR6.out.lt)
    have HRR7 := hide (HRR6.out.below hB7 HRR6.out.lt)
    have HB7 := hide (below_call HB6.out hB7)
    clear hB7
    go_wp2_with fail
    refine (rverify_any (O.lst R) m L (H : Int) _ ao g 8 8 n cap NS c _ (O.lst_len _) HLl hl hgc (by exact HRR7.out.sl8) (by exact HS.out.below HB7.out (Nat.le_refl _)) (by exact HG7.out) HNIL.out (by omega)).mono ?_
    rintro e w8 ⟨rfl, hB8⟩
    rw [HV1.out]
    have HG8 := hide (HG7.out.below hB8 (Nat.le_refl _))
    have HR8 := hide (HR7.out.below hB8 HR7.out.lt)
    have HB8 := hide (below_call HB7.out hB8)
    clear hB8
    have HK8 : Hid (QS f g L w w8) := ⟨⟨HB8.out, HR8.out⟩, HG8.out⟩
    have i4 : (516 : Int) ≤ (c : Int) := by omega
    go_wp2_with fail
    go_region_held3 (fun w' => QS f g L w w' ∧ w'.cell? ⟨w.heap.size, 0, none⟩ = some (.int .u8 (f 0).toNat) ∧ w'.cell? ⟨w.heap.size, 1, none⟩ = some (.int .u8 (f 1).toNat) ∧ w'.cell? ⟨w.heap.size, 2, none⟩ = some (.int .u8 (f 2).toNat) ∧ w'.cell? ⟨w.heap.size, 3, none⟩ = some (.int .u8 (f 3).toNat) ∧ w'.cell? ⟨w.heap.size, 4, none⟩ = some (.int .u8 (f 4).toNat) ∧ w'.cell? ⟨w.heap.size, 5, none⟩ = some (.int .u8 (f 5).toNat) ∧ w'.cell? ⟨w.heap.size, 6, none⟩ = some (.int .u8 (f 6).toNat) ∧ w'.cell? ⟨w.heap.size, 7, none⟩ = some (.int .u8 (f 7).toNat))
      (first | exact HK8.out.loads | exact HK8.out.drew.loads | exact HK9.out.loads | fail)
      (first
        | ((go_at_call 20; refine (rsign_lit f LF m ao n cap _ hl (by exact HS.out.below HK8.out.drew.q.below (Nat.le_refl _)) HNIL.out (by omega) (by omega)).mono ?_; rintro e w9 ⟨v9, rfl, hM9, hB9⟩; rw [HG.out] at hM9; obtain ⟨g9, c9, rfl, _, _, hS9⟩ := hM9.at512 HGl.out; have HK9 := hide (HK8.out.drew.called hB9); have HS9 := hide hS9; clear hM9 hB9 hS9))
        | ((go_at_call 19; refine (bytes_same G _ _ 512 512 _ _ _ (by have h9 := HK9.out.sl.part 4 512 (by have := HLl.out; omega); rw [HGL.out] at h9; simpa using h9) (by exact HS9.out) HGl HGl).mono ?_; rintro e w' ⟨rfl, hw'⟩; rw [hw']; clear hw' w')))
    all_goals go_wp2
    all_goals go_ret
    all_goals exact ⟨rfl, HK9.out.q.below⟩
  · have q4 : decide (N ≤ lf) = false := by simpa using hbad
    obtain rfl : LF = lf := by have := HLF.out; rw [Nat.mod_eq_of_lt (by omega)] at this; exact this.symm
    clear hbad hmod
    go_wp2_with fail
    refine (HSG.out _ (by exact HT2.out) (by exact HB2.out)).mono ?_
    rintro e w3 ⟨v3, rfl, hO3, hB3⟩
    obtain ⟨g, c, rfl, _, hgc, hS3⟩ := sig_form hO3 HLl.out (by omega)
    have HG3 := hide hS3
    have HT3 := hide (HT2.out.below hB3)
    have HR3 := hide (HR2.out.below hB3 HR2.out.lt)
    have HB3 := hide (below_call HB2.out hB3)
    clear hO3 hB3 hS3
    go_wp2_with fail
    refine (root_any f H t _ (by omega) (by exact HT3.out)).mono ?_
    rintro e w4 ⟨rfl, hB4⟩
    rw [HR.out]
    have HG4 := hide (HG3.out.below hB4 (Nat.le_refl _))
    have HR4 := hide (HR3.out.below hB4 HR3.out.lt)
    have HB4 := hide (below_call HB3.out hB4)
    clear hB4
    go_wp2_with (refine wpList_store_abs rfl 22 (.tmp 13) (.tmp 61) rfl w4.heap.size (rowB 8 R) rfl rfl 22 _ (RowAt.new w4 22 _) (by rw [rowB_size]; exact info28) (by rw [rowB_size]; rfl) (rowB_one _ _) w4.heap.size (Nat.le_refl _) ?_; intro w5 hRx hOx hzx hBx; have hbx : Below w4.heap.size w4 w5 := ((Below.refl _ _).alloc (Nat.le_refl _) _).trans hBx; have HRR5 := hide hRx; have HG5 := hide (HG4.out.below hbx (Nat.le_refl _)); have HR5 := hide (HR4.out.below hbx HR4.out.lt); have HB5 := hide (below_call HB4.out hbx); clear hOx hzx hBx hbx hRx)
    refine (leaf_any L g NS c _ HLl (by exact HG5.out) (by omega)).mono ?_
    rintro e w6 ⟨rfl, hB6⟩
    rw [HNU.out]
    have HG6 := hide (HG5.out.below hB6 (Nat.le_refl _))
    have HR6 := hide (HR5.out.below hB6 HR5.out.lt)
    have HRR6 := hide (HRR5.out.below hB6 HRR5.out.lt)
    have HB6 := hide (below_call HB5.out hB6)
    clear hB6
    go_wp2_with fail
    refine (verify_any (O.lst R) m L (H : Int) _ ao g 8 8 n cap NS c _ (O.lst_len _) HLl hl hgc (by exact HRR6.out.sl8) (by exact HS.out.below HB6.out (Nat.le_refl _)) (by exact HG6.out) hc (by omega) (by exact HT.out.below HB6.out hT0)).mono ?_
    rintro e w7 ⟨rfl, hB7⟩
    rw [HV1.out]
    have HG7 := hide (HG6.out.below hB7 (Nat.le_refl _))
    have HR7 := hide (HR6.out.below hB7 HR6.out.lt)
    have HRR7 := hide (HRR6.out.below hB7 HRR6.out.lt)
    have HB7 := hide (below_call HB6.out hB7)
    clear hB7
    go_wp2_with fail
    refine (rverify_any (O.lst R) m L (H : Int) _ ao g 8 8 n cap NS c _ (O.lst_len _) HLl hl hgc (by exact HRR7.out.sl8) (by exact HS.out.below HB7.out (Nat.le_refl _)) (by exact HG7.out) HNIL.out (by omega)).mono ?_
    rintro e w8 ⟨rfl, hB8⟩
    rw [HV1.out]
    have HG8 := hide (HG7.out.below hB8 (Nat.le_refl _))
    have HR8 := hide (HR7.out.below hB8 HR7.out.lt)
    have HB8 := hide (below_call HB7.out hB8)
    clear hB8
    have HK8 : Hid (QS f g L w w8) := ⟨⟨HB8.out, HR8.out⟩, HG8.out⟩
    have i4 : (516 : Int) ≤ (c : Int) := by omega
    go_wp2_with fail
    go_region_held3 (fun w' => QS f g L w w' ∧ w'.cell? ⟨w.heap.size, 0, none⟩ = some (.int .u8 (f 0).toNat) ∧ w'.cell? ⟨w.heap.size, 1, none⟩ = some (.int .u8 (f 1).toNat) ∧ w'.cell? ⟨w.heap.size, 2, none⟩ = some (.int .u8 (f 2).toNat) ∧ w'.cell? ⟨w.heap.size, 3, none⟩ = some (.int .u8 (f 3).toNat) ∧ w'.cell? ⟨w.heap.size, 4, none⟩ = some (.int .u8 (f 4).toNat) ∧ w'.cell? ⟨w.heap.size, 5, none⟩ = some (.int .u8 (f 5).toNat) ∧ w'.cell? ⟨w.heap.size, 6, none⟩ = some (.int .u8 (f 6).toNat) ∧ w'.cell? ⟨w.heap.size, 7, none⟩ = some (.int .u8 (f 7).toNat))
      (first | exact HK8.out.loads | exact HK8.out.drew.loads | exact HK9.out.loads | fail)
      (first
        | ((go_at_call 20; refine (rsign_lit f LF m ao n cap _ hl (by exact HS.out.below HK8.out.drew.q.below (Nat.le_refl _)) HNIL.out (by omega) (by omega)).mono ?_; rintro e w9 ⟨v9, rfl, hM9, hB9⟩; rw [HG.out] at hM9; obtain ⟨g9, c9, rfl, _, _, hS9⟩ := hM9.at512 HGl.out; have HK9 := hide (HK8.out.drew.called hB9); have HS9 := hide hS9; clear hM9 hB9 hS9))
        | ((go_at_call 19; refine (bytes_same G _ _ 512 512 _ _ _ (by have h9 := HK9.out.sl.part 4 512 (by have := HLl.out; omega); rw [HGL.out] at h9; simpa using h9) (by exact HS9.out) HGl HGl).mono ?_; rintro e w' ⟨rfl, hw'⟩; rw [hw']; clear hw' w')))
    all_goals go_wp2
    all_goals go_ret
    all_goals exact ⟨rfl, HK9.out.q.below⟩
end Go.Proofs.YtpiehjfoojipiaaDoor
