/- The law TreeVerifies. -/
import Derived.Test.YtpiehjfoojipiaaDoorSws
namespace Go.Proofs.YtpiehjfoojipiaaDoor
open Go.RowKit
set_option maxRecDepth 5000 in
theorem xor_byte (x y : Int) : ∃ b : BitVec 8, bits .xor .u8 x y = (b.toNat : Int) := by
  refine ⟨BitVec.ofInt 8 x ^^^ BitVec.ofInt 8 y, ?_⟩
  show IntKind.u8.wrap ((BitVec.ofInt 8 x ^^^ BitVec.ofInt 8 y).toNat : Int) = _
  rw [IntKind.wrap_u8]
  have := (BitVec.ofInt 8 x ^^^ BitVec.ofInt 8 y).isLt
  omega
set_option maxRecDepth 5000 in
theorem SlL.front {w : World} {g : Nat} {s : List (BitVec 8)} (h : SlL w (some ⟨g, 0, none⟩) s) (n : Nat) (hn : n ≤ s.length) : SlL w (some ⟨g, 0, none⟩) (s.take n) := by
  have := h.part 0 n (by omega)
  simpa using this
structure VW (w : World) (gR : Nat) (R : Nat → BitVec 8) (g : Nat) (L : List (BitVec 8)) (wr : World) : Prop where
  below : Below w.heap.size w wr
  r : RowAt wr gR 22 (rowB 8 R)
  sg : SlL wr (some ⟨g, 0, none⟩) L
set_option maxRecDepth 5000 in
theorem VW.called {w : World} {gR : Nat} {R : Nat → BitVec 8} {g : Nat} {L : List (BitVec 8)} {wr w' : World} (h : VW w gR R g L wr) (hb : Below wr.heap.size wr w') : VW w gR R g L w' :=
  ⟨below_call h.below hb, h.r.below hb h.r.lt, h.sg.below hb (Nat.le_refl _)⟩
set_option maxRecDepth 5000 in
theorem VW.drew {w : World} {gR : Nat} {R : Nat → BitVec 8} {g : Nat} {L : List (BitVec 8)} {wr : World} (h : VW w gR R g L wr) : VW w gR R g L wr.drew := h.called (Below.refl _ _).drew
/- what tree.Leaf reads is what stands there -/
set_option maxRecDepth 5000 in
theorem be_of {w : World} {g : Nat} {s : List (BitVec 8)} (h : SlL w (some ⟨g, 0, none⟩) s) (hn : 4 ≤ s.length) : ∃ s0 s1 s2 s3 : BitVec 8, w.cell? ⟨g, 0, none⟩ = some (.int .u8 s0.toNat) ∧ w.cell? ⟨g, 1, none⟩ = some (.int .u8 s1.toNat) ∧ w.cell? ⟨g, 2, none⟩ = some (.int .u8 s2.toNat) ∧ w.cell? ⟨g, 3, none⟩ = some (.int .u8 s3.toNat) ∧ bits .or .u32 (bits .or .u32 (bits .or .u32 ((s0.toNat : Int) * 16777216) ((s1.toNat : Int) * 65536)) ((s2.toNat : Int) * 256)) (s3.toNat : Int) = (T.num s : Int) := by
  obtain ⟨b, o, e, _, hc⟩ := h (by omega)
  cases e
  have c0 := hc 0 (by omega)
  have c1 := hc 1 (by omega)
  have c2 := hc 2 (by omega)
  have c3 := hc 3 (by omega)
  simp only [Nat.zero_add] at c0 c1 c2 c3
  exact ⟨_, _, _, _, c0, c1, c2, c3, w_be _ _ _ _⟩
set_option maxRecDepth 3000 in
set_option maxHeartbeats 2000000 in
theorem verifies_walk (f : Nat → BitVec 8) (h0 : Int) (lf : Nat) (m root : List (BitVec 8)) (ao ar : Option Addr) (n cap nr cr : Nat) (pl : Int) (x cut : Nat) (w : World) (hlf : lf < 4294967296) (hcut : cut < 65536) (hl : Hid (m.length = n)) (hs : SlL w ao m) (hnil : ao = none → cap = 0) (hc : n ≤ cap) (hlr : Hid (root.length = nr)) (hsr : SlL w ar root) (hT : Tab w) :
    Calls Tryd.prog 5 #[.agg (rowB 8 f), .int .i64 h0, .int .u32 (lf : Int), .slice ao n cap, .slice ar nr cr, .int .i64 pl, .int .u8 (x : Int), .int .u16 (cut : Int)] w fun e w' => e = .returned (.bool true) ∧ Below w.heap.size w w' := by
  have hT0 := hT.1
  have HT := hide hT
  have HS := hide hs
  have hb0 : Below w.heap.size w (w.alloc (.cells (rowB 8 f) 22)) := (Below.refl _ _).alloc (Nat.le_refl _) _
  have HB0 := hide hb0
  have HR0 := hide (RowAt.new w 22 (rowB 8 f))
  have HTa := hide (hT.alloc (.cells (rowB 8 f) 22))
  have HNIL := hide hnil
  have HSR := hide hsr
  clear hnil hsr hs hT hb0
  by_cases hbig : 300 < n
  · have q : decide ((300 : Int) < (n : Int)) = true := by simp; omega
    go_enter Tryd.func5, Tryd.ntmps5
    go_wp2_with ((go_at_call 9; refine (known_any _ (by exact HTa.out)).mono ?_; rintro e w1 ⟨rfl, hB1⟩; have HB1 := hide (HB0.out.trans (hB1.mono (by simp))); have HR1 := hide (HR0.out.below hB1 (by simp)); clear hB1))
    go_ret
    exact ⟨rfl, HB1.out⟩
  have q : decide ((300 : Int) < (n : Int)) = false := by simp; omega
  by_cases hbigr : 20 < nr
  · have q' : decide ((20 : Int) < (nr : Int)) = true := by simp; omega
    go_enter Tryd.func5, Tryd.ntmps5
    go_wp2_with ((go_at_call 9; refine (known_any _ (by exact HTa.out)).mono ?_; rintro e w1 ⟨rfl, hB1⟩; have HB1 := hide (HB0.out.trans (hB1.mono (by simp))); have HR1 := hide (HR0.out.below hB1 (by simp)); clear hB1))
    go_ret
    exact ⟨rfl, HB1.out⟩
  have q' : decide ((20 : Int) < (nr : Int)) = false := by simp; omega
  go_enter Tryd.func5, Tryd.ntmps5
  go_wp2_with ((go_at_call 9; refine (known_any _ (by exact HTa.out)).mono ?_; rintro e w1 ⟨rfl, hB1⟩; have HB1 := hide (HB0.out.trans (hB1.mono (by simp))); have HR1 := hide (HR0.out.below hB1 (by simp)); clear hB1))
  refine (place_any h0 4 _ (by omega) (by omega)).mono ?_
  rintro e w' ⟨H, hH, rfl, hw'⟩
  rw [hw']; clear hw' w'
  obtain ⟨N, HN⟩ : ∃ N, Hid (2 ^ H = N) := ⟨_, hide rfl⟩
  have hpw := pow_le10 H (by omega)
  have hpos : 0 < 2 ^ H := Nat.pow_pos (by omega)
  have hm32 : min H 32 = H := by omega
  have hw0 : IntKind.u32.wrap ((2 : Int) ^ H) = (N : Int) := by
    have : ((2 : Int) ^ H) = ((2 ^ H : Nat) : Int) := by simp
    rw [this, HN.out, IntKind.wrap_u32]
    rw [HN.out] at hpw
    omega
  rw [HN.out] at hpw hpos
  obtain ⟨LF, hLF, HLF, HLFN⟩ : ∃ LF : Nat, LF < 2 ^ H ∧ Hid (lf % N = LF) ∧ (LF < N) := ⟨lf % N, by rw [HN.out]; exact Nat.mod_lt _ hpos, hide rfl, Nat.mod_lt _ hpos⟩
  have hmod : Int.tmod (lf : Int) (N : Int) = (LF : Int) := by rw [Int.tmod_eq_emod_of_nonneg (by omega), ← Int.natCast_emod, HLF.out]
  have hNz : ¬ ((N : Int) = 0) := by omega
  have HLFP := hide hLF
  clear hLF
  go_wp2_with ((refine wpList_load_rowAt rfl 22 (.tmp 8) rfl w.heap.size rfl 22 _ _ (by exact HR1.out) Tryd.underlying22 rfl (by rw [rowB_size]; exact info28) ?_))
  refine (new_any f H _ (by omega) (by exact HT.out.below HB1.out hT0)).mono ?_
  rintro e w2 ⟨t, rfl, hT2, _, hB2⟩
  have HT2 := hide hT2
  have HB2 := hide (below_call HB1.out hB2)
  have hz2 := HB2.out.size
  clear hT2 hB2
  obtain ⟨R, HR⟩ : ∃ R, Hid (T.nd f H 0 = R) := ⟨_, hide rfl⟩
  obtain ⟨L, HL⟩ : ∃ L, Hid (T.sig f H LF m = L) := ⟨_, hide rfl⟩
  obtain ⟨NS, ns1, ns2⟩ : ∃ NS : Nat, NS ≤ 516 + 8 * H ∧ 516 + 8 * H ≤ NS := ⟨516 + 8 * H, Nat.le_refl _, Nat.le_refl _⟩
  have HLl : Hid (L.length = NS) := by show _ = _; rw [← HL.out, T.sig_len]; omega
  go_wp2_with fail
  refine (sign_ok f H t LF m ao n cap _ (by omega) (by exact HT2.out) HLFP.out hl (by exact HS.out.below HB2.out (Nat.le_refl _)) hc (by omega) (by exact HT.out.below HB2.out hT0)).mono ?_
  rintro e w3 ⟨v3, rfl, hO3, hB3⟩
  rw [HL.out] at hO3
  obtain ⟨g, c, cur, rfl, hgw, hgc, hrow, hcel⟩ := own_row hO3 (by rw [HLl.out]; omega)
  rw [HLl.out] at hgc ⊢
  have HRW3 := hide hrow
  have HCEL := hide hcel
  have HT3 := hide (HT2.out.below hB3)
  have HB3 := hide (below_call HB2.out hB3)
  have q6 : ((NS : Int) == 0) = false := by simp; omega
  clear hO3 hB3 hrow hcel hmod hw0
  go_wp2_with fail
  refine (root_any f H t _ (by omega) (by exact HT3.out)).mono ?_
  rintro e w4 ⟨rfl, hB4⟩
  rw [HR.out]
  have HRW4 := hide (HRW3.out.below hB4 HRW3.out.lt)
  have HB4 := hide (below_call HB3.out hB4)
  have hglt := HRW4.out.lt
  clear hB4
  go_wp2_with (refine wpList_store_abs rfl 22 (.tmp 21) (.tmp 62) rfl w4.heap.size (rowB 8 R) rfl rfl 22 _ (RowAt.new w4 22 _) (by rw [rowB_size]; exact info28) (by rw [rowB_size]; rfl) (rowB_one _ _) w4.heap.size (Nat.le_refl _) ?_; intro w5 hRx hOx hzx hBx; have hbx : Below w4.heap.size w4 w5 := ((Below.refl _ _).alloc (Nat.le_refl _) _).trans hBx; have HRR5 := hide hRx; have HRW5 := hide (HRW4.out.below hbx HRW4.out.lt); have HB5 := hide (below_call HB4.out hbx); clear hOx hzx hBx hbx hRx)
  refine (place_any pl NS _ (by omega) (by omega)).mono ?_
  rintro e w' ⟨r, hr, rfl, hw'⟩
  rw [hw']; clear hw' w'
  obtain ⟨lb, HLB⟩ : ∃ lb, Hid (L.getD r 0 = lb) := ⟨_, hide rfl⟩
  have hcr := HRW5.out.cell r
  rw [HCEL.out r (by rw [HLl.out]; exact hr), HLB.out] at hcr
  have hfr := HRW5.out.frozen r
  obtain ⟨bx, hbx⟩ := xor_byte (lb.toNat : Int) (x : Int)
  have ir : (r : Int) < (NS : Int) := by omega
  obtain ⟨L1, HL1⟩ : ∃ L1, Hid (L.set r bx = L1) := ⟨_, hide rfl⟩
  have HLl1 : Hid (L1.length = NS) := by show _ = _; rw [← HL1.out, List.length_set, HLl.out]
  have HK5 : Hid (VW w w4.heap.size R g L1 (w5.setCell ⟨g, r, none⟩ (.int .u8 (bx.toNat : Int)))) := by
    refine ⟨HB5.out.setCell (Nat.le_trans hz2 hgw) _, HRR5.out.other _ _ (by intro e; simp at e; omega), ?_⟩
    rw [← HL1.out]
    exact sl_set HRW5.out HCEL.out r bx _ rfl (by rw [HLl.out]; exact hr)
  obtain ⟨C4, HC4⟩ : ∃ C4, Hid (cut % 4 = C4) := ⟨_, hide rfl⟩
  have hC4 : C4 < 4 := by have := HC4.out; omega
  have hmod4 : Int.tmod (cut : Int) 4 = (C4 : Int) := by have := HC4.out; rw [Int.tmod_eq_emod_of_nonneg (by omega)]; omega
  have hw4 : IntKind.u16.wrap (C4 : Int) = (C4 : Int) := by rw [IntKind.wrap_u16]; omega
  by_cases hc0 : C4 = 0
  · have q7 : ((C4 : Int) == 0) = true := by simp; omega
    have q8 : ((C4 : Int) != 0) = false := by simp; omega
    obtain ⟨N1, n11, n12⟩ : ∃ N1 : Nat, N1 ≤ NS + 1 ∧ NS + 1 ≤ N1 := ⟨NS + 1, Nat.le_refl _, Nat.le_refl _⟩
    have hw1 : IntKind.i64.wrap ((NS : Int) + 1) = (N1 : Int) := by rw [IntKind.wrap_i64]; omega
    obtain ⟨CU, HCU⟩ : ∃ CU, Hid (cut % N1 = CU) := ⟨_, hide rfl⟩
    have hCU : CU < N1 := by rw [← HCU.out]; exact Nat.mod_lt _ (by omega)
    have hmodc : Int.tmod (cut : Int) (N1 : Int) = (CU : Int) := by rw [Int.tmod_eq_emod_of_nonneg (by omega), ← Int.natCast_emod, HCU.out]
    have hN1z : ¬ ((N1 : Int) = 0) := by omega
    have hN1m : ¬ ((N1 : Int) = -1) := by omega
    have hcw : IntKind.i64.wrap (cut : Int) = (cut : Int) := by rw [IntKind.wrap_i64]; omega
    have icu : (CU : Int) ≤ (c : Int) := by omega
    obtain ⟨L2, HL2⟩ : ∃ L2, Hid (L1.take CU = L2) := ⟨_, hide rfl⟩
    have HLl2 : Hid (L2.length = CU) := by show _ = _; rw [← HL2.out, List.length_take, HLl1.out]; omega
    have HKA : Hid (VW w w4.heap.size R g L2 (w5.setCell ⟨g, r, none⟩ (.int .u8 (bx.toNat : Int)))) := ⟨HK5.out.below, HK5.out.r, by rw [← HL2.out]; exact HK5.out.sg.front CU (by rw [HLl1.out]; omega)⟩
    clear hc0
    go_wp2_with fail
    generalize World.setCell _ _ _ = w5' at HKA ⊢
    clear hcr hfr hbx hmodc hw1 hcw
    obtain ⟨b1, HV1⟩ : ∃ b1, Hid (T.ver (O.lst R) (H : Int) m L2 = b1) := ⟨_, hide rfl⟩
    obtain ⟨b2, HV2⟩ : ∃ b2, Hid (T.ver root (H : Int) m L2 = b2) := ⟨_, hide rfl⟩
    go_region_held3 (fun _ => True) (trivial) (first
      | ((have hk := HK8.out; clear hk; go_at_call 18; refine (rverify_any root m L2 (H : Int) ar ao g nr cr n cap CU c _ hlr HLl2 hl (by omega) (by exact HSR.out.below HK8.out.below (Nat.le_refl _)) (by exact HS.out.below HK8.out.below (Nat.le_refl _)) (by exact HK8.out.sg) HNIL.out (by omega)).mono ?_; rintro e w9 ⟨rfl, hB9⟩; rw [HV2.out]; have HK9 := hide (HK8.out.called hB9); clear hB9))
      | ((have hk := HK7.out; clear hk; go_at_call 17; refine (verify_any root m L2 (H : Int) ar ao g nr cr n cap CU c _ hlr HLl2 hl (by omega) (by exact HSR.out.below HK7.out.below (Nat.le_refl _)) (by exact HS.out.below HK7.out.below (Nat.le_refl _)) (by exact HK7.out.sg) hc (by omega) (by exact HT.out.below HK7.out.below hT0)).mono ?_; rintro e w8 ⟨rfl, hB8⟩; rw [HV2.out]; have HK8 := hide (HK7.out.called hB8); clear hB8))
      | ((have hk := HK6.out; clear hk; go_at_call 18; refine (rverify_any (O.lst R) m L2 (H : Int) (some ⟨w4.heap.size, 0, none⟩) ao g 8 8 n cap CU c _ (O.lst_len _) HLl2 hl (by omega) (by exact HK6.out.r.sl8) (by exact HS.out.below HK6.out.below (Nat.le_refl _)) (by exact HK6.out.sg) HNIL.out (by omega)).mono ?_; rintro e w7 ⟨rfl, hB7⟩; rw [HV1.out]; have HK7 := hide (HK6.out.called hB7); clear hB7))
      | ((have hk := HKA.out; clear hk; go_at_call 17; refine (verify_any (O.lst R) m L2 (H : Int) (some ⟨w4.heap.size, 0, none⟩) ao g 8 8 n cap CU c _ (O.lst_len _) HLl2 hl (by omega) (by exact HKA.out.drew.r.sl8) (by exact HS.out.below HKA.out.drew.below (Nat.le_refl _)) (by exact HKA.out.drew.sg) hc (by omega) (by exact HT.out.below HKA.out.drew.below hT0)).mono ?_; rintro e w6 ⟨rfl, hB6⟩; rw [HV1.out]; have HK6 := hide (HKA.out.drew.called hB6); clear hB6)))
    by_cases hx0 : x = 0
    · have qx : ((x : Int) != 0) = false := by simp; omega
      by_cases h4 : 4 ≤ CU
      · go_wp2_with fail
        refine (leaf_any L2 g CU c _ HLl2 (by exact HK9.out.sg) (by omega)).mono ?_
        rintro e w20 ⟨rfl, hB20⟩
        have HK20 := hide (HK9.out.called hB20)
        clear hB20
        obtain ⟨s0, s1, s2, s3, c0, c1, c2, c3, hbe⟩ := be_of HK20.out.sg (by have := HLl2.out; omega)
        obtain ⟨PN, HPN⟩ : ∃ PN, Hid (T.num L2 = PN) := ⟨_, hide rfl⟩
        rw [HPN.out] at hbe ⊢
        have j0 : (0 : Int) < (CU : Int) := by omega
        have j1 : (1 : Int) < (CU : Int) := by omega
        have j2 : (2 : Int) < (CU : Int) := by omega
        have j3 : (3 : Int) < (CU : Int) := by omega
        have j4 : decide ((4 : Int) ≤ (CU : Int)) = true := by simp; omega
        have HBZ := hide HK20.out.below
        go_wp2_with fail
        go_quiet (fail)
        go_wp2
        go_ret
        exact ⟨rfl, HBZ.out.trans ((below_drewN' _ _).mono HBZ.out.size)⟩
      · go_wp2_with fail
        refine (leaf_bad _ CU c _ (by omega)).mono ?_
        rintro e w' ⟨rfl, hw'⟩
        rw [hw']; clear hw' w'
        have j4 : decide ((4 : Int) ≤ (CU : Int)) = false := by simp; omega
        have HBZ := hide HK9.out.below
        go_wp2_with fail
        go_quiet (fail)
        go_wp2
        go_ret
        exact ⟨rfl, HBZ.out.trans ((below_drewN' _ _).mono HBZ.out.size)⟩
    · have qx : ((x : Int) != 0) = true := by simp; omega
      by_cases h4 : 4 ≤ CU
      · go_wp2_with fail
        refine (leaf_any L2 g CU c _ HLl2 (by exact HK9.out.sg) (by omega)).mono ?_
        rintro e w20 ⟨rfl, hB20⟩
        have HK20 := hide (HK9.out.called hB20)
        clear hB20
        obtain ⟨s0, s1, s2, s3, c0, c1, c2, c3, hbe⟩ := be_of HK20.out.sg (by have := HLl2.out; omega)
        obtain ⟨PN, HPN⟩ : ∃ PN, Hid (T.num L2 = PN) := ⟨_, hide rfl⟩
        rw [HPN.out] at hbe ⊢
        have j0 : (0 : Int) < (CU : Int) := by omega
        have j1 : (1 : Int) < (CU : Int) := by omega
        have j2 : (2 : Int) < (CU : Int) := by omega
        have j3 : (3 : Int) < (CU : Int) := by omega
        have j4 : decide ((4 : Int) ≤ (CU : Int)) = true := by simp; omega
        have HBZ := hide HK20.out.below
        go_wp2_with fail
        go_quiet (fail)
        go_wp2
        go_ret
        exact ⟨rfl, HBZ.out.trans ((below_drewN' _ _).mono HBZ.out.size)⟩
      · go_wp2_with fail
        refine (leaf_bad _ CU c _ (by omega)).mono ?_
        rintro e w' ⟨rfl, hw'⟩
        rw [hw']; clear hw' w'
        have j4 : decide ((4 : Int) ≤ (CU : Int)) = false := by simp; omega
        have HBZ := hide HK9.out.below
        go_wp2_with fail
        go_quiet (fail)
        go_wp2
        go_ret
        exact ⟨rfl, HBZ.out.trans ((below_drewN' _ _).mono HBZ.out.size)⟩
  · have q7 : ((C4 : Int) == 0) = false := by simp; omega
    have q8 : ((C4 : Int) != 0) = true := by simp; omega
    have HKA := HK5
    clear hc0
    go_wp2_with fail
    generalize World.setCell _ _ _ = w5' at HKA ⊢
    clear hcr hfr hbx
    obtain ⟨b1, HV1⟩ : ∃ b1, Hid (T.ver (O.lst R) (H : Int) m L1 = b1) := ⟨_, hide rfl⟩
    obtain ⟨b2, HV2⟩ : ∃ b2, Hid (T.ver root (H : Int) m L1 = b2) := ⟨_, hide rfl⟩
    go_region_held3 (fun _ => True) (trivial) (first
      | ((have hk := HK8.out; clear hk; go_at_call 18; refine (rverify_any root m L1 (H : Int) ar ao g nr cr n cap NS c _ hlr HLl1 hl (by omega) (by exact HSR.out.below HK8.out.below (Nat.le_refl _)) (by exact HS.out.below HK8.out.below (Nat.le_refl _)) (by exact HK8.out.sg) HNIL.out (by omega)).mono ?_; rintro e w9 ⟨rfl, hB9⟩; rw [HV2.out]; have HK9 := hide (HK8.out.called hB9); clear hB9))
      | ((have hk := HK7.out; clear hk; go_at_call 17; refine (verify_any root m L1 (H : Int) ar ao g nr cr n cap NS c _ hlr HLl1 hl (by omega) (by exact HSR.out.below HK7.out.below (Nat.le_refl _)) (by exact HS.out.below HK7.out.below (Nat.le_refl _)) (by exact HK7.out.sg) hc (by omega) (by exact HT.out.below HK7.out.below hT0)).mono ?_; rintro e w8 ⟨rfl, hB8⟩; rw [HV2.out]; have HK8 := hide (HK7.out.called hB8); clear hB8))
      | ((have hk := HK6.out; clear hk; go_at_call 18; refine (rverify_any (O.lst R) m L1 (H : Int) (some ⟨w4.heap.size, 0, none⟩) ao g 8 8 n cap NS c _ (O.lst_len _) HLl1 hl (by omega) (by exact HK6.out.r.sl8) (by exact HS.out.below HK6.out.below (Nat.le_refl _)) (by exact HK6.out.sg) HNIL.out (by omega)).mono ?_; rintro e w7 ⟨rfl, hB7⟩; rw [HV1.out]; have HK7 := hide (HK6.out.called hB7); clear hB7))
      | ((have hk := HKA.out; clear hk; go_at_call 17; refine (verify_any (O.lst R) m L1 (H : Int) (some ⟨w4.heap.size, 0, none⟩) ao g 8 8 n cap NS c _ (O.lst_len _) HLl1 hl (by omega) (by exact HKA.out.drew.r.sl8) (by exact HS.out.below HKA.out.drew.below (Nat.le_refl _)) (by exact HKA.out.drew.sg) hc (by omega) (by exact HT.out.below HKA.out.drew.below hT0)).mono ?_; rintro e w6 ⟨rfl, hB6⟩; rw [HV1.out]; have HK6 := hide (HKA.out.drew.called hB6); clear hB6)))
    by_cases hx0 : x = 0
    · have qx : ((x : Int) != 0) = false := by simp; omega
      go_wp2_with fail
      refine (leaf_any L1 g NS c _ HLl1 (by exact HK9.out.sg) (by omega)).mono ?_
      rintro e w20 ⟨rfl, hB20⟩
      have HK20 := hide (HK9.out.called hB20)
      clear hB20
      obtain ⟨s0, s1, s2, s3, c0, c1, c2, c3, hbe⟩ := be_of HK20.out.sg (by have := HLl1.out; omega)
      obtain ⟨PN, HPN⟩ : ∃ PN, Hid (T.num L1 = PN) := ⟨_, hide rfl⟩
      rw [HPN.out] at hbe ⊢
      have j0 : (0 : Int) < (NS : Int) := by omega
      have j1 : (1 : Int) < (NS : Int) := by omega
      have j2 : (2 : Int) < (NS : Int) := by omega
      have j3 : (3 : Int) < (NS : Int) := by omega
      have j4 : decide ((4 : Int) ≤ (NS : Int)) = true := by simp; omega
      have HBZ := hide HK20.out.below
      go_wp2_with fail
      go_quiet (fail)
      go_wp2
      go_ret
      exact ⟨rfl, HBZ.out.trans ((below_drewN' _ _).mono HBZ.out.size)⟩
    · have qx : ((x : Int) != 0) = true := by simp; omega
      go_wp2_with fail
      refine (verify_any (O.lst R) m L1 (H : Int) (some ⟨w4.heap.size, 0, none⟩) ao g 8 8 n cap NS c _ (O.lst_len _) HLl1 hl (by omega) (by exact HK9.out.r.sl8) (by exact HS.out.below HK9.out.below (Nat.le_refl _)) (by exact HK9.out.sg) hc (by omega) (by exact HT.out.below HK9.out.below hT0)).mono ?_
      rintro e w10 ⟨rfl, hB10⟩
      rw [HV1.out]
      have HK10 := hide (HK9.out.called hB10)
      clear hB10
      cases b1 with
      | true =>
        go_wp2_with fail
        refine (rverify_any (O.lst R) m L1 (H : Int) (some ⟨w4.heap.size, 0, none⟩) ao g 8 8 n cap NS c _ (O.lst_len _) HLl1 hl (by omega) (by exact HK10.out.r.sl8) (by exact HS.out.below HK10.out.below (Nat.le_refl _)) (by exact HK10.out.sg) HNIL.out (by omega)).mono ?_
        rintro e w11 ⟨rfl, hB11⟩
        rw [HV1.out]
        have HK11 := hide (HK10.out.called hB11)
        clear hB11
        go_wp2
        go_ret
        exact ⟨rfl, HK11.out.below⟩
      | false =>
        go_wp2_with fail
        refine (leaf_any L1 g NS c _ HLl1 (by exact HK10.out.sg) (by omega)).mono ?_
        rintro e w20 ⟨rfl, hB20⟩
        have HK20 := hide (HK10.out.called hB20)
        clear hB20
        obtain ⟨s0, s1, s2, s3, c0, c1, c2, c3, hbe⟩ := be_of HK20.out.sg (by have := HLl1.out; omega)
        obtain ⟨PN, HPN⟩ : ∃ PN, Hid (T.num L1 = PN) := ⟨_, hide rfl⟩
        rw [HPN.out] at hbe ⊢
        have j0 : (0 : Int) < (NS : Int) := by omega
        have j1 : (1 : Int) < (NS : Int) := by omega
        have j2 : (2 : Int) < (NS : Int) := by omega
        have j3 : (3 : Int) < (NS : Int) := by omega
        have j4 : decide ((4 : Int) ≤ (NS : Int)) = true := by simp; omega
        have HBZ := hide HK20.out.below
        go_wp2_with fail
        go_quiet (fail)
        go_wp2
        go_ret
        exact ⟨rfl, HBZ.out.trans ((below_drewN' _ _).mono HBZ.out.size)⟩
end Go.Proofs.YtpiehjfoojipiaaDoor
