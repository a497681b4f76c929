/- signetref7.Verify where the lengths are right. -/
import Derived.Test.YtpiehjfoojipiaaDoorRvf
import Derived.Test.YtpiehjfoojipiaaDoorTvf
namespace Go.Proofs.YtpiehjfoojipiaaDoor
open Go.RowKit
set_option maxRecDepth 3000 in
set_option maxHeartbeats 1000000 in
theorem rverify_yes (root m s : List (BitVec 8)) (h : Nat) (ar am : Option Addr) (g nr cr nm cm ns cs : Nat) (w : World) (hr : Hid (root.length = nr)) (hs : Hid (s.length = ns)) (hm : Hid (m.length = nm))
    (h8 : nr = 8) (hh : h ≤ 10) (hn : ns = 516 + 8 * h) (hcs : ns ≤ cs) (hsr : SlL w ar root) (hsm : SlL w am m) (hss : SlL w (some ⟨g, 0, none⟩) s) (hnilm : am = none → cm = 0) (hnm : nm < 1000000) :
    Calls Tryd.prog 18 #[.slice ar nr cr, .int .i64 (h : Int), .slice am nm cm, .slice (some ⟨g, 0, none⟩) ns cs] w fun e w' => e = .returned (.bool (T.ver root (h : Int) m s)) ∧ Below w.heap.size w w' := by
  have HNM := hide hnilm
  have HSR := hide hsr
  have HSM := hide hsm
  have HSS := hide hss
  have q1 : ((nr : Int) != 8) = false := by simp; omega
  have q2 : decide ((h : Int) < 0) = false := by simp
  have q10 : decide ((10 : Int) < (h : Int)) = false := by simp; omega
  obtain ⟨H8, e81, e82⟩ : ∃ H8 : Nat, H8 ≤ 8 * h ∧ 8 * h ≤ H8 := ⟨8 * h, Nat.le_refl _, Nat.le_refl _⟩
  obtain ⟨SZ, es1, es2⟩ : ∃ SZ : Nat, SZ ≤ 516 + H8 ∧ 516 + H8 ≤ SZ := ⟨516 + H8, Nat.le_refl _, Nat.le_refl _⟩
  have hm1 : IntKind.i64.wrap (8 * (h : Int)) = (H8 : Int) := by rw [IntKind.wrap_i64]; omega
  have hm2 : IntKind.i64.wrap (516 + (H8 : Int)) = (SZ : Int) := by rw [IntKind.wrap_i64]; omega
  have q3 : ((ns : Int) != (SZ : Int)) = false := by simp; omega
  have hnl := T.num_lt s
  obtain ⟨P, HP⟩ : ∃ P, Hid (T.num s = P) := ⟨_, hide rfl⟩
  rw [HP.out] at hnl
  have hpw := pow_le10 h hh
  obtain ⟨N, HN⟩ : ∃ N, Hid (2 ^ h = N) := ⟨_, hide rfl⟩
  have hm32 : min h 32 = h := by omega
  have hw0 : IntKind.u32.wrap ((2 : Int) ^ h) = (N : Int) := by
    have : ((2 : Int) ^ h) = ((2 ^ h : Nat) : Int) := by simp
    rw [this, HN.out, IntKind.wrap_u32]
    rw [HN.out] at hpw
    omega
  rw [HN.out] at hpw
  have hns1 : ns ≤ 516 + 8 * h := by omega
  have hns2 : 516 + 8 * h ≤ ns := by omega
  have HVER : Hid (T.ver root (h : Int) m s = (decide (P < N) && decide (O.lst (T.top h m s) = root))) := by
    show _ = _
    unfold T.ver
    rw [← Bool.decide_and, decide_eq_decide]
    have a1 := hr.out
    have a2 := hs.out
    rw [Int.toNat_natCast, HP.out, HN.out]
    constructor
    · rintro ⟨_, _, _, _, b1, b2⟩; exact ⟨b1, b2⟩
    · rintro ⟨b1, b2⟩; exact ⟨by omega, by omega, by omega, by omega, b1, b2⟩
  rw [HVER.out]
  clear HVER
  have HSS0 : Hid (SlL w (some ⟨g, 4, none⟩) ((s.drop 4).take 512)) := by
    have := hss.part 4 512 (by have := hs.out; omega)
    show SlL _ _ _
    simpa using this
  have HS4l : Hid (((s.drop 4).take 512).length = 512) := by
    show _ = _
    rw [List.length_take, List.length_drop]; have := hs.out; omega
  have HSLEN := hide hs.out
  have hnsg : 8 ≤ nr := by omega
  obtain ⟨br, orr, rfl, hbr⟩ := hsr.at (by have := hr.out; omega)
  have HRT : Hid (∀ W, Below w.heap.size w W → W.rangeAt br orr (bsL 8 (byt root 0))) := fun W hb => by
    have := range_byt 0 (hsr.below hb (Nat.le_refl _)) (by have := hr.out; omega)
    simpa using this
  have HRL : Hid (root.length = 8) := by show _ = _; have := hr.out; omega
  have HSG : Hid (∀ p, p + 8 ≤ ns → w.rangeAt g p (bsL 8 (byt s p))) := fun p hp => by
    have := range_byt p hss (by have := hs.out; omega)
    rwa [Nat.zero_add] at this
  have hglt : g < w.heap.size := by
    obtain ⟨b, o, e, hb⟩ := hss.at (by have := hs.out; omega)
    cases e; exact hb
  have HG4 : Hid (∀ j, j < 4 → w.cell? ⟨g, j, none⟩ = some (.int .u8 (byt s 0 j).toNat)) := fun j hj => by
    obtain ⟨b, o, e, _, hc⟩ := hss (by have := hs.out; omega)
    cases e
    have := hc j (by have := hs.out; omega)
    rw [Nat.zero_add] at this
    rw [this]; simp [byt]
  have HPe : Hid ((Sha.be (byt s 0 0) (byt s 0 1) (byt s 0 2) (byt s 0 3)).toNat = P) := by show _ = _; rw [← HP.out]; rfl
  have harr := run_arr
  have hc4 : (4 : Int) ≤ (cs : Int) := by omega
  have hc516 : (516 : Int) ≤ (cs : Int) := by omega
  clear hnilm hsr hsm hss hn
  obtain rfl : nr = 8 := h8
  by_cases hPN : N ≤ P
  · have q4 : decide (N ≤ P) = true := by simpa using hPN
    have q5 : decide (P < N) = false := by simp; omega
    rw [q5, Bool.false_and]
    go_enter Tryd.func18, Tryd.ntmps18
    go_wp2_with (go_at_call 30; refine (get4_any (byt s 0) g _ _ (by exact HG4.out)).mono ?_; rintro e w' ⟨rfl, hw'⟩; rw [hw', HPe.out]; clear hw' w')
    go_ret
    exact ⟨rfl, Below.refl _ _⟩
  · have q4 : decide (N ≤ P) = false := by simpa using hPN
    have q5 : decide (P < N) = true := by simp; omega
    rw [q5, Bool.true_and]
    obtain ⟨X, HX⟩ : ∃ X, Hid (O.opened (O.dig m) ((s.drop 4).take 512) = X) := ⟨_, hide rfl⟩
    obtain ⟨Y, HTP⟩ : ∃ Y, Hid (T.clb h X P (s.drop 516) = Y) := ⟨_, hide rfl⟩
    have HTOP : Hid (T.top h m s = Y) := by show _ = _; unfold T.top; rw [HX.out, HP.out, HTP.out]
    rw [HTOP.out]
    go_enter Tryd.func18, Tryd.ntmps18
    go_wp2_with (go_at_call 30; refine (get4_any (byt s 0) g _ _ (by exact HG4.out)).mono ?_; rintro e w' ⟨rfl, hw'⟩; rw [hw', HPe.out]; clear hw' w')
    refine (ropen_any m ((s.drop 4).take 512) am _ nm cm (cs - 4) _ hm (by exact HSM.out) HNM.out (by omega) HS4l (by exact HSS0.out) (by omega)).mono ?_
    rintro e w3 ⟨rfl, hB3⟩
    rw [HX.out]
    have HB3 := hide hB3
    clear hB3
    go_wp2_with (refine wpList_store_abs rfl 22 (.tmp 10) (.tmp 46) rfl w3.heap.size (rowB 8 X) rfl rfl 22 _ (RowAt.new w3 22 _) (by rw [rowB_size]; exact info28) (by rw [rowB_size]; rfl) (rowB_one _ _) w3.heap.size (Nat.le_refl _) ?_; intro w4 hR4 hO4 hz4 hB4; have HV4 : Hid (VInv w w3.heap.size X w4) := ⟨HB3.out.trans ((((Below.refl _ _).alloc (Nat.le_refl _) _).trans hB4).mono HB3.out.size), hR4⟩; clear hO4 hz4 hB4 hR4)
    have hz3 := HB3.out.size
    go_loopw [12] (fun s12 wz => ∃ (i p : Nat) (Z : Nat → BitVec 8), i ≤ h ∧ s12 = .int .i64 (i : Int) ∧ Hid (P / 2 ^ i = p) ∧ Hid (T.clb (h - i) Z p (s.drop (516 + 8 * i)) = Y) ∧ Hid (VInv w w3.heap.size Z wz)) (fun s12 _ => h - (intOf s12).toNat)
    case atStart => exact ⟨0, P, X, by omega, rfl, by show _ = _; simp, HTP, HV4⟩
    case round =>
      clear HV4
      obtain ⟨i, p, Z, hi, rfl, HPi, HCi, HV⟩ := hrel
      by_cases hlt : i < h
      · have q1 : decide ((i : Int) < (h : Int)) = true := by simpa using hlt
        obtain ⟨A8, a81, a82⟩ : ∃ A8 : Nat, A8 ≤ 8 * i ∧ 8 * i ≤ A8 := ⟨8 * i, Nat.le_refl _, Nat.le_refl _⟩
        obtain ⟨AT, at1, at2⟩ : ∃ AT : Nat, AT ≤ 516 + A8 ∧ 516 + A8 ≤ AT := ⟨516 + A8, Nat.le_refl _, Nat.le_refl _⟩
        obtain ⟨AE, ae1, ae2⟩ : ∃ AE : Nat, AE ≤ AT + 8 ∧ AT + 8 ≤ AE := ⟨AT + 8, Nat.le_refl _, Nat.le_refl _⟩
        have e1 : IntKind.i64.wrap (8 * (i : Int)) = (A8 : Int) := by rw [IntKind.wrap_i64]; omega
        have e2 : IntKind.i64.wrap (516 + (A8 : Int)) = (AT : Int) := by rw [IntKind.wrap_i64]; omega
        have e3 : IntKind.i64.wrap ((AT : Int) + 8) = (AE : Int) := by rw [IntKind.wrap_i64]; omega
        have b1 : (AE : Int) ≤ (cs : Int) := by omega
        have b2 : (AT : Int) ≤ (AE : Int) := by omega
        have b3 : ¬ (cs = AT) := by omega
        have b4 : AE - AT = 8 := by omega
        have hmi : min i 32 = i := by omega
        have hbt := shr_bit P i hnl
        rw [HPi.out] at hbt
        have HRG := hide (rangeAt_block (HSG.out AT (by omega)) (HV.out.below.block g hglt))
        obtain ⟨S, HS⟩ : ∃ S, Hid (byt s AT = S) := ⟨_, hide rfl⟩
        rw [HS.out] at HRG
        have HSl : Hid (O.lst S = (s.drop (516 + 8 * i)).take 8) := by
          show _ = _
          rw [← HS.out, lst_byt s AT (by have := HSLEN.out; omega), show AT = 516 + 8 * i by omega]
        have hgz := HV.out.row.lt
        have HDR : Hid ((s.drop (516 + 8 * i)).drop 8 = s.drop (516 + 8 * (i + 1))) := by show _ = _; rw [List.drop_drop]; congr 1
        have hzr := HV.out.below.size
        obtain ⟨p2, HP2⟩ : ∃ p2, Hid (p / 2 = p2) := ⟨_, hide rfl⟩
        have HPN : Hid (P / 2 ^ (i + 1) = p2) := by show _ = _; rw [← HP2.out, ← HPi.out, Nat.div_div_eq_div_mul, Nat.pow_succ]
        have hrow := HV.out.row
        rcases (show p % 2 = 0 ∨ p % 2 = 1 by omega) with hpar | hpar
        · rw [hpar] at hbt
          obtain ⟨F, HF⟩ : ∃ F, Hid (T.upl (O.lst Z) (O.lst S) = F) := ⟨_, hide rfl⟩
          have HC2 : Hid (T.clb (h - (i + 1)) F p2 (s.drop (516 + 8 * (i + 1))) = Y) := by
            show _ = _
            rw [← HCi.out, show h - i = (h - (i + 1)) + 1 by omega, T.clb, if_pos hpar, ← HSl.out, HF.out, HP2.out, HDR.out]
          clear hpar
          go_wp2_with (first
            | (refine wpList_load_mid rfl 22 (.tmp 61) rfl g AT rfl (bsL 8 S) _ (by exact HRG.out) Tryd.underlying22 rfl (by rw [bsL_len]; exact info28) ?_)
            | (refine wpList_store_abs rfl 22 (.tmp 14) (.tmp 62) rfl wr.heap.size (rowB 8 S) rfl rfl 22 _ (RowAt.new wr 22 _) (by rw [rowB_size]; exact info28) (by rw [rowB_size]; rfl) (rowB_one _ _) wr.heap.size (Nat.le_refl _) ?_; intro w6 hR6 hO6 hz6 hB6; have HV6 : Hid (VInv w w3.heap.size Z w6) := HV.out.called (((Below.refl _ _).alloc (Nat.le_refl _) _).trans hB6); have HR6 := hide hR6; clear hO6 hz6 hB6 hR6)
            | (refine wpList_load_rowAt rfl 22 (.tmp 10) rfl w3.heap.size rfl 22 _ _ (by exact HV6.out.row) Tryd.underlying22 rfl (by rw [rowB_size]; exact info28) ?_)
            | (refine wpList_load_rowAt rfl 22 (.tmp 14) rfl wr.heap.size rfl 22 _ _ (by exact HR6.out) Tryd.underlying22 rfl (by rw [rowB_size]; exact info28) ?_))
          refine (up_any Z S F _ HF).mono ?_
          rintro e w7 ⟨rfl, hB7⟩
          have HV7 := hide (HV6.out.called hB7)
          have hR7 := HV7.out.row
          have HV8 : Hid (VInv w w3.heap.size F (w7.setRow w3.heap.size (rowB 8 F))) := ⟨below_setRow HV7.out.below hz3 _, setRow_same hR7 _⟩
          clear hB7
          go_wp2_with (refine wpList_store_rowAt rfl 22 (.tmp 10) (.tmp 70) rfl w3.heap.size (rowB 8 F) rfl rfl 22 _ (by exact hR7) (by rw [rowB_size]; exact info28) (by rw [rowB_size, rowB_size]) (rowB_one _ _) ?_)
          exact ⟨⟨i + 1, p2, F, by omega, by go_num, HPN, HC2, HV8⟩, by simp [intOf]; omega⟩
        · rw [hpar] at hbt
          obtain ⟨F, HF⟩ : ∃ F, Hid (T.upl (O.lst S) (O.lst Z) = F) := ⟨_, hide rfl⟩
          have HC2 : Hid (T.clb (h - (i + 1)) F p2 (s.drop (516 + 8 * (i + 1))) = Y) := by
            show _ = _
            rw [← HCi.out, show h - i = (h - (i + 1)) + 1 by omega, T.clb, if_neg (by omega), ← HSl.out, HF.out, HP2.out, HDR.out]
          clear hpar
          go_wp2_with (first
            | (refine wpList_load_mid rfl 22 (.tmp 61) rfl g AT rfl (bsL 8 S) _ (by exact HRG.out) Tryd.underlying22 rfl (by rw [bsL_len]; exact info28) ?_)
            | (refine wpList_store_abs rfl 22 (.tmp 14) (.tmp 62) rfl wr.heap.size (rowB 8 S) rfl rfl 22 _ (RowAt.new wr 22 _) (by rw [rowB_size]; exact info28) (by rw [rowB_size]; rfl) (rowB_one _ _) wr.heap.size (Nat.le_refl _) ?_; intro w6 hR6 hO6 hz6 hB6; have HV6 : Hid (VInv w w3.heap.size Z w6) := HV.out.called (((Below.refl _ _).alloc (Nat.le_refl _) _).trans hB6); have HR6 := hide hR6; clear hO6 hz6 hB6 hR6)
            | (refine wpList_load_rowAt rfl 22 (.tmp 10) rfl w3.heap.size rfl 22 _ _ (by exact HV6.out.row) Tryd.underlying22 rfl (by rw [rowB_size]; exact info28) ?_)
            | (refine wpList_load_rowAt rfl 22 (.tmp 14) rfl wr.heap.size rfl 22 _ _ (by exact HR6.out) Tryd.underlying22 rfl (by rw [rowB_size]; exact info28) ?_))
          refine (up_any S Z F _ HF).mono ?_
          rintro e w7 ⟨rfl, hB7⟩
          have HV7 := hide (HV6.out.called hB7)
          have hR7 := HV7.out.row
          have HV8 : Hid (VInv w w3.heap.size F (w7.setRow w3.heap.size (rowB 8 F))) := ⟨below_setRow HV7.out.below hz3 _, setRow_same hR7 _⟩
          clear hB7
          go_wp2_with (refine wpList_store_rowAt rfl 22 (.tmp 10) (.tmp 73) rfl w3.heap.size (rowB 8 F) rfl rfl 22 _ (by exact hR7) (by rw [rowB_size]; exact info28) (by rw [rowB_size, rowB_size]) (rowB_one _ _) ?_)
          exact ⟨⟨i + 1, p2, F, by omega, by go_num, HPN, HC2, HV8⟩, by simp [intOf]; omega⟩
      · obtain rfl : i = h := by omega
        have q1 : decide ((i : Int) < (i : Int)) = false := by simp
        have hZY : Z = Y := by have := HCi.out; rwa [Nat.sub_self] at this
        subst hZY
        obtain ⟨z0, z1, z2, z3, z4, z5, z6, z7⟩ := cells8 HV.out.row
        obtain ⟨r0, r1, r2, r3, r4, r5, r6, r7⟩ := cells_of (HRT.out wr HV.out.below)
        have HLR := hide (lst_root Z root HRL.out)
        generalize byt root 0 = G at r0 r1 r2 r3 r4 r5 r6 r7 HLR
        obtain ⟨bq, HBQ⟩ : ∃ bq, Hid (decide (∀ j ∈ List.range 8, Z j = G j) = bq) := ⟨_, hide rfl⟩
        have hcm : ∀ W : World, (Op.equalIn 10000 22 (.agg #[.int .u8 (Z 0).toNat, .int .u8 (Z 1).toNat, .int .u8 (Z 2).toNat, .int .u8 (Z 3).toNat, .int .u8 (Z 4).toNat, .int .u8 (Z 5).toNat, .int .u8 (Z 6).toNat, .int .u8 (Z 7).toNat]) (.agg #[.int .u8 (G 0).toNat, .int .u8 (G 1).toNat, .int .u8 (G 2).toNat, .int .u8 (G 3).toNat, .int .u8 (G 4).toNat, .int .u8 (G 5).toNat, .int .u8 (G 6).toNat, .int .u8 (G 7).toNat])).run Tryd.prog W = .ok bq W := fun W => by rw [← HBQ.out]; exact run_cmpl Z G W
        have HB := hide HV.out.below
        go_wp2_with fail
        go_quiet (fail)
        go_wp2
        go_ret
        exact ⟨by rw [← HLR.out, HBQ.out]; rfl, HB.out.trans ((below_drewN' _ _).mono HB.out.size)⟩
end Go.Proofs.YtpiehjfoojipiaaDoor

/- tree.Verify, signetref7.Verify of whatever bytes. -/
namespace Go.Proofs.YtpiehjfoojipiaaDoor
open Go.RowKit
set_option maxRecDepth 5000 in
theorem verify_any (root m s : List (BitVec 8)) (h : Int) (ar am : Option Addr) (g nr cr nm cm ns cs : Nat) (w : World) (hr : Hid (root.length = nr)) (hs : Hid (s.length = ns)) (hm : Hid (m.length = nm))
    (hcs : ns ≤ cs) (hsr : SlL w ar root) (hsm : SlL w am m) (hss : SlL w (some ⟨g, 0, none⟩) s) (hcm : nm ≤ cm) (hnm : nm < 1000000) (hT : Tab w) :
    Calls Tryd.prog 17 #[.slice ar nr cr, .int .i64 h, .slice am nm cm, .slice (some ⟨g, 0, none⟩) ns cs] w fun e w' => e = .returned (.bool (T.ver root h m s)) ∧ Below w.heap.size w w' := by
  by_cases hy : nr = 8 ∧ 0 ≤ h ∧ h ≤ 10 ∧ (ns : Int) = 516 + 8 * h
  · obtain ⟨h1, h2, h3, h4⟩ := hy
    obtain ⟨H, rfl⟩ : ∃ H : Nat, h = (H : Int) := ⟨h.toNat, by omega⟩
    exact verify_yes root m s H ar am g nr cr nm cm ns cs w hr hs hm h1 (by omega) (by omega) hcs hsr hsm hss hcm hnm hT
  · refine (verify_no root m s h ar am _ nr cr nm cm ns cs w hr hs hy).mono ?_
    rintro e w' ⟨rfl, hw⟩
    rw [hw]; exact ⟨rfl, Below.refl _ _⟩
set_option maxRecDepth 5000 in
theorem rverify_any (root m s : List (BitVec 8)) (h : Int) (ar am : Option Addr) (g nr cr nm cm ns cs : Nat) (w : World) (hr : Hid (root.length = nr)) (hs : Hid (s.length = ns)) (hm : Hid (m.length = nm))
    (hcs : ns ≤ cs) (hsr : SlL w ar root) (hsm : SlL w am m) (hss : SlL w (some ⟨g, 0, none⟩) s) (hnilm : am = none → cm = 0) (hnm : nm < 1000000) :
    Calls Tryd.prog 18 #[.slice ar nr cr, .int .i64 h, .slice am nm cm, .slice (some ⟨g, 0, none⟩) ns cs] w fun e w' => e = .returned (.bool (T.ver root h m s)) ∧ Below w.heap.size w w' := by
  by_cases hy : nr = 8 ∧ 0 ≤ h ∧ h ≤ 10 ∧ (ns : Int) = 516 + 8 * h
  · obtain ⟨h1, h2, h3, h4⟩ := hy
    obtain ⟨H, rfl⟩ : ∃ H : Nat, h = (H : Int) := ⟨h.toNat, by omega⟩
    exact rverify_yes root m s H ar am g nr cr nm cm ns cs w hr hs hm h1 (by omega) (by omega) hcs hsr hsm hss hnilm hnm
  · refine (rverify_no root m s h ar am _ nr cr nm cm ns cs w hr hs hy).mono ?_
    rintro e w' ⟨rfl, hw⟩
    rw [hw]; exact ⟨rfl, Below.refl _ _⟩
end Go.Proofs.YtpiehjfoojipiaaDoor
