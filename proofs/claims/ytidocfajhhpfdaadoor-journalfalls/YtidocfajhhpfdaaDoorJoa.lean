/- The bytes of a head of any count. -/
import Derived.Test.YtidocfajhhpfdaaDoorKps
namespace Go.Proofs.YtidocfajhhpfdaaDoor
open Go.RowKit
def fell (x : Int) : Ending := .panicked [{ v := .iface 33 (.int .i64 x), recovered := false }]
structure HOw (h : J.H) : Prop where
  c : h.c < 18446744073709551616
  a : h.a < 2
  u : h.u < 4294967296
  b : h.b ≤ 1048576
set_option maxHeartbeats 2000000 in
set_option maxRecDepth 5000 in
theorem hbytes_wide (w : World) (ht : Tab w) (h : J.H) (hh : HOw h) (sz : Nat) (hz1 : 64 ≤ sz) (hz2 : sz ≤ 4096) :
    Calls Tryd.prog 68 #[.agg (hrow h), .int .i64 (sz : Int)] w fun e w' => ∃ v', e = .returned v' ∧ OwnB w' w.heap.size v' (J.hb h sz) ∧ Below w.heap.size w w' := by
  have kc := run_conv
  obtain ⟨h1, h2, h3, h4⟩ := hh
  have hpos : 0 < w.heap.size := ht.1
  have HT := hide ht
  have e0 : Hid (J.hb h sz = J.mark ++ J.be 8 h.c ++ J.be 4 h.a ++ J.be 4 h.u ++ J.be 4 h.b ++ List.replicate (sz - 32) 0 ++ J.be 4 (J.crc (J.hpre h sz))) := rfl
  have e1 : Hid (J.mark ++ J.be 8 h.c ++ J.be 4 h.a ++ J.be 4 h.u ++ J.be 4 h.b ++ List.replicate (sz - 32) 0 = J.hpre h sz) := rfl
  clear ht
  unfold hrow
  obtain ⟨C, A, U, Bl⟩ := h
  simp only at h1 h2 h3 h4
  simp only
  go_enter Tryd.func68, Tryd.ntmps68
  go_wp2_with fail
  have R0 : RowAt ((w.alloc (.cells #[.int .u64 (C : Int), .int .i64 (A : Int), .int .i64 (U : Int), .int .i64 (Bl : Int)] 67)).alloc (.cells #[.int .u8 106, .int .u8 111, .int .u8 117, .int .u8 114, .int .u8 110, .int .u8 97, .int .u8 108, .int .u8 50] 5 (8, 9))) w.heap.size 67 #[.int .u64 (C : Int), .int .i64 (A : Int), .int .i64 (U : Int), .int .i64 (Bl : Int)] := (RowAt.new w _ _).alloc _
  have hM : SlL ((w.alloc (.cells #[.int .u64 (C : Int), .int .i64 (A : Int), .int .i64 (U : Int), .int .i64 (Bl : Int)] 67)).alloc (.cells #[.int .u8 106, .int .u8 111, .int .u8 117, .int .u8 114, .int .u8 110, .int .u8 97, .int .u8 108, .int .u8 50] 5 (8, 9))) (some ⟨w.heap.size + 1, 0, none⟩) J.mark := by
    have := SlL.litm (w.alloc (.cells #[.int .u64 (C : Int), .int .i64 (A : Int), .int .i64 (U : Int), .int .i64 (Bl : Int)] 67)) J.mark #[.int .u8 106, .int .u8 111, .int .u8 117, .int .u8 114, .int .u8 110, .int .u8 97, .int .u8 108, .int .u8 50] 5 (8, 9) rfl
    simpa using this
  have b0 : Below w.heap.size w ((w.alloc (.cells #[.int .u64 (C : Int), .int .i64 (A : Int), .int .i64 (U : Int), .int .i64 (Bl : Int)] 67)).alloc (.cells #[.int .u8 106, .int .u8 111, .int .u8 117, .int .u8 114, .int .u8 110, .int .u8 97, .int .u8 108, .int .u8 50] 5 (8, 9))) := ((Below.refl _ w).alloc (Nat.le_refl _) _).alloc (by simp) _
  have s0 : ((w.alloc (.cells #[.int .u64 (C : Int), .int .i64 (A : Int), .int .i64 (U : Int), .int .i64 (Bl : Int)] 67)).alloc (.cells #[.int .u8 106, .int .u8 111, .int .u8 117, .int .u8 114, .int .u8 110, .int .u8 97, .int .u8 108, .int .u8 50] 5 (8, 9))).heap.size = w.heap.size + 2 := by simp
  generalize (w.alloc (.cells #[.int .u64 (C : Int), .int .i64 (A : Int), .int .i64 (U : Int), .int .i64 (Bl : Int)] 67)).alloc (.cells #[.int .u8 106, .int .u8 111, .int .u8 117, .int .u8 114, .int .u8 110, .int .u8 97, .int .u8 108, .int .u8 50] 5 (8, 9)) = w1 at R0 hM b0 s0 ⊢
  generalize hg : w.heap.size = g at *
  have G1 : Gro w1 (g + 1) (.slice (some ⟨g + 1, 0, none⟩) 8 8) J.mark := Or.inr ⟨_, rfl, hM, by decide⟩
  refine (show Calls Tryd.prog 69 #[.slice (some ⟨g + 1, 0, none⟩) 8 8, .int .i64 8, .int .u64 (C : Int)] w1 _ from appNum_any w1 (g + 1) _ J.mark 8 C G1 (by omega) (by omega) (by rw [J.mark_len]; omega) (by omega)).mono ?_
  rintro e w2 ⟨v2, rfl, O2, b2⟩
  have R2 := R0.below b2 (by omega)
  have bb2 := b0.trans (b2.mono (Nat.le_succ _))
  have z2 : g + 1 ≤ w2.heap.size := by have := b2.size; omega
  have d1 : w2.cell? ⟨g, 1, none⟩ = some (.int .i64 (A : Int)) := R2.cell 1
  have w64a : IntKind.u64.wrap (A : Int) = (A : Int) := by rw [IntKind.wrap_u64]; omega
  have w64u : IntKind.u64.wrap (U : Int) = (U : Int) := by rw [IntKind.wrap_u64]; omega
  have w64b : IntKind.u64.wrap (Bl : Int) = (Bl : Int) := by rw [IntKind.wrap_u64]; omega
  clear R0 hM G1 s0 b0 b2 kc
  have HO2 := hide O2
  clear O2
  go_wp2_with fail
  refine (show Calls Tryd.prog 69 #[v2, .int .i64 4, .int .u64 (A : Int)] w2 _ from appNum_any w2 (g + 1) _ _ 4 A (Or.inl HO2.out) (by omega) (by omega) (by simp only [List.length_append, J.mark_len, J.be_len]; omega) (by omega)).mono ?_
  rintro e w3 ⟨v3, rfl, O3, b3⟩
  have R3 := R2.below b3 (by omega)
  have bb3 := bb2.trans (b3.mono (Nat.le_succ _))
  have z3 : g + 1 ≤ w3.heap.size := by have := b3.size; omega
  have d2 : w3.cell? ⟨g, 2, none⟩ = some (.int .i64 (U : Int)) := R3.cell 2
  clear R2 HO2 bb2 z2 b3 d1
  have HO3 := hide O3
  clear O3
  go_wp2_with fail
  refine (show Calls Tryd.prog 69 #[v3, .int .i64 4, .int .u64 (U : Int)] w3 _ from appNum_any w3 (g + 1) _ _ 4 U (Or.inl HO3.out) (by omega) (by omega) (by simp only [List.length_append, J.mark_len, J.be_len]; omega) (by omega)).mono ?_
  rintro e w4 ⟨v4, rfl, O4, b4⟩
  have R4 := R3.below b4 (by omega)
  have bb4 := bb3.trans (b4.mono (Nat.le_succ _))
  have z4 : g + 1 ≤ w4.heap.size := by have := b4.size; omega
  have d3 : w4.cell? ⟨g, 3, none⟩ = some (.int .i64 (Bl : Int)) := R4.cell 3
  clear R3 HO3 bb3 z3 b4 d2
  have HO4 := hide O4
  clear O4
  go_wp2_with fail
  refine (show Calls Tryd.prog 69 #[v4, .int .i64 4, .int .u64 (Bl : Int)] w4 _ from appNum_any w4 (g + 1) _ _ 4 Bl (Or.inl HO4.out) (by omega) (by omega) (by simp only [List.length_append, J.mark_len, J.be_len]; omega) (by omega)).mono ?_
  rintro e w5 ⟨v5, rfl, O5, b5⟩
  have bb5 := bb4.trans (b5.mono (Nat.le_succ _))
  have z5 : g + 1 ≤ w5.heap.size := by have := b5.size; omega
  clear R4 HO4 bb4 z4 b5 d3
  have hl5 : (J.mark ++ J.be 8 C ++ J.be 4 A ++ J.be 4 U ++ J.be 4 Bl).length = 28 := by simp only [List.length_append, J.mark_len, J.be_len]
  obtain ⟨g5, c5, hv5, hq⟩ := O5.form (by omega)
  clear hq
  rw [hl5] at hv5
  have HO5 := hide O5
  rw [hv5]
  rw [hv5] at HO5
  clear O5 hv5
  have hw6 : (sz : Int) - 4 - 28 = ((sz - 32 : Nat) : Int) := by omega
  have T5 := hide (HT.out.below bb5 (by omega))
  go_wp2_with (at_builtin; refine wpList_append_zeros rfl (.tmp 27) (.tmp 32) rfl (g + 1) _ _ rfl HO5.out (sz - 32) (by rw [← hw6]; rfl) (by omega) (by rw [hl5]; omega) (by omega) ?_; intro v6 w6 O6 b6; have bb6 := hide (bb5.trans (b6.mono (Nat.le_succ g))); have T6 := hide (T5.out.below b6 (Nat.succ_pos g)); have z6 : g + 1 ≤ w6.heap.size := (by have := b6.size; omega); rw [e1.out] at O6; have HO6 := hide O6; obtain ⟨g6, c6, hv6, hq1, hq2, hq3, hq4, hq5⟩ := O6.form (by rw [J.hpre_len _ _ (by omega)]; omega); rw [J.hpre_len _ _ (by omega)] at hv6; have S6 := hide (show SlL w6 (some ⟨g6, 0, none⟩) (J.hpre ⟨C, A, U, Bl⟩ sz) from fun _ => ⟨g6, 0, rfl, hq4, fun j hj => by rw [Nat.zero_add]; exact hq5 j hj⟩); clear hq1 hq2 hq3 hq4 hq5 O6 b6; rw [hv6] at HO6; rw [hv6]; clear hv6)
  have hpl := J.hpre_len ⟨C, A, U, Bl⟩ sz (by omega)
  refine (crc_at w6 T6.out (some ⟨g6, 0, none⟩) c6 (sz - 4) _ hpl (by omega) S6.out).mono ?_
  rintro e w' ⟨rfl, hw'⟩
  rw [hw']
  clear hw' w' S6
  have hcl := J.crc_lt (J.hpre ⟨C, A, U, Bl⟩ sz)
  obtain ⟨X, hX⟩ : ∃ X, X = J.crc (J.hpre ⟨C, A, U, Bl⟩ sz) := ⟨_, rfl⟩
  rw [← hX] at hcl e0 ⊢
  clear hX
  go_wp2_with fail
  refine (show Calls Tryd.prog 69 #[.slice (some ⟨g6, 0, none⟩) (sz - 4) c6, .int .i64 4, .int .u64 (X : Int)] w6 _ from appNum_any w6 (g + 1) _ _ 4 X (Or.inl HO6.out) (by omega) (by omega) (by rw [hpl]; omega) (by omega)).mono ?_
  rintro e w7 ⟨v7, rfl, O7, b7⟩
  rw [e1.out] at e0
  rw [← e0.out] at O7
  have HO7 := hide O7
  have bb7 := hide (bb6.out.trans (b7.mono (Nat.le_succ g)))
  clear O7 b7 HO6 T6 HO5 T5 e0 e1
  go_wp2
  go_ret
  rw [hg]
  refine ⟨_, rfl, ?_, bb7.out⟩
  exact own_base HO7.out (Nat.le_succ g)
end Go.Proofs.YtidocfajhhpfdaaDoor

/- openHead of any bytes. -/
namespace Go.Proofs.YtidocfajhhpfdaaDoor
open Go.RowKit
set_option maxHeartbeats 4000000 in
set_option maxRecDepth 5000 in
theorem openHead_any (w : World) (ht : Tab w) (bs : List UInt8) (sz ab g o c : Nat) (hz1 : 64 ≤ sz) (hz2 : sz ≤ 4096) (hc : sz ≤ c) (hab : ab ≤ 1000000000) (hbl : bs.length = sz) (hs : SlL w (some ⟨g, o, none⟩) bs) :
    Calls Tryd.prog 48 #[.slice (some ⟨g, o, none⟩) sz c, .int .i64 (ab : Int)] w fun e w' => ((∃ h, HOw h ∧ h.u ≤ ab ∧ e = .returned (.agg (hrow h))) ∨ e = fell 91) ∧ Below w.heap.size w w' := by
  obtain ⟨C, p1⟩ : ∃ C, J.num ((bs.drop 8).take 8) = C := ⟨_, rfl⟩
  obtain ⟨A, p2⟩ : ∃ A, J.num ((bs.drop 16).take 4) = A := ⟨_, rfl⟩
  obtain ⟨U, p3⟩ : ∃ U, J.num ((bs.drop 20).take 4) = U := ⟨_, rfl⟩
  obtain ⟨Bl, p4⟩ : ∃ Bl, J.num ((bs.drop 24).take 4) = Bl := ⟨_, rfl⟩
  have g1 : C < 18446744073709551616 := by have := J.num_lt ((bs.drop 8).take 8); rw [p1, List.length_take, List.length_drop, hbl, Nat.min_eq_left (by omega)] at this; exact this
  have g2 : A < 4294967296 := by have := J.num_lt ((bs.drop 16).take 4); rw [p2, List.length_take, List.length_drop, hbl, Nat.min_eq_left (by omega)] at this; exact this
  have g3 : U < 4294967296 := by have := J.num_lt ((bs.drop 20).take 4); rw [p3, List.length_take, List.length_drop, hbl, Nat.min_eq_left (by omega)] at this; exact this
  have g4 : Bl < 4294967296 := by have := J.num_lt ((bs.drop 24).take 4); rw [p4, List.length_take, List.length_drop, hbl, Nat.min_eq_left (by omega)] at this; exact this
  have hnum : ∀ (i m : Nat), i + m ≤ sz → m ≤ 8 → ∀ W, Below w.heap.size w W → ∀ cc, Calls Tryd.prog 50 #[.slice (some ⟨g, o + i, none⟩) m cc] W fun e w' => e = .returned (.int .u64 (J.num ((bs.drop i).take m) : Int)) ∧ w' = W := fun i m hi hm W hW cc =>
    number_any W _ cc m _ (by rw [List.length_take, List.length_drop, hbl]; omega) hm ((hs.below hW (Nat.le_refl _)).sub i m)
  have sx1 : ∀ W : World, (Instr.sliceAt 22 (.slice (some ⟨g, o, none⟩) sz c) (some (.int .i64 8)) none none).run Tryd.prog W = .ok (.slice (some ⟨g, o + 8, none⟩) (sz - 8) (c - 8)) W := by
    have := sl_suf g o sz c 8 (by omega)
    rw [if_neg (by omega)] at this; exact this
  have sx2 : ∀ W : World, (Instr.sliceAt 22 (.slice (some ⟨g, o + 8, none⟩) (sz - 8) (c - 8)) (some (.int .i64 8)) (some (.int .i64 12)) none).run Tryd.prog W = .ok (.slice (some ⟨g, o + 16, none⟩) 4 (c - 8 - 8)) W := sl_mid g (o + 8) (sz - 8) (c - 8) 8 12 (by omega) (by omega) (by omega)
  have sx3 : ∀ W : World, (Instr.sliceAt 22 (.slice (some ⟨g, o + 8, none⟩) (sz - 8) (c - 8)) (some (.int .i64 12)) (some (.int .i64 16)) none).run Tryd.prog W = .ok (.slice (some ⟨g, o + 20, none⟩) 4 (c - 8 - 12)) W := sl_mid g (o + 8) (sz - 8) (c - 8) 12 16 (by omega) (by omega) (by omega)
  have sx4 : ∀ W : World, (Instr.sliceAt 22 (.slice (some ⟨g, o + 8, none⟩) (sz - 8) (c - 8)) (some (.int .i64 16)) (some (.int .i64 20)) none).run Tryd.prog W = .ok (.slice (some ⟨g, o + 24, none⟩) 4 (c - 8 - 16)) W := sl_mid g (o + 8) (sz - 8) (c - 8) 16 20 (by omega) (by omega) (by omega)
  have sx5 : ∀ W : World, (Instr.sliceAt 22 (.slice (some ⟨g, o + 8, none⟩) (sz - 8) (c - 8)) none (some (.int .i64 8)) none).run Tryd.prog W = .ok (.slice (some ⟨g, o + 8, none⟩) 8 (c - 8)) W := sl_pre g (o + 8) (sz - 8) (c - 8) 8 (by omega)
  generalize c - 8 - 8 = ca at sx2
  generalize c - 8 - 12 = cb at sx3
  generalize c - 8 - 16 = cd at sx4
  generalize c - 8 = ce at sx1 sx2 sx3 sx4 sx5
  generalize sz - 8 = sa at sx1 sx2 sx3 sx4 sx5
  have HS := hide hs
  have HT := hide ht
  have hpos := ht.1
  have HBL := hide hbl
  clear hs ht hbl hc
  have B1 : Hid (Below w.heap.size w (w.alloc (.cells #[.int .u64 0, .int .i64 0, .int .i64 0, .int .i64 0] 67))) := (Below.refl _ w).alloc (Nat.le_refl _) _
  have R1 : Hid (RowAt (w.alloc (.cells #[.int .u64 0, .int .i64 0, .int .i64 0, .int .i64 0] 67)) w.heap.size 67 #[.int .u64 0, .int .i64 0, .int .i64 0, .int .i64 0]) := RowAt.new w _ _
  go_enter Tryd.func48, Tryd.ntmps48
  go_wp2
  generalize w.alloc (.cells #[.int .u64 0, .int .i64 0, .int .i64 0, .int .i64 0] 67) = w1 at B1 R1 ⊢
  have HN := hide hnum
  have HP := hide (And.intro p1 (And.intro p2 (And.intro p3 p4)))
  clear hnum p1 p2 p3 p4
  go_region_held3 (fun _ => True) (first | trivial) (first | (go_at_call 50; refine (HN.out _ _ (by omega) (by omega) _ (by first | exact B1.out | exact B1.out.drew | exact below_drewN B1.out _) _).mono ?_; rintro e w' ⟨rfl, hw⟩; rw [hw]; clear hw w'; (first | rw [HP.out.2.1] | rw [HP.out.2.2.1] | rw [HP.out.2.2.2])))
  have B2 : Hid (Below w.heap.size w w1.drew) := B1.out.drew
  have R2 : Hid (RowAt w1.drew w.heap.size 67 #[.int .u64 0, .int .i64 0, .int .i64 0, .int .i64 0]) := R1.out.drew
  generalize w1.drew = w2 at B2 R2 ⊢
  clear B1 R1
  have i3 : IntKind.u64.wrap (ab : Int) = (ab : Int) := by rw [IntKind.wrap_u64]; omega
  by_cases hA : A < 2
  rotate_left
  · have i1 : decide ((2 : Int) ≤ (A : Int)) = true := by simp; omega
    clear HN HP sx1 sx2 sx3 sx4 sx5
    go_wp2
    exact ⟨rfl, Or.inr rfl, B2.out⟩
  have i1 : decide ((2 : Int) ≤ (A : Int)) = false := by simp; omega
  by_cases hU : U ≤ ab
  rotate_left
  · have i2 : decide (ab < U) = true := by simp; omega
    clear HN HP sx1 sx2 sx3 sx4 sx5
    go_wp2
    exact ⟨rfl, Or.inr rfl, B2.out⟩
  have i2 : decide (ab < U) = false := by simp; omega
  by_cases hB : Bl ≤ 1048576
  rotate_left
  · have i2a : decide ((1048576 : Int) < (Bl : Int)) = true := by simp; omega
    clear HN HP sx1 sx2 sx3 sx4 sx5
    go_wp2
    exact ⟨rfl, Or.inr rfl, B2.out⟩
  have i2a : decide ((1048576 : Int) < (Bl : Int)) = false := by simp; omega
  have HH : Hid (HOw ⟨C, A, U, Bl⟩) := ⟨g1, hA, g3, hB⟩
  have i4 : IntKind.i64.wrap (A : Int) = (A : Int) := by rw [IntKind.wrap_i64]; omega
  have i5 : IntKind.i64.wrap (U : Int) = (U : Int) := by rw [IntKind.wrap_i64]; omega
  have i6 : IntKind.i64.wrap (Bl : Int) = (Bl : Int) := by rw [IntKind.wrap_i64]; omega
  go_wp2_with (go_at_call 50; refine (HN.out _ _ (by omega) (by omega) _ B2.out _).mono ?_; rintro e w' ⟨rfl, hw⟩; rw [hw]; clear hw w'; rw [HP.out.1])
  (have R3 : Hid (RowAt (w2.alloc (.cells #[.int .u64 (C : Int), .int .i64 (A : Int), .int .i64 (U : Int), .int .i64 (Bl : Int)] 67)) w2.heap.size 67 #[.int .u64 (C : Int), .int .i64 (A : Int), .int .i64 (U : Int), .int .i64 (Bl : Int)]) := (RowAt.new w2 _ _))
  (have B3 : Hid (Below w2.heap.size w2 (w2.alloc (.cells #[.int .u64 (C : Int), .int .i64 (A : Int), .int .i64 (U : Int), .int .i64 (Bl : Int)] 67))) := ((Below.refl _ w2).alloc (Nat.le_refl _) _))
  generalize (w2.alloc (.cells #[.int .u64 (C : Int), .int .i64 (A : Int), .int .i64 (U : Int), .int .i64 (Bl : Int)] 67)) = w3 at R3 B3 ⊢
  (have BB3 := hide (B2.out.trans (B3.out.mono B2.out.size)))
  (have R23 := hide (R2.out.below B3.out R2.out.lt))
  have HHL := hide (J.hb_len ⟨C, A, U, Bl⟩ sz (by omega))
  (have hhb := hbytes_wide w3 (HT.out.below BB3.out hpos) ⟨C, A, U, Bl⟩ HH.out sz hz1 hz2; unfold hrow at hhb; simp only at hhb)
  (have x0 : w3.cell? ⟨w2.heap.size, 0, none⟩ = some (.int .u64 (C : Int)) := R3.out.cell 0; have x1 : w3.cell? ⟨w2.heap.size, 1, none⟩ = some (.int .i64 (A : Int)) := R3.out.cell 1; have x2 : w3.cell? ⟨w2.heap.size, 2, none⟩ = some (.int .i64 (U : Int)) := R3.out.cell 2; have x3 : w3.cell? ⟨w2.heap.size, 3, none⟩ = some (.int .i64 (Bl : Int)) := R3.out.cell 3)
  (clear sx1 sx2 sx3 sx4 sx5 B3 R2 HP HN; have hsz4 : (Tryd.prog.info? 67).map (·.size) = some 4 := infoHead)
  cases heb : decide (bs = J.hb ⟨C, A, U, Bl⟩ sz)
  · have HEB := hide heb
    clear heb
    (go_wp2_with (first
      | (go_at_call 68; refine hhb.mono ?_; rintro e w4 ⟨v4, rfl, O4, b4⟩; obtain ⟨a4, c4, hv4⟩ := O4.slice; rw [HHL.out] at hv4; rw [hv4] at O4 ⊢; have R4 := hide (R3.out.below b4 R3.out.lt); have R24 := hide (R23.out.below b4 R23.out.lt); have BB4 := hide (BB3.out.trans (b4.mono BB3.out.size)); have S4 := hide (OwnB.slAny O4); have SS4 := hide (HS.out.below BB4.out (Nat.le_refl _)); clear O4 hv4 b4 x0 x1 x2 x3; have y0 : w4.cell? ⟨w2.heap.size, 0, none⟩ = some (.int .u64 (C : Int)) := R4.out.cell 0; have y1 : w4.cell? ⟨w2.heap.size, 1, none⟩ = some (.int .i64 (A : Int)) := R4.out.cell 1; have y2 : w4.cell? ⟨w2.heap.size, 2, none⟩ = some (.int .i64 (U : Int)) := R4.out.cell 2; have y3 : w4.cell? ⟨w2.heap.size, 3, none⟩ = some (.int .i64 (Bl : Int)) := R4.out.cell 3; have q0 : w4.cell? ⟨w.heap.size, 0, none⟩ = some (.int .u64 0) := R24.out.cell 0; have q1 : w4.cell? ⟨w.heap.size, 1, none⟩ = some (.int .i64 0) := R24.out.cell 1; have q2 : w4.cell? ⟨w.heap.size, 2, none⟩ = some (.int .i64 0) := R24.out.cell 2; have q3 : w4.cell? ⟨w.heap.size, 3, none⟩ = some (.int .i64 0) := R24.out.cell 3; have f0 := R24.out.frozen 0; have f1 := R24.out.frozen 1; have f2 := R24.out.frozen 2; have f3 := R24.out.frozen 3)
      | (go_at_call 67; refine (bEqual_any w4 _ _ sz sz _ _ _ _ HBL.out HHL.out SS4.out S4.out).mono ?_; rintro e w' ⟨rfl, hw⟩; rw [hw]; clear hw w'; rw [HEB.out])
      | fail))
    exact ⟨rfl, Or.inr rfl, BB4.out⟩
  · have HEB := hide heb
    clear heb
    (go_wp2_with (first
      | (go_at_call 68; refine hhb.mono ?_; rintro e w4 ⟨v4, rfl, O4, b4⟩; obtain ⟨a4, c4, hv4⟩ := O4.slice; rw [HHL.out] at hv4; rw [hv4] at O4 ⊢; have R4 := hide (R3.out.below b4 R3.out.lt); have R24 := hide (R23.out.below b4 R23.out.lt); have BB4 := hide (BB3.out.trans (b4.mono BB3.out.size)); have S4 := hide (OwnB.slAny O4); have SS4 := hide (HS.out.below BB4.out (Nat.le_refl _)); clear O4 hv4 b4 x0 x1 x2 x3; have y0 : w4.cell? ⟨w2.heap.size, 0, none⟩ = some (.int .u64 (C : Int)) := R4.out.cell 0; have y1 : w4.cell? ⟨w2.heap.size, 1, none⟩ = some (.int .i64 (A : Int)) := R4.out.cell 1; have y2 : w4.cell? ⟨w2.heap.size, 2, none⟩ = some (.int .i64 (U : Int)) := R4.out.cell 2; have y3 : w4.cell? ⟨w2.heap.size, 3, none⟩ = some (.int .i64 (Bl : Int)) := R4.out.cell 3; have q0 : w4.cell? ⟨w.heap.size, 0, none⟩ = some (.int .u64 0) := R24.out.cell 0; have q1 : w4.cell? ⟨w.heap.size, 1, none⟩ = some (.int .i64 0) := R24.out.cell 1; have q2 : w4.cell? ⟨w.heap.size, 2, none⟩ = some (.int .i64 0) := R24.out.cell 2; have q3 : w4.cell? ⟨w.heap.size, 3, none⟩ = some (.int .i64 0) := R24.out.cell 3; have f0 := R24.out.frozen 0; have f1 := R24.out.frozen 1; have f2 := R24.out.frozen 2; have f3 := R24.out.frozen 3)
      | (go_at_call 67; refine (bEqual_any w4 _ _ sz sz _ _ _ _ HBL.out HHL.out SS4.out S4.out).mono ?_; rintro e w' ⟨rfl, hw⟩; rw [hw]; clear hw w'; rw [HEB.out])
      | fail))
    (
      have R5 : RowAt ((((w4.setCell ⟨w.heap.size, 0, none⟩ (.int .u64 (C : Int))).setCell ⟨w.heap.size, 1, none⟩ (.int .i64 (A : Int))).setCell ⟨w.heap.size, 2, none⟩ (.int .i64 (U : Int))).setCell ⟨w.heap.size, 3, none⟩ (.int .i64 (Bl : Int))) w.heap.size 67 #[.int .u64 (C : Int), .int .i64 (A : Int), .int .i64 (U : Int), .int .i64 (Bl : Int)] := (((R24.out.set 0 (.int .u64 (C : Int))).set 1 (.int .i64 (A : Int))).set 2 (.int .i64 (U : Int))).set 3 (.int .i64 (Bl : Int))
      exact bodyPost_ret (v := .agg #[.int .u64 (C : Int), .int .i64 (A : Int), .int .i64 (U : Int), .int .i64 (Bl : Int)]) (results_cell_row Tryd.results48 _ _ w.heap.size 67 _ (0, 0) _ rfl R5 Tryd.underlying67 rfl (by exact infoHead)) rfl ⟨Or.inl ⟨⟨C, A, U, Bl⟩, HH.out, hU, rfl⟩, (((BB4.out.setCell (by simp) _).setCell (by simp) _).setCell (by simp) _).setCell (by simp) _⟩)
end Go.Proofs.YtidocfajhhpfdaaDoor
