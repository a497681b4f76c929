/- rdata.takeKey, takeSoa. -/
import Derived.Test.YtagopkmehlpjpaaRdr3
namespace Go.Proofs.Ytagopkmehlpjpaa
open Go.RowKit
set_option maxHeartbeats 1600000 in
set_option maxRecDepth 5000 in
theorem takeKey_any (B T : Nat) (l : List UInt8) (w : World) (hR : Rdr B T l w) :
    Calls Try.prog 65 #[.pointer (some ⟨T, 0, none⟩)] w fun e w' => Got B T (D.key l) (fun x v w' => KeyV w.heap.size x v w') w e w' := by
  have hTl := hR.lt
  have hBw := hR.base
  have hb0 := (Below.refl w.heap.size w).alloc (Nat.le_refl _) (.cells #[.int .u16 0, .int .u8 0, .int .u8 0, .slice none 0 0] 68)
  have R0 := hide (RowAt.new w 68 #[.int .u16 0, .int .u8 0, .int .u8 0, .slice none 0 0])
  have D0 := hide (hR.below hb0)
  have M0 := hide (Mv.of (T := T) hb0)
  clear hR hb0
  go_enter Try.func65, Try.ntmps65
  go_wp2_with fail
  refine (rn16_any B T l _ (by exact D0.out)).mono ?_
  rintro e w1 ⟨⟨x1, r1, v1, ho1, rfl, hx1, hr1⟩ | ⟨ho1, rfl⟩, hm1⟩
  rotate_left
  · unfold fell50
    go_wp2
    exact ⟨rfl, Or.inr ⟨by simp [D.key, ho1], rfl⟩, M0.out.trans hm1⟩
  subst hx1
  have hrow1 := row_mv R0.out (by omega) hm1
  have k1 : w1.cell? ⟨w.heap.size, 0, none⟩ = some (.int .u16 0) := hrow1.cell 0
  have f1 := hrow1.frozen 0
  have R1 : Hid (RowAt (w1.setCell ⟨w.heap.size, 0, none⟩ (.int .u16 (x1 : Int))) w.heap.size 68 #[.int .u16 (x1 : Int), .int .u8 0, .int .u8 0, .slice none 0 0]) := hrow1.set 0 _
  have D1 := hide (hr1.other w.heap.size 0 (.int .u16 (x1 : Int)) (by omega) (by omega))
  have M1 := hide ((M0.out.trans hm1).setNew w.heap.size 0 (.int .u16 (x1 : Int)) (Nat.le_refl _))
  clear hrow1 hr1 R0 D0 M0
  have H1 := hide ho1
  clear ho1
  go_wp2_with fail
  refine (rn8_any B T r1 _ (by exact D1.out)).mono ?_
  rintro e w2 ⟨⟨x2, r2, v2, ho2, rfl, hx2, hr2⟩ | ⟨ho2, rfl⟩, hm2⟩
  rotate_left
  · unfold fell50
    go_wp2
    exact ⟨rfl, Or.inr ⟨by simp [D.key, H1.out, ho2], rfl⟩, M1.out.trans hm2⟩
  subst hx2
  have hrow2 := row_mv R1.out (by omega) hm2
  have k2 : w2.cell? ⟨w.heap.size, 1, none⟩ = some (.int .u8 0) := hrow2.cell 1
  have f2 := hrow2.frozen 1
  have R2 : Hid (RowAt (w2.setCell ⟨w.heap.size, 1, none⟩ (.int .u8 (x2 : Int))) w.heap.size 68 #[.int .u16 (x1 : Int), .int .u8 (x2 : Int), .int .u8 0, .slice none 0 0]) := hrow2.set 1 _
  have D2 := hide (hr2.other w.heap.size 1 (.int .u8 (x2 : Int)) (by omega) (by omega))
  have M2 := hide ((M1.out.trans hm2).setNew w.heap.size 1 (.int .u8 (x2 : Int)) (Nat.le_refl _))
  clear hrow2 hr2 R1 D1 M1
  have H2 := hide ho2
  clear ho2
  go_wp2_with fail
  refine (rn8_any B T r2 _ (by exact D2.out)).mono ?_
  rintro e w3 ⟨⟨x3, r3, v3, ho3, rfl, hx3, hr3⟩ | ⟨ho3, rfl⟩, hm3⟩
  rotate_left
  · unfold fell50
    go_wp2
    exact ⟨rfl, Or.inr ⟨by simp [D.key, H1.out, H2.out, ho3], rfl⟩, M2.out.trans hm3⟩
  subst hx3
  have hrow3 := row_mv R2.out (by omega) hm3
  have k3 : w3.cell? ⟨w.heap.size, 2, none⟩ = some (.int .u8 0) := hrow3.cell 2
  have f3 := hrow3.frozen 2
  have R3 : Hid (RowAt (w3.setCell ⟨w.heap.size, 2, none⟩ (.int .u8 (x3 : Int))) w.heap.size 68 #[.int .u16 (x1 : Int), .int .u8 (x2 : Int), .int .u8 (x3 : Int), .slice none 0 0]) := hrow3.set 2 _
  have D3 := hide (hr3.other w.heap.size 2 (.int .u8 (x3 : Int)) (by omega) (by omega))
  have M3 := hide ((M2.out.trans hm3).setNew w.heap.size 2 (.int .u8 (x3 : Int)) (Nat.le_refl _))
  clear hrow3 hr3 R2 D2 M2
  have H3 := hide ho3
  clear ho3
  go_wp2_with fail
  refine (rothers_any B T r3 _ (by exact D3.out)).mono ?_
  rintro e w4 ⟨v4, rfl, hx4, hr4, hm4⟩
  obtain ⟨a4, c4, rfl, _, _, _, _⟩ := hx4.open
  have hrow4 := row_mv R3.out (by omega) hm4
  have k4 : w4.cell? ⟨w.heap.size, 3, none⟩ = some (.slice none 0 0) := hrow4.cell 3
  have f4 := hrow4.frozen 3
  have g0 : w4.cell? ⟨w.heap.size, 0, none⟩ = some (.int .u16 (x1 : Int)) := hrow4.cell 0
  have e0 := hrow4.frozen 0
  have g1 : w4.cell? ⟨w.heap.size, 1, none⟩ = some (.int .u8 (x2 : Int)) := hrow4.cell 1
  have e1 := hrow4.frozen 1
  have g2 : w4.cell? ⟨w.heap.size, 2, none⟩ = some (.int .u8 (x3 : Int)) := hrow4.cell 2
  have e2 := hrow4.frozen 2
  have R4 : Hid (RowAt (w4.setCell ⟨w.heap.size, 3, none⟩ (.slice a4 r3.length c4)) w.heap.size 68 #[.int .u16 (x1 : Int), .int .u8 (x2 : Int), .int .u8 (x3 : Int), .slice a4 r3.length c4]) := hrow4.set 3 _
  have D4 := hide (hr4.other w.heap.size 3 (.slice a4 r3.length c4) (by omega) (by omega))
  have M4 := hide ((M3.out.trans hm4).setNew w.heap.size 3 (.slice a4 r3.length c4) (Nat.le_refl _))
  have O4_4 := hide (own_set (OwnB.lower hx4 (M3.out.size)) hrow4 (by decide) 3 (.slice a4 r3.length c4))
  clear hrow4 hr4 R3 D3 M3 hx4
  have RF : RowAt (((((w4.setCell ⟨w.heap.size, 3, none⟩ (.slice a4 r3.length c4)).setCell ⟨w.heap.size, 0, none⟩ (.int .u16 (x1 : Int))).setCell ⟨w.heap.size, 1, none⟩ (.int .u8 (x2 : Int))).setCell ⟨w.heap.size, 2, none⟩ (.int .u8 (x3 : Int))).setCell ⟨w.heap.size, 3, none⟩ (.slice a4 r3.length c4)) w.heap.size 68 #[.int .u16 (x1 : Int), .int .u8 (x2 : Int), .int .u8 (x3 : Int), .slice a4 r3.length c4] := ((((R4.out.same 0 rfl).same 1 rfl).same 2 rfl).same 3 rfl)
  have UF : Upd w.heap.size (w4.setCell ⟨w.heap.size, 3, none⟩ (.slice a4 r3.length c4)) (((((w4.setCell ⟨w.heap.size, 3, none⟩ (.slice a4 r3.length c4)).setCell ⟨w.heap.size, 0, none⟩ (.int .u16 (x1 : Int))).setCell ⟨w.heap.size, 1, none⟩ (.int .u8 (x2 : Int))).setCell ⟨w.heap.size, 2, none⟩ (.int .u8 (x3 : Int))).setCell ⟨w.heap.size, 3, none⟩ (.slice a4 r3.length c4)) := (((((Upd.refl w.heap.size (w4.setCell ⟨w.heap.size, 3, none⟩ (.slice a4 r3.length c4))).set 0 (.int .u16 (x1 : Int))).set 1 (.int .u8 (x2 : Int))).set 2 (.int .u8 (x3 : Int))).set 3 (.slice a4 r3.length c4))
  go_wp2
  generalize (((((w4.setCell ⟨w.heap.size, 3, none⟩ (.slice a4 r3.length c4)).setCell ⟨w.heap.size, 0, none⟩ (.int .u16 (x1 : Int))).setCell ⟨w.heap.size, 1, none⟩ (.int .u8 (x2 : Int))).setCell ⟨w.heap.size, 2, none⟩ (.int .u8 (x3 : Int))).setCell ⟨w.heap.size, 3, none⟩ (.slice a4 r3.length c4)) = F at RF UF ⊢
  have q0 : F.cell? ⟨w.heap.size, 0, none⟩ = some (.int .u16 (x1 : Int)) := RF.cell 0
  have q1 : F.cell? ⟨w.heap.size, 1, none⟩ = some (.int .u8 (x2 : Int)) := RF.cell 1
  have q2 : F.cell? ⟨w.heap.size, 2, none⟩ = some (.int .u8 (x3 : Int)) := RF.cell 2
  have q3 : F.cell? ⟨w.heap.size, 3, none⟩ = some (.slice a4 r3.length c4) := RF.cell 3
  simp [bodyPost, results, Try.results65, go_sem, q0, q1, q2, q3]
  refine ⟨Or.inl ⟨⟨x1, x2, x3, r3⟩, _, _, by simp [D.key, H1.out, H2.out, H3.out], rfl, ⟨_, _, rfl, UF.own R4.out (by decide) O4_4.out⟩, UF.rdr D4.out (by omega) (by omega)⟩, UF.mv M4.out (Nat.le_refl _)⟩
set_option maxHeartbeats 1600000 in
set_option maxRecDepth 5000 in
theorem takeSoa_any (B T : Nat) (l : List UInt8) (w : World) (hR : Rdr B T l w) :
    Calls Try.prog 51 #[.pointer (some ⟨T, 0, none⟩)] w fun e w' => Got B T (D.soa l) (fun x v w' => SoaV w.heap.size x v w') w e w' := by
  have hTl := hR.lt
  have hBw := hR.base
  have hb0 := (Below.refl w.heap.size w).alloc (Nat.le_refl _) (.cells #[.slice none 0 0, .slice none 0 0, .int .u32 0, .int .u32 0, .int .u32 0, .int .u32 0, .int .u32 0] 43)
  have R0 := hide (RowAt.new w 43 #[.slice none 0 0, .slice none 0 0, .int .u32 0, .int .u32 0, .int .u32 0, .int .u32 0, .int .u32 0])
  have D0 := hide (hR.below hb0)
  have M0 := hide (Mv.of (T := T) hb0)
  clear hR hb0
  go_enter Try.func51, Try.ntmps51
  go_wp2_with fail
  refine (rname_any B T l _ (by exact D0.out)).mono ?_
  rintro e w1 ⟨⟨x1, r1, v1, ho1, rfl, hx1, hr1⟩ | ⟨ho1, rfl⟩, hm1⟩
  rotate_left
  · unfold fell50
    go_wp2
    exact ⟨rfl, Or.inr ⟨by simp [D.soa, ho1], rfl⟩, M0.out.trans hm1⟩
  obtain ⟨a1, c1, rfl, _, _, _, _⟩ := hx1.open
  have hrow1 := row_mv R0.out (by omega) hm1
  have k1 : w1.cell? ⟨w.heap.size, 0, none⟩ = some (.slice none 0 0) := hrow1.cell 0
  have f1 := hrow1.frozen 0
  have R1 : Hid (RowAt (w1.setCell ⟨w.heap.size, 0, none⟩ (.slice a1 x1.length c1)) w.heap.size 43 #[.slice a1 x1.length c1, .slice none 0 0, .int .u32 0, .int .u32 0, .int .u32 0, .int .u32 0, .int .u32 0]) := hrow1.set 0 _
  have D1 := hide (hr1.other w.heap.size 0 (.slice a1 x1.length c1) (by omega) (by omega))
  have M1 := hide ((M0.out.trans hm1).setNew w.heap.size 0 (.slice a1 x1.length c1) (Nat.le_refl _))
  have O1_1 := hide (own_set (OwnS.lower hx1 (M0.out.size)) hrow1 (by decide) 0 (.slice a1 x1.length c1))
  clear hrow1 hr1 R0 D0 M0 hx1
  have H1 := hide ho1
  clear ho1
  go_wp2_with fail
  refine (rname_any B T r1 _ (by exact D1.out)).mono ?_
  rintro e w2 ⟨⟨x2, r2, v2, ho2, rfl, hx2, hr2⟩ | ⟨ho2, rfl⟩, hm2⟩
  rotate_left
  · unfold fell50
    go_wp2
    exact ⟨rfl, Or.inr ⟨by simp [D.soa, H1.out, ho2], rfl⟩, M1.out.trans hm2⟩
  obtain ⟨a2, c2, rfl, _, _, _, _⟩ := hx2.open
  have hrow2 := row_mv R1.out (by omega) hm2
  have k2 : w2.cell? ⟨w.heap.size, 1, none⟩ = some (.slice none 0 0) := hrow2.cell 1
  have f2 := hrow2.frozen 1
  have R2 : Hid (RowAt (w2.setCell ⟨w.heap.size, 1, none⟩ (.slice a2 x2.length c2)) w.heap.size 43 #[.slice a1 x1.length c1, .slice a2 x2.length c2, .int .u32 0, .int .u32 0, .int .u32 0, .int .u32 0, .int .u32 0]) := hrow2.set 1 _
  have D2 := hide (hr2.other w.heap.size 1 (.slice a2 x2.length c2) (by omega) (by omega))
  have M2 := hide ((M1.out.trans hm2).setNew w.heap.size 1 (.slice a2 x2.length c2) (Nat.le_refl _))
  have O1_2 := hide (own_set (D1.out.ownS hm2 O1_1.out) hrow2 (by decide) 1 (.slice a2 x2.length c2))
  have O2_2 := hide (own_set (OwnS.lower hx2 (M1.out.size)) hrow2 (by decide) 1 (.slice a2 x2.length c2))
  clear hrow2 hr2 R1 D1 M1 O1_1 hx2
  have H2 := hide ho2
  clear ho2
  go_wp2_with fail
  refine (rn32_any B T r2 _ (by exact D2.out)).mono ?_
  rintro e w3 ⟨⟨x3, r3, v3, ho3, rfl, hx3, hr3⟩ | ⟨ho3, rfl⟩, hm3⟩
  rotate_left
  · unfold fell50
    go_wp2
    exact ⟨rfl, Or.inr ⟨by simp [D.soa, H1.out, H2.out, ho3], rfl⟩, M2.out.trans hm3⟩
  subst hx3
  have hrow3 := row_mv R2.out (by omega) hm3
  have k3 : w3.cell? ⟨w.heap.size, 2, none⟩ = some (.int .u32 0) := hrow3.cell 2
  have f3 := hrow3.frozen 2
  have R3 : Hid (RowAt (w3.setCell ⟨w.heap.size, 2, none⟩ (.int .u32 (x3 : Int))) w.heap.size 43 #[.slice a1 x1.length c1, .slice a2 x2.length c2, .int .u32 (x3 : Int), .int .u32 0, .int .u32 0, .int .u32 0, .int .u32 0]) := hrow3.set 2 _
  have D3 := hide (hr3.other w.heap.size 2 (.int .u32 (x3 : Int)) (by omega) (by omega))
  have M3 := hide ((M2.out.trans hm3).setNew w.heap.size 2 (.int .u32 (x3 : Int)) (Nat.le_refl _))
  have O1_3 := hide (own_set (D2.out.ownS hm3 O1_2.out) hrow3 (by decide) 2 (.int .u32 (x3 : Int)))
  have O2_3 := hide (own_set (D2.out.ownS hm3 O2_2.out) hrow3 (by decide) 2 (.int .u32 (x3 : Int)))
  clear hrow3 hr3 R2 D2 M2 O1_2 O2_2
  have H3 := hide ho3
  clear ho3
  go_wp2_with fail
  refine (rn32_any B T r3 _ (by exact D3.out)).mono ?_
  rintro e w4 ⟨⟨x4, r4, v4, ho4, rfl, hx4, hr4⟩ | ⟨ho4, rfl⟩, hm4⟩
  rotate_left
  · unfold fell50
    go_wp2
    exact ⟨rfl, Or.inr ⟨by simp [D.soa, H1.out, H2.out, H3.out, ho4], rfl⟩, M3.out.trans hm4⟩
  subst hx4
  have hrow4 := row_mv R3.out (by omega) hm4
  have k4 : w4.cell? ⟨w.heap.size, 3, none⟩ = some (.int .u32 0) := hrow4.cell 3
  have f4 := hrow4.frozen 3
  have R4 : Hid (RowAt (w4.setCell ⟨w.heap.size, 3, none⟩ (.int .u32 (x4 : Int))) w.heap.size 43 #[.slice a1 x1.length c1, .slice a2 x2.length c2, .int .u32 (x3 : Int), .int .u32 (x4 : Int), .int .u32 0, .int .u32 0, .int .u32 0]) := hrow4.set 3 _
  have D4 := hide (hr4.other w.heap.size 3 (.int .u32 (x4 : Int)) (by omega) (by omega))
  have M4 := hide ((M3.out.trans hm4).setNew w.heap.size 3 (.int .u32 (x4 : Int)) (Nat.le_refl _))
  have O1_4 := hide (own_set (D3.out.ownS hm4 O1_3.out) hrow4 (by decide) 3 (.int .u32 (x4 : Int)))
  have O2_4 := hide (own_set (D3.out.ownS hm4 O2_3.out) hrow4 (by decide) 3 (.int .u32 (x4 : Int)))
  clear hrow4 hr4 R3 D3 M3 O1_3 O2_3
  have H4 := hide ho4
  clear ho4
  go_wp2_with fail
  refine (rn32_any B T r4 _ (by exact D4.out)).mono ?_
  rintro e w5 ⟨⟨x5, r5, v5, ho5, rfl, hx5, hr5⟩ | ⟨ho5, rfl⟩, hm5⟩
  rotate_left
  · unfold fell50
    go_wp2
    exact ⟨rfl, Or.inr ⟨by simp [D.soa, H1.out, H2.out, H3.out, H4.out, ho5], rfl⟩, M4.out.trans hm5⟩
  subst hx5
  have hrow5 := row_mv R4.out (by omega) hm5
  have k5 : w5.cell? ⟨w.heap.size, 4, none⟩ = some (.int .u32 0) := hrow5.cell 4
  have f5 := hrow5.frozen 4
  have R5 : Hid (RowAt (w5.setCell ⟨w.heap.size, 4, none⟩ (.int .u32 (x5 : Int))) w.heap.size 43 #[.slice a1 x1.length c1, .slice a2 x2.length c2, .int .u32 (x3 : Int), .int .u32 (x4 : Int), .int .u32 (x5 : Int), .int .u32 0, .int .u32 0]) := hrow5.set 4 _
  have D5 := hide (hr5.other w.heap.size 4 (.int .u32 (x5 : Int)) (by omega) (by omega))
  have M5 := hide ((M4.out.trans hm5).setNew w.heap.size 4 (.int .u32 (x5 : Int)) (Nat.le_refl _))
  have O1_5 := hide (own_set (D4.out.ownS hm5 O1_4.out) hrow5 (by decide) 4 (.int .u32 (x5 : Int)))
  have O2_5 := hide (own_set (D4.out.ownS hm5 O2_4.out) hrow5 (by decide) 4 (.int .u32 (x5 : Int)))
  clear hrow5 hr5 R4 D4 M4 O1_4 O2_4
  have H5 := hide ho5
  clear ho5
  go_wp2_with fail
  refine (rn32_any B T r5 _ (by exact D5.out)).mono ?_
  rintro e w6 ⟨⟨x6, r6, v6, ho6, rfl, hx6, hr6⟩ | ⟨ho6, rfl⟩, hm6⟩
  rotate_left
  · unfold fell50
    go_wp2
    exact ⟨rfl, Or.inr ⟨by simp [D.soa, H1.out, H2.out, H3.out, H4.out, H5.out, ho6], rfl⟩, M5.out.trans hm6⟩
  subst hx6
  have hrow6 := row_mv R5.out (by omega) hm6
  have k6 : w6.cell? ⟨w.heap.size, 5, none⟩ = some (.int .u32 0) := hrow6.cell 5
  have f6 := hrow6.frozen 5
  have R6 : Hid (RowAt (w6.setCell ⟨w.heap.size, 5, none⟩ (.int .u32 (x6 : Int))) w.heap.size 43 #[.slice a1 x1.length c1, .slice a2 x2.length c2, .int .u32 (x3 : Int), .int .u32 (x4 : Int), .int .u32 (x5 : Int), .int .u32 (x6 : Int), .int .u32 0]) := hrow6.set 5 _
  have D6 := hide (hr6.other w.heap.size 5 (.int .u32 (x6 : Int)) (by omega) (by omega))
  have M6 := hide ((M5.out.trans hm6).setNew w.heap.size 5 (.int .u32 (x6 : Int)) (Nat.le_refl _))
  have O1_6 := hide (own_set (D5.out.ownS hm6 O1_5.out) hrow6 (by decide) 5 (.int .u32 (x6 : Int)))
  have O2_6 := hide (own_set (D5.out.ownS hm6 O2_5.out) hrow6 (by decide) 5 (.int .u32 (x6 : Int)))
  clear hrow6 hr6 R5 D5 M5 O1_5 O2_5
  have H6 := hide ho6
  clear ho6
  go_wp2_with fail
  refine (rn32_any B T r6 _ (by exact D6.out)).mono ?_
  rintro e w7 ⟨⟨x7, r7, v7, ho7, rfl, hx7, hr7⟩ | ⟨ho7, rfl⟩, hm7⟩
  rotate_left
  · unfold fell50
    go_wp2
    exact ⟨rfl, Or.inr ⟨by simp [D.soa, H1.out, H2.out, H3.out, H4.out, H5.out, H6.out, ho7], rfl⟩, M6.out.trans hm7⟩
  subst hx7
  have hrow7 := row_mv R6.out (by omega) hm7
  have k7 : w7.cell? ⟨w.heap.size, 6, none⟩ = some (.int .u32 0) := hrow7.cell 6
  have f7 := hrow7.frozen 6
  have g0 : w7.cell? ⟨w.heap.size, 0, none⟩ = some (.slice a1 x1.length c1) := hrow7.cell 0
  have e0 := hrow7.frozen 0
  have g1 : w7.cell? ⟨w.heap.size, 1, none⟩ = some (.slice a2 x2.length c2) := hrow7.cell 1
  have e1 := hrow7.frozen 1
  have g2 : w7.cell? ⟨w.heap.size, 2, none⟩ = some (.int .u32 (x3 : Int)) := hrow7.cell 2
  have e2 := hrow7.frozen 2
  have g3 : w7.cell? ⟨w.heap.size, 3, none⟩ = some (.int .u32 (x4 : Int)) := hrow7.cell 3
  have e3 := hrow7.frozen 3
  have g4 : w7.cell? ⟨w.heap.size, 4, none⟩ = some (.int .u32 (x5 : Int)) := hrow7.cell 4
  have e4 := hrow7.frozen 4
  have g5 : w7.cell? ⟨w.heap.size, 5, none⟩ = some (.int .u32 (x6 : Int)) := hrow7.cell 5
  have e5 := hrow7.frozen 5
  have R7 : Hid (RowAt (w7.setCell ⟨w.heap.size, 6, none⟩ (.int .u32 (x7 : Int))) w.heap.size 43 #[.slice a1 x1.length c1, .slice a2 x2.length c2, .int .u32 (x3 : Int), .int .u32 (x4 : Int), .int .u32 (x5 : Int), .int .u32 (x6 : Int), .int .u32 (x7 : Int)]) := hrow7.set 6 _
  have D7 := hide (hr7.other w.heap.size 6 (.int .u32 (x7 : Int)) (by omega) (by omega))
  have M7 := hide ((M6.out.trans hm7).setNew w.heap.size 6 (.int .u32 (x7 : Int)) (Nat.le_refl _))
  have O1_7 := hide (own_set (D6.out.ownS hm7 O1_6.out) hrow7 (by decide) 6 (.int .u32 (x7 : Int)))
  have O2_7 := hide (own_set (D6.out.ownS hm7 O2_6.out) hrow7 (by decide) 6 (.int .u32 (x7 : Int)))
  clear hrow7 hr7 R6 D6 M6 O1_6 O2_6
  have H7 := hide ho7
  clear ho7
  have RF : RowAt ((((((((w7.setCell ⟨w.heap.size, 6, none⟩ (.int .u32 (x7 : Int))).setCell ⟨w.heap.size, 0, none⟩ (.slice a1 x1.length c1)).setCell ⟨w.heap.size, 1, none⟩ (.slice a2 x2.length c2)).setCell ⟨w.heap.size, 2, none⟩ (.int .u32 (x3 : Int))).setCell ⟨w.heap.size, 3, none⟩ (.int .u32 (x4 : Int))).setCell ⟨w.heap.size, 4, none⟩ (.int .u32 (x5 : Int))).setCell ⟨w.heap.size, 5, none⟩ (.int .u32 (x6 : Int))).setCell ⟨w.heap.size, 6, none⟩ (.int .u32 (x7 : Int))) w.heap.size 43 #[.slice a1 x1.length c1, .slice a2 x2.length c2, .int .u32 (x3 : Int), .int .u32 (x4 : Int), .int .u32 (x5 : Int), .int .u32 (x6 : Int), .int .u32 (x7 : Int)] := (((((((R7.out.same 0 rfl).same 1 rfl).same 2 rfl).same 3 rfl).same 4 rfl).same 5 rfl).same 6 rfl)
  have UF : Upd w.heap.size (w7.setCell ⟨w.heap.size, 6, none⟩ (.int .u32 (x7 : Int))) ((((((((w7.setCell ⟨w.heap.size, 6, none⟩ (.int .u32 (x7 : Int))).setCell ⟨w.heap.size, 0, none⟩ (.slice a1 x1.length c1)).setCell ⟨w.heap.size, 1, none⟩ (.slice a2 x2.length c2)).setCell ⟨w.heap.size, 2, none⟩ (.int .u32 (x3 : Int))).setCell ⟨w.heap.size, 3, none⟩ (.int .u32 (x4 : Int))).setCell ⟨w.heap.size, 4, none⟩ (.int .u32 (x5 : Int))).setCell ⟨w.heap.size, 5, none⟩ (.int .u32 (x6 : Int))).setCell ⟨w.heap.size, 6, none⟩ (.int .u32 (x7 : Int))) := ((((((((Upd.refl w.heap.size (w7.setCell ⟨w.heap.size, 6, none⟩ (.int .u32 (x7 : Int)))).set 0 (.slice a1 x1.length c1)).set 1 (.slice a2 x2.length c2)).set 2 (.int .u32 (x3 : Int))).set 3 (.int .u32 (x4 : Int))).set 4 (.int .u32 (x5 : Int))).set 5 (.int .u32 (x6 : Int))).set 6 (.int .u32 (x7 : Int)))
  go_wp2
  generalize ((((((((w7.setCell ⟨w.heap.size, 6, none⟩ (.int .u32 (x7 : Int))).setCell ⟨w.heap.size, 0, none⟩ (.slice a1 x1.length c1)).setCell ⟨w.heap.size, 1, none⟩ (.slice a2 x2.length c2)).setCell ⟨w.heap.size, 2, none⟩ (.int .u32 (x3 : Int))).setCell ⟨w.heap.size, 3, none⟩ (.int .u32 (x4 : Int))).setCell ⟨w.heap.size, 4, none⟩ (.int .u32 (x5 : Int))).setCell ⟨w.heap.size, 5, none⟩ (.int .u32 (x6 : Int))).setCell ⟨w.heap.size, 6, none⟩ (.int .u32 (x7 : Int))) = F at RF UF ⊢
  have q0 : F.cell? ⟨w.heap.size, 0, none⟩ = some (.slice a1 x1.length c1) := RF.cell 0
  have q1 : F.cell? ⟨w.heap.size, 1, none⟩ = some (.slice a2 x2.length c2) := RF.cell 1
  have q2 : F.cell? ⟨w.heap.size, 2, none⟩ = some (.int .u32 (x3 : Int)) := RF.cell 2
  have q3 : F.cell? ⟨w.heap.size, 3, none⟩ = some (.int .u32 (x4 : Int)) := RF.cell 3
  have q4 : F.cell? ⟨w.heap.size, 4, none⟩ = some (.int .u32 (x5 : Int)) := RF.cell 4
  have q5 : F.cell? ⟨w.heap.size, 5, none⟩ = some (.int .u32 (x6 : Int)) := RF.cell 5
  have q6 : F.cell? ⟨w.heap.size, 6, none⟩ = some (.int .u32 (x7 : Int)) := RF.cell 6
  simp [bodyPost, results, Try.results51, go_sem, q0, q1, q2, q3, q4, q5, q6]
  refine ⟨Or.inl ⟨⟨x1, x2, x3, x4, x5, x6, x7⟩, _, _, by simp [D.soa, H1.out, H2.out, H3.out, H4.out, H5.out, H6.out, H7.out], rfl, ⟨_, _, _, _, rfl, UF.own R7.out (by decide) O1_7.out, UF.own R7.out (by decide) O2_7.out⟩, UF.rdr D7.out (by omega) (by omega)⟩, UF.mv M7.out (Nat.le_refl _)⟩
end Go.Proofs.Ytagopkmehlpjpaa
