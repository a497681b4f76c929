/- rdata.takeChain. -/
import Derived.Test.YtagopkmehlpjpaaTakK
import Derived.Test.YtagopkmehlpjpaaTyB
namespace Go.Proofs.Ytagopkmehlpjpaa
open Go.RowKit
set_option maxHeartbeats 1600000 in
set_option maxRecDepth 5000 in
theorem takeChain_any (B T : Nat) (l : List UInt8) (w : World) (hR : Rdr B T l w) :
    Calls Try.prog 59 #[.pointer (some ⟨T, 0, none⟩)] w fun e w' => Got B T (D.chain l) (fun x v w' => ChainV w.heap.size x v w') w e w' := by
  have hTl := hR.lt
  have hBw := hR.base
  have hb0 := (Below.refl w.heap.size w).alloc (Nat.le_refl _) (.cells #[.int .u8 0, .int .u8 0, .int .u16 0, .slice none 0 0, .slice none 0 0, .slice none 0 0] 60)
  have R0 := hide (RowAt.new w 60 #[.int .u8 0, .int .u8 0, .int .u16 0, .slice none 0 0, .slice none 0 0, .slice none 0 0])
  have D0 := hide (hR.below hb0)
  have M0 := hide (Mv.of (T := T) hb0)
  clear hR hb0
  go_enter Try.func59, Try.ntmps59
  go_wp2_with fail
  refine (rn8_any B T l _ (by exact D0.out)).mono ?_
  rintro e w1 ⟨⟨x1, r1, v1, ho1, rfl, hx1, hr1⟩ | ⟨ho1, rfl⟩, hm1⟩
  rotate_left
  · unfold fell50
    go_wp2
    exact ⟨rfl, Or.inr ⟨by simp [D.chain, ho1], rfl⟩, M0.out.trans hm1⟩
  subst hx1
  have hrow1 := row_mv R0.out (by omega) hm1
  have k1 : w1.cell? ⟨w.heap.size, 0, none⟩ = some (.int .u8 0) := hrow1.cell 0
  have f1 := hrow1.frozen 0
  have R1 : Hid (RowAt (w1.setCell ⟨w.heap.size, 0, none⟩ (.int .u8 (x1 : Int))) w.heap.size 60 #[.int .u8 (x1 : Int), .int .u8 0, .int .u16 0, .slice none 0 0, .slice none 0 0, .slice none 0 0]) := hrow1.set 0 _
  have D1 := hide (hr1.other w.heap.size 0 (.int .u8 (x1 : Int)) (by omega) (by omega))
  have M1 := hide ((M0.out.trans hm1).setNew w.heap.size 0 (.int .u8 (x1 : Int)) (Nat.le_refl _))
  clear hrow1 hr1 R0 D0 M0
  have H1 := hide ho1
  clear ho1
  go_wp2_with fail
  refine (rn8_any B T r1 _ (by exact D1.out)).mono ?_
  rintro e w2 ⟨⟨x2, r2, v2, ho2, rfl, hx2, hr2⟩ | ⟨ho2, rfl⟩, hm2⟩
  rotate_left
  · unfold fell50
    go_wp2
    exact ⟨rfl, Or.inr ⟨by simp [D.chain, H1.out, ho2], rfl⟩, M1.out.trans hm2⟩
  subst hx2
  have hrow2 := row_mv R1.out (by omega) hm2
  have k2 : w2.cell? ⟨w.heap.size, 1, none⟩ = some (.int .u8 0) := hrow2.cell 1
  have f2 := hrow2.frozen 1
  have R2 : Hid (RowAt (w2.setCell ⟨w.heap.size, 1, none⟩ (.int .u8 (x2 : Int))) w.heap.size 60 #[.int .u8 (x1 : Int), .int .u8 (x2 : Int), .int .u16 0, .slice none 0 0, .slice none 0 0, .slice none 0 0]) := hrow2.set 1 _
  have D2 := hide (hr2.other w.heap.size 1 (.int .u8 (x2 : Int)) (by omega) (by omega))
  have M2 := hide ((M1.out.trans hm2).setNew w.heap.size 1 (.int .u8 (x2 : Int)) (Nat.le_refl _))
  clear hrow2 hr2 R1 D1 M1
  have H2 := hide ho2
  clear ho2
  go_wp2_with fail
  refine (rn16_any B T r2 _ (by exact D2.out)).mono ?_
  rintro e w3 ⟨⟨x3, r3, v3, ho3, rfl, hx3, hr3⟩ | ⟨ho3, rfl⟩, hm3⟩
  rotate_left
  · unfold fell50
    go_wp2
    exact ⟨rfl, Or.inr ⟨by simp [D.chain, H1.out, H2.out, ho3], rfl⟩, M2.out.trans hm3⟩
  subst hx3
  have hrow3 := row_mv R2.out (by omega) hm3
  have k3 : w3.cell? ⟨w.heap.size, 2, none⟩ = some (.int .u16 0) := hrow3.cell 2
  have f3 := hrow3.frozen 2
  have R3 : Hid (RowAt (w3.setCell ⟨w.heap.size, 2, none⟩ (.int .u16 (x3 : Int))) w.heap.size 60 #[.int .u8 (x1 : Int), .int .u8 (x2 : Int), .int .u16 (x3 : Int), .slice none 0 0, .slice none 0 0, .slice none 0 0]) := hrow3.set 2 _
  have D3 := hide (hr3.other w.heap.size 2 (.int .u16 (x3 : Int)) (by omega) (by omega))
  have M3 := hide ((M2.out.trans hm3).setNew w.heap.size 2 (.int .u16 (x3 : Int)) (Nat.le_refl _))
  clear hrow3 hr3 R2 D2 M2
  have H3 := hide ho3
  clear ho3
  go_wp2_with fail
  refine (rcounted_any B T r3 _ (by exact D3.out)).mono ?_
  rintro e w4 ⟨⟨x4, r4, v4, ho4, rfl, hx4, hr4⟩ | ⟨ho4, rfl⟩, hm4⟩
  rotate_left
  · unfold fell50
    go_wp2
    exact ⟨rfl, Or.inr ⟨by simp [D.chain, H1.out, H2.out, H3.out, ho4], rfl⟩, M3.out.trans hm4⟩
  obtain ⟨a4, c4, rfl, _, _, _, _⟩ := hx4.open
  have hrow4 := row_mv R3.out (by omega) hm4
  have k4 : w4.cell? ⟨w.heap.size, 3, none⟩ = some (.slice none 0 0) := hrow4.cell 3
  have f4 := hrow4.frozen 3
  have R4 : Hid (RowAt (w4.setCell ⟨w.heap.size, 3, none⟩ (.slice a4 x4.length c4)) w.heap.size 60 #[.int .u8 (x1 : Int), .int .u8 (x2 : Int), .int .u16 (x3 : Int), .slice a4 x4.length c4, .slice none 0 0, .slice none 0 0]) := hrow4.set 3 _
  have D4 := hide (hr4.other w.heap.size 3 (.slice a4 x4.length c4) (by omega) (by omega))
  have M4 := hide ((M3.out.trans hm4).setNew w.heap.size 3 (.slice a4 x4.length c4) (Nat.le_refl _))
  have O4_4 := hide (own_set (OwnB.lower hx4 (M3.out.size)) hrow4 (by decide) 3 (.slice a4 x4.length c4))
  clear hrow4 hr4 R3 D3 M3 hx4
  have H4 := hide ho4
  clear ho4
  go_wp2_with fail
  refine (rcounted_any B T r4 _ (by exact D4.out)).mono ?_
  rintro e w5 ⟨⟨x5, r5, v5, ho5, rfl, hx5, hr5⟩ | ⟨ho5, rfl⟩, hm5⟩
  rotate_left
  · unfold fell50
    go_wp2
    exact ⟨rfl, Or.inr ⟨by simp [D.chain, H1.out, H2.out, H3.out, H4.out, ho5], rfl⟩, M4.out.trans hm5⟩
  obtain ⟨a5, c5, rfl, _, _, _, _⟩ := hx5.open
  have hrow5 := row_mv R4.out (by omega) hm5
  have k5 : w5.cell? ⟨w.heap.size, 4, none⟩ = some (.slice none 0 0) := hrow5.cell 4
  have f5 := hrow5.frozen 4
  have R5 : Hid (RowAt (w5.setCell ⟨w.heap.size, 4, none⟩ (.slice a5 x5.length c5)) w.heap.size 60 #[.int .u8 (x1 : Int), .int .u8 (x2 : Int), .int .u16 (x3 : Int), .slice a4 x4.length c4, .slice a5 x5.length c5, .slice none 0 0]) := hrow5.set 4 _
  have D5 := hide (hr5.other w.heap.size 4 (.slice a5 x5.length c5) (by omega) (by omega))
  have M5 := hide ((M4.out.trans hm5).setNew w.heap.size 4 (.slice a5 x5.length c5) (Nat.le_refl _))
  have O4_5 := hide (own_set (D4.out.ownB hm5 O4_4.out) hrow5 (by decide) 4 (.slice a5 x5.length c5))
  have O5_5 := hide (own_set (OwnB.lower hx5 (M4.out.size)) hrow5 (by decide) 4 (.slice a5 x5.length c5))
  clear hrow5 hr5 R4 D4 M4 O4_4 hx5
  have H5 := hide ho5
  clear ho5
  by_cases hn0 : x5.length = 0
  · have hz : ((x5.length : Int) == 0) = true := by rw [hn0]; rfl
    have HN0 := hide hn0
    clear hn0
    go_wp2
    exact ⟨rfl, Or.inr ⟨by simp [D.chain, H1.out, H2.out, H3.out, H4.out, H5.out, List.eq_nil_of_length_eq_zero HN0.out], rfl⟩, M5.out⟩
  have hz : ((x5.length : Int) == 0) = false := beq_eq_false_iff_ne.2 (by omega)
  have HN0 : Hid (¬ x5 = []) := fun e => hn0 (by rw [e]; rfl)
  clear hn0
  go_wp2_with fail
  refine (rothers_any B T r5 _ (by exact D5.out)).mono ?_
  rintro e w6 ⟨v6, rfl, hx6, hr6, hm6⟩
  obtain ⟨a6, c6, rfl, hs6, hni6, hc6, hcm6⟩ := hx6.open
  have hlen := D5.out.len
  have S6 := hide hs6
  have rw6 := hide (row_mv R5.out (by omega) hm6)
  have O4_6 := hide (D5.out.ownB hm6 O4_5.out)
  have O5_6 := hide (D5.out.ownB hm6 O5_5.out)
  have M6 := hide (M5.out.trans hm6)
  have D6 := hide hr6
  clear hs6 hx6 hr6 R5 O4_5 O5_5 M5 D5 hm6
  go_wp2_with fail
  refine (topen_any r5 a6 r5.length c6 _ rfl (by exact S6.out) hc6 (by unfold maxLen at hcm6; omega) (by omega)).mono ?_
  rintro e w7 ⟨hb7, ⟨m, v7, ht, rfl, hO7⟩ | ⟨ht, rfl⟩⟩
  rotate_left
  · have M7 := M6.out.trans (Mv.of hb7)
    have HT := hide ht
    clear ht hb7
    go_wp2
    exact ⟨rfl, Or.inr ⟨by simp [D.chain, H1.out, H2.out, H3.out, H4.out, H5.out, HT.out], rfl⟩, M7⟩
  obtain ⟨a7, c7, rfl, _, _, _, _⟩ := hO7.open
  have hrow7 := rw6.out.below hb7 rw6.out.lt
  have g0 : w7.cell? ⟨w.heap.size, 0, none⟩ = some (.int .u8 (x1 : Int)) := hrow7.cell 0
  have e0 := hrow7.frozen 0
  have g1 : w7.cell? ⟨w.heap.size, 1, none⟩ = some (.int .u8 (x2 : Int)) := hrow7.cell 1
  have e1 := hrow7.frozen 1
  have g2 : w7.cell? ⟨w.heap.size, 2, none⟩ = some (.int .u16 (x3 : Int)) := hrow7.cell 2
  have e2 := hrow7.frozen 2
  have g3 : w7.cell? ⟨w.heap.size, 3, none⟩ = some (.slice a4 x4.length c4) := hrow7.cell 3
  have e3 := hrow7.frozen 3
  have g4 : w7.cell? ⟨w.heap.size, 4, none⟩ = some (.slice a5 x5.length c5) := hrow7.cell 4
  have e4 := hrow7.frozen 4
  have g5 : w7.cell? ⟨w.heap.size, 5, none⟩ = some (.slice none 0 0) := hrow7.cell 5
  have e5 := hrow7.frozen 5
  have R7 : Hid (RowAt (w7.setCell ⟨w.heap.size, 5, none⟩ (.slice a7 m.length c7)) w.heap.size 60 #[.int .u8 (x1 : Int), .int .u8 (x2 : Int), .int .u16 (x3 : Int), .slice a4 x4.length c4, .slice a5 x5.length c5, .slice a7 m.length c7]) := hrow7.set 5 _
  have D7 := hide ((D6.out.below hb7).other w.heap.size 5 (.slice a7 m.length c7) (by omega) (by omega))
  have M7 := hide ((M6.out.trans (Mv.of hb7)).setNew w.heap.size 5 (.slice a7 m.length c7) (Nat.le_refl _))
  have O4_7 := hide (own_set (O4_6.out.below hb7) hrow7 (by decide) 5 (.slice a7 m.length c7))
  have O5_7 := hide (own_set (O5_6.out.below hb7) hrow7 (by decide) 5 (.slice a7 m.length c7))
  have O6_7 := hide (own_set (OwnH.lower hO7 M6.out.size) hrow7 (by decide) 5 (.slice a7 m.length c7))
  have HT := hide ht
  clear hO7 ht hb7 hrow7 D6 M6 O4_6 O5_6 rw6
  have RF : RowAt (((((((w7.setCell ⟨w.heap.size, 5, none⟩ (.slice a7 m.length c7)).setCell ⟨w.heap.size, 0, none⟩ (.int .u8 (x1 : Int))).setCell ⟨w.heap.size, 1, none⟩ (.int .u8 (x2 : Int))).setCell ⟨w.heap.size, 2, none⟩ (.int .u16 (x3 : Int))).setCell ⟨w.heap.size, 3, none⟩ (.slice a4 x4.length c4)).setCell ⟨w.heap.size, 4, none⟩ (.slice a5 x5.length c5)).setCell ⟨w.heap.size, 5, none⟩ (.slice a7 m.length c7)) w.heap.size 60 #[.int .u8 (x1 : Int), .int .u8 (x2 : Int), .int .u16 (x3 : Int), .slice a4 x4.length c4, .slice a5 x5.length c5, .slice a7 m.length c7] := ((((((R7.out.same 0 rfl).same 1 rfl).same 2 rfl).same 3 rfl).same 4 rfl).same 5 rfl)
  have UF : Upd w.heap.size (w7.setCell ⟨w.heap.size, 5, none⟩ (.slice a7 m.length c7)) (((((((w7.setCell ⟨w.heap.size, 5, none⟩ (.slice a7 m.length c7)).setCell ⟨w.heap.size, 0, none⟩ (.int .u8 (x1 : Int))).setCell ⟨w.heap.size, 1, none⟩ (.int .u8 (x2 : Int))).setCell ⟨w.heap.size, 2, none⟩ (.int .u16 (x3 : Int))).setCell ⟨w.heap.size, 3, none⟩ (.slice a4 x4.length c4)).setCell ⟨w.heap.size, 4, none⟩ (.slice a5 x5.length c5)).setCell ⟨w.heap.size, 5, none⟩ (.slice a7 m.length c7)) := (((((((Upd.refl w.heap.size (w7.setCell ⟨w.heap.size, 5, none⟩ (.slice a7 m.length c7))).set 0 (.int .u8 (x1 : Int))).set 1 (.int .u8 (x2 : Int))).set 2 (.int .u16 (x3 : Int))).set 3 (.slice a4 x4.length c4)).set 4 (.slice a5 x5.length c5)).set 5 (.slice a7 m.length c7))
  go_wp2
  generalize (((((((w7.setCell ⟨w.heap.size, 5, none⟩ (.slice a7 m.length c7)).setCell ⟨w.heap.size, 0, none⟩ (.int .u8 (x1 : Int))).setCell ⟨w.heap.size, 1, none⟩ (.int .u8 (x2 : Int))).setCell ⟨w.heap.size, 2, none⟩ (.int .u16 (x3 : Int))).setCell ⟨w.heap.size, 3, none⟩ (.slice a4 x4.length c4)).setCell ⟨w.heap.size, 4, none⟩ (.slice a5 x5.length c5)).setCell ⟨w.heap.size, 5, none⟩ (.slice a7 m.length c7)) = F at RF UF ⊢
  have q0 : F.cell? ⟨w.heap.size, 0, none⟩ = some (.int .u8 (x1 : Int)) := RF.cell 0
  have q1 : F.cell? ⟨w.heap.size, 1, none⟩ = some (.int .u8 (x2 : Int)) := RF.cell 1
  have q2 : F.cell? ⟨w.heap.size, 2, none⟩ = some (.int .u16 (x3 : Int)) := RF.cell 2
  have q3 : F.cell? ⟨w.heap.size, 3, none⟩ = some (.slice a4 x4.length c4) := RF.cell 3
  have q4 : F.cell? ⟨w.heap.size, 4, none⟩ = some (.slice a5 x5.length c5) := RF.cell 4
  have q5 : F.cell? ⟨w.heap.size, 5, none⟩ = some (.slice a7 m.length c7) := RF.cell 5
  simp [bodyPost, results, Try.results59, go_sem, q0, q1, q2, q3, q4, q5]
  refine ⟨Or.inl ⟨⟨x1, x2, x3, x4, x5, m⟩, _, _, by simp [D.chain, H1.out, H2.out, H3.out, H4.out, H5.out, HN0.out, HT.out], rfl, ⟨_, _, _, _, _, _, rfl, UF.own R7.out (by decide) O4_7.out, UF.own R7.out (by decide) O5_7.out, UF.own R7.out (by decide) O6_7.out⟩, UF.rdr D7.out (by omega) (by omega)⟩, UF.mv M7.out (Nat.le_refl _)⟩
end Go.Proofs.Ytagopkmehlpjpaa
