/- takeSoa .. (texts of stage 5, at this seat). -/
import Derived.Test.YtmbcegljmhcdeaaGreatTyR
namespace Go.Proofs.YtmbcegljmhcdeaaGreat
set_option maxRecDepth 5000
open Go.RowKit
set_option maxHeartbeats 1600000 in
theorem takeKey_any (B T:Nat) (l:List UInt8) (w:World) (hR:Rdr B T l w) :
 Calls Tryz.prog 153 #[.pointer (some ⟨T,0,none⟩)] w fun e w'=>Got B T (D.key l) (fun x v w'=>KeyV w.heap.size x v w') w e w':=by
 have hTl:=hR.lt
 have hBw:=hR.base
 have hb0:=(Below.refl w.heap.size w).alloc (Nat.le_refl _) (.cells #[.int .u16 0,.int .u8 0,.int .u8 0,.slice none 0 0] 179)
 have R0:=hide (RowAt.new w 179 #[.int .u16 0,.int .u8 0,.int .u8 0,.slice none 0 0])
 have D0:=hide (hR.below hb0)
 have M0:=hide (Mv.of (T:=T) hb0)
 clear hR hb0
 go_enter Tryz.func153,Tryz.ntmps153
 go_wp2_with fail
 refine (rn16_any B T l _ (by exact D0.out)).mono ?_
 rintro e w1 ⟨⟨x1,r1,v1,ho1,rfl,hx1,hr1⟩ | ⟨ho1,rfl⟩,hm1⟩
 rotate_left
 ·unfold fell50
  go_wp2
  exact⟨rfl,Or.inr ⟨by simp[D.key,ho1],rfl⟩,M0.out.trans hm1⟩
 subst hx1
 have hrow1:=row_mv R0.out (by omega) hm1
 have k1:w1.cell? ⟨w.heap.size,0,none⟩=some (.int .u16 0):=hrow1.cell 0
 have f1:=hrow1.frozen 0
 have R1:Hid (RowAt (w1.setCell ⟨w.heap.size,0,none⟩ (.int .u16 (x1:Int))) w.heap.size 179 #[.int .u16 (x1:Int),.int .u8 0,.int .u8 0,.slice none 0 0]):=hrow1.set 0 _
 have D1:=hide (hr1.other w.heap.size 0 (.int .u16 (x1:Int)) (by omega) (by omega))
 have M1:=hide ((M0.out.trans hm1).setNew w.heap.size 0 (.int .u16 (x1:Int)) (Nat.le_refl _))
 clear hrow1 hr1 R0 D0 M0
 have H1:=hide ho1
 clear ho1
 go_wp2_with fail
 refine (rn8_any B T r1 _ (by exact D1.out)).mono ?_
 rintro e w2 ⟨⟨x2,r2,v2,ho2,rfl,hx2,hr2⟩ | ⟨ho2,rfl⟩,hm2⟩
 rotate_left
 ·unfold fell50
  go_wp2
  exact⟨rfl,Or.inr ⟨by simp[D.key,H1.out,ho2],rfl⟩,M1.out.trans hm2⟩
 subst hx2
 have hrow2:=row_mv R1.out (by omega) hm2
 have k2:w2.cell? ⟨w.heap.size,1,none⟩=some (.int .u8 0):=hrow2.cell 1
 have f2:=hrow2.frozen 1
 have R2:Hid (RowAt (w2.setCell ⟨w.heap.size,1,none⟩ (.int .u8 (x2:Int))) w.heap.size 179 #[.int .u16 (x1:Int),.int .u8 (x2:Int),.int .u8 0,.slice none 0 0]):=hrow2.set 1 _
 have D2:=hide (hr2.other w.heap.size 1 (.int .u8 (x2:Int)) (by omega) (by omega))
 have M2:=hide ((M1.out.trans hm2).setNew w.heap.size 1 (.int .u8 (x2:Int)) (Nat.le_refl _))
 clear hrow2 hr2 R1 D1 M1
 have H2:=hide ho2
 clear ho2
 go_wp2_with fail
 refine (rn8_any B T r2 _ (by exact D2.out)).mono ?_
 rintro e w3 ⟨⟨x3,r3,v3,ho3,rfl,hx3,hr3⟩ | ⟨ho3,rfl⟩,hm3⟩
 rotate_left
 ·unfold fell50
  go_wp2
  exact⟨rfl,Or.inr ⟨by simp[D.key,H1.out,H2.out,ho3],rfl⟩,M2.out.trans hm3⟩
 subst hx3
 have hrow3:=row_mv R2.out (by omega) hm3
 have k3:w3.cell? ⟨w.heap.size,2,none⟩=some (.int .u8 0):=hrow3.cell 2
 have f3:=hrow3.frozen 2
 have R3:Hid (RowAt (w3.setCell ⟨w.heap.size,2,none⟩ (.int .u8 (x3:Int))) w.heap.size 179 #[.int .u16 (x1:Int),.int .u8 (x2:Int),.int .u8 (x3:Int),.slice none 0 0]):=hrow3.set 2 _
 have D3:=hide (hr3.other w.heap.size 2 (.int .u8 (x3:Int)) (by omega) (by omega))
 have M3:=hide ((M2.out.trans hm3).setNew w.heap.size 2 (.int .u8 (x3:Int)) (Nat.le_refl _))
 clear hrow3 hr3 R2 D2 M2
 have H3:=hide ho3
 clear ho3
 go_wp2_with fail
 refine (rothers_any B T r3 _ (by exact D3.out)).mono ?_
 rintro e w4 ⟨v4,rfl,hx4,hr4,hm4⟩
 obtain⟨a4,c4,rfl,_,_,_,_⟩:=hx4.open
 have hrow4:=row_mv R3.out (by omega) hm4
 have k4:w4.cell? ⟨w.heap.size,3,none⟩=some (.slice none 0 0):=hrow4.cell 3
 have f4:=hrow4.frozen 3
 have g0:w4.cell? ⟨w.heap.size,0,none⟩=some (.int .u16 (x1:Int)):=hrow4.cell 0
 have e0:=hrow4.frozen 0
 have g1:w4.cell? ⟨w.heap.size,1,none⟩=some (.int .u8 (x2:Int)):=hrow4.cell 1
 have e1:=hrow4.frozen 1
 have g2:w4.cell? ⟨w.heap.size,2,none⟩=some (.int .u8 (x3:Int)):=hrow4.cell 2
 have e2:=hrow4.frozen 2
 have R4:Hid (RowAt (w4.setCell ⟨w.heap.size,3,none⟩ (.slice a4 r3.length c4)) w.heap.size 179 #[.int .u16 (x1:Int),.int .u8 (x2:Int),.int .u8 (x3:Int),.slice a4 r3.length c4]):=hrow4.set 3 _
 have D4:=hide (hr4.other w.heap.size 3 (.slice a4 r3.length c4) (by omega) (by omega))
 have M4:=hide ((M3.out.trans hm4).setNew w.heap.size 3 (.slice a4 r3.length c4) (Nat.le_refl _))
 have O4_4:=hide (own_set (OwnB.lower hx4 (M3.out.size)) hrow4 (by decide) 3 (.slice a4 r3.length c4))
 clear hrow4 hr4 R3 D3 M3 hx4
 have RF:RowAt (((((w4.setCell ⟨w.heap.size,3,none⟩ (.slice a4 r3.length c4)).setCell ⟨w.heap.size,0,none⟩ (.int .u16 (x1:Int))).setCell ⟨w.heap.size,1,none⟩ (.int .u8 (x2:Int))).setCell ⟨w.heap.size,2,none⟩ (.int .u8 (x3:Int))).setCell ⟨w.heap.size,3,none⟩ (.slice a4 r3.length c4)) w.heap.size 179 #[.int .u16 (x1:Int),.int .u8 (x2:Int),.int .u8 (x3:Int),.slice a4 r3.length c4]:=((((R4.out.same 0 rfl).same 1 rfl).same 2 rfl).same 3 rfl)
 have UF:Upd w.heap.size (w4.setCell ⟨w.heap.size,3,none⟩ (.slice a4 r3.length c4)) (((((w4.setCell ⟨w.heap.size,3,none⟩ (.slice a4 r3.length c4)).setCell ⟨w.heap.size,0,none⟩ (.int .u16 (x1:Int))).setCell ⟨w.heap.size,1,none⟩ (.int .u8 (x2:Int))).setCell ⟨w.heap.size,2,none⟩ (.int .u8 (x3:Int))).setCell ⟨w.heap.size,3,none⟩ (.slice a4 r3.length c4)):=(((((Upd.refl w.heap.size (w4.setCell ⟨w.heap.size,3,none⟩ (.slice a4 r3.length c4))).set 0 (.int .u16 (x1:Int))).set 1 (.int .u8 (x2:Int))).set 2 (.int .u8 (x3:Int))).set 3 (.slice a4 r3.length c4))
 go_wp2
 generalize (((((w4.setCell ⟨w.heap.size,3,none⟩ (.slice a4 r3.length c4)).setCell ⟨w.heap.size,0,none⟩ (.int .u16 (x1:Int))).setCell ⟨w.heap.size,1,none⟩ (.int .u8 (x2:Int))).setCell ⟨w.heap.size,2,none⟩ (.int .u8 (x3:Int))).setCell ⟨w.heap.size,3,none⟩ (.slice a4 r3.length c4))=F at RF UF ⊢
 have q0:F.cell? ⟨w.heap.size,0,none⟩=some (.int .u16 (x1:Int)):=RF.cell 0
 have q1:F.cell? ⟨w.heap.size,1,none⟩=some (.int .u8 (x2:Int)):=RF.cell 1
 have q2:F.cell? ⟨w.heap.size,2,none⟩=some (.int .u8 (x3:Int)):=RF.cell 2
 have q3:F.cell? ⟨w.heap.size,3,none⟩=some (.slice a4 r3.length c4):=RF.cell 3
 simp[bodyPost,results,Tryz.results153,go_sem,q0,q1,q2,q3]
 refine⟨Or.inl ⟨⟨x1,x2,x3,r3⟩,_,_,by simp[D.key,H1.out,H2.out,H3.out],rfl,⟨_,_,rfl,UF.own R4.out (by decide) O4_4.out⟩,UF.rdr D4.out (by omega) (by omega)⟩,UF.mv M4.out (Nat.le_refl _)⟩
set_option maxHeartbeats 1600000 in
theorem takeSoa_any (B T:Nat) (l:List UInt8) (w:World) (hR:Rdr B T l w) :
 Calls Tryz.prog 147 #[.pointer (some ⟨T,0,none⟩)] w fun e w'=>Got B T (D.soa l) (fun x v w'=>SoaV w.heap.size x v w') w e w':=by
 have hTl:=hR.lt
 have hBw:=hR.base
 have hb0:=(Below.refl w.heap.size w).alloc (Nat.le_refl _) (.cells #[.slice none 0 0,.slice none 0 0,.int .u32 0,.int .u32 0,.int .u32 0,.int .u32 0,.int .u32 0] 166)
 have R0:=hide (RowAt.new w 166 #[.slice none 0 0,.slice none 0 0,.int .u32 0,.int .u32 0,.int .u32 0,.int .u32 0,.int .u32 0])
 have D0:=hide (hR.below hb0)
 have M0:=hide (Mv.of (T:=T) hb0)
 clear hR hb0
 go_enter Tryz.func147,Tryz.ntmps147
 go_wp2_with fail
 refine (rname_any B T l _ (by exact D0.out)).mono ?_
 rintro e w1 ⟨⟨x1,r1,v1,ho1,rfl,hx1,hr1⟩ | ⟨ho1,rfl⟩,hm1⟩
 rotate_left
 ·unfold fell50
  go_wp2
  exact⟨rfl,Or.inr ⟨by simp[D.soa,ho1],rfl⟩,M0.out.trans hm1⟩
 obtain⟨a1,c1,rfl,_,_,_,_⟩:=hx1.open
 have hrow1:=row_mv R0.out (by omega) hm1
 have k1:w1.cell? ⟨w.heap.size,0,none⟩=some (.slice none 0 0):=hrow1.cell 0
 have f1:=hrow1.frozen 0
 have R1:Hid (RowAt (w1.setCell ⟨w.heap.size,0,none⟩ (.slice a1 x1.length c1)) w.heap.size 166 #[.slice a1 x1.length c1,.slice none 0 0,.int .u32 0,.int .u32 0,.int .u32 0,.int .u32 0,.int .u32 0]):=hrow1.set 0 _
 have D1:=hide (hr1.other w.heap.size 0 (.slice a1 x1.length c1) (by omega) (by omega))
 have M1:=hide ((M0.out.trans hm1).setNew w.heap.size 0 (.slice a1 x1.length c1) (Nat.le_refl _))
 have O1_1:=hide (own_set (OwnS.lower hx1 (M0.out.size)) hrow1 (by decide) 0 (.slice a1 x1.length c1))
 clear hrow1 hr1 R0 D0 M0 hx1
 have H1:=hide ho1
 clear ho1
 go_wp2_with fail
 refine (rname_any B T r1 _ (by exact D1.out)).mono ?_
 rintro e w2 ⟨⟨x2,r2,v2,ho2,rfl,hx2,hr2⟩ | ⟨ho2,rfl⟩,hm2⟩
 rotate_left
 ·unfold fell50
  go_wp2
  exact⟨rfl,Or.inr ⟨by simp[D.soa,H1.out,ho2],rfl⟩,M1.out.trans hm2⟩
 obtain⟨a2,c2,rfl,_,_,_,_⟩:=hx2.open
 have hrow2:=row_mv R1.out (by omega) hm2
 have k2:w2.cell? ⟨w.heap.size,1,none⟩=some (.slice none 0 0):=hrow2.cell 1
 have f2:=hrow2.frozen 1
 have R2:Hid (RowAt (w2.setCell ⟨w.heap.size,1,none⟩ (.slice a2 x2.length c2)) w.heap.size 166 #[.slice a1 x1.length c1,.slice a2 x2.length c2,.int .u32 0,.int .u32 0,.int .u32 0,.int .u32 0,.int .u32 0]):=hrow2.set 1 _
 have D2:=hide (hr2.other w.heap.size 1 (.slice a2 x2.length c2) (by omega) (by omega))
 have M2:=hide ((M1.out.trans hm2).setNew w.heap.size 1 (.slice a2 x2.length c2) (Nat.le_refl _))
 have O1_2:=hide (own_set (D1.out.ownS hm2 O1_1.out) hrow2 (by decide) 1 (.slice a2 x2.length c2))
 have O2_2:=hide (own_set (OwnS.lower hx2 (M1.out.size)) hrow2 (by decide) 1 (.slice a2 x2.length c2))
 clear hrow2 hr2 R1 D1 M1 O1_1 hx2
 have H2:=hide ho2
 clear ho2
 go_wp2_with fail
 refine (rn32_any B T r2 _ (by exact D2.out)).mono ?_
 rintro e w3 ⟨⟨x3,r3,v3,ho3,rfl,hx3,hr3⟩ | ⟨ho3,rfl⟩,hm3⟩
 rotate_left
 ·unfold fell50
  go_wp2
  exact⟨rfl,Or.inr ⟨by simp[D.soa,H1.out,H2.out,ho3],rfl⟩,M2.out.trans hm3⟩
 subst hx3
 have hrow3:=row_mv R2.out (by omega) hm3
 have k3:w3.cell? ⟨w.heap.size,2,none⟩=some (.int .u32 0):=hrow3.cell 2
 have f3:=hrow3.frozen 2
 have R3:Hid (RowAt (w3.setCell ⟨w.heap.size,2,none⟩ (.int .u32 (x3:Int))) w.heap.size 166 #[.slice a1 x1.length c1,.slice a2 x2.length c2,.int .u32 (x3:Int),.int .u32 0,.int .u32 0,.int .u32 0,.int .u32 0]):=hrow3.set 2 _
 have D3:=hide (hr3.other w.heap.size 2 (.int .u32 (x3:Int)) (by omega) (by omega))
 have M3:=hide ((M2.out.trans hm3).setNew w.heap.size 2 (.int .u32 (x3:Int)) (Nat.le_refl _))
 have O1_3:=hide (own_set (D2.out.ownS hm3 O1_2.out) hrow3 (by decide) 2 (.int .u32 (x3:Int)))
 have O2_3:=hide (own_set (D2.out.ownS hm3 O2_2.out) hrow3 (by decide) 2 (.int .u32 (x3:Int)))
 clear hrow3 hr3 R2 D2 M2 O1_2 O2_2
 have H3:=hide ho3
 clear ho3
 go_wp2_with fail
 refine (rn32_any B T r3 _ (by exact D3.out)).mono ?_
 rintro e w4 ⟨⟨x4,r4,v4,ho4,rfl,hx4,hr4⟩ | ⟨ho4,rfl⟩,hm4⟩
 rotate_left
 ·unfold fell50
  go_wp2
  exact⟨rfl,Or.inr ⟨by simp[D.soa,H1.out,H2.out,H3.out,ho4],rfl⟩,M3.out.trans hm4⟩
 subst hx4
 have hrow4:=row_mv R3.out (by omega) hm4
 have k4:w4.cell? ⟨w.heap.size,3,none⟩=some (.int .u32 0):=hrow4.cell 3
 have f4:=hrow4.frozen 3
 have R4:Hid (RowAt (w4.setCell ⟨w.heap.size,3,none⟩ (.int .u32 (x4:Int))) w.heap.size 166 #[.slice a1 x1.length c1,.slice a2 x2.length c2,.int .u32 (x3:Int),.int .u32 (x4:Int),.int .u32 0,.int .u32 0,.int .u32 0]):=hrow4.set 3 _
 have D4:=hide (hr4.other w.heap.size 3 (.int .u32 (x4:Int)) (by omega) (by omega))
 have M4:=hide ((M3.out.trans hm4).setNew w.heap.size 3 (.int .u32 (x4:Int)) (Nat.le_refl _))
 have O1_4:=hide (own_set (D3.out.ownS hm4 O1_3.out) hrow4 (by decide) 3 (.int .u32 (x4:Int)))
 have O2_4:=hide (own_set (D3.out.ownS hm4 O2_3.out) hrow4 (by decide) 3 (.int .u32 (x4:Int)))
 clear hrow4 hr4 R3 D3 M3 O1_3 O2_3
 have H4:=hide ho4
 clear ho4
 go_wp2_with fail
 refine (rn32_any B T r4 _ (by exact D4.out)).mono ?_
 rintro e w5 ⟨⟨x5,r5,v5,ho5,rfl,hx5,hr5⟩ | ⟨ho5,rfl⟩,hm5⟩
 rotate_left
 ·unfold fell50
  go_wp2
  exact⟨rfl,Or.inr ⟨by simp[D.soa,H1.out,H2.out,H3.out,H4.out,ho5],rfl⟩,M4.out.trans hm5⟩
 subst hx5
 have hrow5:=row_mv R4.out (by omega) hm5
 have k5:w5.cell? ⟨w.heap.size,4,none⟩=some (.int .u32 0):=hrow5.cell 4
 have f5:=hrow5.frozen 4
 have R5:Hid (RowAt (w5.setCell ⟨w.heap.size,4,none⟩ (.int .u32 (x5:Int))) w.heap.size 166 #[.slice a1 x1.length c1,.slice a2 x2.length c2,.int .u32 (x3:Int),.int .u32 (x4:Int),.int .u32 (x5:Int),.int .u32 0,.int .u32 0]):=hrow5.set 4 _
 have D5:=hide (hr5.other w.heap.size 4 (.int .u32 (x5:Int)) (by omega) (by omega))
 have M5:=hide ((M4.out.trans hm5).setNew w.heap.size 4 (.int .u32 (x5:Int)) (Nat.le_refl _))
 have O1_5:=hide (own_set (D4.out.ownS hm5 O1_4.out) hrow5 (by decide) 4 (.int .u32 (x5:Int)))
 have O2_5:=hide (own_set (D4.out.ownS hm5 O2_4.out) hrow5 (by decide) 4 (.int .u32 (x5:Int)))
 clear hrow5 hr5 R4 D4 M4 O1_4 O2_4
 have H5:=hide ho5
 clear ho5
 go_wp2_with fail
 refine (rn32_any B T r5 _ (by exact D5.out)).mono ?_
 rintro e w6 ⟨⟨x6,r6,v6,ho6,rfl,hx6,hr6⟩ | ⟨ho6,rfl⟩,hm6⟩
 rotate_left
 ·unfold fell50
  go_wp2
  exact⟨rfl,Or.inr ⟨by simp[D.soa,H1.out,H2.out,H3.out,H4.out,H5.out,ho6],rfl⟩,M5.out.trans hm6⟩
 subst hx6
 have hrow6:=row_mv R5.out (by omega) hm6
 have k6:w6.cell? ⟨w.heap.size,5,none⟩=some (.int .u32 0):=hrow6.cell 5
 have f6:=hrow6.frozen 5
 have R6:Hid (RowAt (w6.setCell ⟨w.heap.size,5,none⟩ (.int .u32 (x6:Int))) w.heap.size 166 #[.slice a1 x1.length c1,.slice a2 x2.length c2,.int .u32 (x3:Int),.int .u32 (x4:Int),.int .u32 (x5:Int),.int .u32 (x6:Int),.int .u32 0]):=hrow6.set 5 _
 have D6:=hide (hr6.other w.heap.size 5 (.int .u32 (x6:Int)) (by omega) (by omega))
 have M6:=hide ((M5.out.trans hm6).setNew w.heap.size 5 (.int .u32 (x6:Int)) (Nat.le_refl _))
 have O1_6:=hide (own_set (D5.out.ownS hm6 O1_5.out) hrow6 (by decide) 5 (.int .u32 (x6:Int)))
 have O2_6:=hide (own_set (D5.out.ownS hm6 O2_5.out) hrow6 (by decide) 5 (.int .u32 (x6:Int)))
 clear hrow6 hr6 R5 D5 M5 O1_5 O2_5
 have H6:=hide ho6
 clear ho6
 go_wp2_with fail
 refine (rn32_any B T r6 _ (by exact D6.out)).mono ?_
 rintro e w7 ⟨⟨x7,r7,v7,ho7,rfl,hx7,hr7⟩ | ⟨ho7,rfl⟩,hm7⟩
 rotate_left
 ·unfold fell50
  go_wp2
  exact⟨rfl,Or.inr ⟨by simp[D.soa,H1.out,H2.out,H3.out,H4.out,H5.out,H6.out,ho7],rfl⟩,M6.out.trans hm7⟩
 subst hx7
 have hrow7:=row_mv R6.out (by omega) hm7
 have k7:w7.cell? ⟨w.heap.size,6,none⟩=some (.int .u32 0):=hrow7.cell 6
 have f7:=hrow7.frozen 6
 have g0:w7.cell? ⟨w.heap.size,0,none⟩=some (.slice a1 x1.length c1):=hrow7.cell 0
 have e0:=hrow7.frozen 0
 have g1:w7.cell? ⟨w.heap.size,1,none⟩=some (.slice a2 x2.length c2):=hrow7.cell 1
 have e1:=hrow7.frozen 1
 have g2:w7.cell? ⟨w.heap.size,2,none⟩=some (.int .u32 (x3:Int)):=hrow7.cell 2
 have e2:=hrow7.frozen 2
 have g3:w7.cell? ⟨w.heap.size,3,none⟩=some (.int .u32 (x4:Int)):=hrow7.cell 3
 have e3:=hrow7.frozen 3
 have g4:w7.cell? ⟨w.heap.size,4,none⟩=some (.int .u32 (x5:Int)):=hrow7.cell 4
 have e4:=hrow7.frozen 4
 have g5:w7.cell? ⟨w.heap.size,5,none⟩=some (.int .u32 (x6:Int)):=hrow7.cell 5
 have e5:=hrow7.frozen 5
 have R7:Hid (RowAt (w7.setCell ⟨w.heap.size,6,none⟩ (.int .u32 (x7:Int))) w.heap.size 166 #[.slice a1 x1.length c1,.slice a2 x2.length c2,.int .u32 (x3:Int),.int .u32 (x4:Int),.int .u32 (x5:Int),.int .u32 (x6:Int),.int .u32 (x7:Int)]):=hrow7.set 6 _
 have D7:=hide (hr7.other w.heap.size 6 (.int .u32 (x7:Int)) (by omega) (by omega))
 have M7:=hide ((M6.out.trans hm7).setNew w.heap.size 6 (.int .u32 (x7:Int)) (Nat.le_refl _))
 have O1_7:=hide (own_set (D6.out.ownS hm7 O1_6.out) hrow7 (by decide) 6 (.int .u32 (x7:Int)))
 have O2_7:=hide (own_set (D6.out.ownS hm7 O2_6.out) hrow7 (by decide) 6 (.int .u32 (x7:Int)))
 clear hrow7 hr7 R6 D6 M6 O1_6 O2_6
 have H7:=hide ho7
 clear ho7
 have RF:RowAt ((((((((w7.setCell ⟨w.heap.size,6,none⟩ (.int .u32 (x7:Int))).setCell ⟨w.heap.size,0,none⟩ (.slice a1 x1.length c1)).setCell ⟨w.heap.size,1,none⟩ (.slice a2 x2.length c2)).setCell ⟨w.heap.size,2,none⟩ (.int .u32 (x3:Int))).setCell ⟨w.heap.size,3,none⟩ (.int .u32 (x4:Int))).setCell ⟨w.heap.size,4,none⟩ (.int .u32 (x5:Int))).setCell ⟨w.heap.size,5,none⟩ (.int .u32 (x6:Int))).setCell ⟨w.heap.size,6,none⟩ (.int .u32 (x7:Int))) w.heap.size 166 #[.slice a1 x1.length c1,.slice a2 x2.length c2,.int .u32 (x3:Int),.int .u32 (x4:Int),.int .u32 (x5:Int),.int .u32 (x6:Int),.int .u32 (x7:Int)]:=(((((((R7.out.same 0 rfl).same 1 rfl).same 2 rfl).same 3 rfl).same 4 rfl).same 5 rfl).same 6 rfl)
 have UF:Upd w.heap.size (w7.setCell ⟨w.heap.size,6,none⟩ (.int .u32 (x7:Int))) ((((((((w7.setCell ⟨w.heap.size,6,none⟩ (.int .u32 (x7:Int))).setCell ⟨w.heap.size,0,none⟩ (.slice a1 x1.length c1)).setCell ⟨w.heap.size,1,none⟩ (.slice a2 x2.length c2)).setCell ⟨w.heap.size,2,none⟩ (.int .u32 (x3:Int))).setCell ⟨w.heap.size,3,none⟩ (.int .u32 (x4:Int))).setCell ⟨w.heap.size,4,none⟩ (.int .u32 (x5:Int))).setCell ⟨w.heap.size,5,none⟩ (.int .u32 (x6:Int))).setCell ⟨w.heap.size,6,none⟩ (.int .u32 (x7:Int))):=((((((((Upd.refl w.heap.size (w7.setCell ⟨w.heap.size,6,none⟩ (.int .u32 (x7:Int)))).set 0 (.slice a1 x1.length c1)).set 1 (.slice a2 x2.length c2)).set 2 (.int .u32 (x3:Int))).set 3 (.int .u32 (x4:Int))).set 4 (.int .u32 (x5:Int))).set 5 (.int .u32 (x6:Int))).set 6 (.int .u32 (x7:Int)))
 go_wp2
 generalize ((((((((w7.setCell ⟨w.heap.size,6,none⟩ (.int .u32 (x7:Int))).setCell ⟨w.heap.size,0,none⟩ (.slice a1 x1.length c1)).setCell ⟨w.heap.size,1,none⟩ (.slice a2 x2.length c2)).setCell ⟨w.heap.size,2,none⟩ (.int .u32 (x3:Int))).setCell ⟨w.heap.size,3,none⟩ (.int .u32 (x4:Int))).setCell ⟨w.heap.size,4,none⟩ (.int .u32 (x5:Int))).setCell ⟨w.heap.size,5,none⟩ (.int .u32 (x6:Int))).setCell ⟨w.heap.size,6,none⟩ (.int .u32 (x7:Int)))=F at RF UF ⊢
 have q0:F.cell? ⟨w.heap.size,0,none⟩=some (.slice a1 x1.length c1):=RF.cell 0
 have q1:F.cell? ⟨w.heap.size,1,none⟩=some (.slice a2 x2.length c2):=RF.cell 1
 have q2:F.cell? ⟨w.heap.size,2,none⟩=some (.int .u32 (x3:Int)):=RF.cell 2
 have q3:F.cell? ⟨w.heap.size,3,none⟩=some (.int .u32 (x4:Int)):=RF.cell 3
 have q4:F.cell? ⟨w.heap.size,4,none⟩=some (.int .u32 (x5:Int)):=RF.cell 4
 have q5:F.cell? ⟨w.heap.size,5,none⟩=some (.int .u32 (x6:Int)):=RF.cell 5
 have q6:F.cell? ⟨w.heap.size,6,none⟩=some (.int .u32 (x7:Int)):=RF.cell 6
 simp[bodyPost,results,Tryz.results147,go_sem,q0,q1,q2,q3,q4,q5,q6]
 refine⟨Or.inl ⟨⟨x1,x2,x3,x4,x5,x6,x7⟩,_,_,by simp[D.soa,H1.out,H2.out,H3.out,H4.out,H5.out,H6.out,H7.out],rfl,⟨_,_,_,_,rfl,UF.own R7.out (by decide) O1_7.out,UF.own R7.out (by decide) O2_7.out⟩,UF.rdr D7.out (by omega) (by omega)⟩,UF.mv M7.out (Nat.le_refl _)⟩
open Go.RowKit
set_option maxHeartbeats 1600000 in
theorem takeSig_any (B T:Nat) (l:List UInt8) (w:World) (hR:Rdr B T l w) :
 Calls Tryz.prog 151 #[.pointer (some ⟨T,0,none⟩)] w fun e w'=>Got B T (D.sig l) (fun x v w'=>SigV w.heap.size x v w') w e w':=by
 have hTl:=hR.lt
 have hBw:=hR.base
 have hb0:=(Below.refl w.heap.size w).alloc (Nat.le_refl _) (.cells #[.int .u16 0,.int .u8 0,.int .u8 0,.int .u32 0,.int .u32 0,.int .u32 0,.int .u16 0,.slice none 0 0,.slice none 0 0] 175)
 have R0:=hide (RowAt.new w 175 #[.int .u16 0,.int .u8 0,.int .u8 0,.int .u32 0,.int .u32 0,.int .u32 0,.int .u16 0,.slice none 0 0,.slice none 0 0])
 have D0:=hide (hR.below hb0)
 have M0:=hide (Mv.of (T:=T) hb0)
 clear hR hb0
 go_enter Tryz.func151,Tryz.ntmps151
 go_wp2_with fail
 refine (rn16_any B T l _ (by exact D0.out)).mono ?_
 rintro e w1 ⟨⟨x1,r1,v1,ho1,rfl,hx1,hr1⟩ | ⟨ho1,rfl⟩,hm1⟩
 rotate_left
 ·unfold fell50
  go_wp2
  exact⟨rfl,Or.inr ⟨by simp[D.sig,ho1],rfl⟩,M0.out.trans hm1⟩
 subst hx1
 have hrow1:=row_mv R0.out (by omega) hm1
 have k1:w1.cell? ⟨w.heap.size,0,none⟩=some (.int .u16 0):=hrow1.cell 0
 have f1:=hrow1.frozen 0
 have R1:Hid (RowAt (w1.setCell ⟨w.heap.size,0,none⟩ (.int .u16 (x1:Int))) w.heap.size 175 #[.int .u16 (x1:Int),.int .u8 0,.int .u8 0,.int .u32 0,.int .u32 0,.int .u32 0,.int .u16 0,.slice none 0 0,.slice none 0 0]):=hrow1.set 0 _
 have D1:=hide (hr1.other w.heap.size 0 (.int .u16 (x1:Int)) (by omega) (by omega))
 have M1:=hide ((M0.out.trans hm1).setNew w.heap.size 0 (.int .u16 (x1:Int)) (Nat.le_refl _))
 clear hrow1 hr1 R0 D0 M0
 have H1:=hide ho1
 clear ho1
 go_wp2_with fail
 refine (rn8_any B T r1 _ (by exact D1.out)).mono ?_
 rintro e w2 ⟨⟨x2,r2,v2,ho2,rfl,hx2,hr2⟩ | ⟨ho2,rfl⟩,hm2⟩
 rotate_left
 ·unfold fell50
  go_wp2
  exact⟨rfl,Or.inr ⟨by simp[D.sig,H1.out,ho2],rfl⟩,M1.out.trans hm2⟩
 subst hx2
 have hrow2:=row_mv R1.out (by omega) hm2
 have k2:w2.cell? ⟨w.heap.size,1,none⟩=some (.int .u8 0):=hrow2.cell 1
 have f2:=hrow2.frozen 1
 have R2:Hid (RowAt (w2.setCell ⟨w.heap.size,1,none⟩ (.int .u8 (x2:Int))) w.heap.size 175 #[.int .u16 (x1:Int),.int .u8 (x2:Int),.int .u8 0,.int .u32 0,.int .u32 0,.int .u32 0,.int .u16 0,.slice none 0 0,.slice none 0 0]):=hrow2.set 1 _
 have D2:=hide (hr2.other w.heap.size 1 (.int .u8 (x2:Int)) (by omega) (by omega))
 have M2:=hide ((M1.out.trans hm2).setNew w.heap.size 1 (.int .u8 (x2:Int)) (Nat.le_refl _))
 clear hrow2 hr2 R1 D1 M1
 have H2:=hide ho2
 clear ho2
 go_wp2_with fail
 refine (rn8_any B T r2 _ (by exact D2.out)).mono ?_
 rintro e w3 ⟨⟨x3,r3,v3,ho3,rfl,hx3,hr3⟩ | ⟨ho3,rfl⟩,hm3⟩
 rotate_left
 ·unfold fell50
  go_wp2
  exact⟨rfl,Or.inr ⟨by simp[D.sig,H1.out,H2.out,ho3],rfl⟩,M2.out.trans hm3⟩
 subst hx3
 have hrow3:=row_mv R2.out (by omega) hm3
 have k3:w3.cell? ⟨w.heap.size,2,none⟩=some (.int .u8 0):=hrow3.cell 2
 have f3:=hrow3.frozen 2
 have R3:Hid (RowAt (w3.setCell ⟨w.heap.size,2,none⟩ (.int .u8 (x3:Int))) w.heap.size 175 #[.int .u16 (x1:Int),.int .u8 (x2:Int),.int .u8 (x3:Int),.int .u32 0,.int .u32 0,.int .u32 0,.int .u16 0,.slice none 0 0,.slice none 0 0]):=hrow3.set 2 _
 have D3:=hide (hr3.other w.heap.size 2 (.int .u8 (x3:Int)) (by omega) (by omega))
 have M3:=hide ((M2.out.trans hm3).setNew w.heap.size 2 (.int .u8 (x3:Int)) (Nat.le_refl _))
 clear hrow3 hr3 R2 D2 M2
 have H3:=hide ho3
 clear ho3
 go_wp2_with fail
 refine (rn32_any B T r3 _ (by exact D3.out)).mono ?_
 rintro e w4 ⟨⟨x4,r4,v4,ho4,rfl,hx4,hr4⟩ | ⟨ho4,rfl⟩,hm4⟩
 rotate_left
 ·unfold fell50
  go_wp2
  exact⟨rfl,Or.inr ⟨by simp[D.sig,H1.out,H2.out,H3.out,ho4],rfl⟩,M3.out.trans hm4⟩
 subst hx4
 have hrow4:=row_mv R3.out (by omega) hm4
 have k4:w4.cell? ⟨w.heap.size,3,none⟩=some (.int .u32 0):=hrow4.cell 3
 have f4:=hrow4.frozen 3
 have R4:Hid (RowAt (w4.setCell ⟨w.heap.size,3,none⟩ (.int .u32 (x4:Int))) w.heap.size 175 #[.int .u16 (x1:Int),.int .u8 (x2:Int),.int .u8 (x3:Int),.int .u32 (x4:Int),.int .u32 0,.int .u32 0,.int .u16 0,.slice none 0 0,.slice none 0 0]):=hrow4.set 3 _
 have D4:=hide (hr4.other w.heap.size 3 (.int .u32 (x4:Int)) (by omega) (by omega))
 have M4:=hide ((M3.out.trans hm4).setNew w.heap.size 3 (.int .u32 (x4:Int)) (Nat.le_refl _))
 clear hrow4 hr4 R3 D3 M3
 have H4:=hide ho4
 clear ho4
 go_wp2_with fail
 refine (rn32_any B T r4 _ (by exact D4.out)).mono ?_
 rintro e w5 ⟨⟨x5,r5,v5,ho5,rfl,hx5,hr5⟩ | ⟨ho5,rfl⟩,hm5⟩
 rotate_left
 ·unfold fell50
  go_wp2
  exact⟨rfl,Or.inr ⟨by simp[D.sig,H1.out,H2.out,H3.out,H4.out,ho5],rfl⟩,M4.out.trans hm5⟩
 subst hx5
 have hrow5:=row_mv R4.out (by omega) hm5
 have k5:w5.cell? ⟨w.heap.size,4,none⟩=some (.int .u32 0):=hrow5.cell 4
 have f5:=hrow5.frozen 4
 have R5:Hid (RowAt (w5.setCell ⟨w.heap.size,4,none⟩ (.int .u32 (x5:Int))) w.heap.size 175 #[.int .u16 (x1:Int),.int .u8 (x2:Int),.int .u8 (x3:Int),.int .u32 (x4:Int),.int .u32 (x5:Int),.int .u32 0,.int .u16 0,.slice none 0 0,.slice none 0 0]):=hrow5.set 4 _
 have D5:=hide (hr5.other w.heap.size 4 (.int .u32 (x5:Int)) (by omega) (by omega))
 have M5:=hide ((M4.out.trans hm5).setNew w.heap.size 4 (.int .u32 (x5:Int)) (Nat.le_refl _))
 clear hrow5 hr5 R4 D4 M4
 have H5:=hide ho5
 clear ho5
 go_wp2_with fail
 refine (rn32_any B T r5 _ (by exact D5.out)).mono ?_
 rintro e w6 ⟨⟨x6,r6,v6,ho6,rfl,hx6,hr6⟩ | ⟨ho6,rfl⟩,hm6⟩
 rotate_left
 ·unfold fell50
  go_wp2
  exact⟨rfl,Or.inr ⟨by simp[D.sig,H1.out,H2.out,H3.out,H4.out,H5.out,ho6],rfl⟩,M5.out.trans hm6⟩
 subst hx6
 have hrow6:=row_mv R5.out (by omega) hm6
 have k6:w6.cell? ⟨w.heap.size,5,none⟩=some (.int .u32 0):=hrow6.cell 5
 have f6:=hrow6.frozen 5
 have R6:Hid (RowAt (w6.setCell ⟨w.heap.size,5,none⟩ (.int .u32 (x6:Int))) w.heap.size 175 #[.int .u16 (x1:Int),.int .u8 (x2:Int),.int .u8 (x3:Int),.int .u32 (x4:Int),.int .u32 (x5:Int),.int .u32 (x6:Int),.int .u16 0,.slice none 0 0,.slice none 0 0]):=hrow6.set 5 _
 have D6:=hide (hr6.other w.heap.size 5 (.int .u32 (x6:Int)) (by omega) (by omega))
 have M6:=hide ((M5.out.trans hm6).setNew w.heap.size 5 (.int .u32 (x6:Int)) (Nat.le_refl _))
 clear hrow6 hr6 R5 D5 M5
 have H6:=hide ho6
 clear ho6
 go_wp2_with fail
 refine (rn16_any B T r6 _ (by exact D6.out)).mono ?_
 rintro e w7 ⟨⟨x7,r7,v7,ho7,rfl,hx7,hr7⟩ | ⟨ho7,rfl⟩,hm7⟩
 rotate_left
 ·unfold fell50
  go_wp2
  exact⟨rfl,Or.inr ⟨by simp[D.sig,H1.out,H2.out,H3.out,H4.out,H5.out,H6.out,ho7],rfl⟩,M6.out.trans hm7⟩
 subst hx7
 have hrow7:=row_mv R6.out (by omega) hm7
 have k7:w7.cell? ⟨w.heap.size,6,none⟩=some (.int .u16 0):=hrow7.cell 6
 have f7:=hrow7.frozen 6
 have R7:Hid (RowAt (w7.setCell ⟨w.heap.size,6,none⟩ (.int .u16 (x7:Int))) w.heap.size 175 #[.int .u16 (x1:Int),.int .u8 (x2:Int),.int .u8 (x3:Int),.int .u32 (x4:Int),.int .u32 (x5:Int),.int .u32 (x6:Int),.int .u16 (x7:Int),.slice none 0 0,.slice none 0 0]):=hrow7.set 6 _
 have D7:=hide (hr7.other w.heap.size 6 (.int .u16 (x7:Int)) (by omega) (by omega))
 have M7:=hide ((M6.out.trans hm7).setNew w.heap.size 6 (.int .u16 (x7:Int)) (Nat.le_refl _))
 clear hrow7 hr7 R6 D6 M6
 have H7:=hide ho7
 clear ho7
 go_wp2_with fail
 refine (rname_any B T r7 _ (by exact D7.out)).mono ?_
 rintro e w8 ⟨⟨x8,r8,v8,ho8,rfl,hx8,hr8⟩ | ⟨ho8,rfl⟩,hm8⟩
 rotate_left
 ·unfold fell50
  go_wp2
  exact⟨rfl,Or.inr ⟨by simp[D.sig,H1.out,H2.out,H3.out,H4.out,H5.out,H6.out,H7.out,ho8],rfl⟩,M7.out.trans hm8⟩
 obtain⟨a8,c8,rfl,_,_,_,_⟩:=hx8.open
 have hrow8:=row_mv R7.out (by omega) hm8
 have k8:w8.cell? ⟨w.heap.size,7,none⟩=some (.slice none 0 0):=hrow8.cell 7
 have f8:=hrow8.frozen 7
 have R8:Hid (RowAt (w8.setCell ⟨w.heap.size,7,none⟩ (.slice a8 x8.length c8)) w.heap.size 175 #[.int .u16 (x1:Int),.int .u8 (x2:Int),.int .u8 (x3:Int),.int .u32 (x4:Int),.int .u32 (x5:Int),.int .u32 (x6:Int),.int .u16 (x7:Int),.slice a8 x8.length c8,.slice none 0 0]):=hrow8.set 7 _
 have D8:=hide (hr8.other w.heap.size 7 (.slice a8 x8.length c8) (by omega) (by omega))
 have M8:=hide ((M7.out.trans hm8).setNew w.heap.size 7 (.slice a8 x8.length c8) (Nat.le_refl _))
 have O8_8:=hide (own_set (OwnS.lower hx8 (M7.out.size)) hrow8 (by decide) 7 (.slice a8 x8.length c8))
 clear hrow8 hr8 R7 D7 M7 hx8
 have H8:=hide ho8
 clear ho8
 go_wp2_with fail
 refine (rothers_any B T r8 _ (by exact D8.out)).mono ?_
 rintro e w9 ⟨v9,rfl,hx9,hr9,hm9⟩
 obtain⟨a9,c9,rfl,_,_,_,_⟩:=hx9.open
 have hrow9:=row_mv R8.out (by omega) hm9
 have k9:w9.cell? ⟨w.heap.size,8,none⟩=some (.slice none 0 0):=hrow9.cell 8
 have f9:=hrow9.frozen 8
 have g0:w9.cell? ⟨w.heap.size,0,none⟩=some (.int .u16 (x1:Int)):=hrow9.cell 0
 have e0:=hrow9.frozen 0
 have g1:w9.cell? ⟨w.heap.size,1,none⟩=some (.int .u8 (x2:Int)):=hrow9.cell 1
 have e1:=hrow9.frozen 1
 have g2:w9.cell? ⟨w.heap.size,2,none⟩=some (.int .u8 (x3:Int)):=hrow9.cell 2
 have e2:=hrow9.frozen 2
 have g3:w9.cell? ⟨w.heap.size,3,none⟩=some (.int .u32 (x4:Int)):=hrow9.cell 3
 have e3:=hrow9.frozen 3
 have g4:w9.cell? ⟨w.heap.size,4,none⟩=some (.int .u32 (x5:Int)):=hrow9.cell 4
 have e4:=hrow9.frozen 4
 have g5:w9.cell? ⟨w.heap.size,5,none⟩=some (.int .u32 (x6:Int)):=hrow9.cell 5
 have e5:=hrow9.frozen 5
 have g6:w9.cell? ⟨w.heap.size,6,none⟩=some (.int .u16 (x7:Int)):=hrow9.cell 6
 have e6:=hrow9.frozen 6
 have g7:w9.cell? ⟨w.heap.size,7,none⟩=some (.slice a8 x8.length c8):=hrow9.cell 7
 have e7:=hrow9.frozen 7
 have R9:Hid (RowAt (w9.setCell ⟨w.heap.size,8,none⟩ (.slice a9 r8.length c9)) w.heap.size 175 #[.int .u16 (x1:Int),.int .u8 (x2:Int),.int .u8 (x3:Int),.int .u32 (x4:Int),.int .u32 (x5:Int),.int .u32 (x6:Int),.int .u16 (x7:Int),.slice a8 x8.length c8,.slice a9 r8.length c9]):=hrow9.set 8 _
 have D9:=hide (hr9.other w.heap.size 8 (.slice a9 r8.length c9) (by omega) (by omega))
 have M9:=hide ((M8.out.trans hm9).setNew w.heap.size 8 (.slice a9 r8.length c9) (Nat.le_refl _))
 have O8_9:=hide (own_set (D8.out.ownS hm9 O8_8.out) hrow9 (by decide) 8 (.slice a9 r8.length c9))
 have O9_9:=hide (own_set (OwnB.lower hx9 (M8.out.size)) hrow9 (by decide) 8 (.slice a9 r8.length c9))
 clear hrow9 hr9 R8 D8 M8 O8_8 hx9
 have RF:RowAt ((((((((((w9.setCell ⟨w.heap.size,8,none⟩ (.slice a9 r8.length c9)).setCell ⟨w.heap.size,0,none⟩ (.int .u16 (x1:Int))).setCell ⟨w.heap.size,1,none⟩ (.int .u8 (x2:Int))).setCell ⟨w.heap.size,2,none⟩ (.int .u8 (x3:Int))).setCell ⟨w.heap.size,3,none⟩ (.int .u32 (x4:Int))).setCell ⟨w.heap.size,4,none⟩ (.int .u32 (x5:Int))).setCell ⟨w.heap.size,5,none⟩ (.int .u32 (x6:Int))).setCell ⟨w.heap.size,6,none⟩ (.int .u16 (x7:Int))).setCell ⟨w.heap.size,7,none⟩ (.slice a8 x8.length c8)).setCell ⟨w.heap.size,8,none⟩ (.slice a9 r8.length c9)) w.heap.size 175 #[.int .u16 (x1:Int),.int .u8 (x2:Int),.int .u8 (x3:Int),.int .u32 (x4:Int),.int .u32 (x5:Int),.int .u32 (x6:Int),.int .u16 (x7:Int),.slice a8 x8.length c8,.slice a9 r8.length c9]:=(((((((((R9.out.same 0 rfl).same 1 rfl).same 2 rfl).same 3 rfl).same 4 rfl).same 5 rfl).same 6 rfl).same 7 rfl).same 8 rfl)
 have UF:Upd w.heap.size (w9.setCell ⟨w.heap.size,8,none⟩ (.slice a9 r8.length c9)) ((((((((((w9.setCell ⟨w.heap.size,8,none⟩ (.slice a9 r8.length c9)).setCell ⟨w.heap.size,0,none⟩ (.int .u16 (x1:Int))).setCell ⟨w.heap.size,1,none⟩ (.int .u8 (x2:Int))).setCell ⟨w.heap.size,2,none⟩ (.int .u8 (x3:Int))).setCell ⟨w.heap.size,3,none⟩ (.int .u32 (x4:Int))).setCell ⟨w.heap.size,4,none⟩ (.int .u32 (x5:Int))).setCell ⟨w.heap.size,5,none⟩ (.int .u32 (x6:Int))).setCell ⟨w.heap.size,6,none⟩ (.int .u16 (x7:Int))).setCell ⟨w.heap.size,7,none⟩ (.slice a8 x8.length c8)).setCell ⟨w.heap.size,8,none⟩ (.slice a9 r8.length c9)):=((((((((((Upd.refl w.heap.size (w9.setCell ⟨w.heap.size,8,none⟩ (.slice a9 r8.length c9))).set 0 (.int .u16 (x1:Int))).set 1 (.int .u8 (x2:Int))).set 2 (.int .u8 (x3:Int))).set 3 (.int .u32 (x4:Int))).set 4 (.int .u32 (x5:Int))).set 5 (.int .u32 (x6:Int))).set 6 (.int .u16 (x7:Int))).set 7 (.slice a8 x8.length c8)).set 8 (.slice a9 r8.length c9))
 go_wp2
 generalize ((((((((((w9.setCell ⟨w.heap.size,8,none⟩ (.slice a9 r8.length c9)).setCell ⟨w.heap.size,0,none⟩ (.int .u16 (x1:Int))).setCell ⟨w.heap.size,1,none⟩ (.int .u8 (x2:Int))).setCell ⟨w.heap.size,2,none⟩ (.int .u8 (x3:Int))).setCell ⟨w.heap.size,3,none⟩ (.int .u32 (x4:Int))).setCell ⟨w.heap.size,4,none⟩ (.int .u32 (x5:Int))).setCell ⟨w.heap.size,5,none⟩ (.int .u32 (x6:Int))).setCell ⟨w.heap.size,6,none⟩ (.int .u16 (x7:Int))).setCell ⟨w.heap.size,7,none⟩ (.slice a8 x8.length c8)).setCell ⟨w.heap.size,8,none⟩ (.slice a9 r8.length c9))=F at RF UF ⊢
 have q0:F.cell? ⟨w.heap.size,0,none⟩=some (.int .u16 (x1:Int)):=RF.cell 0
 have q1:F.cell? ⟨w.heap.size,1,none⟩=some (.int .u8 (x2:Int)):=RF.cell 1
 have q2:F.cell? ⟨w.heap.size,2,none⟩=some (.int .u8 (x3:Int)):=RF.cell 2
 have q3:F.cell? ⟨w.heap.size,3,none⟩=some (.int .u32 (x4:Int)):=RF.cell 3
 have q4:F.cell? ⟨w.heap.size,4,none⟩=some (.int .u32 (x5:Int)):=RF.cell 4
 have q5:F.cell? ⟨w.heap.size,5,none⟩=some (.int .u32 (x6:Int)):=RF.cell 5
 have q6:F.cell? ⟨w.heap.size,6,none⟩=some (.int .u16 (x7:Int)):=RF.cell 6
 have q7:F.cell? ⟨w.heap.size,7,none⟩=some (.slice a8 x8.length c8):=RF.cell 7
 have q8:F.cell? ⟨w.heap.size,8,none⟩=some (.slice a9 r8.length c9):=RF.cell 8
 simp[bodyPost,results,Tryz.results151,go_sem,q0,q1,q2,q3,q4,q5,q6,q7,q8]
 refine⟨Or.inl ⟨⟨x1,x2,x3,x4,x5,x6,x7,x8,r8⟩,_,_,by simp[D.sig,H1.out,H2.out,H3.out,H4.out,H5.out,H6.out,H7.out,H8.out],rfl,⟨_,_,_,_,rfl,UF.own R9.out (by decide) O8_9.out,UF.own R9.out (by decide) O9_9.out⟩,UF.rdr D9.out (by omega) (by omega)⟩,UF.mv M9.out (Nat.le_refl _)⟩
open Go.RowKit
set_option maxHeartbeats 1600000 in
theorem takeChain_any (B T:Nat) (l:List UInt8) (w:World) (hR:Rdr B T l w) :
 Calls Tryz.prog 155 #[.pointer (some ⟨T,0,none⟩)] w fun e w'=>Got B T (D.chain l) (fun x v w'=>ChainV w.heap.size x v w') w e w':=by
 have hTl:=hR.lt
 have hBw:=hR.base
 have hb0:=(Below.refl w.heap.size w).alloc (Nat.le_refl _) (.cells #[.int .u8 0,.int .u8 0,.int .u16 0,.slice none 0 0,.slice none 0 0,.slice none 0 0] 183)
 have R0:=hide (RowAt.new w 183 #[.int .u8 0,.int .u8 0,.int .u16 0,.slice none 0 0,.slice none 0 0,.slice none 0 0])
 have D0:=hide (hR.below hb0)
 have M0:=hide (Mv.of (T:=T) hb0)
 clear hR hb0
 go_enter Tryz.func155,Tryz.ntmps155
 go_wp2_with fail
 refine (rn8_any B T l _ (by exact D0.out)).mono ?_
 rintro e w1 ⟨⟨x1,r1,v1,ho1,rfl,hx1,hr1⟩ | ⟨ho1,rfl⟩,hm1⟩
 rotate_left
 ·unfold fell50
  go_wp2
  exact⟨rfl,Or.inr ⟨by simp[D.chain,ho1],rfl⟩,M0.out.trans hm1⟩
 subst hx1
 have hrow1:=row_mv R0.out (by omega) hm1
 have k1:w1.cell? ⟨w.heap.size,0,none⟩=some (.int .u8 0):=hrow1.cell 0
 have f1:=hrow1.frozen 0
 have R1:Hid (RowAt (w1.setCell ⟨w.heap.size,0,none⟩ (.int .u8 (x1:Int))) w.heap.size 183 #[.int .u8 (x1:Int),.int .u8 0,.int .u16 0,.slice none 0 0,.slice none 0 0,.slice none 0 0]):=hrow1.set 0 _
 have D1:=hide (hr1.other w.heap.size 0 (.int .u8 (x1:Int)) (by omega) (by omega))
 have M1:=hide ((M0.out.trans hm1).setNew w.heap.size 0 (.int .u8 (x1:Int)) (Nat.le_refl _))
 clear hrow1 hr1 R0 D0 M0
 have H1:=hide ho1
 clear ho1
 go_wp2_with fail
 refine (rn8_any B T r1 _ (by exact D1.out)).mono ?_
 rintro e w2 ⟨⟨x2,r2,v2,ho2,rfl,hx2,hr2⟩ | ⟨ho2,rfl⟩,hm2⟩
 rotate_left
 ·unfold fell50
  go_wp2
  exact⟨rfl,Or.inr ⟨by simp[D.chain,H1.out,ho2],rfl⟩,M1.out.trans hm2⟩
 subst hx2
 have hrow2:=row_mv R1.out (by omega) hm2
 have k2:w2.cell? ⟨w.heap.size,1,none⟩=some (.int .u8 0):=hrow2.cell 1
 have f2:=hrow2.frozen 1
 have R2:Hid (RowAt (w2.setCell ⟨w.heap.size,1,none⟩ (.int .u8 (x2:Int))) w.heap.size 183 #[.int .u8 (x1:Int),.int .u8 (x2:Int),.int .u16 0,.slice none 0 0,.slice none 0 0,.slice none 0 0]):=hrow2.set 1 _
 have D2:=hide (hr2.other w.heap.size 1 (.int .u8 (x2:Int)) (by omega) (by omega))
 have M2:=hide ((M1.out.trans hm2).setNew w.heap.size 1 (.int .u8 (x2:Int)) (Nat.le_refl _))
 clear hrow2 hr2 R1 D1 M1
 have H2:=hide ho2
 clear ho2
 go_wp2_with fail
 refine (rn16_any B T r2 _ (by exact D2.out)).mono ?_
 rintro e w3 ⟨⟨x3,r3,v3,ho3,rfl,hx3,hr3⟩ | ⟨ho3,rfl⟩,hm3⟩
 rotate_left
 ·unfold fell50
  go_wp2
  exact⟨rfl,Or.inr ⟨by simp[D.chain,H1.out,H2.out,ho3],rfl⟩,M2.out.trans hm3⟩
 subst hx3
 have hrow3:=row_mv R2.out (by omega) hm3
 have k3:w3.cell? ⟨w.heap.size,2,none⟩=some (.int .u16 0):=hrow3.cell 2
 have f3:=hrow3.frozen 2
 have R3:Hid (RowAt (w3.setCell ⟨w.heap.size,2,none⟩ (.int .u16 (x3:Int))) w.heap.size 183 #[.int .u8 (x1:Int),.int .u8 (x2:Int),.int .u16 (x3:Int),.slice none 0 0,.slice none 0 0,.slice none 0 0]):=hrow3.set 2 _
 have D3:=hide (hr3.other w.heap.size 2 (.int .u16 (x3:Int)) (by omega) (by omega))
 have M3:=hide ((M2.out.trans hm3).setNew w.heap.size 2 (.int .u16 (x3:Int)) (Nat.le_refl _))
 clear hrow3 hr3 R2 D2 M2
 have H3:=hide ho3
 clear ho3
 go_wp2_with fail
 refine (rcounted_any B T r3 _ (by exact D3.out)).mono ?_
 rintro e w4 ⟨⟨x4,r4,v4,ho4,rfl,hx4,hr4⟩ | ⟨ho4,rfl⟩,hm4⟩
 rotate_left
 ·unfold fell50
  go_wp2
  exact⟨rfl,Or.inr ⟨by simp[D.chain,H1.out,H2.out,H3.out,ho4],rfl⟩,M3.out.trans hm4⟩
 obtain⟨a4,c4,rfl,_,_,_,_⟩:=hx4.open
 have hrow4:=row_mv R3.out (by omega) hm4
 have k4:w4.cell? ⟨w.heap.size,3,none⟩=some (.slice none 0 0):=hrow4.cell 3
 have f4:=hrow4.frozen 3
 have R4:Hid (RowAt (w4.setCell ⟨w.heap.size,3,none⟩ (.slice a4 x4.length c4)) w.heap.size 183 #[.int .u8 (x1:Int),.int .u8 (x2:Int),.int .u16 (x3:Int),.slice a4 x4.length c4,.slice none 0 0,.slice none 0 0]):=hrow4.set 3 _
 have D4:=hide (hr4.other w.heap.size 3 (.slice a4 x4.length c4) (by omega) (by omega))
 have M4:=hide ((M3.out.trans hm4).setNew w.heap.size 3 (.slice a4 x4.length c4) (Nat.le_refl _))
 have O4_4:=hide (own_set (OwnB.lower hx4 (M3.out.size)) hrow4 (by decide) 3 (.slice a4 x4.length c4))
 clear hrow4 hr4 R3 D3 M3 hx4
 have H4:=hide ho4
 clear ho4
 go_wp2_with fail
 refine (rcounted_any B T r4 _ (by exact D4.out)).mono ?_
 rintro e w5 ⟨⟨x5,r5,v5,ho5,rfl,hx5,hr5⟩ | ⟨ho5,rfl⟩,hm5⟩
 rotate_left
 ·unfold fell50
  go_wp2
  exact⟨rfl,Or.inr ⟨by simp[D.chain,H1.out,H2.out,H3.out,H4.out,ho5],rfl⟩,M4.out.trans hm5⟩
 obtain⟨a5,c5,rfl,_,_,_,_⟩:=hx5.open
 have hrow5:=row_mv R4.out (by omega) hm5
 have k5:w5.cell? ⟨w.heap.size,4,none⟩=some (.slice none 0 0):=hrow5.cell 4
 have f5:=hrow5.frozen 4
 have R5:Hid (RowAt (w5.setCell ⟨w.heap.size,4,none⟩ (.slice a5 x5.length c5)) w.heap.size 183 #[.int .u8 (x1:Int),.int .u8 (x2:Int),.int .u16 (x3:Int),.slice a4 x4.length c4,.slice a5 x5.length c5,.slice none 0 0]):=hrow5.set 4 _
 have D5:=hide (hr5.other w.heap.size 4 (.slice a5 x5.length c5) (by omega) (by omega))
 have M5:=hide ((M4.out.trans hm5).setNew w.heap.size 4 (.slice a5 x5.length c5) (Nat.le_refl _))
 have O4_5:=hide (own_set (D4.out.ownB hm5 O4_4.out) hrow5 (by decide) 4 (.slice a5 x5.length c5))
 have O5_5:=hide (own_set (OwnB.lower hx5 (M4.out.size)) hrow5 (by decide) 4 (.slice a5 x5.length c5))
 clear hrow5 hr5 R4 D4 M4 O4_4 hx5
 have H5:=hide ho5
 clear ho5
 by_cases hn0:x5.length=0
 ·have hz:((x5.length:Int) == 0)=true:=by rw[hn0];rfl
  have HN0:=hide hn0
  clear hn0
  go_wp2
  exact⟨rfl,Or.inr ⟨by simp[D.chain,H1.out,H2.out,H3.out,H4.out,H5.out,List.eq_nil_of_length_eq_zero HN0.out],rfl⟩,M5.out⟩
 have hz:((x5.length:Int) == 0)=false:=beq_eq_false_iff_ne.2 (by omega)
 have HN0:Hid (¬ x5 = []):=fun e=>hn0 (by rw[e];rfl)
 clear hn0
 go_wp2_with fail
 refine (rothers_any B T r5 _ (by exact D5.out)).mono ?_
 rintro e w6 ⟨v6,rfl,hx6,hr6,hm6⟩
 obtain⟨a6,c6,rfl,hs6,hni6,hc6,hcm6⟩:=hx6.open
 have hlen:=D5.out.len
 have S6:=hide hs6
 have rw6:=hide (row_mv R5.out (by omega) hm6)
 have O4_6:=hide (D5.out.ownB hm6 O4_5.out)
 have O5_6:=hide (D5.out.ownB hm6 O5_5.out)
 have M6:=hide (M5.out.trans hm6)
 have D6:=hide hr6
 clear hs6 hx6 hr6 R5 O4_5 O5_5 M5 D5 hm6
 go_wp2_with fail
 refine (topen_any r5 a6 r5.length c6 _ rfl (by exact S6.out) hc6 (by unfold maxLen at hcm6;omega) (by omega)).mono ?_
 rintro e w7 ⟨hb7,⟨m,v7,ht,rfl,hO7⟩ | ⟨ht,rfl⟩⟩
 rotate_left
 ·have M7:=M6.out.trans (Mv.of hb7)
  have HT:=hide ht
  clear ht hb7
  go_wp2
  exact⟨rfl,Or.inr ⟨by simp[D.chain,H1.out,H2.out,H3.out,H4.out,H5.out,HT.out],rfl⟩,M7⟩
 obtain⟨a7,c7,rfl,_,_,_,_⟩:=hO7.open
 have hrow7:=rw6.out.below hb7 rw6.out.lt
 have g0:w7.cell? ⟨w.heap.size,0,none⟩=some (.int .u8 (x1:Int)):=hrow7.cell 0
 have e0:=hrow7.frozen 0
 have g1:w7.cell? ⟨w.heap.size,1,none⟩=some (.int .u8 (x2:Int)):=hrow7.cell 1
 have e1:=hrow7.frozen 1
 have g2:w7.cell? ⟨w.heap.size,2,none⟩=some (.int .u16 (x3:Int)):=hrow7.cell 2
 have e2:=hrow7.frozen 2
 have g3:w7.cell? ⟨w.heap.size,3,none⟩=some (.slice a4 x4.length c4):=hrow7.cell 3
 have e3:=hrow7.frozen 3
 have g4:w7.cell? ⟨w.heap.size,4,none⟩=some (.slice a5 x5.length c5):=hrow7.cell 4
 have e4:=hrow7.frozen 4
 have g5:w7.cell? ⟨w.heap.size,5,none⟩=some (.slice none 0 0):=hrow7.cell 5
 have e5:=hrow7.frozen 5
 have R7:Hid (RowAt (w7.setCell ⟨w.heap.size,5,none⟩ (.slice a7 m.length c7)) w.heap.size 183 #[.int .u8 (x1:Int),.int .u8 (x2:Int),.int .u16 (x3:Int),.slice a4 x4.length c4,.slice a5 x5.length c5,.slice a7 m.length c7]):=hrow7.set 5 _
 have D7:=hide ((D6.out.below hb7).other w.heap.size 5 (.slice a7 m.length c7) (by omega) (by omega))
 have M7:=hide ((M6.out.trans (Mv.of hb7)).setNew w.heap.size 5 (.slice a7 m.length c7) (Nat.le_refl _))
 have O4_7:=hide (own_set (O4_6.out.below hb7) hrow7 (by decide) 5 (.slice a7 m.length c7))
 have O5_7:=hide (own_set (O5_6.out.below hb7) hrow7 (by decide) 5 (.slice a7 m.length c7))
 have O6_7:=hide (own_set (OwnH.lower hO7 M6.out.size) hrow7 (by decide) 5 (.slice a7 m.length c7))
 have HT:=hide ht
 clear hO7 ht hb7 hrow7 D6 M6 O4_6 O5_6 rw6
 have RF:RowAt (((((((w7.setCell ⟨w.heap.size,5,none⟩ (.slice a7 m.length c7)).setCell ⟨w.heap.size,0,none⟩ (.int .u8 (x1:Int))).setCell ⟨w.heap.size,1,none⟩ (.int .u8 (x2:Int))).setCell ⟨w.heap.size,2,none⟩ (.int .u16 (x3:Int))).setCell ⟨w.heap.size,3,none⟩ (.slice a4 x4.length c4)).setCell ⟨w.heap.size,4,none⟩ (.slice a5 x5.length c5)).setCell ⟨w.heap.size,5,none⟩ (.slice a7 m.length c7)) w.heap.size 183 #[.int .u8 (x1:Int),.int .u8 (x2:Int),.int .u16 (x3:Int),.slice a4 x4.length c4,.slice a5 x5.length c5,.slice a7 m.length c7]:=((((((R7.out.same 0 rfl).same 1 rfl).same 2 rfl).same 3 rfl).same 4 rfl).same 5 rfl)
 have UF:Upd w.heap.size (w7.setCell ⟨w.heap.size,5,none⟩ (.slice a7 m.length c7)) (((((((w7.setCell ⟨w.heap.size,5,none⟩ (.slice a7 m.length c7)).setCell ⟨w.heap.size,0,none⟩ (.int .u8 (x1:Int))).setCell ⟨w.heap.size,1,none⟩ (.int .u8 (x2:Int))).setCell ⟨w.heap.size,2,none⟩ (.int .u16 (x3:Int))).setCell ⟨w.heap.size,3,none⟩ (.slice a4 x4.length c4)).setCell ⟨w.heap.size,4,none⟩ (.slice a5 x5.length c5)).setCell ⟨w.heap.size,5,none⟩ (.slice a7 m.length c7)):=(((((((Upd.refl w.heap.size (w7.setCell ⟨w.heap.size,5,none⟩ (.slice a7 m.length c7))).set 0 (.int .u8 (x1:Int))).set 1 (.int .u8 (x2:Int))).set 2 (.int .u16 (x3:Int))).set 3 (.slice a4 x4.length c4)).set 4 (.slice a5 x5.length c5)).set 5 (.slice a7 m.length c7))
 go_wp2
 generalize (((((((w7.setCell ⟨w.heap.size,5,none⟩ (.slice a7 m.length c7)).setCell ⟨w.heap.size,0,none⟩ (.int .u8 (x1:Int))).setCell ⟨w.heap.size,1,none⟩ (.int .u8 (x2:Int))).setCell ⟨w.heap.size,2,none⟩ (.int .u16 (x3:Int))).setCell ⟨w.heap.size,3,none⟩ (.slice a4 x4.length c4)).setCell ⟨w.heap.size,4,none⟩ (.slice a5 x5.length c5)).setCell ⟨w.heap.size,5,none⟩ (.slice a7 m.length c7))=F at RF UF ⊢
 have q0:F.cell? ⟨w.heap.size,0,none⟩=some (.int .u8 (x1:Int)):=RF.cell 0
 have q1:F.cell? ⟨w.heap.size,1,none⟩=some (.int .u8 (x2:Int)):=RF.cell 1
 have q2:F.cell? ⟨w.heap.size,2,none⟩=some (.int .u16 (x3:Int)):=RF.cell 2
 have q3:F.cell? ⟨w.heap.size,3,none⟩=some (.slice a4 x4.length c4):=RF.cell 3
 have q4:F.cell? ⟨w.heap.size,4,none⟩=some (.slice a5 x5.length c5):=RF.cell 4
 have q5:F.cell? ⟨w.heap.size,5,none⟩=some (.slice a7 m.length c7):=RF.cell 5
 simp[bodyPost,results,Tryz.results155,go_sem,q0,q1,q2,q3,q4,q5]
 refine⟨Or.inl ⟨⟨x1,x2,x3,x4,x5,m⟩,_,_,by simp[D.chain,H1.out,H2.out,H3.out,H4.out,H5.out,HN0.out,HT.out],rfl,⟨_,_,_,_,_,_,rfl,UF.own R7.out (by decide) O4_7.out,UF.own R7.out (by decide) O5_7.out,UF.own R7.out (by decide) O6_7.out⟩,UF.rdr D7.out (by omega) (by omega)⟩,UF.mv M7.out (Nat.le_refl _)⟩
end Go.Proofs.YtmbcegljmhcdeaaGreat
