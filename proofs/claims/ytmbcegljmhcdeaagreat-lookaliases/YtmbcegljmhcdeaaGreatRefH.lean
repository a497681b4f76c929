/- The reference's Chain (a text of stage 5, at this seat). -/
import Derived.Test.YtmbcegljmhcdeaaGreatRefK
import Derived.Deep.RegionHeld3
namespace Go.Proofs.YtmbcegljmhcdeaaGreat
open Go.RowKit
set_option maxRecDepth 5000
set_option maxHeartbeats 3200000 in
set_option maxRecDepth 5000 in
theorem sSoa_any (b:List UInt8) (ao:Option Addr) (len cap:Nat) (w:World) (hl:Hid (b.length=len)) (hs:SlL w ao b) (hc:len<=cap) (hnil:ao=none->cap=0) (h8:len<=8192) :
 Calls Tryz.prog 120 #[.slice ao len cap] w fun e w'=>Ans (D.full b (D.soa b)) SoaV (.agg #[.slice none 0 0,.slice none 0 0,.int .u32 0,.int .u32 0,.int .u32 0,.int .u32 0,.int .u32 0]) w e w':=by
 have HS:=hide hs
 have NI:=hide hnil
 have B0:=hide ((Below.refl w.heap.size w).alloc (Nat.le_refl _) (.cells #[.slice none 0 0,.slice none 0 0,.int .u32 0,.int .u32 0,.int .u32 0,.int .u32 0,.int .u32 0] 166))
 have R0:=hide (RowAt.new w 166 #[.slice none 0 0,.slice none 0 0,.int .u32 0,.int .u32 0,.int .u32 0,.int .u32 0,.int .u32 0])
 clear hs hnil
 go_enter Tryz.func120,Tryz.ntmps120
 go_wp2_with fail
 refine (rOpen_any b ao len cap _ hl (by exact HS.out.alloc _) (by omega) hc).mono ?_
 rintro e w1 ⟨⟨n,v,hn,hz,rfl,hO⟩ | ⟨hn,rfl⟩ | ⟨n,hn,hz,rfl⟩,hb1⟩
 rotate_left
 ·have HF:Hid (D.full b (D.soa b)=none):=D.soa_no1 (by unfold D.nm;rw[hn];rfl)
  have R1:=hide (R0.out.below hb1 (by simp))
  have B1:=hide (B0.out.trans (hb1.mono (by simp)))
  clear hn hb1 R0 B0
  have k0:w1.cell? ⟨w.heap.size,0,none⟩=some (.slice none 0 0):=R1.out.cell 0
  have f0:=R1.out.frozen 0
  have k1:w1.cell? ⟨w.heap.size,1,none⟩=some (.slice none 0 0):=R1.out.cell 1
  have f1:=R1.out.frozen 1
  have k2:w1.cell? ⟨w.heap.size,2,none⟩=some (.int .u32 0):=R1.out.cell 2
  have f2:=R1.out.frozen 2
  have k3:w1.cell? ⟨w.heap.size,3,none⟩=some (.int .u32 0):=R1.out.cell 3
  have f3:=R1.out.frozen 3
  have k4:w1.cell? ⟨w.heap.size,4,none⟩=some (.int .u32 0):=R1.out.cell 4
  have f4:=R1.out.frozen 4
  have k5:w1.cell? ⟨w.heap.size,5,none⟩=some (.int .u32 0):=R1.out.cell 5
  have f5:=R1.out.frozen 5
  have k6:w1.cell? ⟨w.heap.size,6,none⟩=some (.int .u32 0):=R1.out.cell 6
  have f6:=R1.out.frozen 6
  have E0:=hide R1.out
  have E1:Hid (RowAt _ w.heap.size 166 #[.slice none 0 0,.slice none 0 0,.int .u32 0,.int .u32 0,.int .u32 0,.int .u32 0,.int .u32 0]):=E0.out.set 0 (.slice none 0 0)
  have E2:Hid (RowAt _ w.heap.size 166 #[.slice none 0 0,.slice none 0 0,.int .u32 0,.int .u32 0,.int .u32 0,.int .u32 0,.int .u32 0]):=E1.out.set 1 (.slice none 0 0)
  have E3:Hid (RowAt _ w.heap.size 166 #[.slice none 0 0,.slice none 0 0,.int .u32 0,.int .u32 0,.int .u32 0,.int .u32 0,.int .u32 0]):=E2.out.set 2 (.int .u32 0)
  have E4:Hid (RowAt _ w.heap.size 166 #[.slice none 0 0,.slice none 0 0,.int .u32 0,.int .u32 0,.int .u32 0,.int .u32 0,.int .u32 0]):=E3.out.set 3 (.int .u32 0)
  have E5:Hid (RowAt _ w.heap.size 166 #[.slice none 0 0,.slice none 0 0,.int .u32 0,.int .u32 0,.int .u32 0,.int .u32 0,.int .u32 0]):=E4.out.set 4 (.int .u32 0)
  have E6:Hid (RowAt _ w.heap.size 166 #[.slice none 0 0,.slice none 0 0,.int .u32 0,.int .u32 0,.int .u32 0,.int .u32 0,.int .u32 0]):=E5.out.set 5 (.int .u32 0)
  have E7:Hid (RowAt _ w.heap.size 166 #[.slice none 0 0,.slice none 0 0,.int .u32 0,.int .u32 0,.int .u32 0,.int .u32 0,.int .u32 0]):=E6.out.set 6 (.int .u32 0)
  have HU:Hid (Upd w.heap.size w1 _):=((((((((Upd.refl w.heap.size w1).set 0 (.slice none 0 0)).set 1 (.slice none 0 0)).set 2 (.int .u32 0)).set 3 (.int .u32 0)).set 4 (.int .u32 0)).set 5 (.int .u32 0)).set 6 (.int .u32 0))
  have HE:Hid (RowAt _ w.heap.size 166 #[.slice none 0 0,.slice none 0 0,.int .u32 0,.int .u32 0,.int .u32 0,.int .u32 0,.int .u32 0]):=E7.out
  clear E0 E1 E2 E3 E4 E5 E6 E7
  go_wp2
  obtain⟨F,hwo⟩ : ∃ F,F=wof HE.out:=⟨_,rfl⟩
  unfold wof at hwo
  rw[<- hwo] at HE HU ⊢
  clear hwo
  have q0:F.cell? ⟨w.heap.size,0,none⟩=some (.slice none 0 0):=HE.out.cell 0
  have q1:F.cell? ⟨w.heap.size,1,none⟩=some (.slice none 0 0):=HE.out.cell 1
  have q2:F.cell? ⟨w.heap.size,2,none⟩=some (.int .u32 0):=HE.out.cell 2
  have q3:F.cell? ⟨w.heap.size,3,none⟩=some (.int .u32 0):=HE.out.cell 3
  have q4:F.cell? ⟨w.heap.size,4,none⟩=some (.int .u32 0):=HE.out.cell 4
  have q5:F.cell? ⟨w.heap.size,5,none⟩=some (.int .u32 0):=HE.out.cell 5
  have q6:F.cell? ⟨w.heap.size,6,none⟩=some (.int .u32 0):=HE.out.cell 6
  simp[bodyPost,results,Tryz.results120,go_sem,q0,q1,q2,q3,q4,q5,q6]
  exact⟨Or.inr ⟨HF.out,rfl⟩,(B1.out).trans (HU.out.below (Nat.le_refl _))⟩
 ·have HF:Hid (D.full b (D.soa b)=none):=D.soa_no1 (by unfold D.nm;rw[hn,Option.bind_some,if_neg (by omega)])
  have R1:=hide (R0.out.below hb1 (by simp))
  have B1:=hide (B0.out.trans (hb1.mono (by simp)))
  clear hn hb1 R0 B0
  have k0:w1.cell? ⟨w.heap.size,0,none⟩=some (.slice none 0 0):=R1.out.cell 0
  have f0:=R1.out.frozen 0
  have k1:w1.cell? ⟨w.heap.size,1,none⟩=some (.slice none 0 0):=R1.out.cell 1
  have f1:=R1.out.frozen 1
  have k2:w1.cell? ⟨w.heap.size,2,none⟩=some (.int .u32 0):=R1.out.cell 2
  have f2:=R1.out.frozen 2
  have k3:w1.cell? ⟨w.heap.size,3,none⟩=some (.int .u32 0):=R1.out.cell 3
  have f3:=R1.out.frozen 3
  have k4:w1.cell? ⟨w.heap.size,4,none⟩=some (.int .u32 0):=R1.out.cell 4
  have f4:=R1.out.frozen 4
  have k5:w1.cell? ⟨w.heap.size,5,none⟩=some (.int .u32 0):=R1.out.cell 5
  have f5:=R1.out.frozen 5
  have k6:w1.cell? ⟨w.heap.size,6,none⟩=some (.int .u32 0):=R1.out.cell 6
  have f6:=R1.out.frozen 6
  have E0:=hide R1.out
  have E1:Hid (RowAt _ w.heap.size 166 #[.slice none 0 0,.slice none 0 0,.int .u32 0,.int .u32 0,.int .u32 0,.int .u32 0,.int .u32 0]):=E0.out.set 0 (.slice none 0 0)
  have E2:Hid (RowAt _ w.heap.size 166 #[.slice none 0 0,.slice none 0 0,.int .u32 0,.int .u32 0,.int .u32 0,.int .u32 0,.int .u32 0]):=E1.out.set 1 (.slice none 0 0)
  have E3:Hid (RowAt _ w.heap.size 166 #[.slice none 0 0,.slice none 0 0,.int .u32 0,.int .u32 0,.int .u32 0,.int .u32 0,.int .u32 0]):=E2.out.set 2 (.int .u32 0)
  have E4:Hid (RowAt _ w.heap.size 166 #[.slice none 0 0,.slice none 0 0,.int .u32 0,.int .u32 0,.int .u32 0,.int .u32 0,.int .u32 0]):=E3.out.set 3 (.int .u32 0)
  have E5:Hid (RowAt _ w.heap.size 166 #[.slice none 0 0,.slice none 0 0,.int .u32 0,.int .u32 0,.int .u32 0,.int .u32 0,.int .u32 0]):=E4.out.set 4 (.int .u32 0)
  have E6:Hid (RowAt _ w.heap.size 166 #[.slice none 0 0,.slice none 0 0,.int .u32 0,.int .u32 0,.int .u32 0,.int .u32 0,.int .u32 0]):=E5.out.set 5 (.int .u32 0)
  have E7:Hid (RowAt _ w.heap.size 166 #[.slice none 0 0,.slice none 0 0,.int .u32 0,.int .u32 0,.int .u32 0,.int .u32 0,.int .u32 0]):=E6.out.set 6 (.int .u32 0)
  have HU:Hid (Upd w.heap.size w1 _):=((((((((Upd.refl w.heap.size w1).set 0 (.slice none 0 0)).set 1 (.slice none 0 0)).set 2 (.int .u32 0)).set 3 (.int .u32 0)).set 4 (.int .u32 0)).set 5 (.int .u32 0)).set 6 (.int .u32 0))
  have HE:Hid (RowAt _ w.heap.size 166 #[.slice none 0 0,.slice none 0 0,.int .u32 0,.int .u32 0,.int .u32 0,.int .u32 0,.int .u32 0]):=E7.out
  clear E0 E1 E2 E3 E4 E5 E6 E7
  go_wp2
  obtain⟨F,hwo⟩ : ∃ F,F=wof HE.out:=⟨_,rfl⟩
  unfold wof at hwo
  rw[<- hwo] at HE HU ⊢
  clear hwo
  have q0:F.cell? ⟨w.heap.size,0,none⟩=some (.slice none 0 0):=HE.out.cell 0
  have q1:F.cell? ⟨w.heap.size,1,none⟩=some (.slice none 0 0):=HE.out.cell 1
  have q2:F.cell? ⟨w.heap.size,2,none⟩=some (.int .u32 0):=HE.out.cell 2
  have q3:F.cell? ⟨w.heap.size,3,none⟩=some (.int .u32 0):=HE.out.cell 3
  have q4:F.cell? ⟨w.heap.size,4,none⟩=some (.int .u32 0):=HE.out.cell 4
  have q5:F.cell? ⟨w.heap.size,5,none⟩=some (.int .u32 0):=HE.out.cell 5
  have q6:F.cell? ⟨w.heap.size,6,none⟩=some (.int .u32 0):=HE.out.cell 6
  simp[bodyPost,results,Tryz.results120,go_sem,q0,q1,q2,q3,q4,q5,q6]
  exact⟨Or.inr ⟨HF.out,rfl⟩,(B1.out).trans (HU.out.below (Nat.le_refl _))⟩
 obtain⟨_,_,hsz⟩:=N.opn_small b n hn
 have H1:Hid (D.nm b=some (n,b.drop (N.size n))):=by show _=_;unfold D.nm;rw[hn,Option.bind_some,if_pos hz]
 have R1:=hide (R0.out.below hb1 (by simp))
 have B1:=hide (B0.out.trans (hb1.mono (by simp)))
 obtain⟨an,cn,rfl,_,_,_⟩:=hO.open
 have ON:=hide (OwnS.lower (base':=w.heap.size) hO (by simp))
 have hszl:N.size n<=len:=by rw[<- hl.out];exact hsz
 have hlen:=hl.out
 have hsB:SlB w.heap.size w ao b:=HS.out.slB
 obtain⟨a2,r2,s2,n2⟩:=slice_tl (N.size n) hsB hsz (by rw[hlen];exact hc) NI.out
 rw[hlen] at r2
 have S2:=hide s2
 have hl2:Hid ((b.drop (N.size n)).length=len - N.size n):=by show _=_;rw[List.length_drop,hlen]
 obtain⟨i,hi⟩ : ∃ i,N.size n=i:=⟨_,rfl⟩
 rw[hi] at r2 S2 hl2 H1 hszl n2 ⊢
 clear hn hz hO hb1 R0 B0 s2 hsz hsB hlen hi
 go_wp2_with fail
 refine (rOpen_any (b.drop i) a2 (len - i) (cap - i) _ hl2 (by exact (S2.out.below B1.out).sl B1.out.size) (by omega) (by omega)).mono ?_
 rintro e w2 ⟨⟨x,v,hn,hz,rfl,hO⟩ | ⟨hn,rfl⟩ | ⟨x,hn,hz,rfl⟩,hb2⟩
 rotate_left
 ·have HF:Hid (D.full b (D.soa b)=none):=D.soa_no2 H1.out (by unfold D.nm;rw[hn];rfl)
  have R2:=hide (R1.out.below hb2 R1.out.lt)
  have B2:=hide (B1.out.trans (hb2.mono B1.out.size))
  clear hn hb2 R1 B1
  have k0:w2.cell? ⟨w.heap.size,0,none⟩=some (.slice none 0 0):=R2.out.cell 0
  have f0:=R2.out.frozen 0
  have k1:w2.cell? ⟨w.heap.size,1,none⟩=some (.slice none 0 0):=R2.out.cell 1
  have f1:=R2.out.frozen 1
  have k2:w2.cell? ⟨w.heap.size,2,none⟩=some (.int .u32 0):=R2.out.cell 2
  have f2:=R2.out.frozen 2
  have k3:w2.cell? ⟨w.heap.size,3,none⟩=some (.int .u32 0):=R2.out.cell 3
  have f3:=R2.out.frozen 3
  have k4:w2.cell? ⟨w.heap.size,4,none⟩=some (.int .u32 0):=R2.out.cell 4
  have f4:=R2.out.frozen 4
  have k5:w2.cell? ⟨w.heap.size,5,none⟩=some (.int .u32 0):=R2.out.cell 5
  have f5:=R2.out.frozen 5
  have k6:w2.cell? ⟨w.heap.size,6,none⟩=some (.int .u32 0):=R2.out.cell 6
  have f6:=R2.out.frozen 6
  have E0:=hide R2.out
  have E1:Hid (RowAt _ w.heap.size 166 #[.slice none 0 0,.slice none 0 0,.int .u32 0,.int .u32 0,.int .u32 0,.int .u32 0,.int .u32 0]):=E0.out.set 0 (.slice none 0 0)
  have E2:Hid (RowAt _ w.heap.size 166 #[.slice none 0 0,.slice none 0 0,.int .u32 0,.int .u32 0,.int .u32 0,.int .u32 0,.int .u32 0]):=E1.out.set 1 (.slice none 0 0)
  have E3:Hid (RowAt _ w.heap.size 166 #[.slice none 0 0,.slice none 0 0,.int .u32 0,.int .u32 0,.int .u32 0,.int .u32 0,.int .u32 0]):=E2.out.set 2 (.int .u32 0)
  have E4:Hid (RowAt _ w.heap.size 166 #[.slice none 0 0,.slice none 0 0,.int .u32 0,.int .u32 0,.int .u32 0,.int .u32 0,.int .u32 0]):=E3.out.set 3 (.int .u32 0)
  have E5:Hid (RowAt _ w.heap.size 166 #[.slice none 0 0,.slice none 0 0,.int .u32 0,.int .u32 0,.int .u32 0,.int .u32 0,.int .u32 0]):=E4.out.set 4 (.int .u32 0)
  have E6:Hid (RowAt _ w.heap.size 166 #[.slice none 0 0,.slice none 0 0,.int .u32 0,.int .u32 0,.int .u32 0,.int .u32 0,.int .u32 0]):=E5.out.set 5 (.int .u32 0)
  have E7:Hid (RowAt _ w.heap.size 166 #[.slice none 0 0,.slice none 0 0,.int .u32 0,.int .u32 0,.int .u32 0,.int .u32 0,.int .u32 0]):=E6.out.set 6 (.int .u32 0)
  have HU:Hid (Upd w.heap.size w2 _):=((((((((Upd.refl w.heap.size w2).set 0 (.slice none 0 0)).set 1 (.slice none 0 0)).set 2 (.int .u32 0)).set 3 (.int .u32 0)).set 4 (.int .u32 0)).set 5 (.int .u32 0)).set 6 (.int .u32 0))
  have HE:Hid (RowAt _ w.heap.size 166 #[.slice none 0 0,.slice none 0 0,.int .u32 0,.int .u32 0,.int .u32 0,.int .u32 0,.int .u32 0]):=E7.out
  clear E0 E1 E2 E3 E4 E5 E6 E7
  go_wp2
  obtain⟨F,hwo⟩ : ∃ F,F=wof HE.out:=⟨_,rfl⟩
  unfold wof at hwo
  rw[<- hwo] at HE HU ⊢
  clear hwo
  have q0:F.cell? ⟨w.heap.size,0,none⟩=some (.slice none 0 0):=HE.out.cell 0
  have q1:F.cell? ⟨w.heap.size,1,none⟩=some (.slice none 0 0):=HE.out.cell 1
  have q2:F.cell? ⟨w.heap.size,2,none⟩=some (.int .u32 0):=HE.out.cell 2
  have q3:F.cell? ⟨w.heap.size,3,none⟩=some (.int .u32 0):=HE.out.cell 3
  have q4:F.cell? ⟨w.heap.size,4,none⟩=some (.int .u32 0):=HE.out.cell 4
  have q5:F.cell? ⟨w.heap.size,5,none⟩=some (.int .u32 0):=HE.out.cell 5
  have q6:F.cell? ⟨w.heap.size,6,none⟩=some (.int .u32 0):=HE.out.cell 6
  simp[bodyPost,results,Tryz.results120,go_sem,q0,q1,q2,q3,q4,q5,q6]
  exact⟨Or.inr ⟨HF.out,rfl⟩,(B2.out).trans (HU.out.below (Nat.le_refl _))⟩
 ·have HF:Hid (D.full b (D.soa b)=none):=D.soa_no2 H1.out (by unfold D.nm;rw[hn,Option.bind_some,if_neg (by omega)])
  have R2:=hide (R1.out.below hb2 R1.out.lt)
  have B2:=hide (B1.out.trans (hb2.mono B1.out.size))
  clear hn hb2 R1 B1
  have k0:w2.cell? ⟨w.heap.size,0,none⟩=some (.slice none 0 0):=R2.out.cell 0
  have f0:=R2.out.frozen 0
  have k1:w2.cell? ⟨w.heap.size,1,none⟩=some (.slice none 0 0):=R2.out.cell 1
  have f1:=R2.out.frozen 1
  have k2:w2.cell? ⟨w.heap.size,2,none⟩=some (.int .u32 0):=R2.out.cell 2
  have f2:=R2.out.frozen 2
  have k3:w2.cell? ⟨w.heap.size,3,none⟩=some (.int .u32 0):=R2.out.cell 3
  have f3:=R2.out.frozen 3
  have k4:w2.cell? ⟨w.heap.size,4,none⟩=some (.int .u32 0):=R2.out.cell 4
  have f4:=R2.out.frozen 4
  have k5:w2.cell? ⟨w.heap.size,5,none⟩=some (.int .u32 0):=R2.out.cell 5
  have f5:=R2.out.frozen 5
  have k6:w2.cell? ⟨w.heap.size,6,none⟩=some (.int .u32 0):=R2.out.cell 6
  have f6:=R2.out.frozen 6
  have E0:=hide R2.out
  have E1:Hid (RowAt _ w.heap.size 166 #[.slice none 0 0,.slice none 0 0,.int .u32 0,.int .u32 0,.int .u32 0,.int .u32 0,.int .u32 0]):=E0.out.set 0 (.slice none 0 0)
  have E2:Hid (RowAt _ w.heap.size 166 #[.slice none 0 0,.slice none 0 0,.int .u32 0,.int .u32 0,.int .u32 0,.int .u32 0,.int .u32 0]):=E1.out.set 1 (.slice none 0 0)
  have E3:Hid (RowAt _ w.heap.size 166 #[.slice none 0 0,.slice none 0 0,.int .u32 0,.int .u32 0,.int .u32 0,.int .u32 0,.int .u32 0]):=E2.out.set 2 (.int .u32 0)
  have E4:Hid (RowAt _ w.heap.size 166 #[.slice none 0 0,.slice none 0 0,.int .u32 0,.int .u32 0,.int .u32 0,.int .u32 0,.int .u32 0]):=E3.out.set 3 (.int .u32 0)
  have E5:Hid (RowAt _ w.heap.size 166 #[.slice none 0 0,.slice none 0 0,.int .u32 0,.int .u32 0,.int .u32 0,.int .u32 0,.int .u32 0]):=E4.out.set 4 (.int .u32 0)
  have E6:Hid (RowAt _ w.heap.size 166 #[.slice none 0 0,.slice none 0 0,.int .u32 0,.int .u32 0,.int .u32 0,.int .u32 0,.int .u32 0]):=E5.out.set 5 (.int .u32 0)
  have E7:Hid (RowAt _ w.heap.size 166 #[.slice none 0 0,.slice none 0 0,.int .u32 0,.int .u32 0,.int .u32 0,.int .u32 0,.int .u32 0]):=E6.out.set 6 (.int .u32 0)
  have HU:Hid (Upd w.heap.size w2 _):=((((((((Upd.refl w.heap.size w2).set 0 (.slice none 0 0)).set 1 (.slice none 0 0)).set 2 (.int .u32 0)).set 3 (.int .u32 0)).set 4 (.int .u32 0)).set 5 (.int .u32 0)).set 6 (.int .u32 0))
  have HE:Hid (RowAt _ w.heap.size 166 #[.slice none 0 0,.slice none 0 0,.int .u32 0,.int .u32 0,.int .u32 0,.int .u32 0,.int .u32 0]):=E7.out
  clear E0 E1 E2 E3 E4 E5 E6 E7
  go_wp2
  obtain⟨F,hwo⟩ : ∃ F,F=wof HE.out:=⟨_,rfl⟩
  unfold wof at hwo
  rw[<- hwo] at HE HU ⊢
  clear hwo
  have q0:F.cell? ⟨w.heap.size,0,none⟩=some (.slice none 0 0):=HE.out.cell 0
  have q1:F.cell? ⟨w.heap.size,1,none⟩=some (.slice none 0 0):=HE.out.cell 1
  have q2:F.cell? ⟨w.heap.size,2,none⟩=some (.int .u32 0):=HE.out.cell 2
  have q3:F.cell? ⟨w.heap.size,3,none⟩=some (.int .u32 0):=HE.out.cell 3
  have q4:F.cell? ⟨w.heap.size,4,none⟩=some (.int .u32 0):=HE.out.cell 4
  have q5:F.cell? ⟨w.heap.size,5,none⟩=some (.int .u32 0):=HE.out.cell 5
  have q6:F.cell? ⟨w.heap.size,6,none⟩=some (.int .u32 0):=HE.out.cell 6
  simp[bodyPost,results,Tryz.results120,go_sem,q0,q1,q2,q3,q4,q5,q6]
  exact⟨Or.inr ⟨HF.out,rfl⟩,(B2.out).trans (HU.out.below (Nat.le_refl _))⟩
 obtain⟨_,_,hsz⟩:=N.opn_small (b.drop i) x hn
 rw[hl2.out] at hsz
 have H2:Hid (D.nm (b.drop i)=some (x,(b.drop i).drop (N.size x))):=by show _=_;unfold D.nm;rw[hn,Option.bind_some,if_pos hz]
 have R2:=hide (R1.out.below hb2 R1.out.lt)
 have B2:=hide (B1.out.trans (hb2.mono B1.out.size))
 obtain⟨ax,cx,rfl,_,_,_⟩:=hO.open
 have OX:=hide (OwnS.lower (base':=w.heap.size) hO B1.out.size)
 have ON2:=hide (ON.out.below hb2)
 obtain⟨k,hk⟩ : ∃ k,N.size x=k:=⟨_,rfl⟩
 rw[hk] at H2 hsz ⊢
 clear hn hz hO hb2 R1 B1 ON hk
 by_cases h20:len=i+k+20
 rotate_left
 ·have HF:Hid (D.full b (D.soa b)=none):=D.soa_not H1.out H2.out (by rw[List.length_drop,hl2.out];omega)
  have hne:((len:Int) != (i:Int)+(k:Int)+20)=true:=by simp;omega
  clear h20
  have k0:w2.cell? ⟨w.heap.size,0,none⟩=some (.slice none 0 0):=R2.out.cell 0
  have f0:=R2.out.frozen 0
  have k1:w2.cell? ⟨w.heap.size,1,none⟩=some (.slice none 0 0):=R2.out.cell 1
  have f1:=R2.out.frozen 1
  have k2:w2.cell? ⟨w.heap.size,2,none⟩=some (.int .u32 0):=R2.out.cell 2
  have f2:=R2.out.frozen 2
  have k3:w2.cell? ⟨w.heap.size,3,none⟩=some (.int .u32 0):=R2.out.cell 3
  have f3:=R2.out.frozen 3
  have k4:w2.cell? ⟨w.heap.size,4,none⟩=some (.int .u32 0):=R2.out.cell 4
  have f4:=R2.out.frozen 4
  have k5:w2.cell? ⟨w.heap.size,5,none⟩=some (.int .u32 0):=R2.out.cell 5
  have f5:=R2.out.frozen 5
  have k6:w2.cell? ⟨w.heap.size,6,none⟩=some (.int .u32 0):=R2.out.cell 6
  have f6:=R2.out.frozen 6
  have E0:=hide R2.out
  have E1:Hid (RowAt _ w.heap.size 166 #[.slice none 0 0,.slice none 0 0,.int .u32 0,.int .u32 0,.int .u32 0,.int .u32 0,.int .u32 0]):=E0.out.set 0 (.slice none 0 0)
  have E2:Hid (RowAt _ w.heap.size 166 #[.slice none 0 0,.slice none 0 0,.int .u32 0,.int .u32 0,.int .u32 0,.int .u32 0,.int .u32 0]):=E1.out.set 1 (.slice none 0 0)
  have E3:Hid (RowAt _ w.heap.size 166 #[.slice none 0 0,.slice none 0 0,.int .u32 0,.int .u32 0,.int .u32 0,.int .u32 0,.int .u32 0]):=E2.out.set 2 (.int .u32 0)
  have E4:Hid (RowAt _ w.heap.size 166 #[.slice none 0 0,.slice none 0 0,.int .u32 0,.int .u32 0,.int .u32 0,.int .u32 0,.int .u32 0]):=E3.out.set 3 (.int .u32 0)
  have E5:Hid (RowAt _ w.heap.size 166 #[.slice none 0 0,.slice none 0 0,.int .u32 0,.int .u32 0,.int .u32 0,.int .u32 0,.int .u32 0]):=E4.out.set 4 (.int .u32 0)
  have E6:Hid (RowAt _ w.heap.size 166 #[.slice none 0 0,.slice none 0 0,.int .u32 0,.int .u32 0,.int .u32 0,.int .u32 0,.int .u32 0]):=E5.out.set 5 (.int .u32 0)
  have E7:Hid (RowAt _ w.heap.size 166 #[.slice none 0 0,.slice none 0 0,.int .u32 0,.int .u32 0,.int .u32 0,.int .u32 0,.int .u32 0]):=E6.out.set 6 (.int .u32 0)
  have HU:Hid (Upd w.heap.size w2 _):=((((((((Upd.refl w.heap.size w2).set 0 (.slice none 0 0)).set 1 (.slice none 0 0)).set 2 (.int .u32 0)).set 3 (.int .u32 0)).set 4 (.int .u32 0)).set 5 (.int .u32 0)).set 6 (.int .u32 0))
  have HE:Hid (RowAt _ w.heap.size 166 #[.slice none 0 0,.slice none 0 0,.int .u32 0,.int .u32 0,.int .u32 0,.int .u32 0,.int .u32 0]):=E7.out
  clear E0 E1 E2 E3 E4 E5 E6 E7
  go_wp2
  obtain⟨F,hwo⟩ : ∃ F,F=wof HE.out:=⟨_,rfl⟩
  unfold wof at hwo
  rw[<- hwo] at HE HU ⊢
  clear hwo
  have q0:F.cell? ⟨w.heap.size,0,none⟩=some (.slice none 0 0):=HE.out.cell 0
  have q1:F.cell? ⟨w.heap.size,1,none⟩=some (.slice none 0 0):=HE.out.cell 1
  have q2:F.cell? ⟨w.heap.size,2,none⟩=some (.int .u32 0):=HE.out.cell 2
  have q3:F.cell? ⟨w.heap.size,3,none⟩=some (.int .u32 0):=HE.out.cell 3
  have q4:F.cell? ⟨w.heap.size,4,none⟩=some (.int .u32 0):=HE.out.cell 4
  have q5:F.cell? ⟨w.heap.size,5,none⟩=some (.int .u32 0):=HE.out.cell 5
  have q6:F.cell? ⟨w.heap.size,6,none⟩=some (.int .u32 0):=HE.out.cell 6
  simp[bodyPost,results,Tryz.results120,go_sem,q0,q1,q2,q3,q4,q5,q6]
  exact⟨Or.inr ⟨HF.out,rfl⟩,(B2.out).trans (HU.out.below (Nat.le_refl _))⟩
 have heq:((len:Int) != (i:Int)+(k:Int)+20)=false:=by simp;omega
 obtain⟨blk,of,rfl,hblt,_⟩:=HS.out (by have:=hl.out;omega)
 obtain⟨ad3,r3,s3⟩:=cut_tl (i+k) HS.out hl.out (by omega) hc
 have l3:((b.drop (i+k)).length=20):=by rw[List.length_drop,hl.out];omega
 rw[show len - (i+k)=20 by omega] at r3
 obtain⟨b3,o3,e3,hb3,_⟩:=s3 (by omega)
 cases e3
 have r3' : ∀ W,(Instr.slice 37 (.slice (some ⟨blk,of,none⟩) len cap) (some (.int .i64 ((i:Int)+(k:Int)))) none none).run Tryz.prog W = .ok (.slice (some ⟨b3,o3,none⟩) 20 (cap - (i+k))) W:=by
  intro W;have:=r3 W;rwa [Int.natCast_add] at this
 obtain⟨d1,t1,u1⟩:=cut_hd 4 s3 l3 (by omega) (show 20<=cap - (i+k) by omega)
 obtain⟨d2,t2,u2⟩:=cut_mid 4 4 s3 l3 (by omega) (show 20<=cap - (i+k) by omega)
 obtain⟨d3,t3,u3⟩:=cut_mid 8 4 s3 l3 (by omega) (show 20<=cap - (i+k) by omega)
 obtain⟨d4,t4,u4⟩:=cut_mid 12 4 s3 l3 (by omega) (show 20<=cap - (i+k) by omega)
 obtain⟨d5,t5,u5⟩:=cut_tl 16 s3 l3 (by omega) (show 20<=cap - (i+k) by omega)
 have HF:Hid (D.full b (D.soa b)=some _):=D.full_some (by rw[hl.out];exact h8) (D.soa_ref H1.out H2.out (by rw[List.length_drop,hl2.out];omega))
 rw[List.drop_drop] at HF
 have cc : ∃ cc,cap - (i+k)=cc:=⟨_,rfl⟩
 obtain⟨cc,hcc⟩:=cc
 rw[hcc] at r3' t1 t2 t3 t4 t5
 have hg:=fun (l:List UInt8) (d:Addr) (c:Nat) (h4:l.length=4) (hsl:SlL w (some d) l) (W:World) (hB:Below w.heap.size w W)=>get_any l (some d) 4 c W h4 (hsl.below hB (Nat.le_refl _)) (by omega)
 have g1:=hg _ d1 cc (by rw[List.length_take,l3];rfl) u1
 have g2:=hg _ d2 (cc - 4) (by rw[List.length_take,List.length_drop,l3];rfl) u2
 have g3:=hg _ d3 (cc - 8) (by rw[List.length_take,List.length_drop,l3];rfl) u3
 have g4:=hg _ d4 (cc - 12) (by rw[List.length_take,List.length_drop,l3];rfl) u4
 have g5:=hg _ d5 (cc - 16) (by rw[List.length_drop,l3]) u5
 generalize D.gv ((b.drop (i+k)).take 4)=y1 at g1 HF
 generalize D.gv (((b.drop (i+k)).drop 4).take 4)=y2 at g2 HF
 generalize D.gv (((b.drop (i+k)).drop 8).take 4)=y3 at g3 HF
 generalize D.gv (((b.drop (i+k)).drop 12).take 4)=y4 at g4 HF
 generalize D.gv ((b.drop (i+k)).drop 16)=y5 at g5 HF
 replace t1 : ∀ W,(Instr.slice 37 (.slice (some ⟨b3,o3,none⟩) 20 cc) none (some (.int .i64 4)) none).run Tryz.prog W = .ok (.slice (some d1) 4 cc) W:=t1
 replace t2 : ∀ W,(Instr.slice 37 (.slice (some ⟨b3,o3,none⟩) 20 cc) (some (.int .i64 4)) (some (.int .i64 8)) none).run Tryz.prog W = .ok (.slice (some d2) 4 (cc - 4)) W:=t2
 replace t3 : ∀ W,(Instr.slice 37 (.slice (some ⟨b3,o3,none⟩) 20 cc) (some (.int .i64 8)) (some (.int .i64 12)) none).run Tryz.prog W = .ok (.slice (some d3) 4 (cc - 8)) W:=t3
 replace t4 : ∀ W,(Instr.slice 37 (.slice (some ⟨b3,o3,none⟩) 20 cc) (some (.int .i64 12)) (some (.int .i64 16)) none).run Tryz.prog W = .ok (.slice (some d4) 4 (cc - 12)) W:=t4
 replace t5 : ∀ W,(Instr.slice 37 (.slice (some ⟨b3,o3,none⟩) 20 cc) (some (.int .i64 16)) none none).run Tryz.prog W = .ok (.slice (some d5) 4 (cc - 16)) W:=t5
 clear hg u1 u2 u3 u4 u5 r3 s3 l3 h20 hcc S2 r2 H1 H2 HS
 have k0:w2.cell? ⟨w.heap.size,0,none⟩=some (.slice none 0 0):=R2.out.cell 0
 have f0:=R2.out.frozen 0
 have k1:w2.cell? ⟨w.heap.size,1,none⟩=some (.slice none 0 0):=R2.out.cell 1
 have f1:=R2.out.frozen 1
 have k2:w2.cell? ⟨w.heap.size,2,none⟩=some (.int .u32 0):=R2.out.cell 2
 have f2:=R2.out.frozen 2
 have k3:w2.cell? ⟨w.heap.size,3,none⟩=some (.int .u32 0):=R2.out.cell 3
 have f3:=R2.out.frozen 3
 have k4:w2.cell? ⟨w.heap.size,4,none⟩=some (.int .u32 0):=R2.out.cell 4
 have f4:=R2.out.frozen 4
 have k5:w2.cell? ⟨w.heap.size,5,none⟩=some (.int .u32 0):=R2.out.cell 5
 have f5:=R2.out.frozen 5
 have k6:w2.cell? ⟨w.heap.size,6,none⟩=some (.int .u32 0):=R2.out.cell 6
 have f6:=R2.out.frozen 6
 go_wp2
 go_region_law (first
  | (refine step_fn 158 #[.tmp 48] _ rfl rfl #[.slice (some d1) 4 cc] (by go_simp) (g1 _ (by exact B2.out.drew)) (by rintro e w' ⟨rfl,_⟩;exact⟨_,rfl⟩) ?_;rintro v w' ⟨he,rfl⟩;cases he)
  | (refine step_fn 158 #[.tmp 51] _ rfl rfl #[.slice (some d2) 4 (cc - 4)] (by go_simp) (g2 _ (by exact B2.out.drew)) (by rintro e w' ⟨rfl,_⟩;exact⟨_,rfl⟩) ?_;rintro v w' ⟨he,rfl⟩;cases he)
  | (refine step_fn 158 #[.tmp 54] _ rfl rfl #[.slice (some d3) 4 (cc - 8)] (by go_simp) (g3 _ (by exact B2.out.drew)) (by rintro e w' ⟨rfl,_⟩;exact⟨_,rfl⟩) ?_;rintro v w' ⟨he,rfl⟩;cases he)
  | (refine step_fn 158 #[.tmp 57] _ rfl rfl #[.slice (some d4) 4 (cc - 12)] (by go_simp) (g4 _ (by exact B2.out.drew)) (by rintro e w' ⟨rfl,_⟩;exact⟨_,rfl⟩) ?_;rintro v w' ⟨he,rfl⟩;cases he)
  | (refine step_fn 158 #[.tmp 60] _ rfl rfl #[.slice (some d5) 4 (cc - 16)] (by go_simp) (g5 _ (by exact B2.out.drew)) (by rintro e w' ⟨rfl,_⟩;exact⟨_,rfl⟩) ?_;rintro v w' ⟨he,rfl⟩;cases he))
 have E0:=hide R2.out
 have E1:Hid (RowAt _ w.heap.size 166 #[.slice an n.length cn,.slice none 0 0,.int .u32 0,.int .u32 0,.int .u32 0,.int .u32 0,.int .u32 0]):=E0.out.set 0 (.slice an n.length cn)
 have E2:Hid (RowAt _ w.heap.size 166 #[.slice an n.length cn,.slice ax x.length cx,.int .u32 0,.int .u32 0,.int .u32 0,.int .u32 0,.int .u32 0]):=E1.out.set 1 (.slice ax x.length cx)
 have E3:Hid (RowAt _ w.heap.size 166 #[.slice an n.length cn,.slice ax x.length cx,.int .u32 (y1:Int),.int .u32 0,.int .u32 0,.int .u32 0,.int .u32 0]):=E2.out.set 2 (.int .u32 (y1:Int))
 have E4:Hid (RowAt _ w.heap.size 166 #[.slice an n.length cn,.slice ax x.length cx,.int .u32 (y1:Int),.int .u32 (y2:Int),.int .u32 0,.int .u32 0,.int .u32 0]):=E3.out.set 3 (.int .u32 (y2:Int))
 have E5:Hid (RowAt _ w.heap.size 166 #[.slice an n.length cn,.slice ax x.length cx,.int .u32 (y1:Int),.int .u32 (y2:Int),.int .u32 (y3:Int),.int .u32 0,.int .u32 0]):=E4.out.set 4 (.int .u32 (y3:Int))
 have E6:Hid (RowAt _ w.heap.size 166 #[.slice an n.length cn,.slice ax x.length cx,.int .u32 (y1:Int),.int .u32 (y2:Int),.int .u32 (y3:Int),.int .u32 (y4:Int),.int .u32 0]):=E5.out.set 5 (.int .u32 (y4:Int))
 have E7:Hid (RowAt _ w.heap.size 166 #[.slice an n.length cn,.slice ax x.length cx,.int .u32 (y1:Int),.int .u32 (y2:Int),.int .u32 (y3:Int),.int .u32 (y4:Int),.int .u32 (y5:Int)]):=E6.out.set 6 (.int .u32 (y5:Int))
 have HU:Hid (Upd w.heap.size w2 _):=((((((((Upd.refl w.heap.size w2).set 0 (.slice an n.length cn)).set 1 (.slice ax x.length cx)).set 2 (.int .u32 (y1:Int))).set 3 (.int .u32 (y2:Int))).set 4 (.int .u32 (y3:Int))).set 5 (.int .u32 (y4:Int))).set 6 (.int .u32 (y5:Int))).drew
 have HE:Hid (RowAt (((((((((w2).setCell ⟨w.heap.size,0,none⟩ (.slice an n.length cn)).setCell ⟨w.heap.size,1,none⟩ (.slice ax x.length cx)).setCell ⟨w.heap.size,2,none⟩ (.int .u32 (y1:Int))).setCell ⟨w.heap.size,3,none⟩ (.int .u32 (y2:Int))).setCell ⟨w.heap.size,4,none⟩ (.int .u32 (y3:Int))).setCell ⟨w.heap.size,5,none⟩ (.int .u32 (y4:Int))).setCell ⟨w.heap.size,6,none⟩ (.int .u32 (y5:Int))).drew) w.heap.size 166 #[.slice an n.length cn,.slice ax x.length cx,.int .u32 (y1:Int),.int .u32 (y2:Int),.int .u32 (y3:Int),.int .u32 (y4:Int),.int .u32 (y5:Int)]):=E7.out.drew
 clear E0 E1 E2 E3 E4 E5 E6 E7
 go_wp2
 generalize ((((((((w2).setCell ⟨w.heap.size,0,none⟩ (.slice an n.length cn)).setCell ⟨w.heap.size,1,none⟩ (.slice ax x.length cx)).setCell ⟨w.heap.size,2,none⟩ (.int .u32 (y1:Int))).setCell ⟨w.heap.size,3,none⟩ (.int .u32 (y2:Int))).setCell ⟨w.heap.size,4,none⟩ (.int .u32 (y3:Int))).setCell ⟨w.heap.size,5,none⟩ (.int .u32 (y4:Int))).setCell ⟨w.heap.size,6,none⟩ (.int .u32 (y5:Int))).drew=F at HE HU ⊢
 have q0:F.cell? ⟨w.heap.size,0,none⟩=some (.slice an n.length cn):=HE.out.cell 0
 have q1:F.cell? ⟨w.heap.size,1,none⟩=some (.slice ax x.length cx):=HE.out.cell 1
 have q2:F.cell? ⟨w.heap.size,2,none⟩=some (.int .u32 (y1:Int)):=HE.out.cell 2
 have q3:F.cell? ⟨w.heap.size,3,none⟩=some (.int .u32 (y2:Int)):=HE.out.cell 3
 have q4:F.cell? ⟨w.heap.size,4,none⟩=some (.int .u32 (y3:Int)):=HE.out.cell 4
 have q5:F.cell? ⟨w.heap.size,5,none⟩=some (.int .u32 (y4:Int)):=HE.out.cell 5
 have q6:F.cell? ⟨w.heap.size,6,none⟩=some (.int .u32 (y5:Int)):=HE.out.cell 6
 simp[bodyPost,results,Tryz.results120,go_sem,q0,q1,q2,q3,q4,q5,q6]
 exact⟨Or.inl ⟨_,_,HF.out,rfl,⟨_,_,_,_,rfl,HU.out.own R2.out (by decide) ON2.out,HU.out.own R2.out (by decide) OX.out⟩⟩,(B2.out).trans (HU.out.below (Nat.le_refl _))⟩
end Go.Proofs.YtmbcegljmhcdeaaGreat
namespace Go.Proofs.YtmbcegljmhcdeaaGreat
set_option maxRecDepth 5000
open Go.RowKit
theorem gv16 (l:List UInt8) (h:l.length=2):IntKind.u16.wrap (D.gv l:Int)=(D.gv l:Int):=by
 have:=D.gv_lt l
 rw[h] at this
 rw[IntKind.wrap_u16]
 omega
set_option maxHeartbeats 3200000 in
theorem sSig_any (b:List UInt8) (ao:Option Addr) (len cap:Nat) (w:World) (hl:Hid (b.length=len)) (hs:SlL w ao b) (hc:len<=cap) (hnil:ao=none->cap=0) (h8:len<=8192) :
 Calls Tryz.prog 121 #[.slice ao len cap] w fun e w'=>Ans (D.full b (D.sig b)) SigV (.agg #[.int .u16 0,.int .u8 0,.int .u8 0,.int .u32 0,.int .u32 0,.int .u32 0,.int .u16 0,.slice none 0 0,.slice none 0 0]) w e w':=by
 have HS:=hide hs
 have B0:=hide ((Below.refl w.heap.size w).alloc (Nat.le_refl _) (.cells #[.int .u16 0,.int .u8 0,.int .u8 0,.int .u32 0,.int .u32 0,.int .u32 0,.int .u16 0,.slice none 0 0,.slice none 0 0] 175))
 have R0:=hide (RowAt.new w 175 #[.int .u16 0,.int .u8 0,.int .u8 0,.int .u32 0,.int .u32 0,.int .u32 0,.int .u16 0,.slice none 0 0,.slice none 0 0])
 rcases Nat.lt_or_ge len 18 with hlt | hge
 ·have hlt':(len:Int)<18:=by omega
  have HF:Hid (D.full b (D.sig b)=none):=D.sig_no (Or.inl (by rw[hl.out];exact hlt))
  clear hs hnil
  go_enter Tryz.func121,Tryz.ntmps121
  go_wp2
  generalize (w.alloc (.cells #[.int .u16 0,.int .u8 0,.int .u8 0,.int .u32 0,.int .u32 0,.int .u32 0,.int .u16 0,.slice none 0 0,.slice none 0 0] 175))=F at B0 R0 ⊢
  have q0:F.cell? ⟨w.heap.size,0,none⟩=some (.int .u16 0):=R0.out.cell 0
  have q1:F.cell? ⟨w.heap.size,1,none⟩=some (.int .u8 0):=R0.out.cell 1
  have q2:F.cell? ⟨w.heap.size,2,none⟩=some (.int .u8 0):=R0.out.cell 2
  have q3:F.cell? ⟨w.heap.size,3,none⟩=some (.int .u32 0):=R0.out.cell 3
  have q4:F.cell? ⟨w.heap.size,4,none⟩=some (.int .u32 0):=R0.out.cell 4
  have q5:F.cell? ⟨w.heap.size,5,none⟩=some (.int .u32 0):=R0.out.cell 5
  have q6:F.cell? ⟨w.heap.size,6,none⟩=some (.int .u16 0):=R0.out.cell 6
  have q7:F.cell? ⟨w.heap.size,7,none⟩=some (.slice none 0 0):=R0.out.cell 7
  have q8:F.cell? ⟨w.heap.size,8,none⟩=some (.slice none 0 0):=R0.out.cell 8
  simp[bodyPost,results,Tryz.results121,go_sem,q0,q1,q2,q3,q4,q5,q6,q7,q8]
  exact⟨Or.inr ⟨HF.out,rfl⟩,B0.out⟩
 have hge' : ¬ (len:Int)<18:=by omega
 have hlen:=hl.out
 obtain⟨blk,of,rfl,hblt,hcell⟩:=hs (by omega)
 have c2:=hcell 2 (by omega)
 have c3:=hcell 3 (by omega)
 obtain⟨d0,t0,u0⟩:=cut_tl 18 HS.out hlen (by omega) hc
 obtain⟨d1,t1,u1⟩:=cut_hd 2 HS.out hlen (by omega) hc
 obtain⟨d2,t2,u2⟩:=cut_mid 4 4 HS.out hlen (by omega) hc
 obtain⟨d3,t3,u3⟩:=cut_mid 8 4 HS.out hlen (by omega) hc
 obtain⟨d4,t4,u4⟩:=cut_mid 12 4 HS.out hlen (by omega) hc
 obtain⟨d5,t5,u5⟩:=cut_mid 16 2 HS.out hlen (by omega) hc
 have hg:=fun (l:List UInt8) (d:Addr) (m c:Nat) (h4:l.length=m) (hm:m<=4) (hsl:SlL w (some d) l) (W:World) (hB:Below w.heap.size w W)=>get_any l (some d) m c W h4 (hsl.below hB (Nat.le_refl _)) hm
 have l1:(b.take 2).length=2:=by rw[List.length_take];omega
 have l2:((b.drop 4).take 4).length=4:=by rw[List.length_take,List.length_drop];omega
 have l3:((b.drop 8).take 4).length=4:=by rw[List.length_take,List.length_drop];omega
 have l4:((b.drop 12).take 4).length=4:=by rw[List.length_take,List.length_drop];omega
 have l5:((b.drop 16).take 2).length=2:=by rw[List.length_take,List.length_drop];omega
 have g1:=hg _ d1 2 cap l1 (by omega) u1
 have g2:=hg _ d2 4 (cap - 4) l2 (by omega) u2
 have g3:=hg _ d3 4 (cap - 8) l3 (by omega) u3
 have g4:=hg _ d4 4 (cap - 12) l4 (by omega) u4
 have g5:=hg _ d5 2 (cap - 16) l5 (by omega) u5
 have w1':=gv16 _ l1
 have w5':=gv16 _ l5
 have HREF:=hide (fun r n h=>D.sig_ref (l:=b) (r:=r) (n:=n) (by omega) h)
 have HNO:=hide (fun h=>D.sig_no (l:=b) (Or.inr h))
 generalize D.gv (b.take 2)=y1 at g1 HREF w1'
 generalize D.gv ((b.drop 4).take 4)=y2 at g2 HREF
 generalize D.gv ((b.drop 8).take 4)=y3 at g3 HREF
 generalize D.gv ((b.drop 12).take 4)=y4 at g4 HREF
 generalize D.gv ((b.drop 16).take 2)=y5 at g5 HREF w5'
 generalize (b.getD 2 0).toNat=x2 at c2 HREF
 generalize (b.getD 3 0).toNat=x3 at c3 HREF
 have S0:=hide u0
 have hl0:Hid ((b.drop 18).length=len - 18):=by show _=_;rw[List.length_drop,hlen]
 have i2:(2:Int)<(len:Int):=by omega
 have i3:(3:Int)<(len:Int):=by omega
 replace t0 : ∀ W,(Instr.slice 37 (.slice (some ⟨blk,of,none⟩) len cap) (some (.int .i64 18)) none none).run Tryz.prog W = .ok (.slice (some d0) (len - 18) (cap - 18)) W:=t0
 replace t1 : ∀ W,(Instr.slice 37 (.slice (some ⟨blk,of,none⟩) len cap) none (some (.int .i64 2)) none).run Tryz.prog W = .ok (.slice (some d1) 2 cap) W:=t1
 replace t2 : ∀ W,(Instr.slice 37 (.slice (some ⟨blk,of,none⟩) len cap) (some (.int .i64 4)) (some (.int .i64 8)) none).run Tryz.prog W = .ok (.slice (some d2) 4 (cap - 4)) W:=t2
 replace t3 : ∀ W,(Instr.slice 37 (.slice (some ⟨blk,of,none⟩) len cap) (some (.int .i64 8)) (some (.int .i64 12)) none).run Tryz.prog W = .ok (.slice (some d3) 4 (cap - 8)) W:=t3
 replace t4 : ∀ W,(Instr.slice 37 (.slice (some ⟨blk,of,none⟩) len cap) (some (.int .i64 12)) (some (.int .i64 16)) none).run Tryz.prog W = .ok (.slice (some d4) 4 (cap - 12)) W:=t4
 replace t5 : ∀ W,(Instr.slice 37 (.slice (some ⟨blk,of,none⟩) len cap) (some (.int .i64 16)) (some (.int .i64 18)) none).run Tryz.prog W = .ok (.slice (some d5) 2 (cap - 16)) W:=t5
 have C2:=hide c2
 have C3:=hide c3
 clear hs hnil hcell c2 c3 hg u0 u1 u2 u3 u4 u5 l1 l2 l3 l4 l5 hlen
 go_enter Tryz.func121,Tryz.ntmps121
 go_wp2_with fail
 refine (rOpen_any (b.drop 18) (some d0) (len - 18) (cap - 18) _ hl0 (by exact S0.out.alloc _) (by omega) (by omega)).mono ?_
 rintro e w1 ⟨⟨n,v,hn,hz,rfl,hO⟩ | ⟨hn,rfl⟩ | ⟨n,hn,hz,rfl⟩,hb1⟩
 rotate_left
 ·have HF:Hid (D.full b (D.sig b)=none):=HNO.out (by unfold D.nm;rw[hn];rfl)
  have R1:=hide (R0.out.below hb1 (by simp))
  have B1:=hide (B0.out.trans (hb1.mono (by simp)))
  clear hn hb1 R0 B0
  have k0:w1.cell? ⟨w.heap.size,0,none⟩=some (.int .u16 0):=R1.out.cell 0
  have f0:=R1.out.frozen 0
  have k1:w1.cell? ⟨w.heap.size,1,none⟩=some (.int .u8 0):=R1.out.cell 1
  have f1:=R1.out.frozen 1
  have k2:w1.cell? ⟨w.heap.size,2,none⟩=some (.int .u8 0):=R1.out.cell 2
  have f2:=R1.out.frozen 2
  have k3:w1.cell? ⟨w.heap.size,3,none⟩=some (.int .u32 0):=R1.out.cell 3
  have f3:=R1.out.frozen 3
  have k4:w1.cell? ⟨w.heap.size,4,none⟩=some (.int .u32 0):=R1.out.cell 4
  have f4:=R1.out.frozen 4
  have k5:w1.cell? ⟨w.heap.size,5,none⟩=some (.int .u32 0):=R1.out.cell 5
  have f5:=R1.out.frozen 5
  have k6:w1.cell? ⟨w.heap.size,6,none⟩=some (.int .u16 0):=R1.out.cell 6
  have f6:=R1.out.frozen 6
  have k7:w1.cell? ⟨w.heap.size,7,none⟩=some (.slice none 0 0):=R1.out.cell 7
  have f7:=R1.out.frozen 7
  have k8:w1.cell? ⟨w.heap.size,8,none⟩=some (.slice none 0 0):=R1.out.cell 8
  have f8:=R1.out.frozen 8
  have E0:=hide R1.out
  have E1:Hid (RowAt _ w.heap.size 175 #[.int .u16 0,.int .u8 0,.int .u8 0,.int .u32 0,.int .u32 0,.int .u32 0,.int .u16 0,.slice none 0 0,.slice none 0 0]):=E0.out.set 0 (.int .u16 0)
  have E2:Hid (RowAt _ w.heap.size 175 #[.int .u16 0,.int .u8 0,.int .u8 0,.int .u32 0,.int .u32 0,.int .u32 0,.int .u16 0,.slice none 0 0,.slice none 0 0]):=E1.out.set 1 (.int .u8 0)
  have E3:Hid (RowAt _ w.heap.size 175 #[.int .u16 0,.int .u8 0,.int .u8 0,.int .u32 0,.int .u32 0,.int .u32 0,.int .u16 0,.slice none 0 0,.slice none 0 0]):=E2.out.set 2 (.int .u8 0)
  have E4:Hid (RowAt _ w.heap.size 175 #[.int .u16 0,.int .u8 0,.int .u8 0,.int .u32 0,.int .u32 0,.int .u32 0,.int .u16 0,.slice none 0 0,.slice none 0 0]):=E3.out.set 3 (.int .u32 0)
  have E5:Hid (RowAt _ w.heap.size 175 #[.int .u16 0,.int .u8 0,.int .u8 0,.int .u32 0,.int .u32 0,.int .u32 0,.int .u16 0,.slice none 0 0,.slice none 0 0]):=E4.out.set 4 (.int .u32 0)
  have E6:Hid (RowAt _ w.heap.size 175 #[.int .u16 0,.int .u8 0,.int .u8 0,.int .u32 0,.int .u32 0,.int .u32 0,.int .u16 0,.slice none 0 0,.slice none 0 0]):=E5.out.set 5 (.int .u32 0)
  have E7:Hid (RowAt _ w.heap.size 175 #[.int .u16 0,.int .u8 0,.int .u8 0,.int .u32 0,.int .u32 0,.int .u32 0,.int .u16 0,.slice none 0 0,.slice none 0 0]):=E6.out.set 6 (.int .u16 0)
  have E8:Hid (RowAt _ w.heap.size 175 #[.int .u16 0,.int .u8 0,.int .u8 0,.int .u32 0,.int .u32 0,.int .u32 0,.int .u16 0,.slice none 0 0,.slice none 0 0]):=E7.out.set 7 (.slice none 0 0)
  have E9:Hid (RowAt _ w.heap.size 175 #[.int .u16 0,.int .u8 0,.int .u8 0,.int .u32 0,.int .u32 0,.int .u32 0,.int .u16 0,.slice none 0 0,.slice none 0 0]):=E8.out.set 8 (.slice none 0 0)
  have HU:Hid (Upd w.heap.size w1 _):=((((((((((Upd.refl w.heap.size w1).set 0 (.int .u16 0)).set 1 (.int .u8 0)).set 2 (.int .u8 0)).set 3 (.int .u32 0)).set 4 (.int .u32 0)).set 5 (.int .u32 0)).set 6 (.int .u16 0)).set 7 (.slice none 0 0)).set 8 (.slice none 0 0))
  have HE:Hid (RowAt _ w.heap.size 175 #[.int .u16 0,.int .u8 0,.int .u8 0,.int .u32 0,.int .u32 0,.int .u32 0,.int .u16 0,.slice none 0 0,.slice none 0 0]):=E9.out
  clear E0 E1 E2 E3 E4 E5 E6 E7 E8 E9
  go_wp2
  obtain⟨F,hwo⟩ : ∃ F,F=wof HE.out:=⟨_,rfl⟩
  unfold wof at hwo
  rw[<- hwo] at HE HU ⊢
  clear hwo
  have q0:F.cell? ⟨w.heap.size,0,none⟩=some (.int .u16 0):=HE.out.cell 0
  have q1:F.cell? ⟨w.heap.size,1,none⟩=some (.int .u8 0):=HE.out.cell 1
  have q2:F.cell? ⟨w.heap.size,2,none⟩=some (.int .u8 0):=HE.out.cell 2
  have q3:F.cell? ⟨w.heap.size,3,none⟩=some (.int .u32 0):=HE.out.cell 3
  have q4:F.cell? ⟨w.heap.size,4,none⟩=some (.int .u32 0):=HE.out.cell 4
  have q5:F.cell? ⟨w.heap.size,5,none⟩=some (.int .u32 0):=HE.out.cell 5
  have q6:F.cell? ⟨w.heap.size,6,none⟩=some (.int .u16 0):=HE.out.cell 6
  have q7:F.cell? ⟨w.heap.size,7,none⟩=some (.slice none 0 0):=HE.out.cell 7
  have q8:F.cell? ⟨w.heap.size,8,none⟩=some (.slice none 0 0):=HE.out.cell 8
  simp[bodyPost,results,Tryz.results121,go_sem,q0,q1,q2,q3,q4,q5,q6,q7,q8]
  exact⟨Or.inr ⟨HF.out,rfl⟩,(B1.out).trans (HU.out.below (Nat.le_refl _))⟩
 ·have HF:Hid (D.full b (D.sig b)=none):=HNO.out (by unfold D.nm;rw[hn,Option.bind_some,if_neg (by omega)])
  have R1:=hide (R0.out.below hb1 (by simp))
  have B1:=hide (B0.out.trans (hb1.mono (by simp)))
  clear hn hb1 R0 B0
  have k0:w1.cell? ⟨w.heap.size,0,none⟩=some (.int .u16 0):=R1.out.cell 0
  have f0:=R1.out.frozen 0
  have k1:w1.cell? ⟨w.heap.size,1,none⟩=some (.int .u8 0):=R1.out.cell 1
  have f1:=R1.out.frozen 1
  have k2:w1.cell? ⟨w.heap.size,2,none⟩=some (.int .u8 0):=R1.out.cell 2
  have f2:=R1.out.frozen 2
  have k3:w1.cell? ⟨w.heap.size,3,none⟩=some (.int .u32 0):=R1.out.cell 3
  have f3:=R1.out.frozen 3
  have k4:w1.cell? ⟨w.heap.size,4,none⟩=some (.int .u32 0):=R1.out.cell 4
  have f4:=R1.out.frozen 4
  have k5:w1.cell? ⟨w.heap.size,5,none⟩=some (.int .u32 0):=R1.out.cell 5
  have f5:=R1.out.frozen 5
  have k6:w1.cell? ⟨w.heap.size,6,none⟩=some (.int .u16 0):=R1.out.cell 6
  have f6:=R1.out.frozen 6
  have k7:w1.cell? ⟨w.heap.size,7,none⟩=some (.slice none 0 0):=R1.out.cell 7
  have f7:=R1.out.frozen 7
  have k8:w1.cell? ⟨w.heap.size,8,none⟩=some (.slice none 0 0):=R1.out.cell 8
  have f8:=R1.out.frozen 8
  have E0:=hide R1.out
  have E1:Hid (RowAt _ w.heap.size 175 #[.int .u16 0,.int .u8 0,.int .u8 0,.int .u32 0,.int .u32 0,.int .u32 0,.int .u16 0,.slice none 0 0,.slice none 0 0]):=E0.out.set 0 (.int .u16 0)
  have E2:Hid (RowAt _ w.heap.size 175 #[.int .u16 0,.int .u8 0,.int .u8 0,.int .u32 0,.int .u32 0,.int .u32 0,.int .u16 0,.slice none 0 0,.slice none 0 0]):=E1.out.set 1 (.int .u8 0)
  have E3:Hid (RowAt _ w.heap.size 175 #[.int .u16 0,.int .u8 0,.int .u8 0,.int .u32 0,.int .u32 0,.int .u32 0,.int .u16 0,.slice none 0 0,.slice none 0 0]):=E2.out.set 2 (.int .u8 0)
  have E4:Hid (RowAt _ w.heap.size 175 #[.int .u16 0,.int .u8 0,.int .u8 0,.int .u32 0,.int .u32 0,.int .u32 0,.int .u16 0,.slice none 0 0,.slice none 0 0]):=E3.out.set 3 (.int .u32 0)
  have E5:Hid (RowAt _ w.heap.size 175 #[.int .u16 0,.int .u8 0,.int .u8 0,.int .u32 0,.int .u32 0,.int .u32 0,.int .u16 0,.slice none 0 0,.slice none 0 0]):=E4.out.set 4 (.int .u32 0)
  have E6:Hid (RowAt _ w.heap.size 175 #[.int .u16 0,.int .u8 0,.int .u8 0,.int .u32 0,.int .u32 0,.int .u32 0,.int .u16 0,.slice none 0 0,.slice none 0 0]):=E5.out.set 5 (.int .u32 0)
  have E7:Hid (RowAt _ w.heap.size 175 #[.int .u16 0,.int .u8 0,.int .u8 0,.int .u32 0,.int .u32 0,.int .u32 0,.int .u16 0,.slice none 0 0,.slice none 0 0]):=E6.out.set 6 (.int .u16 0)
  have E8:Hid (RowAt _ w.heap.size 175 #[.int .u16 0,.int .u8 0,.int .u8 0,.int .u32 0,.int .u32 0,.int .u32 0,.int .u16 0,.slice none 0 0,.slice none 0 0]):=E7.out.set 7 (.slice none 0 0)
  have E9:Hid (RowAt _ w.heap.size 175 #[.int .u16 0,.int .u8 0,.int .u8 0,.int .u32 0,.int .u32 0,.int .u32 0,.int .u16 0,.slice none 0 0,.slice none 0 0]):=E8.out.set 8 (.slice none 0 0)
  have HU:Hid (Upd w.heap.size w1 _):=((((((((((Upd.refl w.heap.size w1).set 0 (.int .u16 0)).set 1 (.int .u8 0)).set 2 (.int .u8 0)).set 3 (.int .u32 0)).set 4 (.int .u32 0)).set 5 (.int .u32 0)).set 6 (.int .u16 0)).set 7 (.slice none 0 0)).set 8 (.slice none 0 0))
  have HE:Hid (RowAt _ w.heap.size 175 #[.int .u16 0,.int .u8 0,.int .u8 0,.int .u32 0,.int .u32 0,.int .u32 0,.int .u16 0,.slice none 0 0,.slice none 0 0]):=E9.out
  clear E0 E1 E2 E3 E4 E5 E6 E7 E8 E9
  go_wp2
  obtain⟨F,hwo⟩ : ∃ F,F=wof HE.out:=⟨_,rfl⟩
  unfold wof at hwo
  rw[<- hwo] at HE HU ⊢
  clear hwo
  have q0:F.cell? ⟨w.heap.size,0,none⟩=some (.int .u16 0):=HE.out.cell 0
  have q1:F.cell? ⟨w.heap.size,1,none⟩=some (.int .u8 0):=HE.out.cell 1
  have q2:F.cell? ⟨w.heap.size,2,none⟩=some (.int .u8 0):=HE.out.cell 2
  have q3:F.cell? ⟨w.heap.size,3,none⟩=some (.int .u32 0):=HE.out.cell 3
  have q4:F.cell? ⟨w.heap.size,4,none⟩=some (.int .u32 0):=HE.out.cell 4
  have q5:F.cell? ⟨w.heap.size,5,none⟩=some (.int .u32 0):=HE.out.cell 5
  have q6:F.cell? ⟨w.heap.size,6,none⟩=some (.int .u16 0):=HE.out.cell 6
  have q7:F.cell? ⟨w.heap.size,7,none⟩=some (.slice none 0 0):=HE.out.cell 7
  have q8:F.cell? ⟨w.heap.size,8,none⟩=some (.slice none 0 0):=HE.out.cell 8
  simp[bodyPost,results,Tryz.results121,go_sem,q0,q1,q2,q3,q4,q5,q6,q7,q8]
  exact⟨Or.inr ⟨HF.out,rfl⟩,(B1.out).trans (HU.out.below (Nat.le_refl _))⟩
 obtain⟨_,_,hsz⟩:=N.opn_small (b.drop 18) n hn
 rw[hl0.out] at hsz
 have HF:Hid (D.full b (D.sig b)=some _):=D.full_some (by rw[hl.out];exact h8) (HREF.out _ _ (show D.nm (b.drop 18)=some (n,(b.drop 18).drop (N.size n)) by unfold D.nm;rw[hn,Option.bind_some,if_pos hz]))
 have R1:=hide (R0.out.below hb1 (by simp))
 have B1:=hide (B0.out.trans (hb1.mono (by simp)))
 obtain⟨an,cn,rfl,_,_,_⟩:=hO.open
 have ON:=hide (OwnS.lower (base':=w.heap.size) hO (by simp))
 rw[List.drop_drop] at HF
 obtain⟨K,hK⟩ : ∃ K,18+N.size n=K:=⟨_,rfl⟩
 rw[hK] at HF
 have hKl:K<=len:=by omega
 have hK2:IntKind.i64.wrap (18+(N.size n:Int))=(K:Int):=by rw[IntKind.wrap_i64];omega
 have hK3:18+(N.size n:Int)=(K:Int):=by omega
 have hK4:IntKind.i64.wrap (K:Int)=(K:Int):=wrap_nat K (by omega)
 obtain⟨d6,t6,u6⟩:=cut_tl K HS.out hl.out hKl hc
 have S6:=hide u6
 have hl6:Hid ((b.drop K).length=len - K):=by show _=_;rw[List.length_drop,hl.out]
 generalize b.drop K=sg at HF S6 hl6
 have e2:w1.cell? ⟨blk,of+2,none⟩=some (.int .u8 (x2:Int)):=(B1.out.cell (p:=⟨blk,of+2,none⟩) hblt).trans C2.out
 have e3:w1.cell? ⟨blk,of+3,none⟩=some (.int .u8 (x3:Int)):=(B1.out.cell (p:=⟨blk,of+3,none⟩) hblt).trans C3.out
 have hbne:blk≠w.heap.size:=by omega
 clear hn hz hO hb1 R0 B0 HREF HNO u6 HS hK hsz S0 t0
 go_wp2
 go_region_held3 (fun w'=>w'.cell? ⟨blk,of+2,none⟩=some (.int .u8 (x2:Int))/\w'.cell? ⟨blk,of+3,none⟩=some (.int .u8 (x3:Int))) ((first | (with_reducible exact⟨m2,m3⟩) | (simp only[cell_far hbne,m2,m3,and_self];done) | exact⟨e2,e3⟩)) ((first
  | (refine step_fn 158 #[.tmp 22] _ rfl rfl #[.slice (some d1) 2 cap] (by go_simp) (g1 _ (by first | exact B1.out.drew | exact B4.out | exact B4.out.drew)) (by rintro e w' ⟨rfl,_⟩;exact⟨_,rfl⟩) ?_;rintro v w' ⟨he,rfl⟩;cases he)
  | (refine step_fn 158 #[.tmp 32] _ rfl rfl #[.slice (some d2) 4 (cap - 4)] (by go_simp) (g2 _ (by first | exact B1.out.drew | exact B4.out | exact B4.out.drew)) (by rintro e w' ⟨rfl,_⟩;exact⟨_,rfl⟩) ?_;rintro v w' ⟨he,rfl⟩;cases he)
  | (refine step_fn 158 #[.tmp 35] _ rfl rfl #[.slice (some d3) 4 (cap - 8)] (by go_simp) (g3 _ (by first | exact B1.out.drew | exact B4.out | exact B4.out.drew)) (by rintro e w' ⟨rfl,_⟩;exact⟨_,rfl⟩) ?_;rintro v w' ⟨he,rfl⟩;cases he)
  | (refine step_fn 158 #[.tmp 38] _ rfl rfl #[.slice (some d4) 4 (cap - 12)] (by go_simp) (g4 _ (by first | exact B1.out.drew | exact B4.out | exact B4.out.drew)) (by rintro e w' ⟨rfl,_⟩;exact⟨_,rfl⟩) ?_;rintro v w' ⟨he,rfl⟩;cases he)
  | (refine step_fn 158 #[.tmp 41] _ rfl rfl #[.slice (some d5) 2 (cap - 16)] (by go_simp) (g5 _ (by first | exact B1.out.drew | exact B4.out | exact B4.out.drew)) (by rintro e w' ⟨rfl,_⟩;exact⟨_,rfl⟩) ?_;rintro v w' ⟨he,rfl⟩;cases he)
  | (refine step_append_B rfl (.const (.slice none 0 0)) (.tmp 48) rfl w.heap.size (.slice none 0 0) [] rfl (OwnB.nil _ _) d6 (len - K) (cap - K) sg (by rfl) hl6.out (by exact S6.out.below B1.out.drew (Nat.le_refl _)) (by simp;omega) (by exact B1.out.size) ?_;intro v4 w4 hO4 hG4;obtain⟨a4,c4,rfl,_,_,_⟩:=hO4.open;have hN4:=nil_grown hG4;have B4:=hide (B1.out.trans (hN4.mono B1.out.size));have R4:=hide (R1.out.below hN4 R1.out.lt);have ON4:=hide (ON.out.below hN4);have m2:w4.cell? ⟨blk,of+2,none⟩=some (.int .u8 (x2:Int)):=(B4.out.cell (p:=⟨blk,of+2,none⟩) hblt).trans C2.out;have m3:w4.cell? ⟨blk,of+3,none⟩=some (.int .u8 (x3:Int)):=(B4.out.cell (p:=⟨blk,of+3,none⟩) hblt).trans C3.out;have O4:=hide hO4;obtain⟨k0,k1,k2,k3,k4,k5,k6,k7,k8,f0,f1,f2,f3,f4,f5,f6,f7,f8⟩:=row_facts9 R4.out;clear hO4 hG4 hN4)))
 all_goals
  have E0:=hide R4.out
  have E1:Hid (RowAt _ w.heap.size 175 #[.int .u16 (y1:Int),.int .u8 0,.int .u8 0,.int .u32 0,.int .u32 0,.int .u32 0,.int .u16 0,.slice none 0 0,.slice none 0 0]):=E0.out.set 0 (.int .u16 (y1:Int))
  have E2:Hid (RowAt _ w.heap.size 175 #[.int .u16 (y1:Int),.int .u8 (x2:Int),.int .u8 0,.int .u32 0,.int .u32 0,.int .u32 0,.int .u16 0,.slice none 0 0,.slice none 0 0]):=E1.out.set 1 (.int .u8 (x2:Int))
  have E3:Hid (RowAt _ w.heap.size 175 #[.int .u16 (y1:Int),.int .u8 (x2:Int),.int .u8 (x3:Int),.int .u32 0,.int .u32 0,.int .u32 0,.int .u16 0,.slice none 0 0,.slice none 0 0]):=E2.out.set 2 (.int .u8 (x3:Int))
  have E4:Hid (RowAt _ w.heap.size 175 #[.int .u16 (y1:Int),.int .u8 (x2:Int),.int .u8 (x3:Int),.int .u32 (y2:Int),.int .u32 0,.int .u32 0,.int .u16 0,.slice none 0 0,.slice none 0 0]):=E3.out.set 3 (.int .u32 (y2:Int))
  have E5:Hid (RowAt _ w.heap.size 175 #[.int .u16 (y1:Int),.int .u8 (x2:Int),.int .u8 (x3:Int),.int .u32 (y2:Int),.int .u32 (y3:Int),.int .u32 0,.int .u16 0,.slice none 0 0,.slice none 0 0]):=E4.out.set 4 (.int .u32 (y3:Int))
  have E6:Hid (RowAt _ w.heap.size 175 #[.int .u16 (y1:Int),.int .u8 (x2:Int),.int .u8 (x3:Int),.int .u32 (y2:Int),.int .u32 (y3:Int),.int .u32 (y4:Int),.int .u16 0,.slice none 0 0,.slice none 0 0]):=E5.out.set 5 (.int .u32 (y4:Int))
  have E7:Hid (RowAt _ w.heap.size 175 #[.int .u16 (y1:Int),.int .u8 (x2:Int),.int .u8 (x3:Int),.int .u32 (y2:Int),.int .u32 (y3:Int),.int .u32 (y4:Int),.int .u16 (y5:Int),.slice none 0 0,.slice none 0 0]):=E6.out.set 6 (.int .u16 (y5:Int))
  have E8:Hid (RowAt _ w.heap.size 175 #[.int .u16 (y1:Int),.int .u8 (x2:Int),.int .u8 (x3:Int),.int .u32 (y2:Int),.int .u32 (y3:Int),.int .u32 (y4:Int),.int .u16 (y5:Int),.slice an n.length cn,.slice none 0 0]):=E7.out.set 7 (.slice an n.length cn)
  have E9:Hid (RowAt _ w.heap.size 175 #[.int .u16 (y1:Int),.int .u8 (x2:Int),.int .u8 (x3:Int),.int .u32 (y2:Int),.int .u32 (y3:Int),.int .u32 (y4:Int),.int .u16 (y5:Int),.slice an n.length cn,.slice a4 sg.length c4]):=E8.out.set 8 (.slice a4 sg.length c4)
  have HU:Hid (Upd w.heap.size w4 _):=((((((((((Upd.refl w.heap.size w4).set 0 (.int .u16 (y1:Int))).set 1 (.int .u8 (x2:Int))).set 2 (.int .u8 (x3:Int))).set 3 (.int .u32 (y2:Int))).set 4 (.int .u32 (y3:Int))).set 5 (.int .u32 (y4:Int))).set 6 (.int .u16 (y5:Int))).set 7 (.slice an n.length cn)).set 8 (.slice a4 sg.length c4))
  have HE:Hid (RowAt _ w.heap.size 175 #[.int .u16 (y1:Int),.int .u8 (x2:Int),.int .u8 (x3:Int),.int .u32 (y2:Int),.int .u32 (y3:Int),.int .u32 (y4:Int),.int .u16 (y5:Int),.slice an n.length cn,.slice a4 sg.length c4]):=E9.out
  clear E0 E1 E2 E3 E4 E5 E6 E7 E8 E9
  go_wp2
  obtain⟨F,hwo⟩ : ∃ F,F=wof HE.out:=⟨_,rfl⟩
  unfold wof at hwo
  rw[<- hwo] at HE HU ⊢
  clear hwo
  have q0:F.cell? ⟨w.heap.size,0,none⟩=some (.int .u16 (y1:Int)):=HE.out.cell 0
  have q1:F.cell? ⟨w.heap.size,1,none⟩=some (.int .u8 (x2:Int)):=HE.out.cell 1
  have q2:F.cell? ⟨w.heap.size,2,none⟩=some (.int .u8 (x3:Int)):=HE.out.cell 2
  have q3:F.cell? ⟨w.heap.size,3,none⟩=some (.int .u32 (y2:Int)):=HE.out.cell 3
  have q4:F.cell? ⟨w.heap.size,4,none⟩=some (.int .u32 (y3:Int)):=HE.out.cell 4
  have q5:F.cell? ⟨w.heap.size,5,none⟩=some (.int .u32 (y4:Int)):=HE.out.cell 5
  have q6:F.cell? ⟨w.heap.size,6,none⟩=some (.int .u16 (y5:Int)):=HE.out.cell 6
  have q7:F.cell? ⟨w.heap.size,7,none⟩=some (.slice an n.length cn):=HE.out.cell 7
  have q8:F.cell? ⟨w.heap.size,8,none⟩=some (.slice a4 sg.length c4):=HE.out.cell 8
  simp[bodyPost,results,Tryz.results121,go_sem,q0,q1,q2,q3,q4,q5,q6,q7,q8]
  exact⟨Or.inl ⟨_,_,HF.out,rfl,⟨_,_,_,_,rfl,HU.out.own R4.out (by decide) ON4.out,HU.out.own R4.out (by decide) O4.out⟩⟩,(B4.out).trans (HU.out.below (Nat.le_refl _))⟩
end Go.Proofs.YtmbcegljmhcdeaaGreat
namespace Go.Proofs.YtmbcegljmhcdeaaGreat
open Go.RowKit
set_option maxRecDepth 5000
set_option maxHeartbeats 3200000 in
set_option maxRecDepth 5000 in
theorem sChain_any (b:List UInt8) (ao:Option Addr) (len cap:Nat) (w:World) (hl:Hid (b.length=len)) (hs:SlL w ao b) (hc:len<=cap) (h8:len<=8192) :
 Calls Tryz.prog 123 #[.slice ao len cap] w fun e w'=>Ans (D.full b (D.chain b)) ChainV (.agg #[.int .u8 0,.int .u8 0,.int .u16 0,.slice none 0 0,.slice none 0 0,.slice none 0 0]) w e w':=by
 have HS:=hide hs
 have B0:=hide ((Below.refl w.heap.size w).alloc (Nat.le_refl _) (.cells #[.int .u8 0,.int .u8 0,.int .u16 0,.slice none 0 0,.slice none 0 0,.slice none 0 0] 183))
 have R0:=hide (RowAt.new w 183 #[.int .u8 0,.int .u8 0,.int .u16 0,.slice none 0 0,.slice none 0 0,.slice none 0 0])
 have hlen:=hl.out
 rcases Nat.lt_or_ge len 5 with hlt | hge
 ·have hlt':(len:Int)<5:=by omega
  have HF:Hid (D.full b (D.chain b)=none):=D.chain_no1 (by omega)
  clear hs
  go_enter Tryz.func123,Tryz.ntmps123
  go_wp2
  generalize (w.alloc (.cells #[.int .u8 0,.int .u8 0,.int .u16 0,.slice none 0 0,.slice none 0 0,.slice none 0 0] 183))=F at B0 R0 ⊢
  have q0:F.cell? ⟨w.heap.size,0,none⟩=some (.int .u8 0):=R0.out.cell 0
  have q1:F.cell? ⟨w.heap.size,1,none⟩=some (.int .u8 0):=R0.out.cell 1
  have q2:F.cell? ⟨w.heap.size,2,none⟩=some (.int .u16 0):=R0.out.cell 2
  have q3:F.cell? ⟨w.heap.size,3,none⟩=some (.slice none 0 0):=R0.out.cell 3
  have q4:F.cell? ⟨w.heap.size,4,none⟩=some (.slice none 0 0):=R0.out.cell 4
  have q5:F.cell? ⟨w.heap.size,5,none⟩=some (.slice none 0 0):=R0.out.cell 5
  simp[bodyPost,results,Tryz.results123,go_sem,q0,q1,q2,q3,q4,q5]
  exact⟨Or.inr ⟨HF.out,rfl⟩,B0.out⟩
 have hge' : ¬ (len:Int)<5:=by omega
 have hge5:5<=b.length:=by omega
 obtain⟨blk,of,rfl,hblt,hcell⟩:=hs (by omega)
 have e4:(w.alloc (.cells #[.int .u8 0,.int .u8 0,.int .u16 0,.slice none 0 0,.slice none 0 0,.slice none 0 0] 183)).cell? ⟨blk,of+4,none⟩=some (.int .u8 ((b.getD 4 0).toNat:Int)):=(B0.out.cell (p:=⟨blk,of+4,none⟩) hblt).trans (hcell 4 (by omega))
 have i4:(4:Int)<(len:Int):=by omega
 have hy4:=(b.getD 4 0).toNat_lt
 obtain⟨I,hI⟩ : ∃ I,5+(b.getD 4 0).toNat=I:=⟨_,rfl⟩
 have hI2:5+((b.getD 4 0).toNat:Int)=(I:Int):=by omega
 rcases Nat.lt_or_ge len (I+1) with hlt2 | hge2
 ·have HF:Hid (D.full b (D.chain b)=none):=D.chain_no2 hge5 (by omega)
  have hlt2':(len:Int)<(I:Int)+1:=by omega
  clear hs hcell
  generalize (b.getD 4 0).toNat=x4 at e4 hI2 hy4
  go_enter Tryz.func123,Tryz.ntmps123
  go_wp2
  generalize (w.alloc (.cells #[.int .u8 0,.int .u8 0,.int .u16 0,.slice none 0 0,.slice none 0 0,.slice none 0 0] 183))=F at B0 R0 ⊢
  have q0:F.cell? ⟨w.heap.size,0,none⟩=some (.int .u8 0):=R0.out.cell 0
  have q1:F.cell? ⟨w.heap.size,1,none⟩=some (.int .u8 0):=R0.out.cell 1
  have q2:F.cell? ⟨w.heap.size,2,none⟩=some (.int .u16 0):=R0.out.cell 2
  have q3:F.cell? ⟨w.heap.size,3,none⟩=some (.slice none 0 0):=R0.out.cell 3
  have q4:F.cell? ⟨w.heap.size,4,none⟩=some (.slice none 0 0):=R0.out.cell 4
  have q5:F.cell? ⟨w.heap.size,5,none⟩=some (.slice none 0 0):=R0.out.cell 5
  simp[bodyPost,results,Tryz.results123,go_sem,q0,q1,q2,q3,q4,q5]
  exact⟨Or.inr ⟨HF.out,rfl⟩,B0.out⟩
 have hge2' : ¬ (len:Int)<(I:Int)+1:=by omega
 have eI:(w.alloc (.cells #[.int .u8 0,.int .u8 0,.int .u16 0,.slice none 0 0,.slice none 0 0,.slice none 0 0] 183)).cell? ⟨blk,of+I,none⟩=some (.int .u8 ((b.getD I 0).toNat:Int)):=(B0.out.cell (p:=⟨blk,of+I,none⟩) hblt).trans (hcell I (by omega))
 have hyI:=(b.getD I 0).toNat_lt
 have iI:(I:Int)<(len:Int):=by omega
 obtain⟨K,hK⟩ : ∃ K,I+1+(b.getD I 0).toNat=K:=⟨_,rfl⟩
 have hK2:(I:Int)+1+((b.getD I 0).toNat:Int)=(K:Int):=by omega
 by_cases h0:(b.getD I 0).toNat=0
 ·have HF:Hid (D.full b (D.chain b)=none):=D.chain_no3 hge5 hI (by omega) (Or.inl h0)
  rw[h0] at eI
  clear hs hcell
  generalize (b.getD 4 0).toNat=x4 at e4 hI2 hy4
  go_enter Tryz.func123,Tryz.ntmps123
  go_wp2
  generalize (w.alloc (.cells #[.int .u8 0,.int .u8 0,.int .u16 0,.slice none 0 0,.slice none 0 0,.slice none 0 0] 183))=F at B0 R0 ⊢
  have q0:F.cell? ⟨w.heap.size,0,none⟩=some (.int .u8 0):=R0.out.cell 0
  have q1:F.cell? ⟨w.heap.size,1,none⟩=some (.int .u8 0):=R0.out.cell 1
  have q2:F.cell? ⟨w.heap.size,2,none⟩=some (.int .u16 0):=R0.out.cell 2
  have q3:F.cell? ⟨w.heap.size,3,none⟩=some (.slice none 0 0):=R0.out.cell 3
  have q4:F.cell? ⟨w.heap.size,4,none⟩=some (.slice none 0 0):=R0.out.cell 4
  have q5:F.cell? ⟨w.heap.size,5,none⟩=some (.slice none 0 0):=R0.out.cell 5
  simp[bodyPost,results,Tryz.results123,go_sem,q0,q1,q2,q3,q4,q5]
  exact⟨Or.inr ⟨HF.out,rfl⟩,B0.out⟩
 have hne0:(((b.getD I 0).toNat:Int) == 0)=false:=beq_eq_false_iff_ne.2 (by omega)
 rcases Nat.lt_or_ge len K with hlt3 | hge3
 ·have HF:Hid (D.full b (D.chain b)=none):=D.chain_no3 hge5 hI (by omega) (Or.inr (by omega))
  have hlt3':(len:Int)<(K:Int):=by omega
  clear hs hcell
  generalize (b.getD 4 0).toNat=x4 at e4 hI2 hy4
  generalize (b.getD I 0).toNat=xi at eI hK2 hyI hne0
  go_enter Tryz.func123,Tryz.ntmps123
  go_wp2
  generalize (w.alloc (.cells #[.int .u8 0,.int .u8 0,.int .u16 0,.slice none 0 0,.slice none 0 0,.slice none 0 0] 183))=F at B0 R0 ⊢
  have q0:F.cell? ⟨w.heap.size,0,none⟩=some (.int .u8 0):=R0.out.cell 0
  have q1:F.cell? ⟨w.heap.size,1,none⟩=some (.int .u8 0):=R0.out.cell 1
  have q2:F.cell? ⟨w.heap.size,2,none⟩=some (.int .u16 0):=R0.out.cell 2
  have q3:F.cell? ⟨w.heap.size,3,none⟩=some (.slice none 0 0):=R0.out.cell 3
  have q4:F.cell? ⟨w.heap.size,4,none⟩=some (.slice none 0 0):=R0.out.cell 4
  have q5:F.cell? ⟨w.heap.size,5,none⟩=some (.slice none 0 0):=R0.out.cell 5
  simp[bodyPost,results,Tryz.results123,go_sem,q0,q1,q2,q3,q4,q5]
  exact⟨Or.inr ⟨HF.out,rfl⟩,B0.out⟩
 have hge3' : ¬ (len:Int)<(K:Int):=by omega
 obtain⟨d0,t0,u0⟩:=cut_tl K HS.out hlen (by omega) hc
 obtain⟨d1,t1,u1⟩:=cut_mid 2 2 HS.out hlen (by omega) hc
 obtain⟨d2,t2,u2⟩:=cut_mid 5 (b.getD 4 0).toNat HS.out hlen (by omega) hc
 obtain⟨d3,t3,u3⟩:=cut_mid (I+1) (b.getD I 0).toNat HS.out hlen (by omega) hc
 rw[hI] at t2
 rw[hK] at t3
 have l1:((b.drop 2).take 2).length=2:=by rw[List.length_take,List.length_drop];omega
 have g1:=fun (W:World) (hB:Below w.heap.size w W)=>get_any _ (some d1) 2 (cap - 2) W l1 (SlL.below u1 hB (Nat.le_refl _)) (by omega)
 have w1':=gv16 _ l1
 have HLAST:=hide (D.chain_last hge5 hI (by omega) h0 hK (by omega))
 have HNO:=hide (fun ho=>D.chain_no4 hge5 hI (by omega) h0 hK (by omega) ho)
 have l2:Hid (((b.drop 5).take (b.getD 4 0).toNat).length=(b.getD 4 0).toNat):=by show _=_;rw[List.length_take,List.length_drop];omega
 have l3:Hid (((b.drop (I+1)).take (b.getD I 0).toNat).length=(b.getD I 0).toNat):=by show _=_;rw[List.length_take,List.length_drop];omega
 have c0:=hcell 0 (by omega)
 have c1:=hcell 1 (by omega)
 rw[Nat.add_zero] at c0
 generalize (b.drop 5).take (b.getD 4 0).toNat=sa at u2 l2 HLAST
 generalize (b.drop (I+1)).take (b.getD I 0).toNat=sn at u3 l3 HLAST
 generalize D.gv ((b.drop 2).take 2)=y1 at g1 HLAST w1'
 generalize (b.getD 0 0).toNat=x0 at c0 HLAST
 generalize (b.getD 1 0).toNat=x1 at c1 HLAST
 generalize (b.getD 4 0).toNat=x4 at e4 hI2 hy4 t2 l2 hI
 generalize (b.getD I 0).toNat=xi at eI hK2 hyI hne0 t3 l3 h0 hK
 have S0:=hide u0
 have S2:=hide u2
 have S3:=hide u3
 have C0:=hide c0
 have C1:=hide c1
 have hl0:Hid ((b.drop K).length=len - K):=by show _=_;rw[List.length_drop,hlen]
 replace t1 : ∀ W,(Instr.slice 37 (.slice (some ⟨blk,of,none⟩) len cap) (some (.int .i64 2)) (some (.int .i64 4)) none).run Tryz.prog W = .ok (.slice (some d1) 2 (cap - 2)) W:=t1
 replace t2 : ∀ W,(Instr.slice 37 (.slice (some ⟨blk,of,none⟩) len cap) (some (.int .i64 5)) (some (.int .i64 (I:Int))) none).run Tryz.prog W = .ok (.slice (some d2) x4 (cap - 5)) W:=t2
 have t3' : ∀ W,(Instr.slice 37 (.slice (some ⟨blk,of,none⟩) len cap) (some (.int .i64 ((I:Int)+1))) (some (.int .i64 (K:Int))) none).run Tryz.prog W = .ok (.slice (some d3) xi (cap - (I+1))) W:=by
  intro W;have:=t3 W;rwa [Int.natCast_add] at this
 obtain⟨J,hJ⟩ : ∃ J,I+1=J:=⟨_,rfl⟩
 have hJ2:(I:Int)+1=(J:Int):=by omega
 rw[hJ2] at t3'
 rw[hJ] at t3'
 have hJ3:IntKind.i64.wrap (J:Int)=(J:Int):=wrap_nat J (by omega)
 have hJ4:IntKind.i64.wrap ((I:Int)+1)=(J:Int):=by rw[hJ2];exact hJ3
 have hI3:IntKind.i64.wrap (I:Int)=(I:Int):=wrap_nat I (by omega)
 have hK3:IntKind.i64.wrap (K:Int)=(K:Int):=wrap_nat K (by omega)
 have i0:0<len:=by omega
 have i1:(1:Int)<(len:Int):=by omega
 have hKJ:(J:Int)+(xi:Int)=(K:Int):=by omega
 rw[hJ2] at hge2'
 have hbne:blk≠w.heap.size:=by omega
 clear hs hcell c0 c1 u0 u1 u2 u3 l1 HS t3 hK2 hI hK hJ
 go_enter Tryz.func123,Tryz.ntmps123
 go_wp2_with fail
 refine (ropen_any (b.drop K) (some d0) (len - K) (cap - K) _ hl0 (by exact S0.out.alloc _) (by omega)).mono ?_
 rintro e wa ⟨hb1,⟨m,v,ho,rfl,hO⟩ | ⟨ho,rfl⟩⟩
 rotate_left
 ·have HF:Hid (D.full b (D.chain b)=none):=HNO.out ho
  have R1:=hide (R0.out.below hb1 (by simp))
  have B1:=hide (B0.out.trans (hb1.mono (by simp)))
  clear ho hb1 R0 B0
  have k0:wa.cell? ⟨w.heap.size,0,none⟩=some (.int .u8 0):=R1.out.cell 0
  have f0:=R1.out.frozen 0
  have k1:wa.cell? ⟨w.heap.size,1,none⟩=some (.int .u8 0):=R1.out.cell 1
  have f1:=R1.out.frozen 1
  have k2:wa.cell? ⟨w.heap.size,2,none⟩=some (.int .u16 0):=R1.out.cell 2
  have f2:=R1.out.frozen 2
  have k3:wa.cell? ⟨w.heap.size,3,none⟩=some (.slice none 0 0):=R1.out.cell 3
  have f3:=R1.out.frozen 3
  have k4:wa.cell? ⟨w.heap.size,4,none⟩=some (.slice none 0 0):=R1.out.cell 4
  have f4:=R1.out.frozen 4
  have k5:wa.cell? ⟨w.heap.size,5,none⟩=some (.slice none 0 0):=R1.out.cell 5
  have f5:=R1.out.frozen 5
  have E0:=hide R1.out
  have E1:Hid (RowAt _ w.heap.size 183 #[.int .u8 0,.int .u8 0,.int .u16 0,.slice none 0 0,.slice none 0 0,.slice none 0 0]):=E0.out.set 0 (.int .u8 0)
  have E2:Hid (RowAt _ w.heap.size 183 #[.int .u8 0,.int .u8 0,.int .u16 0,.slice none 0 0,.slice none 0 0,.slice none 0 0]):=E1.out.set 1 (.int .u8 0)
  have E3:Hid (RowAt _ w.heap.size 183 #[.int .u8 0,.int .u8 0,.int .u16 0,.slice none 0 0,.slice none 0 0,.slice none 0 0]):=E2.out.set 2 (.int .u16 0)
  have E4:Hid (RowAt _ w.heap.size 183 #[.int .u8 0,.int .u8 0,.int .u16 0,.slice none 0 0,.slice none 0 0,.slice none 0 0]):=E3.out.set 3 (.slice none 0 0)
  have E5:Hid (RowAt _ w.heap.size 183 #[.int .u8 0,.int .u8 0,.int .u16 0,.slice none 0 0,.slice none 0 0,.slice none 0 0]):=E4.out.set 4 (.slice none 0 0)
  have E6:Hid (RowAt _ w.heap.size 183 #[.int .u8 0,.int .u8 0,.int .u16 0,.slice none 0 0,.slice none 0 0,.slice none 0 0]):=E5.out.set 5 (.slice none 0 0)
  have HU:Hid (Upd w.heap.size wa _):=(((((((Upd.refl w.heap.size wa).set 0 (.int .u8 0)).set 1 (.int .u8 0)).set 2 (.int .u16 0)).set 3 (.slice none 0 0)).set 4 (.slice none 0 0)).set 5 (.slice none 0 0))
  have HE:Hid (RowAt _ w.heap.size 183 #[.int .u8 0,.int .u8 0,.int .u16 0,.slice none 0 0,.slice none 0 0,.slice none 0 0]):=E6.out
  clear E0 E1 E2 E3 E4 E5 E6
  go_wp2
  obtain⟨F,hwo⟩ : ∃ F,F=wof HE.out:=⟨_,rfl⟩
  unfold wof at hwo
  rw[<- hwo] at HE HU ⊢
  clear hwo
  have q0:F.cell? ⟨w.heap.size,0,none⟩=some (.int .u8 0):=HE.out.cell 0
  have q1:F.cell? ⟨w.heap.size,1,none⟩=some (.int .u8 0):=HE.out.cell 1
  have q2:F.cell? ⟨w.heap.size,2,none⟩=some (.int .u16 0):=HE.out.cell 2
  have q3:F.cell? ⟨w.heap.size,3,none⟩=some (.slice none 0 0):=HE.out.cell 3
  have q4:F.cell? ⟨w.heap.size,4,none⟩=some (.slice none 0 0):=HE.out.cell 4
  have q5:F.cell? ⟨w.heap.size,5,none⟩=some (.slice none 0 0):=HE.out.cell 5
  simp[bodyPost,results,Tryz.results123,go_sem,q0,q1,q2,q3,q4,q5]
  exact⟨Or.inr ⟨HF.out,rfl⟩,(B1.out).trans (HU.out.below (Nat.le_refl _))⟩
 have HF:Hid (D.full b (D.chain b)=some _):=D.full_some (by rw[hl.out];exact h8) (by rw[HLAST.out,ho];rfl)
 have R1:=hide (R0.out.below hb1 (by simp))
 have B1:=hide (B0.out.trans (hb1.mono (by simp)))
 obtain⟨at_,ct,rfl,_,_,_⟩:=hO.open
 have OT:=hide (OwnH.lower (base':=w.heap.size) hO (by simp))
 have e0:wa.cell? ⟨blk,of,none⟩=some (.int .u8 (x0:Int)):=(B1.out.cell (p:=⟨blk,of,none⟩) hblt).trans C0.out
 have e1:wa.cell? ⟨blk,of+1,none⟩=some (.int .u8 (x1:Int)):=(B1.out.cell (p:=⟨blk,of+1,none⟩) hblt).trans C1.out
 clear ho hO hb1 R0 B0 HLAST HNO S0 t0 e4 eI
 go_wp2
 go_region_held3 (fun w'=>w'.cell? ⟨blk,of,none⟩=some (.int .u8 (x0:Int))/\w'.cell? ⟨blk,of+1,none⟩=some (.int .u8 (x1:Int))) ((first | (with_reducible exact⟨m05,m15⟩) | (simp only[cell_far hbne,m05,m15,and_self];done) | (with_reducible exact⟨m04,m14⟩) | exact⟨e0,e1⟩)) ((first
  | (refine step_fn 158 #[.tmp 60] _ rfl rfl #[.slice (some d1) 2 (cap - 2)] (by go_simp) (g1 _ (by first | exact B1.out.drew | exact B4.out | exact B5.out)) (by rintro e w' ⟨rfl,_⟩;exact⟨_,rfl⟩) ?_;rintro v w' ⟨he,rfl⟩;cases he)
  | (refine step_append_B rfl (.const (.slice none 0 0)) (.tmp 65) rfl w.heap.size (.slice none 0 0) [] rfl (OwnB.nil _ _) d2 x4 (cap - 5) sa (by first | (simp[Act.eval];done) | rfl) l2.out (by exact S2.out.below B1.out.drew (Nat.le_refl _)) (by simp;omega) (by exact B1.out.size) ?_;intro v4 w4 hO4 hG4;obtain⟨a4,c4,rfl,_,_,_⟩:=hO4.open;have hN4:=nil_grown hG4;have B4:=hide (B1.out.trans (hN4.mono B1.out.size));have R4:=hide (R1.out.below hN4 R1.out.lt);have OT4:=hide (OT.out.below hN4);have m04:w4.cell? ⟨blk,of,none⟩=some (.int .u8 (x0:Int)):=(B4.out.cell (p:=⟨blk,of,none⟩) hblt).trans C0.out;have m14:w4.cell? ⟨blk,of+1,none⟩=some (.int .u8 (x1:Int)):=(B4.out.cell (p:=⟨blk,of+1,none⟩) hblt).trans C1.out;have OA4:=hide hO4;clear hO4 hG4 hN4)
  | (refine step_append_B rfl (.const (.slice none 0 0)) (.tmp 71) rfl w.heap.size (.slice none 0 0) [] rfl (OwnB.nil _ _) d3 xi (cap - J) sn (by first | (simp[Act.eval];done) | rfl) l3.out (by exact S3.out.below B4.out (Nat.le_refl _)) (by simp;omega) (by exact B4.out.size) ?_;intro v5 w5 hO5 hG5;obtain⟨a5,c5,rfl,_,_,_⟩:=hO5.open;have hN5:=nil_grown0 hG5;have B5:=hide (B4.out.trans (hN5.mono B4.out.size));have R5:=hide (R4.out.below hN5 R4.out.lt);have OT5:=hide (OT4.out.below hN5);have OA5:=hide (OA4.out.below hN5);have m05:w5.cell? ⟨blk,of,none⟩=some (.int .u8 (x0:Int)):=(B5.out.cell (p:=⟨blk,of,none⟩) hblt).trans C0.out;have m15:w5.cell? ⟨blk,of+1,none⟩=some (.int .u8 (x1:Int)):=(B5.out.cell (p:=⟨blk,of+1,none⟩) hblt).trans C1.out;have OB5:=hide hO5;obtain⟨k0,k1,k2,k3,k4,k5,f0,f1,f2,f3,f4,f5⟩:=row_facts6 R5.out;clear hO5 hG5 hN5)))
 all_goals
  have E0:=hide R5.out
  have E1:Hid (RowAt _ w.heap.size 183 #[.int .u8 (x0:Int),.int .u8 0,.int .u16 0,.slice none 0 0,.slice none 0 0,.slice none 0 0]):=E0.out.set 0 (.int .u8 (x0:Int))
  have E2:Hid (RowAt _ w.heap.size 183 #[.int .u8 (x0:Int),.int .u8 (x1:Int),.int .u16 0,.slice none 0 0,.slice none 0 0,.slice none 0 0]):=E1.out.set 1 (.int .u8 (x1:Int))
  have E3:Hid (RowAt _ w.heap.size 183 #[.int .u8 (x0:Int),.int .u8 (x1:Int),.int .u16 (y1:Int),.slice none 0 0,.slice none 0 0,.slice none 0 0]):=E2.out.set 2 (.int .u16 (y1:Int))
  have E4:Hid (RowAt _ w.heap.size 183 #[.int .u8 (x0:Int),.int .u8 (x1:Int),.int .u16 (y1:Int),.slice a4 sa.length c4,.slice none 0 0,.slice none 0 0]):=E3.out.set 3 (.slice a4 sa.length c4)
  have E5:Hid (RowAt _ w.heap.size 183 #[.int .u8 (x0:Int),.int .u8 (x1:Int),.int .u16 (y1:Int),.slice a4 sa.length c4,.slice a5 sn.length c5,.slice none 0 0]):=E4.out.set 4 (.slice a5 sn.length c5)
  have E6:Hid (RowAt _ w.heap.size 183 #[.int .u8 (x0:Int),.int .u8 (x1:Int),.int .u16 (y1:Int),.slice a4 sa.length c4,.slice a5 sn.length c5,.slice at_ m.length ct]):=E5.out.set 5 (.slice at_ m.length ct)
  have HU:Hid (Upd w.heap.size w5 _):=(((((((Upd.refl w.heap.size w5).set 0 (.int .u8 (x0:Int))).set 1 (.int .u8 (x1:Int))).set 2 (.int .u16 (y1:Int))).set 3 (.slice a4 sa.length c4)).set 4 (.slice a5 sn.length c5)).set 5 (.slice at_ m.length ct))
  have HE:Hid (RowAt _ w.heap.size 183 #[.int .u8 (x0:Int),.int .u8 (x1:Int),.int .u16 (y1:Int),.slice a4 sa.length c4,.slice a5 sn.length c5,.slice at_ m.length ct]):=E6.out
  clear E0 E1 E2 E3 E4 E5 E6
  go_wp2
  obtain⟨F,hwo⟩ : ∃ F,F=wof HE.out:=⟨_,rfl⟩
  unfold wof at hwo
  rw[<- hwo] at HE HU ⊢
  clear hwo
  have q0:F.cell? ⟨w.heap.size,0,none⟩=some (.int .u8 (x0:Int)):=HE.out.cell 0
  have q1:F.cell? ⟨w.heap.size,1,none⟩=some (.int .u8 (x1:Int)):=HE.out.cell 1
  have q2:F.cell? ⟨w.heap.size,2,none⟩=some (.int .u16 (y1:Int)):=HE.out.cell 2
  have q3:F.cell? ⟨w.heap.size,3,none⟩=some (.slice a4 sa.length c4):=HE.out.cell 3
  have q4:F.cell? ⟨w.heap.size,4,none⟩=some (.slice a5 sn.length c5):=HE.out.cell 4
  have q5:F.cell? ⟨w.heap.size,5,none⟩=some (.slice at_ m.length ct):=HE.out.cell 5
  simp[bodyPost,results,Tryz.results123,go_sem,q0,q1,q2,q3,q4,q5]
  exact⟨Or.inl ⟨_,_,HF.out,rfl,⟨_,_,_,_,_,_,rfl,HU.out.own R5.out (by decide) OA5.out,HU.out.own R5.out (by decide) OB5.out,HU.out.own R5.out (by decide) OT5.out⟩⟩,(B5.out).trans (HU.out.below (Nat.le_refl _))⟩
end Go.Proofs.YtmbcegljmhcdeaaGreat
