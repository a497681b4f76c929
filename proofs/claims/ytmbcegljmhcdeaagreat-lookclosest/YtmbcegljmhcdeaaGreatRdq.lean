/- The reference's Drop, plain. -/
import Derived.Test.YtmbcegljmhcdeaaGreatZlw
import Derived.Test.YtmbcegljmhcdeaaGreatRefZ
import Derived.Deep.RegionHeld3
import Derived.Deep.Cut
import Derived.Deep.AppendSrc
namespace Go.Proofs.YtmbcegljmhcdeaaGreat
set_option maxRecDepth 5000
open Go.RowKit
def canS (t:Nat) (d:List UInt8):List UInt8:=(cn t d).getD d
theorem mcanon_any (t:Nat) (d:List UInt8) (ao:Option Addr) (len cap:Nat) (w:World) (hl:Hid (d.length=len)) (hs:SlL w ao d) (hc:len<=cap) (hnil:ao=none->cap=0) (h8:len<=8192) :
 Calls Tryz.prog 94 #[.int .u16 (t:Int),.slice ao len cap] w fun e w'=>e = .returned (.string ⟨(canS t d).toArray⟩)/\Below w.heap.size w w':=by
 have hcall:=sCanon_any t d ao len cap w hl hs hc hnil h8
 have HS:=hide hs
 cases hcn:cn t d with
 | none =>
  have e:canS t d=d:=by unfold canS;rw[hcn];rfl
  rw[e]
  clear hs e
  go_enter Tryz.func94,Tryz.ntmps94
  go_wp2_with (go_at_call 125;refine hcall.mono ?_;rintro e w1 ⟨⟨x,v,ho,_⟩ | ⟨_,rfl⟩,hb⟩;(· exact absurd (hcn.symm.trans ho) (by simp));have hcv:=run_str len cap (HS.out.below hb (Nat.le_refl _)) hl.out)
  go_ret
  exact⟨rfl,hb⟩
 | some c =>
  have e:canS t d=c:=by unfold canS;rw[hcn];rfl
  rw[e]
  clear hs e
  go_enter Tryz.func94,Tryz.ntmps94
  go_wp2_with (go_at_call 125;refine hcall.mono ?_;rintro e w1 ⟨⟨x,v,ho,rfl,hx⟩ | ⟨ho,_⟩,hb⟩;rotate_left;(· exact absurd (hcn.symm.trans ho) (by simp));(obtain rfl:c=x:=Option.some.inj (hcn.symm.trans ho));obtain⟨ca,cc,rfl,hcT,_,hcc⟩:=OwnB.ty hx;have hcv:=run_str c.length cc hcT.1 rfl)
  go_ret
  exact⟨rfl,hb⟩
def ordV (n1 n2:List (List UInt8)) (t1 t2:Nat) (x y:List UInt8):Int:=if N.cmpN n1 n2≠0 then N.cmpN n1 n2 else if t1≠t2 then (if t1<t2 then -1 else 1) else N.cmpB x y
set_option maxHeartbeats 1000000 in
theorem morder_any (n1 n2:List (List UInt8)) (a1 a2:Option Addr) (l1 l2 c1 c2 t1 t2:Nat) (k1 k2:Int) (s1 s2:Int) (d1 d2:List UInt8) (b1 b2:Option Addr) (m1 m2 e1 e2:Nat) (w:World) (h1:Hid (n1.length=l1)) (h2:Hid (n2.length=l2)) (hs1:SlS w a1 n1) (hs2:SlS w a2 n2) (hm1:Hid (N.Small n1)) (hm2:Hid (N.Small n2))
 (hd1:Hid (d1.length=m1)) (hd2:Hid (d2.length=m2)) (hb1:SlL w b1 d1) (hb2:SlL w b2 d2) (hc1:m1<=e1) (hc2:m2<=e2) (hn1:b1=none->e1=0) (hn2:b2=none->e2=0) (h81:m1<=8192) (h82:m2<=8192) :
 Calls Tryz.prog 90 #[.agg #[.slice a1 l1 c1,.int .u16 (t1:Int),.int .u16 k1,.int .u32 s1,.slice b1 m1 e1],.agg #[.slice a2 l2 c2,.int .u16 (t2:Int),.int .u16 k2,.int .u32 s2,.slice b2 m2 e2]] w fun e w'=>e = .returned (.int .i64 (ordV n1 n2 t1 t2 (canS t1 d1) (canS t2 d2)))/\Below w.heap.size w w':=by
 obtain⟨wB,hwB⟩ : ∃ wB,wB=(w.alloc (.cells #[.slice a1 l1 c1,.int .u16 (t1:Int),.int .u16 k1,.int .u32 s1,.slice b1 m1 e1] 39)).alloc (.cells #[.slice a2 l2 c2,.int .u16 (t2:Int),.int .u16 k2,.int .u32 s2,.slice b2 m2 e2] 39):=⟨_,rfl⟩
 have hr1:RowAt wB w.heap.size 39 #[.slice a1 l1 c1,.int .u16 (t1:Int),.int .u16 k1,.int .u32 s1,.slice b1 m1 e1]:=by rw[hwB];exact (RowAt.new w _ _).alloc _
 have hr2:RowAt wB (w.heap.size+1) 39 #[.slice a2 l2 c2,.int .u16 (t2:Int),.int .u16 k2,.int .u32 s2,.slice b2 m2 e2]:=by
  rw[hwB]
  have:=RowAt.new (w.alloc (.cells #[.slice a1 l1 c1,.int .u16 (t1:Int),.int .u16 k1,.int .u32 s1,.slice b1 m1 e1] 39)) 39 #[.slice a2 l2 c2,.int .u16 (t2:Int),.int .u16 k2,.int .u32 s2,.slice b2 m2 e2]
  rw[World.size_alloc] at this
  exact this
 have hb:Below w.heap.size w wB:=by rw[hwB];exact ((Below.refl _ w).alloc (Nat.le_refl _) _).alloc (by simp) _
 have hcmp:=rCompare_any n1 n2 a1 a2 l1 l2 c1 c2 wB h1 h2 (hs1.below hb (Nat.le_refl _)) (hs2.below hb (Nat.le_refl _)) (by rw[<- h1.out];exact hm1.out.1) (by rw[<- h2.out];exact hm2.out.1) (Sane.small hm1.out) (Sane.small hm2.out)
 have HR1:=hide hr1
 have HR2:=hide hr2
 have HB:=hide hb
 have HW:=hide hwB
 have HB1:=hide (hb1.below hb (Nat.le_refl _))
 have HB2:=hide (hb2.below hb (Nat.le_refl _))
 clear hr1 hr2 hb hwB hb1 hb2 hs1 hs2
 obtain⟨q,hq⟩ : ∃ q,q=N.cmpN n1 n2:=⟨_,rfl⟩
 rw[<- hq] at hcmp
 unfold ordV
 rw[<- hq]
 clear hq
 have z1:wB.cell? ⟨w.heap.size,0,none⟩=some (.slice a1 l1 c1):=HR1.out.cell 0
 have z2:wB.cell? ⟨w.heap.size+1,0,none⟩=some (.slice a2 l2 c2):=HR2.out.cell 0
 by_cases hq:q=0
 ·have hqb:(q != 0)=false:=by simp[hq]
  by_cases ht:t1=t2
  ·have htb:((t1:Int) != (t2:Int))=false:=by simp[ht]
   rw[if_neg (by simp[hq]),if_neg (by simp[ht])]
   have HQ:=hide hq
   have HT:=hide ht
   clear hq ht
   obtain⟨X,hX⟩ : ∃ X,X=canS t1 d1:=⟨_,rfl⟩
   obtain⟨Y,hY⟩ : ∃ Y,Y=canS t2 d2:=⟨_,rfl⟩
   rw[<- hX, <- hY]
   have hcn1:=fun W hW=>mcanon_any t1 d1 b1 m1 e1 W hd1 hW hc1 hn1 h81
   have hcn2:=fun W hW=>mcanon_any t2 d2 b2 m2 e2 W hd2 hW hc2 hn2 h82
   rw[<- hX] at hcn1
   rw[<- hY] at hcn2
   obtain⟨V,hV⟩ : ∃ V:Int,V=N.cmpB X Y:=⟨_,rfl⟩
   rw[<- hV]
   have HV:=hide hV
   clear hV
   have HC1:=hide hcn1
   have HC2:=hide hcn2
   clear hX hY hcn1 hcn2
   go_enter Tryz.func90,Tryz.ntmps90
   go_upto_region 8 with (go_at_call 124;rw[<- HW.out];refine hcmp.mono ?_;rintro e w1 ⟨rfl,hb1⟩;have x1:w1.cell? ⟨w.heap.size,1,none⟩=some (.int .u16 (t1:Int)):=(HR1.out.below hb1 HR1.out.lt).cell 1;have x2:w1.cell? ⟨w.heap.size+1,1,none⟩=some (.int .u16 (t2:Int)):=(HR2.out.below hb1 HR2.out.lt).cell 1)
   have hr1:=HR1.out.below hb1 HR1.out.lt
   have hr2:=HR2.out.below hb1 HR2.out.lt
   have x4:w1.cell? ⟨w.heap.size,4,none⟩=some (.slice b1 m1 e1):=hr1.cell 4
   have y4:w1.cell? ⟨w.heap.size+1,4,none⟩=some (.slice b2 m2 e2):=hr2.cell 4
   have SB1:=hide (HB1.out.below hb1 (Nat.le_refl _))
   have SB2:=hide (HB2.out.below hb1 (Nat.le_refl _))
   have HRa:=hide hr1
   have HRb:=hide hr2
   have HBW:=hide (HB.out.trans (hb1.mono HB.out.size))
   clear hr1 hr2 hb1
   have hT1:True:=trivial
   go_cut [6,7] from 8 (fun s6 s7 wc=>s6 = .string ⟨X.toArray⟩/\s7 = .string ⟨Y.toArray⟩/\Below w.heap.size w wc)
   case first =>
    go_region_held3 (fun w'=>w'.cell? ⟨w.heap.size,1,none⟩=some (.int .u16 (t1:Int))/\w'.cell? ⟨w.heap.size,4,none⟩=some (.slice b1 m1 e1)/\w'.cell? ⟨w.heap.size+1,1,none⟩=some (.int .u16 (t2:Int))/\w'.cell? ⟨w.heap.size+1,4,none⟩=some (.slice b2 m2 e2)) (first | exact⟨x1,x4,x2,y4⟩ | exact⟨u1,u4,u2,v4⟩ | exact⟨p1,p4,p2,q4⟩) ((first
     | (go_at_call 94;have hb3q:=HB3.out;clear hb3q;refine (HC2.out _ (by exact SB2c.out)).mono ?_;rintro e w4 ⟨rfl,hb4⟩;have hb4:Below w3.heap.size w3 w4:=(by first | exact hb4 | exact (below_drewN (Below.refl _ w3) 1).trans hb4);have hra:=HRa3.out.below hb4 HRa3.out.lt;have hrb:=HRb3.out.below hb4 HRb3.out.lt;have p1:w4.cell? ⟨w.heap.size,1,none⟩=some (.int .u16 (t1:Int)):=hra.cell 1;have p4:w4.cell? ⟨w.heap.size,4,none⟩=some (.slice b1 m1 e1):=hra.cell 4;have p2:w4.cell? ⟨w.heap.size+1,1,none⟩=some (.int .u16 (t2:Int)):=hrb.cell 1;have q4:w4.cell? ⟨w.heap.size+1,4,none⟩=some (.slice b2 m2 e2):=hrb.cell 4;have HB4:=hide hb4;clear hb4 hra hrb)
     | (go_at_call 94;have hT1q:=hT1;clear hT1q hT1;refine (HC1.out _ (by exact SB1.out)).mono ?_;rintro e w3 ⟨rfl,hb3⟩;have hb3:Below w1.heap.size w1 w3:=(by first | exact hb3 | exact (below_drewN (Below.refl _ w1) 1).trans hb3);have HRa3:=hide (HRa.out.below hb3 HRa.out.lt);have HRb3:=hide (HRb.out.below hb3 HRb.out.lt);have SB2c:=hide (SB2.out.below hb3 (Nat.le_refl _));have u1:w3.cell? ⟨w.heap.size,1,none⟩=some (.int .u16 (t1:Int)):=HRa3.out.cell 1;have u4:w3.cell? ⟨w.heap.size,4,none⟩=some (.slice b1 m1 e1):=HRa3.out.cell 4;have u2:w3.cell? ⟨w.heap.size+1,1,none⟩=some (.int .u16 (t2:Int)):=HRb3.out.cell 1;have v4:w3.cell? ⟨w.heap.size+1,4,none⟩=some (.slice b2 m2 e2):=HRb3.out.cell 4;have HB3:=hide hb3;clear hb3)))
    all_goals go_wp2_with fail
    all_goals go_meet
    all_goals exact⟨rfl,rfl,HBW.out.trans ((HB3.out.trans (HB4.out.mono HB3.out.size)).mono HBW.out.size)⟩
   case rest =>
    obtain⟨rfl,rfl,hbc⟩:=hcut
    go_wp2
    ·rename_i h
     rw[N.less_is] at h
     have hv:V = -1:=by rw[HV.out];simpa using h
     rw[hv]
     go_ret
     exact⟨rfl,hbc⟩
    ·rename_i h h'
     rw[N.less_is] at h
     have hn1:N.cmpB X Y ≠ -1:=by simpa using h
     have hn0:N.cmpB X Y≠0:=fun e=>by rw[N.cmpB_zero.1 e] at h';simp at h'
     have hbd:=N.cmpB_bounds X Y
     have hv:V=1:=by rw[HV.out];omega
     rw[hv]
     go_ret
     exact⟨rfl,hbc⟩
    ·rename_i h h'
     have hXY:X=Y:=by simpa using h'
     have hv:V=0:=by rw[HV.out];exact N.cmpB_zero.2 hXY
     rw[hv]
     go_ret
     exact⟨rfl,hbc⟩
  ·have htb:((t1:Int) != (t2:Int))=true:=by simp;omega
   rw[if_neg (by simp[hq]),if_pos ht]
   by_cases hlt:t1<t2
   ·have hlb:((t1:Int)<(t2:Int)):=by omega
    rw[if_pos hlt]
    clear ht hq
    go_enter Tryz.func90,Tryz.ntmps90
    go_wp2_with (go_at_call 124;rw[<- HW.out];refine hcmp.mono ?_;rintro e w1 ⟨rfl,hb1⟩;have x1:w1.cell? ⟨w.heap.size,1,none⟩=some (.int .u16 (t1:Int)):=(HR1.out.below hb1 HR1.out.lt).cell 1;have x2:w1.cell? ⟨w.heap.size+1,1,none⟩=some (.int .u16 (t2:Int)):=(HR2.out.below hb1 HR2.out.lt).cell 1)
    go_ret
    exact⟨rfl,HB.out.trans (hb1.mono HB.out.size)⟩
   ·have hlb:decide ((t1:Int)<(t2:Int))=false:=by simp;omega
    rw[if_neg hlt]
    clear ht hq
    go_enter Tryz.func90,Tryz.ntmps90
    go_wp2_with (go_at_call 124;rw[<- HW.out];refine hcmp.mono ?_;rintro e w1 ⟨rfl,hb1⟩;have x1:w1.cell? ⟨w.heap.size,1,none⟩=some (.int .u16 (t1:Int)):=(HR1.out.below hb1 HR1.out.lt).cell 1;have x2:w1.cell? ⟨w.heap.size+1,1,none⟩=some (.int .u16 (t2:Int)):=(HR2.out.below hb1 HR2.out.lt).cell 1)
    go_ret
    exact⟨rfl,HB.out.trans (hb1.mono HB.out.size)⟩
 ·have hqb:(q != 0)=true:=by simp[hq]
  rw[if_pos hq]
  clear hq
  go_enter Tryz.func90,Tryz.ntmps90
  go_wp2_with (go_at_call 124;rw[<- HW.out];refine hcmp.mono ?_;rintro e w1 ⟨rfl,hb1⟩;have x1:w1.cell? ⟨w.heap.size,1,none⟩=some (.int .u16 (t1:Int)):=(HR1.out.below hb1 HR1.out.lt).cell 1;have x2:w1.cell? ⟨w.heap.size+1,1,none⟩=some (.int .u16 (t2:Int)):=(HR2.out.below hb1 HR2.out.lt).cell 1)
  go_ret
  exact⟨rfl,HB.out.trans (hb1.mono HB.out.size)⟩
theorem ordV_cmpK (n1 n2:List (List UInt8)) (t1 t2:Nat) (x y:List UInt8) (s1 s2:Nat) (d1 d2:List UInt8):ordV n1 n2 t1 t2 x y=Z.cmpK ⟨path n1,t1,x,s1,d1⟩ ⟨path n2,t2,y,s2,d2⟩:=by
 have e:N.cmpR (path n1) (path n2)=N.cmpN n1 n2:=by
  unfold path N.cmpN
  have e1:(N.lowN n1).reverse=N.lowN n1.reverse:=(List.map_reverse).symm
  have e2:(N.lowN n2).reverse=N.lowN n2.reverse:=(List.map_reverse).symm
  rw[e1,e2,N.cmpR_lowN,N.cmpR_neg,N.cmpR_lowN, <- N.cmpR_neg]
 unfold ordV Z.cmpK
 rw[e]
 by_cases h:N.cmpN n1 n2=0
 ·rw[if_neg (by simp[h]),if_pos h]
  by_cases ht:t1=t2
  ·rw[if_neg (by simp[ht]),if_pos ht]
  ·rw[if_pos ht,if_neg ht]
 ·rw[if_pos h,if_neg h]
open Go.RowKit
def RL (w:World) (base:Nat) (a:Option Addr) (c:Nat) (L:List Z.R):Prop :=
 L.length<=c/\(a=none->c=0)/\(0<L.length -> ∃ g cur,a=some ⟨g,0,none⟩/\base<=g/\w.heap[g]?=some (Obj.cells cur 39) /\ ∀ j x,L[j]?=some x -> ∃ us,us.length=5/\(∀ u∈us,u.oneCell'=true)/\ER w x us /\ ∀ t,t<5->w.cell? ⟨g,j*5+t,none⟩=us[t]?)
theorem RL.nil (w:World) (base:Nat) (a:Option Addr) (c:Nat) (h:a=none->c=0):RL w base a c []:=⟨Nat.zero_le _,h,fun h=>absurd h (by simp)⟩
theorem RL.of_own {w:World} {base n c:Nat} {a:Option Addr} {L:List Z.R} (h:OwnL 39 5 ER w base (.slice a n c) L):RL w base a c L:=by
 obtain⟨a',c',e,h1,h2⟩:=h.slice
 injection e with e1 e2 e3
 subst e1;subst e2;subst e3
 refine⟨h2,h1,fun hn=>?_⟩
 obtain⟨vss,hv,hE⟩:=h
 rcases hv.2 with⟨_,h3⟩ | ⟨g,cap,cur,e,h3,h4,h5⟩
 ·omega
 ·injection e with e1 e2 e3
  subst e1;subst e3
  refine⟨g,cur,rfl,h3,h4,fun j x hx=>?_⟩
  have hj:j<vss.length:=by rw[hE.len];exact (List.getElem?_eq_some_iff.1 hx).1
  obtain⟨k1,k2,k3⟩:=hE.el j x vss[j] hx (List.getElem?_eq_getElem hj)
  refine⟨vss[j],k1,k2,k3,fun t ht=>?_⟩
  have hfl:=flat_get vss (fun us hus=>(hE.sizes).1 us hus) j t vss[j] (List.getElem?_eq_getElem hj) ht
  have hlen:=hE.sizes.2.2
  rw[World.ownsRow.cellAt hv (j*5+t) (by have:j<L.length:=(List.getElem?_eq_some_iff.1 hx).1;omega)]
  exact hfl
theorem RL.kx {w w':World} {base c:Nat} {a:Option Addr} {L:List Z.R} (h:RL w base a c L) (hk:KB w w') (hb : ∀ g cur,base<=g->w.heap[g]?=some (Obj.cells cur 39)->a=some ⟨g,0,none⟩->w'.heap[g]?=w.heap[g]?):RL w' base a c L:=by
 refine⟨h.1,h.2.1,fun hn=>?_⟩
 obtain⟨g,cur,e,h1,h2,h3⟩:=h.2.2 hn
 have hg:=hb g cur h1 h2 e
 refine⟨g,cur,e,h1,hg.trans h2,fun j x hx=>?_⟩
 obtain⟨us,k1,k2,k3,k4⟩:=h3 j x hx
 exact⟨us,k1,k2,k3.kb hk,fun t ht=>by rw[<- k4 t ht];exact World.cell?_of_block hg⟩
theorem RL.bel {w w':World} {base c:Nat} {a:Option Addr} {L:List Z.R} (h:RL w base a c L) (hb:Below w.heap.size w w'):RL w' base a c L :=
 h.kx (KB.of_below hb) fun g _ _ hg _=>hb.block g (Array.getElem?_eq_some_iff.1 hg).1
theorem RL.at_ {w:World} {base c:Nat} {a:Option Addr} {L:List Z.R} (h:RL w base a c L) {j:Nat} {x:Z.R} (hx:L[j]?=some x) : ∃ g na nc da dc,a=some ⟨g,0,none⟩/\w.cell? ⟨g,j*5,none⟩=some (.slice na x.p.length nc)/\w.cell? ⟨g,j*5+1,none⟩=some (.int .u16 (x.t:Int))/\w.cell? ⟨g,j*5+2,none⟩=some (.int .u16 1)/\w.cell? ⟨g,j*5+3,none⟩=some (.int .u32 (x.ttl:Int))/\w.cell? ⟨g,j*5+4,none⟩=some (.slice da x.d.length dc) /\
 TyS w na x.p.reverse/\x.p.length<=nc/\(na=none->nc=0)/\TyL w da x.d/\(da=none->dc=0)/\x.d.length<=dc:=by
 have hj:j<L.length:=(List.getElem?_eq_some_iff.1 hx).1
 obtain⟨g,cur,e,_,_,h3⟩:=h.2.2 (by omega)
 obtain⟨us,_,_,⟨na,nc,da,dc,rfl,k⟩,k4⟩:=h3 j x hx
 exact⟨g,na,nc,da,dc,e,k4 0 (by omega),k4 1 (by omega),k4 2 (by omega),k4 3 (by omega),k4 4 (by omega),k⟩
structure RZAt (w:World) (base m:Nat) (A:List (List UInt8)) (L:List Z.R):Prop where
 row : ∃ aa ac a c,RowAt w m 33 #[.slice aa A.length ac,.slice a L.length c]/\SlS w aa A/\A.length<=ac/\RL w base a c L
 rise:L.Pairwise Z.rlt
 lows:Z.Lows L
 num:L.length<=2000
 thin:Z.Thin L
 okk : ∀ x∈L,x.t<65536/\x.ttl<4294967296/\cn x.t x.d=some x.c/\x.d.length<=8192/\x.p.length<=128
 even : ∀ x∈L,∀ y∈L,x.p=y.p->x.t=y.t->x.ttl=y.ttl
theorem RZAt.bel {w w':World} {base m:Nat} {A:List (List UInt8)} {L:List Z.R} (h:RZAt w base m A L) (hb:Below w.heap.size w w'):RZAt w' base m A L:=by
 obtain⟨aa,ac,a,c,h1,h2,h3,h4⟩:=h.row
 exact { h with row:=⟨aa,ac,a,c,h1.below hb h1.lt,h2.below hb (Nat.le_refl _),h3,h4.bel hb⟩ }
theorem RZAt.small {w:World} {base m:Nat} {A:List (List UInt8)} {L:List Z.R} (h:RZAt w base m A L) {x:Z.R} (hx:x∈L):N.Small x.p.reverse:=by
 have h1:=(h.okk x hx).2.2.2.2
 refine⟨by rw[List.length_reverse];omega,fun l hl=>?_⟩
 have:=h.thin x hx l (by simpa using hl)
 omega
theorem within_path {p n:List (List UInt8)} (hp:Z.Low p):N.within p.reverse n=(path n).isPrefixOf p:=by
 rw[Bool.eq_iff_iff,N.within_iff,List.isPrefixOf_iff_prefix]
 have e1:N.lowN n.reverse=path n:=by unfold path;exact List.map_reverse
 unfold Z.Low at hp
 rw[e1,List.reverse_reverse,hp]
theorem same_path {p n:List (List UInt8)} (hp:Z.Low p):N.same p.reverse n=decide (p=path n):=by
 unfold N.same
 unfold Z.Low at hp
 have e1:N.lowN p.reverse=p.reverse:=by
  have:N.lowN p.reverse=(N.lowN p).reverse:=List.map_reverse
  rw[this,hp]
 rw[e1]
 by_cases h:p=path n
 ·rw[h];unfold path;simp
 ·have h2 : ¬ p.reverse=N.lowN n:=fun e=>h (by unfold path;rw[<- e,List.reverse_reverse])
  simp[h,h2]
set_option maxHeartbeats 1000000 in
theorem mHas_any (w:World) (base m:Nat) (A:List (List UInt8)) (L:List Z.R) (hR:RZAt w base m A L) (n:List (List UInt8)) (ao:Option Addr) (len cap:Nat) (hl:Hid (n.length=len)) (hs:SlS w ao n) (hm:Hid (N.Small n)) :
 Calls Tryz.prog 31 #[.pointer (some ⟨m,0,none⟩),.slice ao len cap] w fun e w'=>e = .returned (.bool (Z.has L (path n)))/\Below w.heap.size w w':=by
 obtain⟨aa,ac,a,c,hrow,_,_,hRL⟩:=hR.row
 obtain⟨k,hk⟩ : ∃ k,k=L.length:=⟨_,rfl⟩
 rw[<- hk] at hrow
 have hkb:k<=2000:=by rw[hk];exact hR.num
 obtain⟨V,hV⟩ : ∃ V,V=Z.has L (path n):=⟨_,rfl⟩
 rw[<- hV]
 have HR:=hide hR
 have HRL:=hide hRL
 have HROW:=hide hrow
 have HK:=hide hk
 have HV:=hide hV
 have HS:=hide hs
 clear hR hRL hrow hk hV hs
 go_enter Tryz.func31,Tryz.ntmps31
 go_wp2
 go_loopw [5] (fun i wr => ∃ j:Nat,i = .int .i64 (j:Int)/\j<=k/\Below w.heap.size w wr /\ ∀ i x,i<j->L[i]?=some x->(path n).isPrefixOf x.p=false) (fun i _=>k - (intOf i).toNat)
 case atStart=>exact⟨0,rfl,by omega,Below.refl _ _,fun i x hi=>absurd hi (Nat.not_lt_zero i)⟩
 case round =>
  obtain⟨j,rfl,hj,hB,hno⟩:=hrel
  have y1:wr.cell? ⟨m,1,none⟩=some (.slice a k c):=(HROW.out.below hB HROW.out.lt).cell 1
  have HB:=hide hB
  have HNO:=hide hno
  clear hB hno
  by_cases hlt:j<k
  ·have hjL:j<L.length:=by have:=HK.out;omega
   obtain⟨x,hx⟩ : ∃ x,L[j]?=some x:=⟨_,List.getElem?_eq_getElem hjL⟩
   have hxL:x∈L:=List.mem_of_getElem? hx
   obtain⟨g,na,nc,da,dc,rfl,q0,q1,q2,q3,q4,hT,hnc,_⟩:=(HRL.out.bel HB.out).at_ hx
   have hwi:=rWithin_any x.p.reverse n na ao x.p.length len nc cap wr (hide (List.length_reverse)) hl hT.1 (HS.out.below HB.out (Nat.le_refl _)) (by have:=(HR.out.okk x hxL).2.2.2.2;omega) hnc (Sane.small (HR.out.small hxL)) (Sane.small hm.out)
   rw[within_path (HR.out.lows x hxL)] at hwi
   obtain⟨pl,hpl⟩ : ∃ pl,pl=x.p.length:=⟨_,rfl⟩
   rw[<- hpl] at q0 hwi
   obtain⟨V2,hV2⟩ : ∃ V2,V2=(path n).isPrefixOf x.p:=⟨_,rfl⟩
   rw[<- hV2] at hwi
   have HV2:=hide hV2
   have HX:=hide hx
   clear hV2 hx hpl q1 q2 q3 q4 hT
   cases V2 with
   | true =>
    have hv:V=true:=by rw[HV.out,Z.has_iff];exact⟨x,hxL,List.isPrefixOf_iff_prefix.1 HV2.out.symm⟩
    subst hv
    go_wp2_with (go_at_call 64;refine hwi.mono ?_;rintro e w2 ⟨rfl,hB2⟩)
    go_ret
    exact⟨rfl,HB.out.trans (hB2.mono HB.out.size)⟩
   | false =>
    go_wp2_with (go_at_call 64;refine hwi.mono ?_;rintro e w2 ⟨rfl,hB2⟩)
    refine⟨⟨j+1,by go_num,by omega,HB.out.trans (hB2.mono HB.out.size),fun i y hi hy=>?_⟩,by simp[intOf];omega⟩
    by_cases e:i=j
    ·rw[e,HX.out] at hy;injection hy with hy;rw[<- hy];exact HV2.out.symm
    ·exact HNO.out i y (by omega) hy
  ·obtain rfl:j=k:=by omega
   have hv:V=false:=by
    rw[HV.out]
    cases h:Z.has L (path n) with
    | false=>rfl
    | true =>
     obtain⟨x,hxL,hp⟩:=Z.has_iff.1 h
     obtain⟨i,hi,e⟩:=List.getElem_of_mem hxL
     have:=HNO.out i x (by have:=HK.out;omega) (by rw[List.getElem?_eq_getElem hi,e])
     rw[List.isPrefixOf_iff_prefix.2 hp] at this;cases this
   subst hv
   go_wp2
   go_ret
   exact⟨rfl,HB.out⟩
open Go.RowKit
structure RM (base m:Nat) (w w':World):Prop where
 os:w'.os=w.os
 tape:w'.tape=w.tape
 output:w'.output=w.output
 size:w.heap.size<=w'.heap.size
 keep : ∀ i,i<w.heap.size->i≠m->(i<base \/ ∀ (cur:Array Value) (fr:Nat × Nat),w.heap[i]?≠some (Obj.cells cur 39 fr))->w'.heap[i]?=w.heap[i]?
 sl : ∀ ao l,SlL w ao l->SlL w' ao l
 ss : ∀ ao l,SlS w ao l->SlS w' ao l
theorem RM.of_below {base m:Nat} {w w':World} (h:Below w.heap.size w w'):RM base m w w':=⟨h.os,h.tape,h.output,h.size,fun i hi _ _=>h.block i hi,fun _ _ hs=>hs.below h (Nat.le_refl _),fun _ _ hs=>hs.below h (Nat.le_refl _)⟩
theorem RM.trans {base m:Nat} {a b c:World} (h:RM base m a b) (k:RM base m b c):RM base m a c :=
 ⟨k.os.trans h.os,k.tape.trans h.tape,k.output.trans h.output,Nat.le_trans h.size k.size,fun i hi h1 h2=>by
  have e:=h.keep i hi h1 h2
  rw[<- e]
  exact k.keep i (Nat.lt_of_lt_of_le hi h.size) h1 (h2.imp id fun h3 cur fr=>by rw[e];exact h3 cur fr),fun _ _ hs=>k.sl _ _ (h.sl _ _ hs),fun _ _ hs=>k.ss _ _ (h.ss _ _ hs)⟩
theorem cell_bm {W W':World} {p:Addr} {v:Value} (hb:Below W.heap.size W W') (h:W.cell? p=some v) (hp:p.block<W.heap.size):W'.cell? p=some v:=by
 rw[<- h];exact World.cell?_of_block (hb.block _ hp)
theorem RL.blk {w:World} {base c:Nat} {g:Nat} {L:List Z.R} (h:RL w base (some ⟨g,0,none⟩) c L) (hn:0<L.length):g<w.heap.size:=by
 obtain⟨g',cur,e,_,h2,_⟩:=h.2.2 hn
 injection e with e;injection e with e _ _;subst e
 exact (Array.getElem?_eq_some_iff.1 h2).1
theorem slS_rz {w:World} {m:Nat} {a b:Option Addr} {n1 c1 n2 c2:Nat} (hr:RowAt w m 33 #[.slice a n1 c1,.slice b n2 c2]) (j:Nat) (v:Value) {ao:Option Addr} {l:List (List UInt8)} (hs:SlS w ao l):SlS (w.setCell ⟨m,j,none⟩ v) ao l:=fun hn=>by
 obtain⟨b1,o,e,hlt,hc⟩:=hs hn
 have hg:b1≠m:=fun e2=>by
  have:=hc 0 hn
  rw[e2,hr.cell] at this
  match o with
  | 0=>simp at this
  | 1=>simp at this
  | o+2=>simp at this
 refine⟨b1,o,e,by rw[World.size_setCell];exact hlt,fun i hi=>?_⟩
 rw[<- hc i hi];exact World.cell?_of_block (heap_setCell_other _ _ _ _ hg)
theorem slL_rz {w:World} {m:Nat} {a b:Option Addr} {n1 c1 n2 c2:Nat} (hr:RowAt w m 33 #[.slice a n1 c1,.slice b n2 c2]) (j:Nat) (v:Value) {ao:Option Addr} {l:List UInt8} (hs:SlL w ao l):SlL (w.setCell ⟨m,j,none⟩ v) ao l:=fun hn=>by
 obtain⟨b1,o,e,hlt,hc⟩:=hs hn
 have hg:b1≠m:=fun e2=>by
  have:=hc 0 hn
  rw[e2,hr.cell] at this
  match o with
  | 0=>simp at this
  | 1=>simp at this
  | o+2=>simp at this
 refine⟨b1,o,e,by rw[World.size_setCell];exact hlt,fun i hi=>?_⟩
 rw[<- hc i hi];exact World.cell?_of_block (heap_setCell_other _ _ _ _ hg)
theorem RL.low {w:World} {base base' c:Nat} {a:Option Addr} {L:List Z.R} (h:RL w base a c L) (hb:base'<=base):RL w base' a c L :=
 ⟨h.1,h.2.1,fun hn=>by obtain⟨g,cur,e,h1,h2⟩:=h.2.2 hn;exact⟨g,cur,e,Nat.le_trans hb h1,h2⟩⟩
theorem RL.rz {w:World} {base c m:Nat} {a:Option Addr} {L:List Z.R} (h:RL w base a c L) {cs:Array Value} (hr:RowAt w m 33 cs) (j:Nat) (v:Value):RL (w.setCell ⟨m,j,none⟩ v) base a c L :=
 h.kx (KB.setCell hr (by decide) j v) fun g cur _ hg _=>heap_setCell_other _ _ _ _ fun e=>by
  have hr':w.heap[m]?=some (Obj.cells cs 33):=hr
  rw[e,hr'] at hg;injection hg with hg;injection hg with _ hg _
  exact absurd hg (by decide)
theorem RM.cell {base m:Nat} {w:World} {a b:Option Addr} {n1 c1 n2 c2:Nat} (hr:RowAt w m 33 #[.slice a n1 c1,.slice b n2 c2]) (j:Nat) (v:Value):RM base m w (w.setCell ⟨m,j,none⟩ v) :=
 ⟨rfl,rfl,rfl,by simp,fun i _ h1 _=>heap_setCell_other _ _ _ _ h1,fun _ _ hs=>slL_rz hr j v hs,fun _ _ hs=>slS_rz hr j v hs⟩
open Go.RowKit
structure Duo (B:Nat) (w:World) (Zb base m:Nat) (A:List (List UInt8)) (L:List Z.R) (K:Nat):Prop where
 z:ZLive (fun i=>i<B) w Zb A L K
 r:RZAt w base m A L
 bm:B<=m
 bb:B<=base
 bs:base<=w.heap.size
theorem RZAt.zk {X:Nat->Prop} {w w':World} {base m:Nat} {A:List (List UInt8)} {L:List Z.R} (h:RZAt w base m A L) (k:ZKp X w w'):RZAt w' base m A L:=by
 obtain⟨aa,ac,a,c,h1,h2,h3,h4⟩:=h.row
 exact { h with row:=⟨aa,ac,a,c,k.row h1 (by decide) (by decide),k.ss _ _ h2,h3,h4.kx k.kb (fun g cur _ hg _=>k.rows g cur _ _ hg (by decide) (by decide))⟩ }
theorem ZLive.rm {X:Nat->Prop} {w w':World} {Zb base m:Nat} {A A':List (List UInt8)} {L L':List Z.R} {K:Nat} (h:ZLive X w Zb A L K) (hr:RZAt w base m A' L') (k:RM base m w w'):ZLive X w' Zb A L K:=by
 obtain⟨ρ,G,C,Zx,hX,hth⟩:=h
 obtain⟨aa,ac,a,c,h1,_⟩:=hr.row
 have hm:w.heap[m]?=_:=h1
 obtain⟨ao,cap,hz,_,_⟩:=Zx.row
 have hz0:w.heap[Zb]?=_:=hz
 refine⟨ρ,G,C,Zx.keep ?_ ?_ k.sl k.ss,fun i hi=>⟨Nat.lt_of_lt_of_le (hX i hi).1 k.size,(hX i hi).2⟩,hth⟩
 ·refine k.keep Zb hz.lt (fun e=>?_) (Or.inr fun cur fr e=>?_)
  ·rw[e,hm] at hz0;injection hz0 with hz0;injection hz0 with _ hz0 _;exact absurd hz0 (by decide)
  ·rw[hz0] at e;injection e with e;injection e with _ e _;exact absurd e (by decide)
 ·intro i hi
  have hk:=Zx.tree.kind i hi
  refine k.keep i hk.lt (fun e=>?_) (Or.inr fun cur fr e=>?_)
  ·rcases hk with⟨es,q,hb⟩ | ⟨p,q,hb⟩
   ·rw[e,hm] at hb;cases hb
   ·rw[e,hm] at hb;injection hb with hb;injection hb with _ hb _;exact absurd hb (by decide)
  ·rcases hk with⟨es,q,hb⟩ | ⟨p,q,hb⟩
   ·rw[hb] at e;cases e
   ·rw[hb] at e;injection e with e;injection e with _ e _;exact absurd e (by decide)
theorem RM.below {base m B:Nat} {w w':World} (k:RM base m w w') (h1:B<=m) (h2:B<=base) (h3:base<=w.heap.size):Below B w w' :=
 ⟨k.os,k.tape,k.output,k.size,fun i hi=>k.keep i (by omega) (by omega) (Or.inl (by omega))⟩
theorem Duo.le {B:Nat} {w:World} {Zb base m:Nat} {A:List (List UInt8)} {L:List Z.R} {K:Nat} (D:Duo B w Zb base m A L K):B<=w.heap.size:=Nat.le_trans D.bb D.bs
theorem Duo.mono {B:Nat} {w:World} {Zb base m:Nat} {A:List (List UInt8)} {L:List Z.R} {K K':Nat} (D:Duo B w Zb base m A L K) (hk:K<=K'):Duo B w Zb base m A L K':=⟨D.z.mono hk,D.r,D.bm,D.bb,D.bs⟩
theorem Duo.step {B:Nat} {w w1 w2:World} {Zb base m:Nat} {A:List (List UInt8)} {L L':List Z.R} {K K':Nat} (D:Duo B w Zb base m A L K) (k1:ZKp (fun i=>i<B) w w1) (z1:ZLive (fun i=>i<B) w1 Zb A L' K') (r2:RZAt w2 base m A L') (k2:RM base m w1 w2):Duo B w2 Zb base m A L' K'/\Below B w w2:=by
 have hs1:base<=w1.heap.size:=Nat.le_trans D.bs k1.size
 have hb1:Below B w w1:=k1.below (fun i hi=>hi) D.le
 have hb2:Below B w1 w2:=k2.below D.bm D.bb hs1
 exact⟨⟨z1.rm (D.r.zk k1) k2,r2,D.bm,D.bb,Nat.le_trans hs1 k2.size⟩,hb1.trans hb2⟩
open Go.RowKit
def SegR (w:World) (a:Option Addr) (L:List Z.R) (vss:List (List Value)):Prop:=Els 5 ER w L vss/\(0<L.length -> ∃ g o,a=some ⟨g,o,none⟩/\g<w.heap.size /\ ∀ j u,vss.flatten[j]?=some u->w.cell? ⟨g,o+j,none⟩=some u)
theorem SegR.nil (w:World) (a:Option Addr):SegR w a [] []:=⟨Els.nil _ _ _,fun h=>absurd h (by simp)⟩
theorem SegR.one {w:World} {g o:Nat} {x:Z.R} {us:List Value} (h1:us.length=5) (h2 : ∀ u∈us,u.oneCell'=true) (h3:ER w x us) (hlt:g<w.heap.size) (hc : ∀ j u,us[j]?=some u->w.cell? ⟨g,o+j,none⟩=some u):SegR w (some ⟨g,o,none⟩) [x] [us] :=
 ⟨Els.one h1 h2 h3,fun _=>⟨g,o,rfl,hlt,fun j u hu=>hc j u (by simpa using hu)⟩⟩
theorem RL.seg {w:World} {base c:Nat} {a:Option Addr} {L:List Z.R} (h:RL w base a c L) : ∃ vss,SegR w a L vss:=by
 by_cases hn:0<L.length
 ·obtain⟨g,cur,e,h1,h2,h3⟩:=h.2.2 hn
  have key : ∀ k,k<=L.length -> ∃ vss:List (List Value),vss.length=k /\ ∀ j us,vss[j]?=some us->us.length=5/\(∀ u∈us,u.oneCell'=true)/\(∀ x,L[j]?=some x->ER w x us) /\ ∀ t,t<5->w.cell? ⟨g,j*5+t,none⟩=us[t]?:=by
   intro k
   induction k with
   | zero=>intro _;exact⟨[],rfl,fun j us h=>by simp at h⟩
   | succ k ih =>
    intro hk
    obtain⟨vss,e1,e2⟩:=ih (by omega)
    obtain⟨us,k1,k2,k3,k4⟩:=h3 k _ (List.getElem?_eq_getElem (show k<L.length by omega))
    refine⟨vss ++ [us],by rw[List.length_append,e1];rfl,fun j us' hj=>?_⟩
    by_cases hlt:j<vss.length
    ·rw[List.getElem?_append_left hlt] at hj
     exact e2 j us' hj
    ·rw[List.getElem?_append_right (by omega)] at hj
     have hj0:j - vss.length=0:=by
      have:=(List.getElem?_eq_some_iff.1 hj).1
      simp at this
      omega
     rw[hj0] at hj
     simp at hj
     subst hj
     obtain rfl:j=k:=by omega
     refine⟨k1,k2,fun x hx=>?_,k4⟩
     rw[List.getElem?_eq_getElem (show j<L.length by omega)] at hx
     injection hx with hx
     rw[<- hx];exact k3
  obtain⟨vss,e1,e2⟩:=key L.length (Nat.le_refl _)
  have hE:Els 5 ER w L vss:=⟨e1,fun j x us hx hu=>⟨(e2 j us hu).1,(e2 j us hu).2.1,(e2 j us hu).2.2.1 x hx⟩⟩
  refine⟨vss,hE,fun _=>⟨g,0,e,(Array.getElem?_eq_some_iff.1 h2).1,fun j u hu=>?_⟩⟩
  have hjl:j<L.length*5:=by
   have:=(List.getElem?_eq_some_iff.1 hu).1
   have:=hE.sizes.2.2
   omega
  have hq:j / 5<vss.length:=by omega
  have hf:=flat_get vss hE.sizes.1 (j / 5) (j % 5) _ (List.getElem?_eq_getElem hq) (Nat.mod_lt _ (by omega))
  rw[show j / 5*5+j % 5=j by omega,hu] at hf
  have hc:=(e2 (j / 5) _ (List.getElem?_eq_getElem hq)).2.2.2 (j % 5) (Nat.mod_lt _ (by omega))
  rw[show j / 5*5+j % 5=j by omega, <- hf] at hc
  rw[Nat.zero_add];exact hc
 ·have e:L = []:=List.eq_nil_of_length_eq_zero (by omega)
  subst e
  exact⟨[],SegR.nil w a⟩
theorem take_some {α : Type} {l:List α} {k j:Nat} {x : α} (h:(l.take k)[j]?=some x):j<k/\l[j]?=some x:=by
 rw[List.getElem?_take] at h
 split at h
 ·exact⟨by assumption,h⟩
 ·cases h
theorem Els.take {α : Type} {sz:Nat} {E:World -> α -> List Value->Prop} {w:World} {L:List α} {vss:List (List Value)} (h:Els sz E w L vss) (k:Nat):Els sz E w (L.take k) (vss.take k) :=
 ⟨by rw[List.length_take,List.length_take,h.len],fun j x us hx hu=>h.el j x us (take_some hx).2 (take_some hu).2⟩
theorem Els.drop {α : Type} {sz:Nat} {E:World -> α -> List Value->Prop} {w:World} {L:List α} {vss:List (List Value)} (h:Els sz E w L vss) (k:Nat):Els sz E w (L.drop k) (vss.drop k) :=
 ⟨by rw[List.length_drop,List.length_drop,h.len],fun j x us hx hu=>h.el (k+j) x us (by rw[List.getElem?_drop] at hx;exact hx) (by rw[List.getElem?_drop] at hu;exact hu)⟩
theorem SegR.take {w:World} {a:Option Addr} {L:List Z.R} {vss:List (List Value)} (h:SegR w a L vss) (k:Nat):SegR w a (L.take k) (vss.take k) :=
 ⟨h.1.take k,fun hn=>by
  obtain⟨g,o,e,hlt,hc⟩:=h.2 (by rw[List.length_take] at hn;omega)
  refine⟨g,o,e,hlt,fun j u hu=>hc j u ?_⟩
  have e2:vss.flatten=(vss.take k).flatten++(vss.drop k).flatten:=by rw[<- List.flatten_append,List.take_append_drop]
  rw[e2,List.getElem?_append_left (List.getElem?_eq_some_iff.1 hu).1]
  exact hu⟩
theorem SegR.drop {w:World} {g o:Nat} {a':Option Addr} {L:List Z.R} {vss:List (List Value)} (h:SegR w (some ⟨g,o,none⟩) L vss) (k:Nat) (ha:k<L.length->a'=some ⟨g,o+k*5,none⟩):SegR w a' (L.drop k) (vss.drop k) :=
 ⟨h.1.drop k,fun hn=>by
  have hk:k<L.length:=by rw[List.length_drop] at hn;omega
  obtain⟨g',o',e,hlt,hc⟩:=h.2 (by omega)
  injection e with e;injection e with e1 e2 _
  subst e1;subst e2
  refine⟨g,o+k*5,ha hk,hlt,fun j u hu=>?_⟩
  have e2:vss.flatten=(vss.take k).flatten++(vss.drop k).flatten:=by rw[<- List.flatten_append,List.take_append_drop]
  have e3:(vss.take k).flatten.length=k*5:=by
   rw[(h.1.take k).sizes.2.2,List.length_take]
   congr 1;omega
  have:=hc (k*5+j) u (by rw[e2,List.getElem?_append_right (by omega),e3,Nat.add_sub_cancel_left];exact hu)
  rw[<- Nat.add_assoc] at this
  exact this⟩
theorem run_append_newR {w:World} (ty:TypeId) {L1 L2:List Z.R} {vss1 vss2:List (List Value)} {b a:Option Addr} (n n' m c:Nat) (h1:SegR w b L1 vss1) (hn:L1.length=n) (hb:b=none->n=0) (h2:SegR w a L2 vss2) (hm:L2.length=m) (h0:0<m) (hcap:n'<n+m) (hbd:n+m<=1000000) :
 ∃ v' w',(Builtin.append_ #[31,31] ty #[.slice b n n',.slice a m c]).run Tryz.prog w = .ok v' w'/\OwnL 39 5 ER w' w.heap.size v' (L1++L2)/\Below w.heap.size w w':=by
 obtain⟨i0,hi,hz0,hz1,hz2⟩:=info_parts infoRc
 subst hn
 subst hm
 obtain⟨s1,s2,s3⟩:=h1.1.sizes
 obtain⟨t1,t2,t3⟩:=h2.1.sizes
 obtain⟨g,o,rfl,hlt,hc⟩:=h2.2 h0
 have hsrc:=Src.ofSlice (P:=Tryz.prog) w (size:=i0.size) Tryz.underlying31 ⟨g,o,none⟩ L2.length c vss2.flatten (by rw[hz1];exact t3) (fun j u hu=>by rw[Addr.add_mid];exact hc j u hu) t2
 have hold:(Builtin.firstCells i0.size L1.length (.slice b L1.length n')).run Tryz.prog w.drew = .ok vss1.flatten.toArray w.drew:=by
  cases b with
  | none =>
   have e0:=hb rfl
   have e1:vss1 = []:=List.eq_nil_of_length_eq_zero (by rw[h1.1.len,e0])
   rw[e1]
   exact run_firstCells_none _ _ _ _ _
  | some bb =>
   by_cases hL:0<L1.length
   ·obtain⟨g1,o1,e,hlt1,hc1⟩:=h1.2 hL
    injection e with e;subst e
    exact run_firstCells_some _ _ _ _ _ _ _ (by rw[hz1];exact s3) (fun j u hu=>by rw[Addr.add_mid];exact hc1 j u hu)
   ·have e1:vss1 = []:=List.eq_nil_of_length_eq_zero (by rw[h1.1.len];omega)
    rw[e1]
    exact run_firstCells_some _ _ _ _ _ _ _ (by rw[show L1.length=0 by omega];simp) (fun j u hu=>by simp at hu)
 have hr:=run_append_grow_src (P:=Tryz.prog) w 31 31 ty 39 i0 _ Tryz.underlying31 hi hz0 b L1.length n' vss1.flatten hold _ L2.length vss2.flatten hsrc hcap (by omega) (growslice_fits hcap (by rw[hz2];omega))
 have hd:Below w.heap.size w w.drew:=⟨rfl,rfl,rfl,Nat.le_refl _,fun _ _=>rfl⟩
 have hbl:=hd.alloc (Nat.le_refl _) (.cells ((vss1.flatten++vss2.flatten).toArray++Builtin.zeroCells (Value.agg #[.slice none 0 0,.int .u16 0,.int .u16 0,.int .u32 0,.slice none 0 0]).cells (grownCap w (L1.length+L2.length) n' 39 - (L1.length+L2.length))) 39)
 refine⟨_,_,hr,⟨vss1++vss2,⟨?_,.inr ⟨w.heap.size,grownCap w (L1.length+L2.length) n' 39,_,?_,Nat.le_refl _,heap_alloc_new w.drew _,?_,?_,?_,?_⟩⟩,(h1.1.kb fun _ _ k=>k.kb (KB.of_below hbl)).app (h2.1.kb fun _ _ k=>k.kb (KB.of_below hbl))⟩,hbl⟩
 ·rw[List.flatten_append,List.length_append,List.length_append,s3,t3,Nat.add_mul]
 ·rw[List.length_append]
 ·rw[List.length_append];exact grownCap_ge w _ _ _
 ·exact grownCap_le_maxLen w _ _ _ (by unfold maxLen;omega)
 ·have hge:=grownCap_ge w (L1.length+L2.length) n' 39
  simp only[Array.size_append,List.size_toArray,size_zeroCells,List.length_append,s3,t3]
  rw[show (Value.agg #[.slice none 0 0,.int .u16 0,.int .u16 0,.int .u32 0,.slice none 0 0]).cells.size=5 from rfl]
  omega
 ·simp only[Array.toList_append]
  rw[List.flatten_append]
  have e:(L1++L2).length*5=(vss1.flatten++vss2.flatten).length:=by rw[List.length_append,List.length_append,s3,t3,Nat.add_mul]
  rw[e]
  exact List.take_left
theorem wp_append_newR {o:Oper} {a:Act} {w:World} {K:Act->World->Prop} {Q:Exit->Act->World->Prop} (s x:Operand)
 (ho:o.op = .call { callee := .builtin .append,args := #[s,x],argTypes := #[31,31] }) {L1 L2:List Z.R} {vss1 vss2:List (List Value)} {b a2:Option Addr} (n n' m c:Nat) (hs:a.eval s = .slice b n n') (h1:SegR w b L1 vss1) (hn:L1.length=n) (hb:b=none->n=0)
 (hx:a.eval x = .slice a2 m c) (h2:SegR w a2 L2 vss2) (hm:L2.length=m) (h0:0<m) (hcap:n'<n+m) (hbd:n+m<=1000000)
 (h : ∀ v' w',OwnL 39 5 ER w' w.heap.size v' (L1++L2)->Below w.heap.size w w'->K (a.put o.dst v') w'):Oper.wp Tryz.prog o a w K Q:=by
 obtain⟨v',w',hr,k2,k3⟩:=run_append_newR o.type n n' m c h1 hn hb h2 hm h0 hcap hbd
 unfold Oper.wp execOp
 simp only[ho,resolve,invoke,builtin,Sem.run_bind,Sem.run_pure,Result.andThen_ok,List.map_toArray,List.map_cons,List.map_nil,hs,hx,hr]
 exact h v' w' k2 k3
theorem step_append_newR {ops:Array Oper} {o:Oper} {a:Act} {w:World} {K:Act->World->Prop} {Q:Exit->Act->World->Prop} {E:Prop} (hgd:o.guard=none) (s x:Operand)
 (ho:o.op = .call { callee := .builtin .append,args := #[s,x],argTypes := #[31,31] }) {L1 L2:List Z.R} {vss1 vss2:List (List Value)} {b a2:Option Addr} (n n' m c:Nat) (hs:a.eval s = .slice b n n') (h1:SegR w b L1 vss1) (hn:L1.length=n) (hb:b=none->n=0)
 (hx:a.eval x = .slice a2 m c) (h2:SegR w a2 L2 vss2) (hm:L2.length=m) (h0:0<m) (hcap:n'<n+m) (hbd:n+m<=1000000)
 (h : ∀ v' w',OwnL 39 5 ER w' w.heap.size v' (L1++L2)->Below w.heap.size w w'->K (a.put o.dst v') w'):if Region.wanted o (yielded ops a.tmps)=true then Oper.wp Tryz.prog o a w K Q else E:=by
 have hw:Region.wanted o (yielded ops a.tmps)=true:=by simp[Region.wanted,hgd]
 rw[if_pos hw]
 exact wp_append_newR s x ho n n' m c hs h1 hn hb hx h2 hm h0 hcap hbd h
theorem run_append_same (a:Option Addr) (n:Nat) (a2:Option Addr) (c2:Nat) (ty:TypeId) (w:World):(Builtin.append_ #[31,31] ty #[.slice a n n,.slice a2 0 c2]).run Tryz.prog w = .ok (.slice a n n) w:=by
 obtain⟨i0,hi,hz0,hz1,hz2⟩:=info_parts infoRc
 have hl : ∀ (x:Addr) (W:World),(loadCells x 0).run Tryz.prog W = .ok #[] W:=fun x W=>by simpa using run_loadCells_list (P:=Tryz.prog) W x [] (by simp)
 cases a2 <;> cases a <;> simp[Builtin.append_,run_underlying Tryz.underlying31,sizeOf,typeInfo,hi,Builtin.lenOf,Builtin.firstCells,storeCells,hl]
open Go.RowKit
open Go.RowKit
namespace Z
theorem lead_len : ∀ {L:List R} {r:R} {j:Nat},(∀ i x,i<j->L[i]?=some x->cmpK x r<0)->j<=L.length->(∀ x,L[j]?=some x -> ¬ cmpK x r<0)->lead L r=L.take j/\rear L r=L.drop j
 | [],_,_,_,_,_=>by simp[lead,rear]
 | y::L,r,0,_,_,h2=>by
  have hy:=h2 y rfl
  unfold lead rear
  rw[List.takeWhile_cons,List.dropWhile_cons,if_neg (by simpa using hy),if_neg (by simpa using hy)]
  simp
 | y::L,r,j+1,h1,hj,h2=>by
  have hy:=h1 0 y (Nat.zero_lt_succ j) rfl
  have ih:=lead_len (L:=L) (r:=r) (j:=j) (fun i x hi hx=>h1 (i+1) x (Nat.succ_lt_succ hi) (by simpa using hx)) (by simpa using hj) (fun x hx=>h2 x (by simpa using hx))
  unfold lead rear at ih ⊢
  rw[List.takeWhile_cons,List.dropWhile_cons,if_pos (by simpa using hy),if_pos (by simpa using hy),ih.1,ih.2]
  simp
theorem ins_at {L:List R} {r:R} {j:Nat} (h1 : ∀ i x,i<j->L[i]?=some x->cmpK x r<0) (hj:j<=L.length) (h2 : ∀ x,L[j]?=some x -> ¬ cmpK x r<0):ins L r=L.take j++([r]++L.drop j):=by
 obtain⟨e1,e2⟩:=lead_len h1 hj h2
 unfold ins
 rw[e1,e2];rfl
theorem cmpK_cong {a b:R} (r:R) (hp:a.p=b.p) (ht:a.t=b.t) (hc:a.c=b.c):cmpK r a=cmpK r b:=by
 unfold cmpK;rw[hp,ht,hc]
theorem there_at {L:List R} (hr:L.Pairwise rlt) (hl:Lows L) {r:R} (hw:Low r.p) {j:Nat} (h1 : ∀ i x,i<j->L[i]?=some x->cmpK x r<0) (h2 : ∀ x,L[j]?=some x -> ¬ cmpK x r<0):there L r=true ↔ ∃ x,L[j]?=some x/\cmpK x r=0:=by
 rw[there_iff]
 constructor
 ·rintro⟨x,hx,e1,e2,e3⟩
  obtain⟨i,hi,rfl⟩:=List.getElem_of_mem hx
  have hz:cmpK L[i] r=0:=(cmpK_zero (hl _ hx) hw).2 ⟨e1,e2,e3⟩
  have hij : ¬ i<j:=fun h=>by
   have:=h1 i _ h (List.getElem?_eq_getElem hi)
   omega
  by_cases he:i=j
  ·subst he;exact⟨_,List.getElem?_eq_getElem hi,hz⟩
  ·exfalso
   have hj:j<L.length:=by omega
   have h3:=h2 _ (List.getElem?_eq_getElem hj)
   have h4:rlt L[j] L[i]:=List.pairwise_iff_getElem.1 hr j i hj hi (by omega)
   unfold rlt at h4
   rw[cmpK_cong L[j] e1 e2 e3] at h4
   exact h3 h4
 ·rintro⟨x,hx,hz⟩
  have hm:=List.mem_of_getElem? hx
  obtain⟨e1,e2,e3⟩:=(cmpK_zero (hl _ hm) hw).1 hz
  exact⟨x,hm,e1,e2,e3⟩
theorem setT_step (L:List R) (p:List (List UInt8)) (t ttl j:Nat) {x:R} (hx:L[j]?=some x):(L.take (j+1)).map (setT p t ttl)++L.drop (j+1)=((L.take j).map (setT p t ttl)++L.drop j).set j (setT p t ttl x):=by
 have hj:j<L.length:=(List.getElem?_eq_some_iff.1 hx).1
 have e:L.drop j=x::L.drop (j+1):=by
  rw[List.drop_eq_getElem_cons hj]
  congr 1
  exact Option.some.inj ((List.getElem?_eq_getElem hj).symm.trans hx)
 have hl:((L.take j).map (setT p t ttl)).length=j:=by rw[List.length_map,List.length_take];omega
 rw[List.take_add_one,hx,e,List.set_append_right _ _ (by omega),hl,Nat.sub_self,List.set_cons_zero,List.map_append,List.append_assoc]
 rfl
theorem setT_get (L:List R) (p:List (List UInt8)) (t ttl j:Nat) {x:R} (hx:L[j]?=some x):((L.take j).map (setT p t ttl)++L.drop j)[j]?=some x:=by
 have hj:j<L.length:=(List.getElem?_eq_some_iff.1 hx).1
 have hl:((L.take j).map (setT p t ttl)).length=j:=by rw[List.length_map,List.length_take];omega
 rw[List.getElem?_append_right (by omega),hl,Nat.sub_self,List.getElem?_drop,Nat.add_zero]
 exact hx
end Z
theorem RZAt.put {w w':World} {base m:Nat} {A:List (List UInt8)} {L:List Z.R} (h:RZAt w base m A L) {n:List (List UInt8)} {t ttl:Nat} {c d:List UInt8} (hg:N.chk n=0) (ht:t<65536) (httl:ttl<4294967296) (hcn:cn t d=some c) (hnum:Z.there L ⟨path n,t,c,ttl,d⟩=true\/L.length<2000)
 (row : ∃ aa ac a c',RowAt w' m 33 #[.slice aa A.length ac,.slice a (Z.put L ⟨path n,t,c,ttl,d⟩).length c']/\SlS w' aa A/\A.length<=ac/\RL w' base a c' (Z.put L ⟨path n,t,c,ttl,d⟩)):RZAt w' base m A (Z.put L ⟨path n,t,c,ttl,d⟩):=by
 refine⟨row,Z.put_rise h.rise h.lows (path_low n),Z.put_lows h.lows (path_low n),?_,Z.thin_put h.thin hg,?_,?_⟩
 ·rw[Z.put_len]
  have:=h.num
  split
  ·exact this
  ·rename_i hn
   have:=hnum.resolve_left hn
   omega
 ·intro x hx
  obtain⟨y,hy,rfl⟩:=Z.mem_put.1 hx
  rw[Z.setT_p,Z.setT_t,Z.setT_c,Z.setT_d]
  have key:y.t<65536/\y.ttl<4294967296/\cn y.t y.d=some y.c/\y.d.length<=8192/\y.p.length<=128:=by
   rcases hy with hy | ⟨_,rfl⟩
   ·exact h.okk y hy
   ·refine⟨ht,httl,hcn,(cn_len hcn).2.1,?_⟩
    have:=Z.chk_len hg
    show (path n).length<=128
    unfold path
    rw[List.length_reverse,N.lowN_len]
    omega
  refine⟨key.1,?_,key.2.2⟩
  by_cases e:y.p=path n/\y.t=t
  ·rw[Z.setT_at _ _ _ _ e];exact httl
  ·rw[Z.setT_off _ _ _ _ e];exact key.2.1
 ·intro x hx y hy hp ht2
  obtain⟨x0,hx0,rfl⟩:=Z.mem_put.1 hx
  obtain⟨y0,hy0,rfl⟩:=Z.mem_put.1 hy
  rw[Z.setT_p,Z.setT_p] at hp
  rw[Z.setT_t,Z.setT_t] at ht2
  by_cases e:x0.p=path n/\x0.t=t
  ·rw[Z.setT_at _ _ _ _ e,Z.setT_at _ _ _ _ ⟨hp.symm.trans e.1,ht2.symm.trans e.2⟩]
  ·have e2 : ¬ (y0.p=path n/\y0.t=t):=fun e3=>e ⟨hp.trans e3.1,ht2.trans e3.2⟩
   rw[Z.setT_off _ _ _ _ e,Z.setT_off _ _ _ _ e2]
   have h1:x0∈L:=by
    rcases hx0 with h1 | ⟨_,rfl⟩
    ·exact h1
    ·exact absurd ⟨rfl,rfl⟩ e
   have h2:y0∈L:=by
    rcases hy0 with h2 | ⟨_,rfl⟩
    ·exact h2
    ·exact absurd ⟨rfl,rfl⟩ e2
   exact h.even x0 h1 y0 h2 hp ht2
theorem ttlAt_of {w:World} {base m:Nat} {A:List (List UInt8)} {L:List Z.R} (h:RZAt w base m A L) {x:Z.R} (hx:x∈L):Z.ttlAt L x.p x.t=x.ttl:=by
 unfold Z.ttlAt
 cases hs:Z.setAt L x.p x.t with
 | nil =>
  have:=Z.mem_setAt.2 ⟨hx,rfl,rfl⟩
  rw[hs] at this;cases this
 | cons y r =>
  have hy:y∈Z.setAt L x.p x.t:=by rw[hs];simp
  obtain⟨h1,h2,h3⟩:=Z.mem_setAt.1 hy
  exact h.even y h1 x hx h2 h3
open Go.RowKit
theorem set_off {w:World} {g:Nat} {et:TypeId} {cur:Array Value} (hr:RowAt w g et cur) (q:Nat) (v:Value) (i:Nat) (hi:i≠q):(w.setCell ⟨g,q,none⟩ v).cell? ⟨g,i,none⟩=w.cell? ⟨g,i,none⟩:=by
 rw[(hr.set q v).cell,hr.cell,Array.getElem?_setIfInBounds_ne (Ne.symm hi)]
theorem slL_cell {w:World} {g q:Nat} {cur:Array Value} {u:Int} (hr:RowAt w g 39 cur) (hc:w.cell? ⟨g,q,none⟩=some (.int .u32 u)) (v:Value) {ao:Option Addr} {l:List UInt8} (hs:SlL w ao l):SlL (w.setCell ⟨g,q,none⟩ v) ao l:=fun hn=>by
 obtain⟨b1,o,e,hlt,h⟩:=hs hn
 refine⟨b1,o,e,by rw[World.size_setCell];exact hlt,fun i hi=>?_⟩
 by_cases hb:b1=g
 ·subst hb
  by_cases hq:o+i=q
  ·have:=h i hi
   rw[hq,hc] at this;cases this
  ·rw[set_off hr q v _ hq];exact h i hi
 ·rw[<- h i hi];exact World.cell?_of_block (heap_setCell_other _ _ _ _ hb)
theorem slS_cell {w:World} {g q:Nat} {cur:Array Value} {u:Int} (hr:RowAt w g 39 cur) (hc:w.cell? ⟨g,q,none⟩=some (.int .u32 u)) (v:Value) {ao:Option Addr} {l:List (List UInt8)} (hs:SlS w ao l):SlS (w.setCell ⟨g,q,none⟩ v) ao l:=fun hn=>by
 obtain⟨b1,o,e,hlt,h⟩:=hs hn
 refine⟨b1,o,e,by rw[World.size_setCell];exact hlt,fun i hi=>?_⟩
 by_cases hb:b1=g
 ·subst hb
  by_cases hq:o+i=q
  ·have:=h i hi
   rw[hq,hc] at this;cases this
  ·rw[set_off hr q v _ hq];exact h i hi
 ·rw[<- h i hi];exact World.cell?_of_block (heap_setCell_other _ _ _ _ hb)
theorem RM.rc {base m:Nat} {w:World} {g q:Nat} {cur:Array Value} {u:Int} (hr:RowAt w g 39 cur) (hg:base<=g) (hc:w.cell? ⟨g,q,none⟩=some (.int .u32 u)) (v:Value):RM base m w (w.setCell ⟨g,q,none⟩ v) :=
 ⟨rfl,rfl,rfl,by simp,fun i _ _ h2=>heap_setCell_other _ _ _ _ (fun e=>by
  subst e
  rcases h2 with h2 | h2
  ·omega
  ·exact h2 _ _ hr),fun _ _ hs=>slL_cell hr hc v hs,fun _ _ hs=>slS_cell hr hc v hs⟩
theorem RL.row {w:World} {base c g:Nat} {L:List Z.R} (h:RL w base (some ⟨g,0,none⟩) c L) (hn:0<L.length) : ∃ cur,RowAt w g 39 cur/\base<=g:=by
 obtain⟨g',cur,e,h1,h2,_⟩:=h.2.2 hn
 injection e with e;injection e with e _ _;subst e
 exact⟨cur,h2,h1⟩
theorem RL.ttl {w:World} {base c g:Nat} {L:List Z.R} (h:RL w base (some ⟨g,0,none⟩) c L) {i:Nat} {x:Z.R} (hx:L[i]?=some x) (v:Nat):RL (w.setCell ⟨g,i*5+3,none⟩ (.int .u32 (v:Int))) base (some ⟨g,0,none⟩) c (L.set i { x with ttl:=v }):=by
 have hi:i<L.length:=(List.getElem?_eq_some_iff.1 hx).1
 obtain⟨g',cur,e,h1,h2,h3⟩:=h.2.2 (by omega)
 injection e with e;injection e with e _ _;subst e
 have hr:RowAt w g 39 cur:=h2
 have hk:KB w (w.setCell ⟨g,i*5+3,none⟩ (.int .u32 (v:Int))):=KB.setCell hr (by decide) _ _
 refine⟨by rw[List.length_set];exact h.1,(fun h=>by cases h),fun _=>⟨g,_,rfl,h1,hr.set (i*5+3) (.int .u32 (v:Int)),fun j y hy=>?_⟩⟩
 by_cases e:j=i
 ·subst e
  rw[List.getElem?_set_self hi] at hy;injection hy with hy;subst hy
  obtain⟨us,k1,k2,⟨na,nc,da,dc,rfl,k3,k5,k6,k7,k8,k9⟩,k4⟩:=h3 j x hx
  refine⟨[.slice na x.p.length nc,.int .u16 (x.t:Int),.int .u16 1,.int .u32 (v:Int),.slice da x.d.length dc],rfl,by simp[Value.oneCell'],⟨na,nc,da,dc,rfl,k3.kb hk,k5,k6,k7.kb hk,k8,k9⟩,fun t ht=>?_⟩
  have h4:=k4 t ht
  by_cases et:t=3
  ·subst et
   rw[hr.cell] at h4
   have hlt:j*5+3<cur.size:=by
    have:cur[j*5+3]?=some (.int .u32 (x.ttl:Int)):=h4
    exact (Array.getElem?_eq_some_iff.1 this).1
   rw[(hr.set (j*5+3) (.int .u32 (v:Int))).cell,Array.getElem?_setIfInBounds_self_of_lt hlt]
   rfl
  ·rw[set_off hr _ _ _ (by omega),h4]
   match t,ht,et with
   | 0,_,_=>rfl
   | 1,_,_=>rfl
   | 2,_,_=>rfl
   | 4,_,_=>rfl
 ·rw[List.getElem?_set_ne (Ne.symm e)] at hy
  obtain⟨us,k1,k2,k3,k4⟩:=h3 j y hy
  refine⟨us,k1,k2,k3.kb hk,fun t ht=>?_⟩
  rw[set_off hr _ _ _ (by omega)]
  exact k4 t ht
theorem run_append_clone {w:World} (ty:TypeId) (ao:Option Addr) (m c:Nat) (l:List UInt8) (hl:l.length=m) (hs:SlL w ao l) (hn:ao=none->c=0) (hmc:m<=c) (hm:m<=1000000) :
 ∃ v' w',(Builtin.append_ #[37,37] ty #[.slice none 0 0,.slice ao m c]).run Tryz.prog w = .ok v' w'/\OwnB w' w.heap.size v' l/\Below w.heap.size w w':=by
 cases ao with
 | none =>
  have hc:=hn rfl
  obtain rfl:m=0:=by omega
  have e:l = []:=List.eq_nil_of_length_eq_zero hl
  subst e
  obtain⟨i0,hi,hz0,hz1,hz2⟩:=info_parts infoB
  refine⟨.slice none 0 0,w,?_,OwnB.nil _ _,Below.refl _ _⟩
  simp[Builtin.append_,run_underlying Tryz.underlying37,sizeOf,typeInfo,hi,Builtin.lenOf,Builtin.firstCells]
 | some ad =>
  obtain⟨v',w',h1,h2,h3⟩:=run_append_B ty (OwnB.nil w w.heap.size) ad m c l hl hs (by simp;omega) (Nat.le_refl _)
  have h0:w.ownsRow w.heap.size 5 1 (.slice none 0 0) ([]:List UInt8).length (vb []):=OwnB.nil w w.heap.size
  exact⟨v',w',h1,by simpa using h2,owns_below h0 h3 (Nat.le_refl _)⟩
theorem step_append_clone {ops:Array Oper} {o:Oper} {a:Act} {w:World} {K:Act->World->Prop} {Q:Exit->Act->World->Prop} {F:Prop} (hgd:o.guard=none) (s x:Operand)
 (ho:o.op = .call { callee := .builtin .append,args := #[s,x],argTypes := #[37,37] }) (ao:Option Addr) (m c:Nat) (l:List UInt8) (hs:a.eval s = .slice none 0 0) (hx:a.eval x = .slice ao m c) (hl:l.length=m) (hsl:SlL w ao l) (hn:ao=none->c=0) (hmc:m<=c) (hm:m<=1000000)
 (h : ∀ v' w',OwnB w' w.heap.size v' l->Below w.heap.size w w'->K (a.put o.dst v') w'):if Region.wanted o (yielded ops a.tmps)=true then Oper.wp Tryz.prog o a w K Q else F:=by
 have hw:Region.wanted o (yielded ops a.tmps)=true:=by simp[Region.wanted,hgd]
 rw[if_pos hw]
 obtain⟨v',w',hr,k2,k3⟩:=run_append_clone o.type ao m c l hl hsl hn hmc hm
 unfold Oper.wp execOp
 simp only[ho,resolve,invoke,builtin,Sem.run_bind,Sem.run_pure,Result.andThen_ok,List.map_toArray,List.map_cons,List.map_nil,hs,hx,hr]
 exact h v' w' k2 k3
theorem run_append_one {w:World} (ty:TypeId) {g0:Nat} {r:Z.R} {us:List Value} {a:Option Addr} {m c:Nat} {L:List Z.R} {vss:List (List Value)} (h1:SegR w (some ⟨g0,0,none⟩) [r] [us]) (h2:SegR w a L vss) (hm:L.length=m) (hbd:m<=100000) :
 ∃ a' c' w' vss',(Builtin.append_ #[31,31] ty #[.slice (some ⟨g0,0,none⟩) 1 1,.slice a m c]).run Tryz.prog w = .ok (.slice a' (m+1) c') w'/\SegR w' a' ([r]++L) vss'/\Below w.heap.size w w':=by
 by_cases h0:m=0
 ·subst h0
  have e:L = []:=List.eq_nil_of_length_eq_zero hm
  subst e
  exact⟨some ⟨g0,0,none⟩,1,w, [us],run_append_same _ _ _ _ _ _,h1,Below.refl _ _⟩
 ·obtain⟨v',w',hr,hO,hb⟩:=run_append_newR (L1 := [r]) (L2:=L) ty 1 1 m c h1 rfl (fun h=>by cases h) h2 hm (by omega) (by omega) (by omega)
  obtain⟨a',c',rfl,_,_⟩:=hO.slice
  have e:([r]++L).length=m+1:=by rw[List.length_append,hm];simp;omega
  obtain⟨vss',hv⟩:=(RL.of_own hO).seg
  exact⟨a',c',w',vss',by rw[hr,e],hv,hb⟩
theorem step_append_one {ops:Array Oper} {o:Oper} {a:Act} {w:World} {K:Act->World->Prop} {Q:Exit->Act->World->Prop} {F:Prop} (hgd:o.guard=none) (s x:Operand)
 (ho:o.op = .call { callee := .builtin .append,args := #[s,x],argTypes := #[31,31] }) {g0:Nat} {r:Z.R} {us:List Value} {a2:Option Addr} {m c:Nat} {L:List Z.R} {vss:List (List Value)} (hs:a.eval s = .slice (some ⟨g0,0,none⟩) 1 1) (hx:a.eval x = .slice a2 m c) (h1:SegR w (some ⟨g0,0,none⟩) [r] [us]) (h2:SegR w a2 L vss) (hm:L.length=m) (hbd:m<=100000)
 (h : ∀ a' c' w' vss',SegR w' a' ([r]++L) vss'->Below w.heap.size w w'->K (a.put o.dst (.slice a' (m+1) c')) w'):if Region.wanted o (yielded ops a.tmps)=true then Oper.wp Tryz.prog o a w K Q else F:=by
 have hw:Region.wanted o (yielded ops a.tmps)=true:=by simp[Region.wanted,hgd]
 rw[if_pos hw]
 obtain⟨a',c',w',vss',hr,k2,k3⟩:=run_append_one (c:=c) o.type h1 h2 hm hbd
 unfold Oper.wp execOp
 simp only[ho,resolve,invoke,builtin,Sem.run_bind,Sem.run_pure,Result.andThen_ok,List.map_toArray,List.map_cons,List.map_nil,hs,hx,hr]
 exact h a' c' w' vss' k2 k3
open Go.RowKit
theorem rslice_any (a:Option Addr) (L C A:Nat) (hAC:A<=C) (hn:a=none->C=0) (w:World):(Instr.sliceAt 31 (.slice a L C) none (some (.int .i64 (A:Int))) (some (.int .i64 (A:Int)))).run Tryz.prog w = .ok (.slice a A A) w:=by
 have h1:(A:Int)<=(C:Int):=by omega
 rw[run_sliceAt_slice w 31 _ _ _ _ Tryz.underlying31]
 obtain⟨i0,hi,hz0,hz1,hz2⟩:=info_parts infoRc
 cases a with
 | none =>
  have h2:=hn rfl
  subst h2
  obtain rfl:A=0:=by omega
  simp[Instr.slice,run_underlying Tryz.underlying31,Instr.sliceBounds,run_sliceBound,sizeOf,typeInfo,hi]
 | some ad=>simp[Instr.slice,run_underlying Tryz.underlying31,Instr.sliceBounds,run_sliceBound,h1,Addr.add,sizeOf,typeInfo,hi]
theorem rslice_rest (a:Option Addr) (L C A:Nat) (hAL:A<=L) (hLC:L<=C) (hn:a=none->C=0) : ∃ a',(∀ w,(Instr.sliceAt 31 (.slice a L C) (some (.int .i64 (A:Int))) none none).run Tryz.prog w = .ok (.slice a' (L - A) (C - A)) w)/\(∀ g,a=some ⟨g,0,none⟩->A<L->a'=some ⟨g,A*5,none⟩):=by
 have h1:(A:Int)<=(L:Int):=by omega
 obtain⟨i0,hi,hz0,hz1,hz2⟩:=info_parts infoRc
 cases a with
 | none =>
  have h3:=hn rfl
  subst h3
  obtain rfl:L=0:=by omega
  obtain rfl:A=0:=by omega
  refine⟨none,fun w=>?_,fun g h=>by cases h⟩
  rw[run_sliceAt_slice w 31 _ _ _ _ Tryz.underlying31]
  simp[Instr.slice,run_underlying Tryz.underlying31,Instr.sliceBounds,run_sliceBound,sizeOf,typeInfo,hi]
 | some ad =>
  by_cases hCA:C=A
  ·refine⟨some ad,fun w=>?_,fun g _ h=>by omega⟩
   rw[run_sliceAt_slice w 31 _ _ _ _ Tryz.underlying31]
   subst hCA
   obtain rfl:L=C:=by omega
   simp[Instr.slice,run_underlying Tryz.underlying31,Instr.sliceBounds,run_sliceBound,Addr.add,sizeOf,typeInfo,hi]
  ·refine⟨some (ad.add (A*5)),fun w=>?_,fun g e _=>by injection e with e;subst e;rw[Addr.add_mid,Nat.zero_add]⟩
   rw[run_sliceAt_slice w 31 _ _ _ _ Tryz.underlying31]
   simp[Instr.slice,run_underlying Tryz.underlying31,Instr.sliceBounds,run_sliceBound,h1,sizeOf,typeInfo,hi,hz1,hCA]
theorem RL.segdrop {w:World} {base c:Nat} {a a':Option Addr} {L:List Z.R} (h:RL w base a c L) (j:Nat) (ha : ∀ g,a=some ⟨g,0,none⟩->j<L.length->a'=some ⟨g,j*5,none⟩) : ∃ vss,SegR w a' (L.drop j) vss:=by
 by_cases hj:j<L.length
 ·obtain⟨g,cur,e,_⟩:=h.2.2 (by omega)
  subst e
  obtain⟨vss,hv⟩:=h.seg
  exact⟨_,hv.drop j (fun _=>by rw[ha g rfl hj,Nat.zero_add])⟩
 ·rw[List.drop_of_length_le (by omega)]
  exact⟨[],SegR.nil _ _⟩
theorem set_same {α : Type} {l:List α} {j:Nat} {x : α} (h:l[j]?=some x):l.set j x=l:=by
 obtain⟨hj,e⟩:=List.getElem?_eq_some_iff.1 h
 subst e
 exact List.set_getElem_self hj
end Go.Proofs.YtmbcegljmhcdeaaGreat
namespace Go.Proofs.YtmbcegljmhcdeaaGreat
open Go.RowKit
set_option maxRecDepth 5000
namespace Z
set_option maxRecDepth 5000 in
theorem canS_of {t:Nat} {d c:List UInt8} (h:cn t d=some c):canS t d=c:=by unfold canS;rw[h];rfl
end Z
end Go.Proofs.YtmbcegljmhcdeaaGreat
