/- One record put, put again, dropped, plain; the seat's records. -/
import Derived.Test.YtmbcegljmhcdeaaGreatRefK
import Derived.Test.YtmbcegljmhcdeaaGreatRefZ
import Derived.Deep.RegionHeld3
import Derived.Deep.Cut
import Derived.Deep.AppendSrc
import Derived.Test.YtmbcegljmhcdeaaGreatNmA
import Derived.Test.YtmbcegljmhcdeaaGreatZrs
import Derived.Test.YtmbcegljmhcdeaaGreatZna
import Derived.Test.YtmbcegljmhcdeaaGreatZrc
import Derived.Test.YtmbcegljmhcdeaaGreatDat
namespace Go.Proofs.YtmbcegljmhcdeaaGreat
set_option maxRecDepth 5000
open Go.RowKit
def canS (t:Nat) (d:List UInt8):List UInt8:=(cn t d).getD d
theorem mcanon_any (t:Nat) (d:List UInt8) (ao:Option Addr) (len cap:Nat) (w:World) (hl:Hid (d.length=len)) (hs:SlL w ao d) (hc:len<=cap) (hnil:ao=none->cap=0) (h8:len<=8192) :
 Calls Tryz.prog 94 #[.int .u16 (t:Int),.slice ao len cap] w fun e w'=>e = .returned (.string ⟨(canS t d).toArray⟩)/\Below w.heap.size w w':=by
 have hcall:=sCanon_any t d ao len cap w hl hs hc hnil h8
 have HS:=hide hs
 cases hcn:cn t d with
 | none =>
  have e:canS t d=d:=by unfold canS;rw[hcn];rfl
  rw[e]
  clear hs e
  go_enter Tryz.func94,Tryz.ntmps94
  go_wp2_with (go_at_call 125;refine hcall.mono ?_;rintro e w1 ⟨⟨x,v,ho,_⟩ | ⟨_,rfl⟩,hb⟩;(· exact absurd (hcn.symm.trans ho) (by simp));have hcv:=run_str len cap (HS.out.below hb (Nat.le_refl _)) hl.out)
  go_ret
  exact⟨rfl,hb⟩
 | some c =>
  have e:canS t d=c:=by unfold canS;rw[hcn];rfl
  rw[e]
  clear hs e
  go_enter Tryz.func94,Tryz.ntmps94
  go_wp2_with (go_at_call 125;refine hcall.mono ?_;rintro e w1 ⟨⟨x,v,ho,rfl,hx⟩ | ⟨ho,_⟩,hb⟩;rotate_left;(· exact absurd (hcn.symm.trans ho) (by simp));(obtain rfl:c=x:=Option.some.inj (hcn.symm.trans ho));obtain⟨ca,cc,rfl,hcT,_,hcc⟩:=OwnB.ty hx;have hcv:=run_str c.length cc hcT.1 rfl)
  go_ret
  exact⟨rfl,hb⟩
def ordV (n1 n2:List (List UInt8)) (t1 t2:Nat) (x y:List UInt8):Int:=if N.cmpN n1 n2≠0 then N.cmpN n1 n2 else if t1≠t2 then (if t1<t2 then -1 else 1) else N.cmpB x y
set_option maxHeartbeats 1000000 in
theorem morder_any (n1 n2:List (List UInt8)) (a1 a2:Option Addr) (l1 l2 c1 c2 t1 t2:Nat) (k1 k2:Int) (s1 s2:Int) (d1 d2:List UInt8) (b1 b2:Option Addr) (m1 m2 e1 e2:Nat) (w:World) (h1:Hid (n1.length=l1)) (h2:Hid (n2.length=l2)) (hs1:SlS w a1 n1) (hs2:SlS w a2 n2) (hm1:Hid (N.Small n1)) (hm2:Hid (N.Small n2))
 (hd1:Hid (d1.length=m1)) (hd2:Hid (d2.length=m2)) (hb1:SlL w b1 d1) (hb2:SlL w b2 d2) (hc1:m1<=e1) (hc2:m2<=e2) (hn1:b1=none->e1=0) (hn2:b2=none->e2=0) (h81:m1<=8192) (h82:m2<=8192) :
 Calls Tryz.prog 90 #[.agg #[.slice a1 l1 c1,.int .u16 (t1:Int),.int .u16 k1,.int .u32 s1,.slice b1 m1 e1],.agg #[.slice a2 l2 c2,.int .u16 (t2:Int),.int .u16 k2,.int .u32 s2,.slice b2 m2 e2]] w fun e w'=>e = .returned (.int .i64 (ordV n1 n2 t1 t2 (canS t1 d1) (canS t2 d2)))/\Below w.heap.size w w':=by
 obtain⟨wB,hwB⟩ : ∃ wB,wB=(w.alloc (.cells #[.slice a1 l1 c1,.int .u16 (t1:Int),.int .u16 k1,.int .u32 s1,.slice b1 m1 e1] 39)).alloc (.cells #[.slice a2 l2 c2,.int .u16 (t2:Int),.int .u16 k2,.int .u32 s2,.slice b2 m2 e2] 39):=⟨_,rfl⟩
 have hr1:RowAt wB w.heap.size 39 #[.slice a1 l1 c1,.int .u16 (t1:Int),.int .u16 k1,.int .u32 s1,.slice b1 m1 e1]:=by rw[hwB];exact (RowAt.new w _ _).alloc _
 have hr2:RowAt wB (w.heap.size+1) 39 #[.slice a2 l2 c2,.int .u16 (t2:Int),.int .u16 k2,.int .u32 s2,.slice b2 m2 e2]:=by
  rw[hwB]
  have:=RowAt.new (w.alloc (.cells #[.slice a1 l1 c1,.int .u16 (t1:Int),.int .u16 k1,.int .u32 s1,.slice b1 m1 e1] 39)) 39 #[.slice a2 l2 c2,.int .u16 (t2:Int),.int .u16 k2,.int .u32 s2,.slice b2 m2 e2]
  rw[World.size_alloc] at this
  exact this
 have hb:Below w.heap.size w wB:=by rw[hwB];exact ((Below.refl _ w).alloc (Nat.le_refl _) _).alloc (by simp) _
 have hcmp:=rCompare_any n1 n2 a1 a2 l1 l2 c1 c2 wB h1 h2 (hs1.below hb (Nat.le_refl _)) (hs2.below hb (Nat.le_refl _)) (by rw[<- h1.out];exact hm1.out.1) (by rw[<- h2.out];exact hm2.out.1) (Sane.small hm1.out) (Sane.small hm2.out)
 have HR1:=hide hr1
 have HR2:=hide hr2
 have HB:=hide hb
 have HW:=hide hwB
 have HB1:=hide (hb1.below hb (Nat.le_refl _))
 have HB2:=hide (hb2.below hb (Nat.le_refl _))
 clear hr1 hr2 hb hwB hb1 hb2 hs1 hs2
 obtain⟨q,hq⟩ : ∃ q,q=N.cmpN n1 n2:=⟨_,rfl⟩
 rw[<- hq] at hcmp
 unfold ordV
 rw[<- hq]
 clear hq
 have z1:wB.cell? ⟨w.heap.size,0,none⟩=some (.slice a1 l1 c1):=HR1.out.cell 0
 have z2:wB.cell? ⟨w.heap.size+1,0,none⟩=some (.slice a2 l2 c2):=HR2.out.cell 0
 by_cases hq:q=0
 ·have hqb:(q != 0)=false:=by simp[hq]
  by_cases ht:t1=t2
  ·have htb:((t1:Int) != (t2:Int))=false:=by simp[ht]
   rw[if_neg (by simp[hq]),if_neg (by simp[ht])]
   have HQ:=hide hq
   have HT:=hide ht
   clear hq ht
   obtain⟨X,hX⟩ : ∃ X,X=canS t1 d1:=⟨_,rfl⟩
   obtain⟨Y,hY⟩ : ∃ Y,Y=canS t2 d2:=⟨_,rfl⟩
   rw[<- hX, <- hY]
   have hcn1:=fun W hW=>mcanon_any t1 d1 b1 m1 e1 W hd1 hW hc1 hn1 h81
   have hcn2:=fun W hW=>mcanon_any t2 d2 b2 m2 e2 W hd2 hW hc2 hn2 h82
   rw[<- hX] at hcn1
   rw[<- hY] at hcn2
   obtain⟨V,hV⟩ : ∃ V:Int,V=N.cmpB X Y:=⟨_,rfl⟩
   rw[<- hV]
   have HV:=hide hV
   clear hV
   have HC1:=hide hcn1
   have HC2:=hide hcn2
   clear hX hY hcn1 hcn2
   go_enter Tryz.func90,Tryz.ntmps90
   go_upto_region 8 with (go_at_call 124;rw[<- HW.out];refine hcmp.mono ?_;rintro e w1 ⟨rfl,hb1⟩;have x1:w1.cell? ⟨w.heap.size,1,none⟩=some (.int .u16 (t1:Int)):=(HR1.out.below hb1 HR1.out.lt).cell 1;have x2:w1.cell? ⟨w.heap.size+1,1,none⟩=some (.int .u16 (t2:Int)):=(HR2.out.below hb1 HR2.out.lt).cell 1)
   have hr1:=HR1.out.below hb1 HR1.out.lt
   have hr2:=HR2.out.below hb1 HR2.out.lt
   have x4:w1.cell? ⟨w.heap.size,4,none⟩=some (.slice b1 m1 e1):=hr1.cell 4
   have y4:w1.cell? ⟨w.heap.size+1,4,none⟩=some (.slice b2 m2 e2):=hr2.cell 4
   have SB1:=hide (HB1.out.below hb1 (Nat.le_refl _))
   have SB2:=hide (HB2.out.below hb1 (Nat.le_refl _))
   have HRa:=hide hr1
   have HRb:=hide hr2
   have HBW:=hide (HB.out.trans (hb1.mono HB.out.size))
   clear hr1 hr2 hb1
   have hT1:True:=trivial
   go_cut [6,7] from 8 (fun s6 s7 wc=>s6 = .string ⟨X.toArray⟩/\s7 = .string ⟨Y.toArray⟩/\Below w.heap.size w wc)
   case first =>
    go_region_held3 (fun w'=>w'.cell? ⟨w.heap.size,1,none⟩=some (.int .u16 (t1:Int))/\w'.cell? ⟨w.heap.size,4,none⟩=some (.slice b1 m1 e1)/\w'.cell? ⟨w.heap.size+1,1,none⟩=some (.int .u16 (t2:Int))/\w'.cell? ⟨w.heap.size+1,4,none⟩=some (.slice b2 m2 e2)) (first | exact⟨x1,x4,x2,y4⟩ | exact⟨u1,u4,u2,v4⟩ | exact⟨p1,p4,p2,q4⟩) ((first
     | (go_at_call 94;have hb3q:=HB3.out;clear hb3q;refine (HC2.out _ (by exact SB2c.out)).mono ?_;rintro e w4 ⟨rfl,hb4⟩;have hb4:Below w3.heap.size w3 w4:=(by first | exact hb4 | exact (below_drewN (Below.refl _ w3) 1).trans hb4);have hra:=HRa3.out.below hb4 HRa3.out.lt;have hrb:=HRb3.out.below hb4 HRb3.out.lt;have p1:w4.cell? ⟨w.heap.size,1,none⟩=some (.int .u16 (t1:Int)):=hra.cell 1;have p4:w4.cell? ⟨w.heap.size,4,none⟩=some (.slice b1 m1 e1):=hra.cell 4;have p2:w4.cell? ⟨w.heap.size+1,1,none⟩=some (.int .u16 (t2:Int)):=hrb.cell 1;have q4:w4.cell? ⟨w.heap.size+1,4,none⟩=some (.slice b2 m2 e2):=hrb.cell 4;have HB4:=hide hb4;clear hb4 hra hrb)
     | (go_at_call 94;have hT1q:=hT1;clear hT1q hT1;refine (HC1.out _ (by exact SB1.out)).mono ?_;rintro e w3 ⟨rfl,hb3⟩;have hb3:Below w1.heap.size w1 w3:=(by first | exact hb3 | exact (below_drewN (Below.refl _ w1) 1).trans hb3);have HRa3:=hide (HRa.out.below hb3 HRa.out.lt);have HRb3:=hide (HRb.out.below hb3 HRb.out.lt);have SB2c:=hide (SB2.out.below hb3 (Nat.le_refl _));have u1:w3.cell? ⟨w.heap.size,1,none⟩=some (.int .u16 (t1:Int)):=HRa3.out.cell 1;have u4:w3.cell? ⟨w.heap.size,4,none⟩=some (.slice b1 m1 e1):=HRa3.out.cell 4;have u2:w3.cell? ⟨w.heap.size+1,1,none⟩=some (.int .u16 (t2:Int)):=HRb3.out.cell 1;have v4:w3.cell? ⟨w.heap.size+1,4,none⟩=some (.slice b2 m2 e2):=HRb3.out.cell 4;have HB3:=hide hb3;clear hb3)))
    all_goals go_wp2_with fail
    all_goals go_meet
    all_goals exact⟨rfl,rfl,HBW.out.trans ((HB3.out.trans (HB4.out.mono HB3.out.size)).mono HBW.out.size)⟩
   case rest =>
    obtain⟨rfl,rfl,hbc⟩:=hcut
    go_wp2
    ·rename_i h
     rw[N.less_is] at h
     have hv:V = -1:=by rw[HV.out];simpa using h
     rw[hv]
     go_ret
     exact⟨rfl,hbc⟩
    ·rename_i h h'
     rw[N.less_is] at h
     have hn1:N.cmpB X Y ≠ -1:=by simpa using h
     have hn0:N.cmpB X Y≠0:=fun e=>by rw[N.cmpB_zero.1 e] at h';simp at h'
     have hbd:=N.cmpB_bounds X Y
     have hv:V=1:=by rw[HV.out];omega
     rw[hv]
     go_ret
     exact⟨rfl,hbc⟩
    ·rename_i h h'
     have hXY:X=Y:=by simpa using h'
     have hv:V=0:=by rw[HV.out];exact N.cmpB_zero.2 hXY
     rw[hv]
     go_ret
     exact⟨rfl,hbc⟩
  ·have htb:((t1:Int) != (t2:Int))=true:=by simp;omega
   rw[if_neg (by simp[hq]),if_pos ht]
   by_cases hlt:t1<t2
   ·have hlb:((t1:Int)<(t2:Int)):=by omega
    rw[if_pos hlt]
    clear ht hq
    go_enter Tryz.func90,Tryz.ntmps90
    go_wp2_with (go_at_call 124;rw[<- HW.out];refine hcmp.mono ?_;rintro e w1 ⟨rfl,hb1⟩;have x1:w1.cell? ⟨w.heap.size,1,none⟩=some (.int .u16 (t1:Int)):=(HR1.out.below hb1 HR1.out.lt).cell 1;have x2:w1.cell? ⟨w.heap.size+1,1,none⟩=some (.int .u16 (t2:Int)):=(HR2.out.below hb1 HR2.out.lt).cell 1)
    go_ret
    exact⟨rfl,HB.out.trans (hb1.mono HB.out.size)⟩
   ·have hlb:decide ((t1:Int)<(t2:Int))=false:=by simp;omega
    rw[if_neg hlt]
    clear ht hq
    go_enter Tryz.func90,Tryz.ntmps90
    go_wp2_with (go_at_call 124;rw[<- HW.out];refine hcmp.mono ?_;rintro e w1 ⟨rfl,hb1⟩;have x1:w1.cell? ⟨w.heap.size,1,none⟩=some (.int .u16 (t1:Int)):=(HR1.out.below hb1 HR1.out.lt).cell 1;have x2:w1.cell? ⟨w.heap.size+1,1,none⟩=some (.int .u16 (t2:Int)):=(HR2.out.below hb1 HR2.out.lt).cell 1)
    go_ret
    exact⟨rfl,HB.out.trans (hb1.mono HB.out.size)⟩
 ·have hqb:(q != 0)=true:=by simp[hq]
  rw[if_pos hq]
  clear hq
  go_enter Tryz.func90,Tryz.ntmps90
  go_wp2_with (go_at_call 124;rw[<- HW.out];refine hcmp.mono ?_;rintro e w1 ⟨rfl,hb1⟩;have x1:w1.cell? ⟨w.heap.size,1,none⟩=some (.int .u16 (t1:Int)):=(HR1.out.below hb1 HR1.out.lt).cell 1;have x2:w1.cell? ⟨w.heap.size+1,1,none⟩=some (.int .u16 (t2:Int)):=(HR2.out.below hb1 HR2.out.lt).cell 1)
  go_ret
  exact⟨rfl,HB.out.trans (hb1.mono HB.out.size)⟩
theorem ordV_cmpK (n1 n2:List (List UInt8)) (t1 t2:Nat) (x y:List UInt8) (s1 s2:Nat) (d1 d2:List UInt8):ordV n1 n2 t1 t2 x y=Z.cmpK ⟨path n1,t1,x,s1,d1⟩ ⟨path n2,t2,y,s2,d2⟩:=by
 have e:N.cmpR (path n1) (path n2)=N.cmpN n1 n2:=by
  unfold path N.cmpN
  have e1:(N.lowN n1).reverse=N.lowN n1.reverse:=(List.map_reverse).symm
  have e2:(N.lowN n2).reverse=N.lowN n2.reverse:=(List.map_reverse).symm
  rw[e1,e2,N.cmpR_lowN,N.cmpR_neg,N.cmpR_lowN, <- N.cmpR_neg]
 unfold ordV Z.cmpK
 rw[e]
 by_cases h:N.cmpN n1 n2=0
 ·rw[if_neg (by simp[h]),if_pos h]
  by_cases ht:t1=t2
  ·rw[if_neg (by simp[ht]),if_pos ht]
  ·rw[if_pos ht,if_neg ht]
 ·rw[if_pos h,if_neg h]
open Go.RowKit
def RL (w:World) (base:Nat) (a:Option Addr) (c:Nat) (L:List Z.R):Prop :=
 L.length<=c/\(a=none->c=0)/\(0<L.length -> ∃ g cur,a=some ⟨g,0,none⟩/\base<=g/\w.heap[g]?=some (Obj.cells cur 39) /\ ∀ j x,L[j]?=some x -> ∃ us,us.length=5/\(∀ u∈us,u.oneCell'=true)/\ER w x us /\ ∀ t,t<5->w.cell? ⟨g,j*5+t,none⟩=us[t]?)
theorem RL.nil (w:World) (base:Nat) (a:Option Addr) (c:Nat) (h:a=none->c=0):RL w base a c []:=⟨Nat.zero_le _,h,fun h=>absurd h (by simp)⟩
theorem RL.of_own {w:World} {base n c:Nat} {a:Option Addr} {L:List Z.R} (h:OwnL 39 5 ER w base (.slice a n c) L):RL w base a c L:=by
 obtain⟨a',c',e,h1,h2⟩:=h.slice
 injection e with e1 e2 e3
 subst e1;subst e2;subst e3
 refine⟨h2,h1,fun hn=>?_⟩
 obtain⟨vss,hv,hE⟩:=h
 rcases hv.2 with⟨_,h3⟩ | ⟨g,cap,cur,e,h3,h4,h5⟩
 ·omega
 ·injection e with e1 e2 e3
  subst e1;subst e3
  refine⟨g,cur,rfl,h3,h4,fun j x hx=>?_⟩
  have hj:j<vss.length:=by rw[hE.len];exact (List.getElem?_eq_some_iff.1 hx).1
  obtain⟨k1,k2,k3⟩:=hE.el j x vss[j] hx (List.getElem?_eq_getElem hj)
  refine⟨vss[j],k1,k2,k3,fun t ht=>?_⟩
  have hfl:=flat_get vss (fun us hus=>(hE.sizes).1 us hus) j t vss[j] (List.getElem?_eq_getElem hj) ht
  have hlen:=hE.sizes.2.2
  rw[World.ownsRow.cellAt hv (j*5+t) (by have:j<L.length:=(List.getElem?_eq_some_iff.1 hx).1;omega)]
  exact hfl
theorem RL.kx {w w':World} {base c:Nat} {a:Option Addr} {L:List Z.R} (h:RL w base a c L) (hk:KB w w') (hb : ∀ g cur,base<=g->w.heap[g]?=some (Obj.cells cur 39)->a=some ⟨g,0,none⟩->w'.heap[g]?=w.heap[g]?):RL w' base a c L:=by
 refine⟨h.1,h.2.1,fun hn=>?_⟩
 obtain⟨g,cur,e,h1,h2,h3⟩:=h.2.2 hn
 have hg:=hb g cur h1 h2 e
 refine⟨g,cur,e,h1,hg.trans h2,fun j x hx=>?_⟩
 obtain⟨us,k1,k2,k3,k4⟩:=h3 j x hx
 exact⟨us,k1,k2,k3.kb hk,fun t ht=>by rw[<- k4 t ht];exact World.cell?_of_block hg⟩
theorem RL.bel {w w':World} {base c:Nat} {a:Option Addr} {L:List Z.R} (h:RL w base a c L) (hb:Below w.heap.size w w'):RL w' base a c L :=
 h.kx (KB.of_below hb) fun g _ _ hg _=>hb.block g (Array.getElem?_eq_some_iff.1 hg).1
theorem RL.at_ {w:World} {base c:Nat} {a:Option Addr} {L:List Z.R} (h:RL w base a c L) {j:Nat} {x:Z.R} (hx:L[j]?=some x) : ∃ g na nc da dc,a=some ⟨g,0,none⟩/\w.cell? ⟨g,j*5,none⟩=some (.slice na x.p.length nc)/\w.cell? ⟨g,j*5+1,none⟩=some (.int .u16 (x.t:Int))/\w.cell? ⟨g,j*5+2,none⟩=some (.int .u16 1)/\w.cell? ⟨g,j*5+3,none⟩=some (.int .u32 (x.ttl:Int))/\w.cell? ⟨g,j*5+4,none⟩=some (.slice da x.d.length dc) /\
 TyS w na x.p.reverse/\x.p.length<=nc/\(na=none->nc=0)/\TyL w da x.d/\(da=none->dc=0)/\x.d.length<=dc:=by
 have hj:j<L.length:=(List.getElem?_eq_some_iff.1 hx).1
 obtain⟨g,cur,e,_,_,h3⟩:=h.2.2 (by omega)
 obtain⟨us,_,_,⟨na,nc,da,dc,rfl,k⟩,k4⟩:=h3 j x hx
 exact⟨g,na,nc,da,dc,e,k4 0 (by omega),k4 1 (by omega),k4 2 (by omega),k4 3 (by omega),k4 4 (by omega),k⟩
structure RZAt (w:World) (base m:Nat) (A:List (List UInt8)) (L:List Z.R):Prop where
 row : ∃ aa ac a c,RowAt w m 33 #[.slice aa A.length ac,.slice a L.length c]/\SlS w aa A/\A.length<=ac/\RL w base a c L
 rise:L.Pairwise Z.rlt
 lows:Z.Lows L
 num:L.length<=2000
 thin:Z.Thin L
 okk : ∀ x∈L,x.t<65536/\x.ttl<4294967296/\cn x.t x.d=some x.c/\x.d.length<=8192/\x.p.length<=128
 even : ∀ x∈L,∀ y∈L,x.p=y.p->x.t=y.t->x.ttl=y.ttl
theorem RZAt.bel {w w':World} {base m:Nat} {A:List (List UInt8)} {L:List Z.R} (h:RZAt w base m A L) (hb:Below w.heap.size w w'):RZAt w' base m A L:=by
 obtain⟨aa,ac,a,c,h1,h2,h3,h4⟩:=h.row
 exact { h with row:=⟨aa,ac,a,c,h1.below hb h1.lt,h2.below hb (Nat.le_refl _),h3,h4.bel hb⟩ }
theorem RZAt.small {w:World} {base m:Nat} {A:List (List UInt8)} {L:List Z.R} (h:RZAt w base m A L) {x:Z.R} (hx:x∈L):N.Small x.p.reverse:=by
 have h1:=(h.okk x hx).2.2.2.2
 refine⟨by rw[List.length_reverse];omega,fun l hl=>?_⟩
 have:=h.thin x hx l (by simpa using hl)
 omega
theorem same_path {p n:List (List UInt8)} (hp:Z.Low p):N.same p.reverse n=decide (p=path n):=by
 unfold N.same
 unfold Z.Low at hp
 have e1:N.lowN p.reverse=p.reverse:=by
  have:N.lowN p.reverse=(N.lowN p).reverse:=List.map_reverse
  rw[this,hp]
 rw[e1]
 by_cases h:p=path n
 ·rw[h];unfold path;simp
 ·have h2 : ¬ p.reverse=N.lowN n:=fun e=>h (by unfold path;rw[<- e,List.reverse_reverse])
  simp[h,h2]
open Go.RowKit
structure RM (base m:Nat) (w w':World):Prop where
 os:w'.os=w.os
 tape:w'.tape=w.tape
 output:w'.output=w.output
 size:w.heap.size<=w'.heap.size
 keep : ∀ i,i<w.heap.size->i≠m->(i<base \/ ∀ (cur:Array Value) (fr:Nat × Nat),w.heap[i]?≠some (Obj.cells cur 39 fr))->w'.heap[i]?=w.heap[i]?
 sl : ∀ ao l,SlL w ao l->SlL w' ao l
 ss : ∀ ao l,SlS w ao l->SlS w' ao l
theorem RM.of_below {base m:Nat} {w w':World} (h:Below w.heap.size w w'):RM base m w w':=⟨h.os,h.tape,h.output,h.size,fun i hi _ _=>h.block i hi,fun _ _ hs=>hs.below h (Nat.le_refl _),fun _ _ hs=>hs.below h (Nat.le_refl _)⟩
theorem RM.trans {base m:Nat} {a b c:World} (h:RM base m a b) (k:RM base m b c):RM base m a c :=
 ⟨k.os.trans h.os,k.tape.trans h.tape,k.output.trans h.output,Nat.le_trans h.size k.size,fun i hi h1 h2=>by
  have e:=h.keep i hi h1 h2
  rw[<- e]
  exact k.keep i (Nat.lt_of_lt_of_le hi h.size) h1 (h2.imp id fun h3 cur fr=>by rw[e];exact h3 cur fr),fun _ _ hs=>k.sl _ _ (h.sl _ _ hs),fun _ _ hs=>k.ss _ _ (h.ss _ _ hs)⟩
theorem cell_bm {W W':World} {p:Addr} {v:Value} (hb:Below W.heap.size W W') (h:W.cell? p=some v) (hp:p.block<W.heap.size):W'.cell? p=some v:=by
 rw[<- h];exact World.cell?_of_block (hb.block _ hp)
theorem RL.blk {w:World} {base c:Nat} {g:Nat} {L:List Z.R} (h:RL w base (some ⟨g,0,none⟩) c L) (hn:0<L.length):g<w.heap.size:=by
 obtain⟨g',cur,e,_,h2,_⟩:=h.2.2 hn
 injection e with e;injection e with e _ _;subst e
 exact (Array.getElem?_eq_some_iff.1 h2).1
theorem slS_rz {w:World} {m:Nat} {a b:Option Addr} {n1 c1 n2 c2:Nat} (hr:RowAt w m 33 #[.slice a n1 c1,.slice b n2 c2]) (j:Nat) (v:Value) {ao:Option Addr} {l:List (List UInt8)} (hs:SlS w ao l):SlS (w.setCell ⟨m,j,none⟩ v) ao l:=fun hn=>by
 obtain⟨b1,o,e,hlt,hc⟩:=hs hn
 have hg:b1≠m:=fun e2=>by
  have:=hc 0 hn
  rw[e2,hr.cell] at this
  match o with
  | 0=>simp at this
  | 1=>simp at this
  | o+2=>simp at this
 refine⟨b1,o,e,by rw[World.size_setCell];exact hlt,fun i hi=>?_⟩
 rw[<- hc i hi];exact World.cell?_of_block (heap_setCell_other _ _ _ _ hg)
theorem slL_rz {w:World} {m:Nat} {a b:Option Addr} {n1 c1 n2 c2:Nat} (hr:RowAt w m 33 #[.slice a n1 c1,.slice b n2 c2]) (j:Nat) (v:Value) {ao:Option Addr} {l:List UInt8} (hs:SlL w ao l):SlL (w.setCell ⟨m,j,none⟩ v) ao l:=fun hn=>by
 obtain⟨b1,o,e,hlt,hc⟩:=hs hn
 have hg:b1≠m:=fun e2=>by
  have:=hc 0 hn
  rw[e2,hr.cell] at this
  match o with
  | 0=>simp at this
  | 1=>simp at this
  | o+2=>simp at this
 refine⟨b1,o,e,by rw[World.size_setCell];exact hlt,fun i hi=>?_⟩
 rw[<- hc i hi];exact World.cell?_of_block (heap_setCell_other _ _ _ _ hg)
theorem RL.low {w:World} {base base' c:Nat} {a:Option Addr} {L:List Z.R} (h:RL w base a c L) (hb:base'<=base):RL w base' a c L :=
 ⟨h.1,h.2.1,fun hn=>by obtain⟨g,cur,e,h1,h2⟩:=h.2.2 hn;exact⟨g,cur,e,Nat.le_trans hb h1,h2⟩⟩
theorem RL.rz {w:World} {base c m:Nat} {a:Option Addr} {L:List Z.R} (h:RL w base a c L) {cs:Array Value} (hr:RowAt w m 33 cs) (j:Nat) (v:Value):RL (w.setCell ⟨m,j,none⟩ v) base a c L :=
 h.kx (KB.setCell hr (by decide) j v) fun g cur _ hg _=>heap_setCell_other _ _ _ _ fun e=>by
  have hr':w.heap[m]?=some (Obj.cells cs 33):=hr
  rw[e,hr'] at hg;injection hg with hg;injection hg with _ hg _
  exact absurd hg (by decide)
theorem RM.cell {base m:Nat} {w:World} {a b:Option Addr} {n1 c1 n2 c2:Nat} (hr:RowAt w m 33 #[.slice a n1 c1,.slice b n2 c2]) (j:Nat) (v:Value):RM base m w (w.setCell ⟨m,j,none⟩ v) :=
 ⟨rfl,rfl,rfl,by simp,fun i _ h1 _=>heap_setCell_other _ _ _ _ h1,fun _ _ hs=>slL_rz hr j v hs,fun _ _ hs=>slS_rz hr j v hs⟩
open Go.RowKit
def SegR (w:World) (a:Option Addr) (L:List Z.R) (vss:List (List Value)):Prop:=Els 5 ER w L vss/\(0<L.length -> ∃ g o,a=some ⟨g,o,none⟩/\g<w.heap.size /\ ∀ j u,vss.flatten[j]?=some u->w.cell? ⟨g,o+j,none⟩=some u)
theorem SegR.nil (w:World) (a:Option Addr):SegR w a [] []:=⟨Els.nil _ _ _,fun h=>absurd h (by simp)⟩
theorem SegR.one {w:World} {g o:Nat} {x:Z.R} {us:List Value} (h1:us.length=5) (h2 : ∀ u∈us,u.oneCell'=true) (h3:ER w x us) (hlt:g<w.heap.size) (hc : ∀ j u,us[j]?=some u->w.cell? ⟨g,o+j,none⟩=some u):SegR w (some ⟨g,o,none⟩) [x] [us] :=
 ⟨Els.one h1 h2 h3,fun _=>⟨g,o,rfl,hlt,fun j u hu=>hc j u (by simpa using hu)⟩⟩
theorem RL.seg {w:World} {base c:Nat} {a:Option Addr} {L:List Z.R} (h:RL w base a c L) : ∃ vss,SegR w a L vss:=by
 by_cases hn:0<L.length
 ·obtain⟨g,cur,e,h1,h2,h3⟩:=h.2.2 hn
  have key : ∀ k,k<=L.length -> ∃ vss:List (List Value),vss.length=k /\ ∀ j us,vss[j]?=some us->us.length=5/\(∀ u∈us,u.oneCell'=true)/\(∀ x,L[j]?=some x->ER w x us) /\ ∀ t,t<5->w.cell? ⟨g,j*5+t,none⟩=us[t]?:=by
   intro k
   induction k with
   | zero=>intro _;exact⟨[],rfl,fun j us h=>by simp at h⟩
   | succ k ih =>
    intro hk
    obtain⟨vss,e1,e2⟩:=ih (by omega)
    obtain⟨us,k1,k2,k3,k4⟩:=h3 k _ (List.getElem?_eq_getElem (show k<L.length by omega))
    refine⟨vss ++ [us],by rw[List.length_append,e1];rfl,fun j us' hj=>?_⟩
    by_cases hlt:j<vss.length
    ·rw[List.getElem?_append_left hlt] at hj
     exact e2 j us' hj
    ·rw[List.getElem?_append_right (by omega)] at hj
     have hj0:j - vss.length=0:=by
      have:=(List.getElem?_eq_some_iff.1 hj).1
      simp at this
      omega
     rw[hj0] at hj
     simp at hj
     subst hj
     obtain rfl:j=k:=by omega
     refine⟨k1,k2,fun x hx=>?_,k4⟩
     rw[List.getElem?_eq_getElem (show j<L.length by omega)] at hx
     injection hx with hx
     rw[<- hx];exact k3
  obtain⟨vss,e1,e2⟩:=key L.length (Nat.le_refl _)
  have hE:Els 5 ER w L vss:=⟨e1,fun j x us hx hu=>⟨(e2 j us hu).1,(e2 j us hu).2.1,(e2 j us hu).2.2.1 x hx⟩⟩
  refine⟨vss,hE,fun _=>⟨g,0,e,(Array.getElem?_eq_some_iff.1 h2).1,fun j u hu=>?_⟩⟩
  have hjl:j<L.length*5:=by
   have:=(List.getElem?_eq_some_iff.1 hu).1
   have:=hE.sizes.2.2
   omega
  have hq:j / 5<vss.length:=by omega
  have hf:=flat_get vss hE.sizes.1 (j / 5) (j % 5) _ (List.getElem?_eq_getElem hq) (Nat.mod_lt _ (by omega))
  rw[show j / 5*5+j % 5=j by omega,hu] at hf
  have hc:=(e2 (j / 5) _ (List.getElem?_eq_getElem hq)).2.2.2 (j % 5) (Nat.mod_lt _ (by omega))
  rw[show j / 5*5+j % 5=j by omega, <- hf] at hc
  rw[Nat.zero_add];exact hc
 ·have e:L = []:=List.eq_nil_of_length_eq_zero (by omega)
  subst e
  exact⟨[],SegR.nil w a⟩
theorem take_some {α : Type} {l:List α} {k j:Nat} {x : α} (h:(l.take k)[j]?=some x):j<k/\l[j]?=some x:=by
 rw[List.getElem?_take] at h
 split at h
 ·exact⟨by assumption,h⟩
 ·cases h
theorem Els.take {α : Type} {sz:Nat} {E:World -> α -> List Value->Prop} {w:World} {L:List α} {vss:List (List Value)} (h:Els sz E w L vss) (k:Nat):Els sz E w (L.take k) (vss.take k) :=
 ⟨by rw[List.length_take,List.length_take,h.len],fun j x us hx hu=>h.el j x us (take_some hx).2 (take_some hu).2⟩
theorem Els.drop {α : Type} {sz:Nat} {E:World -> α -> List Value->Prop} {w:World} {L:List α} {vss:List (List Value)} (h:Els sz E w L vss) (k:Nat):Els sz E w (L.drop k) (vss.drop k) :=
 ⟨by rw[List.length_drop,List.length_drop,h.len],fun j x us hx hu=>h.el (k+j) x us (by rw[List.getElem?_drop] at hx;exact hx) (by rw[List.getElem?_drop] at hu;exact hu)⟩
theorem SegR.take {w:World} {a:Option Addr} {L:List Z.R} {vss:List (List Value)} (h:SegR w a L vss) (k:Nat):SegR w a (L.take k) (vss.take k) :=
 ⟨h.1.take k,fun hn=>by
  obtain⟨g,o,e,hlt,hc⟩:=h.2 (by rw[List.length_take] at hn;omega)
  refine⟨g,o,e,hlt,fun j u hu=>hc j u ?_⟩
  have e2:vss.flatten=(vss.take k).flatten++(vss.drop k).flatten:=by rw[<- List.flatten_append,List.take_append_drop]
  rw[e2,List.getElem?_append_left (List.getElem?_eq_some_iff.1 hu).1]
  exact hu⟩
theorem SegR.drop {w:World} {g o:Nat} {a':Option Addr} {L:List Z.R} {vss:List (List Value)} (h:SegR w (some ⟨g,o,none⟩) L vss) (k:Nat) (ha:k<L.length->a'=some ⟨g,o+k*5,none⟩):SegR w a' (L.drop k) (vss.drop k) :=
 ⟨h.1.drop k,fun hn=>by
  have hk:k<L.length:=by rw[List.length_drop] at hn;omega
  obtain⟨g',o',e,hlt,hc⟩:=h.2 (by omega)
  injection e with e;injection e with e1 e2 _
  subst e1;subst e2
  refine⟨g,o+k*5,ha hk,hlt,fun j u hu=>?_⟩
  have e2:vss.flatten=(vss.take k).flatten++(vss.drop k).flatten:=by rw[<- List.flatten_append,List.take_append_drop]
  have e3:(vss.take k).flatten.length=k*5:=by
   rw[(h.1.take k).sizes.2.2,List.length_take]
   congr 1;omega
  have:=hc (k*5+j) u (by rw[e2,List.getElem?_append_right (by omega),e3,Nat.add_sub_cancel_left];exact hu)
  rw[<- Nat.add_assoc] at this
  exact this⟩
theorem run_append_newR {w:World} (ty:TypeId) {L1 L2:List Z.R} {vss1 vss2:List (List Value)} {b a:Option Addr} (n n' m c:Nat) (h1:SegR w b L1 vss1) (hn:L1.length=n) (hb:b=none->n=0) (h2:SegR w a L2 vss2) (hm:L2.length=m) (h0:0<m) (hcap:n'<n+m) (hbd:n+m<=1000000) :
 ∃ v' w',(Builtin.append_ #[31,31] ty #[.slice b n n',.slice a m c]).run Tryz.prog w = .ok v' w'/\OwnL 39 5 ER w' w.heap.size v' (L1++L2)/\Below w.heap.size w w':=by
 obtain⟨i0,hi,hz0,hz1,hz2⟩:=info_parts infoRc
 subst hn
 subst hm
 obtain⟨s1,s2,s3⟩:=h1.1.sizes
 obtain⟨t1,t2,t3⟩:=h2.1.sizes
 obtain⟨g,o,rfl,hlt,hc⟩:=h2.2 h0
 have hsrc:=Src.ofSlice (P:=Tryz.prog) w (size:=i0.size) Tryz.underlying31 ⟨g,o,none⟩ L2.length c vss2.flatten (by rw[hz1];exact t3) (fun j u hu=>by rw[Addr.add_mid];exact hc j u hu) t2
 have hold:(Builtin.firstCells i0.size L1.length (.slice b L1.length n')).run Tryz.prog w.drew = .ok vss1.flatten.toArray w.drew:=by
  cases b with
  | none =>
   have e0:=hb rfl
   have e1:vss1 = []:=List.eq_nil_of_length_eq_zero (by rw[h1.1.len,e0])
   rw[e1]
   exact run_firstCells_none _ _ _ _ _
  | some bb =>
   by_cases hL:0<L1.length
   ·obtain⟨g1,o1,e,hlt1,hc1⟩:=h1.2 hL
    injection e with e;subst e
    exact run_firstCells_some _ _ _ _ _ _ _ (by rw[hz1];exact s3) (fun j u hu=>by rw[Addr.add_mid];exact hc1 j u hu)
   ·have e1:vss1 = []:=List.eq_nil_of_length_eq_zero (by rw[h1.1.len];omega)
    rw[e1]
    exact run_firstCells_some _ _ _ _ _ _ _ (by rw[show L1.length=0 by omega];simp) (fun j u hu=>by simp at hu)
 have hr:=run_append_grow_src (P:=Tryz.prog) w 31 31 ty 39 i0 _ Tryz.underlying31 hi hz0 b L1.length n' vss1.flatten hold _ L2.length vss2.flatten hsrc hcap (by omega) (growslice_fits hcap (by rw[hz2];omega))
 have hd:Below w.heap.size w w.drew:=⟨rfl,rfl,rfl,Nat.le_refl _,fun _ _=>rfl⟩
 have hbl:=hd.alloc (Nat.le_refl _) (.cells ((vss1.flatten++vss2.flatten).toArray++Builtin.zeroCells (Value.agg #[.slice none 0 0,.int .u16 0,.int .u16 0,.int .u32 0,.slice none 0 0]).cells (grownCap w (L1.length+L2.length) n' 39 - (L1.length+L2.length))) 39)
 refine⟨_,_,hr,⟨vss1++vss2,⟨?_,.inr ⟨w.heap.size,grownCap w (L1.length+L2.length) n' 39,_,?_,Nat.le_refl _,heap_alloc_new w.drew _,?_,?_,?_,?_⟩⟩,(h1.1.kb fun _ _ k=>k.kb (KB.of_below hbl)).app (h2.1.kb fun _ _ k=>k.kb (KB.of_below hbl))⟩,hbl⟩
 ·rw[List.flatten_append,List.length_append,List.length_append,s3,t3,Nat.add_mul]
 ·rw[List.length_append]
 ·rw[List.length_append];exact grownCap_ge w _ _ _
 ·exact grownCap_le_maxLen w _ _ _ (by unfold maxLen;omega)
 ·have hge:=grownCap_ge w (L1.length+L2.length) n' 39
  simp only[Array.size_append,List.size_toArray,size_zeroCells,List.length_append,s3,t3]
  rw[show (Value.agg #[.slice none 0 0,.int .u16 0,.int .u16 0,.int .u32 0,.slice none 0 0]).cells.size=5 from rfl]
  omega
 ·simp only[Array.toList_append]
  rw[List.flatten_append]
  have e:(L1++L2).length*5=(vss1.flatten++vss2.flatten).length:=by rw[List.length_append,List.length_append,s3,t3,Nat.add_mul]
  rw[e]
  exact List.take_left
theorem wp_append_newR {o:Oper} {a:Act} {w:World} {K:Act->World->Prop} {Q:Exit->Act->World->Prop} (s x:Operand)
 (ho:o.op = .call { callee := .builtin .append,args := #[s,x],argTypes := #[31,31] }) {L1 L2:List Z.R} {vss1 vss2:List (List Value)} {b a2:Option Addr} (n n' m c:Nat) (hs:a.eval s = .slice b n n') (h1:SegR w b L1 vss1) (hn:L1.length=n) (hb:b=none->n=0)
 (hx:a.eval x = .slice a2 m c) (h2:SegR w a2 L2 vss2) (hm:L2.length=m) (h0:0<m) (hcap:n'<n+m) (hbd:n+m<=1000000)
 (h : ∀ v' w',OwnL 39 5 ER w' w.heap.size v' (L1++L2)->Below w.heap.size w w'->K (a.put o.dst v') w'):Oper.wp Tryz.prog o a w K Q:=by
 obtain⟨v',w',hr,k2,k3⟩:=run_append_newR o.type n n' m c h1 hn hb h2 hm h0 hcap hbd
 unfold Oper.wp execOp
 simp only[ho,resolve,invoke,builtin,Sem.run_bind,Sem.run_pure,Result.andThen_ok,List.map_toArray,List.map_cons,List.map_nil,hs,hx,hr]
 exact h v' w' k2 k3
theorem step_append_newR {ops:Array Oper} {o:Oper} {a:Act} {w:World} {K:Act->World->Prop} {Q:Exit->Act->World->Prop} {E:Prop} (hgd:o.guard=none) (s x:Operand)
 (ho:o.op = .call { callee := .builtin .append,args := #[s,x],argTypes := #[31,31] }) {L1 L2:List Z.R} {vss1 vss2:List (List Value)} {b a2:Option Addr} (n n' m c:Nat) (hs:a.eval s = .slice b n n') (h1:SegR w b L1 vss1) (hn:L1.length=n) (hb:b=none->n=0)
 (hx:a.eval x = .slice a2 m c) (h2:SegR w a2 L2 vss2) (hm:L2.length=m) (h0:0<m) (hcap:n'<n+m) (hbd:n+m<=1000000)
 (h : ∀ v' w',OwnL 39 5 ER w' w.heap.size v' (L1++L2)->Below w.heap.size w w'->K (a.put o.dst v') w'):if Region.wanted o (yielded ops a.tmps)=true then Oper.wp Tryz.prog o a w K Q else E:=by
 have hw:Region.wanted o (yielded ops a.tmps)=true:=by simp[Region.wanted,hgd]
 rw[if_pos hw]
 exact wp_append_newR s x ho n n' m c hs h1 hn hb hx h2 hm h0 hcap hbd h
theorem run_append_same (a:Option Addr) (n:Nat) (a2:Option Addr) (c2:Nat) (ty:TypeId) (w:World):(Builtin.append_ #[31,31] ty #[.slice a n n,.slice a2 0 c2]).run Tryz.prog w = .ok (.slice a n n) w:=by
 obtain⟨i0,hi,hz0,hz1,hz2⟩:=info_parts infoRc
 have hl : ∀ (x:Addr) (W:World),(loadCells x 0).run Tryz.prog W = .ok #[] W:=fun x W=>by simpa using run_loadCells_list (P:=Tryz.prog) W x [] (by simp)
 cases a2 <;> cases a <;> simp[Builtin.append_,run_underlying Tryz.underlying31,sizeOf,typeInfo,hi,Builtin.lenOf,Builtin.firstCells,storeCells,hl]
open Go
section
variable {P:Program} {ops:Array Oper} {Q:Exit->Act->World->Prop} {md:Region.Mode} {S:World->Prop} {jS:Nat}
def wpAnyX (P:Program) (md:Region.Mode) (ops:Array Oper) (Q:Exit->Act->World->Prop) (S:World->Prop) (jS:Nat):Nat->Array Bool->Act->World->Prop
 | 0,listed,a,w=>Region.ready md ops listed = []/\Q .normal a w
 | fuel+1,listed,a,w =>
  (Region.ready md ops listed = []->Q .normal a w) /\
  ∀ i∈Region.ready md ops listed,wpOp P ops Q i (fun a' w'=>(i=jS\/S w')/\wpAnyX P md ops Q S jS fuel (listed.setIfInBounds i true) a' w') a w
theorem wpAny_of_X : ∀ (fuel:Nat) (listed:Array Bool) (a:Act) (w:World),wpAnyX P md ops Q S jS fuel listed a w->wpAny P md ops Q fuel listed a w
 | 0,_,_,_,h=>h
 | fuel+1,_,_,_,h=>⟨h.1,fun i hi=>wpOp_mono (fun a' w' h'=>wpAny_of_X fuel _ a' w' h'.2) (h.2 i hi)⟩
theorem wpAnyX_first {i:Nat} {oi:Oper} {v:Value} (hi:ops[i]?=some oi) (hsel : ∀ (j:Nat) (o:Oper) cs b,ops[j]?=some o->o.op ≠ .select cs b)
 (hQ : ∀ c a w,Q (.panic c) (a.put oi.dst v) w->Q (.panic c) a w) (hjS : ∀ oj,ops[jS]?=some oj -> ∃ e∈oj.after,Region.binds md e=true/\e.on=i) :
 ∀ (fuel:Nat) (listed:Array Bool) (a:Act) (w:World),
  (∀ j oj,ops[j]?=some oj->j≠i->listed.getD j true=false->(∀ e∈oj.after,Region.binds md e=true->e.on≠i)->oi.apart ops oj=true) ->
  i∈Region.ready md ops listed->YieldsIf P ops S oi v a->S w ->
  wpAnyX P md ops Q S jS fuel (listed.setIfInBounds i true) (a.put oi.dst v) w->wpAnyX P md ops Q S jS (fuel+1) listed a w:=by
 intro fuel
 induction fuel with
 | zero =>
  intro listed a w _ hr hy hS H
  refine⟨fun h=>(by rw[h] at hr;cases hr),fun j hj=>?_⟩
  by_cases hji:j=i
  ·subst hji;exact hy.wpOp hi hS ⟨Or.inr hS,H⟩
  ·have:=ready_mono hj hji
   rw[H.1] at this
   cases this
 | succ fuel ih =>
  intro listed a w hfree hr hy hS H
  refine⟨fun h=>(by rw[h] at hr;cases hr),fun j hj=>?_⟩
  by_cases hji:j=i
  ·subst hji;exact hy.wpOp hi hS ⟨Or.inr hS,H⟩
  ·have h1:=H.2 j (ready_mono hj hji)
   obtain⟨hjun,oj,hoj,hall⟩:=mem_ready.1 hj
   have hnot : ∀ e∈oj.after,Region.binds md e=true->e.on≠i:=fun e he hb heq=>by
    have h1:=hall e he hb
    have h0:=(mem_ready.1 hr).1
    rw[heq] at h1
    rcases Nat.lt_or_ge i listed.size with h' | h'
    ·simp[h'] at h0 h1;rw[h0] at h1;cases h1
    ·simp[Array.getElem?_eq_none h'] at h1
   have h2:=wpOp_putIf hoj (hfree j oj hoj hji hjun hnot) (fun cs b=>hsel i oi cs b hi) (fun cs b=>hsel j oj cs b hoj) hQ hy h1
   have hfree' : ∀ k ok,ops[k]?=some ok->k≠i->(listed.setIfInBounds j true).getD k true=false ->
    (∀ e∈ok.after,Region.binds md e=true->e.on≠i)->oi.apart ops ok=true:=fun k ok hk hki hun hno=>by
    refine hfree k ok hk hki ?_ hno
    by_cases hjk:j=k
    ·subst hjk;exact hjun
    ·rw[getD_set_ne true hjk] at hun;exact hun
   have hne:j≠jS:=fun e=>by
    subst e
    obtain⟨e,he,hb,hon⟩:=hjS oj hoj
    exact hnot e he hb hon
   refine wpOp_mono (fun a' w' h3=>?_) h2
   have hS':S w':=h3.2.1.resolve_left hne
   refine⟨Or.inr hS',ih (listed.setIfInBounds j true) a' w' hfree' (ready_mono hr (Ne.symm hji)) h3.1 hS' ?_⟩
   rw[Array.setIfInBounds_comm _ _ hji]
   exact h3.2.2
def waits (md:Region.Mode) (ops:Array Oper) (jS i:Nat):Bool:=match ops[jS]? with | some oj=>oj.after.any (fun e=>Region.binds md e && e.on == i) | none=>true
theorem waits_spec {i:Nat} (h:waits md ops jS i=true) : ∀ oj,ops[jS]?=some oj -> ∃ e∈oj.after,Region.binds md e=true/\e.on=i:=by
 intro oj hoj
 unfold waits at h
 rw[hoj] at h
 simp only[Array.any_eq_true,Bool.and_eq_true,beq_iff_eq] at h
 obtain⟨n,hn,h1,h2⟩:=h
 exact⟨_,Array.getElem_mem hn,h1,h2⟩
theorem wpAnyX_take {i:Nat} {oi:Oper} {v:Value} {fuel:Nat} {listed:Array Bool} {a:Act} {w:World} (hi:ops[i]?=some oi)
 (hs:Region.noSelect ops=true) (hf:Region.free md ops listed i=true) (hr:(Region.ready md ops listed).contains i=true) (hwt:waits md ops jS i=true)
 (hQ : ∀ c a w,Q (.panic c) (a.put oi.dst v) w->Q (.panic c) a w) (hy:YieldsIf P ops S oi v a) (hS:S w)
 (h:wpAnyX P md ops Q S jS fuel (listed.setIfInBounds i true) (a.put oi.dst v) w):wpAnyX P md ops Q S jS (fuel+1) listed a w :=
 wpAnyX_first hi (Region.noSelect_spec hs) hQ (waits_spec hwt) fuel listed a w (Region.free_spec hi hf) (by simpa using hr) hy hS h
theorem wpAnyX_done {listed:Array Bool} {a:Act} {w:World} (hr:Region.ready md ops listed = []) (h:Q .normal a w) :
 ∀ fuel,wpAnyX P md ops Q S jS fuel listed a w
 | 0=>⟨hr,h⟩
 | _+1=>⟨fun _=>h,by rw[hr];simp⟩
theorem wp_region_X {id:Nat} {a:Act} {w:World} (hm:P.follows .mixedOrders=true)
 (h:wpAnyX P .any ops Q S jS ops.size (Array.replicate ops.size false) a w.drew):(Code.region id ops true).wp P Q a w :=
 wp_region_any hm (wpAny_of_X _ _ _ _ h)
def AllX (P:Program) (md:Region.Mode) (ops:Array Oper) (Q:Exit->Act->World->Prop) (S:World->Prop) (jS:Nat) (fuel:Nat) (listed:Array Bool) (a:Act) (w:World) (rs:List Nat):Prop :=
 ∀ i∈rs,wpOp P ops Q i (fun a' w'=>(i=jS\/S w')/\wpAnyX P md ops Q S jS fuel (listed.setIfInBounds i true) a' w') a w
theorem AllX.nil {fuel:Nat} {listed:Array Bool} {a:Act} {w:World} : AllX P md ops Q S jS fuel listed a w []:=fun _ h=>by cases h
theorem AllX.cons {fuel:Nat} {listed:Array Bool} {a:Act} {w:World} {i:Nat} {o:Oper} {rs:List Nat} (ho:ops[i]?=some o)
 (h : ∀ K':Act->World->Prop,Shut (∀ a w,(i=jS\/S w)->wpAnyX P md ops Q S jS fuel (listed.setIfInBounds i true) a w->K' a w)->if Region.wanted o (yielded ops a.tmps)=true then Oper.wp P o a w K' Q else K' (a.put o.dst undef) w)
 (hs:AllX P md ops Q S jS fuel listed a w rs):AllX P md ops Q S jS fuel listed a w (i::rs):=fun j hj=>by
 rcases List.mem_cons.1 hj with rfl | hj
 ·exact wpOp_step ho (fun K' hK=>h K' (fun a w hS hW=>hK a w ⟨hS,hW⟩))
 ·exact hs j hj
theorem wpAnyX_ready {rs:List Nat} {fuel:Nat} {listed:Array Bool} {a:Act} {w:World} (hr:Region.ready md ops listed=rs) (hne:rs ≠ [])
 (h:AllX P md ops Q S jS fuel listed a w rs):wpAnyX P md ops Q S jS (fuel+1) listed a w:=⟨fun h0=>absurd (hr ▸ h0) hne,hr ▸ h⟩
end
open Go.RowKit
theorem step_fng {ops:Array Oper} {o:Oper} {a:Act} {w:World} {K:Act->World->Prop} {Q:Exit->Act->World->Prop} {E:Prop} (hw:Region.wanted o (yielded ops a.tmps)=true) (f:FuncId) (vals:Array Value)
 (hx:(execOp a.eval o).run Tryz.prog w = .ok (.enter f vals) w) {R:Ending->World->Prop} (hc:Calls Tryz.prog f vals w R) (hr : ∀ e w',R e w' -> ∃ v,e = .returned v)
 (h : ∀ v w',R (.returned v) w'->K (a.put o.dst v) w'):if Region.wanted o (yielded ops a.tmps)=true then Oper.wp Tryz.prog o a w K Q else E:=by
 rw[if_pos hw]
 unfold Oper.wp
 rw[hx,Oper.upon_enter]
 refine hc.mono fun e w' he=>?_
 obtain⟨v,rfl⟩:=hr e w' he
 exact h v w' he
section
variable {α : Type} {x0 x1 x2 x3 x4 x5 x6 x7 x8 x9 x10 x11 x12 x13 x14 x15 x16 x17 x18 x19 x20 x21 x22 x23 x24 x25 x26 x27 x28 x29 x30 x31 x32 x33 x34 x35 x36 x37 x38 x39 x40 x41 x42 x43 x44 : α} {l:List α}
theorem gt0:(List.toArray (x0::l))[0]?=some x0:=rfl
theorem gt1:(List.toArray (x0::x1::l))[1]?=some x1:=rfl
theorem gt2:(List.toArray (x0::x1::x2::l))[2]?=some x2:=rfl
theorem gt3:(List.toArray (x0::x1::x2::x3::l))[3]?=some x3:=rfl
theorem gt4:(List.toArray (x0::x1::x2::x3::x4::l))[4]?=some x4:=rfl
theorem gt5:(List.toArray (x0::x1::x2::x3::x4::x5::l))[5]?=some x5:=rfl
theorem gt6:(List.toArray (x0::x1::x2::x3::x4::x5::x6::l))[6]?=some x6:=rfl
theorem gt7:(List.toArray (x0::x1::x2::x3::x4::x5::x6::x7::l))[7]?=some x7:=rfl
theorem gt8:(List.toArray (x0::x1::x2::x3::x4::x5::x6::x7::x8::l))[8]?=some x8:=rfl
theorem gt9:(List.toArray (x0::x1::x2::x3::x4::x5::x6::x7::x8::x9::l))[9]?=some x9:=rfl
theorem gt10:(List.toArray (x0::x1::x2::x3::x4::x5::x6::x7::x8::x9::x10::l))[10]?=some x10:=rfl
theorem gt11:(List.toArray (x0::x1::x2::x3::x4::x5::x6::x7::x8::x9::x10::x11::l))[11]?=some x11:=rfl
theorem gt12:(List.toArray (x0::x1::x2::x3::x4::x5::x6::x7::x8::x9::x10::x11::x12::l))[12]?=some x12:=rfl
theorem gt13:(List.toArray (x0::x1::x2::x3::x4::x5::x6::x7::x8::x9::x10::x11::x12::x13::l))[13]?=some x13:=rfl
theorem gt14:(List.toArray (x0::x1::x2::x3::x4::x5::x6::x7::x8::x9::x10::x11::x12::x13::x14::l))[14]?=some x14:=rfl
theorem gt15:(List.toArray (x0::x1::x2::x3::x4::x5::x6::x7::x8::x9::x10::x11::x12::x13::x14::x15::l))[15]?=some x15:=rfl
theorem gt16:(List.toArray (x0::x1::x2::x3::x4::x5::x6::x7::x8::x9::x10::x11::x12::x13::x14::x15::x16::l))[16]?=some x16:=rfl
theorem gt17:(List.toArray (x0::x1::x2::x3::x4::x5::x6::x7::x8::x9::x10::x11::x12::x13::x14::x15::x16::x17::l))[17]?=some x17:=rfl
theorem gt18:(List.toArray (x0::x1::x2::x3::x4::x5::x6::x7::x8::x9::x10::x11::x12::x13::x14::x15::x16::x17::x18::l))[18]?=some x18:=rfl
theorem gt19:(List.toArray (x0::x1::x2::x3::x4::x5::x6::x7::x8::x9::x10::x11::x12::x13::x14::x15::x16::x17::x18::x19::l))[19]?=some x19:=rfl
theorem gt20:(List.toArray (x0::x1::x2::x3::x4::x5::x6::x7::x8::x9::x10::x11::x12::x13::x14::x15::x16::x17::x18::x19::x20::l))[20]?=some x20:=rfl
theorem gt21:(List.toArray (x0::x1::x2::x3::x4::x5::x6::x7::x8::x9::x10::x11::x12::x13::x14::x15::x16::x17::x18::x19::x20::x21::l))[21]?=some x21:=rfl
theorem gt22:(List.toArray (x0::x1::x2::x3::x4::x5::x6::x7::x8::x9::x10::x11::x12::x13::x14::x15::x16::x17::x18::x19::x20::x21::x22::l))[22]?=some x22:=rfl
theorem gt23:(List.toArray (x0::x1::x2::x3::x4::x5::x6::x7::x8::x9::x10::x11::x12::x13::x14::x15::x16::x17::x18::x19::x20::x21::x22::x23::l))[23]?=some x23:=rfl
theorem gt24:(List.toArray (x0::x1::x2::x3::x4::x5::x6::x7::x8::x9::x10::x11::x12::x13::x14::x15::x16::x17::x18::x19::x20::x21::x22::x23::x24::l))[24]?=some x24:=rfl
theorem gt25:(List.toArray (x0::x1::x2::x3::x4::x5::x6::x7::x8::x9::x10::x11::x12::x13::x14::x15::x16::x17::x18::x19::x20::x21::x22::x23::x24::x25::l))[25]?=some x25:=rfl
theorem gt26:(List.toArray (x0::x1::x2::x3::x4::x5::x6::x7::x8::x9::x10::x11::x12::x13::x14::x15::x16::x17::x18::x19::x20::x21::x22::x23::x24::x25::x26::l))[26]?=some x26:=rfl
theorem gt27:(List.toArray (x0::x1::x2::x3::x4::x5::x6::x7::x8::x9::x10::x11::x12::x13::x14::x15::x16::x17::x18::x19::x20::x21::x22::x23::x24::x25::x26::x27::l))[27]?=some x27:=rfl
theorem gt28:(List.toArray (x0::x1::x2::x3::x4::x5::x6::x7::x8::x9::x10::x11::x12::x13::x14::x15::x16::x17::x18::x19::x20::x21::x22::x23::x24::x25::x26::x27::x28::l))[28]?=some x28:=rfl
theorem gt29:(List.toArray (x0::x1::x2::x3::x4::x5::x6::x7::x8::x9::x10::x11::x12::x13::x14::x15::x16::x17::x18::x19::x20::x21::x22::x23::x24::x25::x26::x27::x28::x29::l))[29]?=some x29:=rfl
theorem gt30:(List.toArray (x0::x1::x2::x3::x4::x5::x6::x7::x8::x9::x10::x11::x12::x13::x14::x15::x16::x17::x18::x19::x20::x21::x22::x23::x24::x25::x26::x27::x28::x29::x30::l))[30]?=some x30:=rfl
theorem gt31:(List.toArray (x0::x1::x2::x3::x4::x5::x6::x7::x8::x9::x10::x11::x12::x13::x14::x15::x16::x17::x18::x19::x20::x21::x22::x23::x24::x25::x26::x27::x28::x29::x30::x31::l))[31]?=some x31:=rfl
theorem gt32:(List.toArray (x0::x1::x2::x3::x4::x5::x6::x7::x8::x9::x10::x11::x12::x13::x14::x15::x16::x17::x18::x19::x20::x21::x22::x23::x24::x25::x26::x27::x28::x29::x30::x31::x32::l))[32]?=some x32:=rfl
theorem gt33:(List.toArray (x0::x1::x2::x3::x4::x5::x6::x7::x8::x9::x10::x11::x12::x13::x14::x15::x16::x17::x18::x19::x20::x21::x22::x23::x24::x25::x26::x27::x28::x29::x30::x31::x32::x33::l))[33]?=some x33:=rfl
theorem gt34:(List.toArray (x0::x1::x2::x3::x4::x5::x6::x7::x8::x9::x10::x11::x12::x13::x14::x15::x16::x17::x18::x19::x20::x21::x22::x23::x24::x25::x26::x27::x28::x29::x30::x31::x32::x33::x34::l))[34]?=some x34:=rfl
theorem gt35:(List.toArray (x0::x1::x2::x3::x4::x5::x6::x7::x8::x9::x10::x11::x12::x13::x14::x15::x16::x17::x18::x19::x20::x21::x22::x23::x24::x25::x26::x27::x28::x29::x30::x31::x32::x33::x34::x35::l))[35]?=some x35:=rfl
theorem gt36:(List.toArray (x0::x1::x2::x3::x4::x5::x6::x7::x8::x9::x10::x11::x12::x13::x14::x15::x16::x17::x18::x19::x20::x21::x22::x23::x24::x25::x26::x27::x28::x29::x30::x31::x32::x33::x34::x35::x36::l))[36]?=some x36:=rfl
theorem gt37:(List.toArray (x0::x1::x2::x3::x4::x5::x6::x7::x8::x9::x10::x11::x12::x13::x14::x15::x16::x17::x18::x19::x20::x21::x22::x23::x24::x25::x26::x27::x28::x29::x30::x31::x32::x33::x34::x35::x36::x37::l))[37]?=some x37:=rfl
theorem gt38:(List.toArray (x0::x1::x2::x3::x4::x5::x6::x7::x8::x9::x10::x11::x12::x13::x14::x15::x16::x17::x18::x19::x20::x21::x22::x23::x24::x25::x26::x27::x28::x29::x30::x31::x32::x33::x34::x35::x36::x37::x38::l))[38]?=some x38:=rfl
theorem gt39:(List.toArray (x0::x1::x2::x3::x4::x5::x6::x7::x8::x9::x10::x11::x12::x13::x14::x15::x16::x17::x18::x19::x20::x21::x22::x23::x24::x25::x26::x27::x28::x29::x30::x31::x32::x33::x34::x35::x36::x37::x38::x39::l))[39]?=some x39:=rfl
theorem gt40:(List.toArray (x0::x1::x2::x3::x4::x5::x6::x7::x8::x9::x10::x11::x12::x13::x14::x15::x16::x17::x18::x19::x20::x21::x22::x23::x24::x25::x26::x27::x28::x29::x30::x31::x32::x33::x34::x35::x36::x37::x38::x39::x40::l))[40]?=some x40:=rfl
theorem gt41:(List.toArray (x0::x1::x2::x3::x4::x5::x6::x7::x8::x9::x10::x11::x12::x13::x14::x15::x16::x17::x18::x19::x20::x21::x22::x23::x24::x25::x26::x27::x28::x29::x30::x31::x32::x33::x34::x35::x36::x37::x38::x39::x40::x41::l))[41]?=some x41:=rfl
theorem gt42:(List.toArray (x0::x1::x2::x3::x4::x5::x6::x7::x8::x9::x10::x11::x12::x13::x14::x15::x16::x17::x18::x19::x20::x21::x22::x23::x24::x25::x26::x27::x28::x29::x30::x31::x32::x33::x34::x35::x36::x37::x38::x39::x40::x41::x42::l))[42]?=some x42:=rfl
theorem gt43:(List.toArray (x0::x1::x2::x3::x4::x5::x6::x7::x8::x9::x10::x11::x12::x13::x14::x15::x16::x17::x18::x19::x20::x21::x22::x23::x24::x25::x26::x27::x28::x29::x30::x31::x32::x33::x34::x35::x36::x37::x38::x39::x40::x41::x42::x43::l))[43]?=some x43:=rfl
theorem gt44:(List.toArray (x0::x1::x2::x3::x4::x5::x6::x7::x8::x9::x10::x11::x12::x13::x14::x15::x16::x17::x18::x19::x20::x21::x22::x23::x24::x25::x26::x27::x28::x29::x30::x31::x32::x33::x34::x35::x36::x37::x38::x39::x40::x41::x42::x43::x44::l))[44]?=some x44:=rfl
end
section
variable {P:Program} {ops:Array Oper} {Q:Exit->Act->World->Prop} {md:Region.Mode} {S:World->Prop} {jS:Nat}
theorem tk {i:Nat} {oi:Oper} {v:Value} {fuel:Nat} {listed l2:Array Bool} {a a2:Act} {w:World} (hi:ops[i]?=some oi) (hS:S w) (h:wpAnyX P md ops Q S jS fuel l2 a2 w)
 (hs:Region.noSelect ops=true:=by kernel_rfl) (hf:Region.free md ops listed i=true:=by kernel_rfl) (hr:(Region.ready md ops listed).contains i=true:=by kernel_rfl) (hwt:waits md ops jS i=true:=by kernel_rfl)
 (hQ : ∀ c a w,Q (.panic c) (a.put oi.dst v) w->Q (.panic c) a w:=by exact fun _ _ _ h=>h) (hwa:Region.wanted oi (yielded ops a.tmps)=true:=by rfl)
 (hy : ∀ w,S w->(execOp a.eval oi).run P w = .ok (.value v) w:=by (intro wq hSw;(try dsimp only at hSw);go_simp;try (with_reducible rfl)))
 (hl:listed.setIfInBounds i true=l2:=by ((try simp only[Act.put,List.setIfInBounds_toArray,List.set_cons_zero,List.set_cons_succ]);rfl)) (ha:a.put oi.dst v=a2:=by ((try simp only[Act.put,List.setIfInBounds_toArray,List.set_cons_zero,List.set_cons_succ]);rfl)):wpAnyX P md ops Q S jS (fuel+1) listed a w :=
 wpAnyX_take hi hs hf hr hwt hQ (Or.inl ⟨hwa,hy⟩) hS (by rw[hl,ha];exact h)
theorem tu {i:Nat} {oi:Oper} {fuel:Nat} {listed l2:Array Bool} {a a2:Act} {w:World} (hi:ops[i]?=some oi) (hS:S w) (h:wpAnyX P md ops Q S jS fuel l2 a2 w)
 (hs:Region.noSelect ops=true:=by kernel_rfl) (hf:Region.free md ops listed i=true:=by kernel_rfl) (hr:(Region.ready md ops listed).contains i=true:=by kernel_rfl) (hwt:waits md ops jS i=true:=by kernel_rfl)
 (hQ : ∀ c a w,Q (.panic c) (a.put oi.dst undef) w->Q (.panic c) a w:=by exact fun _ _ _ h=>h) (hwa:Region.wanted oi (yielded ops a.tmps)=false:=by rfl)
 (hl:listed.setIfInBounds i true=l2:=by ((try simp only[Act.put,List.setIfInBounds_toArray,List.set_cons_zero,List.set_cons_succ]);rfl)) (ha:a.put oi.dst undef=a2:=by ((try simp only[Act.put,List.setIfInBounds_toArray,List.set_cons_zero,List.set_cons_succ]);rfl)):wpAnyX P md ops Q S jS (fuel+1) listed a w :=
 wpAnyX_take hi hs hf hr hwt hQ (Or.inr ⟨hwa,rfl⟩) hS (by rw[hl,ha];exact h)
theorem kk {i fuel:Nat} {listed l2:Array Bool} {a a2:Act} {w:World} {K':Act->World->Prop} (hKK:Shut (∀ a w,(i=jS\/S w)->wpAnyX P md ops Q S jS fuel (listed.setIfInBounds i true) a w->K' a w)) (hS:i=jS\/S w) (h:wpAnyX P md ops Q S jS fuel l2 a2 w)
 (hl:listed.setIfInBounds i true=l2:=by ((try simp only[Act.put,List.setIfInBounds_toArray,List.set_cons_zero,List.set_cons_succ]);rfl)) (ha:a=a2:=by ((try simp only[Act.put,List.setIfInBounds_toArray,List.set_cons_zero,List.set_cons_succ]);rfl)):K' a w :=
 hKK.out _ _ hS (by rw[hl,ha];exact h)
theorem rdy {i fuel:Nat} {o:Oper} {listed:Array Bool} {a:Act} {w:World} (ho:ops[i]?=some o) (h : ∀ K':Act->World->Prop,Shut (∀ a w,(i=jS\/S w)->wpAnyX P md ops Q S jS fuel (listed.setIfInBounds i true) a w->K' a w)->if Region.wanted o (yielded ops a.tmps)=true then Oper.wp P o a w K' Q else K' (a.put o.dst undef) w) (hr:Region.ready md ops listed = [i]:=by kernel_rfl):wpAnyX P md ops Q S jS (fuel+1) listed a w :=
 wpAnyX_ready hr (by simp) (AllX.cons ho h AllX.nil)
end
open Go.RowKit
open Go.RowKit
namespace Z
theorem lead_len : ∀ {L:List R} {r:R} {j:Nat},(∀ i x,i<j->L[i]?=some x->cmpK x r<0)->j<=L.length->(∀ x,L[j]?=some x -> ¬ cmpK x r<0)->lead L r=L.take j/\rear L r=L.drop j
 | [],_,_,_,_,_=>by simp[lead,rear]
 | y::L,r,0,_,_,h2=>by
  have hy:=h2 y rfl
  unfold lead rear
  rw[List.takeWhile_cons,List.dropWhile_cons,if_neg (by simpa using hy),if_neg (by simpa using hy)]
  simp
 | y::L,r,j+1,h1,hj,h2=>by
  have hy:=h1 0 y (Nat.zero_lt_succ j) rfl
  have ih:=lead_len (L:=L) (r:=r) (j:=j) (fun i x hi hx=>h1 (i+1) x (Nat.succ_lt_succ hi) (by simpa using hx)) (by simpa using hj) (fun x hx=>h2 x (by simpa using hx))
  unfold lead rear at ih ⊢
  rw[List.takeWhile_cons,List.dropWhile_cons,if_pos (by simpa using hy),if_pos (by simpa using hy),ih.1,ih.2]
  simp
theorem ins_at {L:List R} {r:R} {j:Nat} (h1 : ∀ i x,i<j->L[i]?=some x->cmpK x r<0) (hj:j<=L.length) (h2 : ∀ x,L[j]?=some x -> ¬ cmpK x r<0):ins L r=L.take j++([r]++L.drop j):=by
 obtain⟨e1,e2⟩:=lead_len h1 hj h2
 unfold ins
 rw[e1,e2];rfl
theorem cmpK_cong {a b:R} (r:R) (hp:a.p=b.p) (ht:a.t=b.t) (hc:a.c=b.c):cmpK r a=cmpK r b:=by
 unfold cmpK;rw[hp,ht,hc]
theorem there_at {L:List R} (hr:L.Pairwise rlt) (hl:Lows L) {r:R} (hw:Low r.p) {j:Nat} (h1 : ∀ i x,i<j->L[i]?=some x->cmpK x r<0) (h2 : ∀ x,L[j]?=some x -> ¬ cmpK x r<0):there L r=true ↔ ∃ x,L[j]?=some x/\cmpK x r=0:=by
 rw[there_iff]
 constructor
 ·rintro⟨x,hx,e1,e2,e3⟩
  obtain⟨i,hi,rfl⟩:=List.getElem_of_mem hx
  have hz:cmpK L[i] r=0:=(cmpK_zero (hl _ hx) hw).2 ⟨e1,e2,e3⟩
  have hij : ¬ i<j:=fun h=>by
   have:=h1 i _ h (List.getElem?_eq_getElem hi)
   omega
  by_cases he:i=j
  ·subst he;exact⟨_,List.getElem?_eq_getElem hi,hz⟩
  ·exfalso
   have hj:j<L.length:=by omega
   have h3:=h2 _ (List.getElem?_eq_getElem hj)
   have h4:rlt L[j] L[i]:=List.pairwise_iff_getElem.1 hr j i hj hi (by omega)
   unfold rlt at h4
   rw[cmpK_cong L[j] e1 e2 e3] at h4
   exact h3 h4
 ·rintro⟨x,hx,hz⟩
  have hm:=List.mem_of_getElem? hx
  obtain⟨e1,e2,e3⟩:=(cmpK_zero (hl _ hm) hw).1 hz
  exact⟨x,hm,e1,e2,e3⟩
theorem setT_step (L:List R) (p:List (List UInt8)) (t ttl j:Nat) {x:R} (hx:L[j]?=some x):(L.take (j+1)).map (setT p t ttl)++L.drop (j+1)=((L.take j).map (setT p t ttl)++L.drop j).set j (setT p t ttl x):=by
 have hj:j<L.length:=(List.getElem?_eq_some_iff.1 hx).1
 have e:L.drop j=x::L.drop (j+1):=by
  rw[List.drop_eq_getElem_cons hj]
  congr 1
  exact Option.some.inj ((List.getElem?_eq_getElem hj).symm.trans hx)
 have hl:((L.take j).map (setT p t ttl)).length=j:=by rw[List.length_map,List.length_take];omega
 rw[List.take_add_one,hx,e,List.set_append_right _ _ (by omega),hl,Nat.sub_self,List.set_cons_zero,List.map_append,List.append_assoc]
 rfl
theorem setT_get (L:List R) (p:List (List UInt8)) (t ttl j:Nat) {x:R} (hx:L[j]?=some x):((L.take j).map (setT p t ttl)++L.drop j)[j]?=some x:=by
 have hj:j<L.length:=(List.getElem?_eq_some_iff.1 hx).1
 have hl:((L.take j).map (setT p t ttl)).length=j:=by rw[List.length_map,List.length_take];omega
 rw[List.getElem?_append_right (by omega),hl,Nat.sub_self,List.getElem?_drop,Nat.add_zero]
 exact hx
end Z
theorem RZAt.put {w w':World} {base m:Nat} {A:List (List UInt8)} {L:List Z.R} (h:RZAt w base m A L) {n:List (List UInt8)} {t ttl:Nat} {c d:List UInt8} (hg:N.chk n=0) (ht:t<65536) (httl:ttl<4294967296) (hcn:cn t d=some c) (hnum:Z.there L ⟨path n,t,c,ttl,d⟩=true\/L.length<2000)
 (row : ∃ aa ac a c',RowAt w' m 33 #[.slice aa A.length ac,.slice a (Z.put L ⟨path n,t,c,ttl,d⟩).length c']/\SlS w' aa A/\A.length<=ac/\RL w' base a c' (Z.put L ⟨path n,t,c,ttl,d⟩)):RZAt w' base m A (Z.put L ⟨path n,t,c,ttl,d⟩):=by
 refine⟨row,Z.put_rise h.rise h.lows (path_low n),Z.put_lows h.lows (path_low n),?_,Z.thin_put h.thin hg,?_,?_⟩
 ·rw[Z.put_len]
  have:=h.num
  split
  ·exact this
  ·rename_i hn
   have:=hnum.resolve_left hn
   omega
 ·intro x hx
  obtain⟨y,hy,rfl⟩:=Z.mem_put.1 hx
  rw[Z.setT_p,Z.setT_t,Z.setT_c,Z.setT_d]
  have key:y.t<65536/\y.ttl<4294967296/\cn y.t y.d=some y.c/\y.d.length<=8192/\y.p.length<=128:=by
   rcases hy with hy | ⟨_,rfl⟩
   ·exact h.okk y hy
   ·refine⟨ht,httl,hcn,(cn_len hcn).2.1,?_⟩
    have:=Z.chk_len hg
    show (path n).length<=128
    unfold path
    rw[List.length_reverse,N.lowN_len]
    omega
  refine⟨key.1,?_,key.2.2⟩
  by_cases e:y.p=path n/\y.t=t
  ·rw[Z.setT_at _ _ _ _ e];exact httl
  ·rw[Z.setT_off _ _ _ _ e];exact key.2.1
 ·intro x hx y hy hp ht2
  obtain⟨x0,hx0,rfl⟩:=Z.mem_put.1 hx
  obtain⟨y0,hy0,rfl⟩:=Z.mem_put.1 hy
  rw[Z.setT_p,Z.setT_p] at hp
  rw[Z.setT_t,Z.setT_t] at ht2
  by_cases e:x0.p=path n/\x0.t=t
  ·rw[Z.setT_at _ _ _ _ e,Z.setT_at _ _ _ _ ⟨hp.symm.trans e.1,ht2.symm.trans e.2⟩]
  ·have e2 : ¬ (y0.p=path n/\y0.t=t):=fun e3=>e ⟨hp.trans e3.1,ht2.trans e3.2⟩
   rw[Z.setT_off _ _ _ _ e,Z.setT_off _ _ _ _ e2]
   have h1:x0∈L:=by
    rcases hx0 with h1 | ⟨_,rfl⟩
    ·exact h1
    ·exact absurd ⟨rfl,rfl⟩ e
   have h2:y0∈L:=by
    rcases hy0 with h2 | ⟨_,rfl⟩
    ·exact h2
    ·exact absurd ⟨rfl,rfl⟩ e2
   exact h.even x0 h1 y0 h2 hp ht2
theorem ttlAt_of {w:World} {base m:Nat} {A:List (List UInt8)} {L:List Z.R} (h:RZAt w base m A L) {x:Z.R} (hx:x∈L):Z.ttlAt L x.p x.t=x.ttl:=by
 unfold Z.ttlAt
 cases hs:Z.setAt L x.p x.t with
 | nil =>
  have:=Z.mem_setAt.2 ⟨hx,rfl,rfl⟩
  rw[hs] at this;cases this
 | cons y r =>
  have hy:y∈Z.setAt L x.p x.t:=by rw[hs];simp
  obtain⟨h1,h2,h3⟩:=Z.mem_setAt.1 hy
  exact h.even y h1 x hx h2 h3
end Go.Proofs.YtmbcegljmhcdeaaGreat
namespace Go.Proofs.YtmbcegljmhcdeaaGreat
set_option maxRecDepth 5000
open Go.RowKit
set_option maxRecDepth 5000 in
theorem KX.set {w:World} {g:Nat} {et:TypeId} {c:Array Value} (h:RowAt w g et c) (j:Nat) (v:Value):KX et w (w.setCell ⟨g,j,none⟩ v):=⟨by simp,fun b cs t fr hb ht=>by
 have hne:b≠g:=fun e=>by
  have h:w.heap[g]?=_:=h
  rw[e,h] at hb;injection hb with hb;injection hb with _ hb _;exact ht hb.symm
 exact (heap_setCell_other _ _ _ _ hne).trans hb⟩
end Go.Proofs.YtmbcegljmhcdeaaGreat
namespace Go.Proofs.YtmbcegljmhcdeaaGreat
set_option maxRecDepth 5000
open Go.RowKit
structure KA (w w':World):Prop where
 size:w.heap.size<=w'.heap.size
 rows : ∀ (g:Nat) (c:Array Value) (et:TypeId) (fr:Nat × Nat),w.heap[g]?=some (Obj.cells c et fr)->et≠54->et≠122->w'.heap[g]?=some (Obj.cells c et fr)
theorem KA.refl (w:World):KA w w:=⟨Nat.le_refl _,fun _ _ _ _ h _ _=>h⟩
theorem KA.trans {a b c:World} (h:KA a b) (k:KA b c):KA a c:=⟨Nat.le_trans h.size k.size,fun g x et fr hg h1 h2=>k.rows g x et fr (h.rows g x et fr hg h1 h2) h1 h2⟩
theorem KA.bel {w w':World} (h:Below w.heap.size w w'):KA w w':=⟨h.size,fun g _ _ _ hg _ _=>(h.block g (Array.getElem?_eq_some_iff.1 hg).1).trans hg⟩
theorem KA.kx {et0:TypeId} {w w':World} (h:KX et0 w w') (he:et0=54\/et0=122):KA w w':=⟨h.size,fun g c et fr hg h1 h2=>h.rows g c et fr hg fun e=>by rcases he with he | he;exact h1 (e.trans he);exact h2 (e.trans he)⟩
theorem KA.kb {w w':World} (h:KA w w'):KB w w':=⟨h.size,fun g c et fr hg he=>h.rows g c et fr hg (fun e=>by rcases he with h | h <;> (rw[h] at e;exact absurd e (by decide))) (fun e=>by rcases he with h | h <;> (rw[h] at e;exact absurd e (by decide)))⟩
def PSet.as (m:List (List UInt8)) (x:PSet):PSet:=⟨m,x.t,x.ttl,x.d⟩
theorem cell_set_ne {w:World} {g j:Nat} {et:TypeId} {c:Array Value} (hr:RowAt w g et c) {b o:Nat} {u v x:Value} (hq:w.cell? ⟨b,o,none⟩=some u) (hx:c[j]?=some x) (hne:u≠x):(w.setCell ⟨g,j,none⟩ v).cell? ⟨b,o,none⟩=some u:=by
 by_cases hb:b=g
 ·subst hb
  rw[hr.cell] at hq
  rw[(hr.set j v).cell,Array.getElem?_setIfInBounds]
  by_cases ho:j=o
  ·subst ho
   rw[hx] at hq;injection hq with hq;exact absurd hq.symm hne
  ·rw[if_neg ho];exact hq
 ·rw[<- hq];exact World.cell?_of_block (heap_setCell_other _ _ _ _ hb)
theorem SlS.put {w:World} {g j:Nat} {et:TypeId} {c:Array Value} (hr:RowAt w g et c) {x:Value} (hx:c[j]?=some x) (hne : ∀ s,Value.string s≠x) (v:Value) {ao:Option Addr} {n:List (List UInt8)} (hs:SlS w ao n):SlS (w.setCell ⟨g,j,none⟩ v) ao n:=fun hn=>by
 obtain⟨b,o,e,hlt,hc⟩:=hs hn
 exact⟨b,o,e,by rw[World.size_setCell];exact hlt,fun i hi=>cell_set_ne hr (hc i hi) hx (hne _)⟩
theorem SlH.put {w:World} {g j:Nat} {et:TypeId} {c:Array Value} (hr:RowAt w g et c) {x:Value} (hx:c[j]?=some x) (hne : ∀ s,Value.int .u16 s≠x) (v:Value) {ao:Option Addr} {n:List UInt16} (hs:SlH w ao n):SlH (w.setCell ⟨g,j,none⟩ v) ao n:=fun hn=>by
 obtain⟨b,o,e,hlt,hc⟩:=hs hn
 exact⟨b,o,e,by rw[World.size_setCell];exact hlt,fun i hi=>cell_set_ne hr (hc i hi) hx (hne _)⟩
open Go.RowKit
def cutL (A:List (List UInt8)) (L:List Z.R) (q:List (List UInt8)) (d:Nat):Prop:=A.length<d/\Z.setAt L (q.take d) 2 ≠ []
def CutL (w:World) (A:List (List UInt8)) (L:List Z.R) (n:List (List UInt8)) (e:Ending) (w':World):Prop :=
 Below w.heap.size w w'/\((e = .returned (.tuple #[.slice none 0 0,.bool false]) /\ ∀ d,d<=n.length -> ¬ cutL A L (path n) d) \/
  ∃ (d:Nat) (na:Option Addr) (c:Nat),d<=n.length/\cutL A L (path n) d/\(∀ j,j<d -> ¬ cutL A L (path n) j)/\e = .returned (.tuple #[.slice na d c,.bool true])/\SlS w' na ((N.lowN n).drop (n.length - d)))
theorem zcut_live {X:Nat->Prop} {w:World} {Zb:Nat} {A:List (List UInt8)} {L:List Z.R} {K:Nat} (Z0:ZLive X w Zb A L K) (hA:A.length<=1000000) (n:List (List UInt8)) (ao:Option Addr) (len cap:Nat) (hl:Hid (n.length=len)) (hs:SlS w ao n) (hm:Hid (N.Small n)) :
 Calls Tryz.prog 27 #[.pointer (some ⟨Zb,0,none⟩),.slice ao len cap] w fun e w'=>CutL w A L n e w':=by
 obtain⟨ρ,G,C,Zx,hX,hth⟩:=Z0
 have hit : ∀ d,cutHit A C (path n) d↔cutL A L (path n) d:=fun d=>by
  unfold cutHit cutL
  have h:=Z.Of.none_iff Zx.of ((path n).take d) 2
  rw[Option.isSome_iff_ne_none]
  exact⟨fun ⟨h1,h2⟩=>⟨h1,fun h3=>h2 (h.2 h3)⟩,fun ⟨h1,h2⟩=>⟨h1,fun h3=>h2 (h.1 h3)⟩⟩
 refine (zcut_any w Zb A L ρ G C K Zx hA n ao len cap hl hs hm).mono ?_
 rintro e w' ⟨hb,⟨rfl,h⟩ | ⟨d,b,o,c,h1,h2,h3,rfl,h4,_⟩⟩
 ·exact⟨hb,Or.inl ⟨rfl,fun d hd hc=>h d hd ((hit d).2 hc)⟩⟩
 ·exact⟨hb,Or.inr ⟨d,some ⟨b,o,none⟩,c,h1,(hit d).1 h2,fun j hj hc=>h3 j hj ((hit j).2 hc),rfl,h4.1⟩⟩
theorem path_drop (n:List (List UInt8)) (k:Nat):path (n.drop k)=(path n).take (n.length - k):=by
 unfold path N.lowN
 rw[List.map_drop,List.reverse_drop,List.length_map]
theorem within_path2 (n A:List (List UInt8)):N.within n A=true↔path A <+: path n:=by
 rw[N.within_iff]
 have e1:N.lowN A.reverse=path A:=by unfold path;exact List.map_reverse
 have e2:N.lowN n.reverse=path n:=by unfold path;exact List.map_reverse
 rw[e1,e2]
end Go.Proofs.YtmbcegljmhcdeaaGreat
namespace Go.Proofs.YtmbcegljmhcdeaaGreat
set_option maxRecDepth 5000
open Go.RowKit
set_option maxRecDepth 100000 in
set_option maxHeartbeats 1500000 in
theorem givenAway_none {X:Nat->Prop} {w:World} {Zb:Nat} {A:List (List UInt8)} {L:List Z.R} {K:Nat} (Z0:ZLive X w Zb A L K) (hA:A.length<=1000000) (sb:Nat) (va v v2 v3 v4:Value) (t:Nat) (kd:Int) (sa:Option Addr) (sl sc:Nat) (nm:List (List UInt8)) (na:Option Addr) (nl nc:Nat) (hnl:Hid (nm.length=nl))
 (hrow:RowAt w sb 122 #[.pointer (some ⟨Zb,0,none⟩),va,.int .u16 (t:Int),.slice sa sl sc,.int .i64 kd,v,v2,v3,v4,.slice na nl nc]) (hs:SlS w na nm) (hnm:Hid (N.Small nm)) (hno : ∀ d,d<=nm.length -> ¬ cutL A L (path nm) d) :
 Calls Tryz.prog 71 #[.pointer (some ⟨sb,0,none⟩)] w fun e w'=>e = .returned (.tuple #[.slice none 0 0,.bool false])/\Below w.heap.size w w':=by
 have hcut : ∀ W,Below w.heap.size w W->Calls Tryz.prog 27 #[.pointer (some ⟨Zb,0,none⟩),.slice na nl nc] W fun e w'=>e = .returned (.tuple #[.slice none 0 0,.bool false])/\Below W.heap.size W w':=fun W hW=>by
  refine (zcut_live (Z0.bel hW) hA nm na nl nc hnl (hs.below hW (Nat.le_refl _)) hnm).mono ?_
  rintro e w' ⟨hb,⟨rfl,_⟩ | ⟨d,b,c,h1,h2,_⟩⟩
  ·exact⟨rfl,hb⟩
  ·exact absurd h2 (hno d h1)
 have HCUT:=hide hcut
 have HROW:=hide hrow
 have HS:=hide hs
 clear hcut hrow hs hno Z0
 go_enter Tryz.func71,Tryz.ntmps71
 go_wp2
 have SAll:Hid (∀ W,Below w.heap.size w W->W.cell? ⟨sb,0,none⟩=some (.pointer (some ⟨Zb,0,none⟩))/\W.cell? ⟨sb,9,none⟩=some (.slice na nl nc)):=hide fun W hW=>⟨(HROW.out.below hW HROW.out.lt).cell 0,(HROW.out.below hW HROW.out.lt).cell 9⟩
 refine wp_region_X (S:=fun w'=>w'.cell? ⟨sb,0,none⟩=some (.pointer (some ⟨Zb,0,none⟩))/\w'.cell? ⟨sb,9,none⟩=some (.slice na nl nc)) (jS:=1000) (by kernel_rfl) ?_
 have BA:Hid (Below w.heap.size w w.drew):=hide ((Below.refl _ w).drew)
 have SA:=hide (SAll.out _ BA.out)
 generalize w.drew=w1 at BA SA ⊢
 refine tk gt0 SA.out ?_
 refine tk gt1 SA.out ?_
 refine tk gt2 SA.out ?_
 refine tk gt3 SA.out ?_
 refine tk gt4 SA.out ?_
 refine tk gt5 SA.out ?_
 refine tk gt6 SA.out ?_
 refine tk gt7 SA.out ?_
 refine tk gt8 SA.out ?_
 refine rdy gt9 (fun K hKK=>?_)
 refine step_fng (by rfl) _ _ (by go_simp) (HCUT.out _ BA.out) (by rintro e w' ⟨rfl,_⟩;exact⟨_,rfl⟩) ?_
 rintro _ w2 ⟨he,hb⟩
 cases he
 have B2:=hide (BA.out.trans (hb.mono BA.out.size))
 have SB:=hide (SAll.out _ B2.out)
 refine kk hKK (Or.inr SB.out) ?_
 clear hKK hb SA
 refine tk gt10 SB.out ?_
 refine tk gt11 SB.out ?_
 refine tk gt12 SB.out ?_
 refine tk gt13 SB.out ?_
 refine tk gt14 SB.out ?_
 refine wpAnyX_done (by kernel_rfl) ?_ _
 obtain⟨z0,z9⟩:=SB.out
 have z2:w2.cell? ⟨sb,2,none⟩=some (.int .u16 (t:Int)):=(HROW.out.below B2.out HROW.out.lt).cell 2
 have z3:w2.cell? ⟨sb,3,none⟩=some (.slice sa sl sc):=(HROW.out.below B2.out HROW.out.lt).cell 3
 by_cases ht:t=43
 ·have htb:((t:Int) == 43)=true:=by simp[ht]
  by_cases hsl:sl=0
  ·have hsb:((sl:Int) == 0)=true:=by simp[hsl]
   have hsame:=same_any [] nm none na 0 nl 0 nc w2 (hide rfl) hnl (fun h=>absurd h (by simp)) (HS.out.below B2.out (Nat.le_refl _)) (by omega) (by have:=hnm.out.1;have:=hnl.out;omega) (hide (Sane.small ⟨by simp,by simp⟩)) (hide (Sane.small hnm.out))
   have HSAME:=hide hsame
   clear hsame ht hsl
   go_wp2_with (go_at_call 106;refine HSAME.out.mono ?_;rintro e w3 ⟨rfl,hB3⟩)
   go_ret2
   obtain⟨m,rfl⟩:=hB3
   exact⟨rfl,below_drewN B2.out m⟩
  ·have hsb:((sl:Int) == 0)=false:=by simp;omega
   clear ht hsl
   go_wp2
   go_ret2
   exact⟨rfl,B2.out⟩
 ·have htb:((t:Int) == 43)=false:=by simp;omega
  clear ht
  go_wp2
  go_ret2
  exact⟨rfl,B2.out⟩
end Go.Proofs.YtmbcegljmhcdeaaGreat
namespace Go.Proofs.YtmbcegljmhcdeaaGreat
set_option maxRecDepth 5000
open Go.RowKit
def Flat (ao:Option Addr):Prop:=ao=none \/ ∃ b o,ao=some ⟨b,o,none⟩
theorem SlS.flat {w:World} {ao:Option Addr} {n:List (List UInt8)} (h:SlS w ao n) (hn:0<n.length):Flat ao:=by
 obtain⟨b,o,e,_,_⟩:=h hn;exact Or.inr ⟨b,o,e⟩
theorem nclone_all (w:World) (ao:Option Addr) (len c:Nat) (l:List (List UInt8)) (hl:l.length=len) (hl2:len<=1000000) (hf:Flat ao) (hs:SlS w ao l) :
 Calls Tryz.prog 56 #[.slice ao len c] w fun e w' => ∃ v,e = .returned v/\OwnS w' w.heap.size v l/\Below w.heap.size w w':=by
 subst hl
 obtain⟨i0,hi,hz0,hz1,hz2⟩:=info_parts infoS
 rcases hf with rfl | ⟨b,o,rfl⟩
 ·have e:l = []:=by
   cases l with
   | nil=>rfl
   | cons x l=>obtain⟨b,o,e,_⟩:=hs (by simp);cases e
  subst e
  refine (nclone_nil w 0 c).mono ?_
  rintro e w' ⟨rfl,rfl⟩
  exact⟨_,rfl,OwnS.nil _ _,Below.refl _ _⟩
 ·refine (AnyE.slices_Clone Tryz.nCloneA i0 (.string ⟨#[]⟩) 1 16 hi hz0 hz1 hz2 rfl (by decide) Tryz.sizeOf9 b o l.length c (vs l) w (by rw[vs_len];omega) (by unfold maxLen;omega) (by omega) (fun j u hu=>?_) (vs_one l)).mono ?_
  ·have hj:j<l.length:=by have:=(List.getElem?_eq_some_iff.1 hu).1;rwa [vs_len] at this
   obtain⟨b',o',e,_,hc⟩:=hs (by omega)
   injection e with e;injection e with e1 e2 _
   subst e1;subst e2
   rw[hc j hj, <- vs_get l j hj,hu]
  ·rintro e w' ⟨v,rfl,h1,_,h2⟩
   exact⟨v,rfl,h1,h2⟩
theorem slice_flat {w:World} {ao:Option Addr} {n:List (List UInt8)} {len cap k:Nat} {x:Int} (hx:x=(k:Int)) (hs:SlS w ao n) (hf:Flat ao) (hl:n.length=len) (hk:k<=len) (hc:len<=cap) :
 ∃ ao',(∀ W,(Instr.slice 28 (.slice ao len cap) (some (.int .i64 x)) none none).run Tryz.prog W = .ok (.slice ao' (len - k) (cap - k)) W)/\SlS w ao' (n.drop k)/\Flat ao':=by
 subst hx
 refine⟨if cap=k then ao else ao.map (·.add (k*1)),fun W=>?_,fun hn=>?_,?_⟩
 ·rw[run_slice_l W 28 ao len cap Tryz.underlying28 .i64 (k:Int) (by omega) (by omega)]
  have hz:(sizeOf (Tryz.prog.elem 28)).run Tryz.prog W = .ok 1 W:=Tryz.sizeOf9 W
  rw[hz]
  simp only[Result.andThen,sliced,Int.toNat_natCast]
 ·rw[List.length_drop] at hn
  obtain⟨b,o,rfl,hlt,hcell⟩:=hs (by omega)
  rw[if_neg (by omega)]
  obtain⟨b',o',e,h1,h2⟩:=(SlS.drop (w:=w) (b:=b) (o:=o) (k:=k) (n:=n) (fun _=>⟨b,o,rfl,hlt,hcell⟩) (by omega)) (by rw[List.length_drop];omega)
  refine⟨b',o',?_,h1,h2⟩
  rw[<- e,Option.map_some,Nat.mul_one,addr_add]
 ·split
  ·exact hf
  ·rcases hf with rfl | ⟨b,o,rfl⟩
   ·exact Or.inl rfl
   ·exact Or.inr ⟨b,o+k,by rw[Option.map_some,Nat.mul_one,addr_add]⟩
theorem llast_any (n:List (List UInt8)) (ao:Option Addr) (len cap c:Nat) (w:World) (hl:Hid (n.length=len)) (hs:SlS w ao n) (hf:Flat ao) (hcl:c<=len) (hcap:len<=cap) (hm:len<=1000000) :
 Calls Tryz.prog 80 #[.slice ao len cap,.int .i64 (c:Int)] w fun e w' => ∃ v,e = .returned v/\OwnS w' w.heap.size v (n.drop (len - c))/\Below w.heap.size w w':=by
 obtain⟨k,hk⟩ : ∃ k,k=len - c:=⟨_,rfl⟩
 have hki:IntKind.i64.wrap ((len:Int) - (c:Int))=(k:Int):=by rw[IntKind.wrap_i64];omega
 obtain⟨ao',hsl,hs',hf'⟩:=slice_flat (k:=k) (x:=(k:Int)) rfl hs hf hl.out (by omega) hcap
 have hcl2:=nclone_all w ao' (len - k) (cap - k) (n.drop k) (by rw[List.length_drop,hl.out]) (by omega) hf' hs'
 rw[<- hk]
 have HCL:=hide hcl2
 clear hcl2 hs' hf' hs hf hk
 go_enter Tryz.func80,Tryz.ntmps80
 go_wp2_with (go_at_call 56;refine HCL.out.mono ?_;rintro e w2 ⟨v,rfl,hO,hB⟩)
 go_ret
 exact⟨v,rfl,hO,hB⟩
open Go.RowKit
namespace Z
def exA:List (List UInt8) := [[101,120,97,109,112,108,101]]
def owns:List (List (List UInt8)) := [[], [[97]], [[98]], [[99], [98]], [[42], [119]], [[120], [119]], [[101], [102], [103]], [[115,117,98]], [[110,115], [115,117,98]], [[65]], [[100,101,101,112], [120], [119]], [[122]], [[42]]]
def owner (k:Nat):List (List UInt8):=owns.getD (k % 13) []++exA
def farN:List (List UInt8) := [[102,97,114], [110,101,116]]
def underK (k:Nat):List (List UInt8):=if k % 7=6 then farN else owner k
def kinds:List Nat := [1,1,28,15,16,2,5,43,6,99]
def typeK (k:Nat):Nat:=kinds.getD (k % 10) 0
def soaK (k:Nat):D.Soa:=⟨owner 1,owner 2,k*16777216 % 4294967296,1,2,3,10+k % 4*20⟩
def dataK (t k:Nat):List UInt8 :=
 if t=1 then [10,0,0,UInt8.ofNat (k % 4)]
 else if t=28 then List.replicate 15 0 ++ [UInt8.ofNat (k % 3)]
 else if t=15 then [0,UInt8.ofNat (k % 3)]++N.wire (underK k)
 else if t=16 then [2,104,UInt8.ofNat (97+k % 4)]
 else if t=2 then N.wire ([owner 8,owner 1,farN].getD (k % 3) [])
 else if t=5 then N.wire (underK k)
 else if t=43 then [0,UInt8.ofNat (k % 3),253,2,1,2,3]
 else if t=6 then D.soaB (soaK k)
 else [UInt8.ofNat k]
def ttlK (k:Nat):Nat := [30,30,60,5].getD (k / 16777216 % 4) 0
theorem owner_at (k:Nat) : ∃ j,j<13/\owner k=owns.getD j []++exA:=⟨k % 13,Nat.mod_lt _ (by decide),rfl⟩
theorem owner_good (k:Nat):N.chk (owner k)=0/\N.within (owner k) exA=true/\(owner k).length<=4/\N.size (owner k)<=100 /\ [] ∉ owner k:=by
 have h : ∀ j,j<13->N.chk (owns.getD j []++exA)=0/\N.within (owns.getD j []++exA) exA=true/\(owns.getD j []++exA).length<=4/\N.size (owns.getD j []++exA)<=100 /\ [] ∉ owns.getD j []++exA:=by decide +kernel
 obtain⟨j,hj,e⟩:=owner_at k
 rw[e];exact h j hj
theorem owner_small (k:Nat):N.Small (owner k):=by
 have h : ∀ j,j<13->N.Small (owns.getD j []++exA):=by
  have h2 : ∀ j,j<13->(owns.getD j []++exA).length<=1000000 /\ ∀ l∈owns.getD j []++exA,l.length<=1000000:=by decide +kernel
  exact h2
 obtain⟨j,hj,e⟩:=owner_at k
 rw[e];exact h j hj
theorem underK_or (k:Nat):Z.underK k=farN\/Z.underK k=owner k:=by
 unfold underK;split
 ·exact Or.inl rfl
 ·exact Or.inr rfl
theorem far_small:N.Small farN:=by
 have h2:farN.length<=1000000 /\ ∀ l∈farN,l.length<=1000000:=by decide
 exact h2
theorem underK_small (k:Nat):N.Small (underK k):=by
 rcases underK_or k with h | h
 ·rw[h];exact far_small
 ·rw[h];exact owner_small k
theorem owner_wire (k:Nat):(N.wire (owner k)).length<=100:=by
 have h : ∀ j,j<13->(N.wire (owns.getD j []++exA)).length<=100:=by decide +kernel
 obtain⟨j,hj,e⟩:=owner_at k
 rw[e];exact h j hj
theorem underK_wire (k:Nat):(N.wire (underK k)).length<=100:=by
 rcases underK_or k with h | h
 ·rw[h];decide +kernel
 ·rw[h];exact owner_wire k
theorem soaK_ok (k:Nat):N.size (soaK k).main<=1000/\N.size (soaK k).box<=1000/\(soaK k).a<4294967296/\(soaK k).e<4294967296:=by
 refine⟨Nat.le_trans (owner_good 1).2.2.2.1 (by decide),Nat.le_trans (owner_good 2).2.2.2.1 (by decide),Nat.mod_lt _ (by decide),?_⟩
 show 10+k % 4*20<_
 omega
theorem typeK_lt (k:Nat):typeK k<65536:=by
 have h : ∀ j,j<10->kinds.getD j 0<65536:=by decide
 exact h _ (Nat.mod_lt _ (by decide))
end Z
open Go.RowKit
namespace Z
theorem data_ok (k j:Nat) (hk:k<256) : ∃ c,cn (typeK j) (dataK (typeK j) k)=some c:=by
 have h : ∀ k,k<256 -> ∀ j,j<10->(cn (kinds.getD j 0) (dataK (kinds.getD j 0) k)).isSome=true:=by decide +kernel
 exact Option.isSome_iff_exists.1 (h k hk (j % 10) (Nat.mod_lt _ (by decide)))
theorem ttlK_lt (k:Nat):ttlK k<4294967296:=by
 have h : ∀ j,j<4 -> [30,30,60,5].getD j 0<4294967296:=by decide
 exact h _ (Nat.mod_lt _ (by decide))
end Z
theorem exA_small:N.Small Z.exA:=by
 have h2:Z.exA.length<=1000000 /\ ∀ l∈Z.exA,l.length<=1000000:=by decide
 exact h2
theorem exA_low:N.lowN Z.exA=Z.exA:=by decide +kernel
end Go.Proofs.YtmbcegljmhcdeaaGreat
