/- The reference's Sig (a text of stage 5, at this seat). -/
import Derived.Test.YtmbcegljmhcdeaaGreatZlw
import Derived.Test.YtmbcegljmhcdeaaGreatSg
import Derived.Deep.RegionHeld3
namespace Go.Proofs.YtmbcegljmhcdeaaGreat
set_option maxRecDepth 5000
open Go.RowKit
structure RcT where
 n:List (List UInt8)
 t:Nat
 ttl:Nat
 d:List UInt8
structure RcT.Good (x:RcT):Prop where
 inA:N.within x.n Z.exA=true
 small:N.Small x.n
 len:x.n.length<=4
 t:x.t<65536
 ttl:x.ttl<4294967296
 dl:x.d.length<=8192
def ERc (w:World) (x:RcT) (us:List Value):Prop := ∃ na nc da dc,us = [.slice na x.n.length nc,.int .u16 (x.t:Int),.int .u16 1,.int .u32 (x.ttl:Int),.slice da x.d.length dc]/\TyS w na x.n/\x.n.length<=nc/\TyL w da x.d/\(da=none->dc=0)/\x.d.length<=dc
theorem ERc.kb {w w':World} {x:RcT} {us:List Value} (h:ERc w x us) (k:KB w w'):ERc w' x us:=by
 obtain⟨na,nc,da,dc,e,h1,h2,h3,h4,h5⟩:=h
 exact⟨na,nc,da,dc,e,h1.kb k,h2,h3.kb k,h4,h5⟩
def recK (k:Nat):RcT:=⟨Z.owner (k % 256),Z.typeK (k / 256 % 256),Z.ttlK k,Z.dataK (Z.typeK (k / 256 % 256)) (k / 65536 % 256)⟩
theorem recK_good (k:Nat):(recK k).Good:=by
 have h:=Z.owner_good (k % 256)
 obtain⟨c,hc⟩:=Z.data_ok (k / 65536 % 256) (k / 256 % 256) (Nat.mod_lt _ (by decide))
 exact⟨h.2.1,Z.owner_small _,h.2.2.1,Z.typeK_lt _,Z.ttlK_lt _,(cn_len hc).2.1⟩
def soa0:RcT:=⟨Z.exA,6,50,Z.dataK 6 1⟩
def ns0:RcT:=⟨Z.exA,2,60,Z.dataK 2 1⟩
theorem exA_in:N.within Z.exA Z.exA=true:=by decide +kernel
theorem soa0_good:soa0.Good:=⟨exA_in,exA_small,by decide,by decide,by decide,by
 obtain⟨c,hc⟩:=Z.data_ok 1 8 (by decide)
 have h:(Z.dataK (Z.typeK 8) 1).length<=8192:=(cn_len hc).2.1
 exact h⟩
theorem ns0_good:ns0.Good:=⟨exA_in,exA_small,by decide,by decide,by decide,by
 obtain⟨c,hc⟩:=Z.data_ok 1 5 (by decide)
 have h:(Z.dataK (Z.typeK 5) 1).length<=8192:=(cn_len hc).2.1
 exact h⟩
theorem OwnL.lit2 {α : Type} {et:TypeId} {sz:Nat} {E:World -> α -> List Value->Prop} (w:World) (base:Nat) (hb:base<=w.heap.size) (A:Array Value) (x y : α) (us vs:List Value) (hA:A=(us++vs).toArray) (hu:us.length=sz) (hv:vs.length=sz) (h1 : ∀ u∈us++vs,u.oneCell'=true) (hx:E (w.alloc (.cells A et)) x us) (hy:E (w.alloc (.cells A et)) y vs) :
 OwnL et sz E (w.alloc (.cells A et)) base (.slice (some ⟨w.heap.size,0,none⟩) 2 2) [x,y]:=by
 subst hA
 have e1 : [us,vs].flatten=us++vs:=by simp
 refine⟨[us,vs],⟨by rw[e1,List.length_append,hu,hv];show _=2*sz;omega,Or.inr ⟨w.heap.size,2,_,rfl,hb,heap_alloc_last w _,Nat.le_refl _,by unfold maxLen;omega,by rw[List.size_toArray,List.length_append];omega,by rw[e1];exact List.take_of_length_le (by rw[List.length_append];show _<=2*sz;omega)⟩⟩,⟨rfl,fun j z zs h2 h3=>?_⟩⟩
 match j with
 | 0 =>
  simp at h2 h3;subst h2;subst h3
  exact⟨hu,fun u hm=>h1 u (List.mem_append_left _ hm),hx⟩
 | 1 =>
  simp at h2 h3;subst h2;subst h3
  exact⟨hv,fun u hm=>h1 u (List.mem_append_right _ hm),hy⟩
 | j+2=>simp at h2
theorem rc_of {W:World} {g:Nat} {v0 v1 v2 v3 v4:Value} (h:RowAt W g 39 #[v0,v1,v2,v3,v4]):W.cell? ⟨g,0,none⟩=some v0/\W.cell? ⟨g,1,none⟩=some v1/\W.cell? ⟨g,2,none⟩=some v2/\W.cell? ⟨g,3,none⟩=some v3/\W.cell? ⟨g,4,none⟩=some v4 :=
 ⟨h.cell 0,h.cell 1,h.cell 2,h.cell 3,h.cell 4⟩
def BegR (w wr:World) (v:Value) (j:Nat):Prop := ∃ rs,Below w.heap.size w wr/\OwnL 39 5 ERc wr w.heap.size v rs/\(∀ x∈rs,x.Good)/\rs.length<=2+j/\(j=0->rs = [soa0,ns0])
set_option maxRecDepth 100000 in
set_option maxHeartbeats 2000000 in
theorem begin_any (l:List Nat) (ao:Option Addr) (len cap:Nat) (w:World) (hl:Hid (l.length=len)) (hs:SlU w ao l) (hlt : ∀ x∈l,x<4294967296) (hm:len<=9223372036854775807) :
 Calls Tryz.prog 68 #[.slice ao len cap] w fun e w' => ∃ v,e = .returned v /\ ∃ j,j<=len/\j<=12/\(j=0->len=0)/\BegR w w' v j:=by
 have HS:=hide hs
 have HLT:=hide hlt
 have hd6:=fun W=>seatData_any 6 1 (by decide) W
 have hd2:=fun W=>seatData_any 2 1 (by decide) W
 obtain⟨D6,hD6⟩ : ∃ D6,D6=Z.dataK 6 1:=⟨_,rfl⟩
 obtain⟨D2,hD2⟩ : ∃ D2,D2=Z.dataK 2 1:=⟨_,rfl⟩
 rw[<- hD6] at hd6
 rw[<- hD2] at hd2
 obtain⟨q6,hq6⟩ : ∃ q6,q6=D6.length:=⟨_,rfl⟩
 obtain⟨q2,hq2⟩ : ∃ q2,q2=D2.length:=⟨_,rfl⟩
 have HD6:=hide hd6
 have HD2:=hide hd2
 have HQ6:=hide hq6
 have HQ2:=hide hq2
 have HE6:=hide hD6
 have HE2:=hide hD2
 have hT1:True:=trivial
 clear hs hlt hd6 hd2 hq6 hq2 hD6 hD2
 go_enter Tryz.func68,Tryz.ntmps68
 go_wp2_with (first
  | (go_at_call 81;have hq:=HB3.out;clear hq;refine (HD2.out w3).mono ?_;rintro e w4 ⟨v4,rfl,hO4,hB4⟩;obtain⟨a4,c4,hv4,hT4,hn4,hc4⟩:=hO4.ty;rw[<- HQ2.out] at hv4 hc4;subst hv4;have HO4:=hide hT4;have HN4:=hide (And.intro hn4 hc4);have HB4:=hide hB4;clear hO4 hT4 hn4 hc4 hB4)
  | (go_at_call 13;have hq:=HB2.out;clear hq;refine (apex_any w2).mono ?_;rintro e w3 ⟨v3,rfl,hO3,hB3⟩;obtain⟨a3,c3,rfl,hT3,hn3,hc3⟩:=hO3.ty;have HO3:=hide hT3;have HN3:=hide hc3;have HB3:=hide hB3;clear hO3 hT3 hn3 hc3 hB3)
  | (go_at_call 81;refine (HD6.out w1).mono ?_;rintro e w2 ⟨v2,rfl,hO2,hB2⟩;obtain⟨a2,c2,hv2,hT2,hn2,hc2⟩:=hO2.ty;rw[<- HQ6.out] at hv2 hc2;subst hv2;have HO2:=hide hT2;have HN2:=hide (And.intro hn2 hc2);have HB2:=hide hB2;clear hO2 hT2 hn2 hc2 hB2)
  | (go_at_call 13;have hq:=hT1;clear hq hT1;refine (apex_any w).mono ?_;rintro e w1 ⟨v1,rfl,hO1,hB1⟩;obtain⟨a1,c1,rfl,hT1',hn1,hc1⟩:=hO1.ty;have HO1:=hide hT1';have HN1:=hide hc1;have HB1:=hide hB1;clear hO1 hT1' hn1 hc1 hB1)
  | fail)
 obtain⟨W0,hW0⟩ : ∃ W0,W0=w4.alloc (.cells #[.slice a1 Z.exA.length c1,.int .u16 6,.int .u16 1,.int .u32 50,.slice a2 q6 c2,.slice a3 Z.exA.length c3,.int .u16 2,.int .u16 1,.int .u32 60,.slice a4 q2 c4] 39):=⟨_,rfl⟩
 rw[<- hW0]
 have hbA:Below w4.heap.size w4 W0:=by rw[hW0];exact (Below.refl _ w4).alloc (Nat.le_refl _) _
 have z1:=HB1.out.size
 have z2:=HB2.out.size
 have z3:=HB3.out.size
 have z4:=HB4.out.size
 have hb14:Below w1.heap.size w1 W0:=(HB2.out.trans (HB3.out.mono z2)).trans ((HB4.out.mono (by omega)).trans (hbA.mono (by omega)))
 have hbW:Below w.heap.size w W0:=HB1.out.trans (hb14.mono z1)
 have hb24:Below w2.heap.size w2 W0:=HB3.out.trans ((HB4.out.mono (by omega)).trans (hbA.mono (by omega)))
 have hb34:Below w3.heap.size w3 W0:=HB4.out.trans (hbA.mono (by omega))
 have hown:OwnL 39 5 ERc W0 w.heap.size (.slice (some ⟨w4.heap.size,0,none⟩) 2 2) [soa0,ns0]:=by
  rw[hW0]
  refine OwnL.lit2 w4 w.heap.size (by omega) _ soa0 ns0 [.slice a1 Z.exA.length c1,.int .u16 6,.int .u16 1,.int .u32 50,.slice a2 q6 c2] [.slice a3 Z.exA.length c3,.int .u16 2,.int .u16 1,.int .u32 60,.slice a4 q2 c4] rfl rfl rfl (by simp[Value.oneCell']) ?_ ?_
  ·rw[<- hW0]
   refine⟨a1,c1,a2,c2,?_,HO1.out.kb (KB.of_below hb14),HN1.out,?_,HN2.out.1,?_⟩
   ·rw[HQ6.out,HE6.out];rfl
   ·have h:=HO2.out.kb (KB.of_below hb24);rw[HE6.out] at h;exact h
   ·have h:=HN2.out.2;rw[HQ6.out,HE6.out] at h;exact h
  ·rw[<- hW0]
   refine⟨a3,c3,a4,c4,?_,HO3.out.kb (KB.of_below hb34),HN3.out,?_,HN4.out.1,?_⟩
   ·rw[HQ2.out,HE2.out];rfl
   ·have h:=HO4.out.kb (KB.of_below hbA);rw[HE2.out] at h;exact h
   ·have h:=HN4.out.2;rw[HQ2.out,HE2.out] at h;exact h
 have HB:=hide (show BegR w W0 (.slice (some ⟨w4.heap.size,0,none⟩) 2 2) 0 from ⟨[soa0,ns0],hbW,hown,fun x hx=>by
  simp at hx
  rcases hx with rfl | rfl
  ·exact soa0_good
  ·exact ns0_good,Nat.le_refl _,fun _=>rfl⟩)
 obtain⟨g4,hg4⟩ : ∃ g4,g4=w4.heap.size:=⟨_,rfl⟩
 rw[<- hg4] at HB ⊢
 clear hW0 hbA z1 z2 z3 z4 hb14 hbW hb24 hb34 hown hg4 HO1 HO2 HO3 HO4 HN1 HN2 HN3 HN4 HB1 HB2 HB3 HB4 HD6 HD2 HQ6 HQ2 HE6 HE2
 go_loopw [3,4] (fun v i wr => ∃ j:Nat,i = .int .i64 (j:Int)/\j<=len/\j<=12/\Hid (BegR w wr v j)) (fun _ i _=>len - (intOf i).toNat)
 case atStart=>exact⟨0,rfl,by omega,by omega,HB⟩
 case round =>
  obtain⟨j,rfl,hj,hj12,HBR0⟩:=hrel
  clear HB
  by_cases hlt:j<len/\j<12
  ·obtain⟨rs,hBR,hO,hG,hrl,_⟩:=HBR0.out
   have hjl:j<l.length:=by have:=hl.out;omega
   obtain⟨b,o,rfl,hblt,hcl⟩:=HS.out (by omega)
   obtain⟨k0,hk0⟩ : ∃ k0,k0=l.getD j 0:=⟨_,rfl⟩
   have hk0b:k0<4294967296:=by
    rw[hk0,List.getD_eq_getElem?_getD,List.getElem?_eq_getElem hjl]
    exact HLT.out _ (List.getElem_mem hjl)
   have y0:wr.cell? ⟨b,o+j,none⟩=some (.int .u32 (k0:Int)):=by
    rw[hk0, <- hcl j hjl];exact World.cell?_of_block (hBR.block b hblt)
   have hrec:=seatRecord_ty k0 hk0b wr
   obtain⟨R,hR⟩ : ∃ R,R=recK k0:=⟨_,rfl⟩
   have hRG:R.Good:=by rw[hR];exact recK_good k0
   obtain⟨nl,hnl⟩ : ∃ nl,nl=R.n.length:=⟨_,rfl⟩
   obtain⟨t,ht⟩ : ∃ t,t=R.t:=⟨_,rfl⟩
   obtain⟨tt,htt⟩ : ∃ tt,tt=R.ttl:=⟨_,rfl⟩
   obtain⟨dl,hdl⟩ : ∃ dl,dl=R.d.length:=⟨_,rfl⟩
   have hrec2:Calls Tryz.prog 43 #[.int .u32 (k0:Int)] wr fun e w' => ∃ na nc da dc,e = .returned (.agg #[.slice na nl nc,.int .u16 (t:Int),.int .u16 1,.int .u32 (tt:Int),.slice da dl dc])/\ERc w' R [.slice na nl nc,.int .u16 (t:Int),.int .u16 1,.int .u32 (tt:Int),.slice da dl dc]/\SlS w' na R.n/\Below wr.heap.size wr w':=by
    refine hrec.mono ?_
    rintro e w' ⟨na,nc,da,dc,rfl,h1,h2,h3,h4,h5,h6⟩
    subst hR;subst hnl;subst ht;subst htt;subst hdl
    exact⟨na,nc,da,dc,rfl,⟨na,nc,da,dc,rfl,h1,h2,h3,h4,h5⟩,h1.1,h6⟩
   have HREC:=hide hrec2
   have HO:=hide hO
   have HG:=hide hG
   have HBR:=hide hBR
   have HRG:=hide hRG
   have HNL:=hide hnl
   have hji:(j:Int)<(len:Int):=by omega
   have hji2:(j:Int)<12:=by omega
   have ht1:t<65536:=by rw[ht];exact hRG.t
   have hnl4:nl<=4:=by rw[hnl];exact hRG.len
   clear hrec hrec2 hO hG hBR hRG hnl ht htt hdl hR hcl hk0 hlt
   go_upto_region 6 with (go_at_call 43;refine HREC.out.mono ?_;rintro e w5 ⟨na,nc,da,dc,rfl,hE5,hS5,hB5⟩;have HE5:=hide hE5;have HS5:=hide hS5;have HB5:=hide hB5;clear hE5 hS5 hB5)
   obtain⟨w6,hw6⟩ : ∃ w6,w6=w5.alloc (.cells #[.slice na nl nc,.int .u16 (t:Int),.int .u16 1,.int .u32 (tt:Int),.slice da dl dc] 39):=⟨_,rfl⟩
   have hb6:Below w5.heap.size w5 w6:=by rw[hw6];exact (Below.refl _ w5).alloc (Nat.le_refl _) _
   obtain⟨gb,hgb⟩ : ∃ gb,gb=w5.heap.size:=⟨_,rfl⟩
   have hr6:RowAt w6 gb 39 #[.slice na nl nc,.int .u16 (t:Int),.int .u16 1,.int .u32 (tt:Int),.slice da dl dc]:=by rw[hw6,hgb];exact RowAt.new w5 _ _
   rw[<- hw6, <- hgb]
   have hb06:Below wr.heap.size wr w6:=HB5.out.trans (hb6.mono HB5.out.size)
   have HB6:=hide hb06
   have HGB:=hide hr6
   have HE6:=hide (HE5.out.kb (KB.of_below hb6))
   have HS6:=hide (HS5.out.below hb6 (Nat.le_refl _))
   have HO6:=hide (HO.out.bel (fun _ _ h=>h.kb (KB.of_below hb06)) hb06)
   have HB06:=hide (HBR.out.trans (hb06.mono HBR.out.size))
   have HGN:=hide hgb
   clear hw6 hb6 hgb hr6 hb06 HE5 HS5
   have k0':w6.cell? ⟨gb,0,none⟩=some (.slice na nl nc):=HGB.out.cell 0
   have k1':w6.cell? ⟨gb,1,none⟩=some (.int .u16 (t:Int)):=HGB.out.cell 1
   have hwild:=rWild_any R.n na nl nc w6 (hide HNL.out.symm) HS6.out
   have HWI:=hide hwild
   clear hwild
   go_cut [6] from 95 (fun ok wc=>(∃ b,ok = .bool b)/\wc=w6)
   case first =>
    by_cases t6:t=6
    ·have t6b:((t:Int) != 6)=false:=by simp[t6]
     clear t6
     go_wp2
     go_meet
     exact⟨⟨_,rfl⟩,rfl⟩
    ·have t6b:((t:Int) != 6)=true:=by simp;omega
     by_cases t43:t=43
     ·have t43b:((t:Int) == 43)=true:=by simp[t43]
      have t2b:((t:Int) == 2)=false:=by simp;omega
      by_cases n1:nl=1
      ·have n1b:((nl:Int) == 1)=true:=by simp[n1]
       clear t6 t43 n1
       go_wp2
       go_meet
       exact⟨⟨_,rfl⟩,rfl⟩
      ·have n1b:((nl:Int) == 1)=false:=by simp;omega
       clear t6 t43 n1
       go_wp2
       go_meet
       exact⟨⟨_,rfl⟩,rfl⟩
     ·have t43b:((t:Int) == 43)=false:=by simp;omega
      by_cases t2:t=2
      ·have t2b:((t:Int) == 2)=true:=by simp[t2]
       clear t6 t43 t2
       go_wp2_with (go_at_call 105;refine HWI.out.mono ?_;rintro e w7 ⟨rfl,hw7⟩;have hw8:=hw7.symm;subst hw8;clear hw7)
       go_meet
       exact⟨⟨_,rfl⟩,rfl⟩
      ·have t2b:((t:Int) == 2)=false:=by simp;omega
       clear t6 t43 t2
       go_wp2
       go_meet
       exact⟨⟨_,rfl⟩,rfl⟩
   case rest =>
    obtain⟨⟨ok0,rfl⟩,hwc⟩:=hcut
    have hwc2:=hwc.symm
    subst hwc2
    clear hwc k0' k1' HWI
    obtain⟨wo,hwo⟩ : ∃ wo,wo=wr:=⟨_,rfl⟩
    subst hwo
    obtain⟨oa,oc,hv3,hon,hoc⟩:=HO6.out.slice
    obtain⟨q,hq⟩ : ∃ q,q=rs.length:=⟨_,rfl⟩
    rw[<- hq] at hv3 hoc
    subst hv3
    have HQ:=hide hq
    have hq14:q<=14:=by rw[hq];omega
    clear hq
    go_wp2
    go_loopw [6,7] (fun ok i wr => ∃ (b:Bool) (k:Nat),ok = .bool b/\i = .int .i64 (k:Int)/\k<=q/\Below w6.heap.size w6 wr) (fun _ i _=>q - (intOf i).toNat)
    case atStart=>exact⟨ok0,0,rfl,rfl,by omega,Below.refl _ _⟩
    case round =>
     obtain⟨bo,k,rfl,rfl,hk,hBi⟩:=hrel
     have HBI:=hide hBi
     clear hBi
     by_cases hkq:k<q/\bo=true
     ·obtain⟨hkq,rfl⟩:=hkq
      have hki:(k:Int)<(q:Int):=by omega
      have hkr:k<rs.length:=by rw[<- HQ.out];exact hkq
      obtain⟨x,hx⟩ : ∃ x,rs[k]?=some x:=⟨_,List.getElem?_eq_getElem hkr⟩
      have hxg:=HG.out x (List.mem_of_getElem? hx)
      obtain⟨g,rfl,hgb0,hgl,_,hel⟩:=HO6.out.get (by omega)
      obtain⟨us,hus,⟨xa,xc,xda,xdc,rfl,hxT,hxc,_⟩,hcells⟩:=hel k x hx
      obtain⟨xl,hxl⟩ : ∃ xl,xl=x.n.length:=⟨_,rfl⟩
      obtain⟨xt,hxt⟩ : ∃ xt,xt=x.t:=⟨_,rfl⟩
      rw[<- hxl, <- hxt] at hcells
      have HC0:Hid (∀ W,Below wr.heap.size wr W->W.cell? ⟨g,k*5,none⟩=some (.slice xa xl xc)):=hide fun W hW=>(World.cell?_of_block ((HBI.out.trans (hW.mono HBI.out.size)).block g hgl)).trans (hcells 0 (by omega))
      have HC1:Hid (∀ W,Below wr.heap.size wr W->W.cell? ⟨g,k*5+1,none⟩=some (.int .u16 (xt:Int))):=hide fun W hW=>(World.cell?_of_block ((HBI.out.trans (hW.mono HBI.out.size)).block g hgl)).trans (hcells 1 (by omega))
      obtain⟨V,hV⟩ : ∃ V,V=N.same x.n R.n:=⟨_,rfl⟩
      have HSA:Hid (∀ W,Below wr.heap.size wr W->Calls Tryz.prog 58 #[.slice xa xl xc,.slice na nl nc] W fun e w'=>e = .returned (.bool V)/\Below W.heap.size W w'):=hide fun W hW=>by
       have hb:=HBI.out.trans (hW.mono HBI.out.size)
       have h:=rSame_any x.n R.n xa na xl nl xc nc W (hide hxl.symm) (hide HNL.out.symm) (hxT.1.below hb (Nat.le_refl _)) (HS6.out.below hb (Nat.le_refl _)) (by have:=hxg.len;omega) (Sane.small hxg.small) (Sane.small HRG.out.small)
       rw[<- hV] at h
       exact h
      have HGW:=hide (HGB.out.below HBI.out HGB.out.lt)
      clear hx hxl hxt hcells hel hxT hxc hxg hus hV hgl hgb0
      go_wp2
      have SAll:Hid (∀ W,Below wr.heap.size wr W->W.cell? ⟨g,k*5,none⟩=some (.slice xa xl xc)/\W.cell? ⟨gb,0,none⟩=some (.slice na nl nc)):=hide fun W hW=>⟨HC0.out W hW,(HGW.out.below hW HGW.out.lt).cell 0⟩
      refine wp_region_X (S:=fun w'=>w'.cell? ⟨g,k*5,none⟩=some (.slice xa xl xc)/\w'.cell? ⟨gb,0,none⟩=some (.slice na nl nc)) (jS:=1000) (by kernel_rfl) ?_
      have BA:Hid (Below wr.heap.size wr wr.drew):=hide ((Below.refl _ wr).drew)
      have SA:=hide (SAll.out _ BA.out)
      generalize wr.drew=w1 at BA SA ⊢
      refine tk gt0 SA.out ?_
      refine tk gt1 SA.out ?_
      refine tk gt2 SA.out ?_
      refine tk gt3 SA.out ?_
      refine tk gt4 SA.out ?_
      refine tk gt5 SA.out ?_
      refine tk gt6 SA.out ?_
      refine wpAnyX_ready (rs := [7]) (by kernel_rfl) (by simp) (AllX.cons gt7 (fun K hKK=>?_) AllX.nil)
      refine step_fng (by rfl) 58 #[.slice xa xl xc,.slice na nl nc] (by go_simp) (HSA.out _ BA.out) (by rintro e w' ⟨rfl,_⟩;exact⟨_,rfl⟩) ?_
      rintro _ w2 ⟨he,hb⟩
      cases he
      have B2:=hide (BA.out.trans (hb.mono BA.out.size))
      have SB:=hide (SAll.out _ B2.out)
      refine kk hKK (Or.inr SB.out) ?_
      clear hKK hb SA
      refine tk gt8 SB.out ?_
      refine wpAnyX_done (by kernel_rfl) ?_ _
      have k1:w2.cell? ⟨g,k*5+1,none⟩=some (.int .u16 (xt:Int)):=HC1.out w2 B2.out
      have k2:w2.cell? ⟨gb,1,none⟩=some (.int .u16 (t:Int)):=(HGW.out.below B2.out HGW.out.lt).cell 1
      clear SB
      cases V with
      | false =>
       go_wp2
       go_roundw
       case rel=>exact⟨_,k+1,rfl,by go_num,by omega,HBI.out.trans (B2.out.mono HBI.out.size)⟩
       case measure=>simp[intOf];omega
      | true =>
       by_cases hx5:xt=5
       ·have hx5b:((xt:Int) == 5)=true:=by simp[hx5]
        clear hx5
        go_wp2
        go_roundw
        case rel=>exact⟨_,k+1,rfl,by go_num,by omega,HBI.out.trans (B2.out.mono HBI.out.size)⟩
        case measure=>simp[intOf];omega
       ·have hx5b:((xt:Int) == 5)=false:=by simp;omega
        clear hx5
        by_cases ht5:t=5
        ·have ht5b:((t:Int) == 5)=true:=by simp[ht5]
         clear ht5
         go_wp2
         go_roundw
         case rel=>exact⟨_,k+1,rfl,by go_num,by omega,HBI.out.trans (B2.out.mono HBI.out.size)⟩
         case measure=>simp[intOf];omega
        ·have ht5b:((t:Int) == 5)=false:=by simp;omega
         clear ht5
         go_wp2
         go_roundw
         case rel=>exact⟨_,k+1,rfl,by go_num,by omega,HBI.out.trans (B2.out.mono HBI.out.size)⟩
         case measure=>simp[intOf];omega
     ·have hbk:bo=false\/(bo=true/\k=q):=by
       cases bo with
       | false=>exact Or.inl rfl
       | true=>right;exact⟨rfl,by have : ¬ k<q:=fun h=>hkq ⟨h,rfl⟩;omega⟩
      clear hkq
      have HBJ:=hide (HB06.out.trans (HBI.out.mono HB06.out.size))
      have HO7:=hide (HO6.out.bel (fun _ _ h=>h.kb (KB.of_below HBI.out)) HBI.out)
      have HE7:=hide (HE6.out.kb (KB.of_below HBI.out))
      have hr7:=HGB.out.below HBI.out HGB.out.lt
      have HR7:=hide hr7
      obtain⟨m0,m1,m2,m3,m4⟩:=rc_of hr7
      clear hr7
      rcases hbk with rfl | ⟨rfl,rfl⟩
      ·by_cases hkq:k<q
       ·have hki:(k:Int)<(q:Int):=by omega
        go_wp2
        go_roundw
        case rel=>exact⟨j+1,by go_num,by omega,by omega,hide ⟨rs,HBJ.out,HO7.out,HG.out,by omega,fun h=>absurd h (by omega)⟩⟩
        case measure=>simp[intOf];omega
       ·have hki : ¬ ((k:Int)<(q:Int)):=by omega
        go_wp2
        go_roundw
        case rel=>exact⟨j+1,by go_num,by omega,by omega,hide ⟨rs,HBJ.out,HO7.out,HG.out,by omega,fun h=>absurd h (by omega)⟩⟩
        case measure=>simp[intOf];omega
      ·have hki : ¬ ((k:Int)<(k:Int)):=by omega
       go_wp2_with (first
        | (at_builtin;go_loud (refine wpList_appL rfl (.tmp 90) (.tmp 92) 31 rfl Tryz.underlying31 _ 56 (info_parts infoRc) rfl (by decide) (by decide) (by decide) w.heap.size _ rs rfl (HO7.out.bel (fun _ _ h=>h.kb (KB.alloc _ _)) ((Below.refl _ wr).alloc (Nat.le_refl _) _)) ⟨wr.heap.size,0,none⟩ 1 R [.slice na nl nc,.int .u16 (t:Int),.int .u16 1,.int .u32 (tt:Int),.slice da dl dc] rfl (one_cell _ _ #[.slice na nl nc,.int .u16 (t:Int),.int .u16 1,.int .u32 (tt:Int),.slice da dl dc] 39 (RowAt.new wr _ _)) rfl (by simp[Value.oneCell']) (HE7.out.kb (KB.alloc _ _)) (fun _ _ _ k h=>h.kb k) (by have:=HQ.out;omega) (by have:=HBJ.out.size;simp;omega) ?_);intro v8 w8 hO8 hG8 hK8 hB8)
        | fail)
       go_roundw
       case rel =>
        refine⟨j+1,by go_num,by omega,by omega,hide ⟨rs ++ [R],(HBJ.out.alloc HBJ.out.size _).trans hB8,hO8,fun x hx=>?_,by rw[List.length_append,List.length_singleton];omega,fun h=>absurd h (by omega)⟩⟩
        rcases List.mem_append.1 hx with hx | hx
        ·exact HG.out x hx
        ·simp at hx;rw[hx];exact HRG.out
       case measure=>simp[intOf];omega
  ·have hend:j=len\/(j<len/\j=12):=by omega
   rcases hend with rfl | ⟨h1,rfl⟩
   ·clear hlt
    go_wp2
    go_ret
    exact⟨_,rfl,j,Nat.le_refl _,hj12,id,HBR0.out⟩
   ·have h1i:(12:Int)<(len:Int):=by omega
    clear hlt
    go_wp2
    go_ret
    exact⟨_,rfl,12,by omega,Nat.le_refl _,fun h=>absurd h (by omega),HBR0.out⟩
end Go.Proofs.YtmbcegljmhcdeaaGreat
namespace Go.Proofs.YtmbcegljmhcdeaaGreat
open Go.RowKit
set_option maxRecDepth 5000
set_option maxHeartbeats 3200000 in
set_option maxRecDepth 5000 in
theorem sSoa_any (b:List UInt8) (ao:Option Addr) (len cap:Nat) (w:World) (hl:Hid (b.length=len)) (hs:SlL w ao b) (hc:len<=cap) (hnil:ao=none->cap=0) (h8:len<=8192) :
 Calls Tryz.prog 120 #[.slice ao len cap] w fun e w'=>Ans (D.full b (D.soa b)) SoaV (.agg #[.slice none 0 0,.slice none 0 0,.int .u32 0,.int .u32 0,.int .u32 0,.int .u32 0,.int .u32 0]) w e w':=by
 have HS:=hide hs
 have NI:=hide hnil
 have B0:=hide ((Below.refl w.heap.size w).alloc (Nat.le_refl _) (.cells #[.slice none 0 0,.slice none 0 0,.int .u32 0,.int .u32 0,.int .u32 0,.int .u32 0,.int .u32 0] 166))
 have R0:=hide (RowAt.new w 166 #[.slice none 0 0,.slice none 0 0,.int .u32 0,.int .u32 0,.int .u32 0,.int .u32 0,.int .u32 0])
 clear hs hnil
 go_enter Tryz.func120,Tryz.ntmps120
 go_wp2_with fail
 refine (rOpen_any b ao len cap _ hl (by exact HS.out.alloc _) (by omega) hc).mono ?_
 rintro e w1 ⟨⟨n,v,hn,hz,rfl,hO⟩ | ⟨hn,rfl⟩ | ⟨n,hn,hz,rfl⟩,hb1⟩
 rotate_left
 ·have HF:Hid (D.full b (D.soa b)=none):=D.soa_no1 (by unfold D.nm;rw[hn];rfl)
  have R1:=hide (R0.out.below hb1 (by simp))
  have B1:=hide (B0.out.trans (hb1.mono (by simp)))
  clear hn hb1 R0 B0
  have k0:w1.cell? ⟨w.heap.size,0,none⟩=some (.slice none 0 0):=R1.out.cell 0
  have f0:=R1.out.frozen 0
  have k1:w1.cell? ⟨w.heap.size,1,none⟩=some (.slice none 0 0):=R1.out.cell 1
  have f1:=R1.out.frozen 1
  have k2:w1.cell? ⟨w.heap.size,2,none⟩=some (.int .u32 0):=R1.out.cell 2
  have f2:=R1.out.frozen 2
  have k3:w1.cell? ⟨w.heap.size,3,none⟩=some (.int .u32 0):=R1.out.cell 3
  have f3:=R1.out.frozen 3
  have k4:w1.cell? ⟨w.heap.size,4,none⟩=some (.int .u32 0):=R1.out.cell 4
  have f4:=R1.out.frozen 4
  have k5:w1.cell? ⟨w.heap.size,5,none⟩=some (.int .u32 0):=R1.out.cell 5
  have f5:=R1.out.frozen 5
  have k6:w1.cell? ⟨w.heap.size,6,none⟩=some (.int .u32 0):=R1.out.cell 6
  have f6:=R1.out.frozen 6
  have E0:=hide R1.out
  have E1:Hid (RowAt _ w.heap.size 166 #[.slice none 0 0,.slice none 0 0,.int .u32 0,.int .u32 0,.int .u32 0,.int .u32 0,.int .u32 0]):=E0.out.set 0 (.slice none 0 0)
  have E2:Hid (RowAt _ w.heap.size 166 #[.slice none 0 0,.slice none 0 0,.int .u32 0,.int .u32 0,.int .u32 0,.int .u32 0,.int .u32 0]):=E1.out.set 1 (.slice none 0 0)
  have E3:Hid (RowAt _ w.heap.size 166 #[.slice none 0 0,.slice none 0 0,.int .u32 0,.int .u32 0,.int .u32 0,.int .u32 0,.int .u32 0]):=E2.out.set 2 (.int .u32 0)
  have E4:Hid (RowAt _ w.heap.size 166 #[.slice none 0 0,.slice none 0 0,.int .u32 0,.int .u32 0,.int .u32 0,.int .u32 0,.int .u32 0]):=E3.out.set 3 (.int .u32 0)
  have E5:Hid (RowAt _ w.heap.size 166 #[.slice none 0 0,.slice none 0 0,.int .u32 0,.int .u32 0,.int .u32 0,.int .u32 0,.int .u32 0]):=E4.out.set 4 (.int .u32 0)
  have E6:Hid (RowAt _ w.heap.size 166 #[.slice none 0 0,.slice none 0 0,.int .u32 0,.int .u32 0,.int .u32 0,.int .u32 0,.int .u32 0]):=E5.out.set 5 (.int .u32 0)
  have E7:Hid (RowAt _ w.heap.size 166 #[.slice none 0 0,.slice none 0 0,.int .u32 0,.int .u32 0,.int .u32 0,.int .u32 0,.int .u32 0]):=E6.out.set 6 (.int .u32 0)
  have HU:Hid (Upd w.heap.size w1 _):=((((((((Upd.refl w.heap.size w1).set 0 (.slice none 0 0)).set 1 (.slice none 0 0)).set 2 (.int .u32 0)).set 3 (.int .u32 0)).set 4 (.int .u32 0)).set 5 (.int .u32 0)).set 6 (.int .u32 0))
  have HE:Hid (RowAt _ w.heap.size 166 #[.slice none 0 0,.slice none 0 0,.int .u32 0,.int .u32 0,.int .u32 0,.int .u32 0,.int .u32 0]):=E7.out
  clear E0 E1 E2 E3 E4 E5 E6 E7
  go_wp2
  obtain⟨F,hwo⟩ : ∃ F,F=wof HE.out:=⟨_,rfl⟩
  unfold wof at hwo
  rw[<- hwo] at HE HU ⊢
  clear hwo
  have q0:F.cell? ⟨w.heap.size,0,none⟩=some (.slice none 0 0):=HE.out.cell 0
  have q1:F.cell? ⟨w.heap.size,1,none⟩=some (.slice none 0 0):=HE.out.cell 1
  have q2:F.cell? ⟨w.heap.size,2,none⟩=some (.int .u32 0):=HE.out.cell 2
  have q3:F.cell? ⟨w.heap.size,3,none⟩=some (.int .u32 0):=HE.out.cell 3
  have q4:F.cell? ⟨w.heap.size,4,none⟩=some (.int .u32 0):=HE.out.cell 4
  have q5:F.cell? ⟨w.heap.size,5,none⟩=some (.int .u32 0):=HE.out.cell 5
  have q6:F.cell? ⟨w.heap.size,6,none⟩=some (.int .u32 0):=HE.out.cell 6
  simp[bodyPost,results,Tryz.results120,go_sem,q0,q1,q2,q3,q4,q5,q6]
  exact⟨Or.inr ⟨HF.out,rfl⟩,(B1.out).trans (HU.out.below (Nat.le_refl _))⟩
 ·have HF:Hid (D.full b (D.soa b)=none):=D.soa_no1 (by unfold D.nm;rw[hn,Option.bind_some,if_neg (by omega)])
  have R1:=hide (R0.out.below hb1 (by simp))
  have B1:=hide (B0.out.trans (hb1.mono (by simp)))
  clear hn hb1 R0 B0
  have k0:w1.cell? ⟨w.heap.size,0,none⟩=some (.slice none 0 0):=R1.out.cell 0
  have f0:=R1.out.frozen 0
  have k1:w1.cell? ⟨w.heap.size,1,none⟩=some (.slice none 0 0):=R1.out.cell 1
  have f1:=R1.out.frozen 1
  have k2:w1.cell? ⟨w.heap.size,2,none⟩=some (.int .u32 0):=R1.out.cell 2
  have f2:=R1.out.frozen 2
  have k3:w1.cell? ⟨w.heap.size,3,none⟩=some (.int .u32 0):=R1.out.cell 3
  have f3:=R1.out.frozen 3
  have k4:w1.cell? ⟨w.heap.size,4,none⟩=some (.int .u32 0):=R1.out.cell 4
  have f4:=R1.out.frozen 4
  have k5:w1.cell? ⟨w.heap.size,5,none⟩=some (.int .u32 0):=R1.out.cell 5
  have f5:=R1.out.frozen 5
  have k6:w1.cell? ⟨w.heap.size,6,none⟩=some (.int .u32 0):=R1.out.cell 6
  have f6:=R1.out.frozen 6
  have E0:=hide R1.out
  have E1:Hid (RowAt _ w.heap.size 166 #[.slice none 0 0,.slice none 0 0,.int .u32 0,.int .u32 0,.int .u32 0,.int .u32 0,.int .u32 0]):=E0.out.set 0 (.slice none 0 0)
  have E2:Hid (RowAt _ w.heap.size 166 #[.slice none 0 0,.slice none 0 0,.int .u32 0,.int .u32 0,.int .u32 0,.int .u32 0,.int .u32 0]):=E1.out.set 1 (.slice none 0 0)
  have E3:Hid (RowAt _ w.heap.size 166 #[.slice none 0 0,.slice none 0 0,.int .u32 0,.int .u32 0,.int .u32 0,.int .u32 0,.int .u32 0]):=E2.out.set 2 (.int .u32 0)
  have E4:Hid (RowAt _ w.heap.size 166 #[.slice none 0 0,.slice none 0 0,.int .u32 0,.int .u32 0,.int .u32 0,.int .u32 0,.int .u32 0]):=E3.out.set 3 (.int .u32 0)
  have E5:Hid (RowAt _ w.heap.size 166 #[.slice none 0 0,.slice none 0 0,.int .u32 0,.int .u32 0,.int .u32 0,.int .u32 0,.int .u32 0]):=E4.out.set 4 (.int .u32 0)
  have E6:Hid (RowAt _ w.heap.size 166 #[.slice none 0 0,.slice none 0 0,.int .u32 0,.int .u32 0,.int .u32 0,.int .u32 0,.int .u32 0]):=E5.out.set 5 (.int .u32 0)
  have E7:Hid (RowAt _ w.heap.size 166 #[.slice none 0 0,.slice none 0 0,.int .u32 0,.int .u32 0,.int .u32 0,.int .u32 0,.int .u32 0]):=E6.out.set 6 (.int .u32 0)
  have HU:Hid (Upd w.heap.size w1 _):=((((((((Upd.refl w.heap.size w1).set 0 (.slice none 0 0)).set 1 (.slice none 0 0)).set 2 (.int .u32 0)).set 3 (.int .u32 0)).set 4 (.int .u32 0)).set 5 (.int .u32 0)).set 6 (.int .u32 0))
  have HE:Hid (RowAt _ w.heap.size 166 #[.slice none 0 0,.slice none 0 0,.int .u32 0,.int .u32 0,.int .u32 0,.int .u32 0,.int .u32 0]):=E7.out
  clear E0 E1 E2 E3 E4 E5 E6 E7
  go_wp2
  obtain⟨F,hwo⟩ : ∃ F,F=wof HE.out:=⟨_,rfl⟩
  unfold wof at hwo
  rw[<- hwo] at HE HU ⊢
  clear hwo
  have q0:F.cell? ⟨w.heap.size,0,none⟩=some (.slice none 0 0):=HE.out.cell 0
  have q1:F.cell? ⟨w.heap.size,1,none⟩=some (.slice none 0 0):=HE.out.cell 1
  have q2:F.cell? ⟨w.heap.size,2,none⟩=some (.int .u32 0):=HE.out.cell 2
  have q3:F.cell? ⟨w.heap.size,3,none⟩=some (.int .u32 0):=HE.out.cell 3
  have q4:F.cell? ⟨w.heap.size,4,none⟩=some (.int .u32 0):=HE.out.cell 4
  have q5:F.cell? ⟨w.heap.size,5,none⟩=some (.int .u32 0):=HE.out.cell 5
  have q6:F.cell? ⟨w.heap.size,6,none⟩=some (.int .u32 0):=HE.out.cell 6
  simp[bodyPost,results,Tryz.results120,go_sem,q0,q1,q2,q3,q4,q5,q6]
  exact⟨Or.inr ⟨HF.out,rfl⟩,(B1.out).trans (HU.out.below (Nat.le_refl _))⟩
 obtain⟨_,_,hsz⟩:=N.opn_small b n hn
 have H1:Hid (D.nm b=some (n,b.drop (N.size n))):=by show _=_;unfold D.nm;rw[hn,Option.bind_some,if_pos hz]
 have R1:=hide (R0.out.below hb1 (by simp))
 have B1:=hide (B0.out.trans (hb1.mono (by simp)))
 obtain⟨an,cn,rfl,_,_,_⟩:=hO.open
 have ON:=hide (OwnS.lower (base':=w.heap.size) hO (by simp))
 have hszl:N.size n<=len:=by rw[<- hl.out];exact hsz
 have hlen:=hl.out
 have hsB:SlB w.heap.size w ao b:=HS.out.slB
 obtain⟨a2,r2,s2,n2⟩:=slice_tl (N.size n) hsB hsz (by rw[hlen];exact hc) NI.out
 rw[hlen] at r2
 have S2:=hide s2
 have hl2:Hid ((b.drop (N.size n)).length=len - N.size n):=by show _=_;rw[List.length_drop,hlen]
 obtain⟨i,hi⟩ : ∃ i,N.size n=i:=⟨_,rfl⟩
 rw[hi] at r2 S2 hl2 H1 hszl n2 ⊢
 clear hn hz hO hb1 R0 B0 s2 hsz hsB hlen hi
 go_wp2_with fail
 refine (rOpen_any (b.drop i) a2 (len - i) (cap - i) _ hl2 (by exact (S2.out.below B1.out).sl B1.out.size) (by omega) (by omega)).mono ?_
 rintro e w2 ⟨⟨x,v,hn,hz,rfl,hO⟩ | ⟨hn,rfl⟩ | ⟨x,hn,hz,rfl⟩,hb2⟩
 rotate_left
 ·have HF:Hid (D.full b (D.soa b)=none):=D.soa_no2 H1.out (by unfold D.nm;rw[hn];rfl)
  have R2:=hide (R1.out.below hb2 R1.out.lt)
  have B2:=hide (B1.out.trans (hb2.mono B1.out.size))
  clear hn hb2 R1 B1
  have k0:w2.cell? ⟨w.heap.size,0,none⟩=some (.slice none 0 0):=R2.out.cell 0
  have f0:=R2.out.frozen 0
  have k1:w2.cell? ⟨w.heap.size,1,none⟩=some (.slice none 0 0):=R2.out.cell 1
  have f1:=R2.out.frozen 1
  have k2:w2.cell? ⟨w.heap.size,2,none⟩=some (.int .u32 0):=R2.out.cell 2
  have f2:=R2.out.frozen 2
  have k3:w2.cell? ⟨w.heap.size,3,none⟩=some (.int .u32 0):=R2.out.cell 3
  have f3:=R2.out.frozen 3
  have k4:w2.cell? ⟨w.heap.size,4,none⟩=some (.int .u32 0):=R2.out.cell 4
  have f4:=R2.out.frozen 4
  have k5:w2.cell? ⟨w.heap.size,5,none⟩=some (.int .u32 0):=R2.out.cell 5
  have f5:=R2.out.frozen 5
  have k6:w2.cell? ⟨w.heap.size,6,none⟩=some (.int .u32 0):=R2.out.cell 6
  have f6:=R2.out.frozen 6
  have E0:=hide R2.out
  have E1:Hid (RowAt _ w.heap.size 166 #[.slice none 0 0,.slice none 0 0,.int .u32 0,.int .u32 0,.int .u32 0,.int .u32 0,.int .u32 0]):=E0.out.set 0 (.slice none 0 0)
  have E2:Hid (RowAt _ w.heap.size 166 #[.slice none 0 0,.slice none 0 0,.int .u32 0,.int .u32 0,.int .u32 0,.int .u32 0,.int .u32 0]):=E1.out.set 1 (.slice none 0 0)
  have E3:Hid (RowAt _ w.heap.size 166 #[.slice none 0 0,.slice none 0 0,.int .u32 0,.int .u32 0,.int .u32 0,.int .u32 0,.int .u32 0]):=E2.out.set 2 (.int .u32 0)
  have E4:Hid (RowAt _ w.heap.size 166 #[.slice none 0 0,.slice none 0 0,.int .u32 0,.int .u32 0,.int .u32 0,.int .u32 0,.int .u32 0]):=E3.out.set 3 (.int .u32 0)
  have E5:Hid (RowAt _ w.heap.size 166 #[.slice none 0 0,.slice none 0 0,.int .u32 0,.int .u32 0,.int .u32 0,.int .u32 0,.int .u32 0]):=E4.out.set 4 (.int .u32 0)
  have E6:Hid (RowAt _ w.heap.size 166 #[.slice none 0 0,.slice none 0 0,.int .u32 0,.int .u32 0,.int .u32 0,.int .u32 0,.int .u32 0]):=E5.out.set 5 (.int .u32 0)
  have E7:Hid (RowAt _ w.heap.size 166 #[.slice none 0 0,.slice none 0 0,.int .u32 0,.int .u32 0,.int .u32 0,.int .u32 0,.int .u32 0]):=E6.out.set 6 (.int .u32 0)
  have HU:Hid (Upd w.heap.size w2 _):=((((((((Upd.refl w.heap.size w2).set 0 (.slice none 0 0)).set 1 (.slice none 0 0)).set 2 (.int .u32 0)).set 3 (.int .u32 0)).set 4 (.int .u32 0)).set 5 (.int .u32 0)).set 6 (.int .u32 0))
  have HE:Hid (RowAt _ w.heap.size 166 #[.slice none 0 0,.slice none 0 0,.int .u32 0,.int .u32 0,.int .u32 0,.int .u32 0,.int .u32 0]):=E7.out
  clear E0 E1 E2 E3 E4 E5 E6 E7
  go_wp2
  obtain⟨F,hwo⟩ : ∃ F,F=wof HE.out:=⟨_,rfl⟩
  unfold wof at hwo
  rw[<- hwo] at HE HU ⊢
  clear hwo
  have q0:F.cell? ⟨w.heap.size,0,none⟩=some (.slice none 0 0):=HE.out.cell 0
  have q1:F.cell? ⟨w.heap.size,1,none⟩=some (.slice none 0 0):=HE.out.cell 1
  have q2:F.cell? ⟨w.heap.size,2,none⟩=some (.int .u32 0):=HE.out.cell 2
  have q3:F.cell? ⟨w.heap.size,3,none⟩=some (.int .u32 0):=HE.out.cell 3
  have q4:F.cell? ⟨w.heap.size,4,none⟩=some (.int .u32 0):=HE.out.cell 4
  have q5:F.cell? ⟨w.heap.size,5,none⟩=some (.int .u32 0):=HE.out.cell 5
  have q6:F.cell? ⟨w.heap.size,6,none⟩=some (.int .u32 0):=HE.out.cell 6
  simp[bodyPost,results,Tryz.results120,go_sem,q0,q1,q2,q3,q4,q5,q6]
  exact⟨Or.inr ⟨HF.out,rfl⟩,(B2.out).trans (HU.out.below (Nat.le_refl _))⟩
 ·have HF:Hid (D.full b (D.soa b)=none):=D.soa_no2 H1.out (by unfold D.nm;rw[hn,Option.bind_some,if_neg (by omega)])
  have R2:=hide (R1.out.below hb2 R1.out.lt)
  have B2:=hide (B1.out.trans (hb2.mono B1.out.size))
  clear hn hb2 R1 B1
  have k0:w2.cell? ⟨w.heap.size,0,none⟩=some (.slice none 0 0):=R2.out.cell 0
  have f0:=R2.out.frozen 0
  have k1:w2.cell? ⟨w.heap.size,1,none⟩=some (.slice none 0 0):=R2.out.cell 1
  have f1:=R2.out.frozen 1
  have k2:w2.cell? ⟨w.heap.size,2,none⟩=some (.int .u32 0):=R2.out.cell 2
  have f2:=R2.out.frozen 2
  have k3:w2.cell? ⟨w.heap.size,3,none⟩=some (.int .u32 0):=R2.out.cell 3
  have f3:=R2.out.frozen 3
  have k4:w2.cell? ⟨w.heap.size,4,none⟩=some (.int .u32 0):=R2.out.cell 4
  have f4:=R2.out.frozen 4
  have k5:w2.cell? ⟨w.heap.size,5,none⟩=some (.int .u32 0):=R2.out.cell 5
  have f5:=R2.out.frozen 5
  have k6:w2.cell? ⟨w.heap.size,6,none⟩=some (.int .u32 0):=R2.out.cell 6
  have f6:=R2.out.frozen 6
  have E0:=hide R2.out
  have E1:Hid (RowAt _ w.heap.size 166 #[.slice none 0 0,.slice none 0 0,.int .u32 0,.int .u32 0,.int .u32 0,.int .u32 0,.int .u32 0]):=E0.out.set 0 (.slice none 0 0)
  have E2:Hid (RowAt _ w.heap.size 166 #[.slice none 0 0,.slice none 0 0,.int .u32 0,.int .u32 0,.int .u32 0,.int .u32 0,.int .u32 0]):=E1.out.set 1 (.slice none 0 0)
  have E3:Hid (RowAt _ w.heap.size 166 #[.slice none 0 0,.slice none 0 0,.int .u32 0,.int .u32 0,.int .u32 0,.int .u32 0,.int .u32 0]):=E2.out.set 2 (.int .u32 0)
  have E4:Hid (RowAt _ w.heap.size 166 #[.slice none 0 0,.slice none 0 0,.int .u32 0,.int .u32 0,.int .u32 0,.int .u32 0,.int .u32 0]):=E3.out.set 3 (.int .u32 0)
  have E5:Hid (RowAt _ w.heap.size 166 #[.slice none 0 0,.slice none 0 0,.int .u32 0,.int .u32 0,.int .u32 0,.int .u32 0,.int .u32 0]):=E4.out.set 4 (.int .u32 0)
  have E6:Hid (RowAt _ w.heap.size 166 #[.slice none 0 0,.slice none 0 0,.int .u32 0,.int .u32 0,.int .u32 0,.int .u32 0,.int .u32 0]):=E5.out.set 5 (.int .u32 0)
  have E7:Hid (RowAt _ w.heap.size 166 #[.slice none 0 0,.slice none 0 0,.int .u32 0,.int .u32 0,.int .u32 0,.int .u32 0,.int .u32 0]):=E6.out.set 6 (.int .u32 0)
  have HU:Hid (Upd w.heap.size w2 _):=((((((((Upd.refl w.heap.size w2).set 0 (.slice none 0 0)).set 1 (.slice none 0 0)).set 2 (.int .u32 0)).set 3 (.int .u32 0)).set 4 (.int .u32 0)).set 5 (.int .u32 0)).set 6 (.int .u32 0))
  have HE:Hid (RowAt _ w.heap.size 166 #[.slice none 0 0,.slice none 0 0,.int .u32 0,.int .u32 0,.int .u32 0,.int .u32 0,.int .u32 0]):=E7.out
  clear E0 E1 E2 E3 E4 E5 E6 E7
  go_wp2
  obtain⟨F,hwo⟩ : ∃ F,F=wof HE.out:=⟨_,rfl⟩
  unfold wof at hwo
  rw[<- hwo] at HE HU ⊢
  clear hwo
  have q0:F.cell? ⟨w.heap.size,0,none⟩=some (.slice none 0 0):=HE.out.cell 0
  have q1:F.cell? ⟨w.heap.size,1,none⟩=some (.slice none 0 0):=HE.out.cell 1
  have q2:F.cell? ⟨w.heap.size,2,none⟩=some (.int .u32 0):=HE.out.cell 2
  have q3:F.cell? ⟨w.heap.size,3,none⟩=some (.int .u32 0):=HE.out.cell 3
  have q4:F.cell? ⟨w.heap.size,4,none⟩=some (.int .u32 0):=HE.out.cell 4
  have q5:F.cell? ⟨w.heap.size,5,none⟩=some (.int .u32 0):=HE.out.cell 5
  have q6:F.cell? ⟨w.heap.size,6,none⟩=some (.int .u32 0):=HE.out.cell 6
  simp[bodyPost,results,Tryz.results120,go_sem,q0,q1,q2,q3,q4,q5,q6]
  exact⟨Or.inr ⟨HF.out,rfl⟩,(B2.out).trans (HU.out.below (Nat.le_refl _))⟩
 obtain⟨_,_,hsz⟩:=N.opn_small (b.drop i) x hn
 rw[hl2.out] at hsz
 have H2:Hid (D.nm (b.drop i)=some (x,(b.drop i).drop (N.size x))):=by show _=_;unfold D.nm;rw[hn,Option.bind_some,if_pos hz]
 have R2:=hide (R1.out.below hb2 R1.out.lt)
 have B2:=hide (B1.out.trans (hb2.mono B1.out.size))
 obtain⟨ax,cx,rfl,_,_,_⟩:=hO.open
 have OX:=hide (OwnS.lower (base':=w.heap.size) hO B1.out.size)
 have ON2:=hide (ON.out.below hb2)
 obtain⟨k,hk⟩ : ∃ k,N.size x=k:=⟨_,rfl⟩
 rw[hk] at H2 hsz ⊢
 clear hn hz hO hb2 R1 B1 ON hk
 by_cases h20:len=i+k+20
 rotate_left
 ·have HF:Hid (D.full b (D.soa b)=none):=D.soa_not H1.out H2.out (by rw[List.length_drop,hl2.out];omega)
  have hne:((len:Int) != (i:Int)+(k:Int)+20)=true:=by simp;omega
  clear h20
  have k0:w2.cell? ⟨w.heap.size,0,none⟩=some (.slice none 0 0):=R2.out.cell 0
  have f0:=R2.out.frozen 0
  have k1:w2.cell? ⟨w.heap.size,1,none⟩=some (.slice none 0 0):=R2.out.cell 1
  have f1:=R2.out.frozen 1
  have k2:w2.cell? ⟨w.heap.size,2,none⟩=some (.int .u32 0):=R2.out.cell 2
  have f2:=R2.out.frozen 2
  have k3:w2.cell? ⟨w.heap.size,3,none⟩=some (.int .u32 0):=R2.out.cell 3
  have f3:=R2.out.frozen 3
  have k4:w2.cell? ⟨w.heap.size,4,none⟩=some (.int .u32 0):=R2.out.cell 4
  have f4:=R2.out.frozen 4
  have k5:w2.cell? ⟨w.heap.size,5,none⟩=some (.int .u32 0):=R2.out.cell 5
  have f5:=R2.out.frozen 5
  have k6:w2.cell? ⟨w.heap.size,6,none⟩=some (.int .u32 0):=R2.out.cell 6
  have f6:=R2.out.frozen 6
  have E0:=hide R2.out
  have E1:Hid (RowAt _ w.heap.size 166 #[.slice none 0 0,.slice none 0 0,.int .u32 0,.int .u32 0,.int .u32 0,.int .u32 0,.int .u32 0]):=E0.out.set 0 (.slice none 0 0)
  have E2:Hid (RowAt _ w.heap.size 166 #[.slice none 0 0,.slice none 0 0,.int .u32 0,.int .u32 0,.int .u32 0,.int .u32 0,.int .u32 0]):=E1.out.set 1 (.slice none 0 0)
  have E3:Hid (RowAt _ w.heap.size 166 #[.slice none 0 0,.slice none 0 0,.int .u32 0,.int .u32 0,.int .u32 0,.int .u32 0,.int .u32 0]):=E2.out.set 2 (.int .u32 0)
  have E4:Hid (RowAt _ w.heap.size 166 #[.slice none 0 0,.slice none 0 0,.int .u32 0,.int .u32 0,.int .u32 0,.int .u32 0,.int .u32 0]):=E3.out.set 3 (.int .u32 0)
  have E5:Hid (RowAt _ w.heap.size 166 #[.slice none 0 0,.slice none 0 0,.int .u32 0,.int .u32 0,.int .u32 0,.int .u32 0,.int .u32 0]):=E4.out.set 4 (.int .u32 0)
  have E6:Hid (RowAt _ w.heap.size 166 #[.slice none 0 0,.slice none 0 0,.int .u32 0,.int .u32 0,.int .u32 0,.int .u32 0,.int .u32 0]):=E5.out.set 5 (.int .u32 0)
  have E7:Hid (RowAt _ w.heap.size 166 #[.slice none 0 0,.slice none 0 0,.int .u32 0,.int .u32 0,.int .u32 0,.int .u32 0,.int .u32 0]):=E6.out.set 6 (.int .u32 0)
  have HU:Hid (Upd w.heap.size w2 _):=((((((((Upd.refl w.heap.size w2).set 0 (.slice none 0 0)).set 1 (.slice none 0 0)).set 2 (.int .u32 0)).set 3 (.int .u32 0)).set 4 (.int .u32 0)).set 5 (.int .u32 0)).set 6 (.int .u32 0))
  have HE:Hid (RowAt _ w.heap.size 166 #[.slice none 0 0,.slice none 0 0,.int .u32 0,.int .u32 0,.int .u32 0,.int .u32 0,.int .u32 0]):=E7.out
  clear E0 E1 E2 E3 E4 E5 E6 E7
  go_wp2
  obtain⟨F,hwo⟩ : ∃ F,F=wof HE.out:=⟨_,rfl⟩
  unfold wof at hwo
  rw[<- hwo] at HE HU ⊢
  clear hwo
  have q0:F.cell? ⟨w.heap.size,0,none⟩=some (.slice none 0 0):=HE.out.cell 0
  have q1:F.cell? ⟨w.heap.size,1,none⟩=some (.slice none 0 0):=HE.out.cell 1
  have q2:F.cell? ⟨w.heap.size,2,none⟩=some (.int .u32 0):=HE.out.cell 2
  have q3:F.cell? ⟨w.heap.size,3,none⟩=some (.int .u32 0):=HE.out.cell 3
  have q4:F.cell? ⟨w.heap.size,4,none⟩=some (.int .u32 0):=HE.out.cell 4
  have q5:F.cell? ⟨w.heap.size,5,none⟩=some (.int .u32 0):=HE.out.cell 5
  have q6:F.cell? ⟨w.heap.size,6,none⟩=some (.int .u32 0):=HE.out.cell 6
  simp[bodyPost,results,Tryz.results120,go_sem,q0,q1,q2,q3,q4,q5,q6]
  exact⟨Or.inr ⟨HF.out,rfl⟩,(B2.out).trans (HU.out.below (Nat.le_refl _))⟩
 have heq:((len:Int) != (i:Int)+(k:Int)+20)=false:=by simp;omega
 obtain⟨blk,of,rfl,hblt,_⟩:=HS.out (by have:=hl.out;omega)
 obtain⟨ad3,r3,s3⟩:=cut_tl (i+k) HS.out hl.out (by omega) hc
 have l3:((b.drop (i+k)).length=20):=by rw[List.length_drop,hl.out];omega
 rw[show len - (i+k)=20 by omega] at r3
 obtain⟨b3,o3,e3,hb3,_⟩:=s3 (by omega)
 cases e3
 have r3' : ∀ W,(Instr.slice 37 (.slice (some ⟨blk,of,none⟩) len cap) (some (.int .i64 ((i:Int)+(k:Int)))) none none).run Tryz.prog W = .ok (.slice (some ⟨b3,o3,none⟩) 20 (cap - (i+k))) W:=by
  intro W;have:=r3 W;rwa [Int.natCast_add] at this
 obtain⟨d1,t1,u1⟩:=cut_hd 4 s3 l3 (by omega) (show 20<=cap - (i+k) by omega)
 obtain⟨d2,t2,u2⟩:=cut_mid 4 4 s3 l3 (by omega) (show 20<=cap - (i+k) by omega)
 obtain⟨d3,t3,u3⟩:=cut_mid 8 4 s3 l3 (by omega) (show 20<=cap - (i+k) by omega)
 obtain⟨d4,t4,u4⟩:=cut_mid 12 4 s3 l3 (by omega) (show 20<=cap - (i+k) by omega)
 obtain⟨d5,t5,u5⟩:=cut_tl 16 s3 l3 (by omega) (show 20<=cap - (i+k) by omega)
 have HF:Hid (D.full b (D.soa b)=some _):=D.full_some (by rw[hl.out];exact h8) (D.soa_ref H1.out H2.out (by rw[List.length_drop,hl2.out];omega))
 rw[List.drop_drop] at HF
 have cc : ∃ cc,cap - (i+k)=cc:=⟨_,rfl⟩
 obtain⟨cc,hcc⟩:=cc
 rw[hcc] at r3' t1 t2 t3 t4 t5
 have hg:=fun (l:List UInt8) (d:Addr) (c:Nat) (h4:l.length=4) (hsl:SlL w (some d) l) (W:World) (hB:Below w.heap.size w W)=>get_any l (some d) 4 c W h4 (hsl.below hB (Nat.le_refl _)) (by omega)
 have g1:=hg _ d1 cc (by rw[List.length_take,l3];rfl) u1
 have g2:=hg _ d2 (cc - 4) (by rw[List.length_take,List.length_drop,l3];rfl) u2
 have g3:=hg _ d3 (cc - 8) (by rw[List.length_take,List.length_drop,l3];rfl) u3
 have g4:=hg _ d4 (cc - 12) (by rw[List.length_take,List.length_drop,l3];rfl) u4
 have g5:=hg _ d5 (cc - 16) (by rw[List.length_drop,l3]) u5
 generalize D.gv ((b.drop (i+k)).take 4)=y1 at g1 HF
 generalize D.gv (((b.drop (i+k)).drop 4).take 4)=y2 at g2 HF
 generalize D.gv (((b.drop (i+k)).drop 8).take 4)=y3 at g3 HF
 generalize D.gv (((b.drop (i+k)).drop 12).take 4)=y4 at g4 HF
 generalize D.gv ((b.drop (i+k)).drop 16)=y5 at g5 HF
 replace t1 : ∀ W,(Instr.slice 37 (.slice (some ⟨b3,o3,none⟩) 20 cc) none (some (.int .i64 4)) none).run Tryz.prog W = .ok (.slice (some d1) 4 cc) W:=t1
 replace t2 : ∀ W,(Instr.slice 37 (.slice (some ⟨b3,o3,none⟩) 20 cc) (some (.int .i64 4)) (some (.int .i64 8)) none).run Tryz.prog W = .ok (.slice (some d2) 4 (cc - 4)) W:=t2
 replace t3 : ∀ W,(Instr.slice 37 (.slice (some ⟨b3,o3,none⟩) 20 cc) (some (.int .i64 8)) (some (.int .i64 12)) none).run Tryz.prog W = .ok (.slice (some d3) 4 (cc - 8)) W:=t3
 replace t4 : ∀ W,(Instr.slice 37 (.slice (some ⟨b3,o3,none⟩) 20 cc) (some (.int .i64 12)) (some (.int .i64 16)) none).run Tryz.prog W = .ok (.slice (some d4) 4 (cc - 12)) W:=t4
 replace t5 : ∀ W,(Instr.slice 37 (.slice (some ⟨b3,o3,none⟩) 20 cc) (some (.int .i64 16)) none none).run Tryz.prog W = .ok (.slice (some d5) 4 (cc - 16)) W:=t5
 clear hg u1 u2 u3 u4 u5 r3 s3 l3 h20 hcc S2 r2 H1 H2 HS
 have k0:w2.cell? ⟨w.heap.size,0,none⟩=some (.slice none 0 0):=R2.out.cell 0
 have f0:=R2.out.frozen 0
 have k1:w2.cell? ⟨w.heap.size,1,none⟩=some (.slice none 0 0):=R2.out.cell 1
 have f1:=R2.out.frozen 1
 have k2:w2.cell? ⟨w.heap.size,2,none⟩=some (.int .u32 0):=R2.out.cell 2
 have f2:=R2.out.frozen 2
 have k3:w2.cell? ⟨w.heap.size,3,none⟩=some (.int .u32 0):=R2.out.cell 3
 have f3:=R2.out.frozen 3
 have k4:w2.cell? ⟨w.heap.size,4,none⟩=some (.int .u32 0):=R2.out.cell 4
 have f4:=R2.out.frozen 4
 have k5:w2.cell? ⟨w.heap.size,5,none⟩=some (.int .u32 0):=R2.out.cell 5
 have f5:=R2.out.frozen 5
 have k6:w2.cell? ⟨w.heap.size,6,none⟩=some (.int .u32 0):=R2.out.cell 6
 have f6:=R2.out.frozen 6
 go_wp2
 go_region_law (first
  | (refine step_fn 158 #[.tmp 48] _ rfl rfl #[.slice (some d1) 4 cc] (by go_simp) (g1 _ (by exact B2.out.drew)) (by rintro e w' ⟨rfl,_⟩;exact⟨_,rfl⟩) ?_;rintro v w' ⟨he,rfl⟩;cases he)
  | (refine step_fn 158 #[.tmp 51] _ rfl rfl #[.slice (some d2) 4 (cc - 4)] (by go_simp) (g2 _ (by exact B2.out.drew)) (by rintro e w' ⟨rfl,_⟩;exact⟨_,rfl⟩) ?_;rintro v w' ⟨he,rfl⟩;cases he)
  | (refine step_fn 158 #[.tmp 54] _ rfl rfl #[.slice (some d3) 4 (cc - 8)] (by go_simp) (g3 _ (by exact B2.out.drew)) (by rintro e w' ⟨rfl,_⟩;exact⟨_,rfl⟩) ?_;rintro v w' ⟨he,rfl⟩;cases he)
  | (refine step_fn 158 #[.tmp 57] _ rfl rfl #[.slice (some d4) 4 (cc - 12)] (by go_simp) (g4 _ (by exact B2.out.drew)) (by rintro e w' ⟨rfl,_⟩;exact⟨_,rfl⟩) ?_;rintro v w' ⟨he,rfl⟩;cases he)
  | (refine step_fn 158 #[.tmp 60] _ rfl rfl #[.slice (some d5) 4 (cc - 16)] (by go_simp) (g5 _ (by exact B2.out.drew)) (by rintro e w' ⟨rfl,_⟩;exact⟨_,rfl⟩) ?_;rintro v w' ⟨he,rfl⟩;cases he))
 have E0:=hide R2.out
 have E1:Hid (RowAt _ w.heap.size 166 #[.slice an n.length cn,.slice none 0 0,.int .u32 0,.int .u32 0,.int .u32 0,.int .u32 0,.int .u32 0]):=E0.out.set 0 (.slice an n.length cn)
 have E2:Hid (RowAt _ w.heap.size 166 #[.slice an n.length cn,.slice ax x.length cx,.int .u32 0,.int .u32 0,.int .u32 0,.int .u32 0,.int .u32 0]):=E1.out.set 1 (.slice ax x.length cx)
 have E3:Hid (RowAt _ w.heap.size 166 #[.slice an n.length cn,.slice ax x.length cx,.int .u32 (y1:Int),.int .u32 0,.int .u32 0,.int .u32 0,.int .u32 0]):=E2.out.set 2 (.int .u32 (y1:Int))
 have E4:Hid (RowAt _ w.heap.size 166 #[.slice an n.length cn,.slice ax x.length cx,.int .u32 (y1:Int),.int .u32 (y2:Int),.int .u32 0,.int .u32 0,.int .u32 0]):=E3.out.set 3 (.int .u32 (y2:Int))
 have E5:Hid (RowAt _ w.heap.size 166 #[.slice an n.length cn,.slice ax x.length cx,.int .u32 (y1:Int),.int .u32 (y2:Int),.int .u32 (y3:Int),.int .u32 0,.int .u32 0]):=E4.out.set 4 (.int .u32 (y3:Int))
 have E6:Hid (RowAt _ w.heap.size 166 #[.slice an n.length cn,.slice ax x.length cx,.int .u32 (y1:Int),.int .u32 (y2:Int),.int .u32 (y3:Int),.int .u32 (y4:Int),.int .u32 0]):=E5.out.set 5 (.int .u32 (y4:Int))
 have E7:Hid (RowAt _ w.heap.size 166 #[.slice an n.length cn,.slice ax x.length cx,.int .u32 (y1:Int),.int .u32 (y2:Int),.int .u32 (y3:Int),.int .u32 (y4:Int),.int .u32 (y5:Int)]):=E6.out.set 6 (.int .u32 (y5:Int))
 have HU:Hid (Upd w.heap.size w2 _):=((((((((Upd.refl w.heap.size w2).set 0 (.slice an n.length cn)).set 1 (.slice ax x.length cx)).set 2 (.int .u32 (y1:Int))).set 3 (.int .u32 (y2:Int))).set 4 (.int .u32 (y3:Int))).set 5 (.int .u32 (y4:Int))).set 6 (.int .u32 (y5:Int))).drew
 have HE:Hid (RowAt (((((((((w2).setCell ⟨w.heap.size,0,none⟩ (.slice an n.length cn)).setCell ⟨w.heap.size,1,none⟩ (.slice ax x.length cx)).setCell ⟨w.heap.size,2,none⟩ (.int .u32 (y1:Int))).setCell ⟨w.heap.size,3,none⟩ (.int .u32 (y2:Int))).setCell ⟨w.heap.size,4,none⟩ (.int .u32 (y3:Int))).setCell ⟨w.heap.size,5,none⟩ (.int .u32 (y4:Int))).setCell ⟨w.heap.size,6,none⟩ (.int .u32 (y5:Int))).drew) w.heap.size 166 #[.slice an n.length cn,.slice ax x.length cx,.int .u32 (y1:Int),.int .u32 (y2:Int),.int .u32 (y3:Int),.int .u32 (y4:Int),.int .u32 (y5:Int)]):=E7.out.drew
 clear E0 E1 E2 E3 E4 E5 E6 E7
 go_wp2
 generalize ((((((((w2).setCell ⟨w.heap.size,0,none⟩ (.slice an n.length cn)).setCell ⟨w.heap.size,1,none⟩ (.slice ax x.length cx)).setCell ⟨w.heap.size,2,none⟩ (.int .u32 (y1:Int))).setCell ⟨w.heap.size,3,none⟩ (.int .u32 (y2:Int))).setCell ⟨w.heap.size,4,none⟩ (.int .u32 (y3:Int))).setCell ⟨w.heap.size,5,none⟩ (.int .u32 (y4:Int))).setCell ⟨w.heap.size,6,none⟩ (.int .u32 (y5:Int))).drew=F at HE HU ⊢
 have q0:F.cell? ⟨w.heap.size,0,none⟩=some (.slice an n.length cn):=HE.out.cell 0
 have q1:F.cell? ⟨w.heap.size,1,none⟩=some (.slice ax x.length cx):=HE.out.cell 1
 have q2:F.cell? ⟨w.heap.size,2,none⟩=some (.int .u32 (y1:Int)):=HE.out.cell 2
 have q3:F.cell? ⟨w.heap.size,3,none⟩=some (.int .u32 (y2:Int)):=HE.out.cell 3
 have q4:F.cell? ⟨w.heap.size,4,none⟩=some (.int .u32 (y3:Int)):=HE.out.cell 4
 have q5:F.cell? ⟨w.heap.size,5,none⟩=some (.int .u32 (y4:Int)):=HE.out.cell 5
 have q6:F.cell? ⟨w.heap.size,6,none⟩=some (.int .u32 (y5:Int)):=HE.out.cell 6
 simp[bodyPost,results,Tryz.results120,go_sem,q0,q1,q2,q3,q4,q5,q6]
 exact⟨Or.inl ⟨_,_,HF.out,rfl,⟨_,_,_,_,rfl,HU.out.own R2.out (by decide) ON2.out,HU.out.own R2.out (by decide) OX.out⟩⟩,(B2.out).trans (HU.out.below (Nat.le_refl _))⟩
end Go.Proofs.YtmbcegljmhcdeaaGreat
namespace Go.Proofs.YtmbcegljmhcdeaaGreat
set_option maxRecDepth 5000
open Go.RowKit
theorem gv16 (l:List UInt8) (h:l.length=2):IntKind.u16.wrap (D.gv l:Int)=(D.gv l:Int):=by
 have:=D.gv_lt l
 rw[h] at this
 rw[IntKind.wrap_u16]
 omega
set_option maxHeartbeats 3200000 in
theorem sSig_any (b:List UInt8) (ao:Option Addr) (len cap:Nat) (w:World) (hl:Hid (b.length=len)) (hs:SlL w ao b) (hc:len<=cap) (hnil:ao=none->cap=0) (h8:len<=8192) :
 Calls Tryz.prog 121 #[.slice ao len cap] w fun e w'=>Ans (D.full b (D.sig b)) SigV (.agg #[.int .u16 0,.int .u8 0,.int .u8 0,.int .u32 0,.int .u32 0,.int .u32 0,.int .u16 0,.slice none 0 0,.slice none 0 0]) w e w':=by
 have HS:=hide hs
 have B0:=hide ((Below.refl w.heap.size w).alloc (Nat.le_refl _) (.cells #[.int .u16 0,.int .u8 0,.int .u8 0,.int .u32 0,.int .u32 0,.int .u32 0,.int .u16 0,.slice none 0 0,.slice none 0 0] 175))
 have R0:=hide (RowAt.new w 175 #[.int .u16 0,.int .u8 0,.int .u8 0,.int .u32 0,.int .u32 0,.int .u32 0,.int .u16 0,.slice none 0 0,.slice none 0 0])
 rcases Nat.lt_or_ge len 18 with hlt | hge
 ·have hlt':(len:Int)<18:=by omega
  have HF:Hid (D.full b (D.sig b)=none):=D.sig_no (Or.inl (by rw[hl.out];exact hlt))
  clear hs hnil
  go_enter Tryz.func121,Tryz.ntmps121
  go_wp2
  generalize (w.alloc (.cells #[.int .u16 0,.int .u8 0,.int .u8 0,.int .u32 0,.int .u32 0,.int .u32 0,.int .u16 0,.slice none 0 0,.slice none 0 0] 175))=F at B0 R0 ⊢
  have q0:F.cell? ⟨w.heap.size,0,none⟩=some (.int .u16 0):=R0.out.cell 0
  have q1:F.cell? ⟨w.heap.size,1,none⟩=some (.int .u8 0):=R0.out.cell 1
  have q2:F.cell? ⟨w.heap.size,2,none⟩=some (.int .u8 0):=R0.out.cell 2
  have q3:F.cell? ⟨w.heap.size,3,none⟩=some (.int .u32 0):=R0.out.cell 3
  have q4:F.cell? ⟨w.heap.size,4,none⟩=some (.int .u32 0):=R0.out.cell 4
  have q5:F.cell? ⟨w.heap.size,5,none⟩=some (.int .u32 0):=R0.out.cell 5
  have q6:F.cell? ⟨w.heap.size,6,none⟩=some (.int .u16 0):=R0.out.cell 6
  have q7:F.cell? ⟨w.heap.size,7,none⟩=some (.slice none 0 0):=R0.out.cell 7
  have q8:F.cell? ⟨w.heap.size,8,none⟩=some (.slice none 0 0):=R0.out.cell 8
  simp[bodyPost,results,Tryz.results121,go_sem,q0,q1,q2,q3,q4,q5,q6,q7,q8]
  exact⟨Or.inr ⟨HF.out,rfl⟩,B0.out⟩
 have hge' : ¬ (len:Int)<18:=by omega
 have hlen:=hl.out
 obtain⟨blk,of,rfl,hblt,hcell⟩:=hs (by omega)
 have c2:=hcell 2 (by omega)
 have c3:=hcell 3 (by omega)
 obtain⟨d0,t0,u0⟩:=cut_tl 18 HS.out hlen (by omega) hc
 obtain⟨d1,t1,u1⟩:=cut_hd 2 HS.out hlen (by omega) hc
 obtain⟨d2,t2,u2⟩:=cut_mid 4 4 HS.out hlen (by omega) hc
 obtain⟨d3,t3,u3⟩:=cut_mid 8 4 HS.out hlen (by omega) hc
 obtain⟨d4,t4,u4⟩:=cut_mid 12 4 HS.out hlen (by omega) hc
 obtain⟨d5,t5,u5⟩:=cut_mid 16 2 HS.out hlen (by omega) hc
 have hg:=fun (l:List UInt8) (d:Addr) (m c:Nat) (h4:l.length=m) (hm:m<=4) (hsl:SlL w (some d) l) (W:World) (hB:Below w.heap.size w W)=>get_any l (some d) m c W h4 (hsl.below hB (Nat.le_refl _)) hm
 have l1:(b.take 2).length=2:=by rw[List.length_take];omega
 have l2:((b.drop 4).take 4).length=4:=by rw[List.length_take,List.length_drop];omega
 have l3:((b.drop 8).take 4).length=4:=by rw[List.length_take,List.length_drop];omega
 have l4:((b.drop 12).take 4).length=4:=by rw[List.length_take,List.length_drop];omega
 have l5:((b.drop 16).take 2).length=2:=by rw[List.length_take,List.length_drop];omega
 have g1:=hg _ d1 2 cap l1 (by omega) u1
 have g2:=hg _ d2 4 (cap - 4) l2 (by omega) u2
 have g3:=hg _ d3 4 (cap - 8) l3 (by omega) u3
 have g4:=hg _ d4 4 (cap - 12) l4 (by omega) u4
 have g5:=hg _ d5 2 (cap - 16) l5 (by omega) u5
 have w1':=gv16 _ l1
 have w5':=gv16 _ l5
 have HREF:=hide (fun r n h=>D.sig_ref (l:=b) (r:=r) (n:=n) (by omega) h)
 have HNO:=hide (fun h=>D.sig_no (l:=b) (Or.inr h))
 generalize D.gv (b.take 2)=y1 at g1 HREF w1'
 generalize D.gv ((b.drop 4).take 4)=y2 at g2 HREF
 generalize D.gv ((b.drop 8).take 4)=y3 at g3 HREF
 generalize D.gv ((b.drop 12).take 4)=y4 at g4 HREF
 generalize D.gv ((b.drop 16).take 2)=y5 at g5 HREF w5'
 generalize (b.getD 2 0).toNat=x2 at c2 HREF
 generalize (b.getD 3 0).toNat=x3 at c3 HREF
 have S0:=hide u0
 have hl0:Hid ((b.drop 18).length=len - 18):=by show _=_;rw[List.length_drop,hlen]
 have i2:(2:Int)<(len:Int):=by omega
 have i3:(3:Int)<(len:Int):=by omega
 replace t0 : ∀ W,(Instr.slice 37 (.slice (some ⟨blk,of,none⟩) len cap) (some (.int .i64 18)) none none).run Tryz.prog W = .ok (.slice (some d0) (len - 18) (cap - 18)) W:=t0
 replace t1 : ∀ W,(Instr.slice 37 (.slice (some ⟨blk,of,none⟩) len cap) none (some (.int .i64 2)) none).run Tryz.prog W = .ok (.slice (some d1) 2 cap) W:=t1
 replace t2 : ∀ W,(Instr.slice 37 (.slice (some ⟨blk,of,none⟩) len cap) (some (.int .i64 4)) (some (.int .i64 8)) none).run Tryz.prog W = .ok (.slice (some d2) 4 (cap - 4)) W:=t2
 replace t3 : ∀ W,(Instr.slice 37 (.slice (some ⟨blk,of,none⟩) len cap) (some (.int .i64 8)) (some (.int .i64 12)) none).run Tryz.prog W = .ok (.slice (some d3) 4 (cap - 8)) W:=t3
 replace t4 : ∀ W,(Instr.slice 37 (.slice (some ⟨blk,of,none⟩) len cap) (some (.int .i64 12)) (some (.int .i64 16)) none).run Tryz.prog W = .ok (.slice (some d4) 4 (cap - 12)) W:=t4
 replace t5 : ∀ W,(Instr.slice 37 (.slice (some ⟨blk,of,none⟩) len cap) (some (.int .i64 16)) (some (.int .i64 18)) none).run Tryz.prog W = .ok (.slice (some d5) 2 (cap - 16)) W:=t5
 have C2:=hide c2
 have C3:=hide c3
 clear hs hnil hcell c2 c3 hg u0 u1 u2 u3 u4 u5 l1 l2 l3 l4 l5 hlen
 go_enter Tryz.func121,Tryz.ntmps121
 go_wp2_with fail
 refine (rOpen_any (b.drop 18) (some d0) (len - 18) (cap - 18) _ hl0 (by exact S0.out.alloc _) (by omega) (by omega)).mono ?_
 rintro e w1 ⟨⟨n,v,hn,hz,rfl,hO⟩ | ⟨hn,rfl⟩ | ⟨n,hn,hz,rfl⟩,hb1⟩
 rotate_left
 ·have HF:Hid (D.full b (D.sig b)=none):=HNO.out (by unfold D.nm;rw[hn];rfl)
  have R1:=hide (R0.out.below hb1 (by simp))
  have B1:=hide (B0.out.trans (hb1.mono (by simp)))
  clear hn hb1 R0 B0
  have k0:w1.cell? ⟨w.heap.size,0,none⟩=some (.int .u16 0):=R1.out.cell 0
  have f0:=R1.out.frozen 0
  have k1:w1.cell? ⟨w.heap.size,1,none⟩=some (.int .u8 0):=R1.out.cell 1
  have f1:=R1.out.frozen 1
  have k2:w1.cell? ⟨w.heap.size,2,none⟩=some (.int .u8 0):=R1.out.cell 2
  have f2:=R1.out.frozen 2
  have k3:w1.cell? ⟨w.heap.size,3,none⟩=some (.int .u32 0):=R1.out.cell 3
  have f3:=R1.out.frozen 3
  have k4:w1.cell? ⟨w.heap.size,4,none⟩=some (.int .u32 0):=R1.out.cell 4
  have f4:=R1.out.frozen 4
  have k5:w1.cell? ⟨w.heap.size,5,none⟩=some (.int .u32 0):=R1.out.cell 5
  have f5:=R1.out.frozen 5
  have k6:w1.cell? ⟨w.heap.size,6,none⟩=some (.int .u16 0):=R1.out.cell 6
  have f6:=R1.out.frozen 6
  have k7:w1.cell? ⟨w.heap.size,7,none⟩=some (.slice none 0 0):=R1.out.cell 7
  have f7:=R1.out.frozen 7
  have k8:w1.cell? ⟨w.heap.size,8,none⟩=some (.slice none 0 0):=R1.out.cell 8
  have f8:=R1.out.frozen 8
  have E0:=hide R1.out
  have E1:Hid (RowAt _ w.heap.size 175 #[.int .u16 0,.int .u8 0,.int .u8 0,.int .u32 0,.int .u32 0,.int .u32 0,.int .u16 0,.slice none 0 0,.slice none 0 0]):=E0.out.set 0 (.int .u16 0)
  have E2:Hid (RowAt _ w.heap.size 175 #[.int .u16 0,.int .u8 0,.int .u8 0,.int .u32 0,.int .u32 0,.int .u32 0,.int .u16 0,.slice none 0 0,.slice none 0 0]):=E1.out.set 1 (.int .u8 0)
  have E3:Hid (RowAt _ w.heap.size 175 #[.int .u16 0,.int .u8 0,.int .u8 0,.int .u32 0,.int .u32 0,.int .u32 0,.int .u16 0,.slice none 0 0,.slice none 0 0]):=E2.out.set 2 (.int .u8 0)
  have E4:Hid (RowAt _ w.heap.size 175 #[.int .u16 0,.int .u8 0,.int .u8 0,.int .u32 0,.int .u32 0,.int .u32 0,.int .u16 0,.slice none 0 0,.slice none 0 0]):=E3.out.set 3 (.int .u32 0)
  have E5:Hid (RowAt _ w.heap.size 175 #[.int .u16 0,.int .u8 0,.int .u8 0,.int .u32 0,.int .u32 0,.int .u32 0,.int .u16 0,.slice none 0 0,.slice none 0 0]):=E4.out.set 4 (.int .u32 0)
  have E6:Hid (RowAt _ w.heap.size 175 #[.int .u16 0,.int .u8 0,.int .u8 0,.int .u32 0,.int .u32 0,.int .u32 0,.int .u16 0,.slice none 0 0,.slice none 0 0]):=E5.out.set 5 (.int .u32 0)
  have E7:Hid (RowAt _ w.heap.size 175 #[.int .u16 0,.int .u8 0,.int .u8 0,.int .u32 0,.int .u32 0,.int .u32 0,.int .u16 0,.slice none 0 0,.slice none 0 0]):=E6.out.set 6 (.int .u16 0)
  have E8:Hid (RowAt _ w.heap.size 175 #[.int .u16 0,.int .u8 0,.int .u8 0,.int .u32 0,.int .u32 0,.int .u32 0,.int .u16 0,.slice none 0 0,.slice none 0 0]):=E7.out.set 7 (.slice none 0 0)
  have E9:Hid (RowAt _ w.heap.size 175 #[.int .u16 0,.int .u8 0,.int .u8 0,.int .u32 0,.int .u32 0,.int .u32 0,.int .u16 0,.slice none 0 0,.slice none 0 0]):=E8.out.set 8 (.slice none 0 0)
  have HU:Hid (Upd w.heap.size w1 _):=((((((((((Upd.refl w.heap.size w1).set 0 (.int .u16 0)).set 1 (.int .u8 0)).set 2 (.int .u8 0)).set 3 (.int .u32 0)).set 4 (.int .u32 0)).set 5 (.int .u32 0)).set 6 (.int .u16 0)).set 7 (.slice none 0 0)).set 8 (.slice none 0 0))
  have HE:Hid (RowAt _ w.heap.size 175 #[.int .u16 0,.int .u8 0,.int .u8 0,.int .u32 0,.int .u32 0,.int .u32 0,.int .u16 0,.slice none 0 0,.slice none 0 0]):=E9.out
  clear E0 E1 E2 E3 E4 E5 E6 E7 E8 E9
  go_wp2
  obtain⟨F,hwo⟩ : ∃ F,F=wof HE.out:=⟨_,rfl⟩
  unfold wof at hwo
  rw[<- hwo] at HE HU ⊢
  clear hwo
  have q0:F.cell? ⟨w.heap.size,0,none⟩=some (.int .u16 0):=HE.out.cell 0
  have q1:F.cell? ⟨w.heap.size,1,none⟩=some (.int .u8 0):=HE.out.cell 1
  have q2:F.cell? ⟨w.heap.size,2,none⟩=some (.int .u8 0):=HE.out.cell 2
  have q3:F.cell? ⟨w.heap.size,3,none⟩=some (.int .u32 0):=HE.out.cell 3
  have q4:F.cell? ⟨w.heap.size,4,none⟩=some (.int .u32 0):=HE.out.cell 4
  have q5:F.cell? ⟨w.heap.size,5,none⟩=some (.int .u32 0):=HE.out.cell 5
  have q6:F.cell? ⟨w.heap.size,6,none⟩=some (.int .u16 0):=HE.out.cell 6
  have q7:F.cell? ⟨w.heap.size,7,none⟩=some (.slice none 0 0):=HE.out.cell 7
  have q8:F.cell? ⟨w.heap.size,8,none⟩=some (.slice none 0 0):=HE.out.cell 8
  simp[bodyPost,results,Tryz.results121,go_sem,q0,q1,q2,q3,q4,q5,q6,q7,q8]
  exact⟨Or.inr ⟨HF.out,rfl⟩,(B1.out).trans (HU.out.below (Nat.le_refl _))⟩
 ·have HF:Hid (D.full b (D.sig b)=none):=HNO.out (by unfold D.nm;rw[hn,Option.bind_some,if_neg (by omega)])
  have R1:=hide (R0.out.below hb1 (by simp))
  have B1:=hide (B0.out.trans (hb1.mono (by simp)))
  clear hn hb1 R0 B0
  have k0:w1.cell? ⟨w.heap.size,0,none⟩=some (.int .u16 0):=R1.out.cell 0
  have f0:=R1.out.frozen 0
  have k1:w1.cell? ⟨w.heap.size,1,none⟩=some (.int .u8 0):=R1.out.cell 1
  have f1:=R1.out.frozen 1
  have k2:w1.cell? ⟨w.heap.size,2,none⟩=some (.int .u8 0):=R1.out.cell 2
  have f2:=R1.out.frozen 2
  have k3:w1.cell? ⟨w.heap.size,3,none⟩=some (.int .u32 0):=R1.out.cell 3
  have f3:=R1.out.frozen 3
  have k4:w1.cell? ⟨w.heap.size,4,none⟩=some (.int .u32 0):=R1.out.cell 4
  have f4:=R1.out.frozen 4
  have k5:w1.cell? ⟨w.heap.size,5,none⟩=some (.int .u32 0):=R1.out.cell 5
  have f5:=R1.out.frozen 5
  have k6:w1.cell? ⟨w.heap.size,6,none⟩=some (.int .u16 0):=R1.out.cell 6
  have f6:=R1.out.frozen 6
  have k7:w1.cell? ⟨w.heap.size,7,none⟩=some (.slice none 0 0):=R1.out.cell 7
  have f7:=R1.out.frozen 7
  have k8:w1.cell? ⟨w.heap.size,8,none⟩=some (.slice none 0 0):=R1.out.cell 8
  have f8:=R1.out.frozen 8
  have E0:=hide R1.out
  have E1:Hid (RowAt _ w.heap.size 175 #[.int .u16 0,.int .u8 0,.int .u8 0,.int .u32 0,.int .u32 0,.int .u32 0,.int .u16 0,.slice none 0 0,.slice none 0 0]):=E0.out.set 0 (.int .u16 0)
  have E2:Hid (RowAt _ w.heap.size 175 #[.int .u16 0,.int .u8 0,.int .u8 0,.int .u32 0,.int .u32 0,.int .u32 0,.int .u16 0,.slice none 0 0,.slice none 0 0]):=E1.out.set 1 (.int .u8 0)
  have E3:Hid (RowAt _ w.heap.size 175 #[.int .u16 0,.int .u8 0,.int .u8 0,.int .u32 0,.int .u32 0,.int .u32 0,.int .u16 0,.slice none 0 0,.slice none 0 0]):=E2.out.set 2 (.int .u8 0)
  have E4:Hid (RowAt _ w.heap.size 175 #[.int .u16 0,.int .u8 0,.int .u8 0,.int .u32 0,.int .u32 0,.int .u32 0,.int .u16 0,.slice none 0 0,.slice none 0 0]):=E3.out.set 3 (.int .u32 0)
  have E5:Hid (RowAt _ w.heap.size 175 #[.int .u16 0,.int .u8 0,.int .u8 0,.int .u32 0,.int .u32 0,.int .u32 0,.int .u16 0,.slice none 0 0,.slice none 0 0]):=E4.out.set 4 (.int .u32 0)
  have E6:Hid (RowAt _ w.heap.size 175 #[.int .u16 0,.int .u8 0,.int .u8 0,.int .u32 0,.int .u32 0,.int .u32 0,.int .u16 0,.slice none 0 0,.slice none 0 0]):=E5.out.set 5 (.int .u32 0)
  have E7:Hid (RowAt _ w.heap.size 175 #[.int .u16 0,.int .u8 0,.int .u8 0,.int .u32 0,.int .u32 0,.int .u32 0,.int .u16 0,.slice none 0 0,.slice none 0 0]):=E6.out.set 6 (.int .u16 0)
  have E8:Hid (RowAt _ w.heap.size 175 #[.int .u16 0,.int .u8 0,.int .u8 0,.int .u32 0,.int .u32 0,.int .u32 0,.int .u16 0,.slice none 0 0,.slice none 0 0]):=E7.out.set 7 (.slice none 0 0)
  have E9:Hid (RowAt _ w.heap.size 175 #[.int .u16 0,.int .u8 0,.int .u8 0,.int .u32 0,.int .u32 0,.int .u32 0,.int .u16 0,.slice none 0 0,.slice none 0 0]):=E8.out.set 8 (.slice none 0 0)
  have HU:Hid (Upd w.heap.size w1 _):=((((((((((Upd.refl w.heap.size w1).set 0 (.int .u16 0)).set 1 (.int .u8 0)).set 2 (.int .u8 0)).set 3 (.int .u32 0)).set 4 (.int .u32 0)).set 5 (.int .u32 0)).set 6 (.int .u16 0)).set 7 (.slice none 0 0)).set 8 (.slice none 0 0))
  have HE:Hid (RowAt _ w.heap.size 175 #[.int .u16 0,.int .u8 0,.int .u8 0,.int .u32 0,.int .u32 0,.int .u32 0,.int .u16 0,.slice none 0 0,.slice none 0 0]):=E9.out
  clear E0 E1 E2 E3 E4 E5 E6 E7 E8 E9
  go_wp2
  obtain⟨F,hwo⟩ : ∃ F,F=wof HE.out:=⟨_,rfl⟩
  unfold wof at hwo
  rw[<- hwo] at HE HU ⊢
  clear hwo
  have q0:F.cell? ⟨w.heap.size,0,none⟩=some (.int .u16 0):=HE.out.cell 0
  have q1:F.cell? ⟨w.heap.size,1,none⟩=some (.int .u8 0):=HE.out.cell 1
  have q2:F.cell? ⟨w.heap.size,2,none⟩=some (.int .u8 0):=HE.out.cell 2
  have q3:F.cell? ⟨w.heap.size,3,none⟩=some (.int .u32 0):=HE.out.cell 3
  have q4:F.cell? ⟨w.heap.size,4,none⟩=some (.int .u32 0):=HE.out.cell 4
  have q5:F.cell? ⟨w.heap.size,5,none⟩=some (.int .u32 0):=HE.out.cell 5
  have q6:F.cell? ⟨w.heap.size,6,none⟩=some (.int .u16 0):=HE.out.cell 6
  have q7:F.cell? ⟨w.heap.size,7,none⟩=some (.slice none 0 0):=HE.out.cell 7
  have q8:F.cell? ⟨w.heap.size,8,none⟩=some (.slice none 0 0):=HE.out.cell 8
  simp[bodyPost,results,Tryz.results121,go_sem,q0,q1,q2,q3,q4,q5,q6,q7,q8]
  exact⟨Or.inr ⟨HF.out,rfl⟩,(B1.out).trans (HU.out.below (Nat.le_refl _))⟩
 obtain⟨_,_,hsz⟩:=N.opn_small (b.drop 18) n hn
 rw[hl0.out] at hsz
 have HF:Hid (D.full b (D.sig b)=some _):=D.full_some (by rw[hl.out];exact h8) (HREF.out _ _ (show D.nm (b.drop 18)=some (n,(b.drop 18).drop (N.size n)) by unfold D.nm;rw[hn,Option.bind_some,if_pos hz]))
 have R1:=hide (R0.out.below hb1 (by simp))
 have B1:=hide (B0.out.trans (hb1.mono (by simp)))
 obtain⟨an,cn,rfl,_,_,_⟩:=hO.open
 have ON:=hide (OwnS.lower (base':=w.heap.size) hO (by simp))
 rw[List.drop_drop] at HF
 obtain⟨K,hK⟩ : ∃ K,18+N.size n=K:=⟨_,rfl⟩
 rw[hK] at HF
 have hKl:K<=len:=by omega
 have hK2:IntKind.i64.wrap (18+(N.size n:Int))=(K:Int):=by rw[IntKind.wrap_i64];omega
 have hK3:18+(N.size n:Int)=(K:Int):=by omega
 have hK4:IntKind.i64.wrap (K:Int)=(K:Int):=wrap_nat K (by omega)
 obtain⟨d6,t6,u6⟩:=cut_tl K HS.out hl.out hKl hc
 have S6:=hide u6
 have hl6:Hid ((b.drop K).length=len - K):=by show _=_;rw[List.length_drop,hl.out]
 generalize b.drop K=sg at HF S6 hl6
 have e2:w1.cell? ⟨blk,of+2,none⟩=some (.int .u8 (x2:Int)):=(B1.out.cell (p:=⟨blk,of+2,none⟩) hblt).trans C2.out
 have e3:w1.cell? ⟨blk,of+3,none⟩=some (.int .u8 (x3:Int)):=(B1.out.cell (p:=⟨blk,of+3,none⟩) hblt).trans C3.out
 have hbne:blk≠w.heap.size:=by omega
 clear hn hz hO hb1 R0 B0 HREF HNO u6 HS hK hsz S0 t0
 go_wp2
 go_region_held3 (fun w'=>w'.cell? ⟨blk,of+2,none⟩=some (.int .u8 (x2:Int))/\w'.cell? ⟨blk,of+3,none⟩=some (.int .u8 (x3:Int))) ((first | (with_reducible exact⟨m2,m3⟩) | (simp only[cell_far hbne,m2,m3,and_self];done) | exact⟨e2,e3⟩)) ((first
  | (refine step_fn 158 #[.tmp 22] _ rfl rfl #[.slice (some d1) 2 cap] (by go_simp) (g1 _ (by first | exact B1.out.drew | exact B4.out | exact B4.out.drew)) (by rintro e w' ⟨rfl,_⟩;exact⟨_,rfl⟩) ?_;rintro v w' ⟨he,rfl⟩;cases he)
  | (refine step_fn 158 #[.tmp 32] _ rfl rfl #[.slice (some d2) 4 (cap - 4)] (by go_simp) (g2 _ (by first | exact B1.out.drew | exact B4.out | exact B4.out.drew)) (by rintro e w' ⟨rfl,_⟩;exact⟨_,rfl⟩) ?_;rintro v w' ⟨he,rfl⟩;cases he)
  | (refine step_fn 158 #[.tmp 35] _ rfl rfl #[.slice (some d3) 4 (cap - 8)] (by go_simp) (g3 _ (by first | exact B1.out.drew | exact B4.out | exact B4.out.drew)) (by rintro e w' ⟨rfl,_⟩;exact⟨_,rfl⟩) ?_;rintro v w' ⟨he,rfl⟩;cases he)
  | (refine step_fn 158 #[.tmp 38] _ rfl rfl #[.slice (some d4) 4 (cap - 12)] (by go_simp) (g4 _ (by first | exact B1.out.drew | exact B4.out | exact B4.out.drew)) (by rintro e w' ⟨rfl,_⟩;exact⟨_,rfl⟩) ?_;rintro v w' ⟨he,rfl⟩;cases he)
  | (refine step_fn 158 #[.tmp 41] _ rfl rfl #[.slice (some d5) 2 (cap - 16)] (by go_simp) (g5 _ (by first | exact B1.out.drew | exact B4.out | exact B4.out.drew)) (by rintro e w' ⟨rfl,_⟩;exact⟨_,rfl⟩) ?_;rintro v w' ⟨he,rfl⟩;cases he)
  | (refine step_append_B rfl (.const (.slice none 0 0)) (.tmp 48) rfl w.heap.size (.slice none 0 0) [] rfl (OwnB.nil _ _) d6 (len - K) (cap - K) sg (by rfl) hl6.out (by exact S6.out.below B1.out.drew (Nat.le_refl _)) (by simp;omega) (by exact B1.out.size) ?_;intro v4 w4 hO4 hG4;obtain⟨a4,c4,rfl,_,_,_⟩:=hO4.open;have hN4:=nil_grown hG4;have B4:=hide (B1.out.trans (hN4.mono B1.out.size));have R4:=hide (R1.out.below hN4 R1.out.lt);have ON4:=hide (ON.out.below hN4);have m2:w4.cell? ⟨blk,of+2,none⟩=some (.int .u8 (x2:Int)):=(B4.out.cell (p:=⟨blk,of+2,none⟩) hblt).trans C2.out;have m3:w4.cell? ⟨blk,of+3,none⟩=some (.int .u8 (x3:Int)):=(B4.out.cell (p:=⟨blk,of+3,none⟩) hblt).trans C3.out;have O4:=hide hO4;obtain⟨k0,k1,k2,k3,k4,k5,k6,k7,k8,f0,f1,f2,f3,f4,f5,f6,f7,f8⟩:=row_facts9 R4.out;clear hO4 hG4 hN4)))
 all_goals
  have E0:=hide R4.out
  have E1:Hid (RowAt _ w.heap.size 175 #[.int .u16 (y1:Int),.int .u8 0,.int .u8 0,.int .u32 0,.int .u32 0,.int .u32 0,.int .u16 0,.slice none 0 0,.slice none 0 0]):=E0.out.set 0 (.int .u16 (y1:Int))
  have E2:Hid (RowAt _ w.heap.size 175 #[.int .u16 (y1:Int),.int .u8 (x2:Int),.int .u8 0,.int .u32 0,.int .u32 0,.int .u32 0,.int .u16 0,.slice none 0 0,.slice none 0 0]):=E1.out.set 1 (.int .u8 (x2:Int))
  have E3:Hid (RowAt _ w.heap.size 175 #[.int .u16 (y1:Int),.int .u8 (x2:Int),.int .u8 (x3:Int),.int .u32 0,.int .u32 0,.int .u32 0,.int .u16 0,.slice none 0 0,.slice none 0 0]):=E2.out.set 2 (.int .u8 (x3:Int))
  have E4:Hid (RowAt _ w.heap.size 175 #[.int .u16 (y1:Int),.int .u8 (x2:Int),.int .u8 (x3:Int),.int .u32 (y2:Int),.int .u32 0,.int .u32 0,.int .u16 0,.slice none 0 0,.slice none 0 0]):=E3.out.set 3 (.int .u32 (y2:Int))
  have E5:Hid (RowAt _ w.heap.size 175 #[.int .u16 (y1:Int),.int .u8 (x2:Int),.int .u8 (x3:Int),.int .u32 (y2:Int),.int .u32 (y3:Int),.int .u32 0,.int .u16 0,.slice none 0 0,.slice none 0 0]):=E4.out.set 4 (.int .u32 (y3:Int))
  have E6:Hid (RowAt _ w.heap.size 175 #[.int .u16 (y1:Int),.int .u8 (x2:Int),.int .u8 (x3:Int),.int .u32 (y2:Int),.int .u32 (y3:Int),.int .u32 (y4:Int),.int .u16 0,.slice none 0 0,.slice none 0 0]):=E5.out.set 5 (.int .u32 (y4:Int))
  have E7:Hid (RowAt _ w.heap.size 175 #[.int .u16 (y1:Int),.int .u8 (x2:Int),.int .u8 (x3:Int),.int .u32 (y2:Int),.int .u32 (y3:Int),.int .u32 (y4:Int),.int .u16 (y5:Int),.slice none 0 0,.slice none 0 0]):=E6.out.set 6 (.int .u16 (y5:Int))
  have E8:Hid (RowAt _ w.heap.size 175 #[.int .u16 (y1:Int),.int .u8 (x2:Int),.int .u8 (x3:Int),.int .u32 (y2:Int),.int .u32 (y3:Int),.int .u32 (y4:Int),.int .u16 (y5:Int),.slice an n.length cn,.slice none 0 0]):=E7.out.set 7 (.slice an n.length cn)
  have E9:Hid (RowAt _ w.heap.size 175 #[.int .u16 (y1:Int),.int .u8 (x2:Int),.int .u8 (x3:Int),.int .u32 (y2:Int),.int .u32 (y3:Int),.int .u32 (y4:Int),.int .u16 (y5:Int),.slice an n.length cn,.slice a4 sg.length c4]):=E8.out.set 8 (.slice a4 sg.length c4)
  have HU:Hid (Upd w.heap.size w4 _):=((((((((((Upd.refl w.heap.size w4).set 0 (.int .u16 (y1:Int))).set 1 (.int .u8 (x2:Int))).set 2 (.int .u8 (x3:Int))).set 3 (.int .u32 (y2:Int))).set 4 (.int .u32 (y3:Int))).set 5 (.int .u32 (y4:Int))).set 6 (.int .u16 (y5:Int))).set 7 (.slice an n.length cn)).set 8 (.slice a4 sg.length c4))
  have HE:Hid (RowAt _ w.heap.size 175 #[.int .u16 (y1:Int),.int .u8 (x2:Int),.int .u8 (x3:Int),.int .u32 (y2:Int),.int .u32 (y3:Int),.int .u32 (y4:Int),.int .u16 (y5:Int),.slice an n.length cn,.slice a4 sg.length c4]):=E9.out
  clear E0 E1 E2 E3 E4 E5 E6 E7 E8 E9
  go_wp2
  obtain⟨F,hwo⟩ : ∃ F,F=wof HE.out:=⟨_,rfl⟩
  unfold wof at hwo
  rw[<- hwo] at HE HU ⊢
  clear hwo
  have q0:F.cell? ⟨w.heap.size,0,none⟩=some (.int .u16 (y1:Int)):=HE.out.cell 0
  have q1:F.cell? ⟨w.heap.size,1,none⟩=some (.int .u8 (x2:Int)):=HE.out.cell 1
  have q2:F.cell? ⟨w.heap.size,2,none⟩=some (.int .u8 (x3:Int)):=HE.out.cell 2
  have q3:F.cell? ⟨w.heap.size,3,none⟩=some (.int .u32 (y2:Int)):=HE.out.cell 3
  have q4:F.cell? ⟨w.heap.size,4,none⟩=some (.int .u32 (y3:Int)):=HE.out.cell 4
  have q5:F.cell? ⟨w.heap.size,5,none⟩=some (.int .u32 (y4:Int)):=HE.out.cell 5
  have q6:F.cell? ⟨w.heap.size,6,none⟩=some (.int .u16 (y5:Int)):=HE.out.cell 6
  have q7:F.cell? ⟨w.heap.size,7,none⟩=some (.slice an n.length cn):=HE.out.cell 7
  have q8:F.cell? ⟨w.heap.size,8,none⟩=some (.slice a4 sg.length c4):=HE.out.cell 8
  simp[bodyPost,results,Tryz.results121,go_sem,q0,q1,q2,q3,q4,q5,q6,q7,q8]
  exact⟨Or.inl ⟨_,_,HF.out,rfl,⟨_,_,_,_,rfl,HU.out.own R4.out (by decide) ON4.out,HU.out.own R4.out (by decide) O4.out⟩⟩,(B4.out).trans (HU.out.below (Nat.le_refl _))⟩
end Go.Proofs.YtmbcegljmhcdeaaGreat
