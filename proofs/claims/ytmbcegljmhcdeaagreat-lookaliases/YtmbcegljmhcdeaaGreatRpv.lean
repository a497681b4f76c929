/- signetref15.Put: what it refuses. Made by grpp.py. -/
import Derived.Test.YtmbcegljmhcdeaaGreatRdq
import Derived.BigQuiet
import Derived.Deep.QuietTactic
import Derived.Deep.Cut
namespace Go.Proofs.YtmbcegljmhcdeaaGreat
open Go.RowKit
set_option maxRecDepth 100000 in
set_option maxHeartbeats 1500000 in
theorem mPut_good (w:World) (base m:Nat) (A:List (List UInt8)) (L:List Z.R) (hR:RZAt w base m A L) (hA:Hid (N.Small A)) (n:List (List UInt8)) (na:Option Addr) (nl nc:Nat) (hl:Hid (n.length=nl)) (hnc:nl<=nc) (hs:SlS w na n) (hm:Hid (N.Small n)) (t cl ttl:Nat) (d:List UInt8) (da:Option Addr) (dl dc:Nat) (hdl:Hid (d.length=dl)) (hsd:SlL w da d) (hnd:da=none->dc=0) (hdc:dl<=dc) (h8:dl<=8192) (hbase:base<=w.heap.size) (ht:t<65536) (httl:ttl<4294967296) (c0:List UInt8) (hgood:N.chk n=0) (hwit:N.within n A=true) (hcl:cl=1) (hcn:cn t d=some c0) (P:Bool × Nat × List Z.R) (hP:P=if Z.there L ⟨path n,t,c0,ttl,d⟩=true then (if Z.ttlAt L (path n) t=ttl then (false,0,L) else (true,0,Z.put L ⟨path n,t,c0,ttl,d⟩)) else if 2000<=L.length then (false,111,L) else (true,0,Z.put L ⟨path n,t,c0,ttl,d⟩)) :
 Calls Tryz.prog 45 #[.pointer (some ⟨m,0,none⟩),recV na nl nc t cl ttl da dl dc] w fun e w'=>e = .returned (.tuple #[.bool P.1,.int .i64 (P.2.1:Int)])/\RZAt w' base m A P.2.2/\RM base m w w':=by
 obtain⟨aa,ac,a,c,hrow,hsA,hac,hRL⟩:=hR.row
 obtain⟨k,hk⟩ : ∃ k,k=L.length:=⟨_,rfl⟩
 obtain⟨al,hal⟩ : ∃ al,al=A.length:=⟨_,rfl⟩
 rw[<- hk, <- hal] at hrow
 have hkb:k<=2000:=by rw[hk];exact hR.num
 obtain⟨w1,hw1⟩ : ∃ w1,w1=w.alloc (.cells #[.slice na nl nc,.int .u16 (t:Int),.int .u16 (cl:Int),.int .u32 (ttl:Int),.slice da dl dc] 39):=⟨_,rfl⟩
 have hb1:Below w.heap.size w w1:=by rw[hw1];exact (Below.refl _ w).alloc (Nat.le_refl _) _
 have hbx1:RowAt w1 w.heap.size 39 #[.slice na nl nc,.int .u16 (t:Int),.int .u16 (cl:Int),.int .u32 (ttl:Int),.slice da dl dc]:=by rw[hw1];exact RowAt.new w _ _
 have hnl:nl<=1000000:=by rw[<- hl.out];exact hm.out.1
 have hchk : ∀ W,Below w.heap.size w W->Calls Tryz.prog 88 #[.slice na nl nc] W fun e w'=>e = .returned (.int .i64 (N.chk n))/\w'=W:=fun W hW=>rCheck_any n na nl nc W hl (hs.below hW (Nat.le_refl _)) hm
 have hwin : ∀ W,Below w.heap.size w W->Calls Tryz.prog 64 #[.slice na nl nc,.slice aa al ac] W fun e w'=>e = .returned (.bool (N.within n A))/\Below W.heap.size W w':=fun W hW=>rWithin_any n A na aa nl al nc ac W hl (hide hal.symm) (hs.below hW (Nat.le_refl _)) (hsA.below hW (Nat.le_refl _)) (by omega) hnc (Sane.small hm.out) (Sane.small hA.out)
 have HR:=hide hR
 have HRL:=hide hRL
 have HROW:=hide hrow
 have HSA:=hide hsA
 have HK:=hide hk
 have HAL:=hide hal
 have HS:=hide hs
 have HSD:=hide hsd
 have HAC:=hide hac
 have HW1:=hide hw1
 have HB1:=hide hb1
 have HBX1:=hide hbx1
 clear hR hRL hrow hk hs hsd hsA hac hw1 hb1 hbx1 hal
 have hnb:nl<=127:=by have:=Z.chk_len hgood;have:=hl.out;omega
 obtain⟨r,hr⟩ : ∃ r:Z.R,r=⟨path n,t,c0,ttl,d⟩:=⟨_,rfl⟩
 rw[<- hr] at hP
 have hrp:r.p=path n:=by rw[hr]
 have hrt:r.t=t:=by rw[hr]
 have hrc:r.c=c0:=by rw[hr]
 have hrtt:r.ttl=ttl:=by rw[hr]
 have hrd:r.d=d:=by rw[hr]
 have hrl:Z.Low r.p:=by rw[hrp];exact path_low n
 have HP:=hide hP
 have HRE:=hide (And.intro hrp (And.intro hrt (And.intro hrc (And.intro hrtt (And.intro hrd hrl)))))
 have HRQ:=hide hr
 have HCN:=hide hcn
 have HCL:=hide hcl
 have HGOOD:=hide hgood
 have HT:=hide (And.intro ht httl)
 clear hP hr hrp hrt hrc hrtt hrd hrl hcl
 rw[hgood] at hchk
 rw[hwit] at hwin
 have HCHK:=hide hchk
 have HWIN:=hide hwin
 clear hchk hwin
 clear hgood hwit hcn ht httl
 unfold recV
 go_enter Tryz.func45,Tryz.ntmps45
 go_wp2
 rw[<- HW1.out]
 refine wp_region_X (S:=fun w'=>w'.cell? ⟨w.heap.size,0,none⟩=some (.slice na nl nc)/\w'.cell? ⟨m,0,none⟩=some (.slice aa al ac)) (jS:=1000) (by kernel_rfl) ?_
 have BA:Hid (Below w.heap.size w w1.drew):=hide (HB1.out.drew)
 have SAll:Hid (∀ w',Below w.heap.size w w'->Below w1.heap.size w1 w'->w'.cell? ⟨w.heap.size,0,none⟩=some (.slice na nl nc)/\w'.cell? ⟨m,0,none⟩=some (.slice aa al ac)):=hide (fun W hW hW1=>⟨(HBX1.out.below hW1 HBX1.out.lt).cell 0,(HROW.out.below hW HROW.out.lt).cell 0⟩)
 have BA1:Hid (Below w1.heap.size w1 w1.drew):=hide (Below.refl _ w1).drew
 have SA:=hide (SAll.out _ BA.out BA1.out)
 generalize w1.drew=w1d at BA BA1 SA ⊢
 refine tk gt0 SA.out ?_
 refine tk gt1 SA.out ?_
 refine rdy gt2 (fun K hKK=>?_)
 refine step_fng (by rfl) _ _ (by go_simp) (HCHK.out _ BA.out) (by rintro e w' ⟨rfl,_⟩;exact⟨_,rfl⟩) ?_
 rintro _ w2 ⟨he,hw2⟩
 cases he
 subst hw2
 refine kk hKK (Or.inr SA.out) ?_
 clear hKK
 refine tk gt3 SA.out ?_
 refine tk gt4 SA.out ?_
 refine tk gt5 SA.out ?_
 refine tk gt6 SA.out ?_
 refine tk gt7 SA.out ?_
 refine tk gt8 SA.out ?_
 refine tk gt9 SA.out ?_
 refine tk gt10 SA.out ?_
 refine rdy gt11 (fun K hKK=>?_)
 refine step_fng (by rfl) _ _ (by go_simp) (HWIN.out _ BA.out) (by rintro e w' ⟨rfl,_⟩;exact⟨_,rfl⟩) ?_
 rintro _ w2 ⟨he,hb2⟩
 cases he
 have B2:=hide (BA.out.trans (hb2.mono BA.out.size))
 have SB:=hide (SAll.out _ B2.out (BA1.out.trans (hb2.mono BA1.out.size)))
 refine kk hKK (Or.inr SB.out) ?_
 clear hKK
 refine tk gt12 SB.out ?_
 refine tk gt13 SB.out ?_
 refine wpAnyX_done (by kernel_rfl) ?_ _
 have HB2:=B2
 have hB1:=HB1.out
 have x1:w2.cell? ⟨w.heap.size,1,none⟩=some (.int .u16 (t:Int)):=(HBX1.out.below (BA1.out.trans (hb2.mono BA1.out.size)) HBX1.out.lt).cell 1
 have x2:w2.cell? ⟨w.heap.size,2,none⟩=some (.int .u16 (cl:Int)):=(HBX1.out.below (BA1.out.trans (hb2.mono BA1.out.size)) HBX1.out.lt).cell 2
 have x4:w2.cell? ⟨w.heap.size,4,none⟩=some (.slice da dl dc):=(HBX1.out.below (BA1.out.trans (hb2.mono BA1.out.size)) HBX1.out.lt).cell 4
 have hck:=sCheck_any t d da dl dc w2 hdl (HSD.out.below B2.out (Nat.le_refl _)) hdc hnd h8
 have HB2:=B2
 have hclb:((cl:Int) != 1)=false:=by simp[HCL.out]
 have hfull:D.full d (D.can t d)=some c0:=HCN.out
 rw[hfull,(rfl:codeOf (some c0)=0)] at hck
 clear hfull
 go_wp2_with (go_at_call 89;refine hck.mono ?_;rintro e w3 ⟨rfl,hb3⟩)
 have HB3:=hide (B2.out.trans (hb3.mono B2.out.size))
 have HBX3:=hide (HBX1.out.below (BA1.out.trans ((hb2.trans (hb3.mono hb2.size)).mono BA1.out.size)) HBX1.out.lt)
 clear hb3 hb2 hck x1 x2 x4 B2 BA1 SAll SB HBX1 HB1
 go_loopw [6] (fun i wr => ∃ j:Nat,i = .int .i64 (j:Int)/\j<=k/\Below w.heap.size w wr/\RowAt wr w.heap.size 39 #[.slice na nl nc,.int .u16 (t:Int),.int .u16 (cl:Int),.int .u32 (ttl:Int),.slice da dl dc]/\Hid (∀ i x,i<j->L[i]?=some x->Z.cmpK x r<0)) (fun i _=>k - (intOf i).toNat)
 case atStart=>exact⟨0,rfl,by omega,HB3.out,HBX3.out,hide fun i x hi=>absurd hi (Nat.not_lt_zero i)⟩
 case round =>
  obtain⟨j,rfl,hjle,hB,hBX,HLT⟩:=hrel
  have HBr:=hide hB
  have HBXr:=hide hBX
  have HZr:=hide (HROW.out.below hB HROW.out.lt)
  have y1:wr.cell? ⟨m,1,none⟩=some (.slice a k c):=HZr.out.cell 1
  clear hB hBX HB3 HBX3
  obtain⟨hb,hhb⟩ : ∃ hb:Bool,(hb=true ↔ ∃ x,L[j]?=some x/\Z.cmpK x r<0):=⟨@decide (∃ x,L[j]?=some x/\Z.cmpK x r<0) (Classical.propDecidable _), @decide_eq_true_iff _ (Classical.propDecidable _)⟩
  have HIFF:=hide hhb
  clear hhb
  go_wp2
  go_cut [53] from 168 (fun s53 wc=>s53 = .bool hb/\Below wr.heap.size wr wc)
  case first =>
   by_cases hlt:j<k
   ·obtain⟨x,hx⟩ : ∃ x,L[j]?=some x:=⟨_,List.getElem?_eq_getElem (show j<L.length by have:=HK.out;omega)⟩
    have hxL:x∈L:=List.mem_of_getElem? hx
    have hrl0:=HRL.out.bel HBr.out
    obtain⟨g,na2,nc2,xda,xdc,rfl,q0,q1,q2,q3,q4,hT,hnc2,hnn,hTd,hdn,hdc2⟩:=hrl0.at_ hx
    have hgl:=RL.blk hrl0 (by have:=HK.out;omega)
    have hxok:=HR.out.okk x hxL
    have hord : ∀ W,Below wr.heap.size wr W->Calls Tryz.prog 90 #[.agg #[.slice na2 x.p.length nc2,.int .u16 (x.t:Int),.int .u16 1,.int .u32 (x.ttl:Int),.slice xda x.d.length xdc],.agg #[.slice na nl nc,.int .u16 (t:Int),.int .u16 (cl:Int),.int .u32 (ttl:Int),.slice da dl dc]] W fun e w'=>e = .returned (.int .i64 (Z.cmpK x r))/\Below W.heap.size W w':=fun W hW=>by
     have h:=morder_any x.p.reverse n na2 na x.p.length nl nc2 nc x.t t 1 (cl:Int) (x.ttl:Int) (ttl:Int) x.d d xda da x.d.length dl xdc dc W (hide (List.length_reverse)) hl (hT.1.below hW (Nat.le_refl _)) ((HS.out.below HBr.out (Nat.le_refl _)).below hW (Nat.le_refl _)) (hide (HR.out.small hxL)) hm (hide rfl) hdl (hTd.1.below hW (Nat.le_refl _)) ((HSD.out.below HBr.out (Nat.le_refl _)).below hW (Nat.le_refl _)) hdc2 hdc hdn hnd hxok.2.2.2.1 h8
     have e1:canS x.t x.d=x.c:=Z.canS_of hxok.2.2.1
     have e2:canS t d=c0:=Z.canS_of HCN.out
     rw[e1,e2,ordV_cmpK x.p.reverse n x.t t x.c c0 x.ttl ttl x.d d,path_rev (HR.out.lows x hxL), <- HRQ.out] at h
     exact h
    obtain⟨pl,hpl⟩ : ∃ pl,pl=x.p.length:=⟨_,rfl⟩
    obtain⟨xdl,hxdl⟩ : ∃ xdl,xdl=x.d.length:=⟨_,rfl⟩
    obtain⟨xt,hxt⟩ : ∃ xt,xt=x.t:=⟨_,rfl⟩
    obtain⟨xl,hxl⟩ : ∃ xl,xl=x.ttl:=⟨_,rfl⟩
    obtain⟨q,hq⟩ : ∃ q,q=Z.cmpK x r:=⟨_,rfl⟩
    rw[<- hpl] at q0 hord
    rw[<- hxdl] at q4 hord
    rw[<- hxt] at q1 hord
    rw[<- hxl] at q3 hord
    rw[<- hq] at hord
    have HORD:=hide hord
    have hjk:(j:Int)<(k:Int):=by omega
    have SAll:Hid (∀ w',Below wr.heap.size wr w'->w'.cell? ⟨m,1,none⟩=some (.slice (some ⟨g,0,none⟩) k c)/\w'.cell? ⟨g,j*5,none⟩=some (.slice na2 pl nc2)/\w'.cell? ⟨g,j*5+1,none⟩=some (.int .u16 (xt:Int))/\w'.cell? ⟨g,j*5+2,none⟩=some (.int .u16 1)/\w'.cell? ⟨g,j*5+3,none⟩=some (.int .u32 (xl:Int))/\w'.cell? ⟨g,j*5+4,none⟩=some (.slice xda xdl xdc)/\w'.cell? ⟨w.heap.size,0,none⟩=some (.slice na nl nc)/\w'.cell? ⟨w.heap.size,1,none⟩=some (.int .u16 (t:Int))/\w'.cell? ⟨w.heap.size,2,none⟩=some (.int .u16 (cl:Int))/\w'.cell? ⟨w.heap.size,3,none⟩=some (.int .u32 (ttl:Int))/\w'.cell? ⟨w.heap.size,4,none⟩=some (.slice da dl dc)):=hide fun W hW =>
     ⟨(HZr.out.below hW HZr.out.lt).cell 1,cell_bm hW q0 hgl,cell_bm hW q1 hgl,cell_bm hW q2 hgl,cell_bm hW q3 hgl,cell_bm hW q4 hgl,(HBXr.out.below hW HBXr.out.lt).cell 0,(HBXr.out.below hW HBXr.out.lt).cell 1,(HBXr.out.below hW HBXr.out.lt).cell 2,(HBXr.out.below hW HBXr.out.lt).cell 3,(HBXr.out.below hW HBXr.out.lt).cell 4⟩
    have HX:=hide hx
    have HXL:=hide hxl
    have HQ:=hide hq
    clear hx hxL hrl0 q0 q1 q2 q3 q4 hT hnc2 hnn hTd hdn hdc2 hgl hxok hord hpl hxdl hxt hxl hq
    have hbt:hb=decide (q<0):=by
     rw[Bool.eq_iff_iff,decide_eq_true_iff]
     constructor
     ·intro h
      obtain⟨y,hy,hyq⟩:=HIFF.out.1 h
      rw[HX.out] at hy;injection hy with hy
      rw[<- hy, <- HQ.out] at hyq
      exact hyq
     ·intro h
      exact HIFF.out.2 ⟨x,HX.out,by have:=HQ.out;omega⟩
    subst hbt
    refine wp_region_X (S:=fun w'=>w'.cell? ⟨m,1,none⟩=some (.slice (some ⟨g,0,none⟩) k c)/\w'.cell? ⟨g,j*5,none⟩=some (.slice na2 pl nc2)/\w'.cell? ⟨g,j*5+1,none⟩=some (.int .u16 (xt:Int))/\w'.cell? ⟨g,j*5+2,none⟩=some (.int .u16 1)/\w'.cell? ⟨g,j*5+3,none⟩=some (.int .u32 (xl:Int))/\w'.cell? ⟨g,j*5+4,none⟩=some (.slice xda xdl xdc)/\w'.cell? ⟨w.heap.size,0,none⟩=some (.slice na nl nc)/\w'.cell? ⟨w.heap.size,1,none⟩=some (.int .u16 (t:Int))/\w'.cell? ⟨w.heap.size,2,none⟩=some (.int .u16 (cl:Int))/\w'.cell? ⟨w.heap.size,3,none⟩=some (.int .u32 (ttl:Int))/\w'.cell? ⟨w.heap.size,4,none⟩=some (.slice da dl dc)) (jS:=1000) (by kernel_rfl) ?_
    have BA:Hid (Below wr.heap.size wr wr.drew):=hide ((Below.refl _ wr).drew)
    have SA:=hide (SAll.out _ BA.out)
    generalize wr.drew=w1d at BA SA ⊢
    refine tk gt0 SA.out ?_
    refine tk gt1 SA.out ?_
    refine tk gt2 SA.out ?_
    refine tk gt3 SA.out ?_
    refine tk gt4 SA.out ?_
    refine tk gt5 SA.out ?_
    refine tk gt6 SA.out ?_
    refine tk gt7 SA.out ?_
    refine tk gt8 SA.out ?_
    refine tk gt9 SA.out ?_
    refine tk gt10 SA.out ?_
    refine tk gt11 SA.out ?_
    refine tk gt12 SA.out ?_
    refine tk gt13 SA.out ?_
    refine tk gt14 SA.out ?_
    refine tk gt15 SA.out ?_
    refine rdy gt16 (fun K hKK=>?_)
    refine step_fng (by rfl) _ _ (by go_simp) (HORD.out _ BA.out) (by rintro e w' ⟨rfl,_⟩;exact⟨_,rfl⟩) ?_
    rintro _ w2 ⟨he,hb2⟩
    cases he
    have B2:=hide (BA.out.trans (hb2.mono BA.out.size))
    have SB:=hide (SAll.out _ B2.out)
    refine kk hKK (Or.inr SB.out) ?_
    clear hKK hb2 SA BA
    refine tk gt17 SB.out ?_
    refine tk gt18 SB.out ?_
    refine wpAnyX_done (by kernel_rfl) ?_ _
    go_wp2_with fail
    go_meet
    exact⟨by first | rfl | (simp;done) | (simp;rw[Bool.eq_iff_iff];simp),B2.out⟩
   ·have hbt:hb=false:=by
     cases h:hb with
     | false=>rfl
     | true =>
      exfalso
      obtain⟨y,hy,_⟩:=HIFF.out.1 h
      have:=(List.getElem?_eq_some_iff.1 hy).1
      have:=HK.out
      omega
    subst hbt
    have hjk : ¬ ((j:Int)<(k:Int)):=by omega
    have hjkb:decide ((j:Int)<(k:Int))=false:=by simp;omega
    refine wp_region_X (S:=fun w'=>w'.cell? ⟨m,1,none⟩=some (.slice a k c)) (jS:=1000) (by kernel_rfl) ?_
    have BA:Hid (Below wr.heap.size wr wr.drew):=hide ((Below.refl _ wr).drew)
    have s0:wr.drew.cell? ⟨m,1,none⟩=some (.slice a k c):=(HZr.out.below BA.out HZr.out.lt).cell 1
    generalize wr.drew=w1d at BA s0 ⊢
    refine tk gt0 s0 ?_
    refine tk gt1 s0 ?_
    refine tk gt2 s0 ?_
    refine tk gt3 s0 ?_
    refine tk gt4 s0 ?_
    refine tk gt5 s0 ?_
    refine tk gt6 s0 ?_
    refine tk gt7 s0 ?_
    refine tu gt8 s0 ?_
    refine tu gt9 s0 ?_
    refine tu gt10 s0 ?_
    refine tu gt11 s0 ?_
    refine tu gt12 s0 ?_
    refine tu gt13 s0 ?_
    refine tu gt14 s0 ?_
    refine tu gt15 s0 ?_
    refine tu gt16 s0 ?_
    refine tu gt17 s0 ?_
    refine tk gt18 s0 ?_
    refine wpAnyX_done (by kernel_rfl) ?_ _
    go_wp2_with fail
    go_meet
    exact⟨rfl,BA.out⟩
  case rest =>
   obtain⟨rfl,hbc⟩:=hcut
   have HBc:=hide (HBr.out.trans (hbc.mono HBr.out.size))
   have HBXc:=hide (HBXr.out.below hbc HBXr.out.lt)
   have HZc:=hide (HZr.out.below hbc HZr.out.lt)
   clear hbc y1 HBr HBXr HZr
   cases hb with
   | true =>
    obtain⟨x0,hx0,hq0⟩:=HIFF.out.1 rfl
    have hjlt:j<k:=by have:=(List.getElem?_eq_some_iff.1 hx0).1;have:=HK.out;omega
    have HX0:=hide hx0
    have HQ0:=hide hq0
    clear hx0 hq0
    go_wp2
    go_roundw
    case rel =>
     refine⟨j+1,by go_num,by omega,HBc.out,HBXc.out,hide fun i y hi hy=>?_⟩
     by_cases e:i=j
     ·rw[e,HX0.out] at hy;injection hy with hy
      rw[<- hy];exact HQ0.out
     ·exact HLT.out i y (by omega) hy
    case measure=>simp[intOf];omega
   | false =>
    obtain⟨wx,rfl⟩ : ∃ wx,wx=wc:=⟨wc,rfl⟩
    have HBx:=HBc
    have HBXx:=HBXc
    have HZx:=HZc
    have HSTOP:Hid (∀ x,L[j]?=some x -> ¬ Z.cmpK x r<0):=hide fun x hx h=>by
     have:=HIFF.out.2 ⟨x,hx,h⟩
     cases this
    obtain⟨th,hth⟩ : ∃ th:Bool,th=Z.there L r:=⟨_,rfl⟩
    have HTH:Hid (th=true ↔ ∃ x,L[j]?=some x/\Z.cmpK x r=0):=hide (by rw[hth];exact Z.there_at HR.out.rise HR.out.lows HRE.out.2.2.2.2.2 HLT.out HSTOP.out)
    have HTHV:=hide hth
    have y1:wx.cell? ⟨m,1,none⟩=some (.slice a k c):=HZx.out.cell 1
    clear hth HBc HBXc HZc
    go_wp2
    go_cut [7] from 168 (fun s7 wc=>s7 = .bool th/\Below wx.heap.size wx wc)
    case first =>
     have HZr:=HZx
     by_cases hlt:j<k
     ·obtain⟨x,hx⟩ : ∃ x,L[j]?=some x:=⟨_,List.getElem?_eq_getElem (show j<L.length by have:=HK.out;omega)⟩
      have hxL:x∈L:=List.mem_of_getElem? hx
      have hrl0:=HRL.out.bel HBx.out
      obtain⟨g,na2,nc2,xda,xdc,rfl,q0,q1,q2,q3,q4,hT,hnc2,hnn,hTd,hdn,hdc2⟩:=hrl0.at_ hx
      have hgl:=RL.blk hrl0 (by have:=HK.out;omega)
      have hxok:=HR.out.okk x hxL
      have hord : ∀ W,Below wx.heap.size wx W->Calls Tryz.prog 90 #[.agg #[.slice na2 x.p.length nc2,.int .u16 (x.t:Int),.int .u16 1,.int .u32 (x.ttl:Int),.slice xda x.d.length xdc],.agg #[.slice na nl nc,.int .u16 (t:Int),.int .u16 (cl:Int),.int .u32 (ttl:Int),.slice da dl dc]] W fun e w'=>e = .returned (.int .i64 (Z.cmpK x r))/\Below W.heap.size W w':=fun W hW=>by
       have h:=morder_any x.p.reverse n na2 na x.p.length nl nc2 nc x.t t 1 (cl:Int) (x.ttl:Int) (ttl:Int) x.d d xda da x.d.length dl xdc dc W (hide (List.length_reverse)) hl (hT.1.below hW (Nat.le_refl _)) ((HS.out.below HBx.out (Nat.le_refl _)).below hW (Nat.le_refl _)) (hide (HR.out.small hxL)) hm (hide rfl) hdl (hTd.1.below hW (Nat.le_refl _)) ((HSD.out.below HBx.out (Nat.le_refl _)).below hW (Nat.le_refl _)) hdc2 hdc hdn hnd hxok.2.2.2.1 h8
       have e1:canS x.t x.d=x.c:=Z.canS_of hxok.2.2.1
       have e2:canS t d=c0:=Z.canS_of HCN.out
       rw[e1,e2,ordV_cmpK x.p.reverse n x.t t x.c c0 x.ttl ttl x.d d,path_rev (HR.out.lows x hxL), <- HRQ.out] at h
       exact h
      obtain⟨pl,hpl⟩ : ∃ pl,pl=x.p.length:=⟨_,rfl⟩
      obtain⟨xdl,hxdl⟩ : ∃ xdl,xdl=x.d.length:=⟨_,rfl⟩
      obtain⟨xt,hxt⟩ : ∃ xt,xt=x.t:=⟨_,rfl⟩
      obtain⟨xl,hxl⟩ : ∃ xl,xl=x.ttl:=⟨_,rfl⟩
      obtain⟨q,hq⟩ : ∃ q,q=Z.cmpK x r:=⟨_,rfl⟩
      rw[<- hpl] at q0 hord
      rw[<- hxdl] at q4 hord
      rw[<- hxt] at q1 hord
      rw[<- hxl] at q3 hord
      rw[<- hq] at hord
      have HORD:=hide hord
      have hjk:(j:Int)<(k:Int):=by omega
      have SAll:Hid (∀ w',Below wx.heap.size wx w'->w'.cell? ⟨m,1,none⟩=some (.slice (some ⟨g,0,none⟩) k c)/\w'.cell? ⟨g,j*5,none⟩=some (.slice na2 pl nc2)/\w'.cell? ⟨g,j*5+1,none⟩=some (.int .u16 (xt:Int))/\w'.cell? ⟨g,j*5+2,none⟩=some (.int .u16 1)/\w'.cell? ⟨g,j*5+3,none⟩=some (.int .u32 (xl:Int))/\w'.cell? ⟨g,j*5+4,none⟩=some (.slice xda xdl xdc)/\w'.cell? ⟨w.heap.size,0,none⟩=some (.slice na nl nc)/\w'.cell? ⟨w.heap.size,1,none⟩=some (.int .u16 (t:Int))/\w'.cell? ⟨w.heap.size,2,none⟩=some (.int .u16 (cl:Int))/\w'.cell? ⟨w.heap.size,3,none⟩=some (.int .u32 (ttl:Int))/\w'.cell? ⟨w.heap.size,4,none⟩=some (.slice da dl dc)):=hide fun W hW =>
       ⟨(HZx.out.below hW HZx.out.lt).cell 1,cell_bm hW q0 hgl,cell_bm hW q1 hgl,cell_bm hW q2 hgl,cell_bm hW q3 hgl,cell_bm hW q4 hgl,(HBXx.out.below hW HBXx.out.lt).cell 0,(HBXx.out.below hW HBXx.out.lt).cell 1,(HBXx.out.below hW HBXx.out.lt).cell 2,(HBXx.out.below hW HBXx.out.lt).cell 3,(HBXx.out.below hW HBXx.out.lt).cell 4⟩
      have HX:=hide hx
      have HXL:=hide hxl
      have HQ:=hide hq
      clear hx hxL hrl0 q0 q1 q2 q3 q4 hT hnc2 hnn hTd hdn hdc2 hgl hxok hord hpl hxdl hxt hxl hq
      have hbt:th=decide (q=0):=by
       rw[Bool.eq_iff_iff,decide_eq_true_iff]
       constructor
       ·intro h
        obtain⟨y,hy,hyq⟩:=HTH.out.1 h
        rw[HX.out] at hy;injection hy with hy
        rw[<- hy, <- HQ.out] at hyq
        exact hyq
       ·intro h
        exact HTH.out.2 ⟨x,HX.out,by have:=HQ.out;omega⟩
      subst hbt
      refine wp_region_X (S:=fun w'=>w'.cell? ⟨m,1,none⟩=some (.slice (some ⟨g,0,none⟩) k c)/\w'.cell? ⟨g,j*5,none⟩=some (.slice na2 pl nc2)/\w'.cell? ⟨g,j*5+1,none⟩=some (.int .u16 (xt:Int))/\w'.cell? ⟨g,j*5+2,none⟩=some (.int .u16 1)/\w'.cell? ⟨g,j*5+3,none⟩=some (.int .u32 (xl:Int))/\w'.cell? ⟨g,j*5+4,none⟩=some (.slice xda xdl xdc)/\w'.cell? ⟨w.heap.size,0,none⟩=some (.slice na nl nc)/\w'.cell? ⟨w.heap.size,1,none⟩=some (.int .u16 (t:Int))/\w'.cell? ⟨w.heap.size,2,none⟩=some (.int .u16 (cl:Int))/\w'.cell? ⟨w.heap.size,3,none⟩=some (.int .u32 (ttl:Int))/\w'.cell? ⟨w.heap.size,4,none⟩=some (.slice da dl dc)) (jS:=1000) (by kernel_rfl) ?_
      have BA:Hid (Below wx.heap.size wx wx.drew):=hide ((Below.refl _ wx).drew)
      have SA:=hide (SAll.out _ BA.out)
      generalize wx.drew=w1d at BA SA ⊢
      refine tk gt0 SA.out ?_
      refine tk gt1 SA.out ?_
      refine tk gt2 SA.out ?_
      refine tk gt3 SA.out ?_
      refine tk gt4 SA.out ?_
      refine tk gt5 SA.out ?_
      refine tk gt6 SA.out ?_
      refine tk gt7 SA.out ?_
      refine tk gt8 SA.out ?_
      refine tk gt9 SA.out ?_
      refine tk gt10 SA.out ?_
      refine tk gt11 SA.out ?_
      refine tk gt12 SA.out ?_
      refine tk gt13 SA.out ?_
      refine tk gt14 SA.out ?_
      refine tk gt15 SA.out ?_
      refine rdy gt16 (fun K hKK=>?_)
      refine step_fng (by rfl) _ _ (by go_simp) (HORD.out _ BA.out) (by rintro e w' ⟨rfl,_⟩;exact⟨_,rfl⟩) ?_
      rintro _ w2 ⟨he,hb2⟩
      cases he
      have B2:=hide (BA.out.trans (hb2.mono BA.out.size))
      have SB:=hide (SAll.out _ B2.out)
      refine kk hKK (Or.inr SB.out) ?_
      clear hKK hb2 SA BA
      refine tk gt17 SB.out ?_
      refine tk gt18 SB.out ?_
      refine tk gt19 SB.out ?_
      refine wpAnyX_done (by kernel_rfl) ?_ _
      go_wp2_with fail
      go_meet
      exact⟨by first | rfl | (simp;done) | (simp;rw[Bool.eq_iff_iff];simp),B2.out⟩
     ·have hbt:th=false:=by
       cases h:th with
       | false=>rfl
       | true =>
        exfalso
        obtain⟨y,hy,_⟩:=HTH.out.1 h
        have:=(List.getElem?_eq_some_iff.1 hy).1
        have:=HK.out
        omega
      subst hbt
      have hjk : ¬ ((j:Int)<(k:Int)):=by omega
      have hjkb:decide ((j:Int)<(k:Int))=false:=by simp;omega
      refine wp_region_X (S:=fun w'=>w'.cell? ⟨m,1,none⟩=some (.slice a k c)) (jS:=1000) (by kernel_rfl) ?_
      have BA:Hid (Below wx.heap.size wx wx.drew):=hide ((Below.refl _ wx).drew)
      have s0:wx.drew.cell? ⟨m,1,none⟩=some (.slice a k c):=(HZr.out.below BA.out HZr.out.lt).cell 1
      generalize wx.drew=w1d at BA s0 ⊢
      refine tk gt0 s0 ?_
      refine tk gt1 s0 ?_
      refine tk gt2 s0 ?_
      refine tk gt3 s0 ?_
      refine tk gt4 s0 ?_
      refine tk gt5 s0 ?_
      refine tk gt6 s0 ?_
      refine tk gt7 s0 ?_
      refine tu gt8 s0 ?_
      refine tu gt9 s0 ?_
      refine tu gt10 s0 ?_
      refine tu gt11 s0 ?_
      refine tu gt12 s0 ?_
      refine tu gt13 s0 ?_
      refine tu gt14 s0 ?_
      refine tu gt15 s0 ?_
      refine tu gt16 s0 ?_
      refine tu gt17 s0 ?_
      refine tk gt18 s0 ?_
      refine tk gt19 s0 ?_
      refine wpAnyX_done (by kernel_rfl) ?_ _
      go_wp2_with fail
      go_meet
      exact⟨rfl,BA.out⟩
    case rest =>
     clear y1
     obtain⟨rfl,hbc⟩:=hcut
     obtain⟨wy,rfl⟩ : ∃ wy,wy=wc:=⟨wc,rfl⟩
     have HBy:=hide (HBx.out.trans (hbc.mono HBx.out.size))
     have HBXy:=hide (HBXx.out.below hbc HBXx.out.lt)
     have HZy:=hide (HZx.out.below hbc HZx.out.lt)
     clear hbc HBx HBXx HZx
     obtain⟨eqb,heqb⟩ : ∃ eqb:Bool,eqb=(th && decide (Z.ttlAt L (path n) t=ttl)):=⟨_,rfl⟩
     have HEQ:=hide heqb
     clear heqb
     have y1:wy.cell? ⟨m,1,none⟩=some (.slice a k c):=HZy.out.cell 1
     go_wp2
     go_cut [88] from 168 (fun s88 wc=>s88 = .bool eqb/\Below wy.heap.size wy wc)
     case first =>
      cases th with
      | true =>
       obtain⟨x,hx,hq0⟩:=HTH.out.1 rfl
       have hxL:x∈L:=List.mem_of_getElem? hx
       have hjlt:j<k:=by have:=(List.getElem?_eq_some_iff.1 hx).1;have:=HK.out;omega
       obtain⟨e1,e2,e3⟩:=(Z.cmpK_zero (HR.out.lows x hxL) HRE.out.2.2.2.2.2).1 hq0
       have hta:=ttlAt_of HR.out hxL
       rw[e1,e2,HRE.out.1,HRE.out.2.1] at hta
       obtain⟨g,na2,nc2,xda,xdc,ea,_,_,_,q3,_⟩:=(HRL.out.bel HBy.out).at_ hx
       have hgl:g<wy.heap.size:=by
        have h:=HRL.out.bel HBy.out
        rw[ea] at h
        exact RL.blk h (by have:=HK.out;omega)
       obtain⟨xl,hxl⟩ : ∃ xl,xl=x.ttl:=⟨_,rfl⟩
       rw[<- hxl] at q3 hta
       have heq:=HEQ.out
       rw[hta,Bool.true_and] at heq
       have SAll:Hid (∀ w',Below wy.heap.size wy w'->w'.cell? ⟨m,1,none⟩=some (.slice (some ⟨g,0,none⟩) k c)/\w'.cell? ⟨g,j*5+3,none⟩=some (.int .u32 (xl:Int))/\w'.cell? ⟨w.heap.size,3,none⟩=some (.int .u32 (ttl:Int))):=hide fun W hW=>⟨by have:=(HZy.out.below hW HZy.out.lt).cell 1;rw[ea] at this;exact this,cell_bm hW q3 hgl,(HBXy.out.below hW HBXy.out.lt).cell 3⟩
       have hjki:(j:Int)<(k:Int):=by omega
       have HEQ2:=hide heq
       clear hx hxL hq0 hta e1 e2 e3 hxl ea q3 hgl heq
       by_cases hxe:xl=ttl
       ·have hbt:eqb=true:=by rw[HEQ2.out];simp[hxe]
        subst hbt
        have hxb:((xl:Int) == (ttl:Int))=true:=by simp[hxe]
        clear hxe
        refine wp_region_X (S:=fun w'=>w'.cell? ⟨m,1,none⟩=some (.slice (some ⟨g,0,none⟩) k c)/\w'.cell? ⟨g,j*5+3,none⟩=some (.int .u32 (xl:Int))/\w'.cell? ⟨w.heap.size,3,none⟩=some (.int .u32 (ttl:Int))) (jS:=1000) (by kernel_rfl) ?_
        have BA:Hid (Below wy.heap.size wy wy.drew):=hide ((Below.refl _ wy).drew)
        have SA:=hide (SAll.out _ BA.out)
        generalize wy.drew=w1d at BA SA ⊢
        refine tk gt0 SA.out ?_
        refine tk gt1 SA.out ?_
        refine tk gt2 SA.out ?_
        refine tk gt3 SA.out ?_
        refine tk gt4 SA.out ?_
        refine tk gt5 SA.out ?_
        refine tk gt6 SA.out ?_
        refine tk gt7 SA.out ?_
        refine tk gt8 SA.out ?_
        refine tk gt9 SA.out ?_
        refine tk gt10 SA.out ?_
        refine tk gt11 SA.out ?_
        refine tk gt12 SA.out ?_
        refine tk gt13 SA.out ?_
        refine wpAnyX_done (by kernel_rfl) ?_ _
        go_wp2_with fail
        go_meet
        exact⟨by first | rfl | (simp;done) | (simp;rw[Bool.eq_iff_iff];simp),BA.out⟩
       ·have hbt:eqb=false:=by rw[HEQ2.out];simp[hxe]
        subst hbt
        have hxb:((xl:Int) == (ttl:Int))=false:=by simp;omega
        clear hxe
        refine wp_region_X (S:=fun w'=>w'.cell? ⟨m,1,none⟩=some (.slice (some ⟨g,0,none⟩) k c)/\w'.cell? ⟨g,j*5+3,none⟩=some (.int .u32 (xl:Int))/\w'.cell? ⟨w.heap.size,3,none⟩=some (.int .u32 (ttl:Int))) (jS:=1000) (by kernel_rfl) ?_
        have BA:Hid (Below wy.heap.size wy wy.drew):=hide ((Below.refl _ wy).drew)
        have SA:=hide (SAll.out _ BA.out)
        generalize wy.drew=w1d at BA SA ⊢
        refine tk gt0 SA.out ?_
        refine tk gt1 SA.out ?_
        refine tk gt2 SA.out ?_
        refine tk gt3 SA.out ?_
        refine tk gt4 SA.out ?_
        refine tk gt5 SA.out ?_
        refine tk gt6 SA.out ?_
        refine tk gt7 SA.out ?_
        refine tk gt8 SA.out ?_
        refine tk gt9 SA.out ?_
        refine tk gt10 SA.out ?_
        refine tk gt11 SA.out ?_
        refine tk gt12 SA.out ?_
        refine tk gt13 SA.out ?_
        refine wpAnyX_done (by kernel_rfl) ?_ _
        go_wp2_with fail
        go_meet
        exact⟨by first | rfl | (simp;done) | (simp;rw[Bool.eq_iff_iff];simp),BA.out⟩
      | false =>
       have hbt:eqb=false:=by rw[HEQ.out];rfl
       subst hbt
       refine wp_region_X (S:=fun w'=>w'.cell? ⟨m,1,none⟩=some (.slice a k c)) (jS:=1000) (by kernel_rfl) ?_
       have BA:Hid (Below wy.heap.size wy wy.drew):=hide ((Below.refl _ wy).drew)
       have SA:=hide ((HZy.out.below BA.out HZy.out.lt).cell 1)
       generalize wy.drew=w1d at BA SA ⊢
       refine tk gt0 SA.out ?_
       refine tk gt1 SA.out ?_
       refine tu gt2 SA.out ?_
       refine tu gt3 SA.out ?_
       refine tu gt4 SA.out ?_
       refine tu gt5 SA.out ?_
       refine tu gt6 SA.out ?_
       refine tu gt7 SA.out ?_
       refine tu gt8 SA.out ?_
       refine tu gt9 SA.out ?_
       refine tu gt10 SA.out ?_
       refine tu gt11 SA.out ?_
       refine tu gt12 SA.out ?_
       refine tk gt13 SA.out ?_
       refine wpAnyX_done (by kernel_rfl) ?_ _
       go_wp2_with fail
       go_meet
       exact⟨by first | rfl | (simp;done) | (simp;rw[Bool.eq_iff_iff];simp),BA.out⟩
     case rest =>
      obtain⟨rfl,hbc⟩:=hcut
      obtain⟨wq,rfl⟩ : ∃ wq,wq=wc:=⟨wc,rfl⟩
      have HBq:=hide (HBy.out.trans (hbc.mono HBy.out.size))
      have HXq:=hide (HBXy.out.below hbc HBXy.out.lt)
      have HZq:=hide (HZy.out.below hbc HZy.out.lt)
      clear hbc y1 HBy HBXy HZy
      cases eqb with
      | true =>
       have hPv:P=(false,0,L):=by
        have h:=HEQ.out
        have h:th=true/\Z.ttlAt L (path n) t=ttl:=by simpa using h.symm
        rw[HP.out, <- HTHV.out,if_pos h.1,if_pos h.2]
       have HPv:=hide hPv
       clear hPv
       go_wp2
       go_ret2
       rw[HPv.out]
       exact⟨rfl,HR.out.bel HBq.out,RM.of_below HBq.out⟩
      | false =>
       have z1:wq.cell? ⟨m,1,none⟩=some (.slice a k c):=HZq.out.cell 1
       go_upto_if 90 with fail
       go_cut [6] from 168 (fun s6 wc=>s6 = .int .i64 (j:Int) /\ ∃ (a1:Option Addr) (c1 k1:Nat) (L1:List Z.R),k1=L1.length/\k1<=2001/\RowAt wc m 33 #[.slice aa al ac,.slice a1 k1 c1]/\RowAt wc w.heap.size 39 #[.slice na nl nc,.int .u16 (t:Int),.int .u16 (cl:Int),.int .u32 (ttl:Int),.slice da dl dc]/\RL wc base a1 c1 L1/\RM base m w wc/\(∀ g',a1=some ⟨g',0,none⟩->0<k1->g'≠w.heap.size/\g'≠m)/\(∀ x∈L1,x.p.length<=128/\Sane x.p.reverse/\Z.Low x.p)/\Z.put L r=L1.map (Z.setT (path n) t ttl)/\P=(true,0,Z.put L r)/\(Z.there L r=true\/L.length<2000))
       case first =>
        cases th with
        | true =>
         have hPv:P=(true,0,Z.put L r):=by
          have h:=HEQ.out
          have h : ¬ Z.ttlAt L (path n) t=ttl:=by simpa using h.symm
          rw[HP.out, <- HTHV.out,if_pos rfl,if_neg h]
         have hgx : ∀ g',a=some ⟨g',0,none⟩->0<k->g'≠w.heap.size/\g'≠m:=fun g' e hk0=>by
          have h:=HRL.out
          rw[e] at h
          have h1:=RL.blk h (by have:=HK.out;omega)
          obtain⟨cur,h2,_⟩:=h.row (by have:=HK.out;omega)
          refine⟨by omega,fun e2=>?_⟩
          have h3:w.heap[m]?=_:=HROW.out
          have h4:w.heap[g']?=_:=h2
          rw[e2,h3] at h4
          injection h4 with h4;injection h4 with _ h4 _;exact absurd h4 (by decide)
         have hput:Z.put L r=L.map (Z.setT (path n) t ttl):=by
          unfold Z.put
          rw[<- HTHV.out,if_pos rfl,HRE.out.1,HRE.out.2.1,HRE.out.2.2.2.1]
         have HPv:=hide hPv
         have HGX0:=hide hgx
         have HPUT:=hide hput
         clear hPv hgx hput
         go_wp2_with fail
         go_meet
         exact⟨rfl,a,c,k,L,HK.out,by omega,HZq.out,HXq.out,HRL.out.bel HBq.out,RM.of_below HBq.out,HGX0.out,fun x hx=>⟨(HR.out.okk x hx).2.2.2.2,Sane.small (HR.out.small hx),HR.out.lows x hx⟩,HPUT.out,HPv.out,Or.inl HTHV.out.symm⟩
        | false =>
         by_cases hfull:2000<=k
         ·have hP:=HP.out
          rw[<- HTHV.out,if_neg (by simp), <- HK.out,if_pos hfull] at hP
          have HPv:=hide hP
          have hfi:(2000:Int)<=(k:Int):=by omega
          clear hP
          go_wp2
          go_ret2
          rw[HPv.out]
          exact⟨rfl,HR.out.bel HBq.out,RM.of_below HBq.out⟩
         ·have hP:=HP.out
          rw[<- HTHV.out,if_neg (by simp), <- HK.out,if_neg hfull] at hP
          have HPV:=hide hP
          have hfi : ¬ ((2000:Int)<=(k:Int)):=by omega
          have hfi2:(k:Int)<2000:=by omega
          have b0:=HXq.out.cell 0
          have b1:=HXq.out.cell 1
          have b2:=HXq.out.cell 2
          have b3:=HXq.out.cell 3
          have b4:=HXq.out.cell 4
          clear hP
          go_wp2
          have hgx:=RowAt.new wq 39 #[.slice na nl nc,.int .u16 (t:Int),.int .u16 (cl:Int),.int .u32 (ttl:Int),.slice da dl dc]
          have hbz:=HBq.out.alloc HBq.out.size (.cells #[.slice na nl nc,.int .u16 (t:Int),.int .u16 (cl:Int),.int .u32 (ttl:Int),.slice da dl dc] 39)
          have hxz:=HXq.out.alloc (.cells #[.slice na nl nc,.int .u16 (t:Int),.int .u16 (cl:Int),.int .u32 (ttl:Int),.slice da dl dc] 39)
          have HGXw:Hid (w.heap.size<=wq.heap.size):=hide HBq.out.size
          have HGXB0:Hid (w.heap.size≠wq.heap.size):=hide (Nat.ne_of_lt HXq.out.lt)
          obtain⟨wz,hwz⟩ : ∃ wz,wz=wq.alloc (.cells #[.slice na nl nc,.int .u16 (t:Int),.int .u16 (cl:Int),.int .u32 (ttl:Int),.slice da dl dc] 39):=⟨_,rfl⟩
          rw[<- hwz] at hgx hbz hxz ⊢
          obtain⟨gx,hgxe⟩ : ∃ gx,gx=wq.heap.size:=⟨_,rfl⟩
          rw[<- hgxe] at hgx HGXw HGXB0 ⊢
          have HGXz:=hide hgx
          have HBz:=hide hbz
          have HXz:=hide hxz
          have HGXB:=HGXB0
          clear hwz hgx hbz hxz hgxe b0 b1 b2 b3 b4 z1
          refine wp_region_X (S:=fun w'=>w'.cell? ⟨w.heap.size,0,none⟩=some (.slice na nl nc)/\w'.cell? ⟨w.heap.size,4,none⟩=some (.slice da dl dc)) (jS:=1000) (by kernel_rfl) ?_
          have BA:Hid (Below wz.heap.size wz wz.drew):=hide ((Below.refl _ wz).drew)
          have SAll:Hid (∀ w',Below wz.heap.size wz w'->w'.cell? ⟨w.heap.size,0,none⟩=some (.slice na nl nc)/\w'.cell? ⟨w.heap.size,4,none⟩=some (.slice da dl dc)):=hide fun W hW=>⟨(HXz.out.below hW HXz.out.lt).cell 0,(HXz.out.below hW HXz.out.lt).cell 4⟩
          have SA:=hide (SAll.out _ BA.out)
          generalize wz.drew=w1d at BA SA ⊢
          refine tk gt0 SA.out ?_
          refine tk gt1 SA.out ?_
          refine tk gt3 SA.out ?_
          refine tk gt4 SA.out ?_
          refine rdy gt2 (fun K hKK=>?_)
          refine step_fng (by rfl) _ _ (by go_simp) (rLower_any n na nl nc w1d hl (HS.out.below (HBz.out.trans (BA.out.mono HBz.out.size)) (Nat.le_refl _)) hm) (by rintro e w' ⟨v,rfl,_⟩;exact⟨_,rfl⟩) ?_
          rintro _ w2 ⟨v,he,hO2,hb2⟩
          cases he
          obtain⟨na3,nc3,hv3,hT3,hn3,hc3⟩:=hO2.ty
          rw[N.lowN_len,hl.out] at hv3 hc3
          subst hv3
          have B2:=hide (BA.out.trans (hb2.mono BA.out.size))
          have SB:=hide (SAll.out _ B2.out)
          have HT3:=hide hT3
          refine kk hKK (Or.inr SB.out) ?_
          clear hKK hb2 SA BA hT3 hO2
          refine tk gt6 SB.out ?_
          refine rdy gt5 (fun K hKK=>?_)
          refine step_append_clone (by rfl) (.const (.slice none 0 0)) (.tmp 102) rfl da dl dc d rfl (by rfl) hdl.out (HSD.out.below (HBz.out.trans (B2.out.mono HBz.out.size)) (Nat.le_refl _)) hnd hdc (by omega) ?_
          intro v3 w3 hO3 hb3
          obtain⟨da3,dc3,hv4,hT4,hn4,hc4⟩:=OwnB.ty hO3
          rw[hdl.out] at hv4 hc4
          subst hv4
          have B3:=hide (B2.out.trans (hb3.mono B2.out.size))
          have SC:=hide (SAll.out _ B3.out)
          have HT4:=hide hT4
          have HT3b:=hide (HT3.out.kb (KB.of_below hb3))
          have HGX3:=hide (HGXz.out.below B3.out HGXz.out.lt)
          have g0:=HGX3.out.cell 0
          have g4:=HGX3.out.cell 4
          have f0:=HGX3.out.frozen 0
          have f4:=HGX3.out.frozen 4
          refine kk hKK (Or.inr SC.out) ?_
          clear hKK hb3 SB B2 hT4 hO3 HT3
          refine rdy gt7 (fun K hKK=>?_)
          go_simp
          have hs4:=HGX3.out.set 0 (.slice na3 nl nc3)
          have g4b:(w3.setCell ⟨gx,0,none⟩ (.slice na3 nl nc3)).cell? ⟨gx,4,none⟩=some (.slice da dl dc):=hs4.cell 4
          have f4b:(w3.setCell ⟨gx,0,none⟩ (.slice na3 nl nc3)).frozen? ⟨gx,4,none⟩=false:=hs4.frozen 4
          have SD:Hid ((w3.setCell ⟨gx,0,none⟩ (.slice na3 nl nc3)).cell? ⟨w.heap.size,0,none⟩=some (.slice na nl nc)/\(w3.setCell ⟨gx,0,none⟩ (.slice na3 nl nc3)).cell? ⟨w.heap.size,4,none⟩=some (.slice da dl dc)):=hide (by have h:=(HXz.out.below B3.out HXz.out.lt).other ⟨gx,0,none⟩ (.slice na3 nl nc3) HGXB.out;exact⟨h.cell 0,h.cell 4⟩)
          refine kk hKK (Or.inr SD.out) ?_
          clear hKK g0 g4 f0 f4
          refine tk gt8 SD.out ?_
          refine rdy gt9 (fun K hKK=>?_)
          go_simp
          have SE:Hid (((w3.setCell ⟨gx,0,none⟩ (.slice na3 nl nc3)).setCell ⟨gx,4,none⟩ (.slice da3 dl dc3)).cell? ⟨w.heap.size,0,none⟩=some (.slice na nl nc)/\((w3.setCell ⟨gx,0,none⟩ (.slice na3 nl nc3)).setCell ⟨gx,4,none⟩ (.slice da3 dl dc3)).cell? ⟨w.heap.size,4,none⟩=some (.slice da dl dc)):=hide (by have h:=((HXz.out.below B3.out HXz.out.lt).other ⟨gx,0,none⟩ (.slice na3 nl nc3) HGXB.out).other ⟨gx,4,none⟩ (.slice da3 dl dc3) HGXB.out;exact⟨h.cell 0,h.cell 4⟩)
          refine kk hKK (Or.inr SE.out) ?_
          clear hKK
          refine wpAnyX_done (by kernel_rfl) ?_ _
          have hs5:RowAt ((w3.setCell ⟨gx,0,none⟩ (.slice na3 nl nc3)).setCell ⟨gx,4,none⟩ (.slice da3 dl dc3)) gx 39 #[.slice na3 nl nc3,.int .u16 (t:Int),.int .u16 (cl:Int),.int .u32 (ttl:Int),.slice da3 dl dc3]:=(HGX3.out.set 0 (.slice na3 nl nc3)).set 4 (.slice da3 dl dc3)
          have hx5:=((HXz.out.below B3.out HXz.out.lt).other ⟨gx,0,none⟩ (.slice na3 nl nc3) HGXB.out).other ⟨gx,4,none⟩ (.slice da3 dl dc3) HGXB.out
          have hb5:Below w.heap.size w ((w3.setCell ⟨gx,0,none⟩ (.slice na3 nl nc3)).setCell ⟨gx,4,none⟩ (.slice da3 dl dc3)):=((HBz.out.trans (B3.out.mono HBz.out.size)).setCell (p:=⟨gx,0,none⟩) HGXw.out _).setCell (p:=⟨gx,4,none⟩) HGXw.out _
          have hkb5:KB w3 ((w3.setCell ⟨gx,0,none⟩ (.slice na3 nl nc3)).setCell ⟨gx,4,none⟩ (.slice da3 dl dc3)):=(KB.setCell HGX3.out (by decide) 0 _).trans (KB.setCell (HGX3.out.set 0 (.slice na3 nl nc3)) (by decide) 4 _)
          have ht5:=HT3b.out.kb hkb5
          have ht6:=HT4.out.kb hkb5
          obtain⟨w5,hw5⟩ : ∃ w5,w5=(w3.setCell ⟨gx,0,none⟩ (.slice na3 nl nc3)).setCell ⟨gx,4,none⟩ (.slice da3 dl dc3):=⟨_,rfl⟩
          rw[<- hw5] at hs5 hx5 hb5 ht5 ht6 ⊢
          have HS5:=hide hs5
          have HX5:=hide hx5
          have HB5:=hide hb5
          have HT5:=hide ht5
          have HT6:=hide ht6
          clear hs5 hx5 hb5 hkb5 ht5 ht6 hw5 SC SD SE hs4 g4b f4b HGX3 B3 HT3b HT4
          have HSEG1:Hid (∀ (W:World) (g9:Nat),Below w5.heap.size w5 W->RowAt W g9 39 #[.slice na3 nl nc3,.int .u16 (t:Int),.int .u16 (cl:Int),.int .u32 (ttl:Int),.slice da3 dl dc3]->SegR W (some ⟨g9,0,none⟩) [r] [[.slice na3 nl nc3,.int .u16 (t:Int),.int .u16 (cl:Int),.int .u32 (ttl:Int),.slice da3 dl dc3]]):=hide fun W g9 hW hr9=>by
           refine SegR.one rfl (by simp[Value.oneCell']) ?_ hr9.lt (fun i u hu=>?_)
           ·obtain⟨e1,e2,e3,e4,e5,e6⟩:=HRE.out
            have hpl:r.p.length=nl:=by rw[e1];unfold path;rw[List.length_reverse,N.lowN_len];exact hl.out
            have hpr:r.p.reverse=N.lowN n:=by rw[e1];unfold path;rw[List.reverse_reverse]
            refine⟨na3,nc3,da3,dc3,?_,?_,by rw[hpl];exact hc3,hn3,by rw[e5];exact HT6.out.kb (KB.of_below hW),hn4,by rw[e5,hdl.out];exact hc4⟩
            ·rw[hpl,e2,e4,e5,hdl.out,HCL.out];rfl
            ·rw[hpr];exact HT5.out.kb (KB.of_below hW)
           ·rw[Nat.zero_add,hr9.cell i]
            simpa using hu
          have HB5k:Hid (∀ W,Below w5.heap.size w5 W->RL W base a c L):=hide fun W hW=>HRL.out.bel (HB5.out.trans (hW.mono HB5.out.size))
          have hkc:k<=c:=by have:=HRL.out.1;have:=HK.out;omega
          have hanil:a=none->c=0:=HRL.out.2.1
          obtain⟨atl,sl2,hatl⟩:=rslice_rest a k c j hjle hkc hanil
          have sl1:=rslice_any a k c j (by omega) hanil
          obtain⟨T,hT⟩ : ∃ T,T=k - j:=⟨_,rfl⟩
          obtain⟨E,hE⟩ : ∃ E,E=c - j:=⟨_,rfl⟩
          rw[<- hT, <- hE] at sl2
          have HHEAD:Hid (∀ W,Below w5.heap.size w5 W -> ∃ vss,SegR W a (L.take j) vss):=hide fun W hW=>by obtain⟨vss,hv⟩:=(HB5k.out W hW).seg;exact⟨_,hv.take j⟩
          have HTAIL:Hid (∀ W,Below w5.heap.size w5 W -> ∃ vss,SegR W atl (L.drop j) vss):=hide fun W hW=>(HB5k.out W hW).segdrop j (fun g e h=>hatl g e (by have:=HK.out;omega))
          have HHL:Hid ((L.take j).length=j):=hide (by rw[List.length_take];have:=HK.out;omega)
          have HTL:Hid ((L.drop j).length=T):=hide (by rw[List.length_drop,hT];have:=HK.out;omega)
          have HSL:Hid (([r]++L.drop j).length=T+1):=hide (by rw[List.length_append,HTL.out];simp;omega)
          have HANIL:Hid (a=none->j=0):=hide fun e=>by have:=hanil e;omega
          have hTk:j+T=k:=by omega
          have HILEN:Hid ((L.take j++([r]++L.drop j)).length=k+1):=hide (by rw[List.length_append,HHL.out,HSL.out];omega)
          clear hatl hanil hT hE
          go_wp2
          refine wp_region_X (S:=fun w'=>w'.cell? ⟨m,1,none⟩=some (.slice a k c)/\w'.cell? ⟨gx,0,none⟩=some (.slice na3 nl nc3)/\w'.cell? ⟨gx,1,none⟩=some (.int .u16 (t:Int))/\w'.cell? ⟨gx,2,none⟩=some (.int .u16 (cl:Int))/\w'.cell? ⟨gx,3,none⟩=some (.int .u32 (ttl:Int))/\w'.cell? ⟨gx,4,none⟩=some (.slice da3 dl dc3)) (jS:=20) (by kernel_rfl) ?_
          have BA:Hid (Below w5.heap.size w5 w5.drew):=hide ((Below.refl _ w5).drew)
          have SAll:Hid (∀ w',Below w5.heap.size w5 w'->w'.cell? ⟨m,1,none⟩=some (.slice a k c)/\w'.cell? ⟨gx,0,none⟩=some (.slice na3 nl nc3)/\w'.cell? ⟨gx,1,none⟩=some (.int .u16 (t:Int))/\w'.cell? ⟨gx,2,none⟩=some (.int .u16 (cl:Int))/\w'.cell? ⟨gx,3,none⟩=some (.int .u32 (ttl:Int))/\w'.cell? ⟨gx,4,none⟩=some (.slice da3 dl dc3)):=hide fun W hW=>⟨(HROW.out.below (HB5.out.trans (hW.mono HB5.out.size)) HROW.out.lt).cell 1,(HS5.out.below hW HS5.out.lt).cell 0,(HS5.out.below hW HS5.out.lt).cell 1,(HS5.out.below hW HS5.out.lt).cell 2,(HS5.out.below hW HS5.out.lt).cell 3,(HS5.out.below hW HS5.out.lt).cell 4⟩
          have SA:=hide (SAll.out _ BA.out)
          generalize w5.drew=w1d at BA SA ⊢
          refine tk gt0 SA.out ?_
          refine tk gt1 SA.out ?_
          refine tk gt2 SA.out ?_
          refine tk gt3 SA.out ?_
          refine tk gt4 SA.out ?_
          refine tk gt5 SA.out ?_
          refine tk gt6 SA.out ?_
          refine tk gt7 SA.out ?_
          refine tk gt8 SA.out ?_
          refine tk gt10 SA.out ?_
          refine tk gt11 SA.out ?_
          refine tk gt12 SA.out ?_
          refine tk gt13 SA.out ?_
          refine tk gt14 SA.out ?_
          refine tk gt15 SA.out ?_
          refine rdy gt9 (fun K hKK=>?_)
          go_simp
          have B2:Hid (Below w5.heap.size w5 (w1d.alloc (.cells #[.slice na3 nl nc3,.int .u16 (t:Int),.int .u16 (cl:Int),.int .u32 (ttl:Int),.slice da3 dl dc3] 39))):=hide (BA.out.alloc BA.out.size _)
          have hone:=RowAt.new w1d 39 #[.slice na3 nl nc3,.int .u16 (t:Int),.int .u16 (cl:Int),.int .u32 (ttl:Int),.slice da3 dl dc3]
          have HONE:=hide hone
          obtain⟨g9,hg9⟩ : ∃ g9,g9=w1d.heap.size:=⟨_,rfl⟩
          rw[<- hg9] at HONE ⊢
          generalize (w1d.alloc (.cells #[.slice na3 nl nc3,.int .u16 (t:Int),.int .u16 (cl:Int),.int .u32 (ttl:Int),.slice da3 dl dc3] 39))=w2 at B2 HONE ⊢
          have SB:=hide (SAll.out _ B2.out)
          refine kk hKK (Or.inr SB.out) ?_
          clear hKK SA BA hg9 hone
          refine rdy gt16 (fun K hKK=>?_)
          have hseg1:SegR w2 (some ⟨g9,0,none⟩) [r] [[.slice na3 nl nc3,.int .u16 (t:Int),.int .u16 (cl:Int),.int .u32 (ttl:Int),.slice da3 dl dc3]]:=HSEG1.out _ _ B2.out HONE.out
          obtain⟨vss2,hseg2⟩:=HTAIL.out _ B2.out
          refine step_append_one (c:=E) (by rfl) (.tmp 115) (.tmp 121) rfl (by rfl) (by rfl) hseg1 hseg2 HTL.out (by omega) ?_
          intro a4 c4 w3 vss3 hseg3 hb3
          have B3:=hide (B2.out.trans (hb3.mono B2.out.size))
          have SC:=hide (SAll.out _ B3.out)
          have HSEG3:=hide hseg3
          refine kk hKK (Or.inr SC.out) ?_
          clear hKK SB B2 hseg1 hseg2 hseg3 hb3
          refine rdy gt17 (fun K hKK=>?_)
          obtain⟨vss4,hseg4⟩:=HHEAD.out _ B3.out
          refine step_append_newR (by rfl) (.tmp 113) (.tmp 122) rfl j j (T+1) c4 (by rfl) hseg4 HHL.out HANIL.out (by rfl) HSEG3.out HSL.out (by omega) (by omega) (by omega) ?_
          intro v4 w4 hO4 hb4
          obtain⟨a1,c1,hv4,hna1,hkc1⟩:=hO4.slice
          rw[HILEN.out] at hv4 hkc1
          subst hv4
          have B4:=hide (B3.out.trans (hb4.mono B3.out.size))
          have hb04:=hide (HB5.out.trans (B4.out.mono HB5.out.size))
          have hz4:=HROW.out.below hb04.out HROW.out.lt
          have p1:w4.cell? ⟨m,1,none⟩=some (.slice a k c):=hz4.cell 1
          have f1:w4.frozen? ⟨m,1,none⟩=false:=hz4.frozen 1
          have HZ4:=hide hz4
          have SD:=hide (SAll.out _ B4.out)
          have HO4:=hide hO4
          have HWZ:=hide (Nat.le_trans B3.out.size (Nat.le_refl w3.heap.size))
          refine kk hKK (Or.inr SD.out) ?_
          clear hKK SC hseg4 hO4 hb4 hz4
          refine rdy gt18 (fun K hKK=>?_)
          go_simp
          refine kk hKK (Or.inr SD.out) ?_
          clear hKK
          refine tk gt19 SD.out ?_
          refine rdy gt20 (fun K hKK=>?_)
          go_simp
          refine kk hKK (Or.inl rfl) ?_
          clear hKK
          refine wpAnyX_done (by kernel_rfl) ?_ _
          have hz6:RowAt (w4.setCell ⟨m,1,none⟩ (.slice a1 (k+1) c1)) m 33 #[.slice aa al ac,.slice a1 (k+1) c1]:=HZ4.out.set 1 (.slice a1 (k+1) c1)
          have hb3s:base<=w3.heap.size:=Nat.le_trans hbase (Nat.le_trans HB5.out.size B3.out.size)
          have hl6:=((RL.of_own HO4.out).low hb3s).rz HZ4.out 1 (.slice a1 (k+1) c1)
          have hm6:=(RM.of_below (base:=base) (m:=m) hb04.out).trans (RM.cell HZ4.out 1 (.slice a1 (k+1) c1))
          have hmb:m≠w.heap.size:=Nat.ne_of_lt HROW.out.lt
          have hx6:=(HX5.out.below B4.out HX5.out.lt).other ⟨m,1,none⟩ (.slice a1 (k+1) c1) hmb.symm
          have HGX0:Hid (∀ g',a1=some ⟨g',0,none⟩->g'≠w.heap.size/\g'≠m):=hide fun g' e=>by
           have h:=RL.of_own HO4.out
           rw[e] at h
           obtain⟨cur,_,h2⟩:=h.row (by rw[HILEN.out];omega)
           have h3:=HX5.out.lt
           have h4:=B3.out.size
           have h5:=HROW.out.lt
           exact⟨by omega,by omega⟩
          have HINS:Hid (Z.ins L r=L.take j++([r]++L.drop j)):=hide (Z.ins_at HLT.out (by have:=HK.out;omega) (fun x hx=>by have:=HSTOP.out x hx;omega))
          obtain⟨L1,hL1⟩ : ∃ L1,L1=L.take j++([r]++L.drop j):=⟨_,rfl⟩
          have hL1l:=HILEN.out
          have hins:=HINS.out
          rw[<- hL1] at hl6 hL1l hins
          have HPUT:Hid (Z.put L r=L1.map (Z.setT (path n) t ttl)):=hide (by
           unfold Z.put
           rw[<- HTHV.out,if_neg (by simp),HRE.out.1,HRE.out.2.1,HRE.out.2.2.2.1,hins])
          have HNUM:Hid (Z.there L r=true\/L.length<2000):=hide (Or.inr (by have:=HK.out;omega))
          have HSM:Hid (∀ x∈L1,x.p.length<=128/\Sane x.p.reverse/\Z.Low x.p):=hide fun x hx=>by
           rw[<- hins] at hx
           rcases Z.mem_ins.1 hx with rfl | hx
           ·obtain⟨e1,_,_,_,_,e6⟩:=HRE.out
            refine⟨by rw[e1];unfold path;rw[List.length_reverse,N.lowN_len];have:=hl.out;omega,?_,e6⟩
            rw[e1]
            unfold path
            rw[List.reverse_reverse]
            intro l hl2
            unfold N.lowN at hl2
            obtain⟨l0,h0,rfl⟩:=List.mem_map.1 hl2
            rw[N.lowL_len]
            exact Sane.small hm.out l0 h0
           ·exact⟨(HR.out.okk x hx).2.2.2.2,Sane.small (HR.out.small hx),HR.out.lows x hx⟩
          clear HZ4 HO4 HHEAD HTAIL HHL HTL HSL HANIL HSEG1 HSEG3 HB5k HT5 HT6 HS5 hb3s hmb p1 f1 SAll SD sl1 sl2 B4 B3 hb04
          go_wp2_with fail
          go_meet
          exact⟨rfl,a1,c1,k+1,L1,hL1l.symm,by omega,hz6,hx6,hl6,hm6,fun g' e _=>HGX0.out g' e,HSM.out,HPUT.out,HPV.out,HNUM.out⟩
       case rest =>
        obtain⟨rfl,a1,c1,k1,L1,hk1,hk2,hz6,hx6,hl6,hm6,hgx,hsm,hput,hPv,hnum⟩:=hcut
        obtain⟨w6,rfl⟩ : ∃ w6,w6=wc:=⟨wc,rfl⟩
        have HK1:=hide hk1
        have HM0:=hide hm6
        have HZ0:=hide hz6
        have HX0:=hide hx6
        have HL0:=hide hl6
        have HGX0:=hide hgx
        have HSM:=hide hsm
        have HPUT:=hide hput
        have HPV:=hide hPv
        have HNUM:=hide hnum
        clear hk1 hm6 hz6 hx6 hl6 hgx hsm hput hPv hnum z1 HBq HXq HZq
        go_wp2
        go_loopw [9] (fun i wr => ∃ j:Nat,i = .int .i64 (j:Int)/\j<=k1/\RM base m w wr/\RowAt wr m 33 #[.slice aa al ac,.slice a1 k1 c1]/\RowAt wr w.heap.size 39 #[.slice na nl nc,.int .u16 (t:Int),.int .u16 (cl:Int),.int .u32 (ttl:Int),.slice da dl dc]/\RL wr base a1 c1 ((L1.take j).map (Z.setT (path n) t ttl)++L1.drop j)) (fun i _=>k1 - (intOf i).toNat)
        case atStart=>exact⟨0,rfl,by omega,HM0.out,HZ0.out,HX0.out,by simpa using HL0.out⟩
        case round =>
         obtain⟨j,rfl,hj,hRMr,hZr,hXBr,hRLr⟩:=hrel
         have y1:wr.cell? ⟨m,1,none⟩=some (.slice a1 k1 c1):=hZr.cell 1
         have HRMr:=hide hRMr
         have HZr2:=hide hZr
         have HXBr2:=hide hXBr
         have HRLr:=hide hRLr
         clear hRMr hZr hXBr hRLr
         by_cases hlt1:j<k1
         ·obtain⟨x,hx⟩ : ∃ x,L1[j]?=some x:=⟨_,List.getElem?_eq_getElem (show j<L1.length by have:=HK1.out;omega)⟩
          have hxL:x∈L1:=List.mem_of_getElem? hx
          have hxg:=Z.setT_get L1 (path n) t ttl j hx
          obtain⟨g,na2,nc2,xda,xdc,ea1,q0,q1,q2,q3,q4,hT,hnc2,hnn,hTd,hdn,hdc2⟩:=HRLr.out.at_ hxg
          have hgl:g<wr.heap.size:=by
           have h:=HRLr.out
           rw[ea1] at h
           exact RL.blk h (by rw[List.length_append,List.length_map,List.length_take,List.length_drop];have:=HK1.out;omega)
          have hgx:=HGX0.out g ea1 (by omega)
          have HGX:=hide (fun e=>hgx.1 (Eq.symm e):w.heap.size≠g)
          have HGM:=hide (fun e=>hgx.2 (Eq.symm e):m≠g)
          obtain⟨hx1,hx2,hx3⟩:=HSM.out x hxL
          have hsame : ∀ W,Below wr.heap.size wr W->Calls Tryz.prog 58 #[.slice na2 x.p.length nc2,.slice na nl nc] W fun e w'=>e = .returned (.bool (N.same x.p.reverse n))/\Below W.heap.size W w':=fun W hW=>rSame_any x.p.reverse n na2 na x.p.length nl nc2 nc W (hide (List.length_reverse)) hl (hT.1.below hW (Nat.le_refl _)) ((HRMr.out.ss _ _ HS.out).below hW (Nat.le_refl _)) (by omega) (hide hx2) (Sane.small hm.out)
          rw[same_path hx3] at hsame
          obtain⟨pl,hpl⟩ : ∃ pl,pl=x.p.length:=⟨_,rfl⟩
          obtain⟨xt,hxt⟩ : ∃ xt,xt=x.t:=⟨_,rfl⟩
          obtain⟨sb,hsb⟩ : ∃ sb,sb=decide (x.p=path n):=⟨_,rfl⟩
          rw[<- hpl] at q0 hsame
          rw[<- hxt] at q1
          rw[<- hsb] at hsame
          have HSAME:=hide hsame
          have hjk1:(j:Int)<(k1:Int):=by omega
          have SAll:Hid (∀ w',Below wr.heap.size wr w'->w'.cell? ⟨m,1,none⟩=some (.slice (some ⟨g,0,none⟩) k1 c1)/\w'.cell? ⟨g,j*5,none⟩=some (.slice na2 pl nc2)/\w'.cell? ⟨g,j*5+1,none⟩=some (.int .u16 (xt:Int))/\w'.cell? ⟨w.heap.size,0,none⟩=some (.slice na nl nc)/\w'.cell? ⟨w.heap.size,1,none⟩=some (.int .u16 (t:Int))):=hide fun W hW =>
           ⟨by have:=(HZr2.out.below hW HZr2.out.lt).cell 1;rw[ea1] at this;exact this,cell_bm hW q0 hgl,cell_bm hW q1 hgl,(HXBr2.out.below hW HXBr2.out.lt).cell 0,(HXBr2.out.below hW HXBr2.out.lt).cell 1⟩
          have HX:=hide hx
          obtain⟨hb,hhb⟩ : ∃ hb:Bool,hb=(decide (xt=t) && sb):=⟨_,rfl⟩
          have HFT:=hide (show hb=true->Z.setT (path n) t ttl x = { x with ttl:=ttl } from fun h=>by
           rw[hhb,hxt,hsb] at h
           have h:x.t=t/\x.p=path n:=by simpa using h
           unfold Z.setT;rw[if_pos ⟨h.2,h.1⟩])
          have HFF:=hide (show hb=false->Z.setT (path n) t ttl x=x from fun h=>by
           rw[hhb,hxt,hsb] at h
           refine Z.setT_off _ _ _ _ (fun e=>?_)
           rw[e.1,e.2] at h
           simp at h)
          rw[ea1] at y1
          have HEA:=hide ea1
          clear hx hxL hxg q0 q1 q2 q3 q4 hT hnc2 hnn hTd hdn hdc2 hgl hsame hpl hxt hsb hgx hx1 hx2 hx3 ea1
          go_wp2
          go_cut [158] from 168 (fun s158 wc=>s158 = .bool hb/\Below wr.heap.size wr wc)
          case first =>
           by_cases ht:xt=t
           ·have ht2:=ht.symm
            subst ht2
            have hbe:hb=sb:=by rw[hhb];simp
            subst hbe
            clear hhb
            refine wp_region_X (S:=fun w'=>w'.cell? ⟨m,1,none⟩=some (.slice (some ⟨g,0,none⟩) k1 c1)/\w'.cell? ⟨g,j*5,none⟩=some (.slice na2 pl nc2)/\w'.cell? ⟨g,j*5+1,none⟩=some (.int .u16 (t:Int))/\w'.cell? ⟨w.heap.size,0,none⟩=some (.slice na nl nc)/\w'.cell? ⟨w.heap.size,1,none⟩=some (.int .u16 (t:Int))) (jS:=1000) (by kernel_rfl) ?_
            have BA:Hid (Below wr.heap.size wr wr.drew):=hide ((Below.refl _ wr).drew)
            have SA:=hide (SAll.out _ BA.out)
            generalize wr.drew=w1d at BA SA ⊢
            refine tk gt0 SA.out ?_
            refine tk gt1 SA.out ?_
            refine tk gt2 SA.out ?_
            refine tk gt3 SA.out ?_
            refine tk gt4 SA.out ?_
            refine tk gt5 SA.out ?_
            refine tk gt6 SA.out ?_
            refine tk gt7 SA.out ?_
            refine tk gt8 SA.out ?_
            refine tk gt9 SA.out ?_
            refine tk gt10 SA.out ?_
            refine tk gt11 SA.out ?_
            refine tk gt12 SA.out ?_
            refine tk gt13 SA.out ?_
            refine tk gt14 SA.out ?_
            refine tk gt15 SA.out ?_
            refine tk gt16 SA.out ?_
            refine tk gt17 SA.out ?_
            refine tk gt18 SA.out ?_
            refine tk gt19 SA.out ?_
            refine tk gt20 SA.out ?_
            refine tk gt21 SA.out ?_
            refine rdy gt22 (fun K hKK=>?_)
            refine step_fng (by rfl) _ _ (by go_simp) (HSAME.out _ BA.out) (by rintro e w' ⟨rfl,_⟩;exact⟨_,rfl⟩) ?_
            rintro _ w2 ⟨he,hb2⟩
            cases he
            have B2:=hide (BA.out.trans (hb2.mono BA.out.size))
            have SB:=hide (SAll.out _ B2.out)
            refine kk hKK (Or.inr SB.out) ?_
            clear hKK hb2 SA BA
            refine tk gt23 SB.out ?_
            refine wpAnyX_done (by kernel_rfl) ?_ _
            go_wp2_with fail
            go_meet
            exact⟨rfl,B2.out⟩
           ·have htb:((xt:Int) == (t:Int))=false:=by simp;omega
            have hbf:hb=false:=by rw[hhb];simp[ht]
            subst hbf
            clear hhb
            refine wp_region_X (S:=fun w'=>w'.cell? ⟨m,1,none⟩=some (.slice (some ⟨g,0,none⟩) k1 c1)/\w'.cell? ⟨g,j*5,none⟩=some (.slice na2 pl nc2)/\w'.cell? ⟨g,j*5+1,none⟩=some (.int .u16 (xt:Int))/\w'.cell? ⟨w.heap.size,0,none⟩=some (.slice na nl nc)/\w'.cell? ⟨w.heap.size,1,none⟩=some (.int .u16 (t:Int))) (jS:=1000) (by kernel_rfl) ?_
            have BA:Hid (Below wr.heap.size wr wr.drew):=hide ((Below.refl _ wr).drew)
            have SA:=hide (SAll.out _ BA.out)
            generalize wr.drew=w1d at BA SA ⊢
            refine tk gt0 SA.out ?_
            refine tk gt1 SA.out ?_
            refine tk gt2 SA.out ?_
            refine tk gt3 SA.out ?_
            refine tk gt4 SA.out ?_
            refine tk gt5 SA.out ?_
            refine tk gt6 SA.out ?_
            refine tk gt7 SA.out ?_
            refine tk gt8 SA.out ?_
            refine tk gt9 SA.out ?_
            refine tk gt10 SA.out ?_
            refine tk gt11 SA.out ?_
            refine tu gt12 SA.out ?_
            refine tu gt13 SA.out ?_
            refine tu gt14 SA.out ?_
            refine tu gt15 SA.out ?_
            refine tu gt16 SA.out ?_
            refine tu gt17 SA.out ?_
            refine tu gt18 SA.out ?_
            refine tu gt19 SA.out ?_
            refine tu gt20 SA.out ?_
            refine tu gt21 SA.out ?_
            refine tu gt22 SA.out ?_
            refine tk gt23 SA.out ?_
            refine wpAnyX_done (by kernel_rfl) ?_ _
            go_wp2_with fail
            go_meet
            exact⟨rfl,BA.out⟩
          case rest =>
           obtain⟨rfl,hbc⟩:=hcut
           clear hhb
           have HZc:=hide (HZr2.out.below hbc HZr2.out.lt)
           have HXBc:=hide (HXBr2.out.below hbc HXBr2.out.lt)
           have HRLc:=hide (HRLr.out.bel hbc)
           have HRMc:=hide (HRMr.out.trans (RM.of_below hbc))
           clear hbc
           cases hb with
           | false =>
            go_wp2
            go_roundw
            case rel =>
             refine⟨j+1,by go_num,by omega,HRMc.out,HZc.out,HXBc.out,?_⟩
             rw[Z.setT_step L1 (path n) t ttl j HX.out,HFF.out rfl,set_same (Z.setT_get L1 (path n) t ttl j HX.out)]
             exact HRLc.out
            case measure=>simp[intOf];omega
           | true =>
            have HFX:=hide (HFT.out rfl)
            rw[HEA.out] at HZc HRLc
            go_wp2
            refine wp_region_X (S:=fun w'=>w'.cell? ⟨m,1,none⟩=some (.slice (some ⟨g,0,none⟩) k1 c1)/\w'.cell? ⟨w.heap.size,3,none⟩=some (.int .u32 (ttl:Int))) (jS:=9) (by kernel_rfl) ?_
            have BA:Hid (Below wc.heap.size wc wc.drew):=hide ((Below.refl _ wc).drew)
            have HZd:=hide (HZc.out.below BA.out HZc.out.lt)
            have HXBd:=hide (HXBc.out.below BA.out HXBc.out.lt)
            have HRLd:=hide (HRLc.out.bel BA.out)
            have HXd:=hide (Z.setT_get L1 (path n) t ttl j HX.out)
            obtain⟨gg,_,_,_,_,eg,_,_,_,q3d,_⟩:=HRLd.out.at_ HXd.out
            injection eg with eg;injection eg with eg _ _;subst eg
            obtain⟨cur,hcu,hgb⟩:=HRLd.out.row (by rw[List.length_append,List.length_map,List.length_take,List.length_drop];have:=HK1.out;omega)
            have HCU:=hide hcu
            have HGB:=hide hgb
            have s0:=HZd.out.cell 1
            have s1:=HXBd.out.cell 3
            have f3:=hcu.frozen (j*5+3)
            have SA:=hide (And.intro s0 s1)
            clear hcu hgb
            generalize wc.drew=w1d at BA HZd HXBd HRLd HCU q3d f3 s0 s1 SA ⊢
            refine tk gt0 SA.out ?_
            refine tk gt1 SA.out ?_
            refine tk gt2 SA.out ?_
            refine tk gt3 SA.out ?_
            refine tk gt4 SA.out ?_
            refine tk gt5 SA.out ?_
            refine tk gt6 SA.out ?_
            refine rdy gt7 (fun K hKK=>?_)
            go_simp
            refine kk hKK (Or.inr SA.out) ?_
            clear hKK
            refine tk gt8 SA.out ?_
            refine rdy gt9 (fun K hKK=>?_)
            go_simp
            refine kk hKK (Or.inl rfl) ?_
            clear hKK
            refine wpAnyX_done (by kernel_rfl) ?_ _
            have hset:=HRLd.out.ttl HXd.out ttl
            have HRMd:=hide (HRMc.out.trans ((RM.of_below BA.out).trans (RM.rc HCU.out HGB.out q3d (.int .u32 (ttl:Int)))))
            go_wp2
            go_roundw
            case rel =>
             refine⟨j+1,by go_num,by omega,HRMd.out,by rw[HEA.out];exact HZd.out.other ⟨g,j*5+3,none⟩ _ HGM.out,HXBd.out.other ⟨g,j*5+3,none⟩ _ HGX.out,?_⟩
             rw[Z.setT_step L1 (path n) t ttl j HX.out,HFX.out,HEA.out]
             exact hset
            case measure=>simp[intOf];omega
         ·obtain rfl:j=k1:=by omega
          have e1:L1.take j=L1:=List.take_of_length_le (by have:=HK1.out;omega)
          have e2:L1.drop j = []:=List.drop_of_length_le (by have:=HK1.out;omega)
          have hRL2:=HRLr.out
          rw[e1,e2,List.append_nil, <- HPUT.out] at hRL2
          go_wp2
          go_ret2
          rw[HPV.out]
          refine⟨rfl,?_,HRMr.out⟩
          have hpl:(Z.put L r).length=j:=by rw[HPUT.out,List.length_map];exact HK1.out.symm
          have hgo:=HR.out.put (w':=wr) (n:=n) (t:=t) (ttl:=ttl) (c:=c0) (d:=d) HGOOD.out HT.out.1 HT.out.2 HCN.out (by rw[<- HRQ.out];exact HNUM.out)
          rw[<- HRQ.out] at hgo
          refine hgo ⟨aa,ac,a1,c1,?_,HRMr.out.ss _ _ HSA.out,HAC.out,hRL2⟩
          rw[hpl, <- HAL.out]
          exact HZr2.out
set_option maxRecDepth 100000 in
set_option maxHeartbeats 1500000 in
theorem mPut_name (w:World) (base m:Nat) (A:List (List UInt8)) (L:List Z.R) (hR:RZAt w base m A L) (hA:Hid (N.Small A)) (n:List (List UInt8)) (na:Option Addr) (nl nc:Nat) (hl:Hid (n.length=nl)) (hnc:nl<=nc) (hs:SlS w na n) (hm:Hid (N.Small n)) (t cl ttl:Nat) (d:List UInt8) (da:Option Addr) (dl dc:Nat) (_hdl:Hid (d.length=dl)) (hsd:SlL w da d) (_hnd:da=none->dc=0) (_hdc:dl<=dc) (_h8:dl<=8192) (hbad:N.chk n≠0\/N.within n A=false) :
 Calls Tryz.prog 45 #[.pointer (some ⟨m,0,none⟩),recV na nl nc t cl ttl da dl dc] w fun e w'=>e = .returned (.tuple #[.bool false,.int .i64 110])/\RZAt w' base m A L/\RM base m w w':=by
 obtain⟨aa,ac,a,c,hrow,hsA,hac,hRL⟩:=hR.row
 obtain⟨k,hk⟩ : ∃ k,k=L.length:=⟨_,rfl⟩
 obtain⟨al,hal⟩ : ∃ al,al=A.length:=⟨_,rfl⟩
 rw[<- hk, <- hal] at hrow
 have hkb:k<=2000:=by rw[hk];exact hR.num
 obtain⟨w1,hw1⟩ : ∃ w1,w1=w.alloc (.cells #[.slice na nl nc,.int .u16 (t:Int),.int .u16 (cl:Int),.int .u32 (ttl:Int),.slice da dl dc] 39):=⟨_,rfl⟩
 have hb1:Below w.heap.size w w1:=by rw[hw1];exact (Below.refl _ w).alloc (Nat.le_refl _) _
 have hbx1:RowAt w1 w.heap.size 39 #[.slice na nl nc,.int .u16 (t:Int),.int .u16 (cl:Int),.int .u32 (ttl:Int),.slice da dl dc]:=by rw[hw1];exact RowAt.new w _ _
 have hnl:nl<=1000000:=by rw[<- hl.out];exact hm.out.1
 have hchk : ∀ W,Below w.heap.size w W->Calls Tryz.prog 88 #[.slice na nl nc] W fun e w'=>e = .returned (.int .i64 (N.chk n))/\w'=W:=fun W hW=>rCheck_any n na nl nc W hl (hs.below hW (Nat.le_refl _)) hm
 have hwin : ∀ W,Below w.heap.size w W->Calls Tryz.prog 64 #[.slice na nl nc,.slice aa al ac] W fun e w'=>e = .returned (.bool (N.within n A))/\Below W.heap.size W w':=fun W hW=>rWithin_any n A na aa nl al nc ac W hl (hide hal.symm) (hs.below hW (Nat.le_refl _)) (hsA.below hW (Nat.le_refl _)) (by omega) hnc (Sane.small hm.out) (Sane.small hA.out)
 have HR:=hide hR
 have HRL:=hide hRL
 have HROW:=hide hrow
 have HSA:=hide hsA
 have HK:=hide hk
 have HAL:=hide hal
 have HS:=hide hs
 have HSD:=hide hsd
 have HAC:=hide hac
 have HW1:=hide hw1
 have HB1:=hide hb1
 have HBX1:=hide hbx1
 clear hR hRL hrow hk hs hsd hsA hac hw1 hb1 hbx1 hal
 by_cases hck:N.chk n=0
 ·have hwf:N.within n A=false:=by rcases hbad with h | h;exact absurd hck h;exact h
  rw[hck] at hchk
  rw[hwf] at hwin
  have HCHK:=hide hchk
  have HWIN:=hide hwin
  clear hbad hck hwf hchk hwin
  unfold recV
  go_enter Tryz.func45,Tryz.ntmps45
  go_wp2
  rw[<- HW1.out]
  refine wp_region_X (S:=fun w'=>w'.cell? ⟨w.heap.size,0,none⟩=some (.slice na nl nc)/\w'.cell? ⟨m,0,none⟩=some (.slice aa al ac)) (jS:=1000) (by kernel_rfl) ?_
  have BA:Hid (Below w.heap.size w w1.drew):=hide (HB1.out.drew)
  have SAll:Hid (∀ w',Below w.heap.size w w'->Below w1.heap.size w1 w'->w'.cell? ⟨w.heap.size,0,none⟩=some (.slice na nl nc)/\w'.cell? ⟨m,0,none⟩=some (.slice aa al ac)):=hide (fun W hW hW1=>⟨(HBX1.out.below hW1 HBX1.out.lt).cell 0,(HROW.out.below hW HROW.out.lt).cell 0⟩)
  have BA1:Hid (Below w1.heap.size w1 w1.drew):=hide (Below.refl _ w1).drew
  have SA:=hide (SAll.out _ BA.out BA1.out)
  generalize w1.drew=w1d at BA BA1 SA ⊢
  refine tk gt0 SA.out ?_
  refine tk gt1 SA.out ?_
  refine rdy gt2 (fun K hKK=>?_)
  refine step_fng (by rfl) _ _ (by go_simp) (HCHK.out _ BA.out) (by rintro e w' ⟨rfl,_⟩;exact⟨_,rfl⟩) ?_
  rintro _ w2 ⟨he,hw2⟩
  cases he
  subst hw2
  refine kk hKK (Or.inr SA.out) ?_
  clear hKK
  refine tk gt3 SA.out ?_
  refine tk gt4 SA.out ?_
  refine tk gt5 SA.out ?_
  refine tk gt6 SA.out ?_
  refine tk gt7 SA.out ?_
  refine tk gt8 SA.out ?_
  refine tk gt9 SA.out ?_
  refine tk gt10 SA.out ?_
  refine rdy gt11 (fun K hKK=>?_)
  refine step_fng (by rfl) _ _ (by go_simp) (HWIN.out _ BA.out) (by rintro e w' ⟨rfl,_⟩;exact⟨_,rfl⟩) ?_
  rintro _ w2 ⟨he,hb2⟩
  cases he
  have B2:=hide (BA.out.trans (hb2.mono BA.out.size))
  have SB:=hide (SAll.out _ B2.out (BA1.out.trans (hb2.mono BA1.out.size)))
  refine kk hKK (Or.inr SB.out) ?_
  clear hKK
  refine tk gt12 SB.out ?_
  refine tk gt13 SB.out ?_
  refine wpAnyX_done (by kernel_rfl) ?_ _
  go_wp2
  go_ret2
  exact⟨rfl,HR.out.bel B2.out,RM.of_below B2.out⟩
 ·obtain⟨ck,hckk⟩ : ∃ ck,ck=N.chk n:=⟨_,rfl⟩
  rw[<- hckk] at hchk hck
  have hckb:(ck != 0)=true:=by simp[hck]
  have HCHK:=hide hchk
  clear hbad hck hckk hchk hwin
  unfold recV
  go_enter Tryz.func45,Tryz.ntmps45
  go_wp2
  rw[<- HW1.out]
  refine wp_region_X (S:=fun w'=>w'.cell? ⟨w.heap.size,0,none⟩=some (.slice na nl nc)/\w'.cell? ⟨m,0,none⟩=some (.slice aa al ac)) (jS:=1000) (by kernel_rfl) ?_
  have BA:Hid (Below w.heap.size w w1.drew):=hide (HB1.out.drew)
  have SAll:Hid (∀ w',Below w.heap.size w w'->Below w1.heap.size w1 w'->w'.cell? ⟨w.heap.size,0,none⟩=some (.slice na nl nc)/\w'.cell? ⟨m,0,none⟩=some (.slice aa al ac)):=hide (fun W hW hW1=>⟨(HBX1.out.below hW1 HBX1.out.lt).cell 0,(HROW.out.below hW HROW.out.lt).cell 0⟩)
  have BA1:Hid (Below w1.heap.size w1 w1.drew):=hide (Below.refl _ w1).drew
  have SA:=hide (SAll.out _ BA.out BA1.out)
  generalize w1.drew=w1d at BA BA1 SA ⊢
  refine tk gt0 SA.out ?_
  refine tk gt1 SA.out ?_
  refine rdy gt2 (fun K hKK=>?_)
  refine step_fng (by rfl) _ _ (by go_simp) (HCHK.out _ BA.out) (by rintro e w' ⟨rfl,_⟩;exact⟨_,rfl⟩) ?_
  rintro _ w2 ⟨he,hw2⟩
  cases he
  subst hw2
  refine kk hKK (Or.inr SA.out) ?_
  clear hKK
  refine tk gt3 SA.out ?_
  refine tk gt4 SA.out ?_
  refine tu gt5 SA.out ?_
  refine tu gt6 SA.out ?_
  refine tu gt7 SA.out ?_
  refine tu gt8 SA.out ?_
  refine tu gt9 SA.out ?_
  refine tu gt10 SA.out ?_
  refine tu gt11 SA.out ?_
  refine tu gt12 SA.out ?_
  refine tk gt13 SA.out ?_
  refine wpAnyX_done (by kernel_rfl) ?_ _
  go_wp2
  go_ret2
  exact⟨rfl,HR.out.bel BA.out,RM.of_below BA.out⟩
set_option maxRecDepth 100000 in
set_option maxHeartbeats 1500000 in
theorem mPut_data (w:World) (base m:Nat) (A:List (List UInt8)) (L:List Z.R) (hR:RZAt w base m A L) (hA:Hid (N.Small A)) (n:List (List UInt8)) (na:Option Addr) (nl nc:Nat) (hl:Hid (n.length=nl)) (hnc:nl<=nc) (hs:SlS w na n) (hm:Hid (N.Small n)) (t cl ttl:Nat) (d:List UInt8) (da:Option Addr) (dl dc:Nat) (hdl:Hid (d.length=dl)) (hsd:SlL w da d) (hnd:da=none->dc=0) (hdc:dl<=dc) (h8:dl<=8192) (hgood:N.chk n=0) (hwit:N.within n A=true) (hbad:cl≠1\/cn t d=none) :
 Calls Tryz.prog 45 #[.pointer (some ⟨m,0,none⟩),recV na nl nc t cl ttl da dl dc] w fun e w'=>e = .returned (.tuple #[.bool false,.int .i64 50])/\RZAt w' base m A L/\RM base m w w':=by
 obtain⟨aa,ac,a,c,hrow,hsA,hac,hRL⟩:=hR.row
 obtain⟨k,hk⟩ : ∃ k,k=L.length:=⟨_,rfl⟩
 obtain⟨al,hal⟩ : ∃ al,al=A.length:=⟨_,rfl⟩
 rw[<- hk, <- hal] at hrow
 have hkb:k<=2000:=by rw[hk];exact hR.num
 obtain⟨w1,hw1⟩ : ∃ w1,w1=w.alloc (.cells #[.slice na nl nc,.int .u16 (t:Int),.int .u16 (cl:Int),.int .u32 (ttl:Int),.slice da dl dc] 39):=⟨_,rfl⟩
 have hb1:Below w.heap.size w w1:=by rw[hw1];exact (Below.refl _ w).alloc (Nat.le_refl _) _
 have hbx1:RowAt w1 w.heap.size 39 #[.slice na nl nc,.int .u16 (t:Int),.int .u16 (cl:Int),.int .u32 (ttl:Int),.slice da dl dc]:=by rw[hw1];exact RowAt.new w _ _
 have hnl:nl<=1000000:=by rw[<- hl.out];exact hm.out.1
 have hchk : ∀ W,Below w.heap.size w W->Calls Tryz.prog 88 #[.slice na nl nc] W fun e w'=>e = .returned (.int .i64 (N.chk n))/\w'=W:=fun W hW=>rCheck_any n na nl nc W hl (hs.below hW (Nat.le_refl _)) hm
 have hwin : ∀ W,Below w.heap.size w W->Calls Tryz.prog 64 #[.slice na nl nc,.slice aa al ac] W fun e w'=>e = .returned (.bool (N.within n A))/\Below W.heap.size W w':=fun W hW=>rWithin_any n A na aa nl al nc ac W hl (hide hal.symm) (hs.below hW (Nat.le_refl _)) (hsA.below hW (Nat.le_refl _)) (by omega) hnc (Sane.small hm.out) (Sane.small hA.out)
 have HR:=hide hR
 have HRL:=hide hRL
 have HROW:=hide hrow
 have HSA:=hide hsA
 have HK:=hide hk
 have HAL:=hide hal
 have HS:=hide hs
 have HSD:=hide hsd
 have HAC:=hide hac
 have HW1:=hide hw1
 have HB1:=hide hb1
 have HBX1:=hide hbx1
 clear hR hRL hrow hk hs hsd hsA hac hw1 hb1 hbx1 hal
 rw[hgood] at hchk
 rw[hwit] at hwin
 have HCHK:=hide hchk
 have HWIN:=hide hwin
 clear hchk hwin
 unfold recV
 go_enter Tryz.func45,Tryz.ntmps45
 go_wp2
 rw[<- HW1.out]
 refine wp_region_X (S:=fun w'=>w'.cell? ⟨w.heap.size,0,none⟩=some (.slice na nl nc)/\w'.cell? ⟨m,0,none⟩=some (.slice aa al ac)) (jS:=1000) (by kernel_rfl) ?_
 have BA:Hid (Below w.heap.size w w1.drew):=hide (HB1.out.drew)
 have SAll:Hid (∀ w',Below w.heap.size w w'->Below w1.heap.size w1 w'->w'.cell? ⟨w.heap.size,0,none⟩=some (.slice na nl nc)/\w'.cell? ⟨m,0,none⟩=some (.slice aa al ac)):=hide (fun W hW hW1=>⟨(HBX1.out.below hW1 HBX1.out.lt).cell 0,(HROW.out.below hW HROW.out.lt).cell 0⟩)
 have BA1:Hid (Below w1.heap.size w1 w1.drew):=hide (Below.refl _ w1).drew
 have SA:=hide (SAll.out _ BA.out BA1.out)
 generalize w1.drew=w1d at BA BA1 SA ⊢
 refine tk gt0 SA.out ?_
 refine tk gt1 SA.out ?_
 refine rdy gt2 (fun K hKK=>?_)
 refine step_fng (by rfl) _ _ (by go_simp) (HCHK.out _ BA.out) (by rintro e w' ⟨rfl,_⟩;exact⟨_,rfl⟩) ?_
 rintro _ w2 ⟨he,hw2⟩
 cases he
 subst hw2
 refine kk hKK (Or.inr SA.out) ?_
 clear hKK
 refine tk gt3 SA.out ?_
 refine tk gt4 SA.out ?_
 refine tk gt5 SA.out ?_
 refine tk gt6 SA.out ?_
 refine tk gt7 SA.out ?_
 refine tk gt8 SA.out ?_
 refine tk gt9 SA.out ?_
 refine tk gt10 SA.out ?_
 refine rdy gt11 (fun K hKK=>?_)
 refine step_fng (by rfl) _ _ (by go_simp) (HWIN.out _ BA.out) (by rintro e w' ⟨rfl,_⟩;exact⟨_,rfl⟩) ?_
 rintro _ w2 ⟨he,hb2⟩
 cases he
 have B2:=hide (BA.out.trans (hb2.mono BA.out.size))
 have SB:=hide (SAll.out _ B2.out (BA1.out.trans (hb2.mono BA1.out.size)))
 refine kk hKK (Or.inr SB.out) ?_
 clear hKK
 refine tk gt12 SB.out ?_
 refine tk gt13 SB.out ?_
 refine wpAnyX_done (by kernel_rfl) ?_ _
 have HB2:=B2
 have hB1:=HB1.out
 have x1:w2.cell? ⟨w.heap.size,1,none⟩=some (.int .u16 (t:Int)):=(HBX1.out.below (BA1.out.trans (hb2.mono BA1.out.size)) HBX1.out.lt).cell 1
 have x2:w2.cell? ⟨w.heap.size,2,none⟩=some (.int .u16 (cl:Int)):=(HBX1.out.below (BA1.out.trans (hb2.mono BA1.out.size)) HBX1.out.lt).cell 2
 have x4:w2.cell? ⟨w.heap.size,4,none⟩=some (.slice da dl dc):=(HBX1.out.below (BA1.out.trans (hb2.mono BA1.out.size)) HBX1.out.lt).cell 4
 have hck:=sCheck_any t d da dl dc w2 hdl (HSD.out.below B2.out (Nat.le_refl _)) hdc hnd h8
 by_cases hcl:cl=1
 ·have hcn:D.full d (D.can t d)=none:=by rcases hbad with h | h;exact absurd hcl h;exact h
  rw[hcn] at hck
  have hclb:((cl:Int) != 1)=false:=by simp[hcl]
  clear hb2 hbad
  go_wp2_with (go_at_call 89;refine hck.mono ?_;rintro e w3 ⟨rfl,hb3⟩)
  go_ret2
  have HB3:=hide (B2.out.trans (hb3.mono B2.out.size))
  exact⟨rfl,HR.out.bel HB3.out,RM.of_below HB3.out⟩
 ·have hclb:((cl:Int) != 1)=true:=by simp;omega
  clear hb2 hbad hck
  go_wp2
  go_ret2
  exact⟨rfl,HR.out.bel B2.out,RM.of_below B2.out⟩
end Go.Proofs.YtmbcegljmhcdeaaGreat
