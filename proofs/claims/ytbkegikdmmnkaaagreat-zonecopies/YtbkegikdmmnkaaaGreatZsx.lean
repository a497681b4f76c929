/- The seat's data: signetseat.Data. Made by gzx.py. -/
import Derived.Test.YtbkegikdmmnkaaaGreatRpv
import Derived.Test.YtbkegikdmmnkaaaGreatRpp
import Derived.Test.YtbkegikdmmnkaaaGreatRdq
import Derived.Deep.Cut
import Derived.Test.YtbkegikdmmnkaaaGreatRows
import Derived.Test.YtbkegikdmmnkaaaGreatRefK
import Derived.LaidMore
import Derived.Lay
import Derived.OpenShut
import Derived.ProofKit
import Derived.WalkKit
import Derived.WalkLawsBesides
import Derived.Test.YtbkegikdmmnkaaaGreatZpl
import Derived.Stop.Joined
import Derived.Deep.Strs
import Derived.Deep.Fields
import Derived.Test.YtbkegikdmmnkaaaGreatAkA
import Derived.Test.YtbkegikdmmnkaaaGreatNmC
import Derived.Test.YtbkegikdmmnkaaaGreatRefG
import Derived.Deep.RegionWith
import Derived.Laws.MakeOwn
import Derived.Test.YtbkegikdmmnkaaaGreatTyB
import Derived.Test.YtbkegikdmmnkaaaGreatRefZ
namespace Go.Proofs.YtbkegikdmmnkaaaGreat
set_option maxRecDepth 5000
open Go.RowKit
set_option maxRecDepth 5000 in
theorem mPut_any (w:World) (base m:Nat) (A:List (List UInt8)) (L:List Z.R) (hR:RZAt w base m A L) (hbase:base<=w.heap.size) (hA:Hid (N.Small A)) (n:List (List UInt8)) (na:Option Addr) (nl nc:Nat) (hl:Hid (n.length=nl)) (hnc:nl<=nc) (hs:SlS w na n) (hm:Hid (N.Small n)) (t cl ttl:Nat) (d:List UInt8) (da:Option Addr) (dl dc:Nat) (hdl:Hid (d.length=dl)) (hsd:SlL w da d) (hnd:da=none->dc=0) (hdc:dl<=dc) (h8:dl<=8192) (ht:t<65536) (httl:ttl<4294967296) :
 Calls Tryz.prog 46 #[.pointer (some ⟨m,0,none⟩),recV na nl nc t cl ttl da dl dc] w fun e w'=>e = .returned (.tuple #[.bool (Z.putR A L n t cl ttl d).1,.int .i64 ((Z.putR A L n t cl ttl d).2.1:Int)])/\RZAt w' base m A (Z.putR A L n t cl ttl d).2.2/\RM base m w w':=by
 by_cases hbad:N.chk n≠0\/N.within n A=false
 ·have e:Z.putR A L n t cl ttl d=(false,110,L):=by unfold Z.putR;rw[if_pos hbad]
  rw[e]
  exact mPut_name w base m A L hR hA n na nl nc hl hnc hs hm t cl ttl d da dl dc hdl hsd hnd hdc h8 hbad
 ·have hgood:N.chk n=0:=Classical.byContradiction fun h=>hbad (Or.inl h)
  have hwin:N.within n A=true:=by
   cases h:N.within n A with
   | true=>rfl
   | false=>exact absurd (Or.inr h) hbad
  by_cases hcl:cl≠1\/cn t d=none
  ·have e:Z.putR A L n t cl ttl d=(false,50,L):=by
    unfold Z.putR;rw[if_neg hbad]
    by_cases h:cl≠1
    ·rw[if_pos h]
    ·rw[if_neg h,hcl.resolve_left h]
   rw[e]
   exact mPut_data w base m A L hR hA n na nl nc hl hnc hs hm t cl ttl d da dl dc hdl hsd hnd hdc h8 hgood hwin hcl
  ·have hc1:cl=1:=Classical.byContradiction fun h=>hcl (Or.inl h)
   cases hcn:cn t d with
   | none=>exact absurd (Or.inr hcn) hcl
   | some c=>exact mPut_good w base m A L hR hA n na nl nc hl hnc hs hm t cl ttl d da dl dc hdl hsd hnd hdc h8 hbase ht httl c hgood hwin hc1 hcn _ (by unfold Z.putR;rw[if_neg hbad,if_neg (by simp[hc1]),hcn])
set_option maxRecDepth 100000 in
set_option maxHeartbeats 1500000 in
theorem mDrop_any (w:World) (base m:Nat) (A:List (List UInt8)) (L:List Z.R) (hR:RZAt w base m A L) (hbase:base<=w.heap.size) (n:List (List UInt8)) (na:Option Addr) (nl nc:Nat) (hl:Hid (n.length=nl)) (hs:SlS w na n) (hm:Hid (N.Small n)) (t cl ttl:Nat) (d:List UInt8) (da:Option Addr) (dl dc:Nat) (hdl:Hid (d.length=dl)) (hsd:SlL w da d) (hnd:da=none->dc=0) (hdc:dl<=dc) (h8:dl<=8192) :
 Calls Tryz.prog 51 #[.pointer (some ⟨m,0,none⟩),recV na nl nc t cl ttl da dl dc] w fun e w'=>e = .returned (.bool (Z.dropR L n t d).1)/\RZAt w' base m A (Z.dropR L n t d).2 /\ ∀ b,RM b m w w':=by
 obtain⟨aa,ac,a,c,hrow,hsA,hac,hRL⟩:=hR.row
 obtain⟨k,hk⟩ : ∃ k,k=L.length:=⟨_,rfl⟩
 rw[<- hk] at hrow
 have hkb:k<=2000:=by rw[hk];exact hR.num
 obtain⟨DR,hDR⟩ : ∃ DR,DR=Z.dropR L n t d:=⟨_,rfl⟩
 rw[<- hDR]
 obtain⟨Y,hY⟩ : ∃ Y,Y=canS t d:=⟨_,rfl⟩
 obtain⟨w1,hw1⟩ : ∃ w1,w1=w.alloc (.cells #[.slice na nl nc,.int .u16 (t:Int),.int .u16 (cl:Int),.int .u32 (ttl:Int),.slice da dl dc] 39):=⟨_,rfl⟩
 have hb1:Below w.heap.size w w1:=by rw[hw1];exact (Below.refl _ w).alloc (Nat.le_refl _) _
 have hbx1:RowAt w1 w.heap.size 39 #[.slice na nl nc,.int .u16 (t:Int),.int .u16 (cl:Int),.int .u32 (ttl:Int),.slice da dl dc]:=by rw[hw1];exact RowAt.new w _ _
 have HR:=hide hR
 have HRL:=hide hRL
 have HROW:=hide hrow
 have HSA:=hide hsA
 have HK:=hide hk
 have HDR:=hide hDR
 have HY:=hide hY
 have HS:=hide hs
 have HSD:=hide hsd
 have HAC:=hide hac
 have HW1:=hide hw1
 have HB1:=hide hb1
 have HBX1:=hide hbx1
 clear hR hRL hrow hk hs hsd hDR hY hsA hac hw1 hb1 hbx1
 unfold recV
 go_enter Tryz.func51,Tryz.ntmps51
 go_wp2
 rw[<- HW1.out]
 go_loopw [5] (fun i wr => ∃ j:Nat,i = .int .i64 (j:Int)/\j<=k/\Below w.heap.size w wr/\RowAt wr w.heap.size 39 #[.slice na nl nc,.int .u16 (t:Int),.int .u16 (cl:Int),.int .u32 (ttl:Int),.slice da dl dc]/\Hid (∀ i x,i<j->L[i]?=some x -> ¬ Z.hit n t d x)) (fun i _=>k - (intOf i).toNat)
 case atStart=>exact⟨0,rfl,by omega,HB1.out,HBX1.out,hide fun i x hi=>absurd hi (Nat.not_lt_zero i)⟩
 case round =>
  obtain⟨j,rfl,hj,hB,hBX,HNO⟩:=hrel
  have hrr:=HROW.out.below hB HROW.out.lt
  have y1:wr.cell? ⟨m,1,none⟩=some (.slice a k c):=hrr.cell 1
  have HB:=hide hB
  have HRR:=hide hrr
  have HBX:=hide hBX
  clear hB hrr hBX HBX1
  by_cases hlt:j<k
  ·have hjL:j<L.length:=by have:=HK.out;omega
   obtain⟨x,hx⟩ : ∃ x,L[j]?=some x:=⟨_,List.getElem?_eq_getElem hjL⟩
   have hxL:x∈L:=List.mem_of_getElem? hx
   have hrl0:=HRL.out.bel HB.out
   obtain⟨g,na2,nc2,xda,xdc,rfl,q0,q1,q2,q3,q4,hT,hnc,hnn,hTd,hdn,hdc2⟩:=hrl0.at_ hx
   have hgl:=RL.blk hrl0 (by omega)
   have hxok:=HR.out.okk x hxL
   have hsame : ∀ W,Below wr.heap.size wr W->Calls Tryz.prog 57 #[.slice na2 x.p.length nc2,.slice na nl nc] W fun e w'=>e = .returned (.bool (N.same x.p.reverse n))/\Below W.heap.size W w':=fun W hW=>rSame_any x.p.reverse n na2 na x.p.length nl nc2 nc W (hide (List.length_reverse)) hl (hT.1.below hW (Nat.le_refl _)) ((HS.out.below HB.out (Nat.le_refl _)).below hW (Nat.le_refl _)) (by have:=hxok.2.2.2.2;omega) (Sane.small (HR.out.small hxL)) (Sane.small hm.out)
   rw[same_path (HR.out.lows x hxL)] at hsame
   have hC1 : ∀ W,Below wr.heap.size wr W->Calls Tryz.prog 94 #[.int .u16 (t:Int),.slice xda x.d.length xdc] W fun e w'=>e = .returned (.string ⟨(canS t x.d).toArray⟩)/\Below W.heap.size W w':=fun W hW=>mcanon_any t x.d xda x.d.length xdc W (hide rfl) (hTd.1.below hW (Nat.le_refl _)) hdc2 hdn hxok.2.2.2.1
   have hC2 : ∀ W,Below wr.heap.size wr W->Calls Tryz.prog 94 #[.int .u16 (t:Int),.slice da dl dc] W fun e w'=>e = .returned (.string ⟨Y.toArray⟩)/\Below W.heap.size W w':=fun W hW=>by
    rw[HY.out]
    exact mcanon_any t d da dl dc W hdl ((HSD.out.below HB.out (Nat.le_refl _)).below hW (Nat.le_refl _)) hdc hnd h8
   obtain⟨X,hX⟩ : ∃ X,X=canS t x.d:=⟨_,rfl⟩
   rw[<- hX] at hC1
   obtain⟨pl,hpl⟩ : ∃ pl,pl=x.p.length:=⟨_,rfl⟩
   obtain⟨xdl,hxdl⟩ : ∃ xdl,xdl=x.d.length:=⟨_,rfl⟩
   obtain⟨xt,hxt⟩ : ∃ xt,xt=x.t:=⟨_,rfl⟩
   obtain⟨sb,hsb⟩ : ∃ sb,sb=decide (x.p=path n):=⟨_,rfl⟩
   rw[<- hpl] at q0 hsame
   rw[<- hxdl] at q4 hC1
   rw[<- hxt] at q1
   rw[<- hsb] at hsame
   have HSAME:=hide hsame
   have HC1:=hide hC1
   have HC2:=hide hC2
   have HGL:=hide hgl
   have hjk:(j:Int)<(k:Int):=by omega
   have hcells : ∀ W,Below wr.heap.size wr W->W.cell? ⟨m,1,none⟩=some (.slice (some ⟨g,0,none⟩) k c)/\W.cell? ⟨g,j*5,none⟩=some (.slice na2 pl nc2)/\W.cell? ⟨g,j*5+1,none⟩=some (.int .u16 (xt:Int))/\W.cell? ⟨g,j*5+4,none⟩=some (.slice xda xdl xdc)/\W.cell? ⟨w.heap.size,0,none⟩=some (.slice na nl nc)/\W.cell? ⟨w.heap.size,1,none⟩=some (.int .u16 (t:Int))/\W.cell? ⟨w.heap.size,4,none⟩=some (.slice da dl dc):=fun W hW =>
    ⟨(HRR.out.below hW HRR.out.lt).cell 1,cell_bm hW q0 hgl,cell_bm hW q1 hgl,cell_bm hW q4 hgl,(HBX.out.below hW HBX.out.lt).cell 0,(HBX.out.below hW HBX.out.lt).cell 1,(HBX.out.below hW HBX.out.lt).cell 4⟩
   have SAll:=hide hcells
   have hbit : ∃ hb:Bool,hb=(decide (xt=t) && (sb && decide (X=Y))):=⟨_,rfl⟩
   obtain⟨hb,hhb⟩:=hbit
   have hiff:hb=true↔Z.hit n t d x:=by
    rw[hhb,hxt,hsb,hX,HY.out]
    unfold Z.hit
    simp
   have HX:=hide hx
   have HIFF:=hide hiff
   have HXOK:=hide hxok
   clear hx hxL hrl0 q0 q1 q2 q3 q4 hT hnc hnn hTd hdn hdc2 hgl hxok hsame hC1 hC2 hX hpl hxdl hxt hsb hcells hiff
   go_wp2
   go_cut [57] from 76 (fun s57 wc=>s57 = .bool hb/\Below wr.heap.size wr wc)
   case first =>
    by_cases ht:xt=t
    ·have ht2:=ht.symm
     subst ht2
     have htb:((t:Int) == (t:Int))=true:=by simp
     cases sb with
     | false =>
      have hbf:hb=false:=by rw[hhb];simp
      subst hbf
      clear hhb
      refine wp_region_X (S:=fun w'=>w'.cell? ⟨m,1,none⟩=some (.slice (some ⟨g,0,none⟩) k c)/\w'.cell? ⟨g,j*5,none⟩=some (.slice na2 pl nc2)/\w'.cell? ⟨g,j*5+1,none⟩=some (.int .u16 (t:Int))/\w'.cell? ⟨g,j*5+4,none⟩=some (.slice xda xdl xdc)/\w'.cell? ⟨w.heap.size,0,none⟩=some (.slice na nl nc)/\w'.cell? ⟨w.heap.size,1,none⟩=some (.int .u16 (t:Int))/\w'.cell? ⟨w.heap.size,4,none⟩=some (.slice da dl dc)) (jS:=1000) (by kernel_rfl) ?_
      have BA:Hid (Below wr.heap.size wr wr.drew):=hide ((Below.refl _ wr).drew)
      have SA:=hide (SAll.out _ BA.out)
      generalize wr.drew=w1 at BA SA ⊢
      refine tk gt0 SA.out ?_
      refine tk gt1 SA.out ?_
      refine tk gt2 SA.out ?_
      refine tk gt3 SA.out ?_
      refine tk gt4 SA.out ?_
      refine tk gt5 SA.out ?_
      refine tk gt6 SA.out ?_
      refine tk gt7 SA.out ?_
      refine tk gt8 SA.out ?_
      refine tk gt9 SA.out ?_
      refine tk gt10 SA.out ?_
      refine tk gt11 SA.out ?_
      refine tk gt12 SA.out ?_
      refine tk gt13 SA.out ?_
      refine tk gt14 SA.out ?_
      refine tk gt15 SA.out ?_
      refine tk gt16 SA.out ?_
      refine tk gt17 SA.out ?_
      refine tk gt18 SA.out ?_
      refine tk gt19 SA.out ?_
      refine tk gt20 SA.out ?_
      refine tk gt21 SA.out ?_
      refine rdy gt22 (fun K hKK=>?_)
      refine step_fng (by rfl) _ _ (by go_simp) (HSAME.out _ BA.out) (by rintro e w' ⟨rfl,_⟩;exact⟨_,rfl⟩) ?_
      rintro _ w2 ⟨he,hb2⟩
      cases he
      have B2:=hide (BA.out.trans (hb2.mono BA.out.size))
      have SB:=hide (SAll.out _ B2.out)
      refine kk hKK (Or.inr SB.out) ?_
      clear hKK hb2 SA BA
      refine tk gt23 SB.out ?_
      refine tk gt24 SB.out ?_
      refine tu gt25 SB.out ?_
      refine tu gt26 SB.out ?_
      refine tu gt27 SB.out ?_
      refine tu gt28 SB.out ?_
      refine tu gt29 SB.out ?_
      refine tu gt30 SB.out ?_
      refine tu gt31 SB.out ?_
      refine tu gt32 SB.out ?_
      refine tu gt33 SB.out ?_
      refine tu gt34 SB.out ?_
      refine tu gt35 SB.out ?_
      refine tu gt36 SB.out ?_
      refine tu gt37 SB.out ?_
      refine tu gt38 SB.out ?_
      refine tu gt39 SB.out ?_
      refine tu gt40 SB.out ?_
      refine tu gt41 SB.out ?_
      refine tk gt42 SB.out ?_
      refine wpAnyX_done (by kernel_rfl) ?_ _
      go_wp2_with fail
      go_meet
      exact⟨rfl,B2.out⟩
     | true =>
      have hbf:hb=decide (X=Y):=by rw[hhb];simp
      subst hbf
      clear hhb
      refine wp_region_X (S:=fun w'=>w'.cell? ⟨m,1,none⟩=some (.slice (some ⟨g,0,none⟩) k c)/\w'.cell? ⟨g,j*5,none⟩=some (.slice na2 pl nc2)/\w'.cell? ⟨g,j*5+1,none⟩=some (.int .u16 (t:Int))/\w'.cell? ⟨g,j*5+4,none⟩=some (.slice xda xdl xdc)/\w'.cell? ⟨w.heap.size,0,none⟩=some (.slice na nl nc)/\w'.cell? ⟨w.heap.size,1,none⟩=some (.int .u16 (t:Int))/\w'.cell? ⟨w.heap.size,4,none⟩=some (.slice da dl dc)) (jS:=1000) (by kernel_rfl) ?_
      have BA:Hid (Below wr.heap.size wr wr.drew):=hide ((Below.refl _ wr).drew)
      have SA:=hide (SAll.out _ BA.out)
      generalize wr.drew=w1 at BA SA ⊢
      refine tk gt0 SA.out ?_
      refine tk gt1 SA.out ?_
      refine tk gt2 SA.out ?_
      refine tk gt3 SA.out ?_
      refine tk gt4 SA.out ?_
      refine tk gt5 SA.out ?_
      refine tk gt6 SA.out ?_
      refine tk gt7 SA.out ?_
      refine tk gt8 SA.out ?_
      refine tk gt9 SA.out ?_
      refine tk gt10 SA.out ?_
      refine tk gt11 SA.out ?_
      refine tk gt12 SA.out ?_
      refine tk gt13 SA.out ?_
      refine tk gt14 SA.out ?_
      refine tk gt15 SA.out ?_
      refine tk gt16 SA.out ?_
      refine tk gt17 SA.out ?_
      refine tk gt18 SA.out ?_
      refine tk gt19 SA.out ?_
      refine tk gt20 SA.out ?_
      refine tk gt21 SA.out ?_
      refine rdy gt22 (fun K hKK=>?_)
      refine step_fng (by rfl) _ _ (by go_simp) (HSAME.out _ BA.out) (by rintro e w' ⟨rfl,_⟩;exact⟨_,rfl⟩) ?_
      rintro _ w2 ⟨he,hb2⟩
      cases he
      have B2:=hide (BA.out.trans (hb2.mono BA.out.size))
      have SB:=hide (SAll.out _ B2.out)
      refine kk hKK (Or.inr SB.out) ?_
      clear hKK hb2 SA BA
      refine tk gt23 SB.out ?_
      refine tk gt24 SB.out ?_
      refine tk gt25 SB.out ?_
      refine tk gt26 SB.out ?_
      refine tk gt27 SB.out ?_
      refine tk gt28 SB.out ?_
      refine tk gt29 SB.out ?_
      refine tk gt30 SB.out ?_
      refine tk gt31 SB.out ?_
      refine tk gt32 SB.out ?_
      refine tk gt33 SB.out ?_
      refine tk gt34 SB.out ?_
      refine tk gt36 SB.out ?_
      refine tk gt37 SB.out ?_
      refine tk gt38 SB.out ?_
      refine tk gt39 SB.out ?_
      refine rdy gt35 (fun K hKK=>?_)
      refine step_fng (by rfl) _ _ (by go_simp) (HC1.out _ B2.out) (by rintro e w' ⟨rfl,_⟩;exact⟨_,rfl⟩) ?_
      rintro _ w3 ⟨he,hb2⟩
      cases he
      have B3:=hide (B2.out.trans (hb2.mono B2.out.size))
      have SC:=hide (SAll.out _ B3.out)
      refine kk hKK (Or.inr SC.out) ?_
      clear hKK hb2 SB B2
      refine rdy gt40 (fun K hKK=>?_)
      refine step_fng (by rfl) _ _ (by go_simp) (HC2.out _ B3.out) (by rintro e w' ⟨rfl,_⟩;exact⟨_,rfl⟩) ?_
      rintro _ w4 ⟨he,hb2⟩
      cases he
      have B4:=hide (B3.out.trans (hb2.mono B3.out.size))
      have SD:=hide (SAll.out _ B4.out)
      refine kk hKK (Or.inr SD.out) ?_
      clear hKK hb2 SC B3
      refine tk gt41 SD.out ?_
      refine tk gt42 SD.out ?_
      refine wpAnyX_done (by kernel_rfl) ?_ _
      go_wp2_with fail
      go_meet
      exact⟨(by simp;rw[Bool.eq_iff_iff];simp),B4.out⟩
    ·have htb:((xt:Int) == (t:Int))=false:=by simp;omega
     have hbf:hb=false:=by rw[hhb];simp[ht]
     subst hbf
     clear hhb
     refine wp_region_X (S:=fun w'=>w'.cell? ⟨m,1,none⟩=some (.slice (some ⟨g,0,none⟩) k c)/\w'.cell? ⟨g,j*5,none⟩=some (.slice na2 pl nc2)/\w'.cell? ⟨g,j*5+1,none⟩=some (.int .u16 (xt:Int))/\w'.cell? ⟨g,j*5+4,none⟩=some (.slice xda xdl xdc)/\w'.cell? ⟨w.heap.size,0,none⟩=some (.slice na nl nc)/\w'.cell? ⟨w.heap.size,1,none⟩=some (.int .u16 (t:Int))/\w'.cell? ⟨w.heap.size,4,none⟩=some (.slice da dl dc)) (jS:=1000) (by kernel_rfl) ?_
     have BA:Hid (Below wr.heap.size wr wr.drew):=hide ((Below.refl _ wr).drew)
     have SA:=hide (SAll.out _ BA.out)
     generalize wr.drew=w1 at BA SA ⊢
     refine tk gt0 SA.out ?_
     refine tk gt1 SA.out ?_
     refine tk gt2 SA.out ?_
     refine tk gt3 SA.out ?_
     refine tk gt4 SA.out ?_
     refine tk gt5 SA.out ?_
     refine tk gt6 SA.out ?_
     refine tk gt7 SA.out ?_
     refine tk gt8 SA.out ?_
     refine tk gt9 SA.out ?_
     refine tk gt10 SA.out ?_
     refine tk gt11 SA.out ?_
     refine tu gt12 SA.out ?_
     refine tu gt13 SA.out ?_
     refine tu gt14 SA.out ?_
     refine tu gt15 SA.out ?_
     refine tu gt16 SA.out ?_
     refine tu gt17 SA.out ?_
     refine tu gt18 SA.out ?_
     refine tu gt19 SA.out ?_
     refine tu gt20 SA.out ?_
     refine tu gt21 SA.out ?_
     refine tu gt22 SA.out ?_
     refine tk gt23 SA.out ?_
     refine tk gt24 SA.out ?_
     refine tu gt25 SA.out ?_
     refine tu gt26 SA.out ?_
     refine tu gt27 SA.out ?_
     refine tu gt28 SA.out ?_
     refine tu gt29 SA.out ?_
     refine tu gt30 SA.out ?_
     refine tu gt31 SA.out ?_
     refine tu gt32 SA.out ?_
     refine tu gt33 SA.out ?_
     refine tu gt34 SA.out ?_
     refine tu gt35 SA.out ?_
     refine tu gt36 SA.out ?_
     refine tu gt37 SA.out ?_
     refine tu gt38 SA.out ?_
     refine tu gt39 SA.out ?_
     refine tu gt40 SA.out ?_
     refine tu gt41 SA.out ?_
     refine tk gt42 SA.out ?_
     refine wpAnyX_done (by kernel_rfl) ?_ _
     go_wp2_with fail
     go_meet
     exact⟨rfl,BA.out⟩
   case rest =>
    obtain⟨rfl,hbc⟩:=hcut
    clear hhb
    have HBC:=hide (HB.out.trans (hbc.mono HB.out.size))
    have HRC:=hide (HRR.out.below hbc HRR.out.lt)
    have HBXC:=hide (HBX.out.below hbc HBX.out.lt)
    clear hbc
    cases hb with
    | false =>
     go_wp2
     go_roundw
     case rel =>
      refine⟨j+1,by go_num,by omega,HBC.out,HBXC.out,hide fun i y hi hy=>?_⟩
      by_cases e:i=j
      ·rw[e,HX.out] at hy;injection hy with hy
       rw[<- hy]
       intro h
       have:=HIFF.out.2 h
       cases this
      ·exact HNO.out i y (by omega) hy
     case measure=>simp[intOf];omega
    | true =>
     have hdr:=Z.dropR_hit HR.out.rise HX.out HXOK.out.2.2.1 (HIFF.out.1 rfl)
     rw[<- HDR.out] at hdr
     subst hdr
     have HRLC:=hide (HRL.out.bel HBC.out)
     have hsub:(L.take j++L.drop (j+1)).Sublist L:=by
      rw[<- List.eraseIdx_eq_take_drop_succ]
      exact List.eraseIdx_sublist _ _
     have HSUB:=hide hsub
     have hlen:(L.take j++L.drop (j+1)).length=k - 1:=by
      have:=HK.out
      rw[List.length_append,List.length_take,List.length_drop];omega
     have HLEN:=hide hlen
     clear hsub hlen
     obtain⟨J1,hJ1⟩ : ∃ J1,J1=j+1:=⟨_,rfl⟩
     have hwj:IntKind.i64.wrap ((j:Int)+1)=(J1:Int):=by rw[IntKind.wrap_i64];omega
     have hwj2:(j:Int)+1=(J1:Int):=by omega
     have hwj3:IntKind.i64.wrap (J1:Int)=(J1:Int):=by rw[IntKind.wrap_i64];omega
     have hkc:k<=c:=by have:=HRLC.out.1;have:=HK.out;omega
     have sl1:=rslice_head g k c j (by omega)
     have sl2:=rslice_tail g k c J1 (by omega)
     obtain⟨O,hO⟩ : ∃ O,O=if c=J1 then 0 else J1*5:=⟨_,rfl⟩
     obtain⟨T,hT⟩ : ∃ T,T=k - J1:=⟨_,rfl⟩
     obtain⟨E,hE⟩ : ∃ E,E=c - J1:=⟨_,rfl⟩
     rw[<- hO, <- hT, <- hE] at sl2
     have hO5:j+1<L.length->O=(j+1)*5:=fun h=>by rw[hO,if_neg (by have:=HK.out;omega),hJ1]
     have hTL:T=L.length - (j+1):=by rw[hT,hJ1,HK.out]
     have HO5:=hide hO5
     have HTL:=hide hTL
     clear hO hT hE hO5 hTL hJ1
     have hrsz:base<=wc.heap.size:=by have:=HBC.out.size;omega
     go_wp2
     refine wp_region_X (S:=fun w'=>w'.cell? ⟨m,1,none⟩=some (.slice (some ⟨g,0,none⟩) k c)) (jS:=18) (by kernel_rfl) ?_
     have BA:Hid (Below wc.heap.size wc wc.drew):=hide ((Below.refl _ wc).drew)
     have s0:wc.drew.cell? ⟨m,1,none⟩=some (.slice (some ⟨g,0,none⟩) k c):=(HRC.out.below BA.out HRC.out.lt).cell 1
     generalize wc.drew=w1 at BA s0 ⊢
     refine tk gt0 s0 ?_
     refine tk gt1 s0 ?_
     refine tk gt2 s0 ?_
     refine tk gt3 s0 ?_
     refine tk gt4 s0 ?_
     refine tk gt5 s0 ?_
     refine tk gt6 s0 ?_
     refine tk gt7 s0 ?_
     refine tk gt8 s0 ?_
     refine tk gt9 s0 ?_
     refine tk gt10 s0 ?_
     refine tk gt11 s0 ?_
     refine tk gt12 s0 ?_
     refine tk gt13 s0 ?_
     refine tk gt14 s0 ?_
     refine rdy gt15 (fun K hKK=>?_)
     refine step_append_rm (by rfl) (.tmp 65) (.tmp 72) rfl (E:=E) (by rfl) (by rfl) (HRLC.out.bel BA.out) (Nat.le_trans hrsz BA.out.size) (by have:=HK.out;omega) HTL.out HO5.out (by have:=HK.out;omega) ?_
     intro a2 c2 w2 hO2 hb2
     have B2:=hide (BA.out.trans (hb2.mono BA.out.size))
     have O2:=hide hO2
     rw[<- HK.out]
     have hr2:=HRC.out.below B2.out HRC.out.lt
     have HR2:=hide hr2
     have p1:w2.cell? ⟨m,1,none⟩=some (.slice (some ⟨g,0,none⟩) k c):=hr2.cell 1
     have f1:w2.frozen? ⟨m,1,none⟩=false:=hr2.frozen 1
     refine kk hKK (Or.inr p1) ?_
     clear hKK hb2 BA hO2 hr2
     refine rdy gt16 (fun K hKK=>?_)
     go_simp
     refine kk hKK (Or.inr p1) ?_
     clear hKK
     refine tk gt17 p1 ?_
     refine rdy gt18 (fun K hKK=>?_)
     go_simp
     refine kk hKK (Or.inl rfl) ?_
     clear hKK
     refine wpAnyX_done (by kernel_rfl) ?_ _
     go_wp2
     go_ret
     have HBD:=hide (HBC.out.trans (B2.out.mono HBC.out.size))
     refine⟨rfl,?_,fun b=>RM.of_below HBD.out |>.trans (RM.cell HR2.out 1 _)⟩
     refine (HR.out.less (L':=L.take j++L.drop (j+1)) (fun x hx=>HSUB.out.subset hx) (HR.out.rise.sublist HSUB.out) HSUB.out.length_le) ⟨aa,ac,a2,c2,?_,slS_rz HR2.out 1 _ (HSA.out.below HBD.out (Nat.le_refl _)),HAC.out,O2.out.rz HR2.out 1 _⟩
     rw[HLEN.out]
     exact HR2.out.set 1 _
  ·obtain rfl:j=k:=by omega
   have hdr:DR=(false,L):=by
    rw[HDR.out]
    refine Z.dropR_miss (fun x hx=>(HR.out.okk x hx).2.2.1) (fun x hx h=>?_)
    obtain⟨i,hi,e⟩:=List.getElem_of_mem hx
    exact HNO.out i x (by have:=HK.out;omega) (by rw[List.getElem?_eq_getElem hi,e]) h
   subst hdr
   go_wp2
   go_ret
   exact⟨rfl,HR.out.bel HB.out,fun b=>RM.of_below HB.out⟩
end Go.Proofs.YtbkegikdmmnkaaaGreat
namespace Go.Proofs.YtbkegikdmmnkaaaGreat
set_option maxRecDepth 5000
open Go.RowKit
open Go.ChangeShapes Go.WideShapes Go.ChangeAt Go.WideMaps Go.WideElems
theorem ownK:ownKnob Tryz.prog.godebug=none:=by kernel_rfl
theorem laidOutT:laidOutB Tryz.prog=true:=by kernel_rfl
theorem u32_of {a:Int} (h:(Lit.int .u32 a).wf=true) : ∃ b:Nat,a=(b:Int)/\b<4294967296:=by
 have h1:IntKind.u32.min=0:=by decide
 have h2:IntKind.u32.max=4294967295:=by decide
 simp only[Lit.wf,Bool.and_eq_true,decide_eq_true_eq,h1,h2] at h
 exact⟨a.toNat,by omega,by omega⟩
theorem u16_of {a:Int} (h:(Lit.int .u16 a).wf=true) : ∃ b:Nat,a=(b:Int)/\b<65536:=by
 have h1:IntKind.u16.min=0:=by decide
 have h2:IntKind.u16.max=65535:=by decide
 simp only[Lit.wf,Bool.and_eq_true,decide_eq_true_eq,h1,h2] at h
 exact⟨a.toNat,by omega,by omega⟩
theorem u8_of {a:Int} (h:(Lit.int .u8 a).wf=true) : ∃ b:Nat,a=(b:Int)/\b<256:=by
 have h1:IntKind.u8.min=0:=by decide
 have h2:IntKind.u8.max=255:=by decide
 simp only[Lit.wf,Bool.and_eq_true,decide_eq_true_eq,h1,h2] at h
 exact⟨a.toNat,by omega,by omega⟩
open Go.ChangeShapes Go.WideShapes Go.ChangeAt Go.WideMaps Go.WideElems Go.RowKit Go.Deep
theorem cellsU8:Tryz.prog.cellsOf 5=1:=by kernel_rfl
theorem cellsStr:Tryz.prog.cellsOf 9=1:=by kernel_rfl
theorem open_bytes {H:Type} {enc:TypeId × Value->H} {W:World} {a0:Option Addr} {len cap:Nat} {d:DataW H} {p:List MemPlace} (h0:DataW.Trod enc Tryz.prog W 0 (fun _=>true) true 37 (.slice a0 len cap) d p) :
 ∃ bs:List UInt8,bs.length=len/\SlL W a0 bs/\(a0=none->cap=0)/\len<=cap/\cap<=maxLen:=by
 obtain⟨fuel,hf⟩:=h0
 rcases open_ints Tryz.underlying37 Tryz.underlying5 cellsU8 hf with⟨hcs,hx⟩ | ⟨a,len',cap',zs,hcs,_,hl,hm,hz,hx,hcell,hwz⟩
 ·simp[Value.cells] at hcs
  obtain⟨rfl,rfl,rfl⟩:=hcs
  exact⟨[],rfl,SlL.nil _ _,fun _=>rfl,Nat.le_refl _,Nat.zero_le _⟩
 ·simp[Value.cells] at hcs
  obtain⟨rfl,rfl,rfl⟩:=hcs
  simp only[if_true] at hz
  have hlen:((zs.take len).map fun z=>UInt8.ofNat z.toNat).length=len:=by simp;omega
  refine⟨(zs.take len).map fun z=>UInt8.ofNat z.toNat,hlen,fun hn=>?_,fun h=>(by cases h),hl,hm⟩
  rw[hlen] at hn
  obtain⟨b,off,rfl,hc⟩:=ints_at hcell (by omega)
  refine⟨b,off,rfl,block_lt_of_cell (hc 0 (by omega)),fun j hj=>?_⟩
  rw[hlen] at hj
  rw[hc j (by omega)]
  have hjz:j<zs.length:=by omega
  have hw:=bounds_u8 (hwz _ (List.getElem_mem hjz))
  have e1:zs.getD j 0=zs[j]:=by simp[hjz]
  have e2:((zs.take len).map fun z=>UInt8.ofNat z.toNat).getD j 0=UInt8.ofNat (zs[j]).toNat:=by
   simp[hj,hjz]
  rw[e1,e2,UInt8.toNat_ofNat']
  congr 2
  omega
theorem open_name {H:Type} {enc:TypeId × Value->H} {W:World} {a0:Option Addr} {len cap:Nat} {d:DataW H} {p:List MemPlace} (h0:DataW.Trod enc Tryz.prog W 0 (fun _=>true) true 28 (.slice a0 len cap) d p) :
 ∃ n:List (List UInt8),n.length=len/\SlS W a0 n/\Sane n/\len<=cap/\cap<=9223372036854775807:=by
 obtain⟨fuel,hf⟩:=h0
 rcases open_strs Tryz.underlying28 Tryz.underlying9 cellsStr hf with⟨hcs,hx⟩ | ⟨a,len',cap',m,Sx,hcs,_,hl,hm,hmm,hx,hcell⟩
 ·simp[Value.cells] at hcs
  obtain⟨rfl,rfl,rfl⟩:=hcs
  exact⟨[],rfl,SlS.nil _ _,fun l hl=>by simp at hl,Nat.le_refl _,by omega⟩
 ·simp[Value.cells] at hcs
  obtain⟨rfl,rfl,rfl⟩:=hcs
  simp only[if_true] at hmm
  subst hmm
  unfold maxLen at hm
  have hlen:((List.range len).map fun r=>(Sx r).data.toList).length=len:=by simp
  refine⟨(List.range len).map fun r=>(Sx r).data.toList,hlen,fun hn=>?_,fun l hl'=>?_,hl,by omega⟩
  ·rw[hlen] at hn
   have hc0:=(hcell 0 (by omega)).1
   have hspot:a.spot=none:=by
    have:=World.cell?_spot hc0
    simpa [Addr.add] using this
   obtain⟨b,off,spot⟩:=a
   simp only at hspot
   subst hspot
   refine⟨b,off,rfl,?_,fun j hj=>?_⟩
   ·have:=block_lt_of_cell hc0
    rw[Addr.add_mid] at this;exact this
   ·rw[hlen] at hj
    have hc:=(hcell j (by omega)).1
    rw[Addr.add_mid] at hc
    rw[hc]
    have e:((List.range len).map fun r=>(Sx r).data.toList).getD j []=(Sx j).data.toList:=by simp[hj]
    rw[e]
  ·simp only[List.mem_map,List.mem_range] at hl'
   obtain⟨r,hr,rfl⟩:=hl'
   have:=(hcell r (by omega)).2
   unfold maxLen at this
   show (Sx r).size<=_
   omega
open Go.ChangeShapes Go.WideShapes Go.ChangeAt Go.WideMaps Go.WideElems Go.RowKit Go.Deep
structure AcT where
 what:Int
 k:Nat
 raw:Bool
 n:List (List UInt8)
 t:Nat
 cl:Nat
 ttl:Nat
 d:List UInt8
 t2:Nat
structure AcT.Ok (x:AcT):Prop where
 k:x.k<4294967296
 t:x.t<65536
 cl:x.cl<65536
 ttl:x.ttl<4294967296
 t2:x.t2<65536
 n:Sane x.n
def acRow (x:AcT) (na:Option Addr) (nc:Nat) (da:Option Addr) (dc:Nat):List Value := [.int .i64 x.what,.int .u32 (x.k:Int),.bool x.raw,.slice na x.n.length nc,.int .u16 (x.t:Int),.int .u16 (x.cl:Int),.int .u32 (x.ttl:Int),.slice da x.d.length dc,.int .u16 (x.t2:Int)]
def AcS (w:World) (x:AcT) (na:Option Addr) (nc:Nat) (da:Option Addr) (dc:Nat):Prop:=SlS w na x.n/\x.n.length<=nc/\nc<=9223372036854775807/\SlL w da x.d/\(da=none->dc=0)/\x.d.length<=dc/\dc<=9223372036854775807
def AcAt (w:World) (b o:Nat) (x:AcT):Prop := ∃ na nc da dc,AcS w x na nc da dc /\ ∀ k,k<9->w.cell? ⟨b,o+k,none⟩=(acRow x na nc da dc)[k]?
def SlA (w:World) (a:Option Addr) (l:List AcT):Prop:=0<l.length -> ∃ b o,a=some ⟨b,o,none⟩/\b<w.heap.size /\ ∀ j x,l[j]?=some x->AcAt w b (o+j*9) x
theorem AcS.below {B:Nat} {w w':World} {x:AcT} {na da:Option Addr} {nc dc:Nat} (h:AcS w x na nc da dc) (hb:Below B w w') (hB:w.heap.size<=B):AcS w' x na nc da dc:=⟨h.1.below hb hB,h.2.1,h.2.2.1,h.2.2.2.1.below hb hB,h.2.2.2.2⟩
theorem SlA.below {B:Nat} {w w':World} {a:Option Addr} {l:List AcT} (h:SlA w a l) (hb:Below B w w') (hB:w.heap.size<=B):SlA w' a l:=fun hn=>by
 obtain⟨b,o,e,hlt,hc⟩:=h hn
 refine⟨b,o,e,Nat.lt_of_lt_of_le hlt hb.size,fun j x hx=>?_⟩
 obtain⟨na,nc,da,dc,h1,h2⟩:=hc j x hx
 exact⟨na,nc,da,dc,h1.below hb hB,fun k hk=>by rw[<- h2 k hk];exact World.cell?_of_block (hb.block b (by omega))⟩
theorem SlA.get {w:World} {a:Option Addr} {l:List AcT} (h:SlA w a l) {j:Nat} {x:AcT} (hx:l[j]?=some x) : ∃ b o na nc da dc,a=some ⟨b,o,none⟩/\b<w.heap.size/\AcS w x na nc da dc/\w.cell? ⟨b,o+j*9,none⟩=some (.int .i64 x.what)/\w.cell? ⟨b,o+j*9+1,none⟩=some (.int .u32 (x.k:Int))/\w.cell? ⟨b,o+j*9+2,none⟩=some (.bool x.raw)/\w.cell? ⟨b,o+j*9+3,none⟩=some (.slice na x.n.length nc)/\w.cell? ⟨b,o+j*9+4,none⟩=some (.int .u16 (x.t:Int))/\w.cell? ⟨b,o+j*9+5,none⟩=some (.int .u16 (x.cl:Int))/\w.cell? ⟨b,o+j*9+6,none⟩=some (.int .u32 (x.ttl:Int))/\w.cell? ⟨b,o+j*9+7,none⟩=some (.slice da x.d.length dc)/\w.cell? ⟨b,o+j*9+8,none⟩=some (.int .u16 (x.t2:Int)):=by
 obtain⟨b,o,e,hlt,hc⟩:=h (by have:=(List.getElem?_eq_some_iff.1 hx).1;omega)
 obtain⟨na,nc,da,dc,h1,h2⟩:=hc j x hx
 exact⟨b,o,na,nc,da,dc,e,hlt,h1,h2 0 (by omega),h2 1 (by omega),h2 2 (by omega),h2 3 (by omega),h2 4 (by omega),h2 5 (by omega),h2 6 (by omega),h2 7 (by omega),h2 8 (by omega)⟩
theorem cell_slice {H:Type} {enc:TypeId × Value->H} {W:World} {t e:TypeId} {n:Nat} {x:Value} {y:DataW H × List MemPlace} (ht:Tryz.prog.underlying t=some (.slice e)) (h:DataW.trod enc Tryz.prog W 0 (fun _=>true) true n t [x]=some y) :
 ∃ a l c,x = .slice a l c/\DataW.Trod enc Tryz.prog W 0 (fun _=>true) true t (.slice a l c) y.1 y.2:=by
 rcases DataW.trod_slice ht h with⟨hx,_⟩ | ⟨a,l,c,_,_,_,_,hx,_⟩
 ·cases hx;exact⟨none,0,0,rfl,n,h⟩
 ·cases hx;exact⟨some a,l,c,rfl,n,h⟩
theorem cell_int {H:Type} {enc:TypeId × Value->H} {W:World} {t:TypeId} {k:IntKind} {n:Nat} {x:Value} {y:DataW H × List MemPlace} (ht:Tryz.prog.underlying t=some (.int k)) (h:DataW.trod enc Tryz.prog W 0 (fun _=>true) true n t [x]=some y) :
 ∃ m,x = .int k m/\(Lit.int k m).wf=true:=by
 obtain⟨m,hx,_,hw⟩:=DataW.trod_int ht h
 cases hx
 exact⟨m,rfl,hw⟩
theorem cell_bool {H:Type} {enc:TypeId × Value->H} {W:World} {t:TypeId} {n:Nat} {x:Value} {y:DataW H × List MemPlace} (ht:Tryz.prog.underlying t=some .bool) (h:DataW.trod enc Tryz.prog W 0 (fun _=>true) true n t [x]=some y) : ∃ m,x = .bool m:=by
 obtain⟨m,hx,_⟩:=DataW.trod_bool ht h
 cases hx
 exact⟨m,rfl⟩
theorem cellsAct:Tryz.prog.cellsOf 41=9:=by kernel_rfl
theorem cellsRec:Tryz.prog.cellsOf 39=5:=by kernel_rfl
theorem rec_of {H:Type} {enc:TypeId × Value->H} {W:World} {n:Nat} {l:List Value} {y:DataW H × List MemPlace} (h:DataW.trod enc Tryz.prog W 0 (fun _=>true) true n 39 l=some y) :
 ∃ (nm:List (List UInt8)) (t cl ttl:Nat) (d:List UInt8) (na:Option Addr) (nc:Nat) (da:Option Addr) (dc:Nat),l = [.slice na nm.length nc,.int .u16 (t:Int),.int .u16 (cl:Int),.int .u32 (ttl:Int),.slice da d.length dc]/\SlS W na nm/\Sane nm/\nm.length<=nc/\nc<=9223372036854775807/\SlL W da d/\(da=none->dc=0)/\d.length<=dc/\dc<=9223372036854775807/\t<65536/\cl<65536/\ttl<4294967296:=by
 obtain⟨xs,n,_,_,hl,hxl,hg⟩:=DataW.trod_struct Tryz.underlying39 h
 rw[cellsRec] at hl
 match l,hl with
 | [x0,x1,x2,x3,x4],_ =>
  have f0:=hg 0 _ rfl
  have f1:=hg 1 _ rfl
  have f2:=hg 2 _ rfl
  have f3:=hg 3 _ rfl
  have f4:=hg 4 _ rfl
  have hx : ∀ i,i<5->xs[i]?=some (xs.getD i (.nil, [])):=fun i hi=>by
   have:i<xs.length:=by rw[hxl];exact hi
   simp[this]
  rw[hx 0 (by omega)] at f0
  rw[hx 1 (by omega)] at f1
  rw[hx 2 (by omega)] at f2
  rw[hx 3 (by omega)] at f3
  rw[hx 4 (by omega)] at f4
  obtain⟨a0,l0,c0,rfl,t0⟩:=cell_slice Tryz.underlying28 f0
  obtain⟨n0,rfl,s0,z0,e0,g0⟩:=open_name t0
  obtain⟨m1,rfl,w1⟩:=cell_int Tryz.underlying36 f1
  obtain⟨q1,rfl,b1⟩:=u16_of w1
  obtain⟨m2,rfl,w2⟩:=cell_int Tryz.underlying36 f2
  obtain⟨q2,rfl,b2⟩:=u16_of w2
  obtain⟨m3,rfl,w3⟩:=cell_int Tryz.underlying35 f3
  obtain⟨q3,rfl,b3⟩:=u32_of w3
  obtain⟨a4,l4,c4,rfl,t4⟩:=cell_slice Tryz.underlying37 f4
  obtain⟨n4,rfl,s4,z4,e4,g4⟩:=open_bytes t4
  exact⟨n0,q1,q2,q3,n4,a0,c0,a4,c4,rfl,s0,z0,e0,g0,s4,z4,e4,(by unfold maxLen at g4;omega),b1,b2,b3⟩
theorem act_of {H:Type} {enc:TypeId × Value->H} {W:World} {n:Nat} {l:List Value} {y:DataW H × List MemPlace} (h:DataW.trod enc Tryz.prog W 0 (fun _=>true) true n 41 l=some y) : ∃ (x:AcT) (na:Option Addr) (nc:Nat) (da:Option Addr) (dc:Nat),l=acRow x na nc da dc/\AcS W x na nc da dc/\x.Ok:=by
 obtain⟨xs,n,_,_,hl,hxl,hg⟩:=DataW.trod_struct Tryz.underlying41 h
 rw[cellsAct] at hl
 match l,hl with
 | [x0,x1,x2,x3,x4,x5,x6,x7,x8],_ =>
  have f0:=hg 0 _ rfl
  have f1:=hg 1 _ rfl
  have f2:=hg 2 _ rfl
  have f3:=hg 3 _ rfl
  have f4:=hg 4 _ rfl
  have hx : ∀ i,i<5->xs[i]?=some (xs.getD i (.nil, [])):=fun i hi=>by
   have:i<xs.length:=by rw[hxl];exact hi
   simp[this]
  rw[hx 0 (by omega)] at f0
  rw[hx 1 (by omega)] at f1
  rw[hx 2 (by omega)] at f2
  rw[hx 3 (by omega)] at f3
  rw[hx 4 (by omega)] at f4
  obtain⟨m0,rfl,w0⟩:=cell_int Tryz.underlying3 f0
  obtain⟨m1,rfl,w1⟩:=cell_int Tryz.underlying35 f1
  obtain⟨q1,rfl,b1⟩:=u32_of w1
  obtain⟨m2,rfl⟩:=cell_bool Tryz.underlying4 f2
  obtain⟨nm,t,cl,ttl,d,na,nc,da,dc,e3,k1,k2,k3,k4,k5,k6,k7,k8,k9,k10,k11⟩:=rec_of f3
  obtain⟨m8,e8,w8⟩:=cell_int Tryz.underlying36 f4
  obtain⟨q8,rfl,b8⟩:=u16_of w8
  refine⟨⟨m0,q1,m2,nm,t,cl,ttl,d,q8⟩,na,nc,da,dc,?_,⟨k1,k3,k4,k5,k6,k7,k8⟩,⟨b1,k9,k10,k11,b8,k2⟩⟩
  have e3' : [x3,x4,x5,x6,x7]=_:=e3
  have e8':x8=_:=e8
  injection e3' with h1 e3'
  injection e3' with h2 e3'
  injection e3' with h3 e3'
  injection e3' with h4 e3'
  injection e3' with h5 _
  rw[h1,h2,h3,h4,h5,e8']
  rfl
theorem open_acts {H:Type} {enc:TypeId × Value->H} {W:World} {a0:Option Addr} {len cap:Nat} {d:DataW H} {p:List MemPlace} (h0:DataW.Trod enc Tryz.prog W 0 (fun _=>true) true 22 (.slice a0 len cap) d p) : ∃ l:List AcT,l.length=len/\SlA W a0 l/\(∀ x∈l,x.Ok)/\len<=maxLen:=by
 obtain⟨fuel,hf⟩:=h0
 rcases DataW.trod_slice Tryz.underlying22 hf with⟨hcs,hx⟩ | ⟨a,len',cap',elems,rest,n,_,hcs,_,hb,hl,hm,hlen,hel,hsp,hns⟩
 ·simp[Value.cells] at hcs
  obtain⟨rfl,rfl,rfl⟩:=hcs
  exact⟨[],rfl,fun h=>absurd h (by simp),fun x hx=>(by cases hx),Nat.zero_le _⟩
 ·simp[Value.cells] at hcs
  obtain⟨rfl,rfl,rfl⟩:=hcs
  have one : ∀ i,i<len -> ∃ x na nc da dc,AcS W x na nc da dc/\x.Ok /\ ∀ k,k<9->W.cell? ((a.add (i*9)).add k)=(acRow x na nc da dc)[k]?:=fun i hi=>by
   have h1:=hel i hi
   have hlt:i<elems.length:=by omega
   have h2:elems[i]?=some (elems.getD i (.nil, [])):=by simp[hlt]
   rw[h2,cellsAct,Option.bind_eq_some_iff] at h1
   obtain⟨l,hcl,ht⟩:=h1
   obtain⟨x,na,nc,da,dc,rfl,hs,hk⟩:=act_of ht
   obtain⟨_,hll,hcell⟩:=World.cells?_some hcl
   exact⟨x,na,nc,da,dc,hs,hk,fun k hk9=>hcell k hk9⟩
  by_cases h0:0<len
  ·have hspot:a.spot=none:=by
    obtain⟨x,na,nc,da,dc,_,_,hc⟩:=one 0 h0
    have:=World.cell?_spot (hc 0 (by omega))
    simpa [Addr.add] using this
   obtain⟨b,o,spot⟩:=a
   simp only at hspot
   subst hspot
   have key : ∀ k,k<=len -> ∃ l:List AcT,l.length=k/\(∀ x∈l,x.Ok) /\ ∀ j x,l[j]?=some x->AcAt W b (o+j*9) x:=by
    intro k
    induction k with
    | zero=>intro _;exact⟨[],rfl,fun x hx=>(by cases hx),fun j x h=>by simp at h⟩
    | succ k ih =>
     intro hk
     obtain⟨l,e1,e2,e3⟩:=ih (by omega)
     obtain⟨x,na,nc,da,dc,hs,hok,hc⟩:=one k (by omega)
     refine⟨l ++ [x],by rw[List.length_append,e1];rfl,fun y hy=>?_,fun j y hj=>?_⟩
     ·rcases List.mem_append.1 hy with hy | hy
      ·exact e2 y hy
      ·rw[List.mem_singleton.1 hy];exact hok
     ·by_cases hlt:j<l.length
      ·rw[List.getElem?_append_left hlt] at hj
       exact e3 j y hj
      ·rw[List.getElem?_append_right (by omega)] at hj
       have hj0:j - l.length=0:=by
        have:=(List.getElem?_eq_some_iff.1 hj).1
        simp at this
        omega
       rw[hj0] at hj
       simp at hj
       subst hj
       obtain rfl:j=k:=by omega
       refine⟨na,nc,da,dc,hs,fun q hq=>?_⟩
       rw[<- hc q hq,Addr.add_mid,Addr.add_mid]
   obtain⟨l,e1,e2,e3⟩:=key len (Nat.le_refl _)
   refine⟨l,e1,fun _=>⟨b,o,rfl,?_,e3⟩,e2,by omega⟩
   obtain⟨x,na,nc,da,dc,_,_,hc⟩:=one 0 h0
   have:=hc 0 (by omega)
   rw[Addr.add_mid,Addr.add_mid] at this
   exact block_lt_of_cell this
  ·obtain rfl:len=0:=by omega
   exact⟨[],rfl,fun h=>absurd h (by simp),fun x hx=>(by cases hx),Nat.zero_le _⟩
open Go.RowKit
namespace Z
def exA:List (List UInt8) := [[101,120,97,109,112,108,101]]
def owns:List (List (List UInt8)) := [[], [[97]], [[98]], [[99], [98]], [[42], [119]], [[120], [119]], [[101], [102], [103]], [[115,117,98]], [[110,115], [115,117,98]], [[65]], [[100,101,101,112], [120], [119]], [[122]], [[42]]]
def owner (k:Nat):List (List UInt8):=owns.getD (k % 13) []++exA
def farN:List (List UInt8) := [[102,97,114], [110,101,116]]
def underK (k:Nat):List (List UInt8):=if k % 7=6 then farN else owner k
def kinds:List Nat := [1,1,28,15,16,2,5,43,6,99]
def typeK (k:Nat):Nat:=kinds.getD (k % 10) 0
def soaK (k:Nat):D.Soa:=⟨owner 1,owner 2,k*16777216 % 4294967296,1,2,3,10+k % 4*20⟩
def dataK (t k:Nat):List UInt8 :=
 if t=1 then [10,0,0,UInt8.ofNat (k % 4)]
 else if t=28 then List.replicate 15 0 ++ [UInt8.ofNat (k % 3)]
 else if t=15 then [0,UInt8.ofNat (k % 3)]++N.wire (underK k)
 else if t=16 then [2,104,UInt8.ofNat (97+k % 4)]
 else if t=2 then N.wire ([owner 8,owner 1,farN].getD (k % 3) [])
 else if t=5 then N.wire (underK k)
 else if t=43 then [0,UInt8.ofNat (k % 3),253,2,1,2,3]
 else if t=6 then D.soaB (soaK k)
 else [UInt8.ofNat k]
def ttlK (k:Nat):Nat := [30,30,60,5].getD (k / 16777216 % 4) 0
theorem owner_at (k:Nat) : ∃ j,j<13/\owner k=owns.getD j []++exA:=⟨k % 13,Nat.mod_lt _ (by decide),rfl⟩
theorem owner_good (k:Nat):N.chk (owner k)=0/\N.within (owner k) exA=true/\(owner k).length<=4/\N.size (owner k)<=100 /\ [] ∉ owner k:=by
 have h : ∀ j,j<13->N.chk (owns.getD j []++exA)=0/\N.within (owns.getD j []++exA) exA=true/\(owns.getD j []++exA).length<=4/\N.size (owns.getD j []++exA)<=100 /\ [] ∉ owns.getD j []++exA:=by decide +kernel
 obtain⟨j,hj,e⟩:=owner_at k
 rw[e];exact h j hj
theorem owner_small (k:Nat):N.Small (owner k):=by
 have h : ∀ j,j<13->N.Small (owns.getD j []++exA):=by
  have h2 : ∀ j,j<13->(owns.getD j []++exA).length<=1000000 /\ ∀ l∈owns.getD j []++exA,l.length<=1000000:=by decide +kernel
  exact h2
 obtain⟨j,hj,e⟩:=owner_at k
 rw[e];exact h j hj
theorem underK_or (k:Nat):Z.underK k=farN\/Z.underK k=owner k:=by
 unfold underK;split
 ·exact Or.inl rfl
 ·exact Or.inr rfl
theorem far_small:N.Small farN:=by
 have h2:farN.length<=1000000 /\ ∀ l∈farN,l.length<=1000000:=by decide
 exact h2
theorem underK_small (k:Nat):N.Small (underK k):=by
 rcases underK_or k with h | h
 ·rw[h];exact far_small
 ·rw[h];exact owner_small k
theorem owner_wire (k:Nat):(N.wire (owner k)).length<=100:=by
 have h : ∀ j,j<13->(N.wire (owns.getD j []++exA)).length<=100:=by decide +kernel
 obtain⟨j,hj,e⟩:=owner_at k
 rw[e];exact h j hj
theorem underK_wire (k:Nat):(N.wire (underK k)).length<=100:=by
 rcases underK_or k with h | h
 ·rw[h];decide +kernel
 ·rw[h];exact owner_wire k
theorem soaK_ok (k:Nat):N.size (soaK k).main<=1000/\N.size (soaK k).box<=1000/\(soaK k).a<4294967296/\(soaK k).e<4294967296:=by
 refine⟨Nat.le_trans (owner_good 1).2.2.2.1 (by decide),Nat.le_trans (owner_good 2).2.2.2.1 (by decide),Nat.mod_lt _ (by decide),?_⟩
 show 10+k % 4*20<_
 omega
theorem typeK_lt (k:Nat):typeK k<65536:=by
 have h : ∀ j,j<10->kinds.getD j 0<65536:=by decide
 exact h _ (Nat.mod_lt _ (by decide))
end Z
open Go.RowKit
namespace Z
theorem data_ok (k j:Nat) (hk:k<256) : ∃ c,cn (typeK j) (dataK (typeK j) k)=some c:=by
 have h : ∀ k,k<256 -> ∀ j,j<10->(cn (kinds.getD j 0) (dataK (kinds.getD j 0) k)).isSome=true:=by decide +kernel
 exact Option.isSome_iff_exists.1 (h k hk (j % 10) (Nat.mod_lt _ (by decide)))
theorem put_nil (r:R):put [] r = [r]:=by
 have h:there [] r=false:=rfl
 unfold put
 rw[h,if_neg (by simp)]
 show [setT r.p r.t r.ttl r] = [r]
 unfold setT;rw[if_pos ⟨rfl,rfl⟩]
theorem there_one (r:R) (ttl:Nat) (d:List UInt8):there [r] ⟨r.p,r.t,r.c,ttl,d⟩=true:=there_iff.2 ⟨r,by simp,rfl,rfl,rfl⟩
theorem ttlAt_one (r:R):ttlAt [r] r.p r.t=r.ttl:=by
 have h:setAt [r] r.p r.t = [r]:=by unfold setAt;simp
 unfold ttlAt;rw[h];rfl
theorem put_one (r:R) (ttl:Nat) (d:List UInt8):put [r] ⟨r.p,r.t,r.c,ttl,d⟩ = [⟨r.p,r.t,r.c,ttl,r.d⟩]:=by
 unfold put
 rw[there_one,if_pos rfl]
 show [setT r.p r.t ttl r]=_
 unfold setT;rw[if_pos ⟨rfl,rfl⟩]
structure Fine (A n:List (List UInt8)) (t:Nat) (d c:List UInt8):Prop where
 chk:N.chk n=0
 win:N.within n A=true
 cn_:cn t d=some c
theorem putR_fine {A n:List (List UInt8)} {t:Nat} {d c:List UInt8} (h:Fine A n t d c) (L:List R) (ttl:Nat):putR A L n t 1 ttl d=if there L ⟨path n,t,c,ttl,d⟩=true then (if ttlAt L (path n) t=ttl then (false,0,L) else (true,0,put L ⟨path n,t,c,ttl,d⟩)) else if 2000<=L.length then (false,111,L) else (true,0,put L ⟨path n,t,c,ttl,d⟩):=by
 unfold putR
 rw[if_neg (by rintro (h1 | h1);exact h1 h.chk;rw[h.win] at h1;cases h1),if_neg (by simp),h.cn_]
theorem putR_nil {A n:List (List UInt8)} {t:Nat} {d c:List UInt8} (h:Fine A n t d c) (ttl:Nat):putR A [] n t 1 ttl d=(true,0, [⟨path n,t,c,ttl,d⟩]):=by
 rw[putR_fine h,put_nil]
 have:there [] (⟨path n,t,c,ttl,d⟩:R)=false:=rfl
 rw[this,if_neg (by simp),if_neg (by simp)]
theorem putR_one {A n:List (List UInt8)} {t:Nat} {d c:List UInt8} (h:Fine A n t d c) (ttl ttl':Nat):putR A [⟨path n,t,c,ttl,d⟩] n t 1 ttl' d=(!decide (ttl'=ttl),0, [⟨path n,t,c,ttl',d⟩]):=by
 rw[putR_fine h,put_one (⟨path n,t,c,ttl,d⟩:R),there_one (⟨path n,t,c,ttl,d⟩:R),if_pos rfl]
 have:=ttlAt_one (⟨path n,t,c,ttl,d⟩:R)
 rw[this]
 by_cases e:ttl'=ttl
 ·subst e;simp
 ·rw[if_neg (fun h=>e h.symm)];simp[e]
theorem putR_far {A n:List (List UInt8)} (h:N.within n A=false) (L:List R) (t cl ttl:Nat) (d:List UInt8):putR A L n t cl ttl d=(false,110,L):=by
 unfold putR;rw[if_pos (Or.inr h)]
theorem setAt_one (p:List (List UInt8)) (t:Nat) (c d:List UInt8) (ttl:Nat):setAt [⟨p,t,c,ttl,d⟩] p t = [⟨p,t,c,ttl,d⟩]:=by unfold setAt;simp
theorem seat_fine (k:Nat) : ∃ c,Fine exA (owner (k % 256)) (typeK (k / 256 % 256)) (dataK (typeK (k / 256 % 256)) (k / 65536 % 256)) c:=by
 obtain⟨c,hc⟩:=data_ok (k / 65536 % 256) (k / 256 % 256) (Nat.mod_lt _ (by decide))
 exact⟨c,(owner_good _).1,(owner_good _).2.1,hc⟩
theorem ttlK_lt (k:Nat):ttlK k<4294967296:=by
 have h : ∀ j,j<4 -> [30,30,60,5].getD j 0<4294967296:=by decide
 exact h _ (Nat.mod_lt _ (by decide))
end Z
theorem exA_small:N.Small Z.exA:=by
 have h2:Z.exA.length<=1000000 /\ ∀ l∈Z.exA,l.length<=1000000:=by decide
 exact h2
theorem exA_low:N.lowN Z.exA=Z.exA:=by decide +kernel
open Go.RowKit
theorem apex_any (w:World):Calls Tryz.prog 12 #[] w fun e w' => ∃ v,e = .returned v/\OwnS w' w.heap.size v Z.exA/\Below w.heap.size w w':=by
 go_enter Tryz.func12,Tryz.ntmps12
 go_wp2
 go_ret
 exact⟨_,rfl,OwnS.lit w Z.exA _ _ (Nat.le_refl _) rfl (by decide) 1 rfl,(Below.refl _ w).alloc (Nat.le_refl _) _⟩
def lay (w:World):List (List (List UInt8))->World
 | []=>w
 | l::r=>lay (w.alloc (.cells (vs l).toArray 9)) r
theorem lay_size : ∀ (r:List (List (List UInt8))) (w:World),(lay w r).heap.size=w.heap.size+r.length
 | [],w=>rfl
 | l::r,w=>by
  show (lay (w.alloc _) r).heap.size=_
  rw[lay_size r,World.size_alloc,List.length_cons];omega
theorem lay_below : ∀ (r:List (List (List UInt8))) (w:World),Below w.heap.size w (lay w r)
 | [],w=>Below.refl _ w
 | l::r,w=>by
  have h:=lay_below r (w.alloc (.cells (vs l).toArray 9))
  exact ((Below.refl _ w).alloc (Nat.le_refl _) _).trans (h.mono (by rw[World.size_alloc];omega))
theorem lay_at : ∀ (r:List (List (List UInt8))) (w:World) (j:Nat),j<r.length->SlS (lay w r) (some ⟨w.heap.size+j,0,none⟩) (r.getD j [])
 | [],w,j,h=>absurd h (Nat.not_lt_zero j)
 | l::r,w,0,h=>by
  have h1:=SlS.litm w l _ 9 (0,0) rfl
  exact h1.below (lay_below r _) (Nat.le_refl _)
 | l::r,w,j+1,h=>by
  have h1:=lay_at r (w.alloc (.cells (vs l).toArray 9)) j (by simpa using h)
  rw[World.size_alloc] at h1
  have e:w.heap.size+1+j=w.heap.size+(j+1):=by omega
  rw[e] at h1
  exact h1
def ownCells (b:Nat):Array Value := #[.slice (some ⟨b,0,none⟩) 0 0,.slice (some ⟨b+1,0,none⟩) 1 1,.slice (some ⟨b+2,0,none⟩) 1 1,.slice (some ⟨b+3,0,none⟩) 2 2,.slice (some ⟨b+4,0,none⟩) 2 2,.slice (some ⟨b+5,0,none⟩) 2 2,.slice (some ⟨b+6,0,none⟩) 3 3,.slice (some ⟨b+7,0,none⟩) 1 1,.slice (some ⟨b+8,0,none⟩) 2 2,.slice (some ⟨b+9,0,none⟩) 1 1,.slice (some ⟨b+10,0,none⟩) 3 3,.slice (some ⟨b+11,0,none⟩) 1 1,.slice (some ⟨b+12,0,none⟩) 1 1]
theorem ownCells_get (b:Nat) : ∀ j,j<13->(ownCells b)[j]?=some (.slice (some ⟨b+j,0,none⟩) (Z.owns.getD j []).length (Z.owns.getD j []).length)
 | 0,_=>rfl | 1,_=>rfl | 2,_=>rfl | 3,_=>rfl | 4,_=>rfl | 5,_=>rfl | 6,_=>rfl | 7,_=>rfl | 8,_=>rfl | 9,_=>rfl | 10,_=>rfl | 11,_=>rfl | 12,_=>rfl
 | j+13,h=>absurd h (by omega)
set_option maxHeartbeats 1000000 in
theorem owner_any (k:Nat) (hk:k<256) (w:World):Calls Tryz.prog 21 #[.int .u8 (k:Int)] w fun e w' => ∃ v,e = .returned v/\OwnS w' w.heap.size v (Z.owner k)/\Below w.heap.size w w':=by
 obtain⟨j,hj⟩ : ∃ j,j=k % 13:=⟨_,rfl⟩
 have hj13:j<13:=by rw[hj];exact Nat.mod_lt _ (by decide)
 have hmod:((k:Int) % 13)=(j:Int):=by omega
 have howner:Z.owner k=Z.owns.getD j []++Z.exA:=by unfold Z.owner;rw[hj]
 obtain⟨n,hn⟩ : ∃ n,n=Z.owns.getD j []:=⟨_,rfl⟩
 have hnl:n.length<=3:=by
  rw[hn]
  have h : ∀ j,j<13->(Z.owns.getD j []).length<=3:=by decide
  exact h j hj13
 obtain⟨nl,hnl2⟩ : ∃ nl,nl=n.length:=⟨_,rfl⟩
 obtain⟨W,hW⟩ : ∃ W,W=(lay w Z.owns).alloc (.cells (ownCells w.heap.size) 28):=⟨_,rfl⟩
 have hL:(lay w Z.owns).heap.size=w.heap.size+13:=lay_size _ _
 have hWs:W.heap.size=w.heap.size+14:=by rw[hW,World.size_alloc,hL]
 have hWb:Below w.heap.size w W:=by rw[hW];exact (lay_below _ _).alloc (by rw[hL];omega) _
 have hcell:W.cell? ⟨w.heap.size+13,j,none⟩=some (.slice (some ⟨w.heap.size+j,0,none⟩) nl nl):=by
  have h1:RowAt W (w.heap.size+13) 28 (ownCells w.heap.size):=by rw[hW, <- hL];exact RowAt.new _ _ _
  rw[h1.cell,ownCells_get _ j hj13, <- hn, <- hnl2]
 have hsl:SlS W (some ⟨w.heap.size+j,0,none⟩) n:=by
  rw[hW,hn];exact (lay_at _ w j (by show j<13;exact hj13)).alloc _
 have hnb:nl<=3:=by omega
 have HW:=hide hW
 have HN:=hide hn
 have HNL:=hide hnl2
 have HWB:=hide hWb
 have HWS:=hide hWs
 have HSL:=hide hsl
 have HO:=hide howner
 clear hW hn hnl2 hWb hWs hsl howner hj hL
 go_enter Tryz.func21,Tryz.ntmps21
 go_upto_region 1 with fail
 go_cut [3] from 4 (fun v wc=>v = .slice (some ⟨w.heap.size+13,0,none⟩) 13 13/\wc=W)
 case first =>
  go_wp2
  go_meet
  refine⟨rfl,?_⟩
  rw[HW.out];rfl
 case rest =>
  obtain⟨rfl,rfl⟩:=hcut
  have hjb:(j:Int)<13:=by omega
  have hz:wc.heap.size=w.heap.size+14:=HWS.out
  go_wp2_with (first
   | (at_builtin;refine wpList_append_S rfl (.const (.slice none 0 0)) (.tmp 27) rfl wc.heap.size (.slice none 0 0) [] rfl (OwnS.nil _ _) ⟨w.heap.size+j,0,none⟩ nl nl n rfl HNL.out.symm HSL.out (by simp;omega) (Nat.le_refl _) ?_;intro v5 w5 hO5 hG5;have HB5:=hide (grown_belowS (OwnS.nil wc wc.heap.size) hG5 (Below.refl _ _) (Nat.le_refl _)))
   | (go_at_call 12;refine (apex_any w5).mono ?_;rintro e w6 ⟨v6,rfl,hO6,hB6⟩;obtain⟨a6,c6,rfl,hS6,hn6,hc6,_⟩:=hO6.open)
   | (at_builtin;go_loud (refine wpList_append_SN rfl (.tmp 28) (.tmp 29) rfl wc.heap.size v5 n rfl (by simpa using hO5.below hB6) a6 _ c6 Z.exA rfl rfl hS6 hn6 (by simp[Z.exA];omega) (by have:=HB5.out.size;have:=hB6.size;omega) ?_);intro v7 w7 hO7 hG7)
   | fail)
  go_ret
  have b7:=grown_belowS (hO5.below hB6) hG7 (HB5.out.trans (hB6.mono HB5.out.size)) (by have:=HB5.out.size;have:=hB6.size;omega)
  refine⟨_,rfl,?_,HWB.out.trans (b7.mono HWB.out.size)⟩
  rw[HO.out, <- HN.out]
  exact hO7.lower (by omega)
theorem under_any (k:Nat) (hk:k<256) (w:World):Calls Tryz.prog 115 #[.int .u8 (k:Int)] w fun e w' => ∃ v,e = .returned v/\OwnS w' w.heap.size v (Z.underK k)/\Below w.heap.size w w':=by
 by_cases h6:k % 7=6
 ·have hm:((k:Int) % 7 == 6)=true:=by simp;omega
  have e:Z.underK k=Z.farN:=by unfold Z.underK;rw[if_pos h6]
  rw[e]
  go_enter Tryz.func115,Tryz.ntmps115
  go_wp2
  go_ret
  exact⟨_,rfl,OwnS.lit w Z.farN _ _ (Nat.le_refl _) rfl (by decide) 2 rfl,(Below.refl _ w).alloc (Nat.le_refl _) _⟩
 ·have hm:((k:Int) % 7 == 6)=false:=by simp;omega
  have e:Z.underK k=Z.owner k:=by unfold Z.underK;rw[if_neg h6]
  rw[e]
  go_enter Tryz.func115,Tryz.ntmps115
  go_wp2_with (go_at_call 21;refine (owner_any k hk w).mono ?_;rintro e w1 ⟨v,rfl,hO,hB⟩)
  go_ret
  exact⟨v,rfl,hO,hB⟩
theorem kinds_get (k:Nat):((#[.int .u16 1,.int .u16 1,.int .u16 28,.int .u16 15,.int .u16 16,.int .u16 2,.int .u16 5,.int .u16 43,.int .u16 6,.int .u16 99]:Array Value))[k % 10]?=some (.int .u16 (Z.typeK k:Int)):=by
 have h : ∀ j,j<10->((#[.int .u16 1,.int .u16 1,.int .u16 28,.int .u16 15,.int .u16 16,.int .u16 2,.int .u16 5,.int .u16 43,.int .u16 6,.int .u16 99]:Array Value))[j]?=some (.int .u16 ((Z.kinds.getD j 0:Nat):Int))
  | 0,_=>rfl | 1,_=>rfl | 2,_=>rfl | 3,_=>rfl | 4,_=>rfl | 5,_=>rfl | 6,_=>rfl | 7,_=>rfl | 8,_=>rfl | 9,_=>rfl
  | j+10,h=>absurd h (by omega)
 exact h _ (Nat.mod_lt _ (by decide))
theorem seatType_any (k:Nat) (hk:k<256) (w:World):Calls Tryz.prog 22 #[.int .u8 (k:Int)] w fun e w'=>e = .returned (.int .u16 (Z.typeK k:Int))/\Below w.heap.size w w':=by
 obtain⟨j,hj⟩ : ∃ j,j=k % 10:=⟨_,rfl⟩
 have hj10:j<10:=by rw[hj];exact Nat.mod_lt _ (by decide)
 have hmod:((k:Int) % 10)=(j:Int):=by omega
 have hjb:(j:Int)<10:=by omega
 have hc:=(RowAt.new w 36 #[.int .u16 1,.int .u16 1,.int .u16 28,.int .u16 15,.int .u16 16,.int .u16 2,.int .u16 5,.int .u16 43,.int .u16 6,.int .u16 99]).cell j
 rw[hj,kinds_get k, <- hj] at hc
 obtain⟨t,ht⟩ : ∃ t,t=Z.typeK k:=⟨_,rfl⟩
 rw[<- ht] at hc ⊢
 clear ht hj
 go_enter Tryz.func22,Tryz.ntmps22
 go_wp2
 go_ret
 exact⟨rfl,(Below.refl _ w).alloc (Nat.le_refl _) _⟩
open Go.RowKit
theorem u8mod (k m:Nat) (hm:0<m) (hm2:m<=256):((UInt8.ofNat (k % m)).toNat:Int)=(k:Int) % (m:Int):=by
 have h:k % m<m:=Nat.mod_lt _ hm
 have:(UInt8.ofNat (k % m)).toNat=k % m:=UInt8.toNat_ofNat_of_lt' (by show _<256;omega)
 rw[this];omega
theorem u8add (k:Nat):((UInt8.ofNat (97+k % 4)).toNat:Int)=97+(k:Int) % 4:=by
 have:(UInt8.ofNat (97+k % 4)).toNat=97+k % 4:=UInt8.toNat_ofNat_of_lt' (by show _<256;omega)
 rw[this];omega
theorem u8id (k:Nat) (hk:k<256):((UInt8.ofNat k).toNat:Int)=(k:Int):=by
 have:(UInt8.ofNat k).toNat=k:=UInt8.toNat_ofNat_of_lt' (by show _<256;omega)
 rw[this]
theorem pick3 (w2 W:World) {a1 a2:Option Addr} {n1 n2:List (List UInt8)} {c1 c2:Nat} (hW:W=(w2.alloc (.cells #[.string ⟨#[102,97,114]⟩,.string ⟨#[110,101,116]⟩] 9)).alloc (.cells #[.slice a1 n1.length c1,.slice a2 n2.length c2,.slice (some ⟨w2.heap.size,0,none⟩) 2 2] 28)) (j:Nat) (hj:j<3) (h1:SlS w2 a1 n1) (h2:SlS w2 a2 n2) (h3:SlS (w2.alloc (.cells #[.string ⟨#[102,97,114]⟩,.string ⟨#[110,101,116]⟩] 9)) (some ⟨w2.heap.size,0,none⟩) Z.farN) {nm:List (List UInt8)} (hnm:nm = [n1,n2,Z.farN].getD j []) :
 ∃ av nv cv,W.cell? ⟨w2.heap.size+1,j,none⟩=some (.slice av nv cv)/\SlS W av nm/\nm.length=nv /\ ∀ h,(#[.slice a1 n1.length c1,.slice a2 n2.length c2,.slice (some ⟨w2.heap.size,0,none⟩) 2 2]:Array Value)[j]'h = .slice av nv cv:=by
 have hr:RowAt W (w2.heap.size+1) 28 #[.slice a1 n1.length c1,.slice a2 n2.length c2,.slice (some ⟨w2.heap.size,0,none⟩) 2 2]:=by
  rw[hW]
  have:=RowAt.new (w2.alloc (.cells #[.string ⟨#[102,97,114]⟩,.string ⟨#[110,101,116]⟩] 9)) 28 #[.slice a1 n1.length c1,.slice a2 n2.length c2,.slice (some ⟨w2.heap.size,0,none⟩) 2 2]
  rw[World.size_alloc] at this
  exact this
 rcases (by omega:j=0\/j=1\/j=2) with h | h | h <;> subst h
 ·exact⟨a1,n1.length,c1,hr.cell 0,by rw[hnm,hW];exact (h1.alloc _).alloc _,by rw[hnm];rfl,fun _=>rfl⟩
 ·exact⟨a2,n2.length,c2,hr.cell 1,by rw[hnm,hW];exact (h2.alloc _).alloc _,by rw[hnm];rfl,fun _=>rfl⟩
 ·exact⟨_,2,2,hr.cell 2,by rw[hnm,hW];exact h3.alloc _,by rw[hnm];rfl,fun _=>rfl⟩
theorem make15 (W:World):(Instr.makeSlice 37 (.int .i64 15) (.int .i64 15)).run Tryz.prog W = .ok (.slice (some ⟨W.heap.size,0,none⟩) 15 15) (W.alloc (.cells #[.int .u8 0,.int .u8 0,.int .u8 0,.int .u8 0,.int .u8 0,.int .u8 0,.int .u8 0,.int .u8 0,.int .u8 0,.int .u8 0,.int .u8 0,.int .u8 0,.int .u8 0,.int .u8 0,.int .u8 0] 5)):=by
 obtain⟨i0,hi,hz0,hz1,hz2⟩:=info_parts infoB
 rw[run_make (P:=Tryz.prog) W 37 5 i0 (.int .u8 0) Tryz.underlying37 hi hz0 .i64 .i64 15 15 (by omega) (Int.le_refl _) (by rw[hz2];omega) (by omega)]
 rw[hz1,Nat.mul_one]
 have e:(Value.int .u8 0).cells = #[.int .u8 0]:=rfl
 have e2:madeCells #[.int .u8 0] 15 = #[.int .u8 0,.int .u8 0,.int .u8 0,.int .u8 0,.int .u8 0,.int .u8 0,.int .u8 0,.int .u8 0,.int .u8 0,.int .u8 0,.int .u8 0,.int .u8 0,.int .u8 0,.int .u8 0,.int .u8 0]:=by
  apply Array.toList_inj.1
  rw[toList_madeCells_one]
  rfl
 have e3:Int.toNat 15=15:=rfl
 rw[e,e3,e2]
set_option maxHeartbeats 1000000 in
theorem seatData_1 (k:Nat) (hk:k<256) (w:World):Calls Tryz.prog 81 #[.int .u16 1,.int .u8 (k:Int)] w fun e w' => ∃ v,e = .returned v/\OwnB w' w.heap.size v (Z.dataK 1 k)/\Below w.heap.size w w':=by
 have e:Z.dataK 1 k = [10,0,0,UInt8.ofNat (k % 4)]:=by unfold Z.dataK;rw[if_pos rfl]
 rw[e]
 go_enter Tryz.func81,Tryz.ntmps81
 go_wp2
 go_ret
 exact⟨_,rfl,OwnB.lit w _ _ _ (Nat.le_refl _) (by simp only[vb,List.map_cons,List.map_nil];rw[u8mod k 4 (by decide) (by decide)];rfl) (by simp) 4 rfl,(Below.refl _ w).alloc (Nat.le_refl _) _⟩
set_option maxHeartbeats 1000000 in
theorem seatData_28 (k:Nat) (hk:k<256) (w:World):Calls Tryz.prog 81 #[.int .u16 28,.int .u8 (k:Int)] w fun e w' => ∃ v,e = .returned v/\OwnB w' w.heap.size v (Z.dataK 28 k)/\Below w.heap.size w w':=by
 have e:Z.dataK 28 k=List.replicate 15 0 ++ [UInt8.ofNat (k % 3)]:=by unfold Z.dataK;rw[if_neg (by decide),if_pos rfl]
 rw[e]
 go_enter Tryz.func81,Tryz.ntmps81
 have hmk:=make15 w
 go_wp2_with (at_builtin;go_loud (refine wpList_append_B rfl (.tmp 13) (.tmp 16) rfl w.heap.size (.slice (some ⟨w.heap.size,0,none⟩) 15 15) (List.replicate 15 0) rfl ((OwnB.lit w (List.replicate 15 0) _ _ (Nat.le_refl _) rfl (by decide) 15 rfl).alloc _) (some ⟨w.heap.size+1,0,none⟩) 1 1 [UInt8.ofNat (k % 3)] (by first | rfl | simp[Act.eval]) rfl (by have:=SlL.litm (w.alloc (.cells #[.int .u8 0,.int .u8 0,.int .u8 0,.int .u8 0,.int .u8 0,.int .u8 0,.int .u8 0,.int .u8 0,.int .u8 0,.int .u8 0,.int .u8 0,.int .u8 0,.int .u8 0,.int .u8 0,.int .u8 0] 5)) [UInt8.ofNat (k % 3)] #[.int .u8 ((k:Int) % 3)] 5 (0,0) (by simp only[vb,List.map_cons,List.map_nil];rw[u8mod k 3 (by decide) (by decide)];rfl);simpa using this) (by intro h;cases h) (by simp) (by simp <;> omega) ?_);intro v5 w5 hO5 hG5;have b5:=grown_below ((OwnB.lit w (List.replicate 15 0) _ _ (Nat.le_refl _) rfl (by decide) 15 rfl).alloc _) hG5 (((Below.refl _ w).alloc (Nat.le_refl _) _).alloc (by simp <;> omega) _) (by simp <;> omega))
 go_ret
 exact⟨v5,rfl,hO5,b5⟩
set_option maxHeartbeats 1000000 in
theorem seatData_15 (k:Nat) (hk:k<256) (w:World):Calls Tryz.prog 81 #[.int .u16 15,.int .u8 (k:Int)] w fun e w' => ∃ v,e = .returned v/\OwnB w' w.heap.size v (Z.dataK 15 k)/\Below w.heap.size w w':=by
 have e:Z.dataK 15 k = [0,UInt8.ofNat (k % 3)]++N.wire (Z.underK k):=by unfold Z.dataK;rw[if_neg (by decide),if_neg (by decide),if_pos rfl]
 rw[e]
 go_enter Tryz.func81,Tryz.ntmps81
 have hu:=under_any k hk (w.alloc (.cells #[.int .u8 0,.int .u8 ((k:Int) % 3)] 5))
 have hO1:=hide (OwnB.lit w [0,UInt8.ofNat (k % 3)] #[.int .u8 0,.int .u8 ((k:Int) % 3)] _ (Nat.le_refl _) (by simp only[vb,List.map_cons,List.map_nil];rw[u8mod k 3 (by decide) (by decide)];rfl) (by simp) 2 rfl)
 have hB1:=hide ((Below.refl _ w).alloc (Nat.le_refl _) (.cells #[.int .u8 0,.int .u8 ((k:Int) % 3)] 5))
 go_wp2_with (first
  | (go_at_call 115;refine hu.mono ?_;rintro e w2 ⟨v2,rfl,hO2,hB2⟩;obtain⟨a2,c2,rfl,hS2,hn2,hc2,_⟩:=hO2.open)
  | (go_at_call 114;refine (rWire_any (Z.underK k) a2 _ c2 w2 rfl hS2 (Z.underK_small k)).mono ?_;rintro e w3 ⟨v3,rfl,hO3,hB3⟩;have OM:=hide ((hO1.out.below hB2).below hB3);have BM:=hide (hB1.out.trans ((hB2.mono (by simp)).trans (hB3.mono (by have:=hB2.size;simp at this;omega))));obtain⟨g3,c3,rfl,_,_⟩:=hO3.form (by simp[N.wire]);have S3:=hide hO3.sl)
  | (at_builtin;go_loud (refine wpList_append_B rfl (.tmp 22) (.tmp 25) rfl w.heap.size _ _ rfl (by exact OM.out) _ _ _ (N.wire (Z.underK k)) rfl rfl (by exact S3.out) (by intro h;cases h) (by have:=Z.underK_wire k;simp;omega) (by exact BM.out.size) ?_);intro v5 w5 hO5 hG5;have b5:=grown_below OM.out hG5 BM.out BM.out.size)
  | fail)
 go_ret
 exact⟨v5,rfl,hO5,b5⟩
set_option maxHeartbeats 1000000 in
theorem seatData_16 (k:Nat) (hk:k<256) (w:World):Calls Tryz.prog 81 #[.int .u16 16,.int .u8 (k:Int)] w fun e w' => ∃ v,e = .returned v/\OwnB w' w.heap.size v (Z.dataK 16 k)/\Below w.heap.size w w':=by
 have e:Z.dataK 16 k = [2,104,UInt8.ofNat (97+k % 4)]:=by unfold Z.dataK;rw[if_neg (by decide),if_neg (by decide),if_neg (by decide),if_pos rfl]
 rw[e]
 go_enter Tryz.func81,Tryz.ntmps81
 go_wp2
 go_ret
 exact⟨_,rfl,OwnB.lit w _ _ _ (Nat.le_refl _) (by simp only[vb,List.map_cons,List.map_nil];rw[u8add k];rfl) (by simp) 3 rfl,(Below.refl _ w).alloc (Nat.le_refl _) _⟩
set_option maxHeartbeats 1000000 in
theorem seatData_5 (k:Nat) (hk:k<256) (w:World):Calls Tryz.prog 81 #[.int .u16 5,.int .u8 (k:Int)] w fun e w' => ∃ v,e = .returned v/\OwnB w' w.heap.size v (Z.dataK 5 k)/\Below w.heap.size w w':=by
 have e:Z.dataK 5 k=N.wire (Z.underK k):=by unfold Z.dataK;rw[if_neg (by decide),if_neg (by decide),if_neg (by decide),if_neg (by decide),if_neg (by decide),if_pos rfl]
 rw[e]
 go_enter Tryz.func81,Tryz.ntmps81
 have hu:=under_any k hk w
 go_wp2_with (first
  | (go_at_call 115;refine hu.mono ?_;rintro e w2 ⟨v2,rfl,hO2,hB2⟩;obtain⟨a2,c2,rfl,hS2,hn2,hc2,_⟩:=hO2.open)
  | (go_at_call 114;refine (rWire_any (Z.underK k) a2 _ c2 w2 rfl hS2 (Z.underK_small k)).mono ?_;rintro e w3 ⟨v3,rfl,hO3,hB3⟩)
  | fail)
 go_ret
 exact⟨v3,rfl,hO3.lower hB2.size,hB2.trans (hB3.mono hB2.size)⟩
set_option maxHeartbeats 1000000 in
theorem seatData_43 (k:Nat) (hk:k<256) (w:World):Calls Tryz.prog 81 #[.int .u16 43,.int .u8 (k:Int)] w fun e w' => ∃ v,e = .returned v/\OwnB w' w.heap.size v (Z.dataK 43 k)/\Below w.heap.size w w':=by
 have e:Z.dataK 43 k = [0,UInt8.ofNat (k % 3),253,2,1,2,3]:=by unfold Z.dataK;rw[if_neg (by decide),if_neg (by decide),if_neg (by decide),if_neg (by decide),if_neg (by decide),if_neg (by decide),if_pos rfl]
 rw[e]
 go_enter Tryz.func81,Tryz.ntmps81
 go_wp2
 go_ret
 exact⟨_,rfl,OwnB.lit w _ _ _ (Nat.le_refl _) (by simp only[vb,List.map_cons,List.map_nil];rw[u8mod k 3 (by decide) (by decide)];rfl) (by simp) 7 rfl,(Below.refl _ w).alloc (Nat.le_refl _) _⟩
set_option maxHeartbeats 1000000 in
theorem seatData_2 (k:Nat) (hk:k<256) (w:World):Calls Tryz.prog 81 #[.int .u16 2,.int .u8 (k:Int)] w fun e w' => ∃ v,e = .returned v/\OwnB w' w.heap.size v (Z.dataK 2 k)/\Below w.heap.size w w':=by
 have e:Z.dataK 2 k=N.wire ([Z.owner 8,Z.owner 1,Z.farN].getD (k % 3) []):=by unfold Z.dataK;rw[if_neg (by decide),if_neg (by decide),if_neg (by decide),if_neg (by decide),if_pos rfl]
 rw[e]
 obtain⟨j,hj⟩ : ∃ j,j=k % 3:=⟨_,rfl⟩
 have hj3:j<3:=by omega
 have hmod:((k:Int) % 3)=(j:Int):=by omega
 have hjb:(j:Int)<3:=by omega
 rw[<- hj]
 obtain⟨nm,hnm⟩ : ∃ nm,nm = [Z.owner 8,Z.owner 1,Z.farN].getD j []:=⟨_,rfl⟩
 have hns:N.Small nm:=by
  rw[hnm]
  rcases (by omega:j=0\/j=1\/j=2) with h | h | h <;> subst h
  ·exact Z.owner_small 8
  ·exact Z.owner_small 1
  ·exact Z.far_small
 rw[<- hnm]
 have h8:=owner_any 8 (by decide) w
 have h1:=fun W=>owner_any 1 (by decide) W
 have H1:=hide h1
 have HNM:=hide hnm
 have HNS:=hide hns
 clear hj h1 hnm hns
 go_enter Tryz.func81,Tryz.ntmps81
 go_wp2_with (first
  | (go_at_call 21;refine h8.mono ?_;rintro e w1 ⟨v1,rfl,hO1,hB1⟩;obtain⟨a1,c1,rfl,hS1,hn1,hc1,_⟩:=hO1.open;clear h8)
  | (go_at_call 21;refine (H1.out w1).mono ?_;rintro e w2 ⟨v2,rfl,hO2,hB2⟩;obtain⟨a2,c2,rfl,hS2,hn2,hc2,_⟩:=hO2.open;obtain⟨W,hW⟩ : ∃ W,W=(w2.alloc (.cells #[.string ⟨#[102,97,114]⟩,.string ⟨#[110,101,116]⟩] 9)).alloc (.cells #[.slice a1 (Z.owner 8).length c1,.slice a2 (Z.owner 1).length c2,.slice (some ⟨w2.heap.size,0,none⟩) 2 2] 28):=⟨_,rfl⟩;have hfar:=SlS.litm w2 Z.farN #[.string ⟨#[102,97,114]⟩,.string ⟨#[110,101,116]⟩] 9 (0,0) rfl;obtain⟨av,nv,cv,_,hsl,hln,hget⟩:=pick3 w2 _ hW j hj3 (hS1.below hB2 (Nat.le_refl _)) hS2 hfar HNM.out;have HW:=hide hW;have hb2W:Below w2.heap.size w2 W:=by rw[hW];exact ((Below.refl _ w2).alloc (Nat.le_refl _) _).alloc (by simp) _)
  | (go_at_call 114;rw[<- hW];refine (rWire_any nm av nv cv W hln hsl HNS.out).mono ?_;rintro e w3 ⟨v3,rfl,hO3,hB3⟩)
  | fail)
 go_ret
 have hz1:=hB1.size
 have hz2:=hB2.size
 have hzW:=hb2W.size
 have hb0W:Below w.heap.size w W:=hB1.trans ((hB2.trans (hb2W.mono hz2)).mono hz1)
 exact⟨v3,rfl,hO3.lower (by omega),hb0W.trans (hB3.mono (by omega))⟩
set_option maxHeartbeats 1000000 in
theorem seatData_6 (k:Nat) (hk:k<256) (w:World):Calls Tryz.prog 81 #[.int .u16 6,.int .u8 (k:Int)] w fun e w' => ∃ v,e = .returned v/\OwnB w' w.heap.size v (Z.dataK 6 k)/\Below w.heap.size w w':=by
 have e:Z.dataK 6 k=D.soaB (Z.soaK k):=by unfold Z.dataK;rw[if_neg (by decide),if_neg (by decide),if_neg (by decide),if_neg (by decide),if_neg (by decide),if_neg (by decide),if_neg (by decide),if_pos rfl]
 rw[e]
 have h1:=owner_any 1 (by decide) w
 have h2:=fun W=>owner_any 2 (by decide) W
 have H2:=hide h2
 have hm1:IntKind.u32.wrap ((k:Int)*16777216)=(((Z.soaK k).a:Nat):Int):=by
  show _=((k*16777216 % 4294967296:Nat):Int)
  rw[IntKind.wrap_u32];omega
 have HSE:Hid (10+(k:Int) % 4*20=(((Z.soaK k).e:Nat):Int)):=by
  show _=((10+k % 4*20:Nat):Int)
  omega
 obtain⟨sa,hsa⟩ : ∃ sa,sa=(Z.soaK k).a:=⟨_,rfl⟩
 rw[<- hsa] at hm1
 have HSA:=hide hsa
 clear h2 hsa
 go_enter Tryz.func81,Tryz.ntmps81
 go_wp2_with (first
  | (go_at_call 21;refine h1.mono ?_;rintro e w1 ⟨v1,rfl,hO1,hB1⟩;obtain⟨a1,c1,rfl,hS1,hn1,hc1,_⟩:=hO1.open;clear h1)
  | (go_at_call 21;refine (H2.out w1).mono ?_;rintro e w2 ⟨v2,rfl,hO2,hB2⟩;obtain⟨a2,c2,rfl,hS2,hn2,hc2,_⟩:=hO2.open)
  | (go_at_call 116;go_loud (rw[HSA.out,HSE.out]);go_loud (refine (sSoaBytes_any (Z.soaK k) a1 a2 _ c1 _ c2 w2 rfl rfl (hS1.below hB2 (Nat.le_refl _)) hS2 (Z.soaK_ok k).1 (Z.soaK_ok k).2.1 (Z.soaK_ok k).2.2.1 (show 1<4294967296 by decide) (show 2<4294967296 by decide) (show 3<4294967296 by decide) (Z.soaK_ok k).2.2.2).mono ?_);rintro e w3 ⟨v3,rfl,hO3,hB3⟩)
  | fail)
 go_ret
 have hz1:=hB1.size
 have hz2:=hB2.size
 have hb02:Below w.heap.size w w2:=hB1.trans (hB2.mono hz1)
 exact⟨v3,rfl,hO3.lower (by omega),hb02.trans (hB3.mono (by omega))⟩
set_option maxHeartbeats 1000000 in
theorem seatData_0 (t k:Nat) (hk:k<256) (hne:t≠1/\t≠28/\t≠15/\t≠16/\t≠2/\t≠5/\t≠43/\t≠6) (w:World):Calls Tryz.prog 81 #[.int .u16 (t:Int),.int .u8 (k:Int)] w fun e w' => ∃ v,e = .returned v/\OwnB w' w.heap.size v (Z.dataK t k)/\Below w.heap.size w w':=by
 obtain⟨k1,k2,k3,k4,k5,k6,k7,k8⟩:=hne
 have e:Z.dataK t k = [UInt8.ofNat k]:=by unfold Z.dataK;rw[if_neg k1,if_neg k2,if_neg k3,if_neg k4,if_neg k5,if_neg k6,if_neg k7,if_neg k8]
 rw[e]
 have g0:((t:Int) == 1)=false:=by simp;omega
 have g1:((t:Int) == 28)=false:=by simp;omega
 have g2:((t:Int) == 15)=false:=by simp;omega
 have g3:((t:Int) == 16)=false:=by simp;omega
 have g4:((t:Int) == 2)=false:=by simp;omega
 have g5:((t:Int) == 5)=false:=by simp;omega
 have g6:((t:Int) == 43)=false:=by simp;omega
 have g7:((t:Int) == 6)=false:=by simp;omega
 clear k1 k2 k3 k4 k5 k6 k7 k8
 go_enter Tryz.func81,Tryz.ntmps81
 go_wp2
 go_ret
 exact⟨_,rfl,OwnB.lit w _ _ _ (Nat.le_refl _) (by simp only[vb,List.map_cons,List.map_nil];rw[u8id k hk]) (by simp) 1 rfl,(Below.refl _ w).alloc (Nat.le_refl _) _⟩
theorem seatData_any (t k:Nat) (hk:k<256) (w:World):Calls Tryz.prog 81 #[.int .u16 (t:Int),.int .u8 (k:Int)] w fun e w' => ∃ v,e = .returned v/\OwnB w' w.heap.size v (Z.dataK t k)/\Below w.heap.size w w':=by
 by_cases e1:t=1
 ·subst e1;exact seatData_1 k hk w
 by_cases e28:t=28
 ·subst e28;exact seatData_28 k hk w
 by_cases e15:t=15
 ·subst e15;exact seatData_15 k hk w
 by_cases e16:t=16
 ·subst e16;exact seatData_16 k hk w
 by_cases e2:t=2
 ·subst e2;exact seatData_2 k hk w
 by_cases e5:t=5
 ·subst e5;exact seatData_5 k hk w
 by_cases e43:t=43
 ·subst e43;exact seatData_43 k hk w
 by_cases e6:t=6
 ·subst e6;exact seatData_6 k hk w
 exact seatData_0 t k hk ⟨e1,e28,e15,e16,e2,e5,e43,e6⟩ w
end Go.Proofs.YtbkegikdmmnkaaaGreat
