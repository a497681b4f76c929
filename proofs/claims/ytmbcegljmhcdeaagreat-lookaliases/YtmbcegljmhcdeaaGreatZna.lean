/- Names, plain: the labels below a path; what a zone's tree says of its names. -/
import Derived.Test.YtmbcegljmhcdeaaGreatZpl2
import Derived.Deep.Cut
import Derived.Deep.RegionWith
import Derived.Deep.RegionHeld3
import Derived.RegionTactic
import Derived.BigRegion
import Derived.Test.YtmbcegljmhcdeaaGreatDat
import Derived.BigQuiet
import Derived.Deep.QuietTactic
import Derived.Test.YtmbcegljmhcdeaaGreatAsG
import Derived.RangeFuncBox
namespace Go.Proofs.YtmbcegljmhcdeaaGreat
open Go.RowKit
set_option maxRecDepth 5000
def PutPost (w:World) (Zb:Nat) (A:List (List UInt8)) (L:List Z.R) (ρ : Nat->Role) (C:List (List UInt8)->Nat->Option Z.St) (K:Nat) (n:List (List UInt8)) (nl t ttl:Nat) (c d:List UInt8) (e:Ending) (w':World):Prop :=
 ∃ (b:Bool) (cd:Nat),e = .returned (.tuple #[.bool b,.int .i64 (cd:Int)])/\((b=false/\Below w.heap.size w w'/\((cd=0/\(Z.got C (path n) t c).isSome/\((C (path n) t).map fun S=>S.ttl).getD 0=ttl)\/(cd=111/\Z.got C (path n) t c=none/\2000<=L.length))) \/
  (b=true/\cd=0 /\ ¬ ((Z.got C (path n) t c).isSome/\((C (path n) t).map fun S=>S.ttl).getD 0=ttl) /\ ¬ (Z.got C (path n) t c=none/\2000<=L.length) /\ ∃ ρ' G',ZAt w' Zb A (Z.put L ⟨path n,t,c,ttl,d⟩) ρ' G' (Z.cput C (path n) t ttl c d) (K+nl+1)/\More w ρ ρ'/\ZM Zb ρ w w'))
set_option maxRecDepth 100000 in
set_option maxHeartbeats 4000000 in
theorem zput_good (w:World) (Zb:Nat) (A:List (List UInt8)) (L:List Z.R) (ρ : Nat->Role) (G:List (List UInt8)->Option Nd) (C:List (List UInt8)->Nat->Option Z.St) (K:Nat) (Zx:ZAt w Zb A L ρ G C K) (hA:Hid (N.Small A)) (n:List (List UInt8)) (na:Option Addr) (nl nc:Nat) (hl:Hid (n.length=nl)) (hnc:nl<=nc) (hs:SlS w na n) (hm:Hid (N.Small n)) (t:Nat) (ttl:Nat) (d:List UInt8) (da:Option Addr) (dc:Nat) (hsd:SlL w da d) (hnd:da=none->dc=0) (hdc:d.length<=dc) (ht:t<65536) (c:List UInt8) (hgood:N.chk n=0) (hwin:N.within n A=true) (hcn:cn t d=some c) (httl:ttl<4294967296) (hnl:nl<=128) (hK:K+nl+2<=1000000) :
 Calls Tryz.prog 44 #[.pointer (some ⟨Zb,0,none⟩),recV na nl nc t 1 ttl da d.length dc] w fun e w'=>PutPost w Zb A L ρ C K n nl t ttl c d e w':=by
 obtain⟨ck,hck⟩ : ∃ ck,N.chk n=ck:=⟨_,rfl⟩
 have hchk : ∀ W,SlS W na n->Calls Tryz.prog 82 #[.slice na nl nc] W fun e w'=>e = .returned (.int .i64 0)/\w'=W:=fun W hW=>by rw[<- hgood];exact check_any n na nl nc W hl hW hm
 have hwith : ∀ (W:World) (aa:Option Addr) (ac:Nat),SlS W na n->SlS W aa A->Calls Tryz.prog 83 #[.slice na nl nc,.slice aa A.length ac] W fun e w'=>e = .returned (.bool true) /\ ∃ m,w'=W.drewN m:=fun W aa ac h1 h2=>by
  rw[<- hwin]
  exact within_any n A na aa nl A.length nc ac W hl rfl h1 h2 (by have:=hm.out.1;have:=hl.out;omega) (by have:=hA.out.1;omega) hnc (Sane.small hm.out) (Sane.small hA.out)
 clear hck ck
 obtain⟨aa,ac,hzr,hsA,hac⟩:=Zx.row
 have ha1:A.length<=1000000:=hA.out.1
 have hn1:nl<=1000000:=by rw[<- hl.out];exact hm.out.1
 obtain⟨w1,hw1⟩ : ∃ w1,w1=w.alloc (.cells #[.slice na nl nc,.int .u16 (t:Int),.int .u16 1,.int .u32 (ttl:Int),.slice da d.length dc] 39):=⟨_,rfl⟩
 have hb1:Below w.heap.size w w1:=by rw[hw1];exact (Below.refl _ w).alloc (Nat.le_refl _) _
 have hR1:RowAt w1 w.heap.size 39 #[.slice na nl nc,.int .u16 (t:Int),.int .u16 1,.int .u32 (ttl:Int),.slice da d.length dc]:=by rw[hw1];exact RowAt.new w _ _
 have hz1:RowAt w1 Zb 94 #[.slice aa A.length ac,ptr (nodeN G []),.int .i64 (L.length:Int)]:=hzr.below hb1 hzr.lt
 have x0:w1.cell? ⟨w.heap.size,0,none⟩=some (.slice na nl nc):=hR1.cell 0
 have x1:w1.cell? ⟨Zb,0,none⟩=some (.slice aa A.length ac):=hz1.cell 0
 have HZ:=hide Zx
 have HW1:=hide hw1
 have HB1:=hide hb1
 have HR1:=hide hR1
 have HZ1:=hide hz1
 have HS:=hide (hs.below hb1 (Nat.le_refl _))
 have HSA:=hide (hsA.below hb1 (Nat.le_refl _))
 have HSD:=hide (hsd.below hb1 (Nat.le_refl _))
 clear Zx hzr hw1 hb1 hR1 hz1 hs hsA hsd
 unfold recV
 go_enter Tryz.func44,Tryz.ntmps44
 go_wp2
 rw[<- HW1.out]
 go_quiet (first
  | (go_at_call 82;exact Calls.quiet_of_same (hchk _ (by exact HS.out.below (below_drewN (Below.refl _ w1) _) (Nat.le_refl _))))
  | (go_at_call 83;exact Calls.quiet_of (hwith _ aa ac (by exact HS.out.below (below_drewN (Below.refl _ w1) _) (Nat.le_refl _)) (by exact HSA.out.below (below_drewN (Below.refl _ w1) _) (Nat.le_refl _))))
  | fail)
 have hbq:Below w1.heap.size w1 (w1.drewN nq):=below_drewN (Below.refl _ w1) _
 have y1:(w1.drewN nq).cell? ⟨w.heap.size,1,none⟩=some (.int .u16 (t:Int)):=HR1.out.cell 1
 have y4:(w1.drewN nq).cell? ⟨w.heap.size,4,none⟩=some (.slice da d.length dc):=HR1.out.cell 4
 have HBQ:=hide hbq
 have HSDq:=hide (HSD.out.below hbq (Nat.le_refl _))
 clear hbq
 go_wp2_with (first
  | (go_at_call 84;refine (Canon_any t d da d.length dc _ rfl (by exact HSDq.out) hdc hnd).mono ?_;rintro e w2 ⟨⟨x,v,ho,rfl,hx⟩ | ⟨ho,rfl⟩,hb2⟩;rotate_left;(· exact absurd (hcn.symm.trans ho) (by simp));(obtain rfl:c=x:=Option.some.inj (hcn.symm.trans ho));obtain⟨ca,cc,rfl,hcT,_,hcc⟩:=OwnB.ty hx;have z2:w2.cell? ⟨w.heap.size,2,none⟩=some (.int .u16 1):=(HR1.out.below (HBQ.out.trans (hb2.mono HBQ.out.size)) HR1.out.lt).cell 2))
 obtain⟨hclen,hd8,hcc0⟩:=cn_len hcn
 have HCL:=hide hclen
 have HCC:=hide hcc0
 clear hclen hcc0
 have hb12:Below w1.heap.size w1 w2:=HBQ.out.trans (hb2.mono HBQ.out.size)
 have hb02:Below w.heap.size w w2:=HB1.out.trans (hb12.mono HB1.out.size)
 have hR2:RowAt w2 w.heap.size 39 #[.slice na nl nc,.int .u16 (t:Int),.int .u16 1,.int .u32 (ttl:Int),.slice da d.length dc]:=HR1.out.below hb12 HR1.out.lt
 have hZ2:RowAt w2 Zb 94 #[.slice aa A.length ac,ptr (nodeN G []),.int .i64 (L.length:Int)]:=HZ1.out.below hb12 HZ1.out.lt
 have hT2:=HZ.out.tree.below_ hb02
 have hs2:=HS.out.below hb12 (Nat.le_refl _)
 have hsd2:=HSD.out.below hb12 (Nat.le_refl _)
 have hfind : ∀ W,Below w2.heap.size w2 W->Calls Tryz.prog 59 #[.pointer (some ⟨Zb,0,none⟩),.slice na nl nc] W fun e w' => ∃ x:Nd,e = .returned (.pointer (some ⟨x.n,0,none⟩))/\Found W w' G C K (path n) x:=fun W hW =>
  find_any W Zb _ _ ρ G C K (hT2.below_ hW) (hZ2.below hW hZ2.lt) n na nl nc hl (hs2.below hW (Nat.le_refl _)) hm
 have y0:w2.drew.cell? ⟨w.heap.size,0,none⟩=some (.slice na nl nc):=hR2.cell 0
 have y1':w2.drew.cell? ⟨w.heap.size,1,none⟩=some (.int .u16 (t:Int)):=hR2.cell 1
 have HR2:=hide hR2
 have HZ2:=hide hZ2
 have HT2:=hide hT2
 have HS2:=hide hs2
 have HSD2:=hide hsd2
 have HCT:=hide hcT
 have HB02:=hide hb02
 have HB12:=hide hb12
 obtain⟨T0,hT0⟩ : ∃ T0:Nat,T0=((C (path n) t).map fun S=>S.ttl).getD 0:=⟨_,rfl⟩
 have HT0:=hide hT0
 have kp : ∀ (W:World) (g:Nat),g<w2.heap.size->Below w2.heap.size w2 W -> ∀ j,W.cell? ⟨g,j,none⟩=w2.cell? ⟨g,j,none⟩:=fun W g hg hW j=>World.cell?_of_block (hW.block g hg)
 have hlt2:w.heap.size<w2.heap.size:=hR2.lt
 clear hT0 hR2 hZ2 hT2 hs2 hsd2 hcT hb02 hb12 hx y1 y4 x0 x1 z2
 have b0:w2.cell? ⟨w.heap.size,0,none⟩=some (.slice na nl nc):=y0
 have b1:w2.cell? ⟨w.heap.size,1,none⟩=some (.int .u16 (t:Int)):=y1'
 have a0:(w2.alloc (.cells #[.int .u32 0,.map none] 102)).cell? ⟨w.heap.size,0,none⟩=some (.slice na nl nc):=(RowAt.alloc HR2.out _).cell 0
 have a1:(w2.alloc (.cells #[.int .u32 0,.map none] 102)).cell? ⟨w.heap.size,1,none⟩=some (.int .u16 (t:Int)):=(RowAt.alloc HR2.out _).cell 1
 go_cut [8] from 39 (fun s8 wc => ∃ (sb:Nat) (mo:Option Nat),s8 = .pointer (some ⟨sb,0,none⟩)/\PB w2 T0 K (Z.got C (path n) t) sb mo wc)
 case first =>
  go_region_with ((go_at_call 59;refine (hfind _ (by first | exact below_drewN (Below.refl _ w2) 1 | exact (below_drewN (Below.refl _ w2) 1).alloc (Nat.le_refl _) _)).mono ?_;rintro e w3 ⟨x,rfl,hF⟩;obtain⟨mo,hmo⟩ : ∃ mo,((C (path n) t).map fun S=>setV S (x.dm t)).getD (.agg #[.int .u32 0,.map none]) = .agg #[.int .u32 (T0:Int),.map mo]:=(by rw[HT0.out];cases C (path n) t;exact⟨none,rfl⟩;exact⟨_,rfl⟩);have hb3:Below w2.heap.size w2 w3:=(by first | exact (below_drewN (Below.refl _ w2) 1).trans hF.bel | exact ((below_drewN (Below.refl _ w2) 1).alloc (Nat.le_refl _) _).trans (hF.bel.mono (by simp)));have hb3z:=(hb3.alloc hb3.size (.cells #[.int .u32 0,.map none] 102));have hlk:=(hF.node.lookup t ht w3 rfl).2;have hlkz:=(hF.node.lookup t ht (w3.alloc (.cells #[.int .u32 0,.map none] 102)) (Below.heap_alloc _ _ _ hF.node.sets.lt)).2;rw[hmo] at hlk hlkz;have q0:w3.cell? ⟨x.n,0,none⟩=some (.map (some x.s)):=hF.node.row.cell 0;have q0z:(w3.alloc (.cells #[.int .u32 0,.map none] 102)).cell? ⟨x.n,0,none⟩=some (.map (some x.s)):=(hF.node.row.alloc _).cell 0;have r0:w3.cell? ⟨w.heap.size,0,none⟩=some (.slice na nl nc):=(kp w3 _ hlt2 hb3 0).trans y0;have r1:w3.cell? ⟨w.heap.size,1,none⟩=some (.int .u16 (t:Int)):=(kp w3 _ hlt2 hb3 1).trans y1';have r0z:(w3.alloc (.cells #[.int .u32 0,.map none] 102)).cell? ⟨w.heap.size,0,none⟩=some (.slice na nl nc):=(kp _ _ hlt2 hb3z 0).trans y0;have r1z:(w3.alloc (.cells #[.int .u32 0,.map none] 102)).cell? ⟨w.heap.size,1,none⟩=some (.int .u16 (t:Int)):=(kp _ _ hlt2 hb3z 1).trans y1';(try (have hbA:Below (w2.alloc (.cells #[.int .u32 0,.map none] 102)).heap.size (w2.alloc (.cells #[.int .u32 0,.map none] 102)).drew w3:=(by exact hF.bel);have RN:Hid (RowAt w3 w2.heap.size 102 #[.int .u32 0,.map none]):=RowAt.below (w:=(w2.alloc (.cells #[.int .u32 0,.map none] 102)).drew) (RowAt.new w2 102 #[.int .u32 0,.map none]) hbA (by simp);have n0:w3.cell? ⟨w2.heap.size,0,none⟩=some (.int .u32 0):=RN.out.cell 0;have n1:=RN.out.frozen 0;have n2:w3.cell? ⟨w2.heap.size,1,none⟩=some (.map none):=RN.out.cell 1;have n3:=RN.out.frozen 1));have HF:=hide hF;have HB3:=hide hb3;have HMO:=hide hmo;clear hF hb3 hb3z hmo))
  all_goals go_wp2_with fail
  all_goals go_meet
  all_goals (first
   | exact⟨w3.heap.size,mo,rfl,HB3.out.alloc HB3.out.size _,RowAt.new w3 _ _,HB3.out.size,(HF.out.dm t T0 mo HMO.out).bel ((Below.refl _ w3).alloc (Nat.le_refl _) _)⟩
   | exact⟨w2.heap.size,mo,rfl,(HB3.out.setCell (p:=⟨w2.heap.size,0,none⟩) (Nat.le_refl _) _).setCell (p:=⟨w2.heap.size,1,none⟩) (Nat.le_refl _) _,(RN.out.set 0 _).set 1 _,Nat.le_refl _,((HF.out.dm t T0 mo HMO.out).box RN.out 0 _).box (RN.out.set 0 (.int .u32 (T0:Int))) 1 _⟩
   | skip)
 case rest =>
  obtain⟨sb,mo,rfl,hPB⟩:=hcut
  obtain⟨wd,hwd⟩ : ∃ wd,wd=wc.alloc (.cells #[.int .u32 (T0:Int),.map mo] 102):=⟨_,rfl⟩
  have hb2d:Below w2.heap.size w2 wd:=by rw[hwd];exact hPB.bel.alloc hPB.bel.size _
  have hb0d:Below w.heap.size w wd:=HB02.out.trans (hb2d.mono HB02.out.size)
  have k0:wc.cell? ⟨sb,0,none⟩=some (.int .u32 (T0:Int)):=hPB.box.cell 0
  have k1:wc.cell? ⟨sb,1,none⟩=some (.map mo):=hPB.box.cell 1
  have hbxd:RowAt wd sb 102 #[.int .u32 (T0:Int),.map mo]:=by rw[hwd];exact hPB.box.alloc _
  have k0d:wd.cell? ⟨sb,0,none⟩=some (.int .u32 (T0:Int)):=hbxd.cell 0
  have hRd:=HR2.out.below hb2d HR2.out.lt
  have hZd:=HZ2.out.below hb2d HZ2.out.lt
  have r3d:wd.cell? ⟨w.heap.size,3,none⟩=some (.int .u32 (ttl:Int)):=hRd.cell 3
  have q2d:wd.cell? ⟨Zb,2,none⟩=some (.int .i64 (L.length:Int)):=hZd.cell 2
  have f2d:wd.frozen? ⟨Zb,2,none⟩=false:=hZd.frozen 2
  have hscc:=(HCT.out.kb (KB.of_below hPB.bel)).1
  have hhas:=has_any wc (T0:Int) mo (Z.got C (path n) t) K hPB.dm c ca c.length cc rfl hscc (by have:=HCL.out;omega)
  rw[<- hwd] at hhas
  have HPB:=hide hPB
  have HWD:=hide hwd
  have HB2D:=hide hb2d
  have HB0D:=hide hb0d
  have HRD:=hide hRd
  have HZD:=hide hZd
  clear hPB hwd hb2d hb0d hRd hZd hscc hbxd a0 a1 b0 b1 y0 y1'
  cases hgot:Z.got C (path n) t c with
  | some d0 =>
   rw[hgot] at hhas
   by_cases htt:T0=ttl
   ·have htb:((T0:Int) == (ttl:Int))=true:=by simp[htt]
    have HTT:=hide htt
    clear htt
    go_wp2_with (go_at_call 85;refine hhas.mono ?_;rintro e wq ⟨he,hwq⟩;have he:e = .returned (.bool true):=he;rw[he,hwq];clear he hwq wq)
    go_ret2
    unfold PutPost
    exact⟨false,0,rfl,Or.inl ⟨rfl,HB0D.out,Or.inl ⟨rfl,by rw[hgot];rfl,by rw[<- HT0.out];exact HTT.out⟩⟩⟩
   ·have htb:((T0:Int) == (ttl:Int))=false:=by simp;omega
    go_wp2_with (go_at_call 85;refine hhas.mono ?_;rintro e wq ⟨he,hwq⟩;have he:e = .returned (.bool true):=he;rw[he,hwq];clear he hwq wq)
    have hmE:ZM Zb ρ w wd:=ZM.of_below HB0D.out
    obtain⟨we,hwe⟩ : ∃ we,we=wd:=⟨_,rfl⟩
    rw[<- hwe] at hmE
    have hRe:RowAt we w.heap.size 39 #[.slice na nl nc,.int .u16 (t:Int),.int .u16 1,.int .u32 (ttl:Int),.slice da d.length dc]:=by rw[hwe];exact HRD.out
    have hZe:RowAt we Zb 94 #[.slice aa A.length ac,ptr (nodeN G []),.int .i64 ((L.length:Nat):Int)]:=by rw[hwe];exact HZD.out
    have hTd:=HZ.out.tree.below_ HB0D.out
    have hTe:TreeAt we ρ G C K:=by rw[hwe];exact hTd
    have hsn:SlS we na n:=by rw[hwe];exact HS2.out.below HB2D.out (Nat.le_refl _)
    have hsd':SlL we da d:=by rw[hwe];exact HSD2.out.below HB2D.out (Nat.le_refl _)
    have hsc':SlL we ca c:=by rw[hwe];exact (HCT.out.kb (KB.of_below HB2D.out)).1
    have hsa':SlS we aa A:=by rw[hwe];exact ((HSA.out.below HB12.out (Nat.le_refl _)).below HB2D.out (Nat.le_refl _))
    have hgr:=grow_any we.drew Zb _ _ ρ G C K (hTe.below_ (below_drewN (Below.refl _ we) 1)) hZe n na nl nc hl (hsn.below (below_drewN (Below.refl _ we) 1) (Nat.le_refl _)) hm (by omega)
    have e0:we.drew.cell? ⟨w.heap.size,0,none⟩=some (.slice na nl nc):=hRe.cell 0
    have e1:we.drew.cell? ⟨w.heap.size,1,none⟩=some (.int .u16 (t:Int)):=hRe.cell 1
    have e2:we.drew.cell? ⟨w.heap.size,2,none⟩=some (.int .u16 1):=hRe.cell 2
    have e3:we.drew.cell? ⟨w.heap.size,3,none⟩=some (.int .u32 (ttl:Int)):=hRe.cell 3
    have e4:we.drew.cell? ⟨w.heap.size,4,none⟩=some (.slice da d.length dc):=hRe.cell 4
    have HRE:=hide hRe
    have HZE:=hide hZe
    have HTE:=hide hTe
    have HSD3:=hide hsd'
    have HSC3:=hide hsc'
    have HSA3:=hide hsa'
    have HME:=hide hmE
    have hrr : ρ w.heap.size = .none:=Classical.byContradiction fun h=>by have:=(HZ.out.tree.kind _ h).lt;omega
    rw[<- hwe]
    clear hwe hRe hZe hTe hTd hsn hsd' hsc' hsa' hmE k0 k0d r3d q2d f2d k1 hhas
    go_region_held3 (fun w'=>w'.cell? ⟨w.heap.size,0,none⟩=some (.slice na nl nc)/\w'.cell? ⟨w.heap.size,1,none⟩=some (.int .u16 (t:Int))/\w'.cell? ⟨w.heap.size,2,none⟩=some (.int .u16 1)/\w'.cell? ⟨w.heap.size,3,none⟩=some (.int .u32 (ttl:Int))/\w'.cell? ⟨w.heap.size,4,none⟩=some (.slice da d.length dc)) (first | exact⟨e0,e1,e2,e3,e4⟩ | exact⟨g0,g1,g2,g3,g4⟩ | exact⟨h0',h1',h2',h3',h4'⟩ | fail) (first | (go_at_call 86;refine hgr.mono ?_;rintro e w8 ⟨v,rfl, ρ1,G1,x1,rfl,hx1,hT1,hg1,hall⟩;have hR8:RowAt w8 w.heap.size 39 #[.slice na nl nc,.int .u16 (t:Int),.int .u16 1,.int .u32 (ttl:Int),.slice da d.length dc]:=(hg1.mv.block _ HRE.out.lt hrr).trans HRE.out;have g0:w8.cell? ⟨w.heap.size,0,none⟩=some (.slice na nl nc):=hR8.cell 0;have g1:w8.cell? ⟨w.heap.size,1,none⟩=some (.int .u16 (t:Int)):=hR8.cell 1;have g2:w8.cell? ⟨w.heap.size,2,none⟩=some (.int .u16 1):=hR8.cell 2;have g3:w8.cell? ⟨w.heap.size,3,none⟩=some (.int .u32 (ttl:Int)):=hR8.cell 3;have g4:w8.cell? ⟨w.heap.size,4,none⟩=some (.slice da d.length dc):=hR8.cell 4;have hpu:=nput_any w8 hT1 (by omega) hx1 t ht ttl 1 c d na nl nc da dc ca cc (hg1.mv.slL (HTE.out.below_ (below_drewN (Below.refl _ we) 1)).kind (HSD3.out.below (below_drewN (Below.refl _ we) 1) (Nat.le_refl _))) hnd hd8 (hg1.mv.slL (HTE.out.below_ (below_drewN (Below.refl _ we) 1)).kind (HSC3.out.below (below_drewN (Below.refl _ we) 1) (Nat.le_refl _))) (by have:=HCL.out;omega);have HR8:=hide hR8;have HX1:=hide hx1;have HG1:=hide hg1;have HALL:=hide hall;clear hR8 hx1 hT1 hg1 hall) | (go_at_call 87;unfold recV at hpu;refine hpu.mono ?_;rintro e w9 ⟨rfl, ρ2,x2,hT2,_,_,_,hg2⟩;have hrr1 : ρ1 w.heap.size = .none:=(by rw[HG1.out.more _ HRE.out.lt];exact hrr);have hR9:RowAt w9 w.heap.size 39 #[.slice na nl nc,.int .u16 (t:Int),.int .u16 1,.int .u32 (ttl:Int),.slice da d.length dc]:=(hg2.mv.block _ HR8.out.lt hrr1).trans HR8.out;have h0':w9.cell? ⟨w.heap.size,0,none⟩=some (.slice na nl nc):=hR9.cell 0;have h1':w9.cell? ⟨w.heap.size,1,none⟩=some (.int .u16 (t:Int)):=hR9.cell 1;have h2':w9.cell? ⟨w.heap.size,2,none⟩=some (.int .u16 1):=hR9.cell 2;have h3':w9.cell? ⟨w.heap.size,3,none⟩=some (.int .u32 (ttl:Int)):=hR9.cell 3;have h4':w9.cell? ⟨w.heap.size,4,none⟩=some (.slice da d.length dc):=hR9.cell 4;have HT2':=hide hT2;have HG2:=hide hg2;clear hT2 hg2) | fail)
    go_wp2
    go_ret2
    unfold PutPost
    have hth:=HZ.out.of.got_there ⟨path n,t,c,ttl,d⟩
    have hlen:=Z.put_len L ⟨path n,t,c,ttl,d⟩
    have hth1:Z.there L ⟨path n,t,c,ttl,d⟩=true:=by rw[<- hth];show (Z.got C (path n) t c).isSome=true;rw[hgot];rfl
    rw[if_pos hth1] at hlen
    have hfin:=HZ.out.put ⟨path n,t,c,ttl,d⟩ (path_low n) ⟨ht,httl,hcn,hd8,by show (path n).length<=128;rw[path_len,hl.out];exact hnl⟩ (by rw[hlen];have:=HZ.out.num;omega) (HME.out.trans (ZM.of_below (ρ := ρ) (below_drewN (Below.refl _ we) 1)) (More.refl _ _)) (HTE.out.below_ (below_drewN (Below.refl _ we) 1)).kind (by rw[hlen];exact HZE.out) (HSA3.out.below (below_drewN (Below.refl _ we) 1) (Nat.le_refl _)) hac HG1.out HX1.out HALL.out HT2'.out HG2.out
    exact⟨true,0,rfl,Or.inr ⟨rfl,rfl,(fun h=>htt (HT0.out.trans h.2)),(fun h=>by have:=h.1;rw[hgot] at this;cases this), ρ2,_,hfin⟩⟩
  | none =>
   rw[hgot] at hhas
   by_cases hfull:2000<=L.length
   ·have hfb:(2000:Int)<=(L.length:Int):=by omega
    go_wp2_with (go_at_call 85;refine hhas.mono ?_;rintro e wq ⟨he,hwq⟩;have he:e = .returned (.bool false):=he;rw[he,hwq];clear he hwq wq)
    go_ret2
    unfold PutPost
    exact⟨false,111,rfl,Or.inl ⟨rfl,HB0D.out,Or.inr ⟨rfl,hgot,hfull⟩⟩⟩
   ·have hfb : ¬ (2000:Int)<=(L.length:Int):=by omega
    have hwl:IntKind.i64.wrap ((L.length:Int)+1)=((L.length+1:Nat):Int):=by rw[IntKind.wrap_i64];omega
    go_wp2_with (go_at_call 85;refine hhas.mono ?_;rintro e wq ⟨he,hwq⟩;have he:e = .returned (.bool false):=he;rw[he,hwq];clear he hwq wq)
    have hmE:ZM Zb ρ w (wd.setCell ⟨Zb,2,none⟩ (.int .i64 ((L.length:Int)+1))):=(ZM.of_below HB0D.out).trans (ZM.count HZD.out) (More.refl _ _)
    obtain⟨we,hwe⟩ : ∃ we,we=(wd.setCell ⟨Zb,2,none⟩ (.int .i64 ((L.length:Int)+1))):=⟨_,rfl⟩
    rw[<- hwe] at hmE
    have hRe:RowAt we w.heap.size 39 #[.slice na nl nc,.int .u16 (t:Int),.int .u16 1,.int .u32 (ttl:Int),.slice da d.length dc]:=by rw[hwe];exact HRD.out.other _ _ (by have:=HZ.out.lt;show w.heap.size≠Zb;omega)
    have hZe:RowAt we Zb 94 #[.slice aa A.length ac,ptr (nodeN G []),.int .i64 (((L.length+1):Nat):Int)]:=by rw[hwe];exact HZD.out.set 2 _
    have hTd:=HZ.out.tree.below_ HB0D.out
    have hTe:TreeAt we ρ G C K:=by rw[hwe];exact hTd.keep (fun i hi=>heap_setCell_other _ _ _ _ (fun e=>hi (by rw[e];exact HZ.out.zr))) (fun _ _ hs=>slL_zm (ρ := ρ) (ZM.count HZD.out) hTd.kind HZD.out hs)
    have hsn:SlS we na n:=by rw[hwe];exact slS_zm (ρ := ρ) (ZM.count HZD.out) hTd.kind HZD.out (HS2.out.below HB2D.out (Nat.le_refl _))
    have hsd':SlL we da d:=by rw[hwe];exact slL_zm (ρ := ρ) (ZM.count HZD.out) hTd.kind HZD.out (HSD2.out.below HB2D.out (Nat.le_refl _))
    have hsc':SlL we ca c:=by rw[hwe];exact slL_zm (ρ := ρ) (ZM.count HZD.out) hTd.kind HZD.out (HCT.out.kb (KB.of_below HB2D.out)).1
    have hsa':SlS we aa A:=by rw[hwe];exact slS_zm (ρ := ρ) (ZM.count HZD.out) hTd.kind HZD.out ((HSA.out.below HB12.out (Nat.le_refl _)).below HB2D.out (Nat.le_refl _))
    have hgr:=grow_any we.drew Zb _ _ ρ G C K (hTe.below_ (below_drewN (Below.refl _ we) 1)) hZe n na nl nc hl (hsn.below (below_drewN (Below.refl _ we) 1) (Nat.le_refl _)) hm (by omega)
    have e0:we.drew.cell? ⟨w.heap.size,0,none⟩=some (.slice na nl nc):=hRe.cell 0
    have e1:we.drew.cell? ⟨w.heap.size,1,none⟩=some (.int .u16 (t:Int)):=hRe.cell 1
    have e2:we.drew.cell? ⟨w.heap.size,2,none⟩=some (.int .u16 1):=hRe.cell 2
    have e3:we.drew.cell? ⟨w.heap.size,3,none⟩=some (.int .u32 (ttl:Int)):=hRe.cell 3
    have e4:we.drew.cell? ⟨w.heap.size,4,none⟩=some (.slice da d.length dc):=hRe.cell 4
    have HRE:=hide hRe
    have HZE:=hide hZe
    have HTE:=hide hTe
    have HSD3:=hide hsd'
    have HSC3:=hide hsc'
    have HSA3:=hide hsa'
    have HME:=hide hmE
    have hrr : ρ w.heap.size = .none:=Classical.byContradiction fun h=>by have:=(HZ.out.tree.kind _ h).lt;omega
    rw[<- hwe]
    clear hwe hRe hZe hTe hTd hsn hsd' hsc' hsa' hmE k0 k0d r3d q2d f2d k1 hhas
    go_region_held3 (fun w'=>w'.cell? ⟨w.heap.size,0,none⟩=some (.slice na nl nc)/\w'.cell? ⟨w.heap.size,1,none⟩=some (.int .u16 (t:Int))/\w'.cell? ⟨w.heap.size,2,none⟩=some (.int .u16 1)/\w'.cell? ⟨w.heap.size,3,none⟩=some (.int .u32 (ttl:Int))/\w'.cell? ⟨w.heap.size,4,none⟩=some (.slice da d.length dc)) (first | exact⟨e0,e1,e2,e3,e4⟩ | exact⟨g0,g1,g2,g3,g4⟩ | exact⟨h0',h1',h2',h3',h4'⟩ | fail) (first | (go_at_call 86;refine hgr.mono ?_;rintro e w8 ⟨v,rfl, ρ1,G1,x1,rfl,hx1,hT1,hg1,hall⟩;have hR8:RowAt w8 w.heap.size 39 #[.slice na nl nc,.int .u16 (t:Int),.int .u16 1,.int .u32 (ttl:Int),.slice da d.length dc]:=(hg1.mv.block _ HRE.out.lt hrr).trans HRE.out;have g0:w8.cell? ⟨w.heap.size,0,none⟩=some (.slice na nl nc):=hR8.cell 0;have g1:w8.cell? ⟨w.heap.size,1,none⟩=some (.int .u16 (t:Int)):=hR8.cell 1;have g2:w8.cell? ⟨w.heap.size,2,none⟩=some (.int .u16 1):=hR8.cell 2;have g3:w8.cell? ⟨w.heap.size,3,none⟩=some (.int .u32 (ttl:Int)):=hR8.cell 3;have g4:w8.cell? ⟨w.heap.size,4,none⟩=some (.slice da d.length dc):=hR8.cell 4;have hpu:=nput_any w8 hT1 (by omega) hx1 t ht ttl 1 c d na nl nc da dc ca cc (hg1.mv.slL (HTE.out.below_ (below_drewN (Below.refl _ we) 1)).kind (HSD3.out.below (below_drewN (Below.refl _ we) 1) (Nat.le_refl _))) hnd hd8 (hg1.mv.slL (HTE.out.below_ (below_drewN (Below.refl _ we) 1)).kind (HSC3.out.below (below_drewN (Below.refl _ we) 1) (Nat.le_refl _))) (by have:=HCL.out;omega);have HR8:=hide hR8;have HX1:=hide hx1;have HG1:=hide hg1;have HALL:=hide hall;clear hR8 hx1 hT1 hg1 hall) | (go_at_call 87;unfold recV at hpu;refine hpu.mono ?_;rintro e w9 ⟨rfl, ρ2,x2,hT2,_,_,_,hg2⟩;have hrr1 : ρ1 w.heap.size = .none:=(by rw[HG1.out.more _ HRE.out.lt];exact hrr);have hR9:RowAt w9 w.heap.size 39 #[.slice na nl nc,.int .u16 (t:Int),.int .u16 1,.int .u32 (ttl:Int),.slice da d.length dc]:=(hg2.mv.block _ HR8.out.lt hrr1).trans HR8.out;have h0':w9.cell? ⟨w.heap.size,0,none⟩=some (.slice na nl nc):=hR9.cell 0;have h1':w9.cell? ⟨w.heap.size,1,none⟩=some (.int .u16 (t:Int)):=hR9.cell 1;have h2':w9.cell? ⟨w.heap.size,2,none⟩=some (.int .u16 1):=hR9.cell 2;have h3':w9.cell? ⟨w.heap.size,3,none⟩=some (.int .u32 (ttl:Int)):=hR9.cell 3;have h4':w9.cell? ⟨w.heap.size,4,none⟩=some (.slice da d.length dc):=hR9.cell 4;have HT2':=hide hT2;have HG2:=hide hg2;clear hT2 hg2) | fail)
    go_wp2
    go_ret2
    unfold PutPost
    have hth:=HZ.out.of.got_there ⟨path n,t,c,ttl,d⟩
    have hlen:=Z.put_len L ⟨path n,t,c,ttl,d⟩
    have hth1 : ¬ Z.there L ⟨path n,t,c,ttl,d⟩=true:=by rw[<- hth];show ¬ (Z.got C (path n) t c).isSome=true;rw[hgot];simp
    rw[if_neg hth1] at hlen
    have hfin:=HZ.out.put ⟨path n,t,c,ttl,d⟩ (path_low n) ⟨ht,httl,hcn,hd8,by show (path n).length<=128;rw[path_len,hl.out];exact hnl⟩ (by rw[hlen];have:=HZ.out.num;omega) (HME.out.trans (ZM.of_below (ρ := ρ) (below_drewN (Below.refl _ we) 1)) (More.refl _ _)) (HTE.out.below_ (below_drewN (Below.refl _ we) 1)).kind (by rw[hlen];exact HZE.out) (HSA3.out.below (below_drewN (Below.refl _ we) 1) (Nat.le_refl _)) hac HG1.out HX1.out HALL.out HT2'.out HG2.out
    exact⟨true,0,rfl,Or.inr ⟨rfl,rfl,(fun h=>by have:=h.1;rw[hgot] at this;cases this),(fun h=>hfull h.2), ρ2,_,hfin⟩⟩
set_option maxRecDepth 5000 in
theorem empty_node (w:World) {G:List (List UInt8)->Option Nd} {C:List (List UInt8)->Nat->Option Z.St} {K:Nat} {p:List (List UInt8)} {x:Nd} (h:NodeIs w G C K p x) (hc : ∀ t S,C p t=some S->t<65536) :
 Calls Tryz.prog 65 #[.pointer (some ⟨x.n,0,none⟩)] w fun e w' => ∃ r:Bool,e = .returned (.bool r)/\w'=w/\(r=true↔(∀ t,C p t=none) /\ ∀ l,G (p ++ [l])=none):=by
 refine (empty_any w x.n x.s x.b K _ _ h.row h.sets h.below).mono ?_
 rintro e w' ⟨r,rfl,rfl,hr⟩
 refine⟨r,rfl,rfl,hr.trans ⟨fun ⟨h1,h2⟩=>⟨fun t=>?_,fun l=>?_⟩,fun ⟨h1,h2⟩=>⟨fun k=>?_,fun k=>?_⟩⟩⟩
 ·cases hC:C p t with
  | none=>rfl
  | some S =>
   have:=h1 (.int .u16 (t:Int))
   rw[fU_at _ t (hc t S hC),hC] at this;cases this
 ·have:=h2 (.string l)
  cases hg:G (p ++ [l]) with
  | none=>rfl
  | some y =>
   have this:(G (p ++ [l])).map (fun y=>ptr y.n)=none:=this
   rw[hg] at this;cases this
 ·have:(fun t=>(C p t).map fun S=>setV S (x.dm t))=fun _=>none:=funext fun t=>by rw[h1 t];rfl
  rw[this];exact fU_none k
 ·have:(fun l=>(G (p ++ [l])).map fun y=>ptr y.n)=fun _=>none:=funext fun l=>by rw[h2 l];rfl
  rw[this];exact fS_none k
end Go.Proofs.YtmbcegljmhcdeaaGreat
namespace Go.Proofs.YtmbcegljmhcdeaaGreat
set_option maxRecDepth 5000
open Go.RowKit
theorem TreeAt.new {w:World} {n s b:Nat} (hn:RowAt w n 107 #[.map (some s),.map (some b)]) (hs:MapU w s (fun _=>none) 0) (hb:MapS w b (fun _=>none) 0) (d1:n≠s) (d2:n≠b) (d3:s≠b) :
 TreeAt w (role3 (fun _ => .none) [] ⟨n,s,b,fun _=>0⟩) (gput (fun _=>none) [] (some ⟨n,s,b,fun _=>0⟩)) (fun _ _=>none) 0:=by
 have hg : ∀ q x,gput (fun _=>none) [] (some (⟨n,s,b,fun _=>0⟩:Nd)) q=some x->q = []/\x=(⟨n,s,b,fun _=>0⟩:Nd):=fun q x h=>by
  by_cases e:q = []
  ·rw[e,gput_same] at h;injection h with h;exact⟨e,h.symm⟩
  ·rw[gput_other _ e] at h;cases h
 refine⟨by rw[gput_same];rfl,fun p l h=>?_,fun p x hx=>?_,fun p t S h=>(by cases h),fun p x hx=>?_,fun p x hx=>?_,fun p x hx=>?_,fun p x t S _ h=>(by cases h),fun i hi=>?_⟩
 ·rw[gput_other _ (by simp)] at h;cases h
 ·obtain⟨rfl,rfl⟩:=hg p x hx
  refine⟨hn,MapU.ext hs fun t _=>rfl,MapS.ext hb fun l=>(by rw[gput_other _ (by simp)];rfl),fun t S h=>(by cases h)⟩
 ·obtain⟨rfl,rfl⟩:=hg p x hx
  unfold role3;rw[if_pos rfl]
 ·obtain⟨rfl,rfl⟩:=hg p x hx
  unfold role3;rw[if_neg (fun e=>d1 e.symm),if_pos rfl]
 ·obtain⟨rfl,rfl⟩:=hg p x hx
  unfold role3;rw[if_neg (fun e=>d2 e.symm),if_neg (fun e=>d3 e.symm),if_pos rfl]
 ·unfold role3 at hi
  by_cases e1:i=n
  ·rw[e1];exact Or.inr ⟨_,_,hn⟩
  ·by_cases e2:i=s
   ·rw[e2];obtain⟨es,k,h⟩:=hs.obj;exact Or.inl ⟨es,k,h⟩
   ·by_cases e3:i=b
    ·rw[e3];obtain⟨es,k,h⟩:=hb.obj;exact Or.inl ⟨es,k,h⟩
    ·exact absurd (by show (if i=n then Role.node [] else if i=s then .sets [] else if i=b then .below [] else .none) = .none;rw[if_neg e1,if_neg e2,if_neg e3]) hi
set_option maxHeartbeats 1000000 in
theorem znew_any (w:World) (n:List (List UInt8)) (ao:Option Addr) (len cap:Nat) (hl:Hid (n.length=len)) (hs:SlS w ao n) (hm:Hid (N.Small n)) :
 Calls Tryz.prog 12 #[.slice ao len cap] w fun e w' => ∃ Zb ρ G,e = .returned (.pointer (some ⟨Zb,0,none⟩))/\w.heap.size<=Zb/\ZAt w' Zb (N.lowN n) [] ρ G (fun _ _=>none) 0/\(∀ i,i<w.heap.size -> ρ i = .none)/\Below w.heap.size w w':=by
 have HS:=hide hs
 clear hs
 go_enter Tryz.func12,Tryz.ntmps12
 go_wp2_with (first
  | (go_at_call 48;refine (lower_any n ao len cap _ hl HS.out hm).mono ?_;rintro e w1 ⟨v1,rfl,hv1,hb1⟩;obtain⟨a1,c1,rfl,hs1,_,hc1⟩:=hv1.ty)
  | (go_at_call 49;refine (newNode_any _).mono ?_;rintro e w2 ⟨rfl,hw2⟩;unfold ptr))
 go_ret
 have hz1:=hb1.size
 obtain⟨w3,hw3⟩ : ∃ w3,w3=((w1.alloc (.map #[] 0)).alloc (.map #[] 0)).alloc (.cells #[.map (some w1.heap.size),.map (some (w1.heap.size+1))] 107):=⟨_,rfl⟩
 have hz3:w3.heap.size=w1.heap.size+3:=by rw[hw3];simp
 have hb3:Below w1.heap.size w1 w3:=by rw[hw3];exact (((Below.refl _ w1).alloc (Nat.le_refl _) _).alloc (by simp) _).alloc (by simp;omega) _
 have hn3:RowAt w3 (w1.heap.size+2) 107 #[.map (some w1.heap.size),.map (some (w1.heap.size+1))]:=by
  rw[hw3]
  have:=RowAt.new ((w1.alloc (.map #[] 0)).alloc (.map #[] 0)) 107 #[.map (some w1.heap.size),.map (some (w1.heap.size+1))]
  simpa using this
 have hs3:MapU w3 w1.heap.size (fun _=>none) 0:=by
  rw[hw3]
  refine (MapU.made w1 0).heap ?_
  rw[Below.heap_alloc _ _ _ (by simp;omega),Below.heap_alloc _ _ _ (by simp)]
 have hbm3:MapS w3 (w1.heap.size+1) (fun _=>none) 0:=by
  rw[hw3]
  have:=MapS.made (w1.alloc (.map #[] 0)) 0
  rw[World.size_alloc] at this
  exact this.heap (Below.heap_alloc _ _ _ (by simp))
 rw[<- hw3,show w1.heap.size+1+1+1=w3.heap.size from hz3.symm]
 have hal : ∀ o,Below w3.heap.size w3 (w3.alloc o):=fun o=>(Below.refl _ w3).alloc (Nat.le_refl _) o
 have T:=TreeAt.new hn3 hs3 hbm3 (by omega) (by omega) (by omega)
 refine⟨w3.heap.size,role3 (fun _ => .none) [] ⟨w1.heap.size+2,w1.heap.size,w1.heap.size+1,fun _=>0⟩,gput (fun _=>none) [] (some ⟨w1.heap.size+2,w1.heap.size,w1.heap.size+1,fun _=>0⟩),rfl,by omega,⟨⟨a1,c1,?_,(hs1.1.below hb3 (Nat.le_refl _)).below (hal _) (Nat.le_refl _),hc1⟩,T.below_ (hal _),Z.Of.nil,List.Pairwise.nil,fun _ h=>(by cases h),fun p hp=>?_,by simp,fun _ h=>(by cases h),?_⟩,fun i hi=>?_,?_⟩
 ·have:=RowAt.new w3 94 #[.slice a1 (N.lowN n).length c1,.pointer (some ⟨w1.heap.size+2,0,none⟩),.int .i64 0]
  exact this
 ·left
  by_cases e:p = []
  ·exact e
  ·rw[gput_other _ e] at hp;cases hp
 ·show role3 _ _ _ w3.heap.size=_
  unfold role3
  rw[if_neg (by show w3.heap.size≠w1.heap.size+2;omega),if_neg (by show w3.heap.size≠w1.heap.size;omega),if_neg (by show w3.heap.size≠w1.heap.size+1;omega)]
 ·unfold role3
  rw[if_neg (by show i≠w1.heap.size+2;omega),if_neg (by show i≠w1.heap.size;omega),if_neg (by show i≠w1.heap.size+1;omega)]
 ·exact (hb1.trans (hb3.mono hz1)).alloc (by omega) _
theorem ZAt.has_iff {w:World} {Zb:Nat} {A:List (List UInt8)} {L:List Z.R} {ρ : Nat->Role} {G:List (List UInt8)->Option Nd} {C:List (List UInt8)->Nat->Option Z.St} {K:Nat} (Zx:ZAt w Zb A L ρ G C K) (p:List (List UInt8)):Z.has L p=true ↔ ¬ ((∀ t,C p t=none) /\ ∀ l,G (p ++ [l])=none):=by
 rw[Z.has_iff]
 constructor
 ·rintro⟨x,hx,r,hr⟩ ⟨h1,h2⟩
  obtain⟨S,hS⟩:=Zx.of.hasS hx
  cases r with
  | nil=>rw[List.append_nil] at hr;rw[<- hr,h1] at hS;cases hS
  | cons l r =>
   have h3:=(Zx.tree.cov _ _ S hS).1
   rw[<- hr] at h3
   have h4:=Zx.tree.pre r (p ++ [l]) (by simpa using h3)
   rw[h2 l] at h4;cases h4
 ·intro h
  refine Classical.byContradiction fun hno=>h ⟨fun t=>?_,fun l=>?_⟩
  ·cases hC:C p t with
   | none=>rfl
   | some S =>
    obtain⟨x,hx,e,_⟩:=Zx.of.ex p t S hC
    exact absurd ⟨x,hx,by rw[e];exact List.prefix_refl _⟩ hno
  ·cases hg:G (p ++ [l]) with
   | none=>rfl
   | some y =>
    rcases Zx.cov _ (by rw[hg];rfl) with e | ⟨x,hx,e⟩
    ·simp at e
    ·exact absurd ⟨x,hx,(List.prefix_append _ _).trans e⟩ hno
theorem ZAt.find {w:World} {Zb:Nat} {A:List (List UInt8)} {L:List Z.R} {ρ : Nat->Role} {G:List (List UInt8)->Option Nd} {C:List (List UInt8)->Nat->Option Z.St} {K:Nat} (Zx:ZAt w Zb A L ρ G C K) (n:List (List UInt8)) (ao:Option Addr) (len cap:Nat) (hl:Hid (n.length=len)) (hs:SlS w ao n) (hm:Hid (N.Small n)) :
 Calls Tryz.prog 59 #[.pointer (some ⟨Zb,0,none⟩),.slice ao len cap] w fun e w' => ∃ x:Nd,e = .returned (.pointer (some ⟨x.n,0,none⟩))/\Found w w' G C K (path n) x:=by
 obtain⟨aa,ac,hr,_⟩:=Zx.row
 exact find_any w Zb _ _ ρ G C K Zx.tree hr n ao len cap hl hs hm
theorem zhas_any (w:World) (Zb:Nat) (A:List (List UInt8)) (L:List Z.R) (ρ : Nat->Role) (G:List (List UInt8)->Option Nd) (C:List (List UInt8)->Nat->Option Z.St) (K:Nat) (Zx:ZAt w Zb A L ρ G C K) (n:List (List UInt8)) (ao:Option Addr) (len cap:Nat) (hl:Hid (n.length=len)) (hs:SlS w ao n) (hm:Hid (N.Small n)) :
 Calls Tryz.prog 30 #[.pointer (some ⟨Zb,0,none⟩),.slice ao len cap] w fun e w'=>e = .returned (.bool (Z.has L (path n)))/\Below w.heap.size w w':=by
 have hf:=Zx.find n ao len cap hl hs hm
 have HZ:=hide Zx
 have hh:=Zx.has_iff (path n)
 clear hs Zx
 go_enter Tryz.func30,Tryz.ntmps30
 go_wp2_with (first
  | (go_at_call 59;refine hf.mono ?_;rintro e w1 ⟨x,rfl,hF⟩)
  | (go_at_call 65;refine (empty_node w1 hF.node (fun t S h=>(HZ.out.tree.cov _ t S h).2)).mono ?_;rintro e wq ⟨r,rfl,hwq,hr⟩;rw[hwq];clear hwq wq))
 go_ret
 refine⟨?_,hF.bel⟩
 have:Z.has L (path n) = !r:=by
  rw[Bool.eq_iff_iff,hh, <- hr];simp
 rw[this];rfl
end Go.Proofs.YtmbcegljmhcdeaaGreat
namespace Go.Proofs.YtmbcegljmhcdeaaGreat
open Go.RowKit
set_option maxRecDepth 5000
def cutHit (A:List (List UInt8)) (C:List (List UInt8)->Nat->Option Z.St) (q:List (List UInt8)) (d:Nat):Prop:=A.length<d/\(C (q.take d) 2).isSome
def CutPost (w:World) (A:List (List UInt8)) (C:List (List UInt8)->Nat->Option Z.St) (n:List (List UInt8)) (e:Ending) (w':World):Prop :=
 Below w.heap.size w w'/\((e = .returned (.tuple #[.slice none 0 0,.bool false]) /\ ∀ d,d<=n.length -> ¬ cutHit A C (path n) d) \/
  ∃ (d b o c:Nat),d<=n.length/\cutHit A C (path n) d/\(∀ j,j<d -> ¬ cutHit A C (path n) j)/\e = .returned (.tuple #[.slice (some ⟨b,o,none⟩) d c,.bool true])/\TyS w' (some ⟨b,o,none⟩) ((N.lowN n).drop (n.length - d))/\d<=c)
set_option maxRecDepth 5000 in
theorem len_set {w:World} {C:List (List UInt8)->Nat->Option Z.St} {K:Nat} {L:List Z.R} {p:List (List UInt8)} {t:Nat} {mo:Option Nat} (hof:Z.Of L C) (h:DM w mo (Z.got C p t) K) (hmo:mo=none->C p t=none) :
 ∃ c:Nat,(Builtin.len_ #[100] 3 #[.map mo]).run Tryz.prog w = .ok (.int .i64 (c:Int)) w/\(0<c↔(C p t).isSome):=by
 cases mo with
 | none=>exact⟨0,rfl,by rw[hmo rfl];simp⟩
 | some m =>
  obtain⟨f,h1,h2⟩:=h
  obtain⟨c,h3,_,h4⟩:=h1.none_len keyedS Tryz.underlying100 3
  refine⟨c,h3,?_⟩
  have hsame : ∀ y,(Z.got C p t y).isSome=(f y).isSome:=fun y=>(h2 y).same.symm
  constructor
  ·intro hc
   refine Classical.byContradiction fun hn=>?_
   have hC:C p t=none:=by
    cases hC:C p t with
    | none=>rfl
    | some S=>rw[hC] at hn;exact absurd rfl hn
   have:c=0:=h4.2 fun x=>by
    cases x with
    | string y =>
     have h5:=hsame y
     unfold Z.got at h5;rw[hC] at h5
     show f y=none
     cases hf:f y with
     | none=>rfl
     | some v=>rw[hf] at h5;cases h5
    | _=>rfl
   omega
  ·intro hs
   obtain⟨S,hS⟩:=Option.isSome_iff_exists.1 hs
   obtain⟨y,hy,e1,e2⟩:=hof.ex p t S hS
   have h6:=(hof.at_ y hy S (by rw[e1,e2];exact hS)).2
   refine Nat.pos_of_ne_zero fun h0=>?_
   have h7:f y.c=none:=h4.1 h0 (.string y.c)
   have h5:=hsame y.c
   unfold Z.got at h5
   rw[hS,h7] at h5
   have h5:(S.g y.c).isSome=false:=h5
   rw[h6] at h5;cases h5
set_option maxRecDepth 100000 in
set_option maxHeartbeats 1000000 in
theorem zcut_any (w:World) (Zb:Nat) (A:List (List UInt8)) (L:List Z.R) (ρ : Nat->Role) (G:List (List UInt8)->Option Nd) (C:List (List UInt8)->Nat->Option Z.St) (K:Nat) (Zx:ZAt w Zb A L ρ G C K) (hA:A.length<=1000000) (n:List (List UInt8)) (ao:Option Addr) (len cap:Nat) (hl:Hid (n.length=len)) (hs:SlS w ao n) (hm:Hid (N.Small n)) :
 Calls Tryz.prog 27 #[.pointer (some ⟨Zb,0,none⟩),.slice ao len cap] w fun e w'=>CutPost w A C n e w':=by
 have hL:len<=1000000:=by rw[<- hl.out];exact hm.out.1
 obtain⟨aa,ac,hz,_,_⟩:=Zx.row
 have HX:=hide Zx
 have HZ:=hide hz
 have HS:=hide hs
 have hlow : ∀ W,Below w.heap.size w W->Calls Tryz.prog 48 #[.slice ao len cap] W fun e w' => ∃ v,e = .returned v/\OwnS w' W.heap.size v (N.lowN n)/\Below W.heap.size W w':=fun W hW=>lower_any n ao len cap W hl (HS.out.below hW (Nat.le_refl _)) hm
 obtain⟨q,hq⟩ : ∃ q,q=path n:=⟨_,rfl⟩
 obtain⟨m,hme⟩ : ∃ m,m=N.lowN n:=⟨_,rfl⟩
 have hmq:q=m.reverse:=by rw[hq,hme];rfl
 have hml:m.length=len:=by rw[hme,N.lowN_len];exact hl.out
 have hqn:(N.lowN m)=m:=by
  have:=Z.Low.of n
  unfold Z.Low at this
  rw[hme];exact this
 have hms:N.Small m:=by
  rw[hme]
  refine⟨by rw[N.lowN_len];exact hm.out.1,fun l hl=>?_⟩
  unfold N.lowN at hl
  obtain⟨l0,h2,rfl⟩:=List.mem_map.1 hl
  rw[N.lowL_len];exact hm.out.2 l0 h2
 unfold CutPost
 rw[<- hq, <- hme]
 rw[<- hme] at hlow
 have HLOW:=hide hlow
 have HMQ:=hide hmq
 have HML:=hide hml
 have HQN:=hide hqn
 have HMS:=hide hms
 clear Zx hz hs hq hmq hml hqn hms hme hlow
 go_enter Tryz.func27,Tryz.ntmps27
 go_wp2_with (first
  | (go_at_call 48;refine (HLOW.out _ (Below.refl _ _)).mono ?_;rintro e w1 ⟨v1,rfl,hv1,hb1⟩;obtain⟨a1,c1,rfl,hs1,_,hc1⟩:=hv1.ty;rw[HML.out] at hc1 ⊢)
  | (go_at_call 63;refine (way_any w1 Zb _ _ ρ G C K (HX.out.tree.below_ hb1) (HZ.out.below hb1 HZ.out.lt) m a1 len c1 HML.out hs1.1 HMS.out).mono ?_;rintro e w2 ⟨v2,rfl,k,hk,hg1,hg2,hrow,hb2⟩;obtain⟨g,c2,rfl⟩:=ownsRow_succ hrow;rw[HQN.out, <- HMQ.out] at hg1 hg2;rw[HQN.out] at hrow)
  | fail)
 have hb02:=hb1.trans (hb2.mono hb1.size)
 have hpre : ∀ j,j<=k->(G (q.take j)).isSome:=fun j hj=>by
  have:=HX.out.tree.pre ((q.take k).drop j) (q.take j)
  refine this ?_
  have e:q.take j=(q.take k).take j:=by rw[List.take_take,Nat.min_eq_left hj]
  rw[e,List.take_append_drop];exact hg1
 have hqlen:q.length=len:=by rw[HMQ.out,List.length_reverse,HML.out]
 have hkl:k<=len:=by rw[<- HML.out];exact hk
 have hdeep : ∀ d,k<d->d<=len->C (q.take d) 2=none:=fun d h1 h2=>by
  have h3:=hg2 (by rw[HML.out];omega)
  have h4:=HX.out.tree.no_below h3 ((q.take d).drop (k+1))
  have e:q.take (k+1)=(q.take d).take (k+1):=by rw[List.take_take,Nat.min_eq_left (by omega)]
  rw[e,List.take_append_drop] at h4
  exact HX.out.tree.no_sets h4 2
 have hsm:=hs1.kb (KB.of_below hb2)
 have HPRE:=hide hpre
 have HQL:=hide hqlen
 have HDP:=hide hdeep
 have HSM:=hide hsm
 have HB2:=hide hb02
 have HT2:=hide (HX.out.tree.below_ hb02)
 have HR:=hide hrow
 have hz2:=HZ.out.below hb02 HZ.out.lt
 have z0:w2.cell? ⟨Zb,0,none⟩=some (.slice aa A.length ac):=hz2.cell 0
 clear hpre hqlen hdeep hg1 hg2 hb1 hb2 hb02 hv1 hs1 hsm hrow hz2
 go_loopw [15] (fun i wr => ∃ j:Nat,i = .int .i64 (j:Int)/\j<=k+1/\wr=w2 /\ ∀ d,d<j -> ¬ cutHit A C q d) (fun i _=>k+1 - (intOf i).toNat)
 case atStart=>exact⟨0,rfl,Nat.zero_le _,rfl,fun d hd=>absurd hd (Nat.not_lt_zero d)⟩
 case round =>
  obtain⟨j,rfl,hj,rfl,hno⟩:=hrel
  have HNO:=hide hno
  clear hno
  by_cases hlast:j=k+1
  ·subst hlast
   go_wp2
   go_ret2
   refine⟨HB2.out,Or.inl ⟨rfl,fun d hd h=>?_⟩⟩
   by_cases hdk:d<=k
   ·exact HNO.out d (by omega) h
   ·have:=h.2
    rw[HDP.out d (by omega) (by rw[<- hl.out];exact hd)] at this;cases this
  ·have hlt:(j:Int)<(k:Int)+1:=by omega
   obtain⟨x,hx⟩:=Option.isSome_iff_exists.1 (HPRE.out j (by omega))
   have NX:=HT2.out.node _ x hx
   have c1:wr.cell? ⟨g,j,none⟩=some (.pointer (some ⟨x.n,0,none⟩)):=by
    rw[World.ownsRow.cellAt HR.out j (by omega),wayV_get _ _ _ _ (by omega), <- HMQ.out,nodeN_of hx];rfl
   have x0:wr.cell? ⟨x.n,0,none⟩=some (.map (some x.s)):=NX.row.cell 0
   obtain⟨T0,mo,hmo,hmn⟩ : ∃ (T0:Nat) (mo:Option Nat),((C (q.take j) 2).map fun S=>setV S (x.dm 2)).getD (.agg #[.int .u32 0,.map none]) = .agg #[.int .u32 (T0:Int),.map mo]/\(mo=none->C (q.take j) 2=none):=by
    cases hC:C (q.take j) 2 with
    | none=>exact⟨0,none,rfl,fun _=>rfl⟩
    | some S=>exact⟨S.ttl,some (x.dm 2),rfl,fun h=>by cases h⟩
   have F:Found wr wr G C K (q.take j) x:=⟨NX,Or.inl hx,Below.refl _ _⟩
   have hlk:(Instr.lookup 104 (.map (some x.s)) (.int .u16 2) false).run Tryz.prog wr = .ok (.agg #[.int .u32 (T0:Int),.map mo]) wr:=by rw[<- hmo];exact (NX.lookup 2 (by omega) wr rfl).2
   obtain⟨cn,hln,hpos⟩:=len_set HX.out.of (F.dm 2 T0 mo hmo) hmn
   have hfd:(Instr.field 102 (.agg #[.int .u32 (T0:Int),.map mo]) 1).run Tryz.prog wr = .ok (.map mo) wr:=by rfl
   have HPOS:=hide hpos
   have HJ:=hide hlast
   have HMN:=hide hmn
   have HM0:=hide hmo
   have HNX:=hide NX
   have HF:=hide F
   clear hx NX hmo hmn F hpos hlast
   by_cases hd:A.length<j
   ·have hdb:((A.length:Int)<(j:Int)):=by omega
    by_cases hc:0<cn
    ·have hcb:((0:Int)<(cn:Int)):=by omega
     have hcut:IntKind.i64.wrap ((len:Int) - (j:Int))=((len - j:Nat):Int):=by rw[IntKind.wrap_i64];omega
     obtain⟨b1,o1,ea1,_,_⟩:=HSM.out.1 (by have:=HML.out;omega)
     subst ea1
     go_wp2
     go_ret2
     have hjl:j<=len:=by omega
     have e1:len - (len - j)=j:=by omega
     rw[e1]
     refine⟨HB2.out,Or.inr ⟨j,b1,o1+(len - j),_,by rw[hl.out];exact hjl,⟨hd,HPOS.out.1 hc⟩,HNO.out,rfl,⟨?_,fun a e=>?_⟩,?_⟩⟩
     ·rw[hl.out];exact HSM.out.1.drop (by rw[HML.out];omega)
     ·obtain rfl:=Option.some.inj e
      exact HSM.out.2 ⟨b1,o1,none⟩ rfl
     ·omega
    ·have hcb:decide ((0:Int)<(cn:Int))=false:=by simp;omega
     go_wp2
     refine⟨⟨j+1,by simp,by omega,trivial,fun d hd2 h=>?_⟩,by simp[intOf];omega⟩
     by_cases e:d=j
     ·rw[e] at h;exact hc (HPOS.out.2 h.2)
     ·exact HNO.out d (by omega) h
   ·have hdb:decide ((A.length:Int)<(j:Int))=false:=by simp;omega
    go_wp2
    refine⟨⟨j+1,by simp,by omega,trivial,fun d hd2 h=>?_⟩,by simp[intOf];omega⟩
    by_cases e:d=j
    ·rw[e] at h;exact hd h.1
    ·exact HNO.out d (by omega) h
end Go.Proofs.YtmbcegljmhcdeaaGreat
namespace Go.Proofs.YtmbcegljmhcdeaaGreat
set_option maxRecDepth 5000
end Go.Proofs.YtmbcegljmhcdeaaGreat
namespace Go.Proofs.YtmbcegljmhcdeaaGreat
open Go.RowKit
set_option maxRecDepth 5000
open Go.RowKit
open Go.RowKit
open Go.RowKit Go.Maps Go.Sort Go.Shelf
theorem keysH_any (mb:Option Nat) (W:World):Calls Tryz.prog 67 #[.map mb] W fun e w'=>e = .returned (.func (.func 104) #[] #[.pointer (some ⟨W.heap.size,0,none⟩)])/\w'=W.alloc (.cells #[.map mb] 104):=by
 have hmf : ∀ (fn:Fn) (first cap:Array Value) (w:World),(Instr.makeFunc fn first cap).run Tryz.prog w = .ok (.func fn first cap) w:=fun _ _ _ _=>rfl
 go_enter Tryz.func67,Tryz.ntmps67
 go_wp2
 go_ret
 exact⟨rfl,rfl⟩
def encH (x:UInt16):Value := .int .u16 (x.toNat:Int)
def CollH {H:Type} (D0:DataW H) (left:Lit->Bool) (ss:List UInt16):Prop:=ss.Nodup /\ ∀ x:UInt16,x∈ss↔(has D0 (.int .u16 (x.toNat:Int))=true/\left (.int .u16 (x.toNat:Int))=false)
theorem CollH.start {H:Type} (D0:DataW H):CollH D0 (has D0) []:=⟨List.nodup_nil,fun x=>by cases has D0 (.int .u16 (x.toNat:Int)) <;> simp⟩
theorem CollH.step {H:Type} {D0:DataW H} {left:Lit->Bool} {ss:List UInt16} (h:CollH D0 left ss) {x:UInt16} {y:DataW H} (hlk:left (.int .u16 (x.toNat:Int))=true) (hat : ∀ zd,D0.atKey (.int .u16 (x.toNat:Int)) zd=y):CollH D0 (fun z=>left z && !z.sameKey (.int .u16 (x.toNat:Int))) (ss ++ [x]):=by
 have hhas:has D0 (.int .u16 (x.toNat:Int))=true:=has_true_of_atKey hat
 have hnew:x ∉ ss:=fun hx=>by have:=((h.2 x).1 hx).2;rw[hlk] at this;cases this
 refine⟨List.nodup_append.2 ⟨h.1,by simp,fun a ha b hb=>by simp at hb;subst hb;exact fun e=>hnew (e ▸ ha)⟩,fun y=>?_⟩
 by_cases hy:y=x
 ·subst hy;simp[hhas,Lit.sameKey]
 ·have hne : ¬ (y.toNat:Int)=(x.toNat:Int):=fun e=>hy (UInt16.toNat_inj.1 (by omega))
  simp[h.2 y,hy,Lit.sameKey,hne]
set_option maxRecDepth 100000 in
set_option maxHeartbeats 1000000 in
theorem keysH1_in (l Bm b nn:Nat) (D0:DataW Value) (J Jx:List UInt16->World->Prop) (W:World) (hJ:AbidesFrom W.heap.size J)
 (hY : ∀ pre x W1,J pre W1->pre.length<Maps.size D0->YieldAt Fence.wide 2 Tryz.prog l #[encH x] W1 fun e W'=>(e = .returned (.bool true)/\J (pre ++ [x]) W'/\KeepsWalks W1 W')\/(e = .returned (.bool false)/\Jx (pre ++ [x]) W'))
 (hm:W.cell? ⟨Bm,0,none⟩=some (.map (some b))) (hown:W.ownsMap Tryz.prog 36 HR b nn D0) (h0:J [] W) :
 CallsIn Fence.wide 3 Tryz.prog 104 #[.func (.yield l) #[] #[],.pointer (some ⟨Bm,0,none⟩)] W fun e W'=>(∃ v,e = .returned v)/\((∃ ss:List UInt16,(ss.Nodup /\ ∀ x:UInt16,x∈ss↔has D0 (.int .u16 (x.toNat:Int))=true)/\J ss W') \/ ∃ pre,True/\Jx pre W'):=by
 refine callsIn_of_wp Tryz.func104 rfl trivial ?_ rfl
 simp only[Tryz.ntmps104,List.size_toArray,List.length_cons,List.length_nil,Nat.reduceAdd,Nat.reduceSub,Array.replicate_succ,Array.replicate_zero,List.push_toArray,List.append_toArray,List.nil_append,List.cons_append]
 have hkey : ∀ key kl,keyOf Tryz.prog 36 key=some kl -> ∃ x:UInt16,key=encH x/\kl = .int .u16 (x.toNat:Int):=fun key kl hk=>by
  obtain⟨a,e1,e2,hw⟩:=Maps.keyOf_int_inv Tryz.underlying36 hk
  have h1:IntKind.u16.min=0:=by decide
  have h2:IntKind.u16.max=65535:=by decide
  simp only[Lit.wf,Bool.and_eq_true,decide_eq_true_eq,h1,h2] at hw
  have e3:((UInt16.ofNat a.toNat).toNat:Int)=a:=by
   rw[UInt16.toNat_ofNat_of_lt' (by show a.toNat<65536;omega)];omega
  exact⟨UInt16.ofNat a.toNat,by unfold encH;rw[e3];exact e1,by rw[e3];exact e2⟩
 gi_wp2_with (first
  | (gi_at_range;refine wpListIn_range_own _ rfl _ 104 rfl 36 102 keyedH Tryz.underlying104 _ b nn _ rfl hown ?_;intro w0 hrg0 hg0 hs0)
  | gi_in)
 go_frame
 gi_loopw [3] (fun _ wr => ∃ (left:Lit->Bool) (cnt:Nat) (ss:List UInt16),wr.ranges Tryz.prog 36 HR b W.heap.size nn D0 left cnt/\ss.length+cnt<=Maps.size D0/\CollH D0 left ss/\J ss wr)
  (fun _ wr=>wr.rangeLeft b W.heap.size)
 case atStart =>
  exact⟨_,_, [],hrg0,by simp,CollH.start D0,hJ [] W w0 none h0 hg0 (fun r e=>by cases e)⟩
 case round =>
  obtain⟨left,cnt,ss,hrg,hcs,hC,hJs⟩:=hrel
  gi_wp2_with (first
   | (gi_at_next;refine wpListIn_next_ranges _ rfl _ rfl 36 keyedH HR encH id (fun key kl hk=>by obtain⟨x,hx,_⟩:=hkey key kl hk;exact⟨x,hx⟩) (fun v _ _=>⟨v,rfl⟩) b W.heap.size nn _ _ _ rfl hrg ?_ ?_)
   | gi_in)
  ·intro hc0 hl0
   gi_wp2
   go_end0
   exact⟨⟨_,rfl⟩,Or.inl ⟨ss,⟨hC.1,fun x=>by rw[hC.2 x,hl0];simp⟩,hJs⟩⟩
  ·intro x c kl yd yp w2 cnt2 hkk hlk hv hat hrg2 hlt hg2 hs2 hen
   obtain⟨x',ex,rfl⟩:=hkey _ _ hkk
   obtain rfl:x=x':=by
    unfold encH at ex
    simp at ex
    exact UInt16.toNat_inj.1 (by omega)
   have hJ2:J ss w2:=hJ ss wr w2 (some W.heap.size) hJs hg2 (fun r e=>by cases e;exact⟨Nat.le_refl _,hrg.iter_walk⟩)
   obtain⟨fn,tmps,assign,body,hy,hR⟩:=hY ss x w2 hJ2 (by omega)
   clear hs2
   gi_wp2
   refine hR.mono ?_
   rintro e W3 (⟨rfl,hJ3,hk3⟩ | ⟨rfl,hJ3⟩)
   ·gi_wp2
    have hrg3:=hrg2.of_walks hk3
    go_roundw
    case rel=>exact⟨_,cnt2,ss ++ [x],hrg3,by simp;omega,hC.step hlk hat,hJ3⟩
    case measure=>rw[hrg3.left_eq,hrg.left_eq];exact hlt
   ·gi_wp2
    refine bodyPost_ret (results_none rfl _ _ _) rfl ?_
    exact⟨⟨_,rfl⟩,Or.inr ⟨_,trivial,hJ3⟩⟩
open Go.RowKit Go.Maps Go.Sort Go.Shelf
attribute [local go_sem] Oper.semAt_some
def KeysOf (D0:DataW Value) (ss:List UInt16):Prop:=ss.Nodup /\ ∀ x:UInt16,x∈ss↔has D0 (.int .u16 (x.toNat:Int))=true
theorem keysH_stops (Bm b nn:Nat) (D0:DataW Value) (w:World) (hBm:Bm<w.heap.size) (hm:w.cell? ⟨Bm,0,none⟩=some (.map (some b))) (hown:w.ownsMap Tryz.prog 36 HR b nn D0) :
 SeqStopsK Fence.wide 3 Tryz.prog 104 #[.pointer (some ⟨Bm,0,none⟩)] (fun x:UInt16 => #[encH x]) KeepsWalks (KeysOf D0) (fun _=>True) (Maps.size D0) w:=by
 intro l J Jx W hW hJ _ hY h0
 refine (keysH1_in l Bm b nn D0 J Jx W hJ hY ((hW.cell (p:=⟨Bm,0,none⟩) hBm).trans hm) ?_ h0).mono fun e W' h=>h
 have hbl:=hown.lt
 obtain⟨es,clock,hb,Ft,hs,hD⟩:=hown
 exact⟨es,clock,(hW.block b hbl).trans hb,Ft,hs,hD⟩
set_option maxRecDepth 100000 in
set_option maxHeartbeats 2000000 in
theorem appendSeqH_any (w:World) (Bm b nn:Nat) (D0:DataW Value) (hBm:Bm<w.heap.size) (hm:w.cell? ⟨Bm,0,none⟩=some (.map (some b))) (hown:w.ownsMap Tryz.prog 36 HR b nn D0) (hN:Maps.size D0<=1000000) :
 Calls Tryz.prog 132 #[.slice none 0 0,.func (.func 104) #[] #[.pointer (some ⟨Bm,0,none⟩)]] w fun e w' => ∃ v,e = .returned v /\ ∃ ss,KeysOf D0 ss/\OwnH w' w.heap.size v ss/\Below w.heap.size w w':=by
 obtain⟨i0,hi,hz0,hz1,hz2⟩:=info_parts infoH
 have HO:=hide hown
 have HM:=hide hm
 clear hown hm
 refine (callsIn_wide (n:=4)).1 ?_
 refine callsIn_of_wp_marks Tryz.func132 rfl trivial ?_ rfl
 simp only[Tryz.ntmps132,List.size_toArray,List.length_cons,List.length_nil,Nat.reduceAdd,Nat.reduceSub,Array.replicate_succ,Array.replicate_zero,List.push_toArray,List.append_toArray,List.nil_append,List.cons_append]
 gi_wp2
 have bO:=Boxed.new w 51 (.slice none 0 0)
 have hB0:Below w.heap.size w (w.alloc (.cells #[.slice none 0 0] 51)):=(Below.refl _ w).alloc (Nat.le_refl _) _
 have hown1:(w.alloc (.cells #[.slice none 0 0] 51)).ownsMap Tryz.prog 36 HR b nn D0:=by
  obtain⟨es,clock,hb,Ft,hs,hD⟩:=HO.out
  exact⟨es,clock,(Below.heap_alloc _ _ b (Array.getElem?_eq_some_iff.1 hb).1).trans hb,Ft,hs,hD⟩
 refine wpIn_rangeFunc_ownG (α := UInt16) rfl (by omega) (gf:=104) (lb := #[.pointer (some ⟨Bm,0,none⟩)]) rfl trivial (enters_of Tryz.func104 (by kernel_rfl) rfl)
  (keysH_stops Bm b nn D0 _ (by simp;omega) ((hB0.cell (p:=⟨Bm,0,none⟩) hBm).trans HM.out) hown1) KeepsWalks.trans (fun W l o oo _ hl _ hw=>KeepsWalks.putObj _ hl hw) (Below.refl _ _) (fun _=>rfl)
  (fun pre W=>(∃ v,Boxed W w.heap.size 51 v/\W.ownsRow w.heap.size 36 1 v pre.length (vh pre)/\True)/\Below w.heap.size w W)
  (fun _ _ _=>False)
  (OwnFrom.and (Own.from (holdsRow_own w.heap.size w.heap.size 51 36 1 (fun pre:List UInt16=>pre.length) (fun pre=>vh pre) (fun _ _=>True)) _) (ownFrom_below (Nat.le_refl _) (by simp)))
  (fun _ _ _ _ _ hs _ _=>hs)
  ⟨⟨_,bO,World.ownsRow_nil _ _ _ _,trivial⟩,hB0⟩
  (fun x => { tmps := #[.slice none 0 0,.func (.func 104) #[] #[.pointer (some ⟨Bm,0,none⟩)],.pointer (some ⟨w.heap.size,0,none⟩),undef,.slice none 0 0,.int .u16 (x.toNat:Int),.func (.func 104) #[] #[.pointer (some ⟨Bm,0,none⟩)],.int .u16 (x.toNat:Int),undef,undef,undef,undef,undef],defers := [] }) ?assign ?body ?done ?stop
 case assign =>
  intro l x W K hK
  unfold encH
  gi_wp2
  exact hK
 case body =>
  rintro l pre x W ⟨⟨v,hv,hrow,_⟩,hB⟩ hlt
  have hc:=hv.cell
  gi_wp2_with (gi_at_builtin;refine wpListIn_append_own _ rfl _ _ 51 rfl w.heap.size 36 i0 (.int .u16 0) 1 2 Tryz.underlying51 hi hz0 hz1 hz2 rfl (by decide) _ _ _ rfl (hrow.alloc _) ⟨W.heap.size,0,none⟩ 1 1 [.int .u16 (x.toNat:Int)] rfl rfl (cell_one_new _ _ _) (by simp[Value.oneCell']) (by unfold maxLen;omega) (by omega) (by have:=hB.size;simp;omega) ?_;intro v' w1 hown' hgrow _;have hgr:(W.alloc (.cells #[.int .u16 (x.toNat:Int)] 36)).grownBy w1 v.ownBlock:=hgrow;obtain⟨g',cap',rfl⟩:=ownsRow_succ hown';obtain⟨hv1,hv2,hr2,hk2,hb2⟩:=hv.appended (by decide) hrow hB.size (Nat.le_refl _) hown' hgrow;have hc1:=hv1.cell;have hf1:=hv1.frozen)
  have e1:vh (pre ++ [x])=vh pre ++ [.int .u16 (x.toNat:Int)]:=by simp[vh]
  refine⟨hk2.from _,?_,⟨_,hv2,by rw[e1,List.length_append];exact hr2,trivial⟩,hB.trans hb2⟩
  refine ((KeepsWalks.alloc W _).trans (KeepsWalks.of_grownBy hgr fun j o ej hj=>?_)).trans (KeepsWalks.setCell _ _ _)
  rcases (hrow.alloc (.cells #[.int .u16 (x.toNat:Int)] 36)).2 with⟨e2,_⟩ | ⟨g2,cap2,cur2,e2,_,hgb,_⟩
  ·rw[e2] at ej;simp[Value.ownBlock] at ej
  ·rw[e2] at ej
   obtain rfl:g2=j:=by simpa [Value.ownBlock] using ej
   rw[hgb] at hj;cases hj;rfl
 case done =>
  rintro D ys W hD hS ⟨⟨v,hv,hrow,_⟩,hB⟩ hK
  have hc:=hv.cell
  have HR0:=hide hrow
  have HS:=hide hS
  have HB:=hide hB
  clear hrow hS hB
  gi_wp2
  refine⟨by simp,.inl ⟨_,_,rfl,run_takeDeferred hK,?_⟩⟩
  exact⟨_,results_tmp rfl _ _ _,v,rfl,ys,HS.out,ownsRow_putObj HR0.out _ hK rfl,HB.out.trans ⟨rfl,rfl,rfl,by simp,fun i hi=>World.putObj_heap_other (by simp at hD;omega)⟩⟩
 case stop =>
  rintro D c pre W _ _ h _
  exact h.elim
theorem collectH_any (w:World) (Bm b nn:Nat) (D0:DataW Value) (hBm:Bm<w.heap.size) (hm:w.cell? ⟨Bm,0,none⟩=some (.map (some b))) (hown:w.ownsMap Tryz.prog 36 HR b nn D0) (hN:Maps.size D0<=1000000) :
 Calls Tryz.prog 102 #[.func (.func 104) #[] #[.pointer (some ⟨Bm,0,none⟩)]] w fun e w' => ∃ v,e = .returned v /\ ∃ ss,KeysOf D0 ss/\OwnH w' w.heap.size v ss/\Below w.heap.size w w':=by
 have h:=appendSeqH_any w Bm b nn D0 hBm hm hown hN
 clear hown hm
 go_enter Tryz.func102,Tryz.ntmps102
 go_wp2_with (go_at_call 132;refine h.mono ?_;rintro e w1 ⟨v,rfl,hv⟩)
 go_ret
 exact⟨v,rfl,hv⟩
open Q Go.Lib in
theorem rise_of {ss:List UInt16} (hn:ss.Nodup) {d:Array UInt16} (hp:PermIn 0 ss.length ss.toArray d) (hs:SortedIn lt 0 ss.length d) (hd:d.size=ss.length):d.toList.Pairwise (fun a b=>a.toNat<b.toNat) /\ ∀ x,x∈d.toList↔x∈ss:=by
 have hperm:d.toList.Perm ss:=by
  have h3:=hp.2.2
  have e1:d.extract 0 ss.length=d:=by rw[<- hd];exact Array.extract_size
  have e2:ss.toArray.extract 0 ss.length=ss.toArray:=by
   have:ss.length=ss.toArray.size:=by simp
   rw[this];exact Array.extract_size
  rw[e1,e2] at h3
  simpa using h3
 refine⟨?_,fun x=>hperm.mem_iff⟩
 have hnd:d.toList.Nodup:=hperm.nodup_iff.2 hn
 rw[List.pairwise_iff_getElem]
 intro i j hi hj hij
 have hi':i<d.size:=by simpa using hi
 have hj':j<d.size:=by simpa using hj
 have h1:=hs i j (Nat.zero_le _) hij (by omega)
 simp only[lt,decide_eq_false_iff_not] at h1
 rw[getElem!_pos d i hi',getElem!_pos d j hj'] at h1
 have h2:d.toList[i]≠d.toList[j]:=List.pairwise_iff_getElem.1 hnd i j hi hj hij
 have h3:d.toList[i].toNat≠d.toList[j].toNat:=fun e=>h2 (UInt16.toNat_inj.1 e)
 simp only[Array.getElem_toList] at h3 ⊢
 omega
open Q Go.Lib in
theorem sortedH_any (w:World) (b K:Nat) (f:Nat->Option Value) (h:MapU w b f K) (hK:K<=1000000) :
 Calls Tryz.prog 66 #[.func (.func 104) #[] #[.pointer (some ⟨w.heap.size,0,none⟩)]] (w.alloc (.cells #[.map (some b)] 104)) fun e w' => ∃ v,e = .returned v /\ ∃ ss:List UInt16,
  (ss.Pairwise (fun a b=>a.toNat<b.toNat) /\ ∀ x:UInt16,x∈ss↔(f x.toNat).isSome)/\OwnH w' (w.heap.size+1) v ss/\Below (w.heap.size+1) (w.alloc (.cells #[.map (some b)] 104)) w':=by
 have HMP:=hide h
 obtain⟨D,hown,hv⟩:=h
 have hsz:=hown.size_le
 have hbl:=hown.lt
 have hown1:(w.alloc (.cells #[.map (some b)] 104)).ownsMap Tryz.prog 36 HR b K D:=by
  obtain⟨es,clock,hb,Ft,hs,hD⟩:=hown
  exact⟨es,clock,(Below.heap_alloc _ _ b hbl).trans hb,Ft,hs,hD⟩
 have hkf : ∀ x:UInt16,has D (.int .u16 (x.toNat:Int))=(f x.toNat).isSome:=fun x=>by
  rw[hv.has,fU_at _ _ x.toNat_lt]
 have hco:=collectH_any (w.alloc (.cells #[.map (some b)] 104)) w.heap.size b K D (by simp) (by simp) hown1 (by omega)
 have hsA:(w.alloc (.cells #[.map (some b)] 104)).heap.size=w.heap.size+1:=by simp
 generalize w.alloc (.cells #[.map (some b)] 104)=wA at hco hsA ⊢
 rw[hsA] at hco
 have HSA:=hide hsA
 clear hown1 hown hv hsA
 go_enter Tryz.func66,Tryz.ntmps66
 go_wp2_with (go_at_call 102;refine hco.mono ?_;rintro e w1 ⟨v,rfl,ss,hK1,hO1,hB1⟩)
 have hlen:ss.length<=K:=by
  have:=MapAt.le HMP.out keyedH (ss.map fun x=>Lit.int .u16 (x.toNat:Int)) (List.pairwise_map.2 (hK1.1.imp fun {a b} hne e=>hne (UInt16.toNat_inj.1 (by injection e with _ e;omega)))) (fun k=>by
   rw[List.mem_map]
   constructor
   ·rintro⟨x,hx,rfl⟩
    rw[fU_at _ _ x.toNat_lt, <- hkf x];exact (hK1.2 x).1 hx
   ·intro hk
    obtain⟨t,ht,rfl⟩:=fU_some hk
    rw[fU_at _ t ht] at hk
    have e:(UInt16.ofNat t).toNat=t:=UInt16.toNat_ofNat_of_lt' ht
    refine⟨UInt16.ofNat t,(hK1.2 _).2 ?_,by rw[e]⟩
    rw[hkf,e];exact hk)
  rwa [List.length_map] at this
 obtain⟨a1,c1,rfl,hS1,hn1,hc1,hm1⟩:=hO1.open
 by_cases h0:ss.length=0
 ·obtain rfl:ss = []:=List.eq_nil_of_length_eq_zero h0
  refine (sort_none a1 c1 _).mono ?_
  rintro e w2 ⟨rfl,rfl⟩
  go_wp2
  go_ret
  exact⟨_,rfl, [],⟨List.Pairwise.nil,fun x=>by rw[hK1.2 x,hkf x]⟩,hO1,hB1⟩
 ·obtain⟨g,cap1,e1,hbg,_,_,hglt,_⟩:=hO1.form (by omega)
  cases e1
  obtain⟨hH,hg,_,hlc,hcm⟩:=own_holds hO1
  have hz1:=hB1.size
  refine (sort_any w1 g 0 ss.length c1 ss.toArray (by simp) (by omega) hg hH).mono ?_
  rintro e w2 ⟨rfl,d',hp,hsrt,hSt⟩
  have hd:d'.size=ss.length:=hSt.size
  obtain⟨n2,os2,hw2⟩:=hSt.sw
  obtain⟨hr1,hr2⟩:=rise_of hK1.1 hp hsrt hd
  have hO2:OwnH w2 (w.heap.size+1) (.slice (some ⟨g,0,none⟩) ss.length c1) d'.toList:=by
   have:=own_put (n:=n2) (os:=os2) hO1 d' hd d'.size (Nat.le_refl _)
   rw[hd,show d'.toList.take ss.length=d'.toList from List.take_of_length_le (by simp;omega)] at this
   rw[hw2];exact this
  have hB2:Below (w.heap.size+1) wA w2:=by
   rw[hw2];exact hB1.trans (below_put os2 d' hbg (by have:=HSA.out;omega))
  have HO2:=hide hO2
  have HB2:=hide hB2
  have HR1:=hide hr1
  have HR2:=hide hr2
  have HK1:=hide hK1
  clear hO2 hB2 hr1 hr2 hp hsrt hSt hw2 hO1 hB1 hS1 hH hK1 hd
  go_wp2
  go_ret
  exact⟨_,rfl,d'.toList,⟨HR1.out,fun x=>by rw[HR2.out x,HK1.out.2 x,hkf x]⟩,HO2.out,HB2.out⟩
open Go.RowKit
theorem ZAt.types_eq {w:World} {Zb:Nat} {A:List (List UInt8)} {L:List Z.R} {ρ : Nat->Role} {G:List (List UInt8)->Option Nd} {C:List (List UInt8)->Nat->Option Z.St} {K:Nat} (Zx:ZAt w Zb A L ρ G C K) (p:List (List UInt8)) (ts:List UInt16) (h1:ts.Pairwise (fun a b=>a.toNat<b.toNat)) (h2 : ∀ x:UInt16,x∈ts↔(C p x.toNat).isSome):ts.map (·.toNat)=Z.typesAt L p:=by
 obtain⟨h3,h4⟩:=Z.types_rise Zx.rise p
 refine Z.ext_rise (r:=(· < ·)) (fun a=>Nat.lt_irrefl a) (fun a b h h2=>Nat.lt_asymm h h2) (List.pairwise_map.2 h1) h3 fun t=>?_
 rw[h4 t, <- Zx.of.isSome p t,List.mem_map]
 constructor
 ·rintro⟨x,hx,rfl⟩;exact (h2 x).1 hx
 ·intro hs
  obtain⟨S,hS⟩:=Option.isSome_iff_exists.1 hs
  have e:(UInt16.ofNat t).toNat=t:=UInt16.toNat_ofNat_of_lt' (Zx.tree.cov p t S hS).2
  exact⟨UInt16.ofNat t,(h2 _).2 (by rw[e];exact hs),e⟩
theorem ztypes_any (w:World) (Zb:Nat) (A:List (List UInt8)) (L:List Z.R) (ρ : Nat->Role) (G:List (List UInt8)->Option Nd) (C:List (List UInt8)->Nat->Option Z.St) (K:Nat) (Zx:ZAt w Zb A L ρ G C K) (hK:K<=1000000) (n:List (List UInt8)) (ao:Option Addr) (len cap:Nat) (hl:Hid (n.length=len)) (hs:SlS w ao n) (hm:Hid (N.Small n)) :
 Calls Tryz.prog 33 #[.pointer (some ⟨Zb,0,none⟩),.slice ao len cap] w fun e w' => ∃ v,e = .returned v /\ ∃ ts:List UInt16,ts.map (·.toNat)=Z.typesAt L (path n)/\OwnH w' w.heap.size v ts/\Below w.heap.size w w':=by
 have hf:=Zx.find n ao len cap hl hs hm
 have HZ:=hide Zx
 clear hs Zx
 go_enter Tryz.func33,Tryz.ntmps33
 go_wp2_with (first
  | (go_at_call 59;refine hf.mono ?_;rintro e w1 ⟨x,rfl,hF⟩;have x0:w1.cell? ⟨x.n,0,none⟩=some (.map (some x.s)):=hF.node.row.cell 0)
  | (go_at_call 67;refine (keysH_any (some x.s) w1).mono ?_;rintro e wq ⟨rfl,hwq⟩;rw[hwq];clear hwq wq)
  | (go_at_call 66;refine (sortedH_any w1 x.s K _ hF.node.sets hK).mono ?_;rintro e w3 ⟨v,rfl,ss,⟨hs1,hs2⟩,hO,hB⟩))
 go_ret
 have hb1:=hF.bel
 refine⟨v,rfl,ss,HZ.out.types_eq (path n) ss hs1 (fun y=>by rw[hs2 y];simp),?_,?_⟩
 ·refine⟨hO.1,?_⟩
  rcases hO.2 with h1 | ⟨g,cap,cur,e,h1,h2⟩
  ·exact Or.inl h1
  ·exact Or.inr ⟨g,cap,cur,e,by have:=hb1.size;omega,h2⟩
 ·exact hb1.trans (((Below.refl _ w1).alloc (Nat.le_refl _) _ |>.mono hb1.size).trans (hB.mono (by have:=hb1.size;omega)))
open Go.RowKit
open Go.RowKit
open Go.RowKit
end Go.Proofs.YtmbcegljmhcdeaaGreat
