/- (*node).drop. -/
import Derived.Test.YtbkegikdmmnkaaaGreatZpl2
import Derived.Deep.Cut
import Derived.Deep.RegionWith
import Derived.Deep.RegionHeld3
import Derived.RegionTactic
import Derived.BigRegion
import Derived.Test.YtbkegikdmmnkaaaGreatZps
namespace Go.Proofs.YtbkegikdmmnkaaaGreat
open Go.RowKit
set_option maxRecDepth 5000
def PutPost (w:World) (Zb:Nat) (A:List (List UInt8)) (L:List Z.R) (ρ : Nat->Role) (C:List (List UInt8)->Nat->Option Z.St) (K:Nat) (n:List (List UInt8)) (nl t ttl:Nat) (c d:List UInt8) (e:Ending) (w':World):Prop :=
 ∃ (b:Bool) (cd:Nat),e = .returned (.tuple #[.bool b,.int .i64 (cd:Int)])/\((b=false/\Below w.heap.size w w'/\((cd=0/\(Z.got C (path n) t c).isSome/\((C (path n) t).map fun S=>S.ttl).getD 0=ttl)\/(cd=111/\Z.got C (path n) t c=none/\2000<=L.length))) \/
  (b=true/\cd=0 /\ ¬ ((Z.got C (path n) t c).isSome/\((C (path n) t).map fun S=>S.ttl).getD 0=ttl) /\ ¬ (Z.got C (path n) t c=none/\2000<=L.length) /\ ∃ ρ' G',ZAt w' Zb A (Z.put L ⟨path n,t,c,ttl,d⟩) ρ' G' (Z.cput C (path n) t ttl c d) (K+nl+1)/\More w ρ ρ'/\ZM Zb ρ w w'))
set_option maxRecDepth 100000 in
set_option maxHeartbeats 4000000 in
theorem zput_good (w:World) (Zb:Nat) (A:List (List UInt8)) (L:List Z.R) (ρ : Nat->Role) (G:List (List UInt8)->Option Nd) (C:List (List UInt8)->Nat->Option Z.St) (K:Nat) (Zx:ZAt w Zb A L ρ G C K) (hA:Hid (N.Small A)) (n:List (List UInt8)) (na:Option Addr) (nl nc:Nat) (hl:Hid (n.length=nl)) (hnc:nl<=nc) (hs:SlS w na n) (hm:Hid (N.Small n)) (t:Nat) (ttl:Nat) (d:List UInt8) (da:Option Addr) (dc:Nat) (hsd:SlL w da d) (hnd:da=none->dc=0) (hdc:d.length<=dc) (ht:t<65536) (c:List UInt8) (hgood:N.chk n=0) (hwin:N.within n A=true) (hcn:cn t d=some c) (httl:ttl<4294967296) (hnl:nl<=128) (hK:K+nl+2<=1000000) :
 Calls Tryz.prog 45 #[.pointer (some ⟨Zb,0,none⟩),recV na nl nc t 1 ttl da d.length dc] w fun e w'=>PutPost w Zb A L ρ C K n nl t ttl c d e w':=by
 obtain⟨ck,hck⟩ : ∃ ck,N.chk n=ck:=⟨_,rfl⟩
 have hchk : ∀ W,SlS W na n->Calls Tryz.prog 82 #[.slice na nl nc] W fun e w'=>e = .returned (.int .i64 0)/\w'=W:=fun W hW=>by rw[<- hgood];exact check_any n na nl nc W hl hW hm
 have hwith : ∀ (W:World) (aa:Option Addr) (ac:Nat),SlS W na n->SlS W aa A->Calls Tryz.prog 83 #[.slice na nl nc,.slice aa A.length ac] W fun e w'=>e = .returned (.bool true) /\ ∃ m,w'=W.drewN m:=fun W aa ac h1 h2=>by
  rw[<- hwin]
  exact within_any n A na aa nl A.length nc ac W hl rfl h1 h2 (by have:=hm.out.1;have:=hl.out;omega) (by have:=hA.out.1;omega) hnc (Sane.small hm.out) (Sane.small hA.out)
 clear hck ck
 obtain⟨aa,ac,hzr,hsA,hac⟩:=Zx.row
 have ha1:A.length<=1000000:=hA.out.1
 have hn1:nl<=1000000:=by rw[<- hl.out];exact hm.out.1
 obtain⟨w1,hw1⟩ : ∃ w1,w1=w.alloc (.cells #[.slice na nl nc,.int .u16 (t:Int),.int .u16 1,.int .u32 (ttl:Int),.slice da d.length dc] 39):=⟨_,rfl⟩
 have hb1:Below w.heap.size w w1:=by rw[hw1];exact (Below.refl _ w).alloc (Nat.le_refl _) _
 have hR1:RowAt w1 w.heap.size 39 #[.slice na nl nc,.int .u16 (t:Int),.int .u16 1,.int .u32 (ttl:Int),.slice da d.length dc]:=by rw[hw1];exact RowAt.new w _ _
 have hz1:RowAt w1 Zb 93 #[.slice aa A.length ac,ptr (nodeN G []),.int .i64 (L.length:Int)]:=hzr.below hb1 hzr.lt
 have x0:w1.cell? ⟨w.heap.size,0,none⟩=some (.slice na nl nc):=hR1.cell 0
 have x1:w1.cell? ⟨Zb,0,none⟩=some (.slice aa A.length ac):=hz1.cell 0
 have HZ:=hide Zx
 have HW1:=hide hw1
 have HB1:=hide hb1
 have HR1:=hide hR1
 have HZ1:=hide hz1
 have HS:=hide (hs.below hb1 (Nat.le_refl _))
 have HSA:=hide (hsA.below hb1 (Nat.le_refl _))
 have HSD:=hide (hsd.below hb1 (Nat.le_refl _))
 clear Zx hzr hw1 hb1 hR1 hz1 hs hsA hsd
 unfold recV
 go_enter Tryz.func45,Tryz.ntmps45
 go_wp2
 rw[<- HW1.out]
 go_quiet (first
  | (go_at_call 82;exact Calls.quiet_of_same (hchk _ (by exact HS.out.below (below_drewN (Below.refl _ w1) _) (Nat.le_refl _))))
  | (go_at_call 83;exact Calls.quiet_of (hwith _ aa ac (by exact HS.out.below (below_drewN (Below.refl _ w1) _) (Nat.le_refl _)) (by exact HSA.out.below (below_drewN (Below.refl _ w1) _) (Nat.le_refl _))))
  | fail)
 have hbq:Below w1.heap.size w1 (w1.drewN nq):=below_drewN (Below.refl _ w1) _
 have y1:(w1.drewN nq).cell? ⟨w.heap.size,1,none⟩=some (.int .u16 (t:Int)):=HR1.out.cell 1
 have y4:(w1.drewN nq).cell? ⟨w.heap.size,4,none⟩=some (.slice da d.length dc):=HR1.out.cell 4
 have HBQ:=hide hbq
 have HSDq:=hide (HSD.out.below hbq (Nat.le_refl _))
 clear hbq
 go_wp2_with (first
  | (go_at_call 84;refine (Canon_any t d da d.length dc _ rfl (by exact HSDq.out) hdc hnd).mono ?_;rintro e w2 ⟨⟨x,v,ho,rfl,hx⟩ | ⟨ho,rfl⟩,hb2⟩;rotate_left;(· exact absurd (hcn.symm.trans ho) (by simp));(obtain rfl:c=x:=Option.some.inj (hcn.symm.trans ho));obtain⟨ca,cc,rfl,hcT,_,hcc⟩:=OwnB.ty hx;have z2:w2.cell? ⟨w.heap.size,2,none⟩=some (.int .u16 1):=(HR1.out.below (HBQ.out.trans (hb2.mono HBQ.out.size)) HR1.out.lt).cell 2))
 obtain⟨hclen,hd8,hcc0⟩:=cn_len hcn
 have HCL:=hide hclen
 have HCC:=hide hcc0
 clear hclen hcc0
 have hb12:Below w1.heap.size w1 w2:=HBQ.out.trans (hb2.mono HBQ.out.size)
 have hb02:Below w.heap.size w w2:=HB1.out.trans (hb12.mono HB1.out.size)
 have hR2:RowAt w2 w.heap.size 39 #[.slice na nl nc,.int .u16 (t:Int),.int .u16 1,.int .u32 (ttl:Int),.slice da d.length dc]:=HR1.out.below hb12 HR1.out.lt
 have hZ2:RowAt w2 Zb 93 #[.slice aa A.length ac,ptr (nodeN G []),.int .i64 (L.length:Int)]:=HZ1.out.below hb12 HZ1.out.lt
 have hT2:=HZ.out.tree.below_ hb02
 have hs2:=HS.out.below hb12 (Nat.le_refl _)
 have hsd2:=HSD.out.below hb12 (Nat.le_refl _)
 have hfind : ∀ W,Below w2.heap.size w2 W->Calls Tryz.prog 58 #[.pointer (some ⟨Zb,0,none⟩),.slice na nl nc] W fun e w' => ∃ x:Nd,e = .returned (.pointer (some ⟨x.n,0,none⟩))/\Found W w' G C K (path n) x:=fun W hW =>
  find_any W Zb _ _ ρ G C K (hT2.below_ hW) (hZ2.below hW hZ2.lt) n na nl nc hl (hs2.below hW (Nat.le_refl _)) hm
 have y0:w2.drew.cell? ⟨w.heap.size,0,none⟩=some (.slice na nl nc):=hR2.cell 0
 have y1':w2.drew.cell? ⟨w.heap.size,1,none⟩=some (.int .u16 (t:Int)):=hR2.cell 1
 have HR2:=hide hR2
 have HZ2:=hide hZ2
 have HT2:=hide hT2
 have HS2:=hide hs2
 have HSD2:=hide hsd2
 have HCT:=hide hcT
 have HB02:=hide hb02
 have HB12:=hide hb12
 obtain⟨T0,hT0⟩ : ∃ T0:Nat,T0=((C (path n) t).map fun S=>S.ttl).getD 0:=⟨_,rfl⟩
 have HT0:=hide hT0
 have kp : ∀ (W:World) (g:Nat),g<w2.heap.size->Below w2.heap.size w2 W -> ∀ j,W.cell? ⟨g,j,none⟩=w2.cell? ⟨g,j,none⟩:=fun W g hg hW j=>World.cell?_of_block (hW.block g hg)
 have hlt2:w.heap.size<w2.heap.size:=hR2.lt
 clear hT0 hR2 hZ2 hT2 hs2 hsd2 hcT hb02 hb12 hx y1 y4 x0 x1 z2
 have b0:w2.cell? ⟨w.heap.size,0,none⟩=some (.slice na nl nc):=y0
 have b1:w2.cell? ⟨w.heap.size,1,none⟩=some (.int .u16 (t:Int)):=y1'
 have a0:(w2.alloc (.cells #[.int .u32 0,.map none] 101)).cell? ⟨w.heap.size,0,none⟩=some (.slice na nl nc):=(RowAt.alloc HR2.out _).cell 0
 have a1:(w2.alloc (.cells #[.int .u32 0,.map none] 101)).cell? ⟨w.heap.size,1,none⟩=some (.int .u16 (t:Int)):=(RowAt.alloc HR2.out _).cell 1
 go_cut [8] from 39 (fun s8 wc => ∃ (sb:Nat) (mo:Option Nat),s8 = .pointer (some ⟨sb,0,none⟩)/\PB w2 T0 K (Z.got C (path n) t) sb mo wc)
 case first =>
  go_region_with ((go_at_call 58;refine (hfind _ (by first | exact below_drewN (Below.refl _ w2) 1 | exact (below_drewN (Below.refl _ w2) 1).alloc (Nat.le_refl _) _)).mono ?_;rintro e w3 ⟨x,rfl,hF⟩;obtain⟨mo,hmo⟩ : ∃ mo,((C (path n) t).map fun S=>setV S (x.dm t)).getD (.agg #[.int .u32 0,.map none]) = .agg #[.int .u32 (T0:Int),.map mo]:=(by rw[HT0.out];cases C (path n) t;exact⟨none,rfl⟩;exact⟨_,rfl⟩);have hb3:Below w2.heap.size w2 w3:=(by first | exact (below_drewN (Below.refl _ w2) 1).trans hF.bel | exact ((below_drewN (Below.refl _ w2) 1).alloc (Nat.le_refl _) _).trans (hF.bel.mono (by simp)));have hb3z:=(hb3.alloc hb3.size (.cells #[.int .u32 0,.map none] 101));have hlk:=(hF.node.lookup t ht w3 rfl).2;have hlkz:=(hF.node.lookup t ht (w3.alloc (.cells #[.int .u32 0,.map none] 101)) (Below.heap_alloc _ _ _ hF.node.sets.lt)).2;rw[hmo] at hlk hlkz;have q0:w3.cell? ⟨x.n,0,none⟩=some (.map (some x.s)):=hF.node.row.cell 0;have q0z:(w3.alloc (.cells #[.int .u32 0,.map none] 101)).cell? ⟨x.n,0,none⟩=some (.map (some x.s)):=(hF.node.row.alloc _).cell 0;have r0:w3.cell? ⟨w.heap.size,0,none⟩=some (.slice na nl nc):=(kp w3 _ hlt2 hb3 0).trans y0;have r1:w3.cell? ⟨w.heap.size,1,none⟩=some (.int .u16 (t:Int)):=(kp w3 _ hlt2 hb3 1).trans y1';have r0z:(w3.alloc (.cells #[.int .u32 0,.map none] 101)).cell? ⟨w.heap.size,0,none⟩=some (.slice na nl nc):=(kp _ _ hlt2 hb3z 0).trans y0;have r1z:(w3.alloc (.cells #[.int .u32 0,.map none] 101)).cell? ⟨w.heap.size,1,none⟩=some (.int .u16 (t:Int)):=(kp _ _ hlt2 hb3z 1).trans y1';(try (have hbA:Below (w2.alloc (.cells #[.int .u32 0,.map none] 101)).heap.size (w2.alloc (.cells #[.int .u32 0,.map none] 101)).drew w3:=(by exact hF.bel);have RN:Hid (RowAt w3 w2.heap.size 101 #[.int .u32 0,.map none]):=RowAt.below (w:=(w2.alloc (.cells #[.int .u32 0,.map none] 101)).drew) (RowAt.new w2 101 #[.int .u32 0,.map none]) hbA (by simp);have n0:w3.cell? ⟨w2.heap.size,0,none⟩=some (.int .u32 0):=RN.out.cell 0;have n1:=RN.out.frozen 0;have n2:w3.cell? ⟨w2.heap.size,1,none⟩=some (.map none):=RN.out.cell 1;have n3:=RN.out.frozen 1));have HF:=hide hF;have HB3:=hide hb3;have HMO:=hide hmo;clear hF hb3 hb3z hmo))
  all_goals go_wp2_with fail
  all_goals go_meet
  all_goals (first
   | exact⟨w3.heap.size,mo,rfl,HB3.out.alloc HB3.out.size _,RowAt.new w3 _ _,HB3.out.size,(HF.out.dm t T0 mo HMO.out).bel ((Below.refl _ w3).alloc (Nat.le_refl _) _)⟩
   | exact⟨w2.heap.size,mo,rfl,(HB3.out.setCell (p:=⟨w2.heap.size,0,none⟩) (Nat.le_refl _) _).setCell (p:=⟨w2.heap.size,1,none⟩) (Nat.le_refl _) _,(RN.out.set 0 _).set 1 _,Nat.le_refl _,((HF.out.dm t T0 mo HMO.out).box RN.out 0 _).box (RN.out.set 0 (.int .u32 (T0:Int))) 1 _⟩
   | skip)
 case rest =>
  obtain⟨sb,mo,rfl,hPB⟩:=hcut
  obtain⟨wd,hwd⟩ : ∃ wd,wd=wc.alloc (.cells #[.int .u32 (T0:Int),.map mo] 101):=⟨_,rfl⟩
  have hb2d:Below w2.heap.size w2 wd:=by rw[hwd];exact hPB.bel.alloc hPB.bel.size _
  have hb0d:Below w.heap.size w wd:=HB02.out.trans (hb2d.mono HB02.out.size)
  have k0:wc.cell? ⟨sb,0,none⟩=some (.int .u32 (T0:Int)):=hPB.box.cell 0
  have k1:wc.cell? ⟨sb,1,none⟩=some (.map mo):=hPB.box.cell 1
  have hbxd:RowAt wd sb 101 #[.int .u32 (T0:Int),.map mo]:=by rw[hwd];exact hPB.box.alloc _
  have k0d:wd.cell? ⟨sb,0,none⟩=some (.int .u32 (T0:Int)):=hbxd.cell 0
  have hRd:=HR2.out.below hb2d HR2.out.lt
  have hZd:=HZ2.out.below hb2d HZ2.out.lt
  have r3d:wd.cell? ⟨w.heap.size,3,none⟩=some (.int .u32 (ttl:Int)):=hRd.cell 3
  have q2d:wd.cell? ⟨Zb,2,none⟩=some (.int .i64 (L.length:Int)):=hZd.cell 2
  have f2d:wd.frozen? ⟨Zb,2,none⟩=false:=hZd.frozen 2
  have hscc:=(HCT.out.kb (KB.of_below hPB.bel)).1
  have hhas:=has_any wc (T0:Int) mo (Z.got C (path n) t) K hPB.dm c ca c.length cc rfl hscc (by have:=HCL.out;omega)
  rw[<- hwd] at hhas
  have HPB:=hide hPB
  have HWD:=hide hwd
  have HB2D:=hide hb2d
  have HB0D:=hide hb0d
  have HRD:=hide hRd
  have HZD:=hide hZd
  clear hPB hwd hb2d hb0d hRd hZd hscc hbxd a0 a1 b0 b1 y0 y1'
  cases hgot:Z.got C (path n) t c with
  | some d0 =>
   rw[hgot] at hhas
   by_cases htt:T0=ttl
   ·have htb:((T0:Int) == (ttl:Int))=true:=by simp[htt]
    have HTT:=hide htt
    clear htt
    go_wp2_with (go_at_call 85;refine hhas.mono ?_;rintro e wq ⟨he,hwq⟩;have he:e = .returned (.bool true):=he;rw[he,hwq];clear he hwq wq)
    go_ret2
    unfold PutPost
    exact⟨false,0,rfl,Or.inl ⟨rfl,HB0D.out,Or.inl ⟨rfl,by rw[hgot];rfl,by rw[<- HT0.out];exact HTT.out⟩⟩⟩
   ·have htb:((T0:Int) == (ttl:Int))=false:=by simp;omega
    go_wp2_with (go_at_call 85;refine hhas.mono ?_;rintro e wq ⟨he,hwq⟩;have he:e = .returned (.bool true):=he;rw[he,hwq];clear he hwq wq)
    have hmE:ZM Zb ρ w wd:=ZM.of_below HB0D.out
    obtain⟨we,hwe⟩ : ∃ we,we=wd:=⟨_,rfl⟩
    rw[<- hwe] at hmE
    have hRe:RowAt we w.heap.size 39 #[.slice na nl nc,.int .u16 (t:Int),.int .u16 1,.int .u32 (ttl:Int),.slice da d.length dc]:=by rw[hwe];exact HRD.out
    have hZe:RowAt we Zb 93 #[.slice aa A.length ac,ptr (nodeN G []),.int .i64 ((L.length:Nat):Int)]:=by rw[hwe];exact HZD.out
    have hTd:=HZ.out.tree.below_ HB0D.out
    have hTe:TreeAt we ρ G C K:=by rw[hwe];exact hTd
    have hsn:SlS we na n:=by rw[hwe];exact HS2.out.below HB2D.out (Nat.le_refl _)
    have hsd':SlL we da d:=by rw[hwe];exact HSD2.out.below HB2D.out (Nat.le_refl _)
    have hsc':SlL we ca c:=by rw[hwe];exact (HCT.out.kb (KB.of_below HB2D.out)).1
    have hsa':SlS we aa A:=by rw[hwe];exact ((HSA.out.below HB12.out (Nat.le_refl _)).below HB2D.out (Nat.le_refl _))
    have hgr:=grow_any we.drew Zb _ _ ρ G C K (hTe.below_ (below_drewN (Below.refl _ we) 1)) hZe n na nl nc hl (hsn.below (below_drewN (Below.refl _ we) 1) (Nat.le_refl _)) hm (by omega)
    have e0:we.drew.cell? ⟨w.heap.size,0,none⟩=some (.slice na nl nc):=hRe.cell 0
    have e1:we.drew.cell? ⟨w.heap.size,1,none⟩=some (.int .u16 (t:Int)):=hRe.cell 1
    have e2:we.drew.cell? ⟨w.heap.size,2,none⟩=some (.int .u16 1):=hRe.cell 2
    have e3:we.drew.cell? ⟨w.heap.size,3,none⟩=some (.int .u32 (ttl:Int)):=hRe.cell 3
    have e4:we.drew.cell? ⟨w.heap.size,4,none⟩=some (.slice da d.length dc):=hRe.cell 4
    have HRE:=hide hRe
    have HZE:=hide hZe
    have HTE:=hide hTe
    have HSD3:=hide hsd'
    have HSC3:=hide hsc'
    have HSA3:=hide hsa'
    have HME:=hide hmE
    have hrr : ρ w.heap.size = .none:=Classical.byContradiction fun h=>by have:=(HZ.out.tree.kind _ h).lt;omega
    rw[<- hwe]
    clear hwe hRe hZe hTe hTd hsn hsd' hsc' hsa' hmE k0 k0d r3d q2d f2d k1 hhas
    go_region_held3 (fun w'=>w'.cell? ⟨w.heap.size,0,none⟩=some (.slice na nl nc)/\w'.cell? ⟨w.heap.size,1,none⟩=some (.int .u16 (t:Int))/\w'.cell? ⟨w.heap.size,2,none⟩=some (.int .u16 1)/\w'.cell? ⟨w.heap.size,3,none⟩=some (.int .u32 (ttl:Int))/\w'.cell? ⟨w.heap.size,4,none⟩=some (.slice da d.length dc)) (first | exact⟨e0,e1,e2,e3,e4⟩ | exact⟨g0,g1,g2,g3,g4⟩ | exact⟨h0',h1',h2',h3',h4'⟩ | fail) (first | (go_at_call 86;refine hgr.mono ?_;rintro e w8 ⟨v,rfl, ρ1,G1,x1,rfl,hx1,hT1,hg1,hall⟩;have hR8:RowAt w8 w.heap.size 39 #[.slice na nl nc,.int .u16 (t:Int),.int .u16 1,.int .u32 (ttl:Int),.slice da d.length dc]:=(hg1.mv.block _ HRE.out.lt hrr).trans HRE.out;have g0:w8.cell? ⟨w.heap.size,0,none⟩=some (.slice na nl nc):=hR8.cell 0;have g1:w8.cell? ⟨w.heap.size,1,none⟩=some (.int .u16 (t:Int)):=hR8.cell 1;have g2:w8.cell? ⟨w.heap.size,2,none⟩=some (.int .u16 1):=hR8.cell 2;have g3:w8.cell? ⟨w.heap.size,3,none⟩=some (.int .u32 (ttl:Int)):=hR8.cell 3;have g4:w8.cell? ⟨w.heap.size,4,none⟩=some (.slice da d.length dc):=hR8.cell 4;have hpu:=nput_any w8 hT1 (by omega) hx1 t ht ttl 1 c d na nl nc da dc ca cc (hg1.mv.slL (HTE.out.below_ (below_drewN (Below.refl _ we) 1)).kind (HSD3.out.below (below_drewN (Below.refl _ we) 1) (Nat.le_refl _))) hnd hd8 (hg1.mv.slL (HTE.out.below_ (below_drewN (Below.refl _ we) 1)).kind (HSC3.out.below (below_drewN (Below.refl _ we) 1) (Nat.le_refl _))) (by have:=HCL.out;omega);have HR8:=hide hR8;have HX1:=hide hx1;have HG1:=hide hg1;have HALL:=hide hall;clear hR8 hx1 hT1 hg1 hall) | (go_at_call 87;unfold recV at hpu;refine hpu.mono ?_;rintro e w9 ⟨rfl, ρ2,x2,hT2,_,_,_,hg2⟩;have hrr1 : ρ1 w.heap.size = .none:=(by rw[HG1.out.more _ HRE.out.lt];exact hrr);have hR9:RowAt w9 w.heap.size 39 #[.slice na nl nc,.int .u16 (t:Int),.int .u16 1,.int .u32 (ttl:Int),.slice da d.length dc]:=(hg2.mv.block _ HR8.out.lt hrr1).trans HR8.out;have h0':w9.cell? ⟨w.heap.size,0,none⟩=some (.slice na nl nc):=hR9.cell 0;have h1':w9.cell? ⟨w.heap.size,1,none⟩=some (.int .u16 (t:Int)):=hR9.cell 1;have h2':w9.cell? ⟨w.heap.size,2,none⟩=some (.int .u16 1):=hR9.cell 2;have h3':w9.cell? ⟨w.heap.size,3,none⟩=some (.int .u32 (ttl:Int)):=hR9.cell 3;have h4':w9.cell? ⟨w.heap.size,4,none⟩=some (.slice da d.length dc):=hR9.cell 4;have HT2':=hide hT2;have HG2:=hide hg2;clear hT2 hg2) | fail)
    go_wp2
    go_ret2
    unfold PutPost
    have hth:=HZ.out.of.got_there ⟨path n,t,c,ttl,d⟩
    have hlen:=Z.put_len L ⟨path n,t,c,ttl,d⟩
    have hth1:Z.there L ⟨path n,t,c,ttl,d⟩=true:=by rw[<- hth];show (Z.got C (path n) t c).isSome=true;rw[hgot];rfl
    rw[if_pos hth1] at hlen
    have hfin:=HZ.out.put ⟨path n,t,c,ttl,d⟩ (path_low n) ⟨ht,httl,hcn,hd8,by show (path n).length<=128;rw[path_len,hl.out];exact hnl⟩ (by rw[hlen];have:=HZ.out.num;omega) (HME.out.trans (ZM.of_below (ρ := ρ) (below_drewN (Below.refl _ we) 1)) (More.refl _ _)) (HTE.out.below_ (below_drewN (Below.refl _ we) 1)).kind (by rw[hlen];exact HZE.out) (HSA3.out.below (below_drewN (Below.refl _ we) 1) (Nat.le_refl _)) hac HG1.out HX1.out HALL.out HT2'.out HG2.out
    exact⟨true,0,rfl,Or.inr ⟨rfl,rfl,(fun h=>htt (HT0.out.trans h.2)),(fun h=>by have:=h.1;rw[hgot] at this;cases this), ρ2,_,hfin⟩⟩
  | none =>
   rw[hgot] at hhas
   by_cases hfull:2000<=L.length
   ·have hfb:(2000:Int)<=(L.length:Int):=by omega
    go_wp2_with (go_at_call 85;refine hhas.mono ?_;rintro e wq ⟨he,hwq⟩;have he:e = .returned (.bool false):=he;rw[he,hwq];clear he hwq wq)
    go_ret2
    unfold PutPost
    exact⟨false,111,rfl,Or.inl ⟨rfl,HB0D.out,Or.inr ⟨rfl,hgot,hfull⟩⟩⟩
   ·have hfb : ¬ (2000:Int)<=(L.length:Int):=by omega
    have hwl:IntKind.i64.wrap ((L.length:Int)+1)=((L.length+1:Nat):Int):=by rw[IntKind.wrap_i64];omega
    go_wp2_with (go_at_call 85;refine hhas.mono ?_;rintro e wq ⟨he,hwq⟩;have he:e = .returned (.bool false):=he;rw[he,hwq];clear he hwq wq)
    have hmE:ZM Zb ρ w (wd.setCell ⟨Zb,2,none⟩ (.int .i64 ((L.length:Int)+1))):=(ZM.of_below HB0D.out).trans (ZM.count HZD.out) (More.refl _ _)
    obtain⟨we,hwe⟩ : ∃ we,we=(wd.setCell ⟨Zb,2,none⟩ (.int .i64 ((L.length:Int)+1))):=⟨_,rfl⟩
    rw[<- hwe] at hmE
    have hRe:RowAt we w.heap.size 39 #[.slice na nl nc,.int .u16 (t:Int),.int .u16 1,.int .u32 (ttl:Int),.slice da d.length dc]:=by rw[hwe];exact HRD.out.other _ _ (by have:=HZ.out.lt;show w.heap.size≠Zb;omega)
    have hZe:RowAt we Zb 93 #[.slice aa A.length ac,ptr (nodeN G []),.int .i64 (((L.length+1):Nat):Int)]:=by rw[hwe];exact HZD.out.set 2 _
    have hTd:=HZ.out.tree.below_ HB0D.out
    have hTe:TreeAt we ρ G C K:=by rw[hwe];exact hTd.keep (fun i hi=>heap_setCell_other _ _ _ _ (fun e=>hi (by rw[e];exact HZ.out.zr))) (fun _ _ hs=>slL_zm (ρ := ρ) (ZM.count HZD.out) hTd.kind HZD.out hs)
    have hsn:SlS we na n:=by rw[hwe];exact slS_zm (ρ := ρ) (ZM.count HZD.out) hTd.kind HZD.out (HS2.out.below HB2D.out (Nat.le_refl _))
    have hsd':SlL we da d:=by rw[hwe];exact slL_zm (ρ := ρ) (ZM.count HZD.out) hTd.kind HZD.out (HSD2.out.below HB2D.out (Nat.le_refl _))
    have hsc':SlL we ca c:=by rw[hwe];exact slL_zm (ρ := ρ) (ZM.count HZD.out) hTd.kind HZD.out (HCT.out.kb (KB.of_below HB2D.out)).1
    have hsa':SlS we aa A:=by rw[hwe];exact slS_zm (ρ := ρ) (ZM.count HZD.out) hTd.kind HZD.out ((HSA.out.below HB12.out (Nat.le_refl _)).below HB2D.out (Nat.le_refl _))
    have hgr:=grow_any we.drew Zb _ _ ρ G C K (hTe.below_ (below_drewN (Below.refl _ we) 1)) hZe n na nl nc hl (hsn.below (below_drewN (Below.refl _ we) 1) (Nat.le_refl _)) hm (by omega)
    have e0:we.drew.cell? ⟨w.heap.size,0,none⟩=some (.slice na nl nc):=hRe.cell 0
    have e1:we.drew.cell? ⟨w.heap.size,1,none⟩=some (.int .u16 (t:Int)):=hRe.cell 1
    have e2:we.drew.cell? ⟨w.heap.size,2,none⟩=some (.int .u16 1):=hRe.cell 2
    have e3:we.drew.cell? ⟨w.heap.size,3,none⟩=some (.int .u32 (ttl:Int)):=hRe.cell 3
    have e4:we.drew.cell? ⟨w.heap.size,4,none⟩=some (.slice da d.length dc):=hRe.cell 4
    have HRE:=hide hRe
    have HZE:=hide hZe
    have HTE:=hide hTe
    have HSD3:=hide hsd'
    have HSC3:=hide hsc'
    have HSA3:=hide hsa'
    have HME:=hide hmE
    have hrr : ρ w.heap.size = .none:=Classical.byContradiction fun h=>by have:=(HZ.out.tree.kind _ h).lt;omega
    rw[<- hwe]
    clear hwe hRe hZe hTe hTd hsn hsd' hsc' hsa' hmE k0 k0d r3d q2d f2d k1 hhas
    go_region_held3 (fun w'=>w'.cell? ⟨w.heap.size,0,none⟩=some (.slice na nl nc)/\w'.cell? ⟨w.heap.size,1,none⟩=some (.int .u16 (t:Int))/\w'.cell? ⟨w.heap.size,2,none⟩=some (.int .u16 1)/\w'.cell? ⟨w.heap.size,3,none⟩=some (.int .u32 (ttl:Int))/\w'.cell? ⟨w.heap.size,4,none⟩=some (.slice da d.length dc)) (first | exact⟨e0,e1,e2,e3,e4⟩ | exact⟨g0,g1,g2,g3,g4⟩ | exact⟨h0',h1',h2',h3',h4'⟩ | fail) (first | (go_at_call 86;refine hgr.mono ?_;rintro e w8 ⟨v,rfl, ρ1,G1,x1,rfl,hx1,hT1,hg1,hall⟩;have hR8:RowAt w8 w.heap.size 39 #[.slice na nl nc,.int .u16 (t:Int),.int .u16 1,.int .u32 (ttl:Int),.slice da d.length dc]:=(hg1.mv.block _ HRE.out.lt hrr).trans HRE.out;have g0:w8.cell? ⟨w.heap.size,0,none⟩=some (.slice na nl nc):=hR8.cell 0;have g1:w8.cell? ⟨w.heap.size,1,none⟩=some (.int .u16 (t:Int)):=hR8.cell 1;have g2:w8.cell? ⟨w.heap.size,2,none⟩=some (.int .u16 1):=hR8.cell 2;have g3:w8.cell? ⟨w.heap.size,3,none⟩=some (.int .u32 (ttl:Int)):=hR8.cell 3;have g4:w8.cell? ⟨w.heap.size,4,none⟩=some (.slice da d.length dc):=hR8.cell 4;have hpu:=nput_any w8 hT1 (by omega) hx1 t ht ttl 1 c d na nl nc da dc ca cc (hg1.mv.slL (HTE.out.below_ (below_drewN (Below.refl _ we) 1)).kind (HSD3.out.below (below_drewN (Below.refl _ we) 1) (Nat.le_refl _))) hnd hd8 (hg1.mv.slL (HTE.out.below_ (below_drewN (Below.refl _ we) 1)).kind (HSC3.out.below (below_drewN (Below.refl _ we) 1) (Nat.le_refl _))) (by have:=HCL.out;omega);have HR8:=hide hR8;have HX1:=hide hx1;have HG1:=hide hg1;have HALL:=hide hall;clear hR8 hx1 hT1 hg1 hall) | (go_at_call 87;unfold recV at hpu;refine hpu.mono ?_;rintro e w9 ⟨rfl, ρ2,x2,hT2,_,_,_,hg2⟩;have hrr1 : ρ1 w.heap.size = .none:=(by rw[HG1.out.more _ HRE.out.lt];exact hrr);have hR9:RowAt w9 w.heap.size 39 #[.slice na nl nc,.int .u16 (t:Int),.int .u16 1,.int .u32 (ttl:Int),.slice da d.length dc]:=(hg2.mv.block _ HR8.out.lt hrr1).trans HR8.out;have h0':w9.cell? ⟨w.heap.size,0,none⟩=some (.slice na nl nc):=hR9.cell 0;have h1':w9.cell? ⟨w.heap.size,1,none⟩=some (.int .u16 (t:Int)):=hR9.cell 1;have h2':w9.cell? ⟨w.heap.size,2,none⟩=some (.int .u16 1):=hR9.cell 2;have h3':w9.cell? ⟨w.heap.size,3,none⟩=some (.int .u32 (ttl:Int)):=hR9.cell 3;have h4':w9.cell? ⟨w.heap.size,4,none⟩=some (.slice da d.length dc):=hR9.cell 4;have HT2':=hide hT2;have HG2:=hide hg2;clear hT2 hg2) | fail)
    go_wp2
    go_ret2
    unfold PutPost
    have hth:=HZ.out.of.got_there ⟨path n,t,c,ttl,d⟩
    have hlen:=Z.put_len L ⟨path n,t,c,ttl,d⟩
    have hth1 : ¬ Z.there L ⟨path n,t,c,ttl,d⟩=true:=by rw[<- hth];show ¬ (Z.got C (path n) t c).isSome=true;rw[hgot];simp
    rw[if_neg hth1] at hlen
    have hfin:=HZ.out.put ⟨path n,t,c,ttl,d⟩ (path_low n) ⟨ht,httl,hcn,hd8,by show (path n).length<=128;rw[path_len,hl.out];exact hnl⟩ (by rw[hlen];have:=HZ.out.num;omega) (HME.out.trans (ZM.of_below (ρ := ρ) (below_drewN (Below.refl _ we) 1)) (More.refl _ _)) (HTE.out.below_ (below_drewN (Below.refl _ we) 1)).kind (by rw[hlen];exact HZE.out) (HSA3.out.below (below_drewN (Below.refl _ we) 1) (Nat.le_refl _)) hac HG1.out HX1.out HALL.out HT2'.out HG2.out
    exact⟨true,0,rfl,Or.inr ⟨rfl,rfl,(fun h=>by have:=h.1;rw[hgot] at this;cases this),(fun h=>hfull h.2), ρ2,_,hfin⟩⟩
end Go.Proofs.YtbkegikdmmnkaaaGreat
namespace Go.Proofs.YtbkegikdmmnkaaaGreat
set_option maxRecDepth 5000
open Go.RowKit
theorem cutG_start {w:World} {ρ : Nat->Role} {G:List (List UInt8)->Option Nd} {C:List (List UInt8)->Nat->Option Z.St} {K:Nat} (T:TreeAt w ρ G C K) {q:List (List UInt8)} {k:Nat} (h:k<q.length->G (q.take (k+1))=none):Z.cutG G q k=G:=by
 funext p
 unfold Z.cutG
 by_cases e:k<p.length/\p <+: q
 ·rw[if_pos e]
  have hl:=e.2.length_le
  have h1:=T.no_below (h (by omega)) (p.drop (k+1))
  have h2:q.take (k+1)=p.take (k+1):=by
   obtain⟨r,rfl⟩:=e.2
   rw[List.take_append_of_le_length (by omega)]
  rw[h2,List.take_append_drop] at h1
  exact h1.symm
 ·rw[if_neg e]
theorem cutG_at (G:List (List UInt8)->Option Nd) (q:List (List UInt8)) {d j:Nat} (h:j<=d):Z.cutG G q d (q.take j)=G (q.take j) :=
 Z.cutG_off G fun e=>by have:=e.1;rw[List.length_take] at this;omega
theorem cutG_gput (G:List (List UInt8)->Option Nd) (q:List (List UInt8)) {d:Nat} (h0:0<d) (hd:d<=q.length):gput (Z.cutG G q d) (q.take d) none=Z.cutG G q (d - 1):=by
 funext r
 by_cases e:r=q.take d
 ·rw[e,gput_same]
  unfold Z.cutG
  rw[if_pos ⟨by rw[List.length_take];omega,List.take_prefix _ _⟩]
 ·rw[gput_other _ e]
  unfold Z.cutG
  by_cases e2:r <+: q
  ·by_cases e3:d<r.length
   ·rw[if_pos ⟨e3,e2⟩,if_pos ⟨by omega,e2⟩]
   ·rw[if_neg (fun h=>e3 h.1)]
    by_cases e4:r.length=d
    ·exfalso
     apply e
     obtain⟨s,rfl⟩:=e2
     rw[<- e4,List.take_left]
    ·rw[if_neg (fun h=>by have:=h.1;omega)]
  ·rw[if_neg (fun h=>e2 h.2),if_neg (fun h=>e2 h.2)]
theorem take_last (q:List (List UInt8)) {d:Nat} (h0:0<d) (hd:d<=q.length):q.take (d - 1) ++ [q.getD (d - 1) []]=q.take d:=by
 obtain⟨e,rfl⟩ : ∃ e,d=e+1:=⟨d - 1,by omega⟩
 rw[Nat.add_sub_cancel,List.take_add_one,List.getD_eq_getElem?_getD,List.getElem?_eq_getElem (by omega)];rfl
theorem empty_node (w:World) {G:List (List UInt8)->Option Nd} {C:List (List UInt8)->Nat->Option Z.St} {K:Nat} {p:List (List UInt8)} {x:Nd} (h:NodeIs w G C K p x) (hc : ∀ t S,C p t=some S->t<65536) :
 Calls Tryz.prog 64 #[.pointer (some ⟨x.n,0,none⟩)] w fun e w' => ∃ r:Bool,e = .returned (.bool r)/\w'=w/\(r=true↔(∀ t,C p t=none) /\ ∀ l,G (p ++ [l])=none):=by
 refine (empty_any w x.n x.s x.b K _ _ h.row h.sets h.below).mono ?_
 rintro e w' ⟨r,rfl,rfl,hr⟩
 refine⟨r,rfl,rfl,hr.trans ⟨fun ⟨h1,h2⟩=>⟨fun t=>?_,fun l=>?_⟩,fun ⟨h1,h2⟩=>⟨fun k=>?_,fun k=>?_⟩⟩⟩
 ·cases hC:C p t with
  | none=>rfl
  | some S =>
   have:=h1 (.int .u16 (t:Int))
   rw[fU_at _ t (hc t S hC),hC] at this;cases this
 ·have:=h2 (.string l)
  cases hg:G (p ++ [l]) with
  | none=>rfl
  | some y =>
   have this:(G (p ++ [l])).map (fun y=>ptr y.n)=none:=this
   rw[hg] at this;cases this
 ·have:(fun t=>(C p t).map fun S=>setV S (x.dm t))=fun _=>none:=funext fun t=>by rw[h1 t];rfl
  rw[this];exact fU_none k
 ·have:(fun l=>(G (p ++ [l])).map fun y=>ptr y.n)=fun _=>none:=funext fun l=>by rw[h2 l];rfl
  rw[this];exact fS_none k
structure TrI (w:World) (ρ : Nat->Role) (G:List (List UInt8)->Option Nd) (C:List (List UInt8)->Nat->Option Z.St) (K:Nat) (q:List (List UInt8)) (d:Nat) (W:World):Prop where
 tree:TreeAt W ρ (Z.cutG G q d) C K
 mv:ZMv ρ w W
theorem ownsRow_map {b:Nat} {w w':World} (h:Turn b w w') {base size k:Nat} {e:TypeId} {v:Value} {xs:List Value} (hr:w.ownsRow base e size v k xs):w'.ownsRow base e size v k xs:=by
 refine⟨hr.1,?_⟩
 rcases hr.2 with h1 | ⟨g,cap,cur,e1,h1,h2,h3⟩
 ·exact Or.inl h1
 ·refine Or.inr ⟨g,cap,cur,e1,h1,(h.block g fun e2=>?_).trans h2,h3⟩
  obtain⟨es,kk,hb⟩:=h.was
  rw[e2,hb] at h2;cases h2
set_option maxRecDepth 100000 in
set_option maxHeartbeats 2000000 in
theorem trim_any (w:World) (Zb:Nat) (av:Value) (cnt:Int) (ρ : Nat->Role) (G:List (List UInt8)->Option Nd) (C:List (List UInt8)->Nat->Option Z.St) (K:Nat) (T:TreeAt w ρ G C K) (hz:RowAt w Zb 93 #[av,ptr (nodeN G []),.int .i64 cnt]) (n:List (List UInt8)) (ao:Option Addr) (len cap:Nat) (hl:Hid (n.length=len)) (hs:SlS w ao n) (hm:Hid (N.Small n)) :
 Calls Tryz.prog 93 #[.pointer (some ⟨Zb,0,none⟩),.slice ao len cap] w fun e w'=>e = .returned (.tuple #[]) /\ ∃ d,d<=n.length/\TreeAt w' ρ (Z.cutG G (path n) d) C K/\ZMv ρ w w'/\(d=0\/(∃ t,(C ((path n).take d) t).isSome) \/ ∃ l,(Z.cutG G (path n) d ((path n).take d ++ [l])).isSome):=by
 have hL:len<=1000000:=by rw[<- hl.out];exact hm.out.1
 have HT:=hide T
 have HZ:=hide hz
 have HS:=hide hs
 have hlow : ∀ W,Below w.heap.size w W->Calls Tryz.prog 47 #[.slice ao len cap] W fun e w' => ∃ v,e = .returned v/\OwnS w' W.heap.size v (N.lowN n)/\Below W.heap.size W w':=fun W hW=>lower_any n ao len cap W hl (HS.out.below hW (Nat.le_refl _)) hm
 have hq0:path n=(N.lowN n).reverse:=rfl
 obtain⟨q,hq⟩ : ∃ q,q=path n:=⟨_,rfl⟩
 obtain⟨m,hme⟩ : ∃ m,m=N.lowN n:=⟨_,rfl⟩
 have hmq:q=m.reverse:=by rw[hq,hme];rfl
 have hml:m.length=len:=by rw[hme,N.lowN_len];exact hl.out
 have hqn:(N.lowN m)=m:=by
  have:=Z.Low.of n
  unfold Z.Low at this
  rw[hme];exact this
 have hms:N.Small m:=by
  rw[hme]
  refine⟨by rw[N.lowN_len];exact hm.out.1,fun l hl=>?_⟩
  unfold N.lowN at hl
  obtain⟨l0,h2,rfl⟩:=List.mem_map.1 hl
  rw[N.lowL_len];exact hm.out.2 l0 h2
 rw[<- hq]
 rw[<- hme] at hlow
 have HQ:=hide hq
 have HMQ:=hide hmq
 have HML:=hide hml
 have HQN:=hide hqn
 have HMS:=hide hms
 clear T hz hs hq hq0 hmq hml hqn hms hme
 go_enter Tryz.func93,Tryz.ntmps93
 go_wp2_with (first
  | (go_at_call 47;refine (hlow _ (Below.refl _ _)).mono ?_;rintro e w1 ⟨v1,rfl,hv1,hb1⟩;obtain⟨a1,c1,rfl,hs1,_,_⟩:=hv1.ty;rw[HML.out])
  | (go_at_call 62;refine (way_any w1 Zb av cnt ρ G C K (HT.out.below_ hb1) (HZ.out.below hb1 HZ.out.lt) m a1 len c1 HML.out hs1.1 HMS.out).mono ?_;rintro e w2 ⟨v2,rfl,k,hk,hg1,hg2,hrow,hb2⟩;obtain⟨g,c2,rfl⟩:=ownsRow_succ hrow;rw[HQN.out, <- HMQ.out] at hg1 hg2;rw[HQN.out] at hrow)
  | fail)
 have hb02:=hb1.trans (hb2.mono hb1.size)
 have hpre : ∀ j,j<=k->(G (q.take j)).isSome:=fun j hj=>by
  have:=HT.out.pre ((q.take k).drop j) (q.take j)
  refine this ?_
  have e:q.take j=(q.take k).take j:=by rw[List.take_take,Nat.min_eq_left hj]
  rw[e,List.take_append_drop];exact hg1
 have hqlen:q.length=len:=by rw[HMQ.out,List.length_reverse,HML.out]
 have hkl:k<=len:=by rw[<- HML.out];exact hk
 have hT0:TrI w ρ G C K q k w2:=⟨by rw[cutG_start HT.out (fun h=>hg2 (by rw[HML.out, <- hqlen];exact h))];exact HT.out.below_ hb02,ZMv.of_below hb02⟩
 have hlabel : ∀ e,e<len->m.getD (len - (e+1)) []=q.getD e []:=fun e he=>by
  have e1:=HMQ.out
  have e2:=HML.out
  rw[e1,List.getD_eq_getElem?_getD,List.getD_eq_getElem?_getD,List.getElem?_reverse (by omega)]
  congr 2;omega
 have HPRE:=hide hpre
 have HQL:=hide hqlen
 have HLB:=hide hlabel
 have hsm:=hs1.kb (KB.of_below hb2)
 have hlabs : ∀ l∈m,l.length<=1000000:=HMS.out.2
 have HLS:=hide hlabs
 have hw0:IntKind.i64.wrap (((k+1:Nat):Int) - 1)=(k:Int):=by rw[IntKind.wrap_i64];omega
 clear hpre hqlen hlabel hg1 hg2 hb1 hb2 hb02 hv1 hs1 hlow hlabs
 go_loopw [6] (fun i wr => ∃ d:Nat,i = .int .i64 (d:Int)/\d<=k/\TrI w ρ G C K q d wr/\wr.ownsRow w1.heap.size 90 1 (.slice (some ⟨g,0,none⟩) (k+1) c2) (k+1) (wayV G m k)/\TyS wr a1 m) (fun i _=>(intOf i).toNat)
 case atStart=>exact⟨k,by congr 1;(first | rfl | (unfold wrap64;omega) | (simp;unfold wrap64;omega)),Nat.le_refl _,hT0,hrow,hsm⟩
 case round =>
  obtain⟨d,rfl,hd,hI,hR,hT⟩:=hrel
  cases d with
  | zero =>
   have HI:=hide hI
   clear hI hR hT hrow hsm hT0
   go_wp2
   go_end0
   exact⟨rfl,0,Nat.zero_le _,HI.out.tree,HI.out.mv,Or.inl rfl⟩
  | succ e =>
   obtain⟨xd,hxd⟩:=Option.isSome_iff_exists.1 (HPRE.out (e+1) hd)
   obtain⟨xp,hxp⟩:=Option.isSome_iff_exists.1 (HPRE.out e (by omega))
   have hxd':Z.cutG G q (e+1) (q.take (e+1))=some xd:=by rw[cutG_at G q (Nat.le_refl _)];exact hxd
   have hxp':Z.cutG G q (e+1) (q.take e)=some xp:=by rw[cutG_at G q (Nat.le_succ _)];exact hxp
   have hemp:=empty_node wr (hI.tree.node _ xd hxd') (fun t S h=>(hI.tree.cov _ t S h).2)
   have c1:wr.cell? ⟨g,e+1,none⟩=some (.pointer (some ⟨xd.n,0,none⟩)):=by
    rw[World.ownsRow.cellAt hR (e+1) (by omega),wayV_get _ _ _ _ hd, <- HMQ.out,nodeN_of hxd];rfl
   have hlt1:((e+1:Nat):Int)<((k+1:Nat):Int):=by omega
   have hpos:(0:Int)<((e+1:Nat):Int):=by omega
   have HI:=hide hI
   have HR:=hide hR
   have HTy:=hide hT
   have HXP:=hide hxp
   have HXPc:=hide hxp'
   clear hI hR hT hrow hsm hT0 hxd hxd' hxp hxp'
   go_wp2_with (go_at_call 64;refine hemp.mono ?_;rintro e' wq ⟨r,rfl,hwq,hr⟩;rw[hwq];clear hwq wq;cases r)
   ·go_end0
    refine⟨rfl,e+1,by have:=HQL.out;have:=hl.out;omega,HI.out.tree,HI.out.mv,Or.inr ?_⟩
    refine Classical.byContradiction fun hno=>?_
    have h1:false=true:=hr.2 ⟨fun t=>?_,fun l=>?_⟩
    ·cases h1
    ·cases h2:C (q.take (e+1)) t with
     | none=>rfl
     | some S=>exact absurd (Or.inl ⟨t,by rw[h2];rfl⟩) hno
    ·cases h2:Z.cutG G q (e+1) (q.take (e+1) ++ [l]) with
     | none=>rfl
     | some y=>exact absurd (Or.inr ⟨l,by rw[h2];rfl⟩) hno
   ·obtain⟨h1,h2⟩:=hr.1 (by simp)
    have el:e<len:=by omega
    have hlb2:=HLB.out e el
    have hql:=HQL.out
    obtain⟨b1,o1,ea1,_,hc1⟩:=HTy.out.1 (by have:=HML.out;omega)
    subst ea1
    obtain⟨lx,hlx⟩ : ∃ lx,lx=q.getD e []:=⟨_,rfl⟩
    rw[<- hlx] at hlb2
    have hcl:wr.cell? ⟨b1,o1+(len - (e+1)),none⟩=some (.string ⟨lx.toArray⟩):=by
     rw[hc1 (len - (e+1)) (by have:=HML.out;omega),hlb2]
    have hlx1:lx.length<=1000000:=by
     rw[<- hlb2,List.getD_eq_getElem?_getD,List.getElem?_eq_getElem (by have:=HML.out;omega)]
     exact HLS.out _ (List.getElem_mem _)
    have cp:wr.cell? ⟨g,e,none⟩=some (.pointer (some ⟨xp.n,0,none⟩)):=by
     rw[World.ownsRow.cellAt HR.out e (by omega),wayV_get _ _ _ _ (by omega), <- HMQ.out,nodeN_of HXP.out];rfl
    have NP:=HI.out.tree.node _ xp HXPc.out
    have v1:wr.cell? ⟨xp.n,1,none⟩=some (.map (some xp.b)):=NP.row.cell 1
    obtain⟨w8,hrun,hM8,ht8⟩:=MapAt.drop NP.below.drew keyedS Tryz.underlying104 (keyS lx hlx1) 0
    have hwj:IntKind.i64.wrap (((e+1:Nat):Int) - 1)=(e:Int):=by rw[IntKind.wrap_i64];omega
    obtain⟨jj,hjj⟩ : ∃ jj,jj=len - (e+1):=⟨_,rfl⟩
    have hcl2:=hcl
    rw[<- hjj] at hcl
    have hwl:IntKind.i64.wrap ((len:Int) - ((e+1:Nat):Int))=(jj:Int):=by rw[IntKind.wrap_i64];omega
    have i1:(e:Int)<((k+1:Nat):Int):=by omega
    have i2:(jj:Int)<(len:Int):=by omega
    have HM8:=hide hM8
    have HT8:=hide ht8
    have HNP:=hide NP
    have H1:=hide h1
    have H2:=hide h2
    have HLX:=hide hlx
    have HJJ:=hide hjj
    clear hM8 ht8 NP h1 h2 hlx hjj hlb2 hc1 hr el hql
    (try go_wp2)
    go_region
    all_goals go_wp2
    all_goals go_roundw
    all_goals (try case' rel=>skip)
    case rel =>
     have T':Turn xp.b wr w8:=⟨HT8.out.os,HT8.out.tape,HT8.out.output,HT8.out.size,HT8.out.block,HT8.out.was,HT8.out.is_⟩
     have hql:=HQL.out
     have etl:q.take e ++ [lx]=q.take (e+1):=by
      have:=take_last q (d:=e+1) (by omega) (by omega)
      rw[Nat.add_sub_cancel] at this
      rw[HLX.out];exact this
     have hrb : ρ xp.b ≠ .none:=by rw[HI.out.tree.rb _ xp HXPc.out];simp
     refine⟨e,by first | rfl | simp,by omega,⟨?_,HI.out.mv.trans (ZMv.turn T' hrb) (fun _ _ h=>h)⟩,ownsRow_map T' HR.out,HTy.out.kb (KB.turn T')⟩
     have h3:=HI.out.tree.cut HXPc.out (l:=lx) (by rw[etl];exact H1.out) (by rw[etl];exact H2.out) T' (HM8.out.congr fun k=>fdel_S _ _ k)
     rw[etl,cutG_gput G q (by omega) (by omega)] at h3
     exact h3
    case measure=>simp[intOf]
open Go.RowKit
theorem TreeAt.new {w:World} {n s b:Nat} (hn:RowAt w n 106 #[.map (some s),.map (some b)]) (hs:MapU w s (fun _=>none) 0) (hb:MapS w b (fun _=>none) 0) (d1:n≠s) (d2:n≠b) (d3:s≠b) :
 TreeAt w (role3 (fun _ => .none) [] ⟨n,s,b,fun _=>0⟩) (gput (fun _=>none) [] (some ⟨n,s,b,fun _=>0⟩)) (fun _ _=>none) 0:=by
 have hg : ∀ q x,gput (fun _=>none) [] (some (⟨n,s,b,fun _=>0⟩:Nd)) q=some x->q = []/\x=(⟨n,s,b,fun _=>0⟩:Nd):=fun q x h=>by
  by_cases e:q = []
  ·rw[e,gput_same] at h;injection h with h;exact⟨e,h.symm⟩
  ·rw[gput_other _ e] at h;cases h
 refine⟨by rw[gput_same];rfl,fun p l h=>?_,fun p x hx=>?_,fun p t S h=>(by cases h),fun p x hx=>?_,fun p x hx=>?_,fun p x hx=>?_,fun p x t S _ h=>(by cases h),fun i hi=>?_⟩
 ·rw[gput_other _ (by simp)] at h;cases h
 ·obtain⟨rfl,rfl⟩:=hg p x hx
  refine⟨hn,MapU.ext hs fun t _=>rfl,MapS.ext hb fun l=>(by rw[gput_other _ (by simp)];rfl),fun t S h=>(by cases h)⟩
 ·obtain⟨rfl,rfl⟩:=hg p x hx
  unfold role3;rw[if_pos rfl]
 ·obtain⟨rfl,rfl⟩:=hg p x hx
  unfold role3;rw[if_neg (fun e=>d1 e.symm),if_pos rfl]
 ·obtain⟨rfl,rfl⟩:=hg p x hx
  unfold role3;rw[if_neg (fun e=>d2 e.symm),if_neg (fun e=>d3 e.symm),if_pos rfl]
 ·unfold role3 at hi
  by_cases e1:i=n
  ·rw[e1];exact Or.inr ⟨_,_,hn⟩
  ·by_cases e2:i=s
   ·rw[e2];obtain⟨es,k,h⟩:=hs.obj;exact Or.inl ⟨es,k,h⟩
   ·by_cases e3:i=b
    ·rw[e3];obtain⟨es,k,h⟩:=hb.obj;exact Or.inl ⟨es,k,h⟩
    ·exact absurd (by show (if i=n then Role.node [] else if i=s then .sets [] else if i=b then .below [] else .none) = .none;rw[if_neg e1,if_neg e2,if_neg e3]) hi
set_option maxHeartbeats 1000000 in
theorem znew_any (w:World) (n:List (List UInt8)) (ao:Option Addr) (len cap:Nat) (hl:Hid (n.length=len)) (hs:SlS w ao n) (hm:Hid (N.Small n)) :
 Calls Tryz.prog 11 #[.slice ao len cap] w fun e w' => ∃ Zb ρ G,e = .returned (.pointer (some ⟨Zb,0,none⟩))/\w.heap.size<=Zb/\ZAt w' Zb (N.lowN n) [] ρ G (fun _ _=>none) 0/\(∀ i,i<w.heap.size -> ρ i = .none)/\Below w.heap.size w w':=by
 have HS:=hide hs
 clear hs
 go_enter Tryz.func11,Tryz.ntmps11
 go_wp2_with (first
  | (go_at_call 47;refine (lower_any n ao len cap _ hl HS.out hm).mono ?_;rintro e w1 ⟨v1,rfl,hv1,hb1⟩;obtain⟨a1,c1,rfl,hs1,_,hc1⟩:=hv1.ty)
  | (go_at_call 48;refine (newNode_any _).mono ?_;rintro e w2 ⟨rfl,hw2⟩;unfold ptr))
 go_ret
 have hz1:=hb1.size
 obtain⟨w3,hw3⟩ : ∃ w3,w3=((w1.alloc (.map #[] 0)).alloc (.map #[] 0)).alloc (.cells #[.map (some w1.heap.size),.map (some (w1.heap.size+1))] 106):=⟨_,rfl⟩
 have hz3:w3.heap.size=w1.heap.size+3:=by rw[hw3];simp
 have hb3:Below w1.heap.size w1 w3:=by rw[hw3];exact (((Below.refl _ w1).alloc (Nat.le_refl _) _).alloc (by simp) _).alloc (by simp;omega) _
 have hn3:RowAt w3 (w1.heap.size+2) 106 #[.map (some w1.heap.size),.map (some (w1.heap.size+1))]:=by
  rw[hw3]
  have:=RowAt.new ((w1.alloc (.map #[] 0)).alloc (.map #[] 0)) 106 #[.map (some w1.heap.size),.map (some (w1.heap.size+1))]
  simpa using this
 have hs3:MapU w3 w1.heap.size (fun _=>none) 0:=by
  rw[hw3]
  refine (MapU.made w1 0).heap ?_
  rw[Below.heap_alloc _ _ _ (by simp;omega),Below.heap_alloc _ _ _ (by simp)]
 have hbm3:MapS w3 (w1.heap.size+1) (fun _=>none) 0:=by
  rw[hw3]
  have:=MapS.made (w1.alloc (.map #[] 0)) 0
  rw[World.size_alloc] at this
  exact this.heap (Below.heap_alloc _ _ _ (by simp))
 rw[<- hw3,show w1.heap.size+1+1+1=w3.heap.size from hz3.symm]
 have hal : ∀ o,Below w3.heap.size w3 (w3.alloc o):=fun o=>(Below.refl _ w3).alloc (Nat.le_refl _) o
 have T:=TreeAt.new hn3 hs3 hbm3 (by omega) (by omega) (by omega)
 refine⟨w3.heap.size,role3 (fun _ => .none) [] ⟨w1.heap.size+2,w1.heap.size,w1.heap.size+1,fun _=>0⟩,gput (fun _=>none) [] (some ⟨w1.heap.size+2,w1.heap.size,w1.heap.size+1,fun _=>0⟩),rfl,by omega,⟨⟨a1,c1,?_,(hs1.1.below hb3 (Nat.le_refl _)).below (hal _) (Nat.le_refl _),hc1⟩,T.below_ (hal _),Z.Of.nil,List.Pairwise.nil,fun _ h=>(by cases h),fun p hp=>?_,by simp,fun _ h=>(by cases h),?_⟩,fun i hi=>?_,?_⟩
 ·have:=RowAt.new w3 93 #[.slice a1 (N.lowN n).length c1,.pointer (some ⟨w1.heap.size+2,0,none⟩),.int .i64 0]
  exact this
 ·left
  by_cases e:p = []
  ·exact e
  ·rw[gput_other _ e] at hp;cases hp
 ·show role3 _ _ _ w3.heap.size=_
  unfold role3
  rw[if_neg (by show w3.heap.size≠w1.heap.size+2;omega),if_neg (by show w3.heap.size≠w1.heap.size;omega),if_neg (by show w3.heap.size≠w1.heap.size+1;omega)]
 ·unfold role3
  rw[if_neg (by show i≠w1.heap.size+2;omega),if_neg (by show i≠w1.heap.size;omega),if_neg (by show i≠w1.heap.size+1;omega)]
 ·exact (hb1.trans (hb3.mono hz1)).alloc (by omega) _
theorem zlen_any (w:World) (Zb:Nat) (A:List (List UInt8)) (L:List Z.R) (ρ : Nat->Role) (G:List (List UInt8)->Option Nd) (C:List (List UInt8)->Nat->Option Z.St) (K:Nat) (Zx:ZAt w Zb A L ρ G C K) :
 Calls Tryz.prog 14 #[.pointer (some ⟨Zb,0,none⟩)] w fun e w'=>e = .returned (.int .i64 (L.length:Int))/\w'=w:=by
 obtain⟨ao,cap,hr,_⟩:=Zx.row
 have x2:w.cell? ⟨Zb,2,none⟩=some (.int .i64 (L.length:Int)):=hr.cell 2
 clear Zx hr
 go_enter Tryz.func14,Tryz.ntmps14
 go_wp2
 go_ret
 exact⟨rfl,rfl⟩
theorem ZAt.has_iff {w:World} {Zb:Nat} {A:List (List UInt8)} {L:List Z.R} {ρ : Nat->Role} {G:List (List UInt8)->Option Nd} {C:List (List UInt8)->Nat->Option Z.St} {K:Nat} (Zx:ZAt w Zb A L ρ G C K) (p:List (List UInt8)):Z.has L p=true ↔ ¬ ((∀ t,C p t=none) /\ ∀ l,G (p ++ [l])=none):=by
 rw[Z.has_iff]
 constructor
 ·rintro⟨x,hx,r,hr⟩ ⟨h1,h2⟩
  obtain⟨S,hS⟩:=Zx.of.hasS hx
  cases r with
  | nil=>rw[List.append_nil] at hr;rw[<- hr,h1] at hS;cases hS
  | cons l r =>
   have h3:=(Zx.tree.cov _ _ S hS).1
   rw[<- hr] at h3
   have h4:=Zx.tree.pre r (p ++ [l]) (by simpa using h3)
   rw[h2 l] at h4;cases h4
 ·intro h
  refine Classical.byContradiction fun hno=>h ⟨fun t=>?_,fun l=>?_⟩
  ·cases hC:C p t with
   | none=>rfl
   | some S =>
    obtain⟨x,hx,e,_⟩:=Zx.of.ex p t S hC
    exact absurd ⟨x,hx,by rw[e];exact List.prefix_refl _⟩ hno
  ·cases hg:G (p ++ [l]) with
   | none=>rfl
   | some y =>
    rcases Zx.cov _ (by rw[hg];rfl) with e | ⟨x,hx,e⟩
    ·simp at e
    ·exact absurd ⟨x,hx,(List.prefix_append _ _).trans e⟩ hno
theorem ZAt.find {w:World} {Zb:Nat} {A:List (List UInt8)} {L:List Z.R} {ρ : Nat->Role} {G:List (List UInt8)->Option Nd} {C:List (List UInt8)->Nat->Option Z.St} {K:Nat} (Zx:ZAt w Zb A L ρ G C K) (n:List (List UInt8)) (ao:Option Addr) (len cap:Nat) (hl:Hid (n.length=len)) (hs:SlS w ao n) (hm:Hid (N.Small n)) :
 Calls Tryz.prog 58 #[.pointer (some ⟨Zb,0,none⟩),.slice ao len cap] w fun e w' => ∃ x:Nd,e = .returned (.pointer (some ⟨x.n,0,none⟩))/\Found w w' G C K (path n) x:=by
 obtain⟨aa,ac,hr,_⟩:=Zx.row
 exact find_any w Zb _ _ ρ G C K Zx.tree hr n ao len cap hl hs hm
theorem zhas_any (w:World) (Zb:Nat) (A:List (List UInt8)) (L:List Z.R) (ρ : Nat->Role) (G:List (List UInt8)->Option Nd) (C:List (List UInt8)->Nat->Option Z.St) (K:Nat) (Zx:ZAt w Zb A L ρ G C K) (n:List (List UInt8)) (ao:Option Addr) (len cap:Nat) (hl:Hid (n.length=len)) (hs:SlS w ao n) (hm:Hid (N.Small n)) :
 Calls Tryz.prog 29 #[.pointer (some ⟨Zb,0,none⟩),.slice ao len cap] w fun e w'=>e = .returned (.bool (Z.has L (path n)))/\Below w.heap.size w w':=by
 have hf:=Zx.find n ao len cap hl hs hm
 have HZ:=hide Zx
 have hh:=Zx.has_iff (path n)
 clear hs Zx
 go_enter Tryz.func29,Tryz.ntmps29
 go_wp2_with (first
  | (go_at_call 58;refine hf.mono ?_;rintro e w1 ⟨x,rfl,hF⟩)
  | (go_at_call 64;refine (empty_node w1 hF.node (fun t S h=>(HZ.out.tree.cov _ t S h).2)).mono ?_;rintro e wq ⟨r,rfl,hwq,hr⟩;rw[hwq];clear hwq wq))
 go_ret
 refine⟨?_,hF.bel⟩
 have:Z.has L (path n) = !r:=by
  rw[Bool.eq_iff_iff,hh, <- hr];simp
 rw[this];rfl
end Go.Proofs.YtbkegikdmmnkaaaGreat
namespace Go.Proofs.YtbkegikdmmnkaaaGreat
open Go.RowKit
set_option maxRecDepth 5000
def cutHit (A:List (List UInt8)) (C:List (List UInt8)->Nat->Option Z.St) (q:List (List UInt8)) (d:Nat):Prop:=A.length<d/\(C (q.take d) 2).isSome
def CutPost (w:World) (A:List (List UInt8)) (C:List (List UInt8)->Nat->Option Z.St) (n:List (List UInt8)) (e:Ending) (w':World):Prop :=
 Below w.heap.size w w'/\((e = .returned (.tuple #[.slice none 0 0,.bool false]) /\ ∀ d,d<=n.length -> ¬ cutHit A C (path n) d) \/
  ∃ (d b o c:Nat),d<=n.length/\cutHit A C (path n) d/\(∀ j,j<d -> ¬ cutHit A C (path n) j)/\e = .returned (.tuple #[.slice (some ⟨b,o,none⟩) d c,.bool true])/\TyS w' (some ⟨b,o,none⟩) ((N.lowN n).drop (n.length - d))/\d<=c)
set_option maxRecDepth 5000 in
theorem len_set {w:World} {C:List (List UInt8)->Nat->Option Z.St} {K:Nat} {L:List Z.R} {p:List (List UInt8)} {t:Nat} {mo:Option Nat} (hof:Z.Of L C) (h:DM w mo (Z.got C p t) K) (hmo:mo=none->C p t=none) :
 ∃ c:Nat,(Builtin.len_ #[99] 3 #[.map mo]).run Tryz.prog w = .ok (.int .i64 (c:Int)) w/\(0<c↔(C p t).isSome):=by
 cases mo with
 | none=>exact⟨0,rfl,by rw[hmo rfl];simp⟩
 | some m =>
  obtain⟨f,h1,h2⟩:=h
  obtain⟨c,h3,_,h4⟩:=h1.none_len keyedS Tryz.underlying99 3
  refine⟨c,h3,?_⟩
  have hsame : ∀ y,(Z.got C p t y).isSome=(f y).isSome:=fun y=>(h2 y).same.symm
  constructor
  ·intro hc
   refine Classical.byContradiction fun hn=>?_
   have hC:C p t=none:=by
    cases hC:C p t with
    | none=>rfl
    | some S=>rw[hC] at hn;exact absurd rfl hn
   have:c=0:=h4.2 fun x=>by
    cases x with
    | string y =>
     have h5:=hsame y
     unfold Z.got at h5;rw[hC] at h5
     show f y=none
     cases hf:f y with
     | none=>rfl
     | some v=>rw[hf] at h5;cases h5
    | _=>rfl
   omega
  ·intro hs
   obtain⟨S,hS⟩:=Option.isSome_iff_exists.1 hs
   obtain⟨y,hy,e1,e2⟩:=hof.ex p t S hS
   have h6:=(hof.at_ y hy S (by rw[e1,e2];exact hS)).2
   refine Nat.pos_of_ne_zero fun h0=>?_
   have h7:f y.c=none:=h4.1 h0 (.string y.c)
   have h5:=hsame y.c
   unfold Z.got at h5
   rw[hS,h7] at h5
   have h5:(S.g y.c).isSome=false:=h5
   rw[h6] at h5;cases h5
set_option maxRecDepth 100000 in
set_option maxHeartbeats 1000000 in
theorem zcut_any (w:World) (Zb:Nat) (A:List (List UInt8)) (L:List Z.R) (ρ : Nat->Role) (G:List (List UInt8)->Option Nd) (C:List (List UInt8)->Nat->Option Z.St) (K:Nat) (Zx:ZAt w Zb A L ρ G C K) (hA:A.length<=1000000) (n:List (List UInt8)) (ao:Option Addr) (len cap:Nat) (hl:Hid (n.length=len)) (hs:SlS w ao n) (hm:Hid (N.Small n)) :
 Calls Tryz.prog 26 #[.pointer (some ⟨Zb,0,none⟩),.slice ao len cap] w fun e w'=>CutPost w A C n e w':=by
 have hL:len<=1000000:=by rw[<- hl.out];exact hm.out.1
 obtain⟨aa,ac,hz,_,_⟩:=Zx.row
 have HX:=hide Zx
 have HZ:=hide hz
 have HS:=hide hs
 have hlow : ∀ W,Below w.heap.size w W->Calls Tryz.prog 47 #[.slice ao len cap] W fun e w' => ∃ v,e = .returned v/\OwnS w' W.heap.size v (N.lowN n)/\Below W.heap.size W w':=fun W hW=>lower_any n ao len cap W hl (HS.out.below hW (Nat.le_refl _)) hm
 obtain⟨q,hq⟩ : ∃ q,q=path n:=⟨_,rfl⟩
 obtain⟨m,hme⟩ : ∃ m,m=N.lowN n:=⟨_,rfl⟩
 have hmq:q=m.reverse:=by rw[hq,hme];rfl
 have hml:m.length=len:=by rw[hme,N.lowN_len];exact hl.out
 have hqn:(N.lowN m)=m:=by
  have:=Z.Low.of n
  unfold Z.Low at this
  rw[hme];exact this
 have hms:N.Small m:=by
  rw[hme]
  refine⟨by rw[N.lowN_len];exact hm.out.1,fun l hl=>?_⟩
  unfold N.lowN at hl
  obtain⟨l0,h2,rfl⟩:=List.mem_map.1 hl
  rw[N.lowL_len];exact hm.out.2 l0 h2
 unfold CutPost
 rw[<- hq, <- hme]
 rw[<- hme] at hlow
 have HLOW:=hide hlow
 have HMQ:=hide hmq
 have HML:=hide hml
 have HQN:=hide hqn
 have HMS:=hide hms
 clear Zx hz hs hq hmq hml hqn hms hme hlow
 go_enter Tryz.func26,Tryz.ntmps26
 go_wp2_with (first
  | (go_at_call 47;refine (HLOW.out _ (Below.refl _ _)).mono ?_;rintro e w1 ⟨v1,rfl,hv1,hb1⟩;obtain⟨a1,c1,rfl,hs1,_,hc1⟩:=hv1.ty;rw[HML.out] at hc1 ⊢)
  | (go_at_call 62;refine (way_any w1 Zb _ _ ρ G C K (HX.out.tree.below_ hb1) (HZ.out.below hb1 HZ.out.lt) m a1 len c1 HML.out hs1.1 HMS.out).mono ?_;rintro e w2 ⟨v2,rfl,k,hk,hg1,hg2,hrow,hb2⟩;obtain⟨g,c2,rfl⟩:=ownsRow_succ hrow;rw[HQN.out, <- HMQ.out] at hg1 hg2;rw[HQN.out] at hrow)
  | fail)
 have hb02:=hb1.trans (hb2.mono hb1.size)
 have hpre : ∀ j,j<=k->(G (q.take j)).isSome:=fun j hj=>by
  have:=HX.out.tree.pre ((q.take k).drop j) (q.take j)
  refine this ?_
  have e:q.take j=(q.take k).take j:=by rw[List.take_take,Nat.min_eq_left hj]
  rw[e,List.take_append_drop];exact hg1
 have hqlen:q.length=len:=by rw[HMQ.out,List.length_reverse,HML.out]
 have hkl:k<=len:=by rw[<- HML.out];exact hk
 have hdeep : ∀ d,k<d->d<=len->C (q.take d) 2=none:=fun d h1 h2=>by
  have h3:=hg2 (by rw[HML.out];omega)
  have h4:=HX.out.tree.no_below h3 ((q.take d).drop (k+1))
  have e:q.take (k+1)=(q.take d).take (k+1):=by rw[List.take_take,Nat.min_eq_left (by omega)]
  rw[e,List.take_append_drop] at h4
  exact HX.out.tree.no_sets h4 2
 have hsm:=hs1.kb (KB.of_below hb2)
 have HPRE:=hide hpre
 have HQL:=hide hqlen
 have HDP:=hide hdeep
 have HSM:=hide hsm
 have HB2:=hide hb02
 have HT2:=hide (HX.out.tree.below_ hb02)
 have HR:=hide hrow
 have hz2:=HZ.out.below hb02 HZ.out.lt
 have z0:w2.cell? ⟨Zb,0,none⟩=some (.slice aa A.length ac):=hz2.cell 0
 clear hpre hqlen hdeep hg1 hg2 hb1 hb2 hb02 hv1 hs1 hsm hrow hz2
 go_loopw [15] (fun i wr => ∃ j:Nat,i = .int .i64 (j:Int)/\j<=k+1/\wr=w2 /\ ∀ d,d<j -> ¬ cutHit A C q d) (fun i _=>k+1 - (intOf i).toNat)
 case atStart=>exact⟨0,rfl,Nat.zero_le _,rfl,fun d hd=>absurd hd (Nat.not_lt_zero d)⟩
 case round =>
  obtain⟨j,rfl,hj,rfl,hno⟩:=hrel
  have HNO:=hide hno
  clear hno
  by_cases hlast:j=k+1
  ·subst hlast
   go_wp2
   go_ret2
   refine⟨HB2.out,Or.inl ⟨rfl,fun d hd h=>?_⟩⟩
   by_cases hdk:d<=k
   ·exact HNO.out d (by omega) h
   ·have:=h.2
    rw[HDP.out d (by omega) (by rw[<- hl.out];exact hd)] at this;cases this
  ·have hlt:(j:Int)<(k:Int)+1:=by omega
   obtain⟨x,hx⟩:=Option.isSome_iff_exists.1 (HPRE.out j (by omega))
   have NX:=HT2.out.node _ x hx
   have c1:wr.cell? ⟨g,j,none⟩=some (.pointer (some ⟨x.n,0,none⟩)):=by
    rw[World.ownsRow.cellAt HR.out j (by omega),wayV_get _ _ _ _ (by omega), <- HMQ.out,nodeN_of hx];rfl
   have x0:wr.cell? ⟨x.n,0,none⟩=some (.map (some x.s)):=NX.row.cell 0
   obtain⟨T0,mo,hmo,hmn⟩ : ∃ (T0:Nat) (mo:Option Nat),((C (q.take j) 2).map fun S=>setV S (x.dm 2)).getD (.agg #[.int .u32 0,.map none]) = .agg #[.int .u32 (T0:Int),.map mo]/\(mo=none->C (q.take j) 2=none):=by
    cases hC:C (q.take j) 2 with
    | none=>exact⟨0,none,rfl,fun _=>rfl⟩
    | some S=>exact⟨S.ttl,some (x.dm 2),rfl,fun h=>by cases h⟩
   have F:Found wr wr G C K (q.take j) x:=⟨NX,Or.inl hx,Below.refl _ _⟩
   have hlk:(Instr.lookup 103 (.map (some x.s)) (.int .u16 2) false).run Tryz.prog wr = .ok (.agg #[.int .u32 (T0:Int),.map mo]) wr:=by rw[<- hmo];exact (NX.lookup 2 (by omega) wr rfl).2
   obtain⟨cn,hln,hpos⟩:=len_set HX.out.of (F.dm 2 T0 mo hmo) hmn
   have hfd:(Instr.field 101 (.agg #[.int .u32 (T0:Int),.map mo]) 1).run Tryz.prog wr = .ok (.map mo) wr:=by rfl
   have HPOS:=hide hpos
   have HJ:=hide hlast
   have HMN:=hide hmn
   have HM0:=hide hmo
   have HNX:=hide NX
   have HF:=hide F
   clear hx NX hmo hmn F hpos hlast
   by_cases hd:A.length<j
   ·have hdb:((A.length:Int)<(j:Int)):=by omega
    by_cases hc:0<cn
    ·have hcb:((0:Int)<(cn:Int)):=by omega
     have hcut:IntKind.i64.wrap ((len:Int) - (j:Int))=((len - j:Nat):Int):=by rw[IntKind.wrap_i64];omega
     obtain⟨b1,o1,ea1,_,_⟩:=HSM.out.1 (by have:=HML.out;omega)
     subst ea1
     go_wp2
     go_ret2
     have hjl:j<=len:=by omega
     have e1:len - (len - j)=j:=by omega
     rw[e1]
     refine⟨HB2.out,Or.inr ⟨j,b1,o1+(len - j),_,by rw[hl.out];exact hjl,⟨hd,HPOS.out.1 hc⟩,HNO.out,rfl,⟨?_,fun a e=>?_⟩,?_⟩⟩
     ·rw[hl.out];exact HSM.out.1.drop (by rw[HML.out];omega)
     ·obtain rfl:=Option.some.inj e
      exact HSM.out.2 ⟨b1,o1,none⟩ rfl
     ·omega
    ·have hcb:decide ((0:Int)<(cn:Int))=false:=by simp;omega
     go_wp2
     refine⟨⟨j+1,by simp,by omega,trivial,fun d hd2 h=>?_⟩,by simp[intOf];omega⟩
     by_cases e:d=j
     ·rw[e] at h;exact hc (HPOS.out.2 h.2)
     ·exact HNO.out d (by omega) h
   ·have hdb:decide ((A.length:Int)<(j:Int))=false:=by simp;omega
    go_wp2
    refine⟨⟨j+1,by simp,by omega,trivial,fun d hd2 h=>?_⟩,by simp[intOf];omega⟩
    by_cases e:d=j
    ·rw[e] at h;exact hd h.1
    ·exact HNO.out d (by omega) h
end Go.Proofs.YtbkegikdmmnkaaaGreat
namespace Go.Proofs.YtbkegikdmmnkaaaGreat
set_option maxRecDepth 5000
namespace Z
theorem sets_len (L:List R) (p:List (List UInt8)) : ∀ (ts:List Nat),ts.Nodup->(ts.map fun s=>(setAt L p s).length).sum=(L.filter fun x=>decide (x.p=p) && decide (x.t∈ts)).length
 | [],_=>by
  have:L.filter (fun x=>decide (x.p=p) && decide (x.t∈([]:List Nat))) = []:=List.filter_eq_nil_iff.2 fun a _=>by simp
  rw[this];rfl
 | s::ts,h=>by
  rw[List.nodup_cons] at h
  have ih:=sets_len L p ts h.2
  rw[List.map_cons,List.sum_cons,ih]
  unfold setAt
  clear ih
  induction L with
  | nil=>rfl
  | cons a L ihL =>
   simp only[List.filter_cons]
   by_cases e:a.p=p
   ·by_cases e1:a.t=s
    ·have h1:(decide (a.p=p) && decide (a.t=s))=true:=by simp[e,e1]
     have h2:(decide (a.p=p) && decide (a.t∈ts))=false:=by simp[e1,h.1]
     have h3:(decide (a.p=p) && decide (a.t∈s::ts))=true:=by simp[e,e1]
     rw[h1,h2,h3,if_pos rfl,if_neg (by simp),if_pos rfl,List.length_cons,List.length_cons]
     omega
    ·have h1:(decide (a.p=p) && decide (a.t=s))=false:=by simp[e1]
     by_cases e2:a.t∈ts
     ·have h2:(decide (a.p=p) && decide (a.t∈ts))=true:=by simp[e,e2]
      have h3:(decide (a.p=p) && decide (a.t∈s::ts))=true:=by simp[e,e2]
      rw[h1,h2,h3,if_pos rfl,if_neg (by simp),if_pos rfl,List.length_cons,List.length_cons]
      omega
     ·have h2:(decide (a.p=p) && decide (a.t∈ts))=false:=by simp[e2]
      have h3:(decide (a.p=p) && decide (a.t∈s::ts))=false:=by simp[e1,e2]
      rw[h1,h2,h3,if_neg (by simp),if_neg (by simp),if_neg (by simp)]
      exact ihL
   ·have h1 : ∀ b:Bool,(decide (a.p=p) && b)=false:=fun b=>by simp[e]
    rw[h1,h1,h1,if_neg (by simp),if_neg (by simp),if_neg (by simp)]
    exact ihL
def dropTs (L:List R) (p:List (List UInt8)) (t:Nat):List Nat:=if t=255 then typesAt L p else [t]
theorem dropTs_nodup {L:List R} (h:L.Pairwise rlt) (p:List (List UInt8)) (t:Nat):(dropTs L p t).Nodup:=by
 unfold dropTs
 split
 ·exact (types_rise h p).1.imp fun {a b} hab=>by omega
 ·simp
theorem dropSet_len {L:List R} (h:L.Pairwise rlt) (p:List (List UInt8)) (t:Nat):(dropSet L p t).length+((dropTs L p t).map fun s=>(setAt L p s).length).sum=L.length:=by
 rw[sets_len L p _ (dropTs_nodup h p t)]
 have e:L.filter (fun x=>decide (x.p=p) && decide (x.t∈dropTs L p t))=L.filter (isS p t):=by
  refine List.filter_congr fun x hx=>?_
  unfold isS dropTs
  by_cases hp:x.p=p
  ·by_cases ht:t=255
   ·have:x.t∈typesAt L p:=((types_rise h p).2 x.t).2 ⟨x,hx,hp,rfl⟩
    simp[hp,ht,this]
   ·simp[hp,ht]
  ·simp[hp]
 rw[e]
 unfold dropSet
 clear e h
 induction L with
 | nil=>rfl
 | cons a L ih =>
  cases hk:isS p t a with
  | true=>rw[List.filter_cons_of_neg (by rw[hk];simp),List.filter_cons_of_pos hk,List.length_cons,List.length_cons];omega
  | false=>rw[List.filter_cons_of_pos (by rw[hk];rfl),List.filter_cons_of_neg (by rw[hk];simp),List.length_cons,List.length_cons];omega
end Z
end Go.Proofs.YtbkegikdmmnkaaaGreat
namespace Go.Proofs.YtbkegikdmmnkaaaGreat
set_option maxRecDepth 5000
open Go.RowKit
set_option maxRecDepth 5000 in
theorem count_set {w:World} {C:List (List UInt8)->Nat->Option Z.St} {K:Nat} {L:List Z.R} (hr:L.Pairwise Z.rlt) {p:List (List UInt8)} {t:Nat} {mo:Option Nat} (hof:Z.Of L C) (h:DM w mo (Z.got C p t) K) (hmo:mo=none->C p t=none) :
 (Builtin.len_ #[99] 3 #[.map mo]).run Tryz.prog w = .ok (.int .i64 ((Z.setAt L p t).length:Int)) w:=by
 cases mo with
 | none =>
  have h0:Z.setAt L p t = []:=List.filter_eq_nil_iff.2 fun x hx hk=>by
   have hk:x.p=p/\x.t=t:=by simpa using hk
   exact hof.no p t (hmo rfl) x hx hk
  rw[h0];rfl
 | some m =>
  obtain⟨f,h1,h2⟩:=h
  have hsame : ∀ y,(Z.got C p t y).isSome=(f y).isSome:=fun y=>(h2 y).same.symm
  have hinj : ∀ a b:List UInt8,Lit.string a=Lit.string b->a=b:=fun a b e=>by injection e
  have hnd:(((Z.setAt L p t).map (·.c)).map Lit.string).Nodup:=by
   unfold List.Nodup
   rw[List.pairwise_map]
   refine (Z.setAt_rise hr p t).imp ?_
   intro a b hab e
   have e2:=hinj a b e
   rw[e2] at hab
   exact Z.blt_irr b hab
  have h3:=h1.len keyedS Tryz.underlying99 (((Z.setAt L p t).map (·.c)).map Lit.string) hnd (fun x=>by
   rw[List.mem_map]
   constructor
   ·rintro⟨c,hc,rfl⟩
    show (f c).isSome=true
    rw[<- hsame]
    obtain⟨r,hr1,rfl⟩:=List.mem_map.1 hc
    obtain⟨hrL,e1,e2⟩:=Z.mem_setAt.1 hr1
    obtain⟨S,hS⟩:=hof.hasS hrL
    have h4:=(hof.at_ r hrL S hS).2
    rw[e1,e2] at hS
    unfold Z.got;rw[hS]
    show (S.g r.c).isSome=true
    rw[h4];rfl
   ·intro hx
    cases x with
    | string c =>
     have hx:(f c).isSome=true:=hx
     rw[<- hsame] at hx
     refine⟨c,?_,rfl⟩
     cases hC:C p t with
     | none=>unfold Z.got at hx;rw[hC] at hx;cases hx
     | some S =>
      unfold Z.got at hx;rw[hC] at hx
      exact (hof.mem_c hC c).2 hx
    | _=>cases hx) 3
  rw[List.length_map,List.length_map] at h3
  exact h3
end Go.Proofs.YtbkegikdmmnkaaaGreat
namespace Go.Proofs.YtbkegikdmmnkaaaGreat
set_option maxRecDepth 5000
open Go.RowKit
theorem gput_self {G:List (List UInt8)->Option Nd} {p:List (List UInt8)} {x:Nd} (hx:G p=some x):gput G p (some x)=G:=by
 funext q
 by_cases e:q=p
 ·rw[e,gput_same,hx]
 ·rw[gput_other G e]
theorem TreeAt.del {w w':World} {ρ : Nat->Role} {G:List (List UInt8)->Option Nd} {C C':List (List UInt8)->Nat->Option Z.St} {K:Nat} (T:TreeAt w ρ G C K) {p:List (List UInt8)} {x:Nd} (hx:G p=some x) (bad:Nat->Prop) (hC : ∀ q t,q≠p->C' q t=C q t) (hC2 : ∀ t,¬ bad t->C' p t=C p t)
 (h0:Below 0 w w') (hoth : ∀ i,i<w.heap.size->i≠x.s->(∀ t,bad t -> ρ i ≠ .data p t)->w'.heap[i]?=w.heap[i]?) (hsets:MapU w' x.s (fun s=>(C' p s).map fun S=>setV S (x.dm s)) K)
 (hdat : ∀ t S,bad t->C' p t=some S->(C p t).isSome /\ ∃ h,MapS w' (x.dm t) h K /\ ∀ y,DIs w' (S.g y) (h y)) (hmap : ∀ i t,bad t -> ρ i = .data p t->ZObj w' i):TreeAt w' ρ G C' K/\ZMv ρ w w':=by
 have hsz:=h0.size
 have hslL : ∀ ao l,SlL w ao l->SlL w' ao l:=fun ao l=>slL_keep hsz fun i hi hz=>by
  have h0 : ρ i = .none:=Classical.byContradiction fun h0=>hz (T.kind i h0)
  exact hoth i hi (fun e=>by rw[e,T.rs p x hx] at h0;cases h0) (fun t _ e=>by rw[e] at h0;cases h0)
 have h1:TreeAt w' ρ (gput G p (some x)) C' K:=by
  refine T.turn hx rfl rfl rfl hC (Nat.le_refl _) (More.refl _ _) hsz (fun i hi h1 h2=>hoth i hi (fun e=>h1 (by rw[e];exact T.rs p x hx)) (fun t _ e=>h2 t e)) hsets (fun t S hS=>?_) (fun i hi=>?_)
  ·by_cases hb:bad t
   ·obtain⟨hs,h3⟩:=hdat t S hb hS
    obtain⟨S0,hS0⟩:=Option.isSome_iff_exists.1 hs
    exact⟨(T.cov p t S0 hS0).2,T.rd p x t S0 hx hS0,h3⟩
   ·rw[hC2 t hb] at hS
    obtain⟨h,h4,h5⟩:=(T.node p x hx).data t S hS
    have hr:=T.rd p x t S hx hS
    refine⟨(T.cov p t S hS).2,hr,h,h4.heap (hoth _ h4.lt (fun e=>?_) (fun s hs e=>?_)),fun y=>(h5 y).keep hslL⟩
    ·rw[e,T.rs p x hx] at hr;cases hr
    ·rw[hr] at e;injection e with _ e;exact hb (by rw[e];exact hs)
  ·by_cases e:i=x.s
   ·rw[e];obtain⟨es,k,h⟩:=hsets.obj;exact Or.inl ⟨es,k,h⟩
   ·by_cases e2 : ∃ t,bad t /\ ρ i = .data p t
    ·obtain⟨t,hb,e2⟩:=e2;exact hmap i t hb e2
    ·exact (T.kind i hi).heap (hoth i (T.kind i hi).lt e fun t hb h=>e2 ⟨t,hb,h⟩)
 rw[gput_self hx] at h1
 exact⟨h1,h0.os,h0.tape,h0.output,hsz,fun i hi h2=>hoth i hi (fun e=>by rw[e,T.rs p x hx] at h2;cases h2) (fun t _ e=>by rw[e] at h2;cases h2)⟩
set_option maxHeartbeats 1500000 in
theorem ndrop_any (w:World) {ρ : Nat->Role} {G:List (List UInt8)->Option Nd} {C:List (List UInt8)->Nat->Option Z.St} {K:Nat} (T:TreeAt w ρ G C K) {p:List (List UInt8)} {x:Nd} (hx:G p=some x) (t:Nat) (ht:t<65536) (c:List UInt8) (ca:Option Addr) (cc:Nat) (hsc:SlL w ca c) (hc8:c.length<=1000000) (S:Z.St) (hS:C p t=some S) :
 Calls Tryz.prog 92 #[.pointer (some ⟨x.n,0,none⟩),.int .u16 (t:Int),.slice ca c.length cc] w fun e w'=>e = .returned (.tuple #[]) /\ ∃ last:Bool,(last=true ↔ ∀ y,y≠c->S.g y=none)/\TreeAt w' ρ G (Z.cdel C p t c last) K/\ZMv ρ w w':=by
 obtain⟨m,hm⟩ : ∃ m,m=x.dm t:=⟨_,rfl⟩
 have NX:=T.node p x hx
 obtain⟨h0,hmap,hdi⟩:=NX.data t S hS
 rw[<- hm] at hmap
 have hmr:=T.rd p x t S hx hS
 rw[<- hm] at hmr
 have hmn:m≠x.n:=fun e=>by rw[e,T.rn p x hx] at hmr;cases hmr
 have hms:m≠x.s:=fun e=>by rw[e,T.rs p x hx] at hmr;cases hmr
 obtain⟨w1,hw1⟩ : ∃ w1,w1=w.alloc (.cells #[.int .u32 (S.ttl:Int),.map (some m)] 101):=⟨_,rfl⟩
 have hb1:Below w.heap.size w w1:=by rw[hw1];exact (Below.refl _ w).alloc (Nat.le_refl _) _
 have hz1:w1.heap.size=w.heap.size+1:=by rw[hw1];simp
 have hbx:RowAt w1 w.heap.size 101 #[.int .u32 (S.ttl:Int),.map (some m)]:=by rw[hw1];exact RowAt.new w _ _
 have x0:w.cell? ⟨x.n,0,none⟩=some (.map (some x.s)):=NX.row.cell 0
 have hlk:=(NX.lookup t ht w rfl).2
 rw[hS] at hlk
 have hmv:setV S (x.dm t) = .agg #[.int .u32 (S.ttl:Int),.map (some m)]:=by rw[hm];rfl
 simp only[Option.map_some,Option.getD_some,hmv] at hlk
 have hcv:(convert 37 9 (.slice ca c.length cc)).run Tryz.prog w1 = .ok (.string ⟨c.toArray⟩) w1:=run_str c.length cc (hsc.below hb1 (Nat.le_refl _)) rfl
 have y1:w1.cell? ⟨w.heap.size,1,none⟩=some (.map (some m)):=hbx.cell 1
 have hm1:MapS w1 m h0 K:=hmap.heap (hb1.block _ hmap.lt)
 obtain⟨w2,hrun2,hM2,ht2⟩:=MapAt.drop hm1 keyedS Tryz.underlying99 (keyS c hc8) 0
 have hM2':MapS w2 m (sdel h0 c) K:=hM2.congr fun k=>fdel_S _ _ k
 have hbx2:RowAt w2 w.heap.size 101 #[.int .u32 (S.ttl:Int),.map (some m)]:=(ht2.block _ (fun e=>by have:=hmap.lt;omega)).trans hbx
 have y2:w2.cell? ⟨w.heap.size,1,none⟩=some (.map (some m)):=hbx2.cell 1
 obtain⟨cnt,hlen,_,hcnt⟩:=hM2'.none_len keyedS Tryz.underlying99 3
 have hlast:(cnt=0 ↔ ∀ y,y≠c->S.g y=none):=hcnt.trans ⟨(fun h y hy=>by
  have h1:=h (.string y)
  have h1:sdel h0 c y=none:=h1
  unfold sdel at h1;rw[if_neg hy] at h1
  have h2:=(hdi y).same
  rw[h1] at h2
  cases hg:S.g y with
  | none=>rfl
  | some d=>rw[hg] at h2;cases h2),(fun h k=>by
  cases hk:fS (sdel h0 c) k with
  | none=>rfl
  | some v =>
   obtain⟨s,rfl⟩:=fS_some (h:=sdel h0 c) (k:=k) (by rw[hk];rfl)
   have h1:sdel h0 c s=some v:=hk
   unfold sdel at h1
   by_cases e:s=c
   ·rw[if_pos e] at h1;cases h1
   ·rw[if_neg e] at h1
    have h2:=(hdi s).same
    rw[h s e,h1] at h2;cases h2)⟩
 have hrx2:RowAt w2 x.n 106 #[.map (some x.s),.map (some x.b)]:=(ht2.block _ (fun e=>hmn e.symm)).trans (NX.row.below hb1 NX.row.lt)
 have x2:w2.cell? ⟨x.n,0,none⟩=some (.map (some x.s)):=hrx2.cell 0
 have hse2:MapU w2 x.s (fun t=>(C p t).map fun S=>setV S (x.dm t)) K:=(NX.sets.heap (hb1.block _ NX.sets.lt)).heap (ht2.block _ (fun e=>hms e.symm))
 obtain⟨w3,hrun3,hM3,ht3⟩:=MapAt.drop hse2 keyedH Tryz.underlying103 (keyH t ht) 0
 have hb2:Below 0 w w2:=⟨ht2.os.trans hb1.os,ht2.tape.trans hb1.tape,ht2.output.trans hb1.output,by have:=ht2.size;omega,fun i hi=>by omega⟩
 have ho2 : ∀ i,i<w.heap.size->i≠m->w2.heap[i]?=w.heap[i]?:=fun i hi h1=>(ht2.block i h1).trans (hb1.block i hi)
 have hsl2 : ∀ ao l,SlL w ao l->SlL w2 ao l:=fun ao l hs=>slL_map ht2 (hs.below hb1 (Nat.le_refl _))
 have hsl3 : ∀ ao l,SlL w2 ao l->SlL w3 ao l:=fun ao l hs=>slL_map ht3 hs
 have HALL:=hide (And.intro hM2' (And.intro hM3 (And.intro ht2 (And.intro ht3 (And.intro hb2 (And.intro ho2 (And.intro hsl2 (And.intro hsl3 (And.intro hse2 (And.intro hlast (And.intro hdi hmr)))))))))))
 have HT:=hide T
 have HM:=hide hm
 have HMS:=hide hms
 subst hw1
 clear hM2' hM3 ht2 ht3 hb2 ho2 hsl2 hsl3 hse2 hlast hdi hmr hM2 hcnt hmn hms hm hb1 hz1 hbx hbx2 hrx2 hmap hm1 T NX hmv
 go_enter Tryz.func92,Tryz.ntmps92
 by_cases hc0:cnt=0
 ·have hcb:((cnt:Int) == 0)=true:=by simp[hc0]
  go_wp2
  go_end0
  obtain⟨hM2',hM3,ht2,ht3,hb2,ho2,hsl2,hsl3,hse2,hlast,hdi,hmr⟩:=HALL.out
  have hC1 : ∀ s,Z.cdel C p t c true p s=if s=t then none else C p s:=fun s=>by
   unfold Z.cdel
   by_cases e:s=t
   ·rw[if_pos ⟨rfl,e⟩,if_pos e];rfl
   ·rw[if_neg (fun h=>e h.2),if_neg e]
  refine⟨rfl,true,⟨fun _=>hlast.1 hc0,fun _=>rfl⟩,HT.out.del hx (fun s=>s=t) (fun q s hq=>by unfold Z.cdel;rw[if_neg (fun h=>hq h.1)]) (fun s hs=>by rw[hC1,if_neg hs]) ⟨ht3.os.trans hb2.os,ht3.tape.trans hb2.tape,ht3.output.trans hb2.output,by have:=ht3.size;have:=hb2.size;omega,fun i hi=>by omega⟩ (fun i hi h1 h2=>?_) ?_ (fun s S' hs h=>by rw[hC1,if_pos hs] at h;cases h) (fun i s hs hr=>?_)⟩
  ·refine (ht3.block i h1).trans (ho2 i hi (fun e=>h2 t rfl ?_))
   rw[e];exact hmr
  ·refine MapU.ext (hM3.congr fun k=>fdel_U _ t ht k) fun s hs=>?_
   rw[hC1]
   by_cases e:s=t
   ·rw[if_pos e];simp[udel,e]
   ·rw[if_neg e];simp[udel,e]
  ·by_cases e:i=m
   ·obtain⟨es,k,h⟩:=hM2'.obj
    exact Or.inl ⟨es,k,by rw[e,ht3.block m HMS.out];exact h⟩
   ·subst hs
    refine (HT.out.kind i (by rw[hr];simp)).heap ((ht3.block i (fun e2=>?_)).trans (ho2 i (HT.out.kind i (by rw[hr];simp)).lt e))
    rw[e2,HT.out.rs p x hx] at hr;cases hr
 ·have hcb:((cnt:Int) == 0)=false:=by simp[hc0]
  go_wp2
  go_end0
  obtain⟨hM2',hM3,ht2,ht3,hb2,ho2,hsl2,hsl3,hse2,hlast,hdi,hmr⟩:=HALL.out
  have hC1 : ∀ s,Z.cdel C p t c false p s=if s=t then some ⟨S.ttl,fun y=>if y=c then none else S.g y⟩ else C p s:=fun s=>by
   unfold Z.cdel
   by_cases e:s=t
   ·rw[if_pos ⟨rfl,e⟩,if_pos e,hS];rfl
   ·rw[if_neg (fun h=>e h.2),if_neg e]
  refine⟨rfl,false,⟨(fun h=>by cases h),fun h=>absurd (hlast.2 h) hc0⟩,HT.out.del hx (fun s=>s=t) (fun q s hq=>by unfold Z.cdel;rw[if_neg (fun h=>hq h.1)]) (fun s hs=>by rw[hC1,if_neg hs]) hb2 (fun i hi h1 h2=>?_) ?_ (fun s S' hs h=>?_) (fun i s hs hr=>?_)⟩
  ·refine ho2 i hi (fun e=>h2 t rfl ?_)
   rw[e];exact hmr
  ·refine MapU.ext hse2 fun s hs=>?_
   rw[hC1]
   by_cases e:s=t
   ·rw[if_pos e,e,hS];rfl
   ·rw[if_neg e]
  ·rw[hC1,if_pos hs] at h
   injection h with h
   subst h;subst hs
   refine⟨by rw[hS];rfl,_,by rw[<- HM.out];exact hM2',fun y=>?_⟩
   by_cases e:y=c
   ·show DIs w2 (if y=c then none else S.g y) _
    rw[if_pos e];simp[sdel,e,DIs]
   ·show DIs w2 (if y=c then none else S.g y) _
    rw[if_neg e]
    have e9:sdel h0 c y=h0 y:=by simp[sdel,e]
    rw[e9];exact (hdi y).keep hsl2
  ·by_cases e:i=m
   ·obtain⟨es,k,h⟩:=hM2'.obj
    exact Or.inl ⟨es,k,by rw[e];exact h⟩
   ·exact (HT.out.kind i (by rw[hr];simp)).heap (ho2 i (HT.out.kind i (by rw[hr];simp)).lt e)
end Go.Proofs.YtbkegikdmmnkaaaGreat
