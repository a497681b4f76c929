/- The reference's Same, Within, Compare (texts of stage 3, at this seat). -/
import Derived.Test.YtbkegikdmmnkaaaGreatNdr
import Derived.Test.YtbkegikdmmnkaaaGreatZpl2
import Derived.Deep.RegionHeld3
import Derived.Deep.RegionWith
import Derived.BigQuiet
import Derived.Deep.QuietTactic
import Derived.Test.YtbkegikdmmnkaaaGreatTyA
import Derived.RangeFuncBox
import Derived.Deep.Cut
import Derived.Test.YtbkegikdmmnkaaaGreatZpl
import Derived.BigRegion
namespace Go.Proofs.YtbkegikdmmnkaaaGreat
set_option maxRecDepth 5000
open Go.RowKit
theorem Z.drop_len {L:List Z.R} (h:L.Pairwise Z.rlt) (p:List (List UInt8)) (t:Nat) (c:List UInt8) (hx : ∃ x∈L,x.p=p/\x.t=t/\x.c=c):(Z.drop L p t c).length+1=L.length:=by
 induction L with
 | nil=>obtain⟨x,hx,_⟩:=hx;cases hx
 | cons a L ih =>
  rw[List.pairwise_cons] at h
  unfold Z.drop
  by_cases e:a.p=p/\a.t=t/\a.c=c
  ·rw[List.filter_cons_of_neg (by rw[Z.isK_iff.2 e];simp)]
   have:L.filter (fun x => !Z.isK p t c x)=L:=by
    refine List.filter_eq_self.2 fun y hy=>?_
    cases hk:Z.isK p t c y with
    | false=>rfl
    | true =>
     obtain⟨e1,e2,e3⟩:=Z.isK_iff.1 hk
     have h0:Z.cmpK a y=0:=by
      unfold Z.cmpK
      rw[e.1,e1,if_pos ((N.cmpR_zero).2 rfl),e.2.1,e2,if_pos rfl,e.2.2,e3];exact N.cmpB_zero.2 rfl
     have h1:=h.1 y hy
     unfold Z.rlt at h1;omega
   rw[this];rfl
  ·have hk:Z.isK p t c a=false:=by
    cases hk:Z.isK p t c a with
    | false=>rfl
    | true=>exact absurd (Z.isK_iff.1 hk) e
   rw[List.filter_cons_of_pos (by rw[hk];rfl),List.length_cons,List.length_cons]
   have:=ih h.2 (by
    obtain⟨x,hx,h3⟩:=hx
    rcases List.mem_cons.1 hx with rfl | hx
    ·exact absurd h3 e
    ·exact⟨x,hx,h3⟩)
   unfold Z.drop at this
   omega
theorem ZAt.less {w w7 w8:World} {Zb:Nat} {A:List (List UInt8)} {L L':List Z.R} {ρ : Nat->Role} {G:List (List UInt8)->Option Nd} {C C':List (List UInt8)->Nat->Option Z.St} {K:Nat} (Zx:ZAt w Zb A L ρ G C K) (p:List (List UInt8)) (hL : ∀ x∈L',x∈L) (hL2 : ∀ x∈L,x.p≠p->x∈L') (hr:L'.Pairwise Z.rlt) (hof:Z.Of L' C') (hlen:L'.length<=L.length)
 {d:Nat} (hd:d<=p.length) (T:TreeAt w7 ρ (Z.cutG G p d) C' K) (hm:ZMv ρ w w7) (hend:d=0\/(∃ t,(C' (p.take d) t).isSome) \/ ∃ l,(Z.cutG G p d (p.take d ++ [l])).isSome) {v:Value} (hv:v = .int .i64 (L'.length:Int)) (h8:w8=w7.setCell ⟨Zb,2,none⟩ v) :
 ZAt w8 Zb A L' ρ (Z.cutG G p d) C' K/\ZM Zb ρ w w8:=by
 obtain⟨ao,cap,h1,h2,h3⟩:=Zx.row
 have hr7:RowAt w7 Zb 93 #[.slice ao A.length cap,ptr (nodeN G []),.int .i64 (L.length:Int)]:=(hm.block Zb h1.lt Zx.zr).trans h1
 have hc:ZM Zb ρ w7 w8:=by rw[h8];exact ZM.count hr7
 have hk7 : ∀ i, ρ i ≠ .none->ZObj w7 i:=T.kind
 have hroot:nodeN (Z.cutG G p d) []=nodeN G []:=by
  unfold nodeN;rw[Z.cutG_off G (by simp)]
 refine⟨⟨⟨ao,cap,?_,?_,h3⟩,?_,hof,hr,fun x hx=>Zx.lows x (hL x hx),?_,Nat.le_trans hlen Zx.num,fun x hx=>Zx.okk x (hL x hx),Zx.zr⟩,(ZM.of_mv hm).trans hc (More.refl _ _)⟩
 ·rw[h8,hroot,hv];exact hr7.set 2 _
 ·exact slS_zm hc hk7 hr7 (slS_zm (ZM.of_mv hm) Zx.tree.kind h1 h2)
 ·rw[h8]
  exact T.keep (fun i hi=>heap_setCell_other _ _ _ _ (fun e=>hi (by rw[e];exact Zx.zr))) (fun _ _ hs=>slL_zm (ρ := ρ) (ZM.count hr7) hk7 hr7 hs)
 ·refine Zx.cov.trim p d hd hL2 ?_
  rcases hend with e | ⟨t,ht⟩ | h
  ·exact Or.inl e
  ·obtain⟨x,hx,e,_⟩:=(hof.isSome _ _).1 ht
   exact Or.inr (Or.inl ⟨x,hx,e⟩)
  ·exact Or.inr (Or.inr h)
def DropPost (w:World) (Zb:Nat) (A:List (List UInt8)) (L:List Z.R) (ρ : Nat->Role) (C:List (List UInt8)->Nat->Option Z.St) (K:Nat) (n:List (List UInt8)) (t:Nat) (d:List UInt8) (e:Ending) (w':World):Prop :=
 ∃ b:Bool,e = .returned (.bool b)/\((b=false/\Below w.heap.size w w'/\(cn t d=none \/ ∃ c,cn t d=some c/\Z.got C (path n) t c=none)) \/
  (b=true /\ ∃ c,cn t d=some c/\(Z.got C (path n) t c).isSome /\ ∃ G' C',ZAt w' Zb A (Z.drop L (path n) t c) ρ G' C' K/\ZM Zb ρ w w'))
set_option maxRecDepth 100000 in
set_option maxHeartbeats 1500000 in
theorem zdrop_any (w:World) (Zb:Nat) (A:List (List UInt8)) (L:List Z.R) (ρ : Nat->Role) (G:List (List UInt8)->Option Nd) (C:List (List UInt8)->Nat->Option Z.St) (K:Nat) (Zx:ZAt w Zb A L ρ G C K) (n:List (List UInt8)) (na:Option Addr) (nl nc:Nat) (hl:Hid (n.length=nl)) (hs:SlS w na n) (hm:Hid (N.Small n)) (t cl ttl:Nat) (d:List UInt8) (da:Option Addr) (dc:Nat) (hsd:SlL w da d) (hnd:da=none->dc=0) (hdc:d.length<=dc) (ht:t<65536) :
 Calls Tryz.prog 50 #[.pointer (some ⟨Zb,0,none⟩),recV na nl nc t cl ttl da d.length dc] w fun e w'=>DropPost w Zb A L ρ C K n t d e w':=by
 obtain⟨w1,hw1⟩ : ∃ w1,w1=w.alloc (.cells #[.slice na nl nc,.int .u16 (t:Int),.int .u16 (cl:Int),.int .u32 (ttl:Int),.slice da d.length dc] 39):=⟨_,rfl⟩
 have hb1:Below w.heap.size w w1:=by rw[hw1];exact (Below.refl _ w).alloc (Nat.le_refl _) _
 have hR1:RowAt w1 w.heap.size 39 #[.slice na nl nc,.int .u16 (t:Int),.int .u16 (cl:Int),.int .u32 (ttl:Int),.slice da d.length dc]:=by rw[hw1];exact RowAt.new w _ _
 have x1:w1.cell? ⟨w.heap.size,1,none⟩=some (.int .u16 (t:Int)):=hR1.cell 1
 have x4:w1.cell? ⟨w.heap.size,4,none⟩=some (.slice da d.length dc):=hR1.cell 4
 have HZ:=hide Zx
 have HW1:=hide hw1
 have HB1:=hide hb1
 have HR1:=hide hR1
 have HS:=hide (hs.below hb1 (Nat.le_refl _))
 have HSD:=hide (hsd.below hb1 (Nat.le_refl _))
 clear Zx hw1 hb1 hR1 hs hsd
 unfold recV
 go_enter Tryz.func50,Tryz.ntmps50
 cases hcn:cn t d with
 | none =>
  go_wp2_with (first
   | (go_at_call 84;rw[<- HW1.out];refine (Canon_any t d da d.length dc _ rfl (by exact HSD.out) hdc hnd).mono ?_;rintro e w2 ⟨⟨x,v,ho,rfl,hx⟩ | ⟨ho,rfl⟩,hb2⟩;(· exact absurd (hcn.symm.trans ho) (by simp));have hb12:Below w.heap.size w w2:=HB1.out.trans (hb2.mono HB1.out.size);have hR2:=HR1.out.below hb2 HR1.out.lt;have y0:w2.cell? ⟨w.heap.size,0,none⟩=some (.slice na nl nc):=hR2.cell 0)
   | (go_at_call 58;refine ((HZ.out.bel hb12).find n na nl nc hl (HS.out.below hb2 (Nat.le_refl _)) hm).mono ?_;rintro e w3 ⟨x,rfl,hF⟩)
   | fail)
  go_quiet (fail)
  go_wp2
  go_ret
  exact⟨false,rfl,Or.inl ⟨rfl,hb12.trans ((hF.bel.trans (below_drewN (Below.refl _ _) _)).mono hb12.size),Or.inl hcn⟩⟩
 | some c =>
  obtain⟨hclen,hd8,hcc0⟩:=cn_len hcn
  have HCL:=hide hclen
  clear hclen hcc0
  have hnum:=HZ.out.num
  go_wp2_with (first
   | (go_at_call 84;rw[<- HW1.out];refine (Canon_any t d da d.length dc _ rfl (by exact HSD.out) hdc hnd).mono ?_;rintro e w2 ⟨⟨y,v,ho,rfl,hx⟩ | ⟨ho,rfl⟩,hb2⟩;rotate_left;(· exact absurd (hcn.symm.trans ho) (by simp));(obtain rfl:c=y:=Option.some.inj (hcn.symm.trans ho));obtain⟨ca,cc,rfl,hcT,_,hcc⟩:=OwnB.ty hx;have hb12:Below w.heap.size w w2:=HB1.out.trans (hb2.mono HB1.out.size);have hR2:=HR1.out.below hb2 HR1.out.lt;have y0:w2.cell? ⟨w.heap.size,0,none⟩=some (.slice na nl nc):=hR2.cell 0;have HB2:=hide hb2;have HCT:=hide hcT;have HR2:=hide hR2;have HOW:=hide hx;clear hx hcT hR2)
   | (go_at_call 58;refine ((HZ.out.bel hb12).find n na nl nc hl (HS.out.below hb2 (Nat.le_refl _)) hm).mono ?_;rintro e w3 ⟨x,rfl,hF⟩)
   | fail)
  have hb23:=hF.bel
  have hb03:Below w.heap.size w w3:=hb12.trans (hb23.mono hb12.size)
  obtain⟨T0,hT0⟩ : ∃ T0:Nat,T0=((C (path n) t).map fun S=>S.ttl).getD 0:=⟨_,rfl⟩
  obtain⟨mo,hmo⟩ : ∃ mo,((C (path n) t).map fun S=>setV S (x.dm t)).getD (.agg #[.int .u32 0,.map none]) = .agg #[.int .u32 (T0:Int),.map mo]:=by
   rw[hT0];cases C (path n) t
   ·exact⟨none,rfl⟩
   ·exact⟨_,rfl⟩
  have hdm:=hF.dm t T0 mo hmo
  have x0:w3.cell? ⟨x.n,0,none⟩=some (.map (some x.s)):=hF.node.row.cell 0
  have hlk : ∀ W,W.heap[x.s]?=w3.heap[x.s]?->(Instr.lookup 103 (.map (some x.s)) (.int .u16 (t:Int)) false).run Tryz.prog W = .ok (.agg #[.int .u32 (T0:Int),.map mo]) W:=fun W hW=>by rw[<- hmo];exact (hF.node.lookup t ht W hW).2
  have hlk1:=hlk w3 rfl
  have hlk2:=hlk w3.drew rfl
  have hR3:=HR2.out.below hb23 HR2.out.lt
  have c1:w3.cell? ⟨w.heap.size,1,none⟩=some (.int .u16 (t:Int)):=hR3.cell 1
  have c0:w3.cell? ⟨w.heap.size,0,none⟩=some (.slice na nl nc):=hR3.cell 0
  have hhas : ∀ W,Below w3.heap.size w3 W->Calls Tryz.prog 85 #[.agg #[.int .u32 (T0:Int),.map mo],.slice ca c.length cc] W fun e w'=>e = .returned (.bool (Z.got C (path n) t c).isSome)/\w'=W.alloc (.cells #[.int .u32 (T0:Int),.map mo] 101):=fun W hW =>
   has_any W (T0:Int) mo (Z.got C (path n) t) K (hdm.bel hW) c ca c.length cc rfl ((HCT.out.kb (KB.of_below (hb23.trans (hW.mono hb23.size)))).1) (by have:=HCL.out;omega)
  have HF:=hide hF
  have HB03:=hide hb03
  have HB23:=hide hb23
  have HDM:=hide hdm
  have HR3:=hide hR3
  have HT0:=hide hT0
  have HMO:=hide hmo
  clear hF hb03 hb23 hdm hR3 hT0 hmo hlk y0
  have hal : ∀ o,Below w3.heap.size w3 (w3.alloc o).drew:=fun o=>((Below.refl w3.heap.size w3).alloc (Nat.le_refl _) o).trans ((below_drewN (Below.refl (w3.alloc o).heap.size (w3.alloc o)) 1).mono (show w3.heap.size<=(w3.alloc o).heap.size by rw[World.size_alloc];omega))
  obtain⟨gb,hgb⟩ : ∃ gb,gb=(Z.got C (path n) t c).isSome:=⟨_,rfl⟩
  rw[<- hgb] at hhas
  have HGB:=hide hgb
  have HHAS:=hide hhas
  have HAL0:=hide hal
  clear hgb hhas hal x1 x4
  go_cut [33] from 20 (fun s33 wc=>s33 = .bool (!gb)/\Below w3.heap.size w3 wc)
  case first =>
   go_region_with (first | (go_at_call 85;refine (HHAS.out _ (by first | exact below_drewN (Below.refl _ w3) 1 | exact Below.refl _ w3)).mono ?_;rintro e wq ⟨he,hwq⟩;rw[he,hwq];clear he hwq wq) | fail)
   all_goals go_wp2_with fail
   all_goals go_meet
   all_goals first
    | exact⟨rfl,HAL0.out _⟩
    | exact⟨rfl,(below_drewN (Below.refl _ w3) 1).alloc (Nat.le_refl _) _⟩
  case rest =>
  obtain⟨rfl,hal⟩:=hcut
  have HAL:=hide hal
  clear hal
  have hb04:Below w.heap.size w wc:=HB03.out.trans (HAL.out.mono HB03.out.size)
  cases gb with
  | false =>
   go_wp2
   go_ret
   refine⟨false,rfl,Or.inl ⟨rfl,hb04,Or.inr ⟨c,hcn,?_⟩⟩⟩
   have:=HGB.out
   cases hg:Z.got C (path n) t c with
   | none=>rfl
   | some d0=>rw[hg] at this;cases this
  | true =>
   have hS : ∃ S d0,C (path n) t=some S/\S.g c=some d0:=by
    have:=HGB.out
    unfold Z.got at this
    cases hC:C (path n) t with
    | none=>rw[hC] at this;cases this
    | some S =>
     rw[hC] at this
     have h3:true=(S.g c).isSome:=this
     cases hg:S.g c with
     | none=>rw[hg] at h3;cases h3
     | some d0=>exact⟨S,d0,rfl,hg⟩
   obtain⟨S,d0,hS,hd0⟩:=hS
   have hG:G (path n)=some x:=by
    rcases HF.out.who with h | ⟨h,_⟩
    ·exact h
    ·have:=(HZ.out.tree.cov _ _ _ hS).1;rw[h] at this;cases this
   have hT4:=HZ.out.tree.below_ hb04
   have hR4:=HR3.out.below HAL.out HR3.out.lt
   have e1:wc.cell? ⟨w.heap.size,1,none⟩=some (.int .u16 (t:Int)):=hR4.cell 1
   have hnd2:=ndrop_any wc hT4 hG t ht c ca cc ((HCT.out.kb (KB.of_below (HB23.out.trans (HAL.out.mono HB23.out.size)))).1) (by have:=HCL.out;omega) S hS
   obtain⟨aa,ac,hZr,_,_⟩:=HZ.out.row
   have hZ4:=hZr.below hb04 hZr.lt
   have hs4:SlS wc na n:=(((HS.out.below HB2.out (Nat.le_refl _)).below HB23.out (Nat.le_refl _)).below HAL.out (Nat.le_refl _))
   have hrr : ρ w.heap.size = .none:=Classical.byContradiction fun h=>by have:=(HZ.out.tree.kind _ h).lt;omega
   have hzlt:=hZ4.lt
   have HHS:=hide hS
   have HG:=hide hG
   have HZ4:=hide hZ4
   have HR4:=hide hR4
   have HS4:=hide hs4
   have HT4:=hide hT4
   have HB04:=hide hb04
   clear hS hG hZ4 hR4 hs4 hT4 hb04 hZr hlk1 hlk2 x0 c0 c1 hzlt
   go_wp2_with (first
    | (go_at_call 92;refine hnd2.mono ?_;rintro e w5 ⟨rfl,last,hlast,hT5,hm5⟩;have hR5:RowAt w5 w.heap.size 39 #[.slice na nl nc,.int .u16 (t:Int),.int .u16 (cl:Int),.int .u32 (ttl:Int),.slice da d.length dc]:=(hm5.block _ HR4.out.lt hrr).trans HR4.out;have g0:w5.cell? ⟨w.heap.size,0,none⟩=some (.slice na nl nc):=hR5.cell 0;have htr:=trim_any w5 Zb _ _ ρ G _ K hT5 ((hm5.block _ HZ4.out.lt HZ.out.zr).trans HZ4.out) n na nl nc hl (hm5.slS HT4.out.kind HS4.out) hm)
    | (go_at_call 93;refine htr.mono ?_;rintro e w6 ⟨rfl,dp,hdp,hT6,hm6,hend⟩;have hZ6:RowAt w6 Zb 93 #[.slice aa A.length ac,ptr (nodeN G []),.int .i64 (L.length:Int)]:=(hm6.block _ (Nat.lt_of_lt_of_le HZ4.out.lt hm5.size) HZ.out.zr).trans ((hm5.block _ HZ4.out.lt HZ.out.zr).trans HZ4.out);have z2:w6.cell? ⟨Zb,2,none⟩=some (.int .i64 (L.length:Int)):=hZ6.cell 2;have z3:w6.frozen? ⟨Zb,2,none⟩=false:=hZ6.frozen 2)
    | fail)
   go_ret
   have hx : ∃ x∈L,x.p=path n/\x.t=t/\x.c=c:=by
    obtain⟨x,h1,h2,h3,h4,_⟩:=HZ.out.of.back _ _ _ _ _ HHS.out hd0
    exact⟨x,h1,h2,h3,h4⟩
   have hdl:=Z.drop_len HZ.out.rise (path n) t c hx
   refine⟨true,rfl,Or.inr ⟨rfl,c,hcn,HGB.out.symm,Z.cutG G (path n) dp,Z.cdel C (path n) t c last,?_⟩⟩
   have hmv:ZMv ρ wc w6:=hm5.trans hm6 (fun _ _ h=>h)
   have hofd:Z.Of (Z.drop L (path n) t c) (Z.cdel C (path n) t c last):=HZ.out.of.drop (path n) t c last (fun S' hS'=>by
    obtain rfl:S=S':=Option.some.inj (HHS.out.symm.trans hS')
    exact hlast) (by rw[HHS.out];rfl)
   have hless:=ZAt.less (w7:=w6) (HZ.out.bel HB04.out) (path n) (fun x hx=>(Z.mem_drop.1 hx).1) (fun x hx hne=>Z.mem_drop.2 ⟨hx,fun h=>hne h.1⟩) (Z.drop_rise HZ.out.rise (path n) t c) hofd (by omega) (by rw[path_len];exact hdp) hT6 hmv hend (v := .int .i64 ((L.length:Int) - 1)) (by congr 1;omega) rfl
   exact⟨hless.1,(ZM.of_below HB04.out).trans hless.2 (More.refl _ _)⟩
open Go.RowKit Go.Maps Go.Sort Go.Shelf
theorem keysH_any (mb:Option Nat) (W:World):Calls Tryz.prog 66 #[.map mb] W fun e w'=>e = .returned (.func (.func 104) #[] #[.pointer (some ⟨W.heap.size,0,none⟩)])/\w'=W.alloc (.cells #[.map mb] 103):=by
 have hmf : ∀ (fn:Fn) (first cap:Array Value) (w:World),(Instr.makeFunc fn first cap).run Tryz.prog w = .ok (.func fn first cap) w:=fun _ _ _ _=>rfl
 go_enter Tryz.func66,Tryz.ntmps66
 go_wp2
 go_ret
 exact⟨rfl,rfl⟩
def encH (x:UInt16):Value := .int .u16 (x.toNat:Int)
def CollH {H:Type} (D0:DataW H) (left:Lit->Bool) (ss:List UInt16):Prop:=ss.Nodup /\ ∀ x:UInt16,x∈ss↔(has D0 (.int .u16 (x.toNat:Int))=true/\left (.int .u16 (x.toNat:Int))=false)
theorem CollH.start {H:Type} (D0:DataW H):CollH D0 (has D0) []:=⟨List.nodup_nil,fun x=>by cases has D0 (.int .u16 (x.toNat:Int)) <;> simp⟩
theorem CollH.step {H:Type} {D0:DataW H} {left:Lit->Bool} {ss:List UInt16} (h:CollH D0 left ss) {x:UInt16} {y:DataW H} (hlk:left (.int .u16 (x.toNat:Int))=true) (hat : ∀ zd,D0.atKey (.int .u16 (x.toNat:Int)) zd=y):CollH D0 (fun z=>left z && !z.sameKey (.int .u16 (x.toNat:Int))) (ss ++ [x]):=by
 have hhas:has D0 (.int .u16 (x.toNat:Int))=true:=has_true_of_atKey hat
 have hnew:x ∉ ss:=fun hx=>by have:=((h.2 x).1 hx).2;rw[hlk] at this;cases this
 refine⟨List.nodup_append.2 ⟨h.1,by simp,fun a ha b hb=>by simp at hb;subst hb;exact fun e=>hnew (e ▸ ha)⟩,fun y=>?_⟩
 by_cases hy:y=x
 ·subst hy;simp[hhas,Lit.sameKey]
 ·have hne : ¬ (y.toNat:Int)=(x.toNat:Int):=fun e=>hy (UInt16.toNat_inj.1 (by omega))
  simp[h.2 y,hy,Lit.sameKey,hne]
set_option maxRecDepth 100000 in
set_option maxHeartbeats 1000000 in
theorem keysH1_in (l Bm b nn:Nat) (D0:DataW Value) (J Jx:List UInt16->World->Prop) (W:World) (hJ:AbidesFrom W.heap.size J)
 (hY : ∀ pre x W1,J pre W1->pre.length<Maps.size D0->YieldAt Fence.wide 2 Tryz.prog l #[encH x] W1 fun e W'=>(e = .returned (.bool true)/\J (pre ++ [x]) W'/\KeepsWalks W1 W')\/(e = .returned (.bool false)/\Jx (pre ++ [x]) W'))
 (hm:W.cell? ⟨Bm,0,none⟩=some (.map (some b))) (hown:W.ownsMap Tryz.prog 36 HR b nn D0) (h0:J [] W) :
 CallsIn Fence.wide 3 Tryz.prog 104 #[.func (.yield l) #[] #[],.pointer (some ⟨Bm,0,none⟩)] W fun e W'=>(∃ v,e = .returned v)/\((∃ ss:List UInt16,(ss.Nodup /\ ∀ x:UInt16,x∈ss↔has D0 (.int .u16 (x.toNat:Int))=true)/\J ss W') \/ ∃ pre,True/\Jx pre W'):=by
 refine callsIn_of_wp Tryz.func104 rfl trivial ?_ rfl
 simp only[Tryz.ntmps104,List.size_toArray,List.length_cons,List.length_nil,Nat.reduceAdd,Nat.reduceSub,Array.replicate_succ,Array.replicate_zero,List.push_toArray,List.append_toArray,List.nil_append,List.cons_append]
 have hkey : ∀ key kl,keyOf Tryz.prog 36 key=some kl -> ∃ x:UInt16,key=encH x/\kl = .int .u16 (x.toNat:Int):=fun key kl hk=>by
  obtain⟨a,e1,e2,hw⟩:=Maps.keyOf_int_inv Tryz.underlying36 hk
  have h1:IntKind.u16.min=0:=by decide
  have h2:IntKind.u16.max=65535:=by decide
  simp only[Lit.wf,Bool.and_eq_true,decide_eq_true_eq,h1,h2] at hw
  have e3:((UInt16.ofNat a.toNat).toNat:Int)=a:=by
   rw[UInt16.toNat_ofNat_of_lt' (by show a.toNat<65536;omega)];omega
  exact⟨UInt16.ofNat a.toNat,by unfold encH;rw[e3];exact e1,by rw[e3];exact e2⟩
 gi_wp2_with (first
  | (gi_at_range;refine wpListIn_range_own _ rfl _ 103 rfl 36 101 keyedH Tryz.underlying103 _ b nn _ rfl hown ?_;intro w0 hrg0 hg0 hs0)
  | gi_in)
 go_frame
 gi_loopw [3] (fun _ wr => ∃ (left:Lit->Bool) (cnt:Nat) (ss:List UInt16),wr.ranges Tryz.prog 36 HR b W.heap.size nn D0 left cnt/\ss.length+cnt<=Maps.size D0/\CollH D0 left ss/\J ss wr)
  (fun _ wr=>wr.rangeLeft b W.heap.size)
 case atStart =>
  exact⟨_,_, [],hrg0,by simp,CollH.start D0,hJ [] W w0 none h0 hg0 (fun r e=>by cases e)⟩
 case round =>
  obtain⟨left,cnt,ss,hrg,hcs,hC,hJs⟩:=hrel
  gi_wp2_with (first
   | (gi_at_next;refine wpListIn_next_ranges _ rfl _ rfl 36 keyedH HR encH id (fun key kl hk=>by obtain⟨x,hx,_⟩:=hkey key kl hk;exact⟨x,hx⟩) (fun v _ _=>⟨v,rfl⟩) b W.heap.size nn _ _ _ rfl hrg ?_ ?_)
   | gi_in)
  ·intro hc0 hl0
   gi_wp2
   go_end0
   exact⟨⟨_,rfl⟩,Or.inl ⟨ss,⟨hC.1,fun x=>by rw[hC.2 x,hl0];simp⟩,hJs⟩⟩
  ·intro x c kl yd yp w2 cnt2 hkk hlk hv hat hrg2 hlt hg2 hs2 hen
   obtain⟨x',ex,rfl⟩:=hkey _ _ hkk
   obtain rfl:x=x':=by
    unfold encH at ex
    simp at ex
    exact UInt16.toNat_inj.1 (by omega)
   have hJ2:J ss w2:=hJ ss wr w2 (some W.heap.size) hJs hg2 (fun r e=>by cases e;exact⟨Nat.le_refl _,hrg.iter_walk⟩)
   obtain⟨fn,tmps,assign,body,hy,hR⟩:=hY ss x w2 hJ2 (by omega)
   clear hs2
   gi_wp2
   refine hR.mono ?_
   rintro e W3 (⟨rfl,hJ3,hk3⟩ | ⟨rfl,hJ3⟩)
   ·gi_wp2
    have hrg3:=hrg2.of_walks hk3
    go_roundw
    case rel=>exact⟨_,cnt2,ss ++ [x],hrg3,by simp;omega,hC.step hlk hat,hJ3⟩
    case measure=>rw[hrg3.left_eq,hrg.left_eq];exact hlt
   ·gi_wp2
    refine bodyPost_ret (results_none rfl _ _ _) rfl ?_
    exact⟨⟨_,rfl⟩,Or.inr ⟨_,trivial,hJ3⟩⟩
open Go.RowKit Go.Maps Go.Sort Go.Shelf
attribute [local go_sem] Oper.semAt_some
def KeysOf (D0:DataW Value) (ss:List UInt16):Prop:=ss.Nodup /\ ∀ x:UInt16,x∈ss↔has D0 (.int .u16 (x.toNat:Int))=true
theorem keysH_stops (Bm b nn:Nat) (D0:DataW Value) (w:World) (hBm:Bm<w.heap.size) (hm:w.cell? ⟨Bm,0,none⟩=some (.map (some b))) (hown:w.ownsMap Tryz.prog 36 HR b nn D0) :
 SeqStopsK Fence.wide 3 Tryz.prog 104 #[.pointer (some ⟨Bm,0,none⟩)] (fun x:UInt16 => #[encH x]) KeepsWalks (KeysOf D0) (fun _=>True) (Maps.size D0) w:=by
 intro l J Jx W hW hJ _ hY h0
 refine (keysH1_in l Bm b nn D0 J Jx W hJ hY ((hW.cell (p:=⟨Bm,0,none⟩) hBm).trans hm) ?_ h0).mono fun e W' h=>h
 have hbl:=hown.lt
 obtain⟨es,clock,hb,Ft,hs,hD⟩:=hown
 exact⟨es,clock,(hW.block b hbl).trans hb,Ft,hs,hD⟩
set_option maxRecDepth 100000 in
set_option maxHeartbeats 2000000 in
theorem appendSeqH_any (w:World) (Bm b nn:Nat) (D0:DataW Value) (hBm:Bm<w.heap.size) (hm:w.cell? ⟨Bm,0,none⟩=some (.map (some b))) (hown:w.ownsMap Tryz.prog 36 HR b nn D0) (hN:Maps.size D0<=1000000) :
 Calls Tryz.prog 134 #[.slice none 0 0,.func (.func 104) #[] #[.pointer (some ⟨Bm,0,none⟩)]] w fun e w' => ∃ v,e = .returned v /\ ∃ ss,KeysOf D0 ss/\OwnH w' w.heap.size v ss/\Below w.heap.size w w':=by
 obtain⟨i0,hi,hz0,hz1,hz2⟩:=info_parts infoH
 have HO:=hide hown
 have HM:=hide hm
 clear hown hm
 refine (callsIn_wide (n:=4)).1 ?_
 refine callsIn_of_wp_marks Tryz.func134 rfl trivial ?_ rfl
 simp only[Tryz.ntmps134,List.size_toArray,List.length_cons,List.length_nil,Nat.reduceAdd,Nat.reduceSub,Array.replicate_succ,Array.replicate_zero,List.push_toArray,List.append_toArray,List.nil_append,List.cons_append]
 gi_wp2
 have bO:=Boxed.new w 51 (.slice none 0 0)
 have hB0:Below w.heap.size w (w.alloc (.cells #[.slice none 0 0] 51)):=(Below.refl _ w).alloc (Nat.le_refl _) _
 have hown1:(w.alloc (.cells #[.slice none 0 0] 51)).ownsMap Tryz.prog 36 HR b nn D0:=by
  obtain⟨es,clock,hb,Ft,hs,hD⟩:=HO.out
  exact⟨es,clock,(Below.heap_alloc _ _ b (Array.getElem?_eq_some_iff.1 hb).1).trans hb,Ft,hs,hD⟩
 refine wpIn_rangeFunc_ownG (α := UInt16) rfl (by omega) (gf:=104) (lb := #[.pointer (some ⟨Bm,0,none⟩)]) rfl trivial (enters_of Tryz.func104 (by kernel_rfl) rfl)
  (keysH_stops Bm b nn D0 _ (by simp;omega) ((hB0.cell (p:=⟨Bm,0,none⟩) hBm).trans HM.out) hown1) KeepsWalks.trans (fun W l o oo _ hl _ hw=>KeepsWalks.putObj _ hl hw) (Below.refl _ _) (fun _=>rfl)
  (fun pre W=>(∃ v,Boxed W w.heap.size 51 v/\W.ownsRow w.heap.size 36 1 v pre.length (vh pre)/\True)/\Below w.heap.size w W)
  (fun _ _ _=>False)
  (OwnFrom.and (Own.from (holdsRow_own w.heap.size w.heap.size 51 36 1 (fun pre:List UInt16=>pre.length) (fun pre=>vh pre) (fun _ _=>True)) _) (ownFrom_below (Nat.le_refl _) (by simp)))
  (fun _ _ _ _ _ hs _ _=>hs)
  ⟨⟨_,bO,World.ownsRow_nil _ _ _ _,trivial⟩,hB0⟩
  (fun x => { tmps := #[.slice none 0 0,.func (.func 104) #[] #[.pointer (some ⟨Bm,0,none⟩)],.pointer (some ⟨w.heap.size,0,none⟩),undef,.slice none 0 0,.int .u16 (x.toNat:Int),.func (.func 104) #[] #[.pointer (some ⟨Bm,0,none⟩)],.int .u16 (x.toNat:Int),undef,undef,undef,undef,undef],defers := [] }) ?assign ?body ?done ?stop
 case assign =>
  intro l x W K hK
  unfold encH
  gi_wp2
  exact hK
 case body =>
  rintro l pre x W ⟨⟨v,hv,hrow,_⟩,hB⟩ hlt
  have hc:=hv.cell
  gi_wp2_with (gi_at_builtin;refine wpListIn_append_own _ rfl _ _ 51 rfl w.heap.size 36 i0 (.int .u16 0) 1 2 Tryz.underlying51 hi hz0 hz1 hz2 rfl (by decide) _ _ _ rfl (hrow.alloc _) ⟨W.heap.size,0,none⟩ 1 1 [.int .u16 (x.toNat:Int)] rfl rfl (cell_one_new _ _ _) (by simp[Value.oneCell']) (by unfold maxLen;omega) (by omega) (by have:=hB.size;simp;omega) ?_;intro v' w1 hown' hgrow _;have hgr:(W.alloc (.cells #[.int .u16 (x.toNat:Int)] 36)).grownBy w1 v.ownBlock:=hgrow;obtain⟨g',cap',rfl⟩:=ownsRow_succ hown';obtain⟨hv1,hv2,hr2,hk2,hb2⟩:=hv.appended (by decide) hrow hB.size (Nat.le_refl _) hown' hgrow;have hc1:=hv1.cell;have hf1:=hv1.frozen)
  have e1:vh (pre ++ [x])=vh pre ++ [.int .u16 (x.toNat:Int)]:=by simp[vh]
  refine⟨hk2.from _,?_,⟨_,hv2,by rw[e1,List.length_append];exact hr2,trivial⟩,hB.trans hb2⟩
  refine ((KeepsWalks.alloc W _).trans (KeepsWalks.of_grownBy hgr fun j o ej hj=>?_)).trans (KeepsWalks.setCell _ _ _)
  rcases (hrow.alloc (.cells #[.int .u16 (x.toNat:Int)] 36)).2 with⟨e2,_⟩ | ⟨g2,cap2,cur2,e2,_,hgb,_⟩
  ·rw[e2] at ej;simp[Value.ownBlock] at ej
  ·rw[e2] at ej
   obtain rfl:g2=j:=by simpa [Value.ownBlock] using ej
   rw[hgb] at hj;cases hj;rfl
 case done =>
  rintro D ys W hD hS ⟨⟨v,hv,hrow,_⟩,hB⟩ hK
  have hc:=hv.cell
  have HR0:=hide hrow
  have HS:=hide hS
  have HB:=hide hB
  clear hrow hS hB
  gi_wp2
  refine⟨by simp,.inl ⟨_,_,rfl,run_takeDeferred hK,?_⟩⟩
  exact⟨_,results_tmp rfl _ _ _,v,rfl,ys,HS.out,ownsRow_putObj HR0.out _ hK rfl,HB.out.trans ⟨rfl,rfl,rfl,by simp,fun i hi=>World.putObj_heap_other (by simp at hD;omega)⟩⟩
 case stop =>
  rintro D c pre W _ _ h _
  exact h.elim
theorem collectH_any (w:World) (Bm b nn:Nat) (D0:DataW Value) (hBm:Bm<w.heap.size) (hm:w.cell? ⟨Bm,0,none⟩=some (.map (some b))) (hown:w.ownsMap Tryz.prog 36 HR b nn D0) (hN:Maps.size D0<=1000000) :
 Calls Tryz.prog 102 #[.func (.func 104) #[] #[.pointer (some ⟨Bm,0,none⟩)]] w fun e w' => ∃ v,e = .returned v /\ ∃ ss,KeysOf D0 ss/\OwnH w' w.heap.size v ss/\Below w.heap.size w w':=by
 have h:=appendSeqH_any w Bm b nn D0 hBm hm hown hN
 clear hown hm
 go_enter Tryz.func102,Tryz.ntmps102
 go_wp2_with (go_at_call 134;refine h.mono ?_;rintro e w1 ⟨v,rfl,hv⟩)
 go_ret
 exact⟨v,rfl,hv⟩
open Q Go.Lib in
theorem rise_of {ss:List UInt16} (hn:ss.Nodup) {d:Array UInt16} (hp:PermIn 0 ss.length ss.toArray d) (hs:SortedIn lt 0 ss.length d) (hd:d.size=ss.length):d.toList.Pairwise (fun a b=>a.toNat<b.toNat) /\ ∀ x,x∈d.toList↔x∈ss:=by
 have hperm:d.toList.Perm ss:=by
  have h3:=hp.2.2
  have e1:d.extract 0 ss.length=d:=by rw[<- hd];exact Array.extract_size
  have e2:ss.toArray.extract 0 ss.length=ss.toArray:=by
   have:ss.length=ss.toArray.size:=by simp
   rw[this];exact Array.extract_size
  rw[e1,e2] at h3
  simpa using h3
 refine⟨?_,fun x=>hperm.mem_iff⟩
 have hnd:d.toList.Nodup:=hperm.nodup_iff.2 hn
 rw[List.pairwise_iff_getElem]
 intro i j hi hj hij
 have hi':i<d.size:=by simpa using hi
 have hj':j<d.size:=by simpa using hj
 have h1:=hs i j (Nat.zero_le _) hij (by omega)
 simp only[lt,decide_eq_false_iff_not] at h1
 rw[getElem!_pos d i hi',getElem!_pos d j hj'] at h1
 have h2:d.toList[i]≠d.toList[j]:=List.pairwise_iff_getElem.1 hnd i j hi hj hij
 have h3:d.toList[i].toNat≠d.toList[j].toNat:=fun e=>h2 (UInt16.toNat_inj.1 e)
 simp only[Array.getElem_toList] at h3 ⊢
 omega
open Q Go.Lib in
theorem sortedH_any (w:World) (b K:Nat) (f:Nat->Option Value) (h:MapU w b f K) (hK:K<=1000000) :
 Calls Tryz.prog 65 #[.func (.func 104) #[] #[.pointer (some ⟨w.heap.size,0,none⟩)]] (w.alloc (.cells #[.map (some b)] 103)) fun e w' => ∃ v,e = .returned v /\ ∃ ss:List UInt16,
  (ss.Pairwise (fun a b=>a.toNat<b.toNat) /\ ∀ x:UInt16,x∈ss↔(f x.toNat).isSome)/\OwnH w' (w.heap.size+1) v ss/\Below (w.heap.size+1) (w.alloc (.cells #[.map (some b)] 103)) w':=by
 have HMP:=hide h
 obtain⟨D,hown,hv⟩:=h
 have hsz:=hown.size_le
 have hbl:=hown.lt
 have hown1:(w.alloc (.cells #[.map (some b)] 103)).ownsMap Tryz.prog 36 HR b K D:=by
  obtain⟨es,clock,hb,Ft,hs,hD⟩:=hown
  exact⟨es,clock,(Below.heap_alloc _ _ b hbl).trans hb,Ft,hs,hD⟩
 have hkf : ∀ x:UInt16,has D (.int .u16 (x.toNat:Int))=(f x.toNat).isSome:=fun x=>by
  rw[hv.has,fU_at _ _ x.toNat_lt]
 have hco:=collectH_any (w.alloc (.cells #[.map (some b)] 103)) w.heap.size b K D (by simp) (by simp) hown1 (by omega)
 have hsA:(w.alloc (.cells #[.map (some b)] 103)).heap.size=w.heap.size+1:=by simp
 generalize w.alloc (.cells #[.map (some b)] 103)=wA at hco hsA ⊢
 rw[hsA] at hco
 have HSA:=hide hsA
 clear hown1 hown hv hsA
 go_enter Tryz.func65,Tryz.ntmps65
 go_wp2_with (go_at_call 102;refine hco.mono ?_;rintro e w1 ⟨v,rfl,ss,hK1,hO1,hB1⟩)
 have hlen:ss.length<=K:=by
  have:=MapAt.le HMP.out keyedH (ss.map fun x=>Lit.int .u16 (x.toNat:Int)) (List.pairwise_map.2 (hK1.1.imp fun {a b} hne e=>hne (UInt16.toNat_inj.1 (by injection e with _ e;omega)))) (fun k=>by
   rw[List.mem_map]
   constructor
   ·rintro⟨x,hx,rfl⟩
    rw[fU_at _ _ x.toNat_lt, <- hkf x];exact (hK1.2 x).1 hx
   ·intro hk
    obtain⟨t,ht,rfl⟩:=fU_some hk
    rw[fU_at _ t ht] at hk
    have e:(UInt16.ofNat t).toNat=t:=UInt16.toNat_ofNat_of_lt' ht
    refine⟨UInt16.ofNat t,(hK1.2 _).2 ?_,by rw[e]⟩
    rw[hkf,e];exact hk)
  rwa [List.length_map] at this
 obtain⟨a1,c1,rfl,hS1,hn1,hc1,hm1⟩:=hO1.open
 by_cases h0:ss.length=0
 ·obtain rfl:ss = []:=List.eq_nil_of_length_eq_zero h0
  refine (sort_none a1 c1 _).mono ?_
  rintro e w2 ⟨rfl,rfl⟩
  go_wp2
  go_ret
  exact⟨_,rfl, [],⟨List.Pairwise.nil,fun x=>by rw[hK1.2 x,hkf x]⟩,hO1,hB1⟩
 ·obtain⟨g,cap1,e1,hbg,_,_,hglt,_⟩:=hO1.form (by omega)
  cases e1
  obtain⟨hH,hg,_,hlc,hcm⟩:=own_holds hO1
  have hz1:=hB1.size
  refine (sort_any w1 g 0 ss.length c1 ss.toArray (by simp) (by omega) hg hH).mono ?_
  rintro e w2 ⟨rfl,d',hp,hsrt,hSt⟩
  have hd:d'.size=ss.length:=hSt.size
  obtain⟨n2,os2,hw2⟩:=hSt.sw
  obtain⟨hr1,hr2⟩:=rise_of hK1.1 hp hsrt hd
  have hO2:OwnH w2 (w.heap.size+1) (.slice (some ⟨g,0,none⟩) ss.length c1) d'.toList:=by
   have:=own_put (n:=n2) (os:=os2) hO1 d' hd d'.size (Nat.le_refl _)
   rw[hd,show d'.toList.take ss.length=d'.toList from List.take_of_length_le (by simp;omega)] at this
   rw[hw2];exact this
  have hB2:Below (w.heap.size+1) wA w2:=by
   rw[hw2];exact hB1.trans (below_put os2 d' hbg (by have:=HSA.out;omega))
  have HO2:=hide hO2
  have HB2:=hide hB2
  have HR1:=hide hr1
  have HR2:=hide hr2
  have HK1:=hide hK1
  clear hO2 hB2 hr1 hr2 hp hsrt hSt hw2 hO1 hB1 hS1 hH hK1 hd
  go_wp2
  go_ret
  exact⟨_,rfl,d'.toList,⟨HR1.out,fun x=>by rw[HR2.out x,HK1.out.2 x,hkf x]⟩,HO2.out,HB2.out⟩
open Go.RowKit
theorem ZAt.types_eq {w:World} {Zb:Nat} {A:List (List UInt8)} {L:List Z.R} {ρ : Nat->Role} {G:List (List UInt8)->Option Nd} {C:List (List UInt8)->Nat->Option Z.St} {K:Nat} (Zx:ZAt w Zb A L ρ G C K) (p:List (List UInt8)) (ts:List UInt16) (h1:ts.Pairwise (fun a b=>a.toNat<b.toNat)) (h2 : ∀ x:UInt16,x∈ts↔(C p x.toNat).isSome):ts.map (·.toNat)=Z.typesAt L p:=by
 obtain⟨h3,h4⟩:=Z.types_rise Zx.rise p
 refine Z.ext_rise (r:=(· < ·)) (fun a=>Nat.lt_irrefl a) (fun a b h h2=>Nat.lt_asymm h h2) (List.pairwise_map.2 h1) h3 fun t=>?_
 rw[h4 t, <- Zx.of.isSome p t,List.mem_map]
 constructor
 ·rintro⟨x,hx,rfl⟩;exact (h2 x).1 hx
 ·intro hs
  obtain⟨S,hS⟩:=Option.isSome_iff_exists.1 hs
  have e:(UInt16.ofNat t).toNat=t:=UInt16.toNat_ofNat_of_lt' (Zx.tree.cov p t S hS).2
  exact⟨UInt16.ofNat t,(h2 _).2 (by rw[e];exact hs),e⟩
theorem ztypes_any (w:World) (Zb:Nat) (A:List (List UInt8)) (L:List Z.R) (ρ : Nat->Role) (G:List (List UInt8)->Option Nd) (C:List (List UInt8)->Nat->Option Z.St) (K:Nat) (Zx:ZAt w Zb A L ρ G C K) (hK:K<=1000000) (n:List (List UInt8)) (ao:Option Addr) (len cap:Nat) (hl:Hid (n.length=len)) (hs:SlS w ao n) (hm:Hid (N.Small n)) :
 Calls Tryz.prog 32 #[.pointer (some ⟨Zb,0,none⟩),.slice ao len cap] w fun e w' => ∃ v,e = .returned v /\ ∃ ts:List UInt16,ts.map (·.toNat)=Z.typesAt L (path n)/\OwnH w' w.heap.size v ts/\Below w.heap.size w w':=by
 have hf:=Zx.find n ao len cap hl hs hm
 have HZ:=hide Zx
 clear hs Zx
 go_enter Tryz.func32,Tryz.ntmps32
 go_wp2_with (first
  | (go_at_call 58;refine hf.mono ?_;rintro e w1 ⟨x,rfl,hF⟩;have x0:w1.cell? ⟨x.n,0,none⟩=some (.map (some x.s)):=hF.node.row.cell 0)
  | (go_at_call 66;refine (keysH_any (some x.s) w1).mono ?_;rintro e wq ⟨rfl,hwq⟩;rw[hwq];clear hwq wq)
  | (go_at_call 65;refine (sortedH_any w1 x.s K _ hF.node.sets hK).mono ?_;rintro e w3 ⟨v,rfl,ss,⟨hs1,hs2⟩,hO,hB⟩))
 go_ret
 have hb1:=hF.bel
 refine⟨v,rfl,ss,HZ.out.types_eq (path n) ss hs1 (fun y=>by rw[hs2 y];simp),?_,?_⟩
 ·refine⟨hO.1,?_⟩
  rcases hO.2 with h1 | ⟨g,cap,cur,e,h1,h2⟩
  ·exact Or.inl h1
  ·exact Or.inr ⟨g,cap,cur,e,by have:=hb1.size;omega,h2⟩
 ·exact hb1.trans (((Below.refl _ w1).alloc (Nat.le_refl _) _ |>.mono hb1.size).trans (hB.mono (by have:=hb1.size;omega)))
open Go.RowKit
def DropSetPost (w:World) (Zb:Nat) (A:List (List UInt8)) (L:List Z.R) (ρ : Nat->Role) (K:Nat) (n:List (List UInt8)) (t:Nat) (e:Ending) (w':World):Prop :=
 e = .returned (.int .i64 ((L.length - (Z.dropSet L (path n) t).length:Nat):Int)) /\ ∃ G' C',ZAt w' Zb A (Z.dropSet L (path n) t) ρ G' C' K/\ZM Zb ρ w w'
structure DIs3 (C:List (List UInt8)->Nat->Option Z.St) (K:Nat) (p:List (List UInt8)) (x:Nd) (T:List Nat) (w3:World) (j:Nat) (wr:World):Prop where
 os:wr.os=w3.os
 tape:wr.tape=w3.tape
 output:wr.output=w3.output
 size:wr.heap.size=w3.heap.size
 block : ∀ i,i≠x.s->wr.heap[i]?=w3.heap[i]?
 sets:MapU wr x.s (fun s=>if s∈T.take j then none else (C p s).map fun S=>setV S (x.dm s)) K
theorem tree_less {w w3 w4:World} {ρ : Nat->Role} {G:List (List UInt8)->Option Nd} {C C':List (List UInt8)->Nat->Option Z.St} {K:Nat} (T:TreeAt w ρ G C K) {p:List (List UInt8)} {x:Nd} (hF:Found w w3 G C K p x) (bad:Nat->Prop) (hC : ∀ q t,q≠p->C' q t=C q t) (hC2 : ∀ t,¬ bad t->C' p t=C p t) (hC3 : ∀ t,bad t->C' p t=none)
 (os:w4.os=w3.os) (tape:w4.tape=w3.tape) (output:w4.output=w3.output) (size:w4.heap.size=w3.heap.size) (block : ∀ i,i≠x.s->w4.heap[i]?=w3.heap[i]?) (sets:MapU w4 x.s (fun s=>(C' p s).map fun S=>setV S (x.dm s)) K):TreeAt w4 ρ G C' K/\ZMv ρ w w4:=by
 rcases hF.who with hx | ⟨hG,_,hs,_⟩
 ·have T3:=T.below_ hF.bel
  have h0:Below 0 w3 w4:=⟨os,tape,output,Nat.le_of_eq size.symm,fun i hi=>absurd hi (Nat.not_lt_zero i)⟩
  have h1:=T3.del hx bad hC hC2 h0 (fun i _ h2 _=>block i h2) sets (fun t S hb hS=>by rw[hC3 t hb] at hS;cases hS) (fun i t hb hi=>(T3.kind i (by rw[hi];simp)).heap (block i (fun e=>by rw[e,T3.rs p x hx] at hi;cases hi)))
  exact⟨h1.1,(ZMv.of_below hF.bel).trans h1.2 (fun _ _ h=>h)⟩
 ·have e:C'=C:=by
   funext q t
   by_cases eq:q=p
   ·rw[eq]
    by_cases hb:bad t
    ·rw[hC3 t hb,T.no_sets hG t]
    ·exact hC2 t hb
   ·exact hC q t eq
  have hsz:=hF.bel.size
  have hB:Below w.heap.size w w4:=⟨os.trans hF.bel.os,tape.trans hF.bel.tape,output.trans hF.bel.output,by omega,fun i hi=>(block i (by omega)).trans (hF.bel.block i hi)⟩
  rw[e]
  exact⟨T.below_ hB,ZMv.of_below hB⟩
theorem any_step {w w3 wr:World} {Zb:Nat} {A:List (List UInt8)} {L:List Z.R} {ρ : Nat->Role} {G:List (List UInt8)->Option Nd} {C:List (List UInt8)->Nat->Option Z.St} {K:Nat} (Zx:ZAt w Zb A L ρ G C K) {w2:World} {n:List (List UInt8)} {x:Nd} (hF:Found w2 w3 G C K (path n) x) {T:List Nat} {ts:List UInt16} (hT:T=ts.map (·.toNat)) (hTy:T=Z.typesAt L (path n)) {a:Option Addr} (hsl:SlH w3 a ts) {j g0:Nat} (hD:DIs3 C K (path n) x T w3 j wr) (hj:j<ts.length)
 (hg0:g0=((T.take j).map fun s=>(Z.setAt L (path n) s).length).sum) (hg1:((T.take (j+1)).map fun s=>(Z.setAt L (path n) s).length).sum<=2000) :
 ∃ t1 cn:Nat,t1<65536/\(∃ b o,a=some ⟨b,o,none⟩/\wr.cell? ⟨b,o+j,none⟩=some (.int .u16 (t1:Int)))/\wr.cell? ⟨x.n,0,none⟩=some (.map (some x.s)) /\ ∃ T0 m1:Nat,(Instr.lookup 103 (.map (some x.s)) (.int .u16 (t1:Int)) false).run Tryz.prog wr = .ok (.agg #[.int .u32 (T0:Int),.map (some m1)]) wr /\
  (Builtin.len_ #[99] 3 #[.map (some m1)]).run Tryz.prog wr = .ok (.int .i64 (cn:Int)) wr/\IntKind.i64.wrap ((g0:Int)+(cn:Int))=((g0+cn:Nat):Int) /\ ∃ w4,(Builtin.delete_ #[103,36] 0 #[.map (some x.s),.int .u16 (t1:Int)]).run Tryz.prog wr = .ok (.tuple #[]) w4 /\
  DIs3 C K (path n) x T w3 (j+1) w4/\w4.cell? ⟨x.n,0,none⟩=some (.map (some x.s))/\g0+cn=((T.take (j+1)).map fun s=>(Z.setAt L (path n) s).length).sum:=by
 have hjT:j<T.length:=by rw[hT,List.length_map];exact hj
 obtain⟨t1,ht1⟩ : ∃ t1,t1=T[j]:=⟨_,rfl⟩
 have hmem:t1∈T:=by rw[ht1];exact List.getElem_mem hjT
 have hnd:T.Nodup:=by rw[hTy];exact (Z.types_rise Zx.rise (path n)).1.imp fun {a b} h=>by omega
 have hnt:t1 ∉ T.take j:=by
  rw[ht1]
  intro hm
  obtain⟨i,hi,e⟩:=List.getElem_of_mem hm
  rw[List.length_take] at hi
  rw[List.getElem_take] at e
  have:=(List.getElem_inj hnd).1 e
  omega
 have htk:T.take (j+1)=T.take j ++ [t1]:=by rw[ht1,List.take_append_getElem]
 obtain⟨y,hy,hyp,hyt⟩:=((Z.types_rise Zx.rise (path n)).2 t1).1 (hTy ▸ hmem)
 obtain⟨S,hS⟩:=Zx.of.hasS hy
 rw[hyp,hyt] at hS
 have hG:G (path n)=some x:=by
  rcases hF.who with h | ⟨h,_⟩
  ·exact h
  ·have:=(Zx.tree.cov _ _ _ hS).1;rw[h] at this;cases this
 have ht16:t1<65536:=(Zx.tree.cov _ _ _ hS).2
 have hne:x.dm t1≠x.s:=fun e=>by
  have h1:=Zx.tree.rd _ x t1 S hG hS
  rw[e,Zx.tree.rs _ x hG] at h1;cases h1
 obtain⟨es0,k0,hobj⟩:=hF.node.sets.obj
 have hxn:x.n≠x.s:=fun e=>by
  have h2:w3.heap[x.n]?=_:=hF.node.row
  rw[e,hobj] at h2;cases h2
 have hslk : ∀ ao l,SlL w3 ao l->SlL wr ao l:=fun ao l=>slL_keep (Nat.le_of_eq hD.size.symm) fun i _ hz=>hD.block i fun e=>hz (Or.inl (by rw[e];exact⟨es0,k0,hobj⟩))
 have hdm:DM wr (some (x.dm t1)) (Z.got C (path n) t1) K:=by
  obtain⟨f,h1,h2⟩:=hF.dm t1 S.ttl (some (x.dm t1)) (by rw[hS];rfl)
  exact⟨f,h1.heap (hD.block _ hne),fun y=>(h2 y).keep hslk⟩
 have hcnt:=count_set Zx.rise Zx.of hdm (fun h=>by cases h)
 obtain⟨w4,hdl,hM4,ht4⟩:=MapAt.drop hD.sets keyedH Tryz.underlying103 (keyH t1 ht16) 0
 have hrow:RowAt wr x.n 106 #[.map (some x.s),.map (some x.b)]:=(hD.block _ hxn).trans hF.node.row
 have hrow4:RowAt w4 x.n 106 #[.map (some x.s),.map (some x.b)]:=(ht4.block _ hxn).trans hrow
 have hlk:=hD.sets.get keyedH Tryz.underlying103 (Tryz.zeroValue101 wr) (keyH t1 ht16)
 rw[fU_at _ t1 ht16,if_neg hnt,hS] at hlk
 have hsum:g0+(Z.setAt L (path n) t1).length=((T.take (j+1)).map fun s=>(Z.setAt L (path n) s).length).sum:=by
  rw[htk,List.map_append,List.sum_append,hg0];simp
 refine⟨t1,(Z.setAt L (path n) t1).length,ht16,?_,hrow.cell 0,S.ttl,x.dm t1,hlk,hcnt,?_,w4,hdl,⟨ht4.os.trans hD.os,ht4.tape.trans hD.tape,ht4.output.trans hD.output,ht4.size.trans hD.size,fun i hi=>(ht4.block i hi).trans (hD.block i hi),?_⟩,hrow4.cell 0,hsum⟩
 ·obtain⟨b,o,e,hlt,hc⟩:=hsl (by omega)
  refine⟨b,o,e,?_⟩
  have hbn:b≠x.s:=fun e2=>by
   have:=hc j hj
   rw[e2] at this
   simp[World.cell?,hobj] at this
  rw[World.cell?_of_block (hD.block b hbn),hc j hj]
  have:t1=(ts.getD j 0).toNat:=by
   rw[ht1];simp[hT,List.getD_eq_getElem?_getD,hj]
  rw[this]
 ·rw[IntKind.wrap_i64];omega
 ·refine MapU.ext (hM4.congr fun k=>fdel_U _ t1 ht16 k) fun s hs=>?_
  unfold udel
  by_cases e:s=t1
  ·rw[if_pos e,if_pos (by rw[htk,e];simp)]
  ·rw[if_neg e]
   show (if s∈T.take j then none else (C (path n) s).map fun S=>setV S (x.dm s))=(if s∈T.take (j+1) then none else (C (path n) s).map fun S=>setV S (x.dm s))
   by_cases e2:s∈T.take j
   ·rw[if_pos e2,if_pos (by rw[htk];simp[e2])]
   ·rw[if_neg e2,if_neg (by rw[htk];simp[e,e2])]
set_option maxRecDepth 100000 in
set_option maxHeartbeats 1000000 in
theorem zdropSet_all (w:World) (Zb:Nat) (A:List (List UInt8)) (L:List Z.R) (ρ : Nat->Role) (G:List (List UInt8)->Option Nd) (C:List (List UInt8)->Nat->Option Z.St) (K:Nat) (Zx:ZAt w Zb A L ρ G C K) (hK:K<=1000000) (n:List (List UInt8)) (ao:Option Addr) (len cap:Nat) (hl:Hid (n.length=len)) (hs:SlS w ao n) (hm:Hid (N.Small n)) (t:Nat) (ht:t<65536) (ht5:t=255) :
 Calls Tryz.prog 52 #[.pointer (some ⟨Zb,0,none⟩),.slice ao len cap,.int .u16 (t:Int)] w fun e w'=>DropSetPost w Zb A L ρ K n t e w':=by
 have hnum:=Zx.num
 have htot:=Z.dropSet_len Zx.rise (path n) t
 have HZ:=hide Zx
 have HS:=hide hs
 have HTOT:=hide htot
 clear Zx hs htot
 go_enter Tryz.func52,Tryz.ntmps52
 have hb1:Below w.heap.size w (w.alloc (.cells #[.int .u16 (t:Int)] 36)):=(Below.refl _ w).alloc (Nat.le_refl _) _
 obtain⟨w1,hw1⟩ : ∃ w1,w1=w.alloc (.cells #[.int .u16 (t:Int)] 36):=⟨_,rfl⟩
 rw[<- hw1] at hb1
 have HW1:=hide hw1
 have HB1:=hide hb1
 clear hb1 hw1
 subst ht5
 have hTs:Z.dropTs L (path n) 255=Z.typesAt L (path n):=by unfold Z.dropTs;rw[if_pos rfl]
 have HW1:Hid (w1=w.alloc (.cells #[.int .u16 255] 36)):=hide HW1.out
 have HTS:=hide hTs
 have HTR:=hide (Z.types_rise HZ.out.rise (path n))
 clear hTs
 go_wp2_with (first
  | (go_at_call 32;rw[<- HW1.out];refine (ztypes_any w1 Zb A L ρ G C K (HZ.out.bel HB1.out) hK n ao len cap hl (HS.out.below HB1.out (Nat.le_refl _)) hm).mono ?_;rintro e w2 ⟨v,rfl,ts,hts,hO,hb2⟩;obtain⟨a,c,rfl,hSl,_,hcl,hcm⟩:=hO.open;have hb02:=HB1.out.trans (hb2.mono HB1.out.size))
  | (go_at_call 58;refine ((HZ.out.bel hb02).find n ao len cap hl (HS.out.below hb02 (Nat.le_refl _)) hm).mono ?_;rintro e w3 ⟨x,rfl,hF⟩)
  | fail)
 have hb03:=hb02.trans (hF.bel.mono hb02.size)
 have HB02:=hide hb02
 have htsb:ts.length<=9223372036854775807:=by unfold maxLen at hcm;omega
 have hSl3:=hSl.below hF.bel (Nat.le_refl _)
 obtain⟨T,hT⟩ : ∃ T,T=ts.map (·.toNat):=⟨_,rfl⟩
 have hTl:T.length=ts.length:=by rw[hT,List.length_map]
 have HTY:=hide (show T=Z.typesAt L (path n) by rw[hT];exact hts)
 have HTT:=hide hT
 have HF:=hide hF
 have HB03:=hide hb03
 have HSL:=hide hSl3
 have HTL:=hide hTl
 have hD0:DIs3 C K (path n) x T w3 0 w3:=⟨rfl,rfl,rfl,rfl,fun _ _=>rfl,by
  have:(fun s=>if s∈T.take 0 then none else (C (path n) s).map fun S=>setV S (x.dm s))=(fun s=>(C (path n) s).map fun S=>setV S (x.dm s)):=by funext s;rw[if_neg (by simp)]
  rw[this];exact HF.out.node.sets⟩
 clear hF hb03 hSl3 hT hTl hSl hO hb02 hb2 hts
 have HTOP:=HTOT.out
 have hsumT : ∀ j,((T.take j).map fun s=>(Z.setAt L (path n) s).length).sum<=2000:=fun j=>by
  have h1:(T.map fun s=>(Z.setAt L (path n) s).length).sum=((T.take j).map fun s=>(Z.setAt L (path n) s).length).sum+((T.drop j).map fun s=>(Z.setAt L (path n) s).length).sum:=by
   rw[<- List.sum_append, <- List.map_append,List.take_append_drop]
  rw[HTS.out, <- HTY.out] at HTOP
  omega
 have HSU:=hide hsumT
 clear HTOP hsumT
 go_loopw [9,24] (fun g i wr => ∃ j g0:Nat,i = .int .i64 (j:Int)/\j<=ts.length/\g = .int .i64 (g0:Int)/\Hid (g0=((T.take j).map fun s=>(Z.setAt L (path n) s).length).sum)/\DIs3 C K (path n) x T w3 j wr) (fun _ i _=>ts.length - (intOf i).toNat)
 case atStart=>exact⟨0,0,rfl,Nat.zero_le _,rfl,hide rfl,hD0⟩
 case round =>
  obtain⟨j,g0,rfl,hj,rfl,HG0,hD⟩:=hrel
  have HD:=hide hD
  clear hD hD0
  by_cases hlt:j<ts.length
  ·obtain⟨t1,cn,ht1,hx,x0,T0,m1,hlk,hcnt,hwrp,w4,hdl,hD4,x4,hg4⟩:=any_step HZ.out HF.out HTT.out HTY.out (HSL.out) HD.out hlt HG0.out (HSU.out (j+1))
   obtain⟨b1,o1,rfl,hx⟩:=hx
   have hfd:(Instr.field 101 (.agg #[.int .u32 (T0:Int),.map (some m1)]) 1).run Tryz.prog wr = .ok (.map (some m1)) wr:=by rfl
   have HD4:=hide hD4
   have HG4:=hide hg4
   clear hD4 hg4
   go_wp2
   exact⟨⟨j+1,g0+cn,by go_num,by omega,by simp,HG4,HD4.out⟩,by simp[intOf];omega⟩
  ·obtain rfl:j=ts.length:=by omega
   have hTT:T.take ts.length=T:=by rw[<- HTL.out];exact List.take_length
   obtain⟨C',hC'⟩ : ∃ C':List (List UInt8)->Nat->Option Z.St,C'=fun q s=>if q=path n/\s∈T then none else C q s:=⟨_,rfl⟩
   have k1 : ∀ q s,¬ (q=path n/\s∈T)->C' q s=C q s:=fun q s h=>by rw[hC'];exact if_neg h
   have k2 : ∀ s,s∈T->C' (path n) s=none:=fun s h=>by rw[hC'];exact if_pos ⟨rfl,h⟩
   have k3 : ∀ s,C' (path n) s=none:=fun s=>by
    by_cases h:s∈T
    ·exact k2 s h
    ·rw[k1 _ s (fun h2=>h h2.2)]
     cases hCs:C (path n) s with
     | none=>rfl
     | some S =>
      obtain⟨y,hy,e1,e2⟩:=HZ.out.of.ex _ _ _ hCs
      refine absurd ?_ h
      rw[HTY.out]
      exact (HTR.out.2 s).2 ⟨y,hy,e1,e2⟩
   have hset:MapU wr x.s (fun s=>(C' (path n) s).map fun S=>setV S (x.dm s)) K:=MapU.ext HD.out.sets fun s hs=>by
    rw[hTT]
    show (if s∈T then none else (C (path n) s).map fun S=>setV S (x.dm s))=_
    by_cases e:s∈T
    ·rw[if_pos e,k2 s e];rfl
    ·rw[if_neg e,k1 _ s (fun h=>e h.2)]
   have hTL2:=tree_less (HZ.out.tree.below_ HB02.out) HF.out (fun s=>s∈T) (fun q s h=>k1 q s (fun h2=>h h2.1)) (fun s h=>k1 _ s (fun h2=>h h2.2)) k2 HD.out.os HD.out.tape HD.out.output HD.out.size HD.out.block hset
   obtain⟨hT4,hv14⟩:=hTL2
   have hv4:ZMv ρ w wr:=(ZMv.of_below HB02.out).trans hv14 (fun _ _ h=>h)
   obtain⟨aa,ac,hZr,_,_⟩:=HZ.out.row
   have hZ4:RowAt wr Zb 93 #[.slice aa A.length ac,ptr (nodeN G []),.int .i64 (L.length:Int)]:=(hv4.block Zb hZr.lt HZ.out.zr).trans hZr
   have htr:=trim_any wr Zb _ _ ρ G C' K hT4 hZ4 n ao len cap hl (hv4.slS HZ.out.tree.kind HS.out) hm
   have HK1:=hide k1
   have HK3:=hide k3
   have HV4:=hide hv4
   have HZ4:=hide hZ4
   have HTT2:=hide hTT
   have hnum2:=hnum
   have hgb:g0<=2000:=by
    have:=HSU.out ts.length
    have:=HG0.out
    omega
   clear hC' k1 k2 k3 hset hT4 hv14 hv4 hZ4 hZr hTT
   go_wp2_with (first
    | (go_at_call 93;refine htr.mono ?_;rintro e w6 ⟨rfl,dp,hdp,hT6,hm6,hend⟩;have hZ6:RowAt w6 Zb 93 #[.slice aa A.length ac,ptr (nodeN G []),.int .i64 (L.length:Int)]:=(hm6.block _ HZ4.out.lt HZ.out.zr).trans HZ4.out;have z2:w6.cell? ⟨Zb,2,none⟩=some (.int .i64 (L.length:Int)):=hZ6.cell 2;have z3:w6.frozen? ⟨Zb,2,none⟩=false:=hZ6.frozen 2)
    | fail)
   go_ret
   have hsum:=HTOT.out
   have hg0:=HG0.out
   rw[HTT2.out] at hg0
   rw[HTS.out, <- HTY.out, <- hg0] at hsum
   have hof:=HZ.out.of.dropSet (C':=C') (path n) 255 (fun s h=>HK3.out s) (fun q s h=>HK1.out q s (fun h2=>h ⟨h2.1,Or.inl rfl⟩))
   have hless:=ZAt.less (w7:=w6) HZ.out (path n) (fun y hy=>(Z.mem_dropSet.1 hy).1) (fun y hy hne=>Z.mem_dropSet.2 ⟨hy,fun h=>hne h.1⟩) (Z.dropSet_rise HZ.out.rise (path n) 255) hof (by omega) (by rw[path_len];exact hdp) hT6 (HV4.out.trans hm6 (fun _ _ h=>h)) hend (v := .int .i64 ((L.length:Int) - (g0:Int))) (by congr 1;omega) rfl
   have en:L.length - (Z.dropSet L (path n) 255).length=g0:=by omega
   refine⟨?_,_,_,hless.1,hless.2⟩
   rw[en];rfl
end Go.Proofs.YtbkegikdmmnkaaaGreat
namespace Go.Proofs.YtbkegikdmmnkaaaGreat
set_option maxRecDepth 5000
open Go.RowKit
set_option maxRecDepth 100000 in
set_option maxHeartbeats 1000000 in
theorem zdropSet_one (w:World) (Zb:Nat) (A:List (List UInt8)) (L:List Z.R) (ρ : Nat->Role) (G:List (List UInt8)->Option Nd) (C:List (List UInt8)->Nat->Option Z.St) (K:Nat) (Zx:ZAt w Zb A L ρ G C K) (_hK:K<=1000000) (n:List (List UInt8)) (ao:Option Addr) (len cap:Nat) (hl:Hid (n.length=len)) (hs:SlS w ao n) (hm:Hid (N.Small n)) (t:Nat) (ht:t<65536) (ht5 : ¬ t=255) :
 Calls Tryz.prog 52 #[.pointer (some ⟨Zb,0,none⟩),.slice ao len cap,.int .u16 (t:Int)] w fun e w'=>DropSetPost w Zb A L ρ K n t e w':=by
 have hnum:=Zx.num
 have htot:=Z.dropSet_len Zx.rise (path n) t
 have HZ:=hide Zx
 have HS:=hide hs
 have HTOT:=hide htot
 clear Zx hs htot
 go_enter Tryz.func52,Tryz.ntmps52
 have hb1:Below w.heap.size w (w.alloc (.cells #[.int .u16 (t:Int)] 36)):=(Below.refl _ w).alloc (Nat.le_refl _) _
 obtain⟨w1,hw1⟩ : ∃ w1,w1=w.alloc (.cells #[.int .u16 (t:Int)] 36):=⟨_,rfl⟩
 rw[<- hw1] at hb1
 have HW1:=hide hw1
 have HB1:=hide hb1
 clear hb1 hw1
 have htb:((t:Int) == 255)=false:=by simp;omega
 have hTs:Z.dropTs L (path n) t = [t]:=by unfold Z.dropTs;rw[if_neg ht5]
 have HTS:=hide hTs
 clear hTs
 go_wp2_with (first
  | (go_at_call 58;rw[<- HW1.out];refine ((HZ.out.bel HB1.out).find n ao len cap hl (HS.out.below HB1.out (Nat.le_refl _)) hm).mono ?_;rintro e w3 ⟨x,rfl,hF⟩)
  | fail)
 have hb13:=hF.bel
 have hb03:=HB1.out.trans (hb13.mono HB1.out.size)
 have hcell:w3.cell? ⟨w.heap.size,0,none⟩=some (.int .u16 (t:Int)):=by
  have h0:RowAt w1 w.heap.size 36 #[.int .u16 (t:Int)]:=by rw[HW1.out];exact RowAt.new w _ _
  exact (h0.below hb13 h0.lt).cell 0
 have x0:w3.cell? ⟨x.n,0,none⟩=some (.map (some x.s)):=hF.node.row.cell 0
 have hlk:=(hF.node.lookup t ht w3 rfl).2
 obtain⟨T0,mo,hmo,hmn⟩ : ∃ (T0:Nat) (mo:Option Nat),((C (path n) t).map fun S=>setV S (x.dm t)).getD (.agg #[.int .u32 0,.map none]) = .agg #[.int .u32 (T0:Int),.map mo]/\(mo=none->C (path n) t=none):=by
  cases hC:C (path n) t with
  | none=>exact⟨0,none,rfl,fun _=>rfl⟩
  | some S=>exact⟨S.ttl,some (x.dm t),rfl,fun h=>by cases h⟩
 rw[hmo] at hlk
 have hfd:(Instr.field 101 (.agg #[.int .u32 (T0:Int),.map mo]) 1).run Tryz.prog w3 = .ok (.map mo) w3:=by rfl
 have hcnt:=count_set HZ.out.rise HZ.out.of (hF.dm t T0 mo hmo) hmn
 obtain⟨cn,hcn⟩ : ∃ cn,cn=(Z.setAt L (path n) t).length:=⟨_,rfl⟩
 rw[<- hcn] at hcnt
 have hcb:cn<=2000:=by
  have:(Z.setAt L (path n) t).length<=L.length:=List.length_filter_le _ _
  omega
 obtain⟨w4,hdl,hM4,ht4⟩:=MapAt.drop hF.node.sets keyedH Tryz.underlying103 (keyH t ht) 0
 have x4:w4.cell? ⟨x.n,0,none⟩=some (.map (some x.s)):=by
  have h0:RowAt w4 x.n 106 #[.map (some x.s),.map (some x.b)]:=(ht4.block _ (fun e=>by
   obtain⟨es,k,h⟩:=hF.node.sets.obj
   have h2:w3.heap[x.n]?=_:=hF.node.row
   rw[e,h] at h2;cases h2)).trans hF.node.row
  exact h0.cell 0
 have HF:=hide hF
 have HMO:=hide hmo
 have HMN:=hide hmn
 have HCN:=hide hcn
 have HM4:=hide hM4
 have HT4:=hide ht4
 have HB03:=hide hb03
 clear hF hmo hmn hcn hM4 ht4 hb03 hb13
 go_loopw [9,24] (fun g i wr=>(g = .int .i64 0/\i = .int .i64 0/\wr=w3)\/(g = .int .i64 (cn:Int)/\i = .int .i64 1/\wr=w4)) (fun _ i _=>1 - (intOf i).toNat)
 case atStart=>exact Or.inl ⟨rfl,rfl,rfl⟩
 case round =>
  rcases hrel with⟨rfl,rfl,rfl⟩ | ⟨rfl,rfl,rfl⟩
  ·go_wp2
   exact⟨Or.inr ⟨rfl,rfl,trivial⟩,by simp[intOf]⟩
  ·obtain⟨C',hC'⟩ : ∃ C':List (List UInt8)->Nat->Option Z.St,C'=fun q s=>if q=path n/\s=t then none else C q s:=⟨_,rfl⟩
   have k1 : ∀ q s,¬ (q=path n/\s=t)->C' q s=C q s:=fun q s h=>by rw[hC'];exact if_neg h
   have k2 : ∀ s,s=t->C' (path n) s=none:=fun s h=>by rw[hC'];exact if_pos ⟨rfl,h⟩
   have hset:MapU wr x.s (fun s=>(C' (path n) s).map fun S=>setV S (x.dm s)) K:=MapU.ext (HM4.out.congr fun k=>fdel_U _ t ht k) fun s hs=>by
    unfold udel
    by_cases e:s=t
    ·rw[if_pos e,k2 s e];rfl
    ·rw[if_neg e,k1 _ s (fun h=>e h.2)]
   have hTL:=tree_less (HZ.out.tree.below_ HB1.out) HF.out (fun s=>s=t) (fun q s h=>k1 q s (fun h2=>h h2.1)) (fun s h=>k1 _ s (fun h2=>h h2.2)) k2 HT4.out.os HT4.out.tape HT4.out.output HT4.out.size HT4.out.block hset
   obtain⟨hT4,hv14⟩:=hTL
   have hv4:ZMv ρ w wr:=(ZMv.of_below HB1.out).trans hv14 (fun _ _ h=>h)
   obtain⟨aa,ac,hZr,_,_⟩:=HZ.out.row
   have hZ4:RowAt wr Zb 93 #[.slice aa A.length ac,ptr (nodeN G []),.int .i64 (L.length:Int)]:=(hv4.block Zb hZr.lt HZ.out.zr).trans hZr
   have htr:=trim_any wr Zb _ _ ρ G C' K hT4 hZ4 n ao len cap hl (hv4.slS HZ.out.tree.kind HS.out) hm
   have HK1:=hide k1
   have HK2:=hide k2
   have HV4:=hide hv4
   have HZ4:=hide hZ4
   have hnum2:=hnum
   clear hC' k1 k2 hset hT4 hv14 hv4 hZ4 hZr
   go_wp2_with (first
    | (go_at_call 93;refine htr.mono ?_;rintro e w6 ⟨rfl,dp,hdp,hT6,hm6,hend⟩;have hZ6:RowAt w6 Zb 93 #[.slice aa A.length ac,ptr (nodeN G []),.int .i64 (L.length:Int)]:=(hm6.block _ HZ4.out.lt HZ.out.zr).trans HZ4.out;have z2:w6.cell? ⟨Zb,2,none⟩=some (.int .i64 (L.length:Int)):=hZ6.cell 2;have z3:w6.frozen? ⟨Zb,2,none⟩=false:=hZ6.frozen 2)
    | fail)
   go_ret
   have hsum:=HTOT.out
   rw[HTS.out,List.map_cons,List.map_nil,List.sum_cons,List.sum_nil, <- HCN.out] at hsum
   have hof:=HZ.out.of.dropSet (C':=C') (path n) t (fun s h=>HK2.out s (h.resolve_left ht5)) (fun q s h=>HK1.out q s (fun h2=>h ⟨h2.1,Or.inr h2.2⟩))
   have hless:=ZAt.less (w7:=w6) HZ.out (path n) (fun y hy=>(Z.mem_dropSet.1 hy).1) (fun y hy hne=>Z.mem_dropSet.2 ⟨hy,fun h=>hne h.1⟩) (Z.dropSet_rise HZ.out.rise (path n) t) hof (by omega) (by rw[path_len];exact hdp) hT6 (HV4.out.trans hm6 (fun _ _ h=>h)) hend (v := .int .i64 ((L.length:Int) - (cn:Int))) (by congr 1;omega) rfl
   have en:L.length - (Z.dropSet L (path n) t).length=cn:=by omega
   refine⟨?_,_,_,hless.1,hless.2⟩
   rw[en];rfl
set_option maxRecDepth 5000 in
theorem zdropSet_any (w:World) (Zb:Nat) (A:List (List UInt8)) (L:List Z.R) (ρ : Nat->Role) (G:List (List UInt8)->Option Nd) (C:List (List UInt8)->Nat->Option Z.St) (K:Nat) (Zx:ZAt w Zb A L ρ G C K) (hK:K<=1000000) (n:List (List UInt8)) (ao:Option Addr) (len cap:Nat) (hl:Hid (n.length=len)) (hs:SlS w ao n) (hm:Hid (N.Small n)) (t:Nat) (ht:t<65536) :
 Calls Tryz.prog 52 #[.pointer (some ⟨Zb,0,none⟩),.slice ao len cap,.int .u16 (t:Int)] w fun e w'=>DropSetPost w Zb A L ρ K n t e w':=by
 by_cases h:t=255
 ·exact zdropSet_all w Zb A L ρ G C K Zx hK n ao len cap hl hs hm t ht h
 ·exact zdropSet_one w Zb A L ρ G C K Zx hK n ao len cap hl hs hm t ht h
end Go.Proofs.YtbkegikdmmnkaaaGreat
namespace Go.Proofs.YtbkegikdmmnkaaaGreat
set_option maxRecDepth 5000
open Go.RowKit
namespace Z
theorem plt_head {l m:List UInt8} {a b:List (List UInt8)} (hl:N.lowL l=l) (hm:N.lowL m=m) (h:plt (l::a) (m::b)):l<m\/l=m:=by
 by_cases h1:N.cmpB l m<0
 ·exact Or.inl ((lt_cmpB l m).2 h1)
 ·by_cases h2:N.cmpB l m=0
  ·exact Or.inr (N.cmpB_zero.1 h2)
  ·have h3:=N.cmpB_neg l m
   exact absurd (plt_cons b a hm hl ((lt_cmpB m l).2 (by omega))) (plt_asy _ _ h)
def labs (P:List (List (List UInt8))) (p:List (List UInt8)):List (List UInt8):=((under P p).filterMap (fun q=>q[p.length]?)).foldl dd1 []
theorem under_get {P:List (List (List UInt8))} {p q:List (List UInt8)} (h:q∈under P p) {l:List UInt8} (hl:q[p.length]?=some l) : ∃ r,q=p++l::r:=by
 obtain⟨r,hr⟩:=(mem_under.1 h).2
 subst hr
 rw[List.getElem?_append_right (Nat.le_refl _),Nat.sub_self] at hl
 cases r with
 | nil=>cases hl
 | cons a r=>simp at hl;subst hl;exact⟨r,rfl⟩
theorem labs_spec {P:List (List (List UInt8))} (hP:P.Pairwise plt) (hw : ∀ q∈P,Low q) (p:List (List UInt8)):(labs P p).Pairwise (· < ·) /\ ∀ l,l∈labs P p ↔ ∃ q∈P,p ++ [l] <+: q:=by
 have hlow : ∀ q l r,q∈P->q=p++l::r->N.lowL l=l:=fun q l r hq e=>by
  have:=hw q hq
  rw[e] at this
  exact (Low.cons (Low.app.1 this).2).1
 have h0:((under P p).filterMap (fun q=>q[p.length]?)).Pairwise (fun a b=>a<b\/a=b):=by
  rw[List.pairwise_filterMap]
  have hu:(under P p).Pairwise plt:=hP.filter _
  refine hu.imp_of_mem fun {q q'} hq hq' hpl l hl m hm=>?_
  obtain⟨r,e⟩:=under_get hq hl
  obtain⟨s,e'⟩:=under_get hq' hm
  rw[e,e',plt_app] at hpl
  exact plt_head (hlow q l r (mem_under.1 hq).1 e) (hlow q' m s (mem_under.1 hq').1 e') hpl
 obtain⟨h1,h2⟩:=dd_spec (r:=fun a b:List UInt8=>a<b) blt_irr blt_asy _ [] (by simpa using h0) List.Pairwise.nil
 refine⟨h1,fun l=>?_⟩
 unfold labs
 rw[h2 l]
 constructor
 ·rintro (h | h)
  ·cases h
  ·obtain⟨q,hq,hl⟩:=List.mem_filterMap.1 h
   obtain⟨r,e⟩:=under_get hq hl
   exact⟨q,(mem_under.1 hq).1,r,by rw[e];simp⟩
 ·rintro⟨q,hq,r,e⟩
  refine Or.inr (List.mem_filterMap.2 ⟨q,mem_under.2 ⟨hq, [l]++r,by rw[<- e];simp⟩,?_⟩)
  rw[<- e];simp
theorem under_take {P:List (List (List UInt8))} (hP:P.Pairwise plt) (hw : ∀ q∈P,Low q) (p:List (List UInt8)):under P p=(if p∈P then [p] else [])++(labs P p).flatMap (fun l=>under P (p ++ [l])) :=
 under_step hP hw p _ (labs_spec hP hw p).1 (labs_spec hP hw p).2
def upto (P:List (List (List UInt8))) (p:List (List UInt8)) (j:Nat):List (List (List UInt8)):=((if p∈P then [p] else [])++((labs P p).take j).flatMap (fun l=>under P (p ++ [l]))).map List.reverse
theorem upto_succ (P:List (List (List UInt8))) (p:List (List UInt8)) (j:Nat) (hj:j<(labs P p).length):upto P p (j+1)=upto P p j++(under P (p ++ [(labs P p).getD j []])).map List.reverse:=by
 unfold upto
 rw[N.take_nextN _ j hj,List.flatMap_append, <- List.append_assoc,List.map_append]
 congr 1
 rw[List.flatMap_cons,List.flatMap_nil,List.append_nil]
theorem upto_all {P:List (List (List UInt8))} (hP:P.Pairwise plt) (hw : ∀ q∈P,Low q) (p:List (List UInt8)):upto P p (labs P p).length=(under P p).map List.reverse:=by
 unfold upto
 rw[List.take_length, <- under_take hP hw p]
theorem under_len (P:List (List (List UInt8))) (p:List (List UInt8)):(under P p).length<=P.length:=List.length_filter_le _ _
theorem upto_len {P:List (List (List UInt8))} (hP:P.Pairwise plt) (hw : ∀ q∈P,Low q) (p:List (List UInt8)) (j:Nat):(upto P p j).length<=P.length:=by
 have h1:(under P p).length<=P.length:=under_len P p
 have h2:(upto P p j).length<=(under P p).length:=by
  rw[under_take hP hw p]
  unfold upto
  rw[List.length_map,List.length_append,List.length_append]
  have:((labs P p).flatMap (fun l=>under P (p ++ [l]))).length=(((labs P p).take j).flatMap (fun l=>under P (p ++ [l]))).length+(((labs P p).drop j).flatMap (fun l=>under P (p ++ [l]))).length:=by
   rw[<- List.length_append, <- List.flatMap_append,List.take_append_drop]
  omega
 omega
theorem dd_sub : ∀ (l acc:List (List (List UInt8))),(l.foldl dd1 acc).length<=acc.length+l.length
 | [],acc=>by simp
 | a::l,acc=>by
  rw[List.foldl_cons]
  have:=dd_sub l (dd1 acc a)
  have h2:(dd1 acc a).length<=acc.length+1:=by unfold dd1;split <;> simp
  rw[List.length_cons];omega
theorem paths_len (L:List R):(paths L).length<=L.length:=by
 have:=dd_sub (L.map (·.p)) []
 rw[List.length_map] at this
 simpa [paths] using this
end Z
structure PL (G:List (List UInt8)->Option Nd) (C:List (List UInt8)->Nat->Option Z.St) (P:List (List (List UInt8))):Prop where
 kid : ∀ p l,(G (p ++ [l])).isSome ↔ ∃ q∈P,p ++ [l] <+: q
 own : ∀ p,p∈P ↔ ∃ t,(C p t).isSome
 deep : ∀ p,(G p).isSome->p.length<=128
 rise:P.Pairwise Z.plt
 low : ∀ q∈P,Z.Low q
 num:P.length<=2000
theorem ZAt.pl {w:World} {Zb:Nat} {A:List (List UInt8)} {L:List Z.R} {ρ : Nat->Role} {G:List (List UInt8)->Option Nd} {C:List (List UInt8)->Nat->Option Z.St} {K:Nat} (h:ZAt w Zb A L ρ G C K):PL G C (Z.paths L):=by
 obtain⟨h1,h2⟩:=Z.paths_rise h.rise h.lows
 refine⟨fun p l=>⟨fun hg=>?_,?_⟩,fun p=>⟨fun hp=>?_,?_⟩,fun p hp=>?_,h1,fun q hq=>?_,Nat.le_trans (Z.paths_len L) h.num⟩
 ·rcases h.cov _ hg with h3 | ⟨x,hx,h3⟩
  ·simp at h3
  ·exact⟨x.p,(h2 x.p).2 ⟨x,hx,rfl⟩,h3⟩
 ·rintro⟨q,hq,r,e⟩
  obtain⟨x,hx,rfl⟩:=(h2 q).1 hq
  obtain⟨S,hS⟩:=h.of.hasS hx
  have:=(h.tree.cov _ _ _ hS).1
  rw[<- e] at this
  exact h.tree.pre r _ this
 ·obtain⟨x,hx,rfl⟩:=(h2 p).1 hp
  obtain⟨S,hS⟩:=h.of.hasS hx
  exact⟨x.t,by rw[hS];rfl⟩
 ·rintro⟨t,ht⟩
  obtain⟨x,hx,e,_⟩:=(h.of.isSome p t).1 ht
  exact (h2 p).2 ⟨x,hx,e⟩
 ·rcases h.cov p hp with h3 | ⟨x,hx,h3⟩
  ·rw[h3];simp
  ·exact Nat.le_trans h3.length_le (h.okk x hx).2.2.2.2
 ·obtain⟨x,hx,rfl⟩:=(h2 q).1 hq
  exact h.lows x hx
open Go.RowKit
namespace N
theorem same_false {a b:List (List UInt8)} (j:Nat) (ha:j<a.length) (hb:j<b.length) (h:lowL (a.getD j [])≠lowL (b.getD j [])):same a b=false:=by
 unfold same
 rw[decide_eq_false_iff_not]
 intro e
 have h1:(lowN a)[j]?=(lowN b)[j]?:=by rw[e]
 simp only[lowN,List.getElem?_map,List.getElem?_eq_getElem ha,List.getElem?_eq_getElem hb,Option.map_some,Option.some.injEq] at h1
 apply h
 have e1:a.getD j []=a[j]:=by simp[ha]
 have e2:b.getD j []=b[j]:=by simp[hb]
 rw[e1,e2];exact h1
end N
set_option maxRecDepth 3000 in
set_option maxHeartbeats 1000000 in
theorem rSame_any (a b:List (List UInt8)) (ao bo:Option Addr) (la lb ca cb:Nat) (w:World) (hla:Hid (a.length=la)) (hlb:Hid (b.length=lb)) (hsa:SlS w ao a) (hsb:SlS w bo b) (hma:la<=9223372036854775807) (ha:Hid (Sane a)) (hb:Hid (Sane b)) :
 Calls Tryz.prog 57 #[.slice ao la ca,.slice bo lb cb] w fun e w'=>e = .returned (.bool (N.same a b))/\Below w.heap.size w w':=by
 have HSA:=hide hsa
 have HSB:=hide hsb
 clear hsa hsb
 by_cases h:la=lb
 ·subst h
  go_enter Tryz.func57,Tryz.ntmps57
  go_wp2
  go_loopw [5] (fun i wr => ∃ j:Nat,i = .int .i64 (j:Int)/\j<=la/\Hid (N.lowN (a.take j)=N.lowN (b.take j))/\Below w.heap.size w wr) (fun i _=>la - (intOf i).toNat)
  case atStart=>exact⟨0,rfl,by omega,rfl,Below.refl _ _⟩
  case round =>
   obtain⟨j,rfl,hj,HE,hB⟩:=hrel
   have hz:=hB.size
   by_cases hlt:j<la
   ·obtain⟨b1,o1,rfl,hb1,hc1⟩:=HSA.out (by have:=hla.out;omega)
    obtain⟨b2,o2,rfl,hb2,hc2⟩:=HSB.out (by have:=hlb.out;omega)
    have hx0:=hc1 j (by have:=hla.out;omega)
    have hy0:=hc2 j (by have:=hlb.out;omega)
    have hx:=(hB.cell (p:=⟨b1,o1+j,none⟩) hb1).trans hx0
    have hy:=(hB.cell (p:=⟨b2,o2+j,none⟩) hb2).trans hy0
    have hta:=N.take_nextN a j (by have:=hla.out;omega)
    have htb:=N.take_nextN b j (by have:=hlb.out;omega)
    have hsf := @N.same_false a b j (by have:=hla.out;omega) (by have:=hlb.out;omega)
    have hxl:=ha.out.at j
    have hyl:=hb.out.at j
    clear hc1 hc2
    generalize a.getD j []=x at hx hx0 hta hsf hxl
    generalize b.getD j []=y at hy hy0 htb hsf hyl
    have HX0:=hide hx0
    have HY0:=hide hy0
    have HTA:=hide hta
    have HTB:=hide htb
    have HSF:=hide hsf
    have HB:=hide hB
    have hj1:(j:Int)<(la:Int):=by omega
    clear hx0 hy0 hta htb hsf hB
    by_cases hxy:N.lowL x=N.lowL y
    ·have HXY:=hide hxy
     have e1:(N.lowL x == N.lowL y)=true:=by rw[hxy];exact beq_self_eq_true _
     have e2:(N.lowL x != N.lowL y)=false:=by rw[hxy];exact bne_self_eq_false _
     clear hxy
     go_wp2
     go_region_with (first
      | (go_at_call_of 98 x;refine (rLowText_any ⟨x.toArray⟩ x _ rfl (by exact hxl)).mono ?_;rintro e w3 ⟨rfl,hB3⟩;have HB3:=hide ((below_drew HB.out).trans (hB3.mono hz));have hz3:=HB3.out.size;have hy3:w3.cell? ⟨b2,o2+j,none⟩=some (.string ⟨y.toArray⟩):=(HB3.out.cell (p:=⟨b2,o2+j,none⟩) hb2).trans HY0.out;clear hB3)
      | (go_at_call_of 98 y;refine (rLowText_any ⟨y.toArray⟩ y _ rfl (by exact hyl)).mono ?_;rintro e w4 ⟨rfl,hB4⟩;have HB4:=hide (HB3.out.trans (hB4.mono hz3));clear hB4))
     all_goals
      go_wp2
      go_roundw
      case rel=>exact⟨j+1,by go_num,by omega,(by show _=_;rw[HTA.out,HTB.out];have h1:=HE.out;have h2:=HXY.out;unfold N.lowN at h1 ⊢; rw[List.map_append,List.map_append,h1];simp[h2]),HB4.out⟩
      case measure=>simp[intOf];omega
    ·have e1:(N.lowL x == N.lowL y)=false:=beq_eq_false_iff_ne.2 hxy
     have e2:(N.lowL x != N.lowL y)=true:=bne_iff_ne.2 hxy
     go_wp2
     go_region_with (first
      | (go_at_call_of 98 x;refine (rLowText_any ⟨x.toArray⟩ x _ rfl (by exact hxl)).mono ?_;rintro e w3 ⟨rfl,hB3⟩;have HB3:=hide ((below_drew HB.out).trans (hB3.mono hz));have hz3:=HB3.out.size;have hy3:w3.cell? ⟨b2,o2+j,none⟩=some (.string ⟨y.toArray⟩):=(HB3.out.cell (p:=⟨b2,o2+j,none⟩) hb2).trans HY0.out;clear hB3)
      | (go_at_call_of 98 y;refine (rLowText_any ⟨y.toArray⟩ y _ rfl (by exact hyl)).mono ?_;rintro e w4 ⟨rfl,hB4⟩;have HB4:=hide (HB3.out.trans (hB4.mono hz3));clear hB4))
     all_goals
      go_wp2
      go_ret
      exact⟨by rw[HSF.out hxy];rfl,HB4.out⟩
   ·obtain rfl:j=la:=by omega
    have HS:Hid (N.same a b=true):=by
     show _=_
     unfold N.same
     rw[decide_eq_true_eq]
     have h1:=HE.out
     rw[List.take_of_length_le (by rw[hla.out];exact Nat.le_refl _),List.take_of_length_le (by rw[hlb.out];exact Nat.le_refl _)] at h1
     exact h1
    go_wp2
    go_ret
    exact⟨by rw[HS.out];rfl,hB⟩
 ·have hz:N.same a b=false:=by
   unfold N.same
   rw[decide_eq_false_iff_not]
   intro e
   have:=congrArg List.length e
   rw[N.lowN_len,N.lowN_len,hla.out,hlb.out] at this
   exact h this
  have hne:((la:Int) != (lb:Int))=true:=by simp;omega
  rw[hz]
  go_enter Tryz.func57,Tryz.ntmps57
  go_wp2
  go_ret
  exact⟨rfl,Below.refl _ _⟩
theorem rWithin_any (a b:List (List UInt8)) (ao bo:Option Addr) (la lb ca cb:Nat) (w:World) (hla:Hid (a.length=la)) (hlb:Hid (b.length=lb)) (hsa:SlS w ao a) (hsb:SlS w bo b) (hma:la<=9223372036854775807) (hca:la<=ca) (ha:Hid (Sane a)) (hb:Hid (Sane b)) :
 Calls Tryz.prog 63 #[.slice ao la ca,.slice bo lb cb] w fun e w'=>e = .returned (.bool (N.within a b))/\Below w.heap.size w w':=by
 have HSA:=hide hsa
 have HSB:=hide hsb
 clear hsa hsb
 by_cases h:lb<=la
 ·have hz:N.within a b=N.same (a.drop (la - lb)) b:=by
   unfold N.within;rw[hla.out,hlb.out,decide_eq_true h,Bool.true_and]
  rw[hz]
  obtain⟨ao',hsl,hs'⟩:=slice_from (k:=la - lb) (x:=(la:Int) - (lb:Int)) (by omega) HSA.out hla.out (by omega) hca
  have HS':=hide hs'
  clear hs'
  go_enter Tryz.func63,Tryz.ntmps63
  go_wp2_with (go_at_call 57;refine (rSame_any (a.drop (la - lb)) b ao' bo _ lb _ cb _ (by show _=_;rw[List.length_drop,hla.out]) hlb HS'.out HSB.out (by omega) (ha.out.drop _) hb).mono ?_;rintro e w' ⟨rfl,hm⟩)
  go_ret
  exact⟨rfl,hm⟩
 ·have hz:N.within a b=false:=by
   unfold N.within;rw[hla.out,hlb.out,decide_eq_false h,Bool.false_and]
  rw[hz]
  have hm2:lb<=la\/la<lb:=by omega
  go_enter Tryz.func63,Tryz.ntmps63
  go_wp2
  go_ret
  exact⟨rfl,Below.refl _ _⟩
open Go.RowKit
namespace N
theorem less_is : ∀ a b:List UInt8,Op.bytesLess a b=decide (cmpB a b = -1)
 | [], []=>rfl
 | [],_::_=>rfl
 | _::_, []=>rfl
 | a::x,b::y=>by
  show (decide (a<b) || (a == b && Op.bytesLess x y))=decide ((if cmpI a.toNat b.toNat=0 then cmpB x y else cmpI a.toNat b.toNat) = -1)
  rw[less_is x y]
  have hlt:(a<b)=(a.toNat<b.toNat):=propext UInt8.lt_iff_toNat_lt
  have heq:(a == b)=decide (a.toNat=b.toNat):=by
   by_cases h:a=b
   ·subst h;simp
   ·rw[beq_eq_false_iff_ne.2 h,eq_comm,decide_eq_false_iff_not]
    exact fun e=>h (UInt8.toNat_inj.1 e)
  rw[heq]
  simp only[hlt]
  unfold cmpI
  rcases Nat.lt_trichotomy a.toNat b.toNat with h | h | h
  ·simp[h]
  ·simp[h]
  ·have h1 : ¬ (a.toNat<b.toNat):=by omega
   have h2 : ¬ (a.toNat=b.toNat):=by omega
   simp[h,h1,h2]
end N
set_option maxRecDepth 3000 in
set_option maxHeartbeats 4000000 in
theorem rCompare_any (a b:List (List UInt8)) (ao bo:Option Addr) (la lb ca cb:Nat) (w:World) (hla:Hid (a.length=la)) (hlb:Hid (b.length=lb)) (hsa:SlS w ao a) (hsb:SlS w bo b) (hma:la<=1000000) (hmb:lb<=1000000) (ha:Hid (Sane a)) (hb:Hid (Sane b)) :
 Calls Tryz.prog 126 #[.slice ao la ca,.slice bo lb cb] w fun e w'=>e = .returned (.int .i64 (N.cmpN a b))/\Below w.heap.size w w':=by
 have HSA:=hide hsa
 have HSB:=hide hsb
 clear hsa hsb
 go_enter Tryz.func126,Tryz.ntmps126
 go_wp2
 go_loopw [5] (fun i wr => ∃ j:Nat,i = .int .i64 ((j:Int)+1)/\j<=la/\j<=lb/\Hid (N.cmpN a b=N.cmpR (a.reverse.drop j) (b.reverse.drop j))/\Below w.heap.size w wr) (fun i _=>la+1 - (intOf i).toNat)
 case atStart=>exact⟨0,rfl,by omega,by omega,rfl,Below.refl _ _⟩
 case round =>
  obtain⟨j,rfl,hja,hjb,HC,hB⟩:=hrel
  have hz:=hB.size
  by_cases hlt:j<la/\j<lb
  ·obtain⟨hlta,hltb⟩:=hlt
   obtain⟨b1,o1,rfl,hb1,hc1⟩:=HSA.out (by have:=hla.out;omega)
   obtain⟨b2,o2,rfl,hb2,hc2⟩:=HSB.out (by have:=hlb.out;omega)
   obtain⟨ia,hia⟩ : ∃ ia,ia=la - 1 - j:=⟨_,rfl⟩
   obtain⟨ib,hib⟩ : ∃ ib,ib=lb - 1 - j:=⟨_,rfl⟩
   have hn:=N.cmpR_next a b j (by have:=hla.out;omega) (by have:=hlb.out;omega)
   rw[hla.out,hlb.out, <- hia, <- hib] at hn
   have hx0:=hc1 ia (by have:=hla.out;omega)
   have hy0:=hc2 ib (by have:=hlb.out;omega)
   have hx:=(hB.cell (p:=⟨b1,o1+ia,none⟩) hb1).trans hx0
   have hy:=(hB.cell (p:=⟨b2,o2+ib,none⟩) hb2).trans hy0
   have hxl:=ha.out.at ia
   have hyl:=hb.out.at ib
   clear hc1 hc2
   generalize a.getD ia []=x at hx hx0 hn hxl
   generalize b.getD ib []=y at hy hy0 hn hyl
   have e3:IntKind.i64.wrap ((la:Int) - ((j:Int)+1))=(ia:Int):=by rw[IntKind.wrap_i64];omega
   have e4:IntKind.i64.wrap ((lb:Int) - ((j:Int)+1))=(ib:Int):=by rw[IntKind.wrap_i64];omega
   have hj1:(ia:Int)<(la:Int):=by omega
   have hj2:(ib:Int)<(lb:Int):=by omega
   have hl:=N.less_is (N.lowL x) (N.lowL y)
   have hbd:=N.cmpL_bounds x y
   have hzz := @N.cmpL_zero x y
   have hcl:N.cmpB (N.lowL x) (N.lowL y)=N.cmpL x y:=rfl
   rw[hcl] at hl
   generalize hcc:N.cmpL x y=c at hn hl hbd hzz
   have HX0:=hide hx0
   have HY0:=hide hy0
   have HN:=hide hn
   have HB:=hide hB
   have HZZ:=hide hzz
   have HJ:=hide (And.intro hia hib)
   clear hx0 hy0 hn hB hzz hcl hcc hia hib
   have hc3:c = -1\/c=0\/c=1:=by omega
   rcases hc3 with rfl | rfl | rfl
   ·have hl1:Op.bytesLess (N.lowL x) (N.lowL y)=true:=by rw[hl];rfl
    clear hl
    go_wp2
    go_region_with (first
     | (go_at_call_of 98 x;refine (rLowText_any ⟨x.toArray⟩ x _ rfl (by exact hxl)).mono ?_;rintro e w3 ⟨rfl,hB3⟩;have HB3:=hide ((below_drew HB.out).trans (hB3.mono hz));have hz3:=HB3.out.size;have hy3:w3.cell? ⟨b2,o2+ib,none⟩=some (.string ⟨y.toArray⟩):=(HB3.out.cell (p:=⟨b2,o2+ib,none⟩) hb2).trans HY0.out;clear hB3)
     | (go_at_call_of 98 y;refine (rLowText_any ⟨y.toArray⟩ y _ rfl (by exact hyl)).mono ?_;rintro e w4 ⟨rfl,hB4⟩;have HB4:=hide (HB3.out.trans (hB4.mono hz3));clear hB4))
    all_goals
     go_wp2
     go_ret
     exact⟨by rw[HC.out,HN.out];rfl,HB4.out⟩
   ·have hl1:Op.bytesLess (N.lowL x) (N.lowL y)=false:=by rw[hl];rfl
    have he1:(N.lowL x == N.lowL y)=true:=beq_iff_eq.2 (HZZ.out.1 rfl)
    clear hl
    go_wp2
    go_region_with (first
     | (go_at_call_of 98 x;refine (rLowText_any ⟨x.toArray⟩ x _ rfl (by exact hxl)).mono ?_;rintro e w3 ⟨rfl,hB3⟩;have HB3:=hide ((below_drew HB.out).trans (hB3.mono hz));have hz3:=HB3.out.size;have hy3:w3.cell? ⟨b2,o2+ib,none⟩=some (.string ⟨y.toArray⟩):=(HB3.out.cell (p:=⟨b2,o2+ib,none⟩) hb2).trans HY0.out;clear hB3)
     | (go_at_call_of 98 y;refine (rLowText_any ⟨y.toArray⟩ y _ rfl (by exact hyl)).mono ?_;rintro e w4 ⟨rfl,hB4⟩;have HB4:=hide (HB3.out.trans (hB4.mono hz3));clear hB4))
    all_goals
     go_wp2
     go_roundw
     case rel=>exact⟨j+1,by go_num,by omega,by omega,(by show _=_;rw[HC.out,HN.out];simp),HB4.out⟩
     case measure=>simp[intOf];omega
   ·have hl1:Op.bytesLess (N.lowL x) (N.lowL y)=false:=by rw[hl];rfl
    have he1:(N.lowL x == N.lowL y)=false:=beq_eq_false_iff_ne.2 (fun e=>absurd (HZZ.out.2 e) (by decide))
    clear hl
    go_wp2
    go_region_with (first
     | (go_at_call_of 98 x;refine (rLowText_any ⟨x.toArray⟩ x _ rfl (by exact hxl)).mono ?_;rintro e w3 ⟨rfl,hB3⟩;have HB3:=hide ((below_drew HB.out).trans (hB3.mono hz));have hz3:=HB3.out.size;have hy3:w3.cell? ⟨b2,o2+ib,none⟩=some (.string ⟨y.toArray⟩):=(HB3.out.cell (p:=⟨b2,o2+ib,none⟩) hb2).trans HY0.out;clear hB3)
     | (go_at_call_of 98 y;refine (rLowText_any ⟨y.toArray⟩ y _ rfl (by exact hyl)).mono ?_;rintro e w4 ⟨rfl,hB4⟩;have HB4:=hide (HB3.out.trans (hB4.mono hz3));clear hB4))
    all_goals
     go_wp2
     go_ret
     exact⟨by rw[HC.out,HN.out];rfl,HB4.out⟩
  ·have hend:=N.cmpR_end a b j (by rw[hla.out];omega) (by rw[hlb.out];omega) (by rw[hla.out,hlb.out];omega)
   rw[hla.out,hlb.out] at hend
   have HE:=hide hend
   clear hend
   have hstop:j=la\/j=lb:=by omega
   rcases Nat.lt_trichotomy la lb with h | h | h
   ·have hcI:Hid (N.cmpI la lb = -1):=by show _=_;unfold N.cmpI;rw[if_pos h]
    have h1 : ¬ ((j:Int)+1<=(la:Int)):=by omega
    go_wp2
    go_ret
    exact⟨by rw[HC.out,HE.out,hcI.out];rfl,hB⟩
   ·subst h
    have hcI:Hid (N.cmpI la la=0):=N.cmpI_self la
    have h1 : ¬ ((j:Int)+1<=(la:Int)):=by omega
    go_wp2
    go_ret
    exact⟨by rw[HC.out,HE.out,hcI.out];rfl,hB⟩
   ·have hcI:Hid (N.cmpI la lb=1):=by show _=_;unfold N.cmpI;rw[if_neg (by omega),if_pos h]
    have h1:(j:Int)+1<=(la:Int):=by omega
    have h2 : ¬ ((j:Int)+1<=(lb:Int)):=by omega
    go_wp2
    go_ret
    exact⟨by rw[HC.out,HE.out,hcI.out];rfl,hB⟩
end Go.Proofs.YtbkegikdmmnkaaaGreat
