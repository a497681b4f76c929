/- What stands of lookup's search between the steps of a round, whatever has been found. -/
import Derived.Test.YtmbcegljmhcdeaaGreatNmA
import Derived.Test.YtmbcegljmhcdeaaGreatZrc
import Derived.Test.YtmbcegljmhcdeaaGreatLst
import Derived.Test.YtmbcegljmhcdeaaGreatLrg
import Derived.Test.YtmbcegljmhcdeaaGreatDat
import Derived.Test.YtmbcegljmhcdeaaGreatSrA
import Derived.Test.YtmbcegljmhcdeaaGreatSrC
import Derived.Test.YtmbcegljmhcdeaaGreatAsG
import Derived.Test.YtmbcegljmhcdeaaGreatTak
import Derived.Test.YtmbcegljmhcdeaaGreatZpl2
import Derived.Test.YtmbcegljmhcdeaaGreatZna
import Derived.Test.YtmbcegljmhcdeaaGreatZrs
import Derived.Test.YtmbcegljmhcdeaaGreatRefK
import Derived.Test.YtmbcegljmhcdeaaGreatRefH
import Derived.Test.YtmbcegljmhcdeaaGreatRefZ
import Derived.Test.YtmbcegljmhcdeaaGreatZlw
import Derived.Test.YtmbcegljmhcdeaaGreatLay
import Derived.Test.YtmbcegljmhcdeaaGreatZsw
import Derived.Test.YtmbcegljmhcdeaaGreatRdq
import Derived.Test.YtmbcegljmhcdeaaGreatRpv
import Derived.Maps.AppendAt
import Derived.Deep.RegionHeld3
import Derived.Deep.Cut
import Derived.WalkMore
namespace Go.Proofs.YtmbcegljmhcdeaaGreat
set_option maxRecDepth 5000
open Go.RowKit
namespace D
def tgt (t:Nat) (l:List UInt8):Option (List (List UInt8) × List UInt8) :=
 if t=2\/t=5 then nm l else if t=15 then (by_ 2 l).bind fun p=>nm p.2 else none
end D
open Go.RowKit
open Go.RowKit
theorem takeTarget_any (B T t:Nat) (l:List UInt8) (w:World) (hR:Rdr B T l w) :
 Calls Tryz.prog 138 #[.pointer (some ⟨T,0,none⟩),.int .u16 (t:Int)] w fun e w'=>Got B T (D.tgt t l) (fun x v w'=>OwnS w' w.heap.size v x) w e w':=by
 by_cases h25:t=2\/t=5
 ·have e:D.tgt t l=D.nm l:=by unfold D.tgt;rw[if_pos h25]
  rw[e]
  rcases h25 with rfl | rfl
  all_goals
   go_enter Tryz.func138,Tryz.ntmps138
   go_wp2_with fail
   refine (rname_any B T l _ hR).mono ?_
   rintro e w1 ⟨⟨x,r,v,ho,rfl,hx,hr⟩ | ⟨ho,rfl⟩,hm⟩
   ·go_wp2
    go_ret
    exact⟨Or.inl ⟨x,r,v,ho,rfl,hx,hr⟩,hm⟩
   ·unfold fell50
    go_wp2
    exact⟨rfl,Or.inr ⟨ho,rfl⟩,hm⟩
 ·by_cases h15:t=15
  ·have e:D.tgt t l=(D.by_ 2 l).bind fun p=>D.nm p.2:=by unfold D.tgt;rw[if_neg h25,if_pos h15]
   rw[e]
   subst h15
   go_enter Tryz.func138,Tryz.ntmps138
   go_wp2_with fail
   refine (rbytes_any B T 2 l _ hR (by omega)).mono ?_
   rintro e w1 ⟨⟨x,r,v,ho,rfl,hx,hr⟩ | ⟨ho,rfl⟩,hm⟩
   rotate_left
   ·unfold fell50
    go_wp2
    exact⟨rfl,Or.inr ⟨by rw[ho];rfl,rfl⟩,hm⟩
   have HO:=hide ho
   clear ho hx
   go_wp2_with fail
   refine (rname_any B T r _ hr).mono ?_
   rintro e w2 ⟨⟨x2,r2,v2,ho2,rfl,hx2,hr2⟩ | ⟨ho2,rfl⟩,hm2⟩
   ·go_wp2
    go_ret
    exact⟨Or.inl ⟨x2,r2,v2,by rw[HO.out];exact ho2,rfl,hx2.lower hm.size,hr2⟩,hm.trans hm2⟩
   ·unfold fell50
    go_wp2
    exact⟨rfl,Or.inr ⟨by rw[HO.out];exact ho2,rfl⟩,hm.trans hm2⟩
  ·have e:D.tgt t l=none:=by unfold D.tgt;rw[if_neg h25,if_neg h15]
   rw[e]
   have b2:((t:Int) == 2)=false:=beq_eq_false_iff_ne.2 (by omega)
   have b5:((t:Int) == 5)=false:=beq_eq_false_iff_ne.2 (by omega)
   have b15:((t:Int) == 15)=false:=beq_eq_false_iff_ne.2 (by omega)
   clear h25 h15
   go_enter Tryz.func138,Tryz.ntmps138
   go_wp2
   exact⟨rfl,Or.inr ⟨rfl,rfl⟩,Mv.refl _ _⟩
open Go.RowKit
def NameV (base:Nat) (x:List (List UInt8)) (v:Value) (w:World):Prop:=OwnS w base v x
open Go.RowKit
theorem target1_any (B T t p:Nat) (l:List UInt8) (w:World) (hR:Rdr B T l w) (hp:w.cell? ⟨p,0,none⟩=some (.int .u16 (t:Int))) :
 Calls Tryz.prog 137 #[.pointer (some ⟨T,0,none⟩),.pointer (some ⟨p,0,none⟩)] w fun e w'=>Got B T (D.tgt t l) (fun x v w'=>OwnS w' w.heap.size v x) w e w':=by
 go_enter Tryz.func137,Tryz.ntmps137
 go_wp2_with fail
 refine (takeTarget_any B T t l _ hR).mono ?_
 rintro e w1 ⟨⟨x,r,v,ho,rfl,hx,hr⟩ | ⟨ho,rfl⟩,hm⟩
 ·go_wp2
  go_ret
  exact⟨Or.inl ⟨x,r,v,ho,rfl,hx,hr⟩,hm⟩
 ·unfold fell50
  go_wp2
  exact⟨rfl,Or.inr ⟨ho,rfl⟩,hm⟩
theorem wN1_fell (A:Nat) (ve:Value) (u:TypeId) (pv:Value) (w:World) (hq:w.cell? ⟨A,0,none⟩=some ve) (fq:w.frozen? ⟨A,0,none⟩=false) :
 CallsD Tryz.prog 176 #[.pointer (some ⟨A,0,none⟩)] (.panicking [{ v := .iface u pv,recovered:=false }]) w fun e u' w' =>
  e = .returned (.tuple #[])/\u' = .panicking [{ v := .iface u pv,recovered:=true }]/\w'=w.setCell ⟨A,0,none⟩ (.int .i64 50):=by
 refine callsD_of_wpS Tryz.func176 rfl fun c₀ cs hu=>?_
 apply wpS_seq
 apply wpS_region
 simp[wpOpsS,go_sem,recoverD,hu,Tryz.ntmps176,Exit.thenS]
 refine wpS_cond (t:=true) (by simp[Act.eval,Array.replicate]) ?_
 simp only[if_true]
 apply wpS_region
 simp[wpOpsS,go_sem,hq,fq,bodyPostS,results,Tryz.results176]
theorem wN1_idle (A:Nat) (w:World) :
 CallsD Tryz.prog 176 #[.pointer (some ⟨A,0,none⟩)] .returning w fun e u' w'=>e = .returned (.tuple #[])/\u' = .returning/\w'=w:=by
 refine callsD_of_wpS Tryz.func176 rfl fun c₀ cs hu=>?_
 apply wpS_seq
 apply wpS_region
 simp[wpOpsS,go_sem,recoverD,hu,Tryz.ntmps176,Exit.thenS]
 refine wpS_cond (t:=false) (by simp[Act.eval,Array.replicate]) ?_
 simp only[Bool.false_eq_true,if_false]
 refine wpS_of_wp (wp_skip ?_)
 cases c₀
 simp_all [bodyPostS,results,Tryz.results176]
set_option maxHeartbeats 800000 in
theorem wN_any (t p:Nat) (b:List UInt8) (ao:Option Addr) (len cap:Nat) (w:World) (hl:Hid (b.length=len)) (hs:SlL w ao b) (hc:len<=cap) (hnil:ao=none->cap=0) (hp:w.cell? ⟨p,0,none⟩=some (.int .u16 (t:Int))) (hpl:p<w.heap.size) :
 Calls Tryz.prog 136 #[.slice ao len cap,.func (.func 137) #[] #[.pointer (some ⟨p,0,none⟩)]] w fun e w'=>Ans (D.full b (D.tgt t b)) NameV (.slice none 0 0) w e w':=by
 have hmf : ∀ (fn:Fn) (first cap:Array Value) (w:World),(Instr.makeFunc fn first cap).run Tryz.prog w = .ok (.func fn first cap) w:=fun _ _ _ _=>rfl
 have HS:=hide hs
 have NI:=hide hnil
 clear hs hnil
 have b0:=(Below.refl w.heap.size w).alloc (Nat.le_refl _) (.cells #[.int .i64 0] 80)
 have r0:=RowAt.new w 80 #[.int .i64 0]
 have B0:=hide b0
 have R0:=hide r0
 clear b0 r0
 rcases Nat.lt_or_ge 8192 len with hlt | hge
 ·have hlt':(8192:Int)<(len:Int):=by omega
  have HF:Hid (D.full b (D.tgt t b)=none):=D.full_long (by rw[hl.out];exact hlt)
  have k0:(w.alloc (.cells #[.int .i64 0] 80)).cell? ⟨w.heap.size,0,none⟩=some (.int .i64 0):=R0.out.cell 0
  go_enter_defers Tryz.func136,Tryz.ntmps136
  go_wp2
  refine leaves_cons (f:=176) (args := #[.pointer (some ⟨w.heap.size,0,none⟩)]) (by simp) (by simp[go_sem]) ?_
  refine (wN1_fell w.heap.size _ 80 _ _ (R0.out.cell 0) (R0.out.frozen 0)).mono ?_
  rintro e u' w'' ⟨rfl,rfl,hw⟩
  have q0:w''.cell? ⟨w.heap.size,0,none⟩=some (.int .i64 50):=by rw[hw];exact (R0.out.set 0 _).cell 0
  have hb:Below w.heap.size w w'':=by rw[hw];exact (B0.out).setCell (Nat.le_refl _) _
  simp[Leaves,settle,results,Tryz.results136,go_sem,q0]
  exact⟨Or.inr ⟨HF.out,rfl⟩,hb⟩
 ·have hge' : ¬ (8192:Int)<(len:Int):=by omega
  have R1:=hide (R0.out.alloc (.cells #[.slice ao len cap] 203))
  have b1:=B0.out.alloc (by simp) (.cells #[.slice ao len cap] 203)
  have hT:=RowAt.new (w.alloc (.cells #[.int .i64 0] 80)) 203 #[.slice ao len cap]
  rw[World.size_alloc] at hT
  have D1:Hid (Rdr w.heap.size (w.heap.size+1) b ((w.alloc (.cells #[.int .i64 0] 80)).alloc (.cells #[.slice ao len cap] 203))):=by
   have hT':=hT
   rw[<- hl.out] at hT' b1 ⊢
   exact rdr_new (w.heap.size+1) HS.out b1 hT' (by omega) (by rw[hl.out];exact hc) NI.out (by rw[hl.out];exact hge)
  have B1:=hide b1
  clear hT b1 R0 B0 HS NI
  go_enter_defers Tryz.func136,Tryz.ntmps136
  go_wp2_with fail
  refine (target1_any w.heap.size (w.heap.size+1) t p b _ (by exact D1.out) (by exact (B1.out.cell (p:=⟨p,0,none⟩) hpl).trans hp)).mono ?_
  rintro e w1 ⟨⟨x,r,v,ho,rfl,hx,hr⟩ | ⟨ho,rfl⟩,hm⟩
  rotate_left
  ·have R2:=hide (row_mv R1.out (by omega) hm)
   have B2:=hide (B1.out.trans (hm.below (by omega) (by simp;omega)))
   have HF:Hid (D.full b (D.tgt t b)=none):=D.full_none ho
   have k2:w1.cell? ⟨w.heap.size,0,none⟩=some (.int .i64 0):=R2.out.cell 0
   clear ho hm B1 R1 D1
   unfold fell50
   go_wp2
   refine leaves_cons (f:=176) (args := #[.pointer (some ⟨w.heap.size,0,none⟩)]) (by simp) (by simp[go_sem]) ?_
   refine (wN1_fell w.heap.size _ 80 _ _ (R2.out.cell 0) (R2.out.frozen 0)).mono ?_
   rintro e u' w'' ⟨rfl,rfl,hw⟩
   have q0:w''.cell? ⟨w.heap.size,0,none⟩=some (.int .i64 50):=by rw[hw];exact (R2.out.set 0 _).cell 0
   have hb:Below w.heap.size w w'':=by rw[hw];exact (B2.out).setCell (Nat.le_refl _) _
   simp[Leaves,settle,results,Tryz.results136,go_sem,q0]
   exact⟨Or.inr ⟨HF.out,rfl⟩,hb⟩
  have R2:=hide (row_mv R1.out (by omega) hm)
  have B2:=hide (B1.out.trans (hm.below (by omega) (by simp;omega)))
  have k2:w1.cell? ⟨w.heap.size,0,none⟩=some (.int .i64 0):=R2.out.cell 0
  have f2:=R2.out.frozen 0
  have X:=hide (OwnS.lower hx (show w.heap.size<=_ by simp;omega))
  have HO:=hide ho
  clear ho hm hx B1 R1 D1
  go_wp2_with fail
  refine (rdone_any w.heap.size (w.heap.size+1) r _ hr).mono ?_
  rintro e w2 ⟨rfl,rfl⟩
  by_cases hr0:r = []
  ·subst hr0
   have HF:Hid (D.full b (D.tgt t b)=some x):=D.full_some (by rw[hl.out];exact hge) HO.out
   go_wp2
   refine leaves_cons (f:=176) (args := #[.pointer (some ⟨w.heap.size,0,none⟩)]) (by simp) (by simp[go_sem]) ?_
   refine (wN1_idle w.heap.size _).mono ?_
   rintro e u' w'' ⟨rfl,rfl,hw⟩
   have q0:w''.cell? ⟨w.heap.size,0,none⟩=some (.int .i64 0):=by rw[hw];exact (R2.out.set 0 _).cell 0
   have hb:Below w.heap.size w w'':=by rw[hw];exact B2.out.setCell (Nat.le_refl _) _
   have hX:NameV w.heap.size x v w'':=by rw[hw];exact own_set X.out R2.out (by decide) _ _
   simp[Leaves,settle,results,Tryz.results136,go_sem,q0]
   exact⟨Or.inl ⟨x,_,HF.out,rfl,hX⟩,hb⟩
  ·have hd:decide (r = [])=false:=decide_eq_false hr0
   have HF:Hid (D.full b (D.tgt t b)=none):=D.full_more HO.out hr0
   rw[hd]
   go_wp2
   refine leaves_cons (f:=176) (args := #[.pointer (some ⟨w.heap.size,0,none⟩)]) (by simp) (by simp[go_sem]) ?_
   refine (wN1_fell w.heap.size _ 80 _ _ (R2.out.cell 0) (R2.out.frozen 0)).mono ?_
   rintro e u' w'' ⟨rfl,rfl,hw⟩
   have q0:w''.cell? ⟨w.heap.size,0,none⟩=some (.int .i64 50):=by rw[hw];exact (R2.out.set 0 _).cell 0
   have hb:Below w.heap.size w w'':=by rw[hw];exact (B2.out).setCell (Nat.le_refl _) _
   simp[Leaves,settle,results,Tryz.results136,go_sem,q0]
   exact⟨Or.inr ⟨HF.out,rfl⟩,hb⟩
theorem Target_any (t:Nat) (b:List UInt8) (ao:Option Addr) (len cap:Nat) (w:World) (hl:Hid (b.length=len)) (hs:SlL w ao b) (hc:len<=cap) (hnil:ao=none->cap=0) :
 Calls Tryz.prog 108 #[.int .u16 (t:Int),.slice ao len cap] w fun e w'=>Ans (D.full b (D.tgt t b)) NameV (.slice none 0 0) w e w':=by
 have hmf : ∀ (fn:Fn) (first cap:Array Value) (w:World),(Instr.makeFunc fn first cap).run Tryz.prog w = .ok (.func fn first cap) w:=fun _ _ _ _=>rfl
 have HS:=hide hs
 have NI:=hide hnil
 have b0:=(Below.refl w.heap.size w).alloc (Nat.le_refl _) (.cells #[.int .u16 (t:Int)] 36)
 have R0:=hide (RowAt.new w 36 #[.int .u16 (t:Int)])
 have B0:=hide b0
 clear hs hnil b0
 go_enter Tryz.func108,Tryz.ntmps108
 go_wp2_with fail
 refine (wN_any t w.heap.size b ao len cap _ hl (by exact HS.out.alloc _) hc NI.out (by exact R0.out.cell 0) (by simp)).mono ?_
 rintro e w1 ⟨⟨x,v,ho,rfl,hx⟩ | ⟨ho,rfl⟩,hb⟩
 ·have hb1:=B0.out.trans (hb.mono (by simp))
  have HO:=hide ho
  clear ho
  go_wp2
  go_ret2
  exact⟨Or.inl ⟨x,v,HO.out,rfl,OwnS.lower hx (by simp)⟩,hb1⟩
 ·have hb1:=B0.out.trans (hb.mono (by simp))
  have HO:=hide ho
  clear ho
  go_wp2
  go_ret2
  exact⟨Or.inr ⟨HO.out,rfl⟩,hb1⟩
open Go.RowKit
theorem ES.ka {w w':World} {x:PSet} {us:List Value} (h:ES w x us) (k:KA w w'):ES w' x us:=by
 obtain⟨na,nc,da,dc,base,e,hT,hc,hO⟩:=h
 exact⟨na,nc,da,dc,base,e,hT.kb k.kb,hc,hO.kept (fun _ _ h=>h.kb k.kb) fun g c fr _ hg=>(k.rows g c _ fr hg (by decide) (by decide)).trans hg.symm⟩
open Go.RowKit
theorem step_appY {α : Type} {et:TypeId} {sz:Nat} {E:World -> α -> List Value->Prop} {w:World} {ops:Array Oper} {o:Oper} {a:Act} {J:Act->World->Prop} {Q:Exit->Act->World->Prop} {F:Prop} (hgd:o.guard=none) (s x:Operand) (st:TypeId)
 (ho:o.op = .call { callee := .builtin .append,args := #[s,x],argTypes := #[st,st] }) (hu:Tryz.prog.underlying st=some (.slice et)) (z:Value) (bytes:Nat) (hie : ∃ i,Tryz.prog.info? et=some i/\i.zero=some z/\i.size=sz/\i.bytes=bytes) (hzc:z.cells.size=sz) (hsz:0<sz) (hby:bytes<=200)
 (base:Nat) (v:Value) (L:List α) (hs:a.eval s=v) (hown:OwnL et sz E w base v L) (ad:Addr) (c:Nat) (y : α) (us:List Value) (hx:a.eval x = .slice (some ad) 1 c) (hr : ∀ j u,us[j]?=some u->w.cell? (ad.add j)=some u) (hlen:us.length=sz) (hone : ∀ u∈us,u.oneCell'=true) (hEy:E w y us)
 (hEk : ∀ w' x us,KX et w w'->E w x us->E w' x us) (hbound:L.length<=1000000) (hbase:base<=w.heap.size)
 (h : ∀ v' w',OwnL et sz E w' base v' (L ++ [y])->KX et w w'->Below base w w'->w.grownBy w' v.ownBlock->(v'.ownBlock=v.ownBlock\/v'.ownBlock=some w.heap.size)->J (a.put o.dst v') w'):if Region.wanted o (yielded ops a.tmps)=true then Oper.wp Tryz.prog o a w J Q else F:=by
 have hw:Region.wanted o (yielded ops a.tmps)=true:=by simp[Region.wanted,hgd]
 rw[if_pos hw]
 obtain⟨i0,hi,hz0,hz1,hz2⟩:=hie
 obtain⟨vss,hv,hE⟩:=hown
 have hmul:(L.length+1)*bytes<=1000001*200:=Nat.mul_le_mul (by omega) hby
 obtain⟨v',w',h1,h2,h3,_,h5⟩:=run_append_own_at (P:=Tryz.prog) w base st o.type et i0 z sz bytes hu hi hz0 hz1 hz2 hzc hsz v L.length vss.flatten hv ad 1 c us (by omega) hr hone (by unfold maxLen;omega) (by omega) hbase
 have hk:=KX.grown hv h3
 unfold Oper.wp execOp
 simp only[ho,resolve,invoke,builtin,Sem.run_bind,Sem.run_pure,Result.andThen_ok,List.map_toArray,List.map_cons,List.map_nil,hs,hx,h1]
 refine h v' w' ⟨vss ++ [us],?_,(hE.kb fun x us=>hEk w' x us hk).app (Els.one hlen hone (hEk w' y us hk hEy))⟩ hk (owns_below hv h3 hbase) h3 h5
 rw[List.length_append,List.length_singleton,List.flatten_append,List.flatten_cons,List.flatten_nil,List.append_nil]
 exact h2
end Go.Proofs.YtmbcegljmhcdeaaGreat
namespace Go.Proofs.YtmbcegljmhcdeaaGreat
open Go.RowKit
set_option maxRecDepth 5000
def SlM (w:World) (ao:Option Addr) (L:List (List (List UInt8))):Prop:=0<L.length -> ∃ b o,ao=some ⟨b,o,none⟩/\b<w.heap.size /\ ∀ j,j<L.length -> ∃ a c,w.cell? ⟨b,o+j,none⟩=some (.slice a (L.getD j []).length c)/\SlS w a (L.getD j [])
set_option maxRecDepth 5000 in
theorem drew_two (w:World) (a b:Nat):(w.drewN a).drewN b=w.drewN (a+b):=by
 show ({ w with drawn:=w.drawn+a+b } : World) = { w with drawn:=w.drawn+(a+b) }
 rw[Nat.add_assoc]
end Go.Proofs.YtmbcegljmhcdeaaGreat
namespace Go.Proofs.YtmbcegljmhcdeaaGreat
set_option maxRecDepth 5000
open Go.RowKit
theorem follow1_any (n tg:List (List UInt8)) (ao ta:Option Addr) (len cap tl tc gt:Nat) (w:World) (hl:Hid (n.length=len)) (htl:Hid (tg.length=tl)) (hs:SlS w ao n) (ht:SlS w ta tg) (hm:Hid (N.Small n)) (htm:Hid (N.Small tg)) (hg:w.cell? ⟨gt,0,none⟩=some (.slice ta tl tc)) :
 Calls Tryz.prog 110 #[.slice ao len cap,.pointer (some ⟨gt,0,none⟩)] w fun e w'=>e = .returned (.bool (N.same n tg)) /\ ∃ k,w'=w.drewN k:=by
 have hsame:=same_any n tg ao ta len tl cap tc w hl htl hs ht (by have:=hm.out.1;have:=hl.out;omega) (by have:=htm.out.1;have:=htl.out;omega) (hide (Sane.small hm.out)) (hide (Sane.small htm.out))
 have HS:=hide hsame
 clear hsame hs ht
 go_enter Tryz.func110,Tryz.ntmps110
 go_wp2_with (go_at_call 106;refine HS.out.mono ?_;rintro e w2 ⟨rfl,hk⟩)
 go_ret
 exact⟨rfl,hk⟩
set_option maxHeartbeats 1000000 in
theorem hIF_any (As:List (List (List UInt8))) (tg:List (List UInt8)) (ao ta:Option Addr) (len cap tl tc gt:Nat) (w:World) (hl:Hid (As.length=len)) (htl:Hid (tg.length=tl)) (hs:SlM w ao As) (ht:SlS w ta tg) (hm:Hid (∀ x∈As,N.Small x)) (htm:Hid (N.Small tg)) (hg:w.cell? ⟨gt,0,none⟩=some (.slice ta tl tc)) (hb:len<=1000000) :
 Calls Tryz.prog 139 #[.slice ao len cap,.func (.func 110) #[] #[.pointer (some ⟨gt,0,none⟩)]] w fun e w' => ∃ i:Int,e = .returned (.int .i64 i)/\(0<=i ↔ ∃ x∈As,N.same x tg=true) /\ ∃ k,w'=w.drewN k:=by
 have HS:=hide hs
 have HT:=hide ht
 have HG:=hide hg
 clear hs ht hg
 go_enter Tryz.func139,Tryz.ntmps139
 go_wp2
 go_loopw [8] (fun i wr => ∃ j:Nat,i = .int .i64 (j:Int)/\j<=len/\Hid (∀ x∈As.take j,N.same x tg=false) /\ ∃ k,wr=w.drewN k) (fun i _=>len - (intOf i).toNat)
 case atStart=>exact⟨0,rfl,by omega,hide fun x hx=>by simp at hx,0,rfl⟩
 case round =>
  obtain⟨j,rfl,hj,HN,hk⟩:=hrel
  have HK:=hide hk
  clear hk
  by_cases hlt:j<len
  ·obtain⟨b,o,rfl,_,hc⟩:=HS.out (by have:=hl.out;omega)
   obtain⟨a',c',hc1,hS1⟩:=hc j (by have:=hl.out;omega)
   have hjA:j<As.length:=by have:=hl.out;omega
   obtain⟨x,hx⟩ : ∃ x,x=As.getD j []:=⟨_,rfl⟩
   have hxe:As[j]?=some x:=by rw[hx,List.getD_eq_getElem?_getD,List.getElem?_eq_getElem hjA];rfl
   have hxm:x∈As:=List.mem_of_getElem? hxe
   rw[<- hx] at hc1 hS1
   obtain⟨xl,hxl⟩ : ∃ xl,xl=x.length:=⟨_,rfl⟩
   rw[<- hxl] at hc1
   have y1:wr.cell? ⟨b,o+j,none⟩=some (.slice a' xl c'):=by obtain⟨k,rfl⟩:=HK.out;exact hc1
   have hbw:Below w.heap.size w wr:=by obtain⟨k,rfl⟩:=HK.out;exact below_drewN (Below.refl _ _) k
   have hf:=follow1_any x tg a' ta xl c' tl tc gt wr (hide hxl.symm) htl (hS1.below hbw (Nat.le_refl _)) (HT.out.below hbw (Nat.le_refl _)) (hide (hm.out x hxm)) htm (by obtain⟨k,rfl⟩:=HK.out;exact HG.out)
   obtain⟨V,hV⟩ : ∃ V,V=N.same x tg:=⟨_,rfl⟩
   rw[<- hV] at hf
   have HF:=hide hf
   have HV:=hide hV
   have HXM:=hide hxm
   have HXE:=hide hxe
   have hjk:(j:Int)<(len:Int):=by omega
   clear hf hV hxm hxe hx hxl hc1 hS1 hc hbw
   cases V with
   | true =>
    go_wp2_with (go_at_call 110;refine HF.out.mono ?_;rintro e w2 ⟨rfl,hk2⟩)
    go_ret
    refine⟨(j:Int),rfl,⟨fun _=>⟨x,HXM.out,HV.out.symm⟩,fun _=>by omega⟩,?_⟩
    obtain⟨k,rfl⟩:=HK.out
    obtain⟨k2,rfl⟩:=hk2
    exact⟨_,drew_two _ _ _⟩
   | false =>
    go_wp2_with (go_at_call 110;refine HF.out.mono ?_;rintro e w2 ⟨rfl,hk2⟩)
    go_roundw
    case rel =>
     refine⟨j+1,by go_num,by omega,hide fun y hy=>?_,?_⟩
     ·rw[List.take_add_one,HXE.out] at hy
      rcases List.mem_append.1 hy with hy | hy
      ·exact HN.out y hy
      ·simp at hy;rw[hy];exact HV.out.symm
     ·obtain⟨k,rfl⟩:=HK.out
      obtain⟨k2,rfl⟩:=hk2
      exact⟨_,drew_two _ _ _⟩
    case measure=>simp[intOf];omega
  ·obtain rfl:j=len:=by omega
   have e:As.take j=As:=List.take_of_length_le (by have:=hl.out;omega)
   rw[e] at HN
   clear e
   go_wp2
   go_ret
   exact⟨-1,rfl,⟨fun h=>absurd h (by omega),fun ⟨x,h1,h2⟩=>by have:=HN.out x h1;rw[h2] at this;cases this⟩,HK.out⟩
theorem hCF_any (As:List (List (List UInt8))) (tg:List (List UInt8)) (ao ta:Option Addr) (len cap tl tc gt:Nat) (w:World) (hl:Hid (As.length=len)) (htl:Hid (tg.length=tl)) (hs:SlM w ao As) (ht:SlS w ta tg) (hm:Hid (∀ x∈As,N.Small x)) (htm:Hid (N.Small tg)) (hg:w.cell? ⟨gt,0,none⟩=some (.slice ta tl tc)) (hb:len<=1000000) :
 Calls Tryz.prog 111 #[.slice ao len cap,.func (.func 110) #[] #[.pointer (some ⟨gt,0,none⟩)]] w fun e w'=>e = .returned (.bool (As.any fun x=>N.same x tg)) /\ ∃ k,w'=w.drewN k:=by
 have hi:=hIF_any As tg ao ta len cap tl tc gt w hl htl hs ht hm htm hg hb
 obtain⟨P,hP⟩ : ∃ P:Prop,P = ∃ x∈As,N.same x tg=true:=⟨_,rfl⟩
 obtain⟨V,hV⟩ : ∃ V,V=As.any fun x=>N.same x tg:=⟨_,rfl⟩
 have hVP:V=true↔P:=by rw[hV,hP,List.any_eq_true]
 rw[<- hP] at hi
 rw[<- hV]
 have HI:=hide hi
 have HVP:=hide hVP
 clear hi hP hV hVP hs ht hg
 cases V with
 | true =>
  go_enter Tryz.func111,Tryz.ntmps111
  go_wp2_with (go_at_call 139;refine HI.out.mono ?_;rintro e w2 ⟨i,rfl,hi,hk⟩;have h0:(0:Int)<=i:=hi.2 (HVP.out.1 rfl);clear hi)
  go_ret
  exact⟨rfl,hk⟩
 | false =>
  go_enter Tryz.func111,Tryz.ntmps111
  go_wp2_with (go_at_call 139;refine HI.out.mono ?_;rintro e w2 ⟨i,rfl,hi,hk⟩;have h0 : ¬ ((0:Int)<=i):=(fun h=>by have:=HVP.out.2 (hi.1 h);cases this);clear hi)
  go_ret
  refine⟨?_,hk⟩
  show Ending.returned (.bool (decide ((0:Int)<=i)))=_
  rw[decide_eq_false (by omega)]
end Go.Proofs.YtmbcegljmhcdeaaGreat
namespace Go.Proofs.YtmbcegljmhcdeaaGreat
set_option maxRecDepth 5000
open Go.RowKit
set_option maxRecDepth 100000 in
set_option maxHeartbeats 1500000 in
theorem answer_one {X:Nat->Prop} {w0 w:World} {Zb:Nat} {A:List (List UInt8)} {L:List Z.R} {K:Nat} (Z0:ZLive X w0 Zb A L K) (hK:K<=1000000) (hw:Below w0.heap.size w0 w) (sb:Nat) (hsb0:w0.heap.size<=sb) (va vas v2 v3 v4:Value) (t kd:Int) (nm:List (List UInt8)) (na:Option Addr) (nl nc:Nat) (hnl:Hid (nm.length=nl))
 (v:Value) (M:List PSet) (hOm:OwnL 54 4 ES w w0.heap.size v M) (hMl:M.length<=1000)
 (hrow:RowAt w sb 122 #[.pointer (some ⟨Zb,0,none⟩),va,.int .u16 t,vas,.int .i64 kd,v,v2,v3,v4,.slice na nl nc]) (hnt:TyS w na nm) (hnm:Hid (N.Small nm)) (n:List (List UInt8)) (ao:Option Addr) (len cap:Nat) (hl:Hid (n.length=len)) (hs:SlS w ao n) (hm:Hid (N.Small n)) (ts:List UInt16) (ta:Option Addr) (tl tc:Nat) (htl:Hid (ts.length=tl)) (hts:SlH w ta ts) (hb:tl<=1) :
 Calls Tryz.prog 74 #[.pointer (some ⟨sb,0,none⟩),.slice ao len cap,.slice ta tl tc] w fun e w'=>e = .returned (.tuple #[]) /\ ∃ v',RowAt w' sb 122 #[.pointer (some ⟨Zb,0,none⟩),va,.int .u16 t,vas,.int .i64 0,v',v2,v3,v4,.slice na nl nc]/\OwnL 54 4 ES w' w0.heap.size v' (M++(setsP L n (ts.map (·.toNat))).map (PSet.as (N.lowN nm)))/\KA w w'/\Below w0.heap.size w w':=by
 obtain⟨wA,hwA⟩ : ∃ wA,wA=w.setCell ⟨sb,4,none⟩ (.int .i64 0):=⟨_,rfl⟩
 have hrowA:RowAt wA sb 122 #[.pointer (some ⟨Zb,0,none⟩),va,.int .u16 t,vas,.int .i64 0,v,v2,v3,v4,.slice na nl nc]:=by rw[hwA];exact hrow.set 4 _
 have hbA:Below w0.heap.size w wA:=by rw[hwA];exact (Below.refl _ w).setCell (p:=⟨sb,4,none⟩) hsb0 _
 have hkA:KA w wA:=by rw[hwA];exact KA.kx (KX.set hrow 4 _) (Or.inr rfl)
 have hsA:SlS wA ao n:=by rw[hwA];exact hs.put hrow (j:=4) (x := .int .i64 kd) rfl (fun s=>by simp) _
 have htsA:SlH wA ta ts:=by rw[hwA];exact hts.put hrow (j:=4) (x := .int .i64 kd) rfl (fun s=>by simp) _
 have hsets:=sets_any (Z0.bel (hw.trans hbA)) hK sb hrowA.lt (hrowA.cell 0) n ao len cap hl hsA hm ts ta tl tc htl htsA (by omega)
 have hOA:OwnL 54 4 ES wA w0.heap.size v M:=by rw[hwA];exact hOm.kx (KX.set hrow 4 _) (fun _ _ h=>h.kx (by decide) (by decide) (KX.set hrow 4 (.int .i64 0))) (by decide)
 have HOA:=hide hOA
 obtain⟨S,hS⟩ : ∃ S,S=setsP L n (ts.map (·.toNat)):=⟨_,rfl⟩
 rw[<- hS] at hsets ⊢
 have hSl:S.length<=1:=by
  have h:=setsP_len L n (ts.map (·.toNat))
  rw[<- hS,List.length_map,htl.out] at h
  omega
 have f4:w.frozen? ⟨sb,4,none⟩=false:=hrow.frozen 4
 have c4:w.cell? ⟨sb,4,none⟩=some (.int .i64 kd):=hrow.cell 4
 have HWA:=hide hwA
 have HROWA:=hide hrowA
 have HBA:=hide hbA
 have HKA:=hide hkA
 have HSETS:=hide hsets
 have HW:=hide hw
 have HNT:=hide hnt
 have hwz:w0.heap.size<=wA.heap.size:=Nat.le_trans hw.size hbA.size
 clear hOm hOA hrow hrowA hbA hkA hsA htsA hsets hS hs hts hwA hnt hw Z0
 go_enter Tryz.func74,Tryz.ntmps74
 go_wp2_with (go_at_call 107;go_loud (rw[<- HWA.out];refine HSETS.out.mono ?_;rintro e w1 ⟨vv,rfl,hO1,hB1⟩;obtain⟨qa,qc,hv,_,_⟩:=hO1.slice;obtain⟨q,hq⟩ : ∃ q,q=S.length:=⟨_,rfl⟩;rw[<- hq] at hv;subst hv;have hq1:q<=1:=(by omega);have HQ:=hide hq;clear hq))
 clear f4 c4
 have HO1:=hide hO1
 have HOM1:=hide (HOA.out.bel (fun _ _ h=>h.bel hB1) hB1)
 have HB1:=hide (HBA.out.trans (hB1.mono hwz))
 have HK1:=hide (HKA.out.trans (KA.bel hB1))
 have HR1:=hide (HROWA.out.below hB1 HROWA.out.lt)
 have HSB:Hid (sb<w1.heap.size):=hide (Nat.lt_of_lt_of_le HROWA.out.lt hB1.size)
 have HB01:Hid (w0.heap.size<=w1.heap.size):=hide (Nat.le_trans hwz hB1.size)
 have hwz2:wA.heap.size<=w1.heap.size:=hB1.size
 clear hO1 hB1
 go_loopw [17] (fun i wr => ∃ (j:Nat) (v':Value),i = .int .i64 (j:Int)/\j<=q/\Below w0.heap.size w wr/\RowAt wr sb 122 #[.pointer (some ⟨Zb,0,none⟩),va,.int .u16 t,vas,.int .i64 0,v',v2,v3,v4,.slice na nl nc]/\OwnL 54 4 ES wr w0.heap.size v' (M++(S.take j).map (PSet.as (N.lowN nm)))/\KA w1 wr/\(j=0 -> ∀ g,g<w1.heap.size->g≠sb->wr.heap[g]?=w1.heap[g]?)) (fun i _=>q - (intOf i).toNat)
 case atStart=>exact⟨0,v,rfl,by omega,HB1.out,HR1.out,by simpa using HOM1.out,KA.refl _,fun _ _ _ _=>rfl⟩
 case round =>
  obtain⟨j,v',rfl,hj,hB,hR,hO,hKA,hgS⟩:=hrel
  have HB:=hide hB
  have HR:=hide hR
  have HO:=hide hO
  have HKR:=hide hKA
  have HGR:=hide hgS
  clear hB hR hO hKA hgS
  by_cases hlt:j<q
  ·have hjS:j<S.length:=by rw[<- HQ.out];exact hlt
   obtain⟨x,hx⟩ : ∃ x,S[j]?=some x:=⟨_,List.getElem?_eq_getElem hjS⟩
   obtain⟨gS,rfl,hgb,hgl,⟨cur,hcur⟩,hel⟩:=HO1.out.get (by omega)
   obtain⟨us,hus,hES,hcells⟩:=hel j x hx
   have hgne:gS≠sb:=fun e=>by
    have h1:w1.heap[sb]?=some (Obj.cells _ 122):=HR1.out
    rw[<- e,hcur] at h1;injection h1 with h1;injection h1 with _ h1 _;exact absurd h1 (by decide)
   obtain⟨xa,xc,da,dc,bse,rfl,hxT,hxc,hxO⟩:=hES
   obtain⟨xn,hxn⟩ : ∃ xn,xn=x.n.length:=⟨_,rfl⟩
   obtain⟨dl,hdl⟩ : ∃ dl,dl=x.d.length:=⟨_,rfl⟩
   obtain⟨xt,hxt⟩ : ∃ xt,xt=x.t:=⟨_,rfl⟩
   obtain⟨xl,hxl⟩ : ∃ xl,xl=x.ttl:=⟨_,rfl⟩
   rw[<- hxn, <- hdl, <- hxt, <- hxl] at hcells
   rw[<- hdl] at hxO
   have hcr : ∀ k,k<4->wr.cell? ⟨gS,j*4+k,none⟩ = [Value.slice xa xn xc,.int .u16 (xt:Int),.int .u32 (xl:Int),.slice da dl dc][k]?:=fun k hk=>(World.cell?_of_block (HGR.out (by omega) gS hgl hgne)).trans (hcells k hk)
   have y0:wr.cell? ⟨gS,j*4,none⟩=some (.slice xa xn xc):=hcr 0 (by omega)
   have y1:wr.cell? ⟨gS,j*4+1,none⟩=some (.int .u16 (xt:Int)):=hcr 1 (by omega)
   have y2:wr.cell? ⟨gS,j*4+2,none⟩=some (.int .u32 (xl:Int)):=hcr 2 (by omega)
   have y3:wr.cell? ⟨gS,j*4+3,none⟩=some (.slice da dl dc):=hcr 3 (by omega)
   obtain⟨gb,hgb2⟩ : ∃ gb,gb=wr.heap.size:=⟨_,rfl⟩
   obtain⟨w2,hw2⟩ : ∃ w2,w2=wr.alloc (.cells #[.slice xa xn xc,.int .u16 (xt:Int),.int .u32 (xl:Int),.slice da dl dc] 54):=⟨_,rfl⟩
   have hb2:Below wr.heap.size wr w2:=by rw[hw2];exact (Below.refl _ wr).alloc (Nat.le_refl _) _
   have h2b:RowAt w2 gb 54 #[.slice xa xn xc,.int .u16 (xt:Int),.int .u32 (xl:Int),.slice da dl dc]:=by rw[hw2,hgb2];exact RowAt.new wr _ _
   have h2s:=HR.out.below hb2 HR.out.lt
   have hntr:TyS wr na nm:=HNT.out.kb (HK1.out.trans HKR.out).kb
   have hlow:=lower_any nm na nl nc w2 hnl (hntr.1.below hb2 (Nat.le_refl _)) hnm
   have HX:=hide hx
   have HLOW:=hide hlow
   have HB2:=hide hb2
   have H2B:=hide h2b
   have H2S:=hide h2s
   have HXO:=hide hxO
   have HW2:=hide hw2
   have HGB:=hide hgb2
   have HDL:=hide hdl
   have HXT:=hide hxt
   have HXL:=hide hxl
   have z9:(wr.alloc (.cells #[.slice xa xn xc,.int .u16 (xt:Int),.int .u32 (xl:Int),.slice da dl dc] 54)).cell? ⟨sb,9,none⟩=some (.slice na nl nc):=by rw[<- hw2];exact h2s.cell 9
   have hjk:(j:Int)<(q:Int):=by omega
   clear hx hlow hb2 h2b h2s hxO hw2 hgb2 hdl hxt hxl hcr hcells hel hxT hxc hcur hntr hxn hus
   go_wp2_with (go_at_call 48;rw[<- HW2.out];refine HLOW.out.mono ?_;rintro e w3 ⟨v3',rfl,hO3,hB3⟩;obtain⟨a3,c3,hv3,hT3,hn3,hc3⟩:=hO3.ty;rw[N.lowN_len,hnl.out] at hv3 hc3;subst hv3;have hrb:=H2B.out.below hB3 H2B.out.lt;rw[HGB.out] at hrb;have k0:=hrb.cell 0;have k1:w3.frozen? ⟨wr.heap.size,0,none⟩=false:=hrb.frozen 0;clear hrb)
   clear k0 k1
   rw[<- HGB.out]
   obtain⟨w4,hw4⟩ : ∃ w4,w4=w3.setCell ⟨gb,0,none⟩ (.slice a3 nl c3):=⟨_,rfl⟩
   rw[<- hw4]
   have hb34:Below wr.heap.size wr w4:=by rw[hw4];exact (HB2.out.trans (hB3.mono HB2.out.size)).setCell (p:=⟨gb,0,none⟩) (Nat.le_of_eq HGB.out.symm) _
   have hsgb:sb≠gb:=by have:=HR.out.lt;have:=HGB.out;omega
   have H4s:Hid (RowAt w4 sb 122 #[.pointer (some ⟨Zb,0,none⟩),va,.int .u16 t,vas,.int .i64 0,v',v2,v3,v4,.slice na nl nc]):=hide (by rw[hw4];exact (H2S.out.below hB3 H2S.out.lt).other ⟨gb,0,none⟩ _ hsgb)
   have H4b:Hid (RowAt w4 gb 54 #[.slice a3 nl c3,.int .u16 (xt:Int),.int .u32 (xl:Int),.slice da dl dc]):=hide (by rw[hw4];exact (H2B.out.below hB3 H2B.out.lt).set 0 _)
   have hk4:KA w1 w4:=HKR.out.trans (KA.bel hb34)
   have HO4:=hide (HO.out.bel (fun _ _ h=>h.bel hb34) hb34)
   have hT4:TyS w4 a3 (N.lowN nm):=by rw[hw4];exact hT3.kb (KB.setCell (H2B.out.below hB3 H2B.out.lt) (by decide) 0 _)
   have HE4:Hid (ES w4 (PSet.as (N.lowN nm) x) [.slice a3 nl c3,.int .u16 (xt:Int),.int .u32 (xl:Int),.slice da dl dc]):=hide (by
    have e:(PSet.as (N.lowN nm) x).n.length=nl:=(N.lowN_len nm).trans hnl.out
    refine⟨a3,c3,da,dc,bse,?_,hT4,by rw[e];exact hc3,?_⟩
    ·rw[e]
     show _ = [Value.slice a3 nl c3,.int .u16 (x.t:Int),.int .u32 (x.ttl:Int),.slice da x.d.length dc]
     rw[<- HXT.out, <- HXL.out, <- HDL.out]
    ·show OwnL 37 1 EB w4 bse (.slice da x.d.length dc) x.d
     rw[<- HDL.out]
     exact HXO.out.kept (fun _ _ h=>h.kb hk4.kb) fun g c fr _ hg=>(hk4.rows g c _ fr hg (by decide) (by decide)).trans hg.symm)
   have HB4:Hid (Below w0.heap.size w w4):=hide (HB.out.trans (hb34.mono (Nat.le_trans HB01.out HKR.out.size)))
   have HK4:=hide hk4
   have HG4:Hid (∀ g,g<w1.heap.size->g≠sb->w4.heap[g]?=w1.heap[g]?):=hide fun g hg hne=>(hb34.block g (Nat.lt_of_lt_of_le hg HKR.out.size)).trans (HGR.out (by omega) g hg hne)
   have HZ4:Hid (w1.heap.size<=w4.heap.size):=hide hk4.size
   have HV5:Hid (some gb≠v'.ownBlock):=hide (HO.out.ob gb (Nat.le_of_eq HGB.out.symm))
   clear hw4 hb34 hsgb hk4 hT4 hT3 hO3 hB3 hn3 hc3 z9 HR HO HKR HGR HB HB2 H2B H2S HW2 HXO HDL HXT HXL HGB HLOW
   have SAll:Hid (∀ w',RowAt w' sb 122 #[.pointer (some ⟨Zb,0,none⟩),va,.int .u16 t,vas,.int .i64 0,v',v2,v3,v4,.slice na nl nc]->RowAt w' gb 54 #[.slice a3 nl c3,.int .u16 (xt:Int),.int .u32 (xl:Int),.slice da dl dc]->w'.cell? ⟨sb,5,none⟩=some v'/\w'.cell? ⟨gb,0,none⟩=some (.slice a3 nl c3)/\w'.cell? ⟨gb,1,none⟩=some (.int .u16 (xt:Int))/\w'.cell? ⟨gb,2,none⟩=some (.int .u32 (xl:Int))/\w'.cell? ⟨gb,3,none⟩=some (.slice da dl dc)):=hide fun W h1 h2=>⟨h1.cell 5,h2.cell 0,h2.cell 1,h2.cell 2,h2.cell 3⟩
   have bd:Below w4.heap.size w4 w4.drew:=(Below.refl _ w4).drew
   have H5s:=hide (H4s.out.below bd H4s.out.lt)
   have H5b:=hide (H4b.out.below bd H4b.out.lt)
   have HO5:=hide (HO4.out.bel (fun _ _ h=>h.bel bd) bd)
   have HE5:=hide (HE4.out.bel bd)
   have HB5:=hide (HB4.out.trans (bd.mono (Nat.le_trans HB01.out HZ4.out)))
   have HK5:=hide (HK4.out.trans (KA.bel bd))
   have HG5:Hid (∀ g,g<w1.heap.size->g≠sb->w4.drew.heap[g]?=w1.heap[g]?):=hide fun g hg hne=>(bd.block g (Nat.lt_of_lt_of_le hg HZ4.out)).trans (HG4.out g hg hne)
   have HZ5:Hid (w1.heap.size<=w4.drew.heap.size):=hide (Nat.le_trans HZ4.out bd.size)
   have HB5z:Hid (w0.heap.size<=w4.drew.heap.size):=hide (Nat.le_trans HB01.out HZ5.out)
   have SA:=hide (SAll.out _ H5s.out H5b.out)
   refine wp_region_X (S:=fun w'=>w'.cell? ⟨sb,5,none⟩=some v'/\w'.cell? ⟨gb,0,none⟩=some (.slice a3 nl c3)/\w'.cell? ⟨gb,1,none⟩=some (.int .u16 (xt:Int))/\w'.cell? ⟨gb,2,none⟩=some (.int .u32 (xl:Int))/\w'.cell? ⟨gb,3,none⟩=some (.slice da dl dc)) (jS:=12) (by kernel_rfl) ?_
   clear bd H4s H4b HO4 HE4 HB4 HK4 HG4 HZ4
   generalize w4.drew=w5 at H5s H5b HO5 HE5 HB5 HK5 HG5 HZ5 HB5z SA ⊢
   refine tk gt0 SA.out ?_
   refine tk gt1 SA.out ?_
   refine tk gt2 SA.out ?_
   refine tk gt3 SA.out ?_
   refine tk gt4 SA.out ?_
   refine tk gt5 SA.out ?_
   refine tk gt6 SA.out ?_
   refine rdy gt7 (fun K hKK=>?_)
   go_simp
   have HB6:=hide ((Below.refl _ w5).alloc (Nat.le_refl _) (.cells #[.slice a3 nl c3,.int .u16 (xt:Int),.int .u32 (xl:Int),.slice da dl dc] 54))
   have hone:=RowAt.new w5 54 #[.slice a3 nl c3,.int .u16 (xt:Int),.int .u32 (xl:Int),.slice da dl dc]
   have SB:=hide (SAll.out _ (H5s.out.alloc (.cells #[.slice a3 nl c3,.int .u16 (xt:Int),.int .u32 (xl:Int),.slice da dl dc] 54)) (H5b.out.alloc (.cells #[.slice a3 nl c3,.int .u16 (xt:Int),.int .u32 (xl:Int),.slice da dl dc] 54)))
   have HONE:=hide hone
   refine kk hKK (Or.inr SB.out) ?_
   clear hKK SA hone
   refine rdy gt8 (fun K hKK=>?_)
   refine step_appX rfl (.tmp 33) (.tmp 35) 68 rfl Tryz.underlying68 _ 56 (info_parts infoAs) rfl (by decide) (by decide) w0.heap.size v' (M++(S.take j).map (PSet.as (N.lowN nm))) (by rfl) (HO5.out.bel (fun _ _ h=>h.bel HB6.out) HB6.out) ⟨w5.heap.size,0,none⟩ 1 (PSet.as (N.lowN nm) x) [.slice a3 nl c3,.int .u16 (xt:Int),.int .u32 (xl:Int),.slice da dl dc] (by rfl) (by exact one_cell _ _ #[.slice a3 nl c3,.int .u16 (xt:Int),.int .u32 (xl:Int),.slice da dl dc] 54 HONE.out) rfl (by simp[Value.oneCell']) (HE5.out.bel HB6.out) (fun _ _ _ k h=>h.kx (by decide) (by decide) k) (by rw[List.length_append,List.length_map,List.length_take];omega) (by exact Nat.le_trans HB5z.out (HB6.out.size)) ?_
   intro v7 w7 hO7 hK7 hB7 hG7
   obtain⟨a7,c7,hv7,_,_⟩:=hO7.slice
   obtain⟨q7,hq7⟩ : ∃ q7,v7 = .slice a7 q7 c7:=⟨_,hv7⟩
   subst hq7
   clear hv7
   have H6s:=H5s.out.alloc (.cells #[.slice a3 nl c3,.int .u16 (xt:Int),.int .u32 (xl:Int),.slice da dl dc] 54)
   have H6b:=H5b.out.alloc (.cells #[.slice a3 nl c3,.int .u16 (xt:Int),.int .u32 (xl:Int),.slice da dl dc] 54)
   have H7s:=hide (hK7.row H6s (by decide))
   have h7b:RowAt w7 gb 54 #[.slice a3 nl c3,.int .u16 (xt:Int),.int .u32 (xl:Int),.slice da dl dc]:=(hG7.block gb H6b.lt (HO5.out.ob2 gb HV5.out)).trans H6b
   have SC:=hide (SAll.out _ H7s.out h7b)
   have HB67:=hide hB7
   have HK67:=hide hK7
   have HO7:=hide hO7
   have p5:w7.cell? ⟨sb,5,none⟩=some v':=H7s.out.cell 5
   have f5:w7.frozen? ⟨sb,5,none⟩=false:=H7s.out.frozen 5
   refine kk hKK (Or.inr SC.out) ?_
   clear hKK SB H6s H6b h7b hB7 hK7 hO7 hG7
   refine rdy gt9 (fun K hKK=>?_)
   go_simp
   refine kk hKK (Or.inr SC.out) ?_
   clear hKK
   refine rdy gt10 (fun K hKK=>?_)
   go_simp
   refine kk hKK (Or.inr SC.out) ?_
   clear hKK
   refine tk gt11 SC.out ?_
   refine rdy gt12 (fun K hKK=>?_)
   go_simp
   refine kk hKK (Or.inl rfl) ?_
   clear hKK
   refine wpAnyX_done (by kernel_rfl) ?_ _
   clear p5 f5
   have h8s:RowAt (w7.setCell ⟨sb,5,none⟩ (.slice a7 q7 c7)) sb 122 #[.pointer (some ⟨Zb,0,none⟩),va,.int .u16 t,vas,.int .i64 0,.slice a7 q7 c7,v2,v3,v4,.slice na nl nc]:=H7s.out.set 5 (.slice a7 q7 c7)
   have hkx:=KX.set H7s.out 5 (.slice a7 q7 c7)
   have hk57:KA w5 w7:=(KA.bel HB6.out).trans (KA.kx HK67.out (Or.inl rfl))
   have hk58:=hk57.trans (KA.kx hkx (Or.inr rfl))
   have ho8:=HO7.out.kx hkx (fun _ _ h=>h.kx (by decide) (by decide) hkx) (by decide)
   have hb8:Below w0.heap.size w (w7.setCell ⟨sb,5,none⟩ (.slice a7 q7 c7)):=((HB5.out.trans (HB6.out.mono HB5z.out)).trans HB67.out).setCell (p:=⟨sb,5,none⟩) hsb0 _
   have H8S:=hide h8s
   have HK8:=hide hk58
   have HO8:=hide ho8
   have HB8:=hide hb8
   clear h8s hkx hk57 hk58 ho8 hb8 HO7 HB67 HK67
   go_wp2
   go_roundw
   case rel =>
    refine⟨j+1,.slice a7 q7 c7,by go_num,by omega,HB8.out,H8S.out,?_,HK5.out.trans HK8.out,fun h=>absurd h (by omega)⟩
    rw[List.take_add_one,HX.out,List.map_append, <- List.append_assoc]
    exact HO8.out
   case measure=>simp[intOf];omega
  ·obtain rfl:j=q:=by omega
   have e:S.take j=S:=List.take_of_length_le (by rw[<- HQ.out];exact Nat.le_refl _)
   rw[e] at HO
   go_wp2
   exact bodyPost_end (v := .tuple #[]) (by simp[results,Tryz.results74]) rfl ⟨rfl,v',HR.out,HO.out,HK1.out.trans HKR.out,HB.out⟩
end Go.Proofs.YtmbcegljmhcdeaaGreat
namespace Go.Proofs.YtmbcegljmhcdeaaGreat
set_option maxRecDepth 5000
open Go.RowKit
def tg5 (d:List UInt8):List (List UInt8):=(D.full d (D.tgt 5 d)).getD []
theorem target5 {w:World} {d:List UInt8} {a:Option Addr} {c:Nat} (dl:Nat) (hdl:Hid (d.length=dl)) (hs:TyL w a d) (hc:dl<=c) (hn:a=none->c=0) :
 Calls Tryz.prog 108 #[.int .u16 5,.slice a dl c] w fun e w' => ∃ (a':Option Addr) (c':Nat) (k:Int),e = .returned (.tuple #[.slice a' (tg5 d).length c',.int .i64 k])/\TyS w' a' (tg5 d)/\(tg5 d).length<=c'/\(a'=none->c'=0)/\Below w.heap.size w w':=by
 refine (Target_any 5 d a dl c w hdl hs.1 hc hn).mono ?_
 rintro e w' ⟨⟨x,v,hx,rfl,hO⟩ | ⟨hx,rfl⟩,hB⟩
 ·have e:tg5 d=x:=by unfold tg5;rw[hx];rfl
  have hO:OwnS w' w.heap.size v x:=hO
  obtain⟨a',c',rfl,hT,hn',hc'⟩:=hO.ty
  rw[e]
  exact⟨a',c',0,rfl,hT,hc',hn',hB⟩
 ·have e:tg5 d = []:=by unfold tg5;rw[hx];rfl
  rw[e]
  exact⟨none,0,50,rfl,⟨fun h=>absurd h (by simp),fun a h=>by cases h⟩,Nat.le_refl _,fun _=>rfl,hB⟩
theorem OwnL.slm {w:World} {base:Nat} {L:List (List (List UInt8))} {a:Option Addr} {n c:Nat} (h:OwnL 28 1 EN w base (.slice a n c) L):SlM w a L:=fun hn=>by
 obtain⟨g,rfl,_,hlt,_,hel⟩:=h.get hn
 refine⟨g,0,rfl,hlt,fun j hj=>?_⟩
 obtain⟨us,hus,⟨xa,xc,rfl,hT,_,_⟩,hc⟩:=hel j (L.getD j []) (by rw[List.getD_eq_getElem?_getD,List.getElem?_eq_getElem hj];rfl)
 refine⟨xa,xc,?_,hT.1⟩
 have:=hc 0 (by omega)
 rw[Nat.mul_one,Nat.add_zero] at this
 rw[Nat.zero_add]
 exact this
set_option maxRecDepth 100000 in
set_option maxHeartbeats 1500000 in
theorem follow_any {w0 w:World} (hw:Below w0.heap.size w0 w) (sb:Nat) (hsb0:w0.heap.size<=sb) (vz vt vas v v2 v3 v4:Value) (kd:Int) (A:List (List UInt8)) (xa:Option Addr) (xl xc:Nat) (hxl:Hid (A.length=xl)) (hxs:TyS w xa A) (hxm:Hid (N.Small A))
 (As:List (List (List UInt8))) (hOas:OwnL 28 1 EN w w0.heap.size vas As) (hAl:As.length<=1000) (hAm : ∀ x∈As,N.Small x) (M:List PSet) (hOm:OwnL 54 4 ES w w0.heap.size v M) (hMl:M.length<=1000) (p:PSet) (k0:Nat) (hk0:M.length=k0+1) (hp:M[k0]?=some p) (d:List UInt8) (hd:p.d[0]?=some d)
 (nm:List (List UInt8)) (na:Option Addr) (nl nc:Nat) (hnl:Hid (nm.length=nl)) (hnt:TyS w na nm) (hnc:nl<=nc) (hnn:na=none->nc=0) (hnm:Hid (N.Small nm)) (hTm:Hid (N.Small (tg5 d)))
 (hrow:RowAt w sb 122 #[vz,.slice xa xl xc,vt,vas,.int .i64 kd,v,v2,v3,v4,.slice na nl nc]) :
 Calls Tryz.prog 76 #[.pointer (some ⟨sb,0,none⟩)] w fun e w'=>e = .returned (.bool (decide (M.length<8) && (N.within (tg5 d) A && !(As ++ [nm]).any fun x=>N.same x (tg5 d)))) /\ ∃ a' c' vas',RowAt w' sb 122 #[vz,.slice xa xl xc,vt,vas',.int .i64 kd,v,v2,v3,v4,.slice a' (tg5 d).length c']/\TyS w' a' (tg5 d)/\(tg5 d).length<=c'/\(a'=none->c'=0)/\OwnL 28 1 EN w' w0.heap.size vas' (As ++ [nm])/\GB sb vas.ownBlock w w'/\(vas'.ownBlock=vas.ownBlock \/ ∃ g,vas'.ownBlock=some g/\w.heap.size<=g)/\Below w0.heap.size w w':=by
 obtain⟨va,vl,vc,rfl⟩ : ∃ a n c,v = .slice a n c:=by obtain⟨a,c,e,_⟩:=hOm.slice;exact⟨a,_,c,e⟩
 have hvl:vl=M.length:=by obtain⟨a,c,e,_⟩:=hOm.slice;injection e with _ e2 _
 obtain⟨g,rfl,hgb,hgl,⟨cur,hcur⟩,hel⟩:=hOm.get (by omega)
 obtain⟨us,hus,⟨pa,pc,da,dc,bse,rfl,hpT,hpc,hpO⟩,hcells⟩:=hel k0 p hp
 obtain⟨dl,hdl⟩ : ∃ dl,dl=p.d.length:=⟨_,rfl⟩
 rw[<- hdl] at hpO
 have hy3:w.cell? ⟨g,k0*4+3,none⟩=some (.slice da dl dc):=by rw[hdl];exact hcells 3 (by omega)
 have hdpos:0<p.d.length:=(List.getElem?_eq_some_iff.1 hd).1
 obtain⟨dg,rfl,_,hdgl,_,hdel⟩:=hpO.get hdpos
 obtain⟨us2,hus2,⟨ba,bc,rfl,hbT,hbn,hbc⟩,hdc⟩:=hdel 0 d hd
 obtain⟨bl,hbl⟩ : ∃ bl,bl=d.length:=⟨_,rfl⟩
 have hx0:w.cell? ⟨dg,0,none⟩=some (.slice ba bl bc):=by rw[hbl];exact hdc 0 (by omega)
 have htg:=target5 bl (hide hbl.symm) hbT (by omega) hbn
 obtain⟨T,hT⟩ : ∃ T,T=tg5 d:=⟨_,rfl⟩
 rw[<- hT] at htg hTm ⊢
 obtain⟨tl,htl⟩ : ∃ tl,tl=T.length:=⟨_,rfl⟩
 rw[<- htl] at htg ⊢
 obtain⟨m,hm⟩ : ∃ m,m=M.length:=⟨_,rfl⟩
 rw[<- hm] at hvl hMl hk0 ⊢
 subst hvl
 obtain⟨X,hX⟩ : ∃ X,X=(decide (vl<8) && (N.within T A && !(As ++ [nm]).any fun x=>N.same x T)):=⟨_,rfl⟩
 rw[<- hX]
 have HX:=hide hX
 clear hX
 have hk1:(vl:Int) - 1=(k0:Int):=by omega
 have hk2:k0<vl:=by omega
 have hdl1:0<dl:=by omega
 have z5:w.cell? ⟨sb,5,none⟩=some (.slice (some ⟨g,0,none⟩) vl vc):=hrow.cell 5
 have HROW:=hide hrow
 have HTG:=hide htg
 have HOAS:=hide hOas
 have HNT:=hide hnt
 have HW:=hide hw
 have HXS:=hide hxs
 have HAM:=hide hAm
 have HTL:=hide htl
 have HK0:=hide hk0
 clear hk0 hel hcells hdel hdc hOm hpO hpT hpc hbT hbn hbc htg hrow hOas hnt hw hxs hAm hT htl hbl hcur hus hus2 hp hd hm hdl hdpos
 go_enter Tryz.func76,Tryz.ntmps76
 go_wp2_with (go_at_call 108;refine HTG.out.mono ?_;rintro e w2 ⟨a2,c2,kk2,rfl,hT2,hc2,hn2,hB2⟩;have HT2:=hide hT2;have HC2:=hide hc2;have HN2:=hide hn2;have HB2:=hide hB2;clear hT2 hc2 hn2 hB2)
 obtain⟨gt,hgt⟩ : ∃ gt,gt=w2.heap.size:=⟨_,rfl⟩
 obtain⟨w3,hw3⟩ : ∃ w3,w3=w2.alloc (.cells #[.slice a2 tl c2] 28):=⟨_,rfl⟩
 rw[<- hw3, <- hgt]
 have h23:Below w2.heap.size w2 w3:=by rw[hw3];exact (Below.refl _ w2).alloc (Nat.le_refl _) _
 have hb3:Below w.heap.size w w3:=HB2.out.trans (h23.mono HB2.out.size)
 have hbox:RowAt w3 gt 28 #[.slice a2 tl c2]:=by rw[hw3,hgt];exact RowAt.new w2 _ _
 have HSG:Hid (sb≠gt):=hide (by have:=HROW.out.lt;have:=HB2.out.size;omega)
 have HGB:Hid (w.heap.size<=gt):=hide (by rw[hgt];exact HB2.out.size)
 have HVG:=hide (HOAS.out.ob gt HGB.out)
 have bd:Below w3.heap.size w3 w3.drew:=(Below.refl _ w3).drew
 have HB4:=hide (hb3.trans (bd.mono hb3.size))
 have H4s:=hide (HROW.out.below HB4.out HROW.out.lt)
 have H4g:=hide (hbox.below bd hbox.lt)
 have HO4:=hide (HOAS.out.bel (fun _ _ h=>h.kb (KB.of_below HB4.out)) HB4.out)
 have HT4:Hid (TyS w3.drew a2 T):=hide ((HT2.out.kb (KB.of_below h23)).kb (KB.of_below bd))
 have HE4:Hid (EN w3.drew nm [.slice na nl nc]):=hide ⟨na,nc,by rw[hnl.out],HNT.out.kb (KB.of_below HB4.out),hnn,by rw[hnl.out];exact hnc⟩
 have HZ4:Hid (w0.heap.size<=w3.drew.heap.size):=hide (Nat.le_trans HW.out.size HB4.out.size)
 have SAll:Hid (∀ W,RowAt W sb 122 #[vz,.slice xa xl xc,vt,vas,.int .i64 kd,.slice (some ⟨g,0,none⟩) vl vc,v2,v3,v4,.slice na nl nc]->W.cell? ⟨sb,3,none⟩=some vas/\W.cell? ⟨sb,9,none⟩=some (.slice na nl nc)):=hide fun W h=>⟨h.cell 3,h.cell 9⟩
 have SA:=hide (SAll.out _ H4s.out)
 refine wp_region_X (S:=fun w'=>w'.cell? ⟨sb,3,none⟩=some vas/\w'.cell? ⟨sb,9,none⟩=some (.slice na nl nc)) (jS:=14) (by kernel_rfl) ?_
 clear hw3 hgt h23 hb3 hbox bd
 generalize w3.drew=w4 at HB4 H4s H4g HO4 HT4 HE4 HZ4 SA ⊢
 refine tk gt0 SA.out ?_
 refine tk gt1 SA.out ?_
 refine tk gt2 SA.out ?_
 refine tk gt3 SA.out ?_
 refine tk gt4 SA.out ?_
 refine tk gt5 SA.out ?_
 refine tk gt6 SA.out ?_
 refine tk gt7 SA.out ?_
 refine tk gt8 SA.out ?_
 refine tk gt9 SA.out ?_
 refine rdy gt10 (fun K hKK=>?_)
 go_simp
 have HB5:=hide ((Below.refl _ w4).alloc (Nat.le_refl _) (.cells #[.slice na nl nc] 28))
 have hone:=RowAt.new w4 28 #[.slice na nl nc]
 have SB:=hide (SAll.out _ (H4s.out.alloc (.cells #[.slice na nl nc] 28)))
 have HONE:=hide hone
 refine kk hKK (Or.inr SB.out) ?_
 clear hKK SA hone
 refine rdy gt11 (fun K hKK=>?_)
 refine step_appY rfl (.tmp 33) (.tmp 39) 46 rfl Tryz.underlying46 (.slice none 0 0) 24 (info_parts infoNs) rfl (by decide) (by decide) w0.heap.size vas As (by rfl) (HO4.out.bel (fun _ _ h=>h.kb (KB.of_below HB5.out)) HB5.out) ⟨w4.heap.size,0,none⟩ 1 nm [.slice na nl nc] (by rfl) (by exact one_cell _ _ #[.slice na nl nc] 28 HONE.out) rfl (by simp[Value.oneCell']) (HE4.out.kb (KB.of_below HB5.out)) (fun _ _ _ k h=>h.kb (k.kb (by decide))) (by omega) (by exact Nat.le_trans HZ4.out HB5.out.size) ?_
 intro v6 w6 hO6 hK6 hB6 hG6 hL6
 obtain⟨a6,c6,hv6,_,_⟩:=hO6.slice
 obtain⟨q6,hq6⟩ : ∃ q6,q6=(As ++ [nm]).length:=⟨_,rfl⟩
 rw[<- hq6] at hv6
 subst hv6
 have HQ6:=hide hq6
 have H6s:=hide (hK6.row (H4s.out.alloc (.cells #[.slice na nl nc] 28)) (by decide))
 have H6g:Hid (RowAt w6 gt 28 #[.slice a2 tl c2]):=hide ((hG6.block gt (H4g.out.alloc (.cells #[.slice na nl nc] 28)).lt HVG.out).trans (H4g.out.alloc (.cells #[.slice na nl nc] 28)))
 have SC:=hide (SAll.out _ H6s.out)
 have HO6:=hide hO6
 have HK6:=hide hK6
 have HB6:=hide hB6
 have HG6:=hide hG6
 have HL6:=hide hL6
 have p3:w6.cell? ⟨sb,3,none⟩=some vas:=H6s.out.cell 3
 have f3:w6.frozen? ⟨sb,3,none⟩=false:=H6s.out.frozen 3
 refine kk hKK (Or.inr SC.out) ?_
 clear hKK SB hO6 hK6 hB6 hG6 hL6 hq6
 refine rdy gt12 (fun K hKK=>?_)
 go_simp
 refine kk hKK (Or.inr SC.out) ?_
 clear hKK
 refine tk gt13 SC.out ?_
 refine rdy gt14 (fun K hKK=>?_)
 go_simp
 refine kk hKK (Or.inl rfl) ?_
 clear hKK
 refine wpAnyX_done (by kernel_rfl) ?_ _
 clear p3 f3
 obtain⟨w7,hw7⟩ : ∃ w7,w7=w6.setCell ⟨sb,3,none⟩ (.slice a6 q6 c6):=⟨_,rfl⟩
 rw[<- hw7]
 have H7s:Hid (RowAt w7 sb 122 #[vz,.slice xa xl xc,vt,.slice a6 q6 c6,.int .i64 kd,.slice (some ⟨g,0,none⟩) vl vc,v2,v3,v4,.slice na nl nc]):=hide (by rw[hw7];exact H6s.out.set 3 _)
 have H7g:Hid (RowAt w7 gt 28 #[.slice a2 tl c2]):=hide (by rw[hw7];exact H6g.out.other ⟨sb,3,none⟩ _ (Ne.symm HSG.out))
 have k0c:w7.cell? ⟨gt,0,none⟩=some (.slice a2 tl c2):=H7g.out.cell 0
 have c9:w7.cell? ⟨sb,9,none⟩=some (.slice na nl nc):=H7s.out.cell 9
 have f9:w7.frozen? ⟨sb,9,none⟩=false:=H7s.out.frozen 9
 have HW7:=hide hw7
 clear hw7
 go_wp2
 obtain⟨w8,hw8⟩ : ∃ w8,w8=w7.setCell ⟨sb,9,none⟩ (.slice a2 tl c2):=⟨_,rfl⟩
 rw[<- hw8]
 have H8s:Hid (RowAt w8 sb 122 #[vz,.slice xa xl xc,vt,.slice a6 q6 c6,.int .i64 kd,.slice (some ⟨g,0,none⟩) vl vc,v2,v3,v4,.slice a2 tl c2]):=hide (by rw[hw8];exact H7s.out.set 9 _)
 have H8g:Hid (RowAt w8 gt 28 #[.slice a2 tl c2]):=hide (by rw[hw8];exact H7g.out.other ⟨sb,9,none⟩ _ (Ne.symm HSG.out))
 have HW8:=hide hw8
 clear hw8 k0c c9 f9
 have SAll6:Hid (∀ W,Below w8.heap.size w8 W->W.cell? ⟨gt,0,none⟩=some (.slice a2 tl c2)/\W.cell? ⟨sb,1,none⟩=some (.slice xa xl xc)/\W.cell? ⟨sb,3,none⟩=some (.slice a6 q6 c6)):=hide fun W hW=>⟨(H8g.out.below hW H8g.out.lt).cell 0,(H8s.out.below hW H8s.out.lt).cell 1,(H8s.out.below hW H8s.out.lt).cell 3⟩
 have hk6:=HK6.out.kb (by decide)
 have hset1:=KX.set H6s.out 3 (.slice a6 q6 c6)
 rw[<- HW7.out] at hset1
 have hset2:=KX.set H7s.out 9 (.slice a2 tl c2)
 rw[<- HW8.out] at hset2
 have hO8:OwnL 28 1 EN w8 w0.heap.size (.slice a6 q6 c6) (As ++ [nm]):=(HO6.out.kx hset1 (fun _ _ h=>h.kb (hset1.kb (by decide))) (by decide)).kx hset2 (fun _ _ h=>h.kb (hset2.kb (by decide))) (by decide)
 have hT8:TyS w8 a2 T:=((((HT4.out.kb (KB.of_below HB5.out)).kb hk6).kb (hset1.kb (by decide)))).kb (hset2.kb (by decide))
 have hB8:Below w0.heap.size w w8:=by rw[HW8.out,HW7.out];exact (((((HB4.out.mono HW.out.size).trans (HB5.out.mono HZ4.out)).trans HB6.out).setCell (p:=⟨sb,3,none⟩) hsb0 _).setCell (p:=⟨sb,9,none⟩) hsb0 _)
 have hG8:GB sb vas.ownBlock w w8:=by rw[HW8.out,HW7.out];exact (((((GB.bel HB4.out).trans (GB.bel HB5.out)).trans (GB.grown HG6.out)).trans (GB.set _)).trans (GB.set _))
 have hL8:(Value.slice a6 q6 c6).ownBlock=vas.ownBlock \/ ∃ g,(Value.slice a6 q6 c6).ownBlock=some g/\w.heap.size<=g:=by
  rcases HL6.out with h | h
  ·exact Or.inl h
  ·exact Or.inr ⟨_,h,Nat.le_trans HB4.out.size HB5.out.size⟩
 obtain⟨V1,hV1⟩ : ∃ V1,V1=N.within T A:=⟨_,rfl⟩
 obtain⟨V2,hV2⟩ : ∃ V2,V2=(As ++ [nm]).any fun x=>N.same x T:=⟨_,rfl⟩
 have hxs8:TyS w8 xa A:=((((HXS.out.kb (KB.of_below HB4.out)).kb (KB.of_below HB5.out)).kb hk6).kb (hset1.kb (by decide))).kb (hset2.kb (by decide))
 have HWI:Hid (∀ W,Below w8.heap.size w8 W->Calls Tryz.prog 83 #[.slice a2 tl c2,.slice xa xl xc] W fun e w'=>e = .returned (.bool V1)/\Below W.heap.size W w'):=hide fun W hW=>(within_any T A a2 xa tl xl c2 xc W (hide HTL.out.symm) hxl (hT8.1.below hW (Nat.le_refl _)) (hxs8.1.below hW (Nat.le_refl _)) (by have:=hTm.out.1;have:=HTL.out;omega) (by have:=hxm.out.1;have:=hxl.out;omega) HC2.out (hide (Sane.small hTm.out)) (hide (Sane.small hxm.out))).mono (by rintro e w' ⟨rfl,k,rfl⟩;rw[hV1];exact⟨rfl,below_drewN (Below.refl _ _) k⟩)
 have HCF:Hid (∀ W,Below w8.heap.size w8 W->Calls Tryz.prog 111 #[.slice a6 q6 c6,.func (.func 110) #[] #[.pointer (some ⟨gt,0,none⟩)]] W fun e w'=>e = .returned (.bool V2)/\Below W.heap.size W w'):=hide fun W hW=>(hCF_any (As ++ [nm]) T a6 a2 q6 c6 tl c2 gt W (hide HQ6.out.symm) (hide HTL.out.symm) ((hO8.bel (fun _ _ h=>h.kb (KB.of_below hW)) hW).slm) (hT8.1.below hW (Nat.le_refl _)) (hide fun x hx=>by rcases List.mem_append.1 hx with h | h;exact HAM.out x h;rw[List.mem_singleton.1 h];exact hnm.out) hTm ((H8g.out.below hW H8g.out.lt).cell 0) (by rw[HQ6.out,List.length_append,List.length_singleton];omega)).mono (by rintro e w' ⟨rfl,k,rfl⟩;rw[hV2];exact⟨rfl,below_drewN (Below.refl _ _) k⟩)
 have HFIN:Hid (∀ W,Below w8.heap.size w8 W->RowAt W sb 122 #[vz,.slice xa xl xc,vt,.slice a6 q6 c6,.int .i64 kd,.slice (some ⟨g,0,none⟩) vl vc,v2,v3,v4,.slice a2 tl c2]/\TyS W a2 T/\tl<=c2/\(a2=none->c2=0)/\OwnL 28 1 EN W w0.heap.size (.slice a6 q6 c6) (As ++ [nm])/\GB sb vas.ownBlock w W/\((Value.slice a6 q6 c6).ownBlock=vas.ownBlock \/ ∃ g,(Value.slice a6 q6 c6).ownBlock=some g/\w.heap.size<=g)/\Below w0.heap.size w W):=hide fun W hW=>⟨H8s.out.below hW H8s.out.lt,hT8.kb (KB.of_below hW),HC2.out,HN2.out,hO8.bel (fun _ _ h=>h.kb (KB.of_below hW)) hW,hG8.trans (GB.bel hW),hL8,hB8.trans (hW.mono (Nat.le_trans HW.out.size hG8.size))⟩
 have HV:Hid (X=(decide ((vl:Int)<8) && (V1 && !V2))):=hide (by rw[HX.out,hV1,hV2];congr 1;rw[decide_eq_decide];omega)
 clear hk6 hset1 hset2 hO8 hT8 hB8 hG8 hL8 hV1 hV2 hxs8
 by_cases h8:(vl:Int)<8
 ·cases V1 with
  | true =>
   refine wp_region_X (S:=fun w'=>w'.cell? ⟨gt,0,none⟩=some (.slice a2 tl c2)/\w'.cell? ⟨sb,1,none⟩=some (.slice xa xl xc)/\w'.cell? ⟨sb,3,none⟩=some (.slice a6 q6 c6)) (jS:=1000) (by kernel_rfl) ?_
   have BA:Hid (Below w8.heap.size w8 w8.drew):=hide ((Below.refl _ w8).drew)
   have SA:=hide (SAll6.out _ BA.out)
   generalize w8.drew=w9 at BA SA ⊢
   refine tk gt0 SA.out ?_
   refine tk gt1 SA.out ?_
   refine tk gt2 SA.out ?_
   refine tk gt3 SA.out ?_
   refine tk gt4 SA.out ?_
   refine tk gt5 SA.out ?_
   refine tk gt6 SA.out ?_
   refine tk gt7 SA.out ?_
   refine rdy gt8 (fun K hKK=>?_)
   refine step_fng (by rfl) _ _ (by go_simp) (HWI.out _ BA.out) (by rintro e w' ⟨rfl,_⟩;exact⟨_,rfl⟩) ?_
   rintro _ w10 ⟨he,hb⟩
   cases he
   have B2:=hide (BA.out.trans (hb.mono BA.out.size))
   have SB:=hide (SAll6.out _ B2.out)
   refine kk hKK (Or.inr SB.out) ?_
   clear hKK hb SA BA
   refine tk gt9 SB.out ?_
   refine tk gt10 SB.out ?_
   refine tk gt11 SB.out ?_
   refine tk gt12 SB.out ?_
   refine tk gt13 SB.out ?_
   refine tk gt14 SB.out ?_
   refine tk gt15 SB.out ?_
   refine rdy gt16 (fun K hKK=>?_)
   refine step_fng (by rfl) _ _ (by go_simp) (HCF.out _ B2.out) (by rintro e w' ⟨rfl,_⟩;exact⟨_,rfl⟩) ?_
   rintro _ w11 ⟨he,hb⟩
   cases he
   have B3:=hide (B2.out.trans (hb.mono B2.out.size))
   have SC:=hide (SAll6.out _ B3.out)
   refine kk hKK (Or.inr SC.out) ?_
   clear hKK hb SB B2
   refine tk gt17 SC.out ?_
   refine tk gt18 SC.out ?_
   refine tk gt19 SC.out ?_
   refine wpAnyX_done (by kernel_rfl) ?_ _
   go_wp2
   go_ret
   exact⟨by rw[HV.out];simp[h8],a2,c2,_,HFIN.out _ B3.out⟩
  | false =>
   refine wp_region_X (S:=fun w'=>w'.cell? ⟨gt,0,none⟩=some (.slice a2 tl c2)/\w'.cell? ⟨sb,1,none⟩=some (.slice xa xl xc)/\w'.cell? ⟨sb,3,none⟩=some (.slice a6 q6 c6)) (jS:=1000) (by kernel_rfl) ?_
   have BA:Hid (Below w8.heap.size w8 w8.drew):=hide ((Below.refl _ w8).drew)
   have SA:=hide (SAll6.out _ BA.out)
   generalize w8.drew=w9 at BA SA ⊢
   refine tk gt0 SA.out ?_
   refine tk gt1 SA.out ?_
   refine tk gt2 SA.out ?_
   refine tk gt3 SA.out ?_
   refine tk gt4 SA.out ?_
   refine tk gt5 SA.out ?_
   refine tk gt6 SA.out ?_
   refine tk gt7 SA.out ?_
   refine rdy gt8 (fun K hKK=>?_)
   refine step_fng (by rfl) _ _ (by go_simp) (HWI.out _ BA.out) (by rintro e w' ⟨rfl,_⟩;exact⟨_,rfl⟩) ?_
   rintro _ w10 ⟨he,hb⟩
   cases he
   have B2:=hide (BA.out.trans (hb.mono BA.out.size))
   have SB:=hide (SAll6.out _ B2.out)
   refine kk hKK (Or.inr SB.out) ?_
   clear hKK hb SA BA
   refine tk gt9 SB.out ?_
   refine tk gt10 SB.out ?_
   refine tu gt11 SB.out ?_
   refine tu gt12 SB.out ?_
   refine tu gt13 SB.out ?_
   refine tu gt14 SB.out ?_
   refine tu gt15 SB.out ?_
   refine tu gt16 SB.out ?_
   refine tu gt17 SB.out ?_
   refine tk gt18 SB.out ?_
   refine tk gt19 SB.out ?_
   refine wpAnyX_done (by kernel_rfl) ?_ _
   go_wp2
   go_ret
   exact⟨by rw[HV.out];simp[h8],a2,c2,_,HFIN.out _ B2.out⟩
 ·refine wp_region_X (S:=fun w'=>w'.cell? ⟨gt,0,none⟩=some (.slice a2 tl c2)/\w'.cell? ⟨sb,1,none⟩=some (.slice xa xl xc)/\w'.cell? ⟨sb,3,none⟩=some (.slice a6 q6 c6)) (jS:=1000) (by kernel_rfl) ?_
  have BA:Hid (Below w8.heap.size w8 w8.drew):=hide ((Below.refl _ w8).drew)
  have SA:=hide (SAll6.out _ BA.out)
  generalize w8.drew=w9 at BA SA ⊢
  refine tk gt0 SA.out ?_
  refine tk gt1 SA.out ?_
  refine tk gt2 SA.out ?_
  refine tu gt3 SA.out ?_
  refine tu gt4 SA.out ?_
  refine tu gt5 SA.out ?_
  refine tu gt6 SA.out ?_
  refine tu gt7 SA.out ?_
  refine tu gt8 SA.out ?_
  refine tk gt9 SA.out ?_
  refine tk gt10 SA.out ?_
  refine tu gt11 SA.out ?_
  refine tu gt12 SA.out ?_
  refine tu gt13 SA.out ?_
  refine tu gt14 SA.out ?_
  refine tu gt15 SA.out ?_
  refine tu gt16 SA.out ?_
  refine tu gt17 SA.out ?_
  refine tk gt18 SA.out ?_
  refine tk gt19 SA.out ?_
  refine wpAnyX_done (by kernel_rfl) ?_ _
  go_wp2
  go_ret
  exact⟨by rw[HV.out];simp;intro h;omega,a2,c2,_,HFIN.out _ BA.out⟩
open Go.RowKit
def fdZ:Array Value := #[.int .i64 0,.slice none 0 0,.slice none 0 0,.slice none 0 0,.slice none 0 0,.slice none 0 0]
open Go.RowKit
theorem OwnL.own {α : Type} {et:TypeId} {sz:Nat} {E:World -> α -> List Value->Prop} {w w':World} {base:Nat} {v:Value} {L:List α} (h:OwnL et sz E w base v L) (hE : ∀ x us,E w x us->E w' x us) (hk : ∀ g,v.ownBlock=some g->w'.heap[g]?=w.heap[g]?):OwnL et sz E w' base v L:=by
 obtain⟨vss,h,h2⟩:=h
 refine⟨vss,⟨h.1,?_⟩,h2.kb hE⟩
 rcases h.2 with h3 | ⟨g,cap,cur,rfl,h3,h4,h5⟩
 ·exact Or.inl h3
 ·exact Or.inr ⟨g,cap,cur,rfl,h3,(hk g rfl).trans h4,h5⟩
theorem OwnL.blk {α : Type} {et:TypeId} {sz:Nat} {E:World -> α -> List Value->Prop} {w:World} {base:Nat} {v:Value} {L:List α} (h:OwnL et sz E w base v L) (g:Nat) (hg:v.ownBlock=some g):base<=g/\g<w.heap.size /\ ∃ cur,w.heap[g]?=some (Obj.cells cur et (0,0)):=by
 obtain⟨vss,h,_⟩:=h
 rcases h.2 with⟨rfl,_⟩ | ⟨g',cap,cur,rfl,h1,h2,_⟩
 ·simp[Value.ownBlock] at hg
 ·have e2:g'=g:=by simpa [Value.ownBlock] using hg
  subst e2
  exact⟨h1,(Array.getElem?_eq_some_iff.1 h2).1,cur,h2⟩
theorem GB.row {α : Type} {sz base:Nat} {E:World -> α -> List Value->Prop} {w w':World} {sb:Nat} {v:Value} {L:List α} {cs:Array Value} (h:GB sb v.ownBlock w w') (hO:OwnL 28 sz E w base v L) (hS:RowAt w sb 122 cs) (g:Nat) (c:Array Value) (et:TypeId) (fr:Nat × Nat) (hg:w.heap[g]?=some (Obj.cells c et fr)) (h1:et≠28) (h2:et≠122):w'.heap[g]?=some (Obj.cells c et fr):=by
 refine (h.block g (Array.getElem?_eq_some_iff.1 hg).1 (fun e=>?_) (fun e=>?_)).trans hg
 ·obtain⟨_,_,cur,hc⟩:=hO.blk g e.symm
  rw[hc] at hg;injection hg with hg;injection hg with _ hg _;exact h1 hg.symm
 ·have hS:w.heap[sb]?=some (Obj.cells cs 122):=hS
  rw[e,hS] at hg;injection hg with hg;injection hg with _ hg _;exact h2 hg.symm
theorem GB.kb {α : Type} {sz base:Nat} {E:World -> α -> List Value->Prop} {w w':World} {sb:Nat} {v:Value} {L:List α} {cs:Array Value} (h:GB sb v.ownBlock w w') (hO:OwnL 28 sz E w base v L) (hS:RowAt w sb 122 cs):KB w w':=⟨h.size,fun g c et fr hg he=>h.row hO hS g c et fr hg (fun e=>by rcases he with h | h <;> (rw[h] at e;exact absurd e (by decide))) (fun e=>by rcases he with h | h <;> (rw[h] at e;exact absurd e (by decide)))⟩
theorem ES.kept {w w':World} {x:PSet} {us:List Value} (h:ES w x us) (k:KB w w') (hr : ∀ (g:Nat) (c:Array Value) (fr:Nat × Nat),w.heap[g]?=some (Obj.cells c 37 fr)->w'.heap[g]?=some (Obj.cells c 37 fr)):ES w' x us:=by
 obtain⟨na,nc,da,dc,base,e,hT,hc,hO⟩:=h
 exact⟨na,nc,da,dc,base,e,hT.kb k,hc,hO.kept (fun _ _ h=>h.kb k) fun g c fr _ hg=>(hr g c fr hg).trans hg.symm⟩
structure FG (w:World) (sb fb:Nat) (vz vt:Value) (Ap:List (List UInt8)) (a:List (List UInt8)) (As:List (List (List UInt8))) (M:List PSet) (Ws:List (List (List UInt8))) (xa:Option Addr) (xc:Nat) (vas v vw:Value) (na:Option Addr) (nl nc:Nat) (W:World):Prop where
 bel:Below w.heap.size w W
 row:RowAt W sb 122 #[vz,.slice xa 1 xc,vt,vas,.int .i64 0,v,.slice none 0 0,.slice none 0 0,vw,.slice na nl nc]
 fd:RowAt W fb 70 fdZ
 apx:TyS W xa Ap
 ty:TyS W na a
 len:a.length=nl
 cap:nl<=nc
 nil:na=none->nc=0
 oas:OwnL 28 1 EN W w.heap.size vas As
 om:OwnL 54 4 ES W w.heap.size v M
 ow:OwnL 28 1 EN W w.heap.size vw Ws
 sep : ∀ g,vas.ownBlock=some g->vw.ownBlock≠some g
section
variable {w:World} {sb fb:Nat} {vz vt:Value} {Ap a:List (List UInt8)} {As:List (List (List UInt8))} {M:List PSet} {Ws:List (List (List UInt8))} {xa:Option Addr} {xc:Nat} {vas v vw:Value} {na:Option Addr} {nl nc:Nat} {W W':World}
theorem FG.step (h:FG w sb fb vz vt Ap a As M Ws xa xc vas v vw na nl nc W) (hb:Below W.heap.size W W'):FG w sb fb vz vt Ap a As M Ws xa xc vas v vw na nl nc W' :=
 ⟨h.bel.trans (hb.mono h.bel.size),h.row.below hb h.row.lt,h.fd.below hb h.fd.lt,h.apx.kb (KB.of_below hb),h.ty.kb (KB.of_below hb),h.len,h.cap,h.nil,h.oas.bel (fun _ _ h=>h.kb (KB.of_below hb)) hb,h.om.bel (fun _ _ h=>h.bel hb) hb,h.ow.bel (fun _ _ h=>h.kb (KB.of_below hb)) hb,h.sep⟩
theorem FG.answer (h:FG w sb fb vz vt Ap a As M Ws xa xc vas v vw na nl nc W) {v':Value} {M':List PSet} (hr:RowAt W' sb 122 #[vz,.slice xa 1 xc,vt,vas,.int .i64 0,v',.slice none 0 0,.slice none 0 0,vw,.slice na nl nc]) (ho:OwnL 54 4 ES W' w.heap.size v' M') (hk:KA W W') (hb:Below w.heap.size W W'):FG w sb fb vz vt Ap a As M' Ws xa xc vas v' vw na nl nc W' :=
 ⟨h.bel.trans hb,hr,hk.rows _ _ _ _ h.fd (by decide) (by decide),h.apx.kb hk.kb,h.ty.kb hk.kb,h.len,h.cap,h.nil,h.oas.kept (fun _ _ h=>h.kb hk.kb) (fun g c fr _ hg=>(hk.rows g c _ fr hg (by decide) (by decide)).trans hg.symm),ho,h.ow.kept (fun _ _ h=>h.kb hk.kb) (fun g c fr _ hg=>(hk.rows g c _ fr hg (by decide) (by decide)).trans hg.symm),h.sep⟩
theorem FG.wild (h:FG w sb fb vz vt Ap a As M Ws xa xc vas v vw na nl nc W) {vw':Value} {Ws':List (List (List UInt8))} (hr:RowAt W' sb 122 #[vz,.slice xa 1 xc,vt,vas,.int .i64 0,v,.slice none 0 0,.slice none 0 0,vw',.slice na nl nc]) (ho:OwnL 28 1 EN W' w.heap.size vw' Ws') (hg:GB sb vw.ownBlock W W') (hl:vw'.ownBlock=vw.ownBlock \/ ∃ g,vw'.ownBlock=some g/\W.heap.size<=g) (hb:Below w.heap.size W W'):FG w sb fb vz vt Ap a As M Ws' xa xc vas v vw' na nl nc W':=by
 have hk:=hg.kb h.ow h.row
 have hrow:=hg.row h.ow h.row
 refine⟨h.bel.trans hb,hr,hrow _ _ _ _ h.fd (by decide) (by decide),h.apx.kb hk,h.ty.kb hk,h.len,h.cap,h.nil,?_,?_,ho,fun g e=>?_⟩
 ·refine h.oas.own (fun _ _ h=>h.kb hk) fun g e=>?_
  obtain⟨_,h1,cur,h2⟩:=h.oas.blk g e
  refine hg.block g h1 (Ne.symm (h.sep g e)) fun e2=>?_
  have hS:W.heap[sb]?=some (Obj.cells _ 122):=h.row
  rw[<- e2,h2] at hS;injection hS with hS;injection hS with _ hS _;exact absurd hS (by decide)
 ·exact h.om.kept (fun _ _ h=>h.kept hk fun g c fr hg=>hrow g c _ fr hg (by decide) (by decide)) fun g c fr _ hg=>(hrow g c _ fr hg (by decide) (by decide)).trans hg.symm
 ·obtain⟨_,h1,_⟩:=h.oas.blk g e
  rcases hl with hl | ⟨g',hl,h2⟩
  ·rw[hl];exact h.sep g e
  ·rw[hl];intro e2;injection e2 with e2;omega
theorem FG.next (h:FG w sb fb vz vt Ap a As M Ws xa xc vas v vw na nl nc W) {vas':Value} {As':List (List (List UInt8))} {a':List (List UInt8)} {na':Option Addr} {nl' nc':Nat} (hr:RowAt W' sb 122 #[vz,.slice xa 1 xc,vt,vas',.int .i64 0,v,.slice none 0 0,.slice none 0 0,vw,.slice na' nl' nc']) (ht:TyS W' na' a') (hlen:a'.length=nl') (hcap:nl'<=nc') (hnil:na'=none->nc'=0) (ho:OwnL 28 1 EN W' w.heap.size vas' As') (hg:GB sb vas.ownBlock W W') (hl:vas'.ownBlock=vas.ownBlock \/ ∃ g,vas'.ownBlock=some g/\W.heap.size<=g) (hb:Below w.heap.size W W'):FG w sb fb vz vt Ap a' As' M Ws xa xc vas' v vw na' nl' nc' W':=by
 have hk:=hg.kb h.oas h.row
 have hrow:=hg.row h.oas h.row
 refine⟨h.bel.trans hb,hr,hrow _ _ _ _ h.fd (by decide) (by decide),h.apx.kb hk,ht,hlen,hcap,hnil,ho,?_,?_,fun g e=>?_⟩
 ·exact h.om.kept (fun _ _ h=>h.kept hk fun g c fr hg=>hrow g c _ fr hg (by decide) (by decide)) fun g c fr _ hg=>(hrow g c _ fr hg (by decide) (by decide)).trans hg.symm
 ·refine h.ow.own (fun _ _ h=>h.kb hk) fun g e=>?_
  obtain⟨_,h1,cur,h2⟩:=h.ow.blk g e
  refine hg.block g h1 (fun e3=>h.sep g e3.symm e) fun e2=>?_
  have hS:W.heap[sb]?=some (Obj.cells _ 122):=h.row
  rw[<- e2,h2] at hS;injection hS with hS;injection hS with _ hS _;exact absurd hS (by decide)
 ·intro e2
  obtain⟨_,h1,_⟩:=h.ow.blk g e2
  rcases hl with hl | ⟨g',hl,h2⟩
  ·exact h.sep g (hl.symm.trans e) e2
  ·rw[e] at hl;injection hl with hl;omega
end
end Go.Proofs.YtmbcegljmhcdeaaGreat
