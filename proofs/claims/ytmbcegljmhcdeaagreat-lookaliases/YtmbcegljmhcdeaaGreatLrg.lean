/- A range over a function whose rounds write into maps that the rounds made, at frames of one function of the program (out of stage 12's Lrp). -/
import Derived.Test.YtmbcegljmhcdeaaGreatLst
import Derived.Deep.RegionHeld3
import Derived.RegionTactic
import Derived.BigRegion
namespace Go.Proofs.YtmbcegljmhcdeaaGreat
set_option maxRecDepth 5000
open Go.RowKit
def DM (w:World):Option Nat->(List UInt8->Option (List UInt8))->Nat->Prop
 | none,g,_ => ∀ c,g c=none
 | some m,g,K => ∃ h,MapS w m h K /\ ∀ c,DIs w (g c) (h c)
theorem DM.bel {w w':World} {mo:Option Nat} {g:List UInt8->Option (List UInt8)} {K:Nat} (h:DM w mo g K) (hb:Below w.heap.size w w'):DM w' mo g K:=by
 cases mo with
 | none=>exact h
 | some m =>
  obtain⟨f,h1,h2⟩:=h
  exact⟨f,h1.heap (hb.block m h1.lt),fun c=>(h2 c).keep fun _ _ hs=>hs.below hb (Nat.le_refl _)⟩
theorem DIs.some {w:World} {d:List UInt8} {v:Option Value} (h:DIs w (some d) v) : ∃ ao c,v=some (.slice ao d.length c)/\SlL w ao d/\(ao=none->c=0)/\d.length<=c/\d.length<=8192:=by
 cases v with
 | none=>exact h.elim
 | some u=>obtain⟨ao,c,h1,h2⟩:=h;exact⟨ao,c,by rw[h1],h2⟩
theorem DIs.same {w:World} {d:Option (List UInt8)} {v:Option Value} (h:DIs w d v):v.isSome=d.isSome:=by
 cases d with
 | none=>cases v with
  | none=>rfl
  | some _=>exact h.elim
 | some _=>cases v with
  | none=>exact h.elim
  | some _=>rfl
theorem DM.look {w:World} {mo:Option Nat} {g:List UInt8->Option (List UInt8)} {K:Nat} (h:DM w mo g K) (c:List UInt8) (hc:c.length<=1000000) :
 ∃ v,(Instr.lookup 100 (.map mo) (.string ⟨c.toArray⟩) true).run Tryz.prog w = .ok (.tuple #[v,.bool (g c).isSome]) w/\(Instr.lookup 100 (.map mo) (.string ⟨c.toArray⟩) false).run Tryz.prog w = .ok v w /\
  ∀ d,g c=some d -> ∃ ao cp,v = .slice ao d.length cp/\SlL w ao d/\(ao=none->cp=0)/\d.length<=cp/\d.length<=8192:=by
 cases mo with
 | none =>
  have h0:g c=none:=h c
  refine⟨.slice none 0 0,?_,?_,fun d hd=>by rw[h0] at hd;cases hd⟩
  ·rw[h0];exact Maps.look_nil true keyedS Tryz.underlying100 (Tryz.zeroValue37 w) (keyS c hc)
  ·exact Maps.look_nil false keyedS Tryz.underlying100 (Tryz.zeroValue37 w) (keyS c hc)
 | some m =>
  obtain⟨f,h1,h2⟩:=h
  have h3:=h1.look keyedS Tryz.underlying100 (Tryz.zeroValue37 w) (keyS c hc)
  have h4:=h1.get keyedS Tryz.underlying100 (Tryz.zeroValue37 w) (keyS c hc)
  refine⟨(f c).getD (.slice none 0 0),?_,h4,fun d hd=>?_⟩
  ·rw[<- (h2 c).same];exact h3
  ·have:=h2 c
   rw[hd] at this
   obtain⟨ao,cp,e,h5⟩:=this.some
   exact⟨ao,cp,by rw[e];rfl,h5⟩
theorem has_any (w:World) (ttl:Int) (mo:Option Nat) (g:List UInt8->Option (List UInt8)) (K:Nat) (h:DM w mo g K) (c:List UInt8) (ao:Option Addr) (len cap:Nat) (hl:Hid (c.length=len)) (hs:SlL w ao c) (hlen:len<=1000000) :
 Calls Tryz.prog 85 #[.agg #[.int .u32 ttl,.map mo],.slice ao len cap] w fun e w'=>e = .returned (.bool (g c).isSome)/\w'=w.alloc (.cells #[.int .u32 ttl,.map mo] 102):=by
 have hcv:(convert 37 9 (.slice ao len cap)).run Tryz.prog (w.alloc (.cells #[.int .u32 ttl,.map mo] 102)) = .ok (.string ⟨c.toArray⟩) (w.alloc (.cells #[.int .u32 ttl,.map mo] 102)):=run_str len cap (hs.alloc _) hl.out
 obtain⟨v,hk,_,_⟩:=(h.bel ((Below.refl _ w).alloc (Nat.le_refl _) (.cells #[.int .u32 ttl,.map mo] 102))).look c (by rw[hl.out];exact hlen)
 clear h hs
 go_enter Tryz.func85,Tryz.ntmps85
 go_wp2
 go_ret
 exact⟨rfl,rfl⟩
open Go.RowKit
def datas (g:List UInt8->Option (List UInt8)) (ks:List (List UInt8)):List (List UInt8):=ks.map fun c=>(g c).getD []
theorem datas_snoc (g:List UInt8->Option (List UInt8)) (ks:List (List UInt8)) (j:Nat) (hj:j<ks.length):datas g (ks.take (j+1))=datas g (ks.take j) ++ [(g (ks.getD j [])).getD []]:=by
 unfold datas
 rw[List.take_add_one,List.map_append]
 congr 1
 rw[List.getElem?_eq_getElem hj,List.getD_eq_getElem?_getD,List.getElem?_eq_getElem hj];rfl
set_option maxHeartbeats 1000000 in
theorem list_any (w:World) (ttl:Int) (m:Nat) (g:List UInt8->Option (List UInt8)) (K:Nat) (h:DM w (some m) g K) (hK:K<=1000000) (ks:List (List UInt8)) (ha:ks.Pairwise (· < ·)) (hm : ∀ c,c∈ks↔(g c).isSome) (hlen:ks.length<=1000000) (hcl : ∀ c∈ks,c.length<=1000000) :
 Calls Tryz.prog 60 #[.agg #[.int .u32 ttl,.map (some m)]] w fun e w' => ∃ v,e = .returned v/\OwnL 37 1 EB w' w.heap.size v (datas g ks)/\Below w.heap.size w w':=by
 obtain⟨n,hn⟩ : ∃ n,ks.length=n:=⟨_,rfl⟩
 obtain⟨w1,hw1⟩ : ∃ w1,w1=w.alloc (.cells #[.int .u32 ttl,.map (some m)] 102):=⟨_,rfl⟩
 have hb1:Below w.heap.size w w1:=by rw[hw1];exact (Below.refl _ w).alloc (Nat.le_refl _) _
 have hz1:w1.heap.size=w.heap.size+1:=by rw[hw1];simp
 have hr1:RowAt w1 w.heap.size 102 #[.int .u32 ttl,.map (some m)]:=by rw[hw1];exact RowAt.new w _ _
 have HD:=hide (h.bel hb1)
 have HM:=hide hm
 have HC:=hide hcl
 have HW:=hide hw1
 have HZ:=hide hz1
 have HR:=hide hr1
 have HB:=hide hb1
 obtain⟨f,hmf,hdf⟩:=HD.out
 have HF:=hide hmf
 have HG:=hide hdf
 have HN:=hide hn
 rw[hn] at hlen
 clear h hm hcl hw1 hz1 hr1 hb1 hmf hdf hn
 go_enter Tryz.func60,Tryz.ntmps60
 go_wp2_with (first
  | (go_at_call 99;rw[<- HW.out];refine (keysD_any (some m) w1).mono ?_;rintro e w2 ⟨rfl,hw2⟩;rw[hw2];clear hw2 w2)
  | (go_at_call 96;refine (sortedD_any w1 m K _ HF.out hK ks ha (fun x=>(by rw[HM.out x, <- (HG.out x).same];rfl))).mono ?_;rintro e w3 ⟨v3,rfl,hv3,hb3⟩;obtain⟨a3,c3,rfl,hs3,_,_⟩:=hv3.ty;rw[HN.out];clear hv3))
 have hb13:Below (w.heap.size+1) w1 w3:=by
  have e:=HZ.out
  rw[<- e]
  exact ((Below.refl _ w1).alloc (Nat.le_refl _) _).trans (hb3.mono (Nat.le_succ _))
 clear hb3
 go_loopw [3,11] (fun v i wr => ∃ j:Nat,i = .int .i64 (j:Int)/\j<=n/\OwnL 37 1 EB wr (w.heap.size+1) v (datas g (ks.take j))/\Below (w.heap.size+1) w1 wr/\TyS wr a3 ks) (fun _ i _=>n - (intOf i).toNat)
 case atStart=>exact⟨0,rfl,by omega,OwnL.nil _ _ _ _ _,hb13,hs3⟩
 case round =>
  obtain⟨j,rfl,hj,hO,hB,hT⟩:=hrel
  have hz:=hB.size
  have hzz:=HZ.out
  have hz0:w.heap.size+1<=wr.heap.size:=by omega
  by_cases hlt:j<n
  ·have hjk:j<ks.length:=by have:=HN.out;omega
   obtain⟨b1,o1,rfl,_,hc1⟩:=hT.1 (by omega)
   have hx:=hc1 j hjk
   have hd1:=datas_snoc g ks j hjk
   have hmem:ks.getD j []∈ks:=by rw[List.getD_eq_getElem?_getD,List.getElem?_eq_getElem hjk];exact List.getElem_mem hjk
   obtain⟨d,hd⟩:=Option.isSome_iff_exists.1 ((HM.out _).1 hmem)
   rw[hd,Option.getD_some] at hd1
   obtain⟨v0,_,hlk,hv0⟩:=(HD.out.bel (by rw[hzz];exact hB)).look (ks.getD j []) (HC.out _ hmem)
   obtain⟨ao,cp,rfl,hs0,hn0,_,hd8⟩:=hv0 d hd
   have hr:RowAt wr w.heap.size 102 #[.int .u32 ttl,.map (some m)]:=HR.out.below hB (by omega)
   have y1:wr.cell? ⟨w.heap.size,1,none⟩=some (.map (some m)):=hr.cell 1
   have hdl:(datas g (ks.take j)).length<=1000000:=by unfold datas;rw[List.length_map,List.length_take];omega
   generalize ks.getD j []=key at hx hlk
   have HO:=hide hO
   have HD1:=hide hd1
   have HB1:=hide hB
   clear hO hd1 hB hd hv0 hc1 hmem hr hzz
   go_wp2_with (first
    | (go_at_call 100;refine (bclone_any wr ao cp d (by omega) hs0 hn0).mono ?_;rintro e w4 ⟨v4,rfl,hO4,hB4⟩;obtain⟨a4,c4,rfl,hT4,hn4,hc4⟩:=hO4.ty;have hz4:=hB4.size;have HO4:=hide (HO.out.bel (fun _ _ h=>h.kb (KB.of_below hB4)) hB4))
    | (at_builtin;go_loud (refine wpList_appL rfl (.tmp 15) (.tmp 21) 52 rfl Tryz.underlying52 (.slice none 0 0) 24 (info_parts infoBs) rfl (by decide) (by decide) (by decide) (w.heap.size+1) _ _ rfl (HO4.out.bel (fun _ _ h=>h.kb (KB.alloc _ _)) ((Below.refl _ w4).alloc (Nat.le_refl _) _)) ⟨w4.heap.size,0,none⟩ 1 d [.slice a4 d.length c4] rfl (cell_one_new _ _ _) rfl (by simp[Value.oneCell']) ⟨a4,c4,rfl,hT4.kb (KB.alloc _ _),hn4,hc4⟩ (fun _ _ _ k h=>h.kb k) hdl (by simp;omega) ?_);intro v5 w5 hO5 hG5 hK5 hB5))
   go_roundw
   case rel =>
    refine⟨j+1,by go_num,by omega,by rw[HD1.out];exact hO5,?_,?_⟩
    ·exact HB1.out.trans ((hB4.mono hz0).trans (((Below.refl (w.heap.size+1) w4).alloc (by omega) _).trans hB5))
    ·exact hT.kb ((KB.of_below hB4).trans ((KB.alloc _ _).trans hK5))
   case measure=>simp[intOf];omega
  ·obtain rfl:j=n:=by omega
   go_wp2
   go_ret
   refine⟨_,rfl,?_,HB.out.trans (hB.mono (Nat.le_succ _))⟩
   have ht:ks.take j=ks:=by rw[<- HN.out];exact List.take_length
   rw[ht] at hO
   exact hO.low (Nat.le_succ _)
open Go.RowKit
structure Grew (w w':World) (ρ ρ':Nat->Role) (G G':List (List UInt8)->Option Nd):Prop where
 more:More w ρ ρ'
 mv:ZMv ρ w w'
 root:nodeN G' []=nodeN G []
theorem gput_some {G:List (List UInt8)->Option Nd} {p:List (List UInt8)} {x x':Nd} (hx:G p=some x) (q:List (List UInt8)):(gput G p (some x') q).isSome=(G q).isSome:=by
 by_cases e:q=p
 ·rw[e,gput_same,hx];rfl
 ·rw[gput_other G e]
theorem gput_nodeN {G:List (List UInt8)->Option Nd} {p:List (List UInt8)} {x x':Nd} (hx:G p=some x) (hn:x'.n=x.n) (q:List (List UInt8)):nodeN (gput G p (some x')) q=nodeN G q:=by
 by_cases e:q=p
 ·rw[e,nodeN_of (gput_same G p _),nodeN_of hx,hn]
 ·unfold nodeN;rw[gput_other G e]
theorem TreeAt.put {w w':World} {ρ : Nat->Role} {G:List (List UInt8)->Option Nd} {C:List (List UInt8)->Nat->Option Z.St} {K:Nat} (T:TreeAt w ρ G C K) {p:List (List UInt8)} {x:Nd} (hx:G p=some x) (t:Nat) (ht:t<65536) (ttl:Nat) (c d:List UInt8) (m:Nat)
 (hm:(∃ S,C p t=some S/\m=x.dm t)\/(C p t=none/\w.heap.size<=m)) (h0:Below 0 w w') (hoth : ∀ i,i<w.heap.size->i≠x.s->i≠m->w'.heap[i]?=w.heap[i]?)
 (hsets:MapU w' x.s (uput (fun s=>(C p s).map fun S=>setV S (x.dm s)) t (.agg #[.int .u32 (ttl:Int),.map (some m)])) (K+1))
 (hdat : ∃ h,MapS w' m h (K+1) /\ ∀ y,DIs w' (if y=c then some ((Z.got C p t c).getD d) else Z.got C p t y) (h y)) :
 ∃ ρ' x',TreeAt w' ρ' (gput G p (some x')) (Z.cput C p t ttl c d) (K+1)/\x'.n=x.n/\x'.s=x.s/\x'.b=x.b/\Grew w w' ρ ρ' G (gput G p (some x')):=by
 have hsz:=h0.size
 have rl : ∀ {i r}, ρ i=r->r ≠ .none->i<w.heap.size:=fun h h2=>(T.kind _ (by rw[h];exact h2)).lt
 have hmd : ∃ es k,w'.heap[m]?=some (.map es k):=by obtain⟨h,h1,_⟩:=hdat;exact h1.obj
 have hms : ∃ es k,w'.heap[x.s]?=some (.map es k):=hsets.obj
 have hmx:m≠x.s:=fun e=>by
  rcases hm with⟨S,hS,e2⟩ | ⟨_,h2⟩
  ·have h1:=T.rd p x t S hx hS
   rw[<- e2,e,T.rs p x hx] at h1;cases h1
  ·have:=rl (T.rs p x hx) (by simp);omega
 obtain⟨ρ',hρ⟩ : ∃ ρ':Nat->Role, ρ'=fun i=>if i=m then .data p t else ρ i:=⟨_,rfl⟩
 obtain⟨x',hx'⟩ : ∃ x':Nd,x' = { x with dm:=fun s=>if s=t then m else x.dm s } := ⟨_,rfl⟩
 have hold : ∀ i,i<w.heap.size -> ρ' i = ρ i:=fun i hi=>by
  rw[hρ]
  by_cases e:i=m
  ·rcases hm with⟨S,hS,e2⟩ | ⟨_,h2⟩
   ·show (if i=m then Role.data p t else ρ i) = ρ i
    rw[if_pos e,e,e2,T.rd p x t S hx hS]
   ·omega
  ·exact if_neg e
 have hC' : ∀ q s,¬ (q=p/\s=t)->Z.cput C p t ttl c d q s=C q s:=fun q s e=>by unfold Z.cput;rw[if_neg e]
 have hCt:Z.cput C p t ttl c d p t=some ⟨ttl,fun y=>if y=c then some ((Z.got C p t c).getD d) else Z.got C p t y⟩:=by unfold Z.cput;rw[if_pos ⟨rfl,rfl⟩]
 have hslL : ∀ ao l,SlL w ao l->SlL w' ao l:=fun ao l=>slL_keep hsz fun i hi hz=>by
  have h0 : ρ i = .none:=Classical.byContradiction fun h0=>hz (T.kind i h0)
  refine hoth i hi (fun e=>?_) (fun e=>?_)
  ·rw[e,T.rs p x hx] at h0;cases h0
  ·have:=hold i hi
   rw[h0,hρ,e] at this;simp at this
 refine⟨ρ',x',?_,by rw[hx'],by rw[hx'],by rw[hx'],⟨fun i hi=>hold i hi,⟨h0.os,h0.tape,h0.output,hsz,fun i hi h0=>?_⟩,gput_nodeN hx (by rw[hx']) _⟩⟩
 ·refine T.turn hx (by rw[hx']) (by rw[hx']) (by rw[hx']) (fun q s hq=>hC' q s fun e=>hq e.1) (Nat.le_succ _) (fun i hi=>hold i hi) hsz (fun i hi h1 h2=>?_) ?_ ?_ ?_
  ·refine hoth i hi (fun e=>h1 (by rw[e];exact T.rs p x hx)) (fun e=>?_)
   have:=hold i hi
   rw[hρ,e] at this
   exact h2 t (by rw[e, <- this];simp)
  ·refine MapU.ext hsets fun s hs=>?_
   by_cases e:s=t
   ·subst e
    rw[hCt,hx'];simp[uput,setV]
   ·rw[hC' p s (fun e2=>e e2.2),hx'];simp[uput,e]
  ·intro s S hS
   by_cases e:s=t
   ·subst e
    rw[hCt] at hS;injection hS with hS;subst hS
    have e1:x'.dm s=m:=by rw[hx'];simp
    rw[e1]
    exact⟨ht,by rw[hρ];simp,hdat⟩
   ·rw[hC' p s (fun e2=>e e2.2)] at hS
    have e1:x'.dm s=x.dm s:=by rw[hx'];simp[e]
    rw[e1]
    have h1:=T.rd p x s S hx hS
    have h2:=rl h1 (by simp)
    have h3:x.dm s≠m:=fun e2=>by
     have:=hold _ h2
     rw[h1,hρ,e2] at this
     simp at this
     exact e this.symm
    obtain⟨h,h4,h5⟩:=(T.node p x hx).data s S hS
    refine⟨(T.cov p s S hS).2,by rw[hold _ h2,h1],h,(h4.heap (hoth _ h2 (fun e2=>?_) h3)).mono (Nat.le_succ _),fun y=>(h5 y).keep hslL⟩
    rw[e2,T.rs p x hx] at h1;cases h1
  ·intro i hi
   by_cases e:i=m
   ·rw[e];obtain⟨es,k,h⟩:=hmd;exact Or.inl ⟨es,k,h⟩
   ·by_cases e2:i=x.s
    ·rw[e2];obtain⟨es,k,h⟩:=hms;exact Or.inl ⟨es,k,h⟩
    ·have e3 : ρ' i = ρ i:=by rw[hρ];exact if_neg e
     rw[e3] at hi
     exact (T.kind i hi).heap (hoth i (T.kind i hi).lt e2 e)
 ·refine hoth i hi (fun e=>?_) (fun e=>?_)
  ·rw[e,T.rs p x hx] at h0;cases h0
  ·have:=hold i hi
   rw[h0,hρ,e] at this;simp at this
open Go.RowKit
def recV (na:Option Addr) (nl nc t cl ttl:Nat) (da:Option Addr) (dl dc:Nat):Value := .agg #[.slice na nl nc,.int .u16 (t:Int),.int .u16 (cl:Int),.int .u32 (ttl:Int),.slice da dl dc]
theorem MapAt.drew {k:TypeId} {w:World} {b K:Nat} {f:Lit->Option Value} (h:MapAt k w b f K):MapAt k w.drew b f K:=h.heap rfl
theorem NodeIs.lookup {w:World} {G:List (List UInt8)->Option Nd} {C:List (List UInt8)->Nat->Option Z.St} {K:Nat} {p:List (List UInt8)} {x:Nd} (h:NodeIs w G C K p x) (t:Nat) (ht:t<65536) (w':World) (hw:w'.heap[x.s]?=w.heap[x.s]?) :
 (Instr.lookup 104 (.map (some x.s)) (.int .u16 (t:Int)) true).run Tryz.prog w' = .ok (.tuple #[((C p t).map fun S=>setV S (x.dm t)).getD (.agg #[.int .u32 0,.map none]),.bool (C p t).isSome]) w' /\
 (Instr.lookup 104 (.map (some x.s)) (.int .u16 (t:Int)) false).run Tryz.prog w' = .ok (((C p t).map fun S=>setV S (x.dm t)).getD (.agg #[.int .u32 0,.map none])) w':=by
 have h0:MapU w' x.s (fun t=>(C p t).map fun S=>setV S (x.dm t)) K:=h.sets.heap hw
 have h1:=h0.look keyedH Tryz.underlying104 (Tryz.zeroValue102 w') (keyH t ht)
 have h2:=h0.get keyedH Tryz.underlying104 (Tryz.zeroValue102 w') (keyH t ht)
 rw[fU_at _ t ht] at h1 h2
 refine⟨?_,h2⟩
 rw[h1];simp
theorem slL_map {b:Nat} {w w':World} (h:Turn b w w') {ao:Option Addr} {l:List UInt8} (hs:SlL w ao l):SlL w' ao l:=fun hn=>by
 obtain⟨g,o,e,hlt,hc⟩:=hs hn
 obtain⟨es,k,hb⟩:=h.was
 have hne:g≠b:=fun e2=>by
  have:=hc 0 hn
  rw[e2] at this
  simp[World.cell?,hb] at this
 refine⟨g,o,e,by rw[h.size];exact hlt,fun j hj=>?_⟩
 rw[<- hc j hj];exact World.cell?_of_block (h.block g hne)
set_option maxHeartbeats 1500000 in
theorem nput_new (w:World) {ρ : Nat->Role} {G:List (List UInt8)->Option Nd} {C:List (List UInt8)->Nat->Option Z.St} {K:Nat} (T:TreeAt w ρ G C K) (hK:K+1<=1000000) {p:List (List UInt8)} {x:Nd} (hx:G p=some x) (t:Nat) (ht:t<65536) (ttl cl:Nat) (c d:List UInt8) (na:Option Addr) (nl nc:Nat) (da:Option Addr) (dc:Nat) (ca:Option Addr) (cc:Nat)
 (hsd:SlL w da d) (hnd:da=none->dc=0) (hd8:d.length<=8192) (hsc:SlL w ca c) (hc8:c.length<=1000000) (hno:C p t=none) :
 Calls Tryz.prog 87 #[.pointer (some ⟨x.n,0,none⟩),recV na nl nc t cl ttl da d.length dc,.slice ca c.length cc] w fun e w'=>e = .returned (.tuple #[]) /\ ∃ ρ' x',TreeAt w' ρ' (gput G p (some x')) (Z.cput C p t ttl c d) (K+1)/\x'.n=x.n/\x'.s=x.s/\x'.b=x.b/\Grew w w' ρ ρ' G (gput G p (some x')):=by
 obtain⟨w1,hw1⟩ : ∃ w1,w1=w.alloc (.cells #[.slice na nl nc,.int .u16 (t:Int),.int .u16 (cl:Int),.int .u32 (ttl:Int),.slice da d.length dc] 39):=⟨_,rfl⟩
 have N:=T.node p x hx
 have hb1:Below w.heap.size w w1:=by rw[hw1];exact (Below.refl _ w).alloc (Nat.le_refl _) _
 have hr1:RowAt w1 w.heap.size 39 #[.slice na nl nc,.int .u16 (t:Int),.int .u16 (cl:Int),.int .u32 (ttl:Int),.slice da d.length dc]:=by rw[hw1];exact RowAt.new w _ _
 have N1:=(T.below_ hb1).node p x hx
 have hlk:=(N1.lookup t ht w1.drew rfl).1
 rw[hno] at hlk
 have x0:w1.cell? ⟨x.n,0,none⟩=some (.map (some x.s)):=N1.row.cell 0
 have y1:w1.cell? ⟨w.heap.size,1,none⟩=some (.int .u16 (t:Int)):=hr1.cell 1
 have hb2:Below w1.heap.size w1 (w1.alloc (.cells #[.int .u32 0,.map none] 102)):=(Below.refl _ w1).alloc (Nat.le_refl _) _
 have N2:=((T.below_ hb1).below_ hb2).node p x hx
 have hlk2:=(N2.lookup t ht (w1.alloc (.cells #[.int .u32 0,.map none] 102)).drew rfl).1
 rw[hno] at hlk2
 have x2:(w1.alloc (.cells #[.int .u32 0,.map none] 102)).cell? ⟨x.n,0,none⟩=some (.map (some x.s)):=N2.row.cell 0
 have y2:(w1.alloc (.cells #[.int .u32 0,.map none] 102)).cell? ⟨w.heap.size,1,none⟩=some (.int .u16 (t:Int)):=(hr1.below hb2 hr1.lt).cell 1
 clear hb2 N2
 have HB1:=hide hb1
 have HW:=hide hw1
 have HN:=hide N1
 have HR:=hide hr1
 have HT:=hide T
 clear hw1 N N1 hr1 T
 unfold recV
 go_enter Tryz.func87,Tryz.ntmps87
 go_wp2
 rw[<- HW.out]
 have hmm := @run_makeMap Tryz.prog
 obtain⟨w3,hw3⟩ : ∃ w3,w3=((w1.alloc (.cells #[.int .u32 0,.map (some (w1.heap.size+1))] 102)).alloc (.map #[] 0)).drew:=⟨_,rfl⟩
 have hb13:Below w1.heap.size w1 w3:=by
  rw[hw3]
  exact below_drewN (((Below.refl _ w1).alloc (Nat.le_refl _) _).alloc (by simp) _) 1
 have hr3:RowAt w3 w1.heap.size 102 #[.int .u32 0,.map (some (w1.heap.size+1))]:=by
  rw[hw3]
  have:=(RowAt.new w1 102 #[.int .u32 0,.map (some (w1.heap.size+1))]).alloc (.map #[] 0)
  exact this
 have hm3:MapS w3 (w1.heap.size+1) (fun _=>none) K:=by
  rw[hw3]
  have:=MapS.made (w1.alloc (.cells #[.int .u32 0,.map (some (w1.heap.size+1))] 102)) K
  rw[World.size_alloc] at this
  exact this.heap rfl
 have hz3:w3.heap.size=w1.heap.size+2:=by rw[hw3];simp
 have hs3:SlL w3 ca c:=(hsc.below hb1 (Nat.le_refl _)).below hb13 (Nat.le_refl _)
 obtain⟨w4,hw4⟩ : ∃ w4,w4=w3.alloc (.cells #[.int .u32 0,.map (some (w1.heap.size+1))] 102):=⟨_,rfl⟩
 have hb34:Below w3.heap.size w3 w4:=by rw[hw4];exact (Below.refl _ w3).alloc (Nat.le_refl _) _
 have hb34:Below w3.heap.size w3 w4.drew:=below_drewN hb34 1
 have hb14:Below w1.heap.size w1 w4.drew:=hb13.trans (hb34.mono hb13.size)
 have hr4:RowAt w4.drew w1.heap.size 102 #[.int .u32 0,.map (some (w1.heap.size+1))]:=hr3.below hb34 hr3.lt
 have hR4:RowAt w4.drew w.heap.size 39 #[.slice na nl nc,.int .u16 (t:Int),.int .u16 (cl:Int),.int .u32 (ttl:Int),.slice da d.length dc]:=HR.out.below hb14 HR.out.lt
 have hcv4:(convert 37 9 (.slice ca c.length cc)).run Tryz.prog w4.drew = .ok (.string ⟨c.toArray⟩) w4.drew:=run_str c.length cc (hs3.below hb34 (Nat.le_refl _)) rfl
 have hs4:SlL w4.drew da d:=(((hsd.below hb1 (Nat.le_refl _)).below hb13 (Nat.le_refl _)).below hb34 (Nat.le_refl _))
 have hm4:MapS w4.drew (w1.heap.size+1) (fun _=>none) K:=hm3.heap (hb34.block _ (by omega))
 have z1:w4.drew.cell? ⟨w1.heap.size,1,none⟩=some (.map (some (w1.heap.size+1))):=hr4.cell 1
 have z4:w4.drew.cell? ⟨w.heap.size,4,none⟩=some (.slice da d.length dc):=hR4.cell 4
 have HW3:=hide hw3
 have HW4:=hide hw4
 have Hb14:=hide hb14
 have Hr4:=hide hr4
 have HR4:=hide hR4
 have Hm4:=hide hm4
 have Hm3:=hide hm3
 have Hs3:=hide hs3
 have Hscc:=hide (hs3.below hb34 (Nat.le_refl _))
 clear hw3 hw4 hb13 hr3 hm3 hz3 hs3 hb34 hb14 hr4 hR4 hm4
 go_region
 all_goals
  go_wp2_with (go_at_call 85;rw[<- HW3.out];refine (has_any w3 0 (some (w1.heap.size+1)) (fun _=>none) K ⟨_,Hm3.out,fun _=>trivial⟩ c ca c.length cc rfl Hs3.out hc8).mono ?_;rintro e wq ⟨he,hwq⟩;have he:e = .returned (.bool false):=he;rw[he,hwq, <- HW4.out];clear he hwq wq)
  go_region_held3 (fun w'=>w'.cell? ⟨w1.heap.size,1,none⟩=some (.map (some (w1.heap.size+1)))/\w'.cell? ⟨w.heap.size,4,none⟩=some (.slice da d.length dc)/\(convert 37 9 (.slice ca c.length cc)).run Tryz.prog w' = .ok (.string ⟨c.toArray⟩) w') (first | exact⟨z1,z4,hcv4⟩ | exact⟨z51,z54,hcv5⟩ | exact⟨z61,z64,hcv6⟩) ((go_at_call 100;refine (bclone_any _ da dc d (by omega) (by exact hs4) hnd).mono ?_;rintro e w5 ⟨v5,rfl,hO5,hB5⟩;obtain⟨a5,c5,rfl,hT5,hn5,hc5⟩:=hO5.ty;have hr5:=Hr4.out.below hB5 Hr4.out.lt;have hR5:=HR4.out.below hB5 HR4.out.lt;have z51:w5.cell? ⟨w1.heap.size,1,none⟩=some (.map (some (w1.heap.size+1))):=hr5.cell 1;have z54:w5.cell? ⟨w.heap.size,4,none⟩=some (.slice da d.length dc):=hR5.cell 4;have hcv5:(convert 37 9 (.slice ca c.length cc)).run Tryz.prog w5 = .ok (.string ⟨c.toArray⟩) w5:=run_str c.length cc (Hscc.out.below hB5 (Nat.le_refl _)) rfl;have hm5:MapS w5 (w1.heap.size+1) (fun _=>none) K:=Hm4.out.heap (hB5.block _ Hm4.out.lt);obtain⟨w6,hrun,hM6,ht6⟩:=MapAt.update hm5 keyedS Tryz.underlying100 (by omega) (keyS c hc8) (.slice a5 d.length c5);have hr6:RowAt w6 w1.heap.size 102 #[.int .u32 0,.map (some (w1.heap.size+1))]:=(ht6.block _ (fun e=>by omega)).trans hr5;have hR6:RowAt w6 w.heap.size 39 #[.slice na nl nc,.int .u16 (t:Int),.int .u16 (cl:Int),.int .u32 (ttl:Int),.slice da d.length dc]:=(ht6.block _ (fun e=>by have:=HR.out.lt;omega)).trans hR5;have z61:w6.cell? ⟨w1.heap.size,1,none⟩=some (.map (some (w1.heap.size+1))):=hr6.cell 1;have z64:w6.cell? ⟨w.heap.size,4,none⟩=some (.slice da d.length dc):=hR6.cell 4;have hcv6:(convert 37 9 (.slice ca c.length cc)).run Tryz.prog w6 = .ok (.string ⟨c.toArray⟩) w6:=run_str c.length cc (slL_map ht6 (Hscc.out.below hB5 (Nat.le_refl _))) rfl))
  have z60:w6.cell? ⟨w1.heap.size,0,none⟩=some (.int .u32 0):=hr6.cell 0
  have f60:w6.frozen? ⟨w1.heap.size,0,none⟩=false:=hr6.frozen 0
  have z63:w6.cell? ⟨w.heap.size,3,none⟩=some (.int .u32 (ttl:Int)):=hR6.cell 3
  have Hr6:=hide hr6
  have HR6:=hide hR6
  have HM6:=hide hM6
  have Ht6:=hide ht6
  have HB5:=hide hB5
  have HT5:=hide hT5
  clear hr6 hR6 hM6 ht6 hB5 hT5 hr5 hR5 hm5 hO5
  go_wp2
  obtain⟨w7,hw7⟩ : ∃ w7,w7=w6.setCell ⟨w1.heap.size,0,none⟩ (.int .u32 (ttl:Int)):=⟨_,rfl⟩
  have hb17:Below w1.heap.size w1 w7:=by
   rw[hw7]
   refine (Hb14.out.trans ((HB5.out.mono Hb14.out.size).trans ⟨Ht6.out.os,Ht6.out.tape,Ht6.out.output,Nat.le_of_eq Ht6.out.size.symm,fun i hi=>Ht6.out.block i (by omega)⟩)).setCell (p:=⟨w1.heap.size,0,none⟩) (Nat.le_refl _) _
  have T7:=(HT.out.below_ HB1.out).below_ hb17
  have N7:=T7.node p x hx
  have hr7:RowAt w7 w1.heap.size 102 #[.int .u32 (ttl:Int),.map (some (w1.heap.size+1))]:=by rw[hw7];exact Hr6.out.set 0 _
  have hR7:RowAt w7 w.heap.size 39 #[.slice na nl nc,.int .u16 (t:Int),.int .u16 (cl:Int),.int .u32 (ttl:Int),.slice da d.length dc]:=HR.out.below hb17 HR.out.lt
  have v0:w7.cell? ⟨x.n,0,none⟩=some (.map (some x.s)):=N7.row.cell 0
  have v1:w7.cell? ⟨w.heap.size,1,none⟩=some (.int .u16 (t:Int)):=hR7.cell 1
  have v2:w7.cell? ⟨w1.heap.size,0,none⟩=some (.int .u32 (ttl:Int)):=hr7.cell 0
  have v3:w7.cell? ⟨w1.heap.size,1,none⟩=some (.map (some (w1.heap.size+1))):=hr7.cell 1
  obtain⟨w8,hrun8,hM8,ht8⟩:=MapAt.update N7.sets.drew keyedH Tryz.underlying104 (by omega) (keyH t ht) (.agg #[.int .u32 (ttl:Int),.map (some (w1.heap.size+1))])
  have HM8:=hide hM8
  have HT8:=hide ht8
  have Hb17:=hide hb17
  have HW7:=hide hw7
  rw[<- hw7]
  clear hM8 ht8 hb17 hw7 T7 N7 hr7 hR7
  go_region
  all_goals go_end0
  all_goals refine⟨rfl,?_⟩
  all_goals
   have h17:=Hb17.out
   have h8:=HT8.out
   have hz1:=HB1.out.size
   have hz17:=h17.size
   have hlt1:=HR.out.lt
   have hz8:w8.heap.size=w7.heap.size:=h8.size
   have hxs:x.s<w.heap.size:=(HT.out.kind x.s (by rw[HT.out.rs p x hx];simp)).lt
   have hm6:MapS w6 (w1.heap.size+1) (sput (fun _=>none) c (.slice a5 d.length c5)) (K+1):=HM6.out.congr fun k=>fput_S _ _ _ k
   have e86:w8.heap[w1.heap.size+1]?=w6.heap[w1.heap.size+1]?:=by
    rw[h8.block _ (by omega)]
    show w7.heap[w1.heap.size+1]?=_
    rw[HW7.out];exact (grownBy_setCell' w6 w1.heap.size _).block _ (by have:=hm6.lt;exact this) (by simp)
   have hT8:TyL w8 a5 d:=(HT5.out.kb (KB.turn Ht6.out)).kb ⟨by rw[hz8,HW7.out];simp,fun g cs et fr hg he=>by
    have hg1:g≠w1.heap.size:=fun e=>by
     have:=Hr6.out
     unfold RowAt at this
     rw[e,this] at hg;injection hg with hg;injection hg with _ hg _
     rcases he with rfl | rfl
     ·exact absurd hg (by decide)
     ·exact absurd hg (by decide)
    have hg2:w7.heap[g]?=some (Obj.cells cs et fr):=by
     rw[HW7.out,(grownBy_setCell' w6 w1.heap.size _).block g (Array.getElem?_eq_some_iff.1 hg).1 (by simp;omega)];exact hg
    refine (h8.block g (fun e=>?_)).trans hg2
    obtain⟨es,k,hb⟩:=h8.was
    have hb:w7.heap[x.s]?=some (.map es k):=hb
    rw[e,hb] at hg2;cases hg2⟩
   have hgot : ∀ y,Z.got C p t y=none:=fun y=>by unfold Z.got;rw[hno];rfl
   refine HT.out.put hx t ht ttl c d (w1.heap.size+1) (Or.inr ⟨hno,by omega⟩) ⟨h8.os.trans (h17.os.trans HB1.out.os),h8.tape.trans (h17.tape.trans HB1.out.tape),h8.output.trans (h17.output.trans HB1.out.output),by rw[hz8];omega,fun i hi=>by omega⟩ (fun i hi h1 h2=>?_) ?_ ?_
   ·rw[h8.block i h1]
    exact (h17.block i (by omega)).trans (HB1.out.block i hi)
   ·exact HM8.out.congr fun k=>fput_U _ t ht _ k
   ·refine⟨_,hm6.heap e86,fun y=>?_⟩
    by_cases e:y=c
    ·rw[if_pos e,hgot]
     have e9:sput (fun _=>none) c (.slice a5 d.length c5) y=some (.slice a5 d.length c5):=by simp[sput,e]
     rw[e9]
     exact⟨a5,c5,rfl,hT8.1,hn5,hc5,hd8⟩
    ·rw[if_neg e,hgot]
     simp[sput,e,DIs]
open Go.RowKit
set_option maxHeartbeats 1500000 in
theorem nput_add (w:World) {ρ : Nat->Role} {G:List (List UInt8)->Option Nd} {C:List (List UInt8)->Nat->Option Z.St} {K:Nat} (T:TreeAt w ρ G C K) (hK:K+1<=1000000) {p:List (List UInt8)} {x:Nd} (hx:G p=some x) (t:Nat) (ht:t<65536) (ttl cl:Nat) (c d:List UInt8) (na:Option Addr) (nl nc:Nat) (da:Option Addr) (dc:Nat) (ca:Option Addr) (cc:Nat)
 (hsd:SlL w da d) (hnd:da=none->dc=0) (hd8:d.length<=8192) (hsc:SlL w ca c) (hc8:c.length<=1000000) (S:Z.St) (hS:C p t=some S) (hg:S.g c=none) :
 Calls Tryz.prog 87 #[.pointer (some ⟨x.n,0,none⟩),recV na nl nc t cl ttl da d.length dc,.slice ca c.length cc] w fun e w'=>e = .returned (.tuple #[]) /\ ∃ ρ' x',TreeAt w' ρ' (gput G p (some x')) (Z.cput C p t ttl c d) (K+1)/\x'.n=x.n/\x'.s=x.s/\x'.b=x.b/\Grew w w' ρ ρ' G (gput G p (some x')):=by
 obtain⟨m,hm⟩ : ∃ m,m=x.dm t:=⟨_,rfl⟩
 obtain⟨h0,hmap,hdi⟩:=(T.node p x hx).data t S hS
 rw[<- hm] at hmap
 have hlm:=hmap.lt
 have hmr:=T.rd p x t S hx hS
 rw[<- hm] at hmr
 have hmn:m≠x.n:=fun e=>by rw[e,T.rn p x hx] at hmr;cases hmr
 have hms:m≠x.s:=fun e=>by rw[e,T.rs p x hx] at hmr;cases hmr
 have hmv:setV S (x.dm t) = .agg #[.int .u32 (S.ttl:Int),.map (some m)]:=by rw[hm];rfl
 obtain⟨w1,hw1⟩ : ∃ w1,w1=w.alloc (.cells #[.slice na nl nc,.int .u16 (t:Int),.int .u16 (cl:Int),.int .u32 (ttl:Int),.slice da d.length dc] 39):=⟨_,rfl⟩
 have N:=T.node p x hx
 have hb1:Below w.heap.size w w1:=by rw[hw1];exact (Below.refl _ w).alloc (Nat.le_refl _) _
 have hr1:RowAt w1 w.heap.size 39 #[.slice na nl nc,.int .u16 (t:Int),.int .u16 (cl:Int),.int .u32 (ttl:Int),.slice da d.length dc]:=by rw[hw1];exact RowAt.new w _ _
 have N1:=(T.below_ hb1).node p x hx
 have hlk:=(N1.lookup t ht w1.drew rfl).1
 rw[hS] at hlk
 simp only[Option.map_some,Option.getD_some,Option.isSome_some,hmv] at hlk
 have x0:w1.cell? ⟨x.n,0,none⟩=some (.map (some x.s)):=N1.row.cell 0
 have y1:w1.cell? ⟨w.heap.size,1,none⟩=some (.int .u16 (t:Int)):=hr1.cell 1
 have hb2:Below w1.heap.size w1 (w1.alloc (.cells #[.int .u32 0,.map none] 102)):=(Below.refl _ w1).alloc (Nat.le_refl _) _
 have N2:=((T.below_ hb1).below_ hb2).node p x hx
 have hlk2:=(N2.lookup t ht (w1.alloc (.cells #[.int .u32 0,.map none] 102)).drew rfl).1
 rw[hS] at hlk2
 simp only[Option.map_some,Option.getD_some,Option.isSome_some,hmv] at hlk2
 have x2:(w1.alloc (.cells #[.int .u32 0,.map none] 102)).cell? ⟨x.n,0,none⟩=some (.map (some x.s)):=N2.row.cell 0
 have y2:(w1.alloc (.cells #[.int .u32 0,.map none] 102)).cell? ⟨w.heap.size,1,none⟩=some (.int .u16 (t:Int)):=(hr1.below hb2 hr1.lt).cell 1
 have Hg:=hide hg
 clear hg
 have Hm:=hide hm
 have Hmap:=hide hmap
 have Hdi:=hide hdi
 have Hmr:=hide hmr
 have Hmn:=hide hmn
 have Hms:=hide hms
 have HS:=hide hS
 have Hlm:=hide hlm
 clear hb2 N2 hm hmap hdi hmr hmn hms hS hmv hlm
 have HB1:=hide hb1
 have HW:=hide hw1
 have HN:=hide N1
 have HR:=hide hr1
 have HT:=hide T
 clear hw1 N N1 hr1 T
 unfold recV
 go_enter Tryz.func87,Tryz.ntmps87
 go_wp2
 rw[<- HW.out]
 obtain⟨w3,hw3⟩ : ∃ w3,w3=(w1.alloc (.cells #[.int .u32 (S.ttl:Int),.map (some m)] 102)).drew:=⟨_,rfl⟩
 have hb13:Below w1.heap.size w1 w3:=by
  rw[hw3]
  exact below_drewN ((Below.refl _ w1).alloc (Nat.le_refl _) _) 1
 have hr3:RowAt w3 w1.heap.size 102 #[.int .u32 (S.ttl:Int),.map (some m)]:=by
  rw[hw3]
  exact RowAt.new w1 102 #[.int .u32 (S.ttl:Int),.map (some m)]
 have hm1:MapS w1 m h0 K:=Hmap.out.heap (HB1.out.block _ Hlm.out)
 have hm3:MapS w3 m h0 K:=hm1.heap (hb13.block _ hm1.lt)
 have hd3:DM w3 (some m) S.g K:=⟨h0,hm3,fun y=>(Hdi.out y).keep fun _ _ hs=>(hs.below HB1.out (Nat.le_refl _)).below hb13 (Nat.le_refl _)⟩
 have hz3:w3.heap.size=w1.heap.size+1:=by rw[hw3];simp
 have hs3:SlL w3 ca c:=(hsc.below hb1 (Nat.le_refl _)).below hb13 (Nat.le_refl _)
 obtain⟨w4,hw4⟩ : ∃ w4,w4=w3.alloc (.cells #[.int .u32 (S.ttl:Int),.map (some m)] 102):=⟨_,rfl⟩
 have hb34:Below w3.heap.size w3 w4:=by rw[hw4];exact (Below.refl _ w3).alloc (Nat.le_refl _) _
 have hb34:Below w3.heap.size w3 w4.drew:=below_drewN hb34 1
 have hb14:Below w1.heap.size w1 w4.drew:=hb13.trans (hb34.mono hb13.size)
 have hr4:RowAt w4.drew w1.heap.size 102 #[.int .u32 (S.ttl:Int),.map (some m)]:=hr3.below hb34 hr3.lt
 have hR4:RowAt w4.drew w.heap.size 39 #[.slice na nl nc,.int .u16 (t:Int),.int .u16 (cl:Int),.int .u32 (ttl:Int),.slice da d.length dc]:=HR.out.below hb14 HR.out.lt
 have hcv4:(convert 37 9 (.slice ca c.length cc)).run Tryz.prog w4.drew = .ok (.string ⟨c.toArray⟩) w4.drew:=run_str c.length cc (hs3.below hb34 (Nat.le_refl _)) rfl
 have hs4:SlL w4.drew da d:=(((hsd.below hb1 (Nat.le_refl _)).below hb13 (Nat.le_refl _)).below hb34 (Nat.le_refl _))
 have hm4:MapS w4.drew m h0 K:=hm3.heap (hb34.block _ hm3.lt)
 have z1:w4.drew.cell? ⟨w1.heap.size,1,none⟩=some (.map (some m)):=hr4.cell 1
 have z4:w4.drew.cell? ⟨w.heap.size,4,none⟩=some (.slice da d.length dc):=hR4.cell 4
 have HW3:=hide hw3
 have HW4:=hide hw4
 have Hb14:=hide hb14
 have Hr4:=hide hr4
 have HR4:=hide hR4
 have Hm4:=hide hm4
 have Hm3:=hide hd3
 have Hs3:=hide hs3
 have Hscc:=hide (hs3.below hb34 (Nat.le_refl _))
 clear hw3 hw4 hb13 hr3 hm3 hd3 hm1 hz3 hs3 hb34 hb14 hr4 hR4 hm4
 go_region
 all_goals
  go_wp2_with (go_at_call 85;rw[<- HW3.out];refine (has_any w3 (S.ttl:Int) (some m) S.g K Hm3.out c ca c.length cc rfl Hs3.out hc8).mono ?_;rintro e wq ⟨he,hwq⟩;have he:e = .returned (.bool false):=(by rw[he,Hg.out];rfl);rw[he,hwq, <- HW4.out];clear he hwq wq)
  go_region_held3 (fun w'=>w'.cell? ⟨w1.heap.size,1,none⟩=some (.map (some m))/\w'.cell? ⟨w.heap.size,4,none⟩=some (.slice da d.length dc)/\(convert 37 9 (.slice ca c.length cc)).run Tryz.prog w' = .ok (.string ⟨c.toArray⟩) w') (first | exact⟨z1,z4,hcv4⟩ | exact⟨z51,z54,hcv5⟩ | exact⟨z61,z64,hcv6⟩) ((go_at_call 100;refine (bclone_any _ da dc d (by omega) (by exact hs4) hnd).mono ?_;rintro e w5 ⟨v5,rfl,hO5,hB5⟩;obtain⟨a5,c5,rfl,hT5,hn5,hc5⟩:=hO5.ty;have hr5:=Hr4.out.below hB5 Hr4.out.lt;have hR5:=HR4.out.below hB5 HR4.out.lt;have z51:w5.cell? ⟨w1.heap.size,1,none⟩=some (.map (some m)):=hr5.cell 1;have z54:w5.cell? ⟨w.heap.size,4,none⟩=some (.slice da d.length dc):=hR5.cell 4;have hcv5:(convert 37 9 (.slice ca c.length cc)).run Tryz.prog w5 = .ok (.string ⟨c.toArray⟩) w5:=run_str c.length cc (Hscc.out.below hB5 (Nat.le_refl _)) rfl;have hm5:MapS w5 m h0 K:=Hm4.out.heap (hB5.block _ Hm4.out.lt);obtain⟨w6,hrun,hM6,ht6⟩:=MapAt.update hm5 keyedS Tryz.underlying100 (by omega) (keyS c hc8) (.slice a5 d.length c5);have hr6:RowAt w6 w1.heap.size 102 #[.int .u32 (S.ttl:Int),.map (some m)]:=(ht6.block _ (fun e=>by have:=Hlm.out;have:=HR.out.lt;have:=HB1.out.size;omega)).trans hr5;have hR6:RowAt w6 w.heap.size 39 #[.slice na nl nc,.int .u16 (t:Int),.int .u16 (cl:Int),.int .u32 (ttl:Int),.slice da d.length dc]:=(ht6.block _ (fun e=>by have:=Hlm.out;omega)).trans hR5;have z61:w6.cell? ⟨w1.heap.size,1,none⟩=some (.map (some m)):=hr6.cell 1;have z64:w6.cell? ⟨w.heap.size,4,none⟩=some (.slice da d.length dc):=hR6.cell 4;have hcv6:(convert 37 9 (.slice ca c.length cc)).run Tryz.prog w6 = .ok (.string ⟨c.toArray⟩) w6:=run_str c.length cc (slL_map ht6 (Hscc.out.below hB5 (Nat.le_refl _))) rfl))
  have z60:w6.cell? ⟨w1.heap.size,0,none⟩=some (.int .u32 (S.ttl:Int)):=hr6.cell 0
  have f60:w6.frozen? ⟨w1.heap.size,0,none⟩=false:=hr6.frozen 0
  have z63:w6.cell? ⟨w.heap.size,3,none⟩=some (.int .u32 (ttl:Int)):=hR6.cell 3
  have Hr6:=hide hr6
  have HR6:=hide hR6
  have HM6:=hide hM6
  have Ht6:=hide ht6
  have HB5:=hide hB5
  have HT5:=hide hT5
  clear hr6 hR6 hM6 ht6 hB5 hT5 hr5 hR5 hm5 hO5
  go_wp2
  obtain⟨w7,hw7⟩ : ∃ w7,w7=w6.setCell ⟨w1.heap.size,0,none⟩ (.int .u32 (ttl:Int)):=⟨_,rfl⟩
  have hb15:Below w1.heap.size w1 w5:=Hb14.out.trans (HB5.out.mono Hb14.out.size)
  have hK17 : ∀ i,i<w1.heap.size->i≠m->w7.heap[i]?=w1.heap[i]?:=fun i hi h1=>by
   rw[hw7,(grownBy_setCell' w6 w1.heap.size _).block i (by have:=hb15.size;have:=Ht6.out.size;omega) (by simp;omega),Ht6.out.block i h1,hb15.block i hi]
  have hz71:w1.heap.size<=w7.heap.size:=by rw[hw7];have:=hb15.size;have:=Ht6.out.size;simp;omega
  have hos:w7.os=w1.os/\w7.tape=w1.tape/\w7.output=w1.output:=by
   rw[hw7]
   have g:=grownBy_setCell' w6 w1.heap.size (.int .u32 (ttl:Int))
   exact⟨g.os.trans (Ht6.out.os.trans hb15.os),g.tape.trans (Ht6.out.tape.trans hb15.tape),g.output.trans (Ht6.out.output.trans hb15.output)⟩
  have hr7:RowAt w7 w1.heap.size 102 #[.int .u32 (ttl:Int),.map (some m)]:=by rw[hw7];exact Hr6.out.set 0 _
  have hR7:RowAt w7 w.heap.size 39 #[.slice na nl nc,.int .u16 (t:Int),.int .u16 (cl:Int),.int .u32 (ttl:Int),.slice da d.length dc]:=(hK17 _ HR.out.lt (by have:=Hlm.out;omega)).trans HR.out
  have hrn:RowAt w7 x.n 107 #[.map (some x.s),.map (some x.b)]:=(hK17 _ HN.out.row.lt (fun e=>Hmn.out e.symm)).trans HN.out.row
  have hse:MapU w7 x.s (fun t=>(C p t).map fun S=>setV S (x.dm t)) K:=HN.out.sets.heap (hK17 _ HN.out.sets.lt (fun e=>Hms.out e.symm))
  have v0:w7.cell? ⟨x.n,0,none⟩=some (.map (some x.s)):=hrn.cell 0
  have v1:w7.cell? ⟨w.heap.size,1,none⟩=some (.int .u16 (t:Int)):=hR7.cell 1
  have v2:w7.cell? ⟨w1.heap.size,0,none⟩=some (.int .u32 (ttl:Int)):=hr7.cell 0
  have v3:w7.cell? ⟨w1.heap.size,1,none⟩=some (.map (some m)):=hr7.cell 1
  obtain⟨w8,hrun8,hM8,ht8⟩:=MapAt.update hse.drew keyedH Tryz.underlying104 (by omega) (keyH t ht) (.agg #[.int .u32 (ttl:Int),.map (some m)])
  have HM8:=hide hM8
  have HT8:=hide ht8
  have HK17:=hide hK17
  have HZ71:=hide hz71
  have HOS:=hide hos
  have HW7:=hide hw7
  rw[<- hw7]
  clear hM8 ht8 hK17 hz71 hos hw7 hrn hse hr7 hR7 hb15
  go_region
  all_goals go_end0
  all_goals refine⟨rfl,?_⟩
  all_goals
   have h8:=HT8.out
   have hz1:=HB1.out.size
   have hz17:=HZ71.out
   have hlt1:=HR.out.lt
   have hlm:=Hlm.out
   have hz8:w8.heap.size=w7.heap.size:=h8.size
   have hm6:MapS w6 m (sput h0 c (.slice a5 d.length c5)) (K+1):=HM6.out.congr fun k=>fput_S _ _ _ k
   have e86:w8.heap[m]?=w6.heap[m]?:=by
    rw[h8.block _ Hms.out]
    show w7.heap[m]?=_
    rw[HW7.out];exact (grownBy_setCell' w6 w1.heap.size _).block _ (by have:=hm6.lt;exact this) (by simp;omega)
   have hoth : ∀ i,i<w.heap.size->i≠x.s->i≠m->w8.heap[i]?=w.heap[i]?:=fun i hi h1 h2=>by
    rw[h8.block i h1]
    exact (HK17.out i (by omega) h2).trans (HB1.out.block i hi)
   have hslL : ∀ ao l,SlL w ao l->SlL w8 ao l:=fun ao l=>slL_keep (by omega) fun i hi hz=>by
    refine hoth i hi (fun e=>hz ?_) (fun e=>hz ?_)
    ·rw[e];exact HT.out.kind _ (by rw[HT.out.rs p x hx];simp)
    ·rw[e];exact HT.out.kind _ (by rw[Hmr.out];simp)
   have hT8:TyL w8 a5 d:=(HT5.out.kb (KB.turn Ht6.out)).kb ⟨by rw[hz8,HW7.out];simp,fun g cs et fr hg he=>by
    have hg1:g≠w1.heap.size:=fun e=>by
     have:=Hr6.out
     unfold RowAt at this
     rw[e,this] at hg;injection hg with hg;injection hg with _ hg _
     rcases he with rfl | rfl
     ·exact absurd hg (by decide)
     ·exact absurd hg (by decide)
    have hg2:w7.heap[g]?=some (Obj.cells cs et fr):=by
     rw[HW7.out,(grownBy_setCell' w6 w1.heap.size _).block g (Array.getElem?_eq_some_iff.1 hg).1 (by simp;omega)];exact hg
    refine (h8.block g (fun e=>?_)).trans hg2
    obtain⟨es,k,hb⟩:=h8.was
    have hb:w7.heap[x.s]?=some (.map es k):=hb
    rw[e,hb] at hg2;cases hg2⟩
   have hgot : ∀ y,Z.got C p t y=S.g y:=fun y=>by unfold Z.got;rw[HS.out];rfl
   refine HT.out.put hx t ht ttl c d m (Or.inl ⟨S,HS.out,Hm.out⟩) ⟨h8.os.trans (HOS.out.1.trans HB1.out.os),h8.tape.trans (HOS.out.2.1.trans HB1.out.tape),h8.output.trans (HOS.out.2.2.trans HB1.out.output),by rw[hz8];omega,fun i hi=>by omega⟩ hoth ?_ ?_
   ·exact HM8.out.congr fun k=>fput_U _ t ht _ k
   ·refine⟨_,hm6.heap e86,fun y=>?_⟩
    by_cases e:y=c
    ·rw[if_pos e,hgot,Hg.out]
     have e9:sput h0 c (.slice a5 d.length c5) y=some (.slice a5 d.length c5):=by simp[sput,e]
     rw[e9]
     exact⟨a5,c5,rfl,hT8.1,hn5,hc5,hd8⟩
    ·rw[if_neg e,hgot]
     have e9:sput h0 c (.slice a5 d.length c5) y=h0 y:=by simp[sput,e]
     rw[e9]
     exact (Hdi.out y).keep hslL
set_option maxHeartbeats 1500000 in
theorem nput_same (w:World) {ρ : Nat->Role} {G:List (List UInt8)->Option Nd} {C:List (List UInt8)->Nat->Option Z.St} {K:Nat} (T:TreeAt w ρ G C K) (hK:K+1<=1000000) {p:List (List UInt8)} {x:Nd} (hx:G p=some x) (t:Nat) (ht:t<65536) (ttl cl:Nat) (c d:List UInt8) (na:Option Addr) (nl nc:Nat) (da:Option Addr) (dc:Nat) (ca:Option Addr) (cc:Nat)
 (hsd:SlL w da d) (_hnd:da=none->dc=0) (_hd8:d.length<=8192) (hsc:SlL w ca c) (hc8:c.length<=1000000) (S:Z.St) (hS:C p t=some S) (d0:List UInt8) (hg:S.g c=some d0) :
 Calls Tryz.prog 87 #[.pointer (some ⟨x.n,0,none⟩),recV na nl nc t cl ttl da d.length dc,.slice ca c.length cc] w fun e w'=>e = .returned (.tuple #[]) /\ ∃ ρ' x',TreeAt w' ρ' (gput G p (some x')) (Z.cput C p t ttl c d) (K+1)/\x'.n=x.n/\x'.s=x.s/\x'.b=x.b/\Grew w w' ρ ρ' G (gput G p (some x')):=by
 obtain⟨m,hm⟩ : ∃ m,m=x.dm t:=⟨_,rfl⟩
 obtain⟨h0,hmap,hdi⟩:=(T.node p x hx).data t S hS
 rw[<- hm] at hmap
 have hlm:=hmap.lt
 have hmr:=T.rd p x t S hx hS
 rw[<- hm] at hmr
 have hmn:m≠x.n:=fun e=>by rw[e,T.rn p x hx] at hmr;cases hmr
 have hms:m≠x.s:=fun e=>by rw[e,T.rs p x hx] at hmr;cases hmr
 have hmv:setV S (x.dm t) = .agg #[.int .u32 (S.ttl:Int),.map (some m)]:=by rw[hm];rfl
 obtain⟨w1,hw1⟩ : ∃ w1,w1=w.alloc (.cells #[.slice na nl nc,.int .u16 (t:Int),.int .u16 (cl:Int),.int .u32 (ttl:Int),.slice da d.length dc] 39):=⟨_,rfl⟩
 have N:=T.node p x hx
 have hb1:Below w.heap.size w w1:=by rw[hw1];exact (Below.refl _ w).alloc (Nat.le_refl _) _
 have hr1:RowAt w1 w.heap.size 39 #[.slice na nl nc,.int .u16 (t:Int),.int .u16 (cl:Int),.int .u32 (ttl:Int),.slice da d.length dc]:=by rw[hw1];exact RowAt.new w _ _
 have N1:=(T.below_ hb1).node p x hx
 have hlk:=(N1.lookup t ht w1.drew rfl).1
 rw[hS] at hlk
 simp only[Option.map_some,Option.getD_some,Option.isSome_some,hmv] at hlk
 have x0:w1.cell? ⟨x.n,0,none⟩=some (.map (some x.s)):=N1.row.cell 0
 have y1:w1.cell? ⟨w.heap.size,1,none⟩=some (.int .u16 (t:Int)):=hr1.cell 1
 have hb2:Below w1.heap.size w1 (w1.alloc (.cells #[.int .u32 0,.map none] 102)):=(Below.refl _ w1).alloc (Nat.le_refl _) _
 have N2:=((T.below_ hb1).below_ hb2).node p x hx
 have hlk2:=(N2.lookup t ht (w1.alloc (.cells #[.int .u32 0,.map none] 102)).drew rfl).1
 rw[hS] at hlk2
 simp only[Option.map_some,Option.getD_some,Option.isSome_some,hmv] at hlk2
 have x2:(w1.alloc (.cells #[.int .u32 0,.map none] 102)).cell? ⟨x.n,0,none⟩=some (.map (some x.s)):=N2.row.cell 0
 have y2:(w1.alloc (.cells #[.int .u32 0,.map none] 102)).cell? ⟨w.heap.size,1,none⟩=some (.int .u16 (t:Int)):=(hr1.below hb2 hr1.lt).cell 1
 have Hg:=hide hg
 clear hg
 have Hm:=hide hm
 have Hmap:=hide hmap
 have Hdi:=hide hdi
 have Hmr:=hide hmr
 have Hmn:=hide hmn
 have Hms:=hide hms
 have HS:=hide hS
 have Hlm:=hide hlm
 clear hb2 N2 hm hmap hdi hmr hmn hms hS hmv hlm
 have HB1:=hide hb1
 have HW:=hide hw1
 have HN:=hide N1
 have HR:=hide hr1
 have HT:=hide T
 clear hw1 N N1 hr1 T
 unfold recV
 go_enter Tryz.func87,Tryz.ntmps87
 go_wp2
 rw[<- HW.out]
 obtain⟨w3,hw3⟩ : ∃ w3,w3=(w1.alloc (.cells #[.int .u32 (S.ttl:Int),.map (some m)] 102)).drew:=⟨_,rfl⟩
 have hb13:Below w1.heap.size w1 w3:=by
  rw[hw3]
  exact below_drewN ((Below.refl _ w1).alloc (Nat.le_refl _) _) 1
 have hr3:RowAt w3 w1.heap.size 102 #[.int .u32 (S.ttl:Int),.map (some m)]:=by
  rw[hw3]
  exact RowAt.new w1 102 #[.int .u32 (S.ttl:Int),.map (some m)]
 have hm1:MapS w1 m h0 K:=Hmap.out.heap (HB1.out.block _ Hlm.out)
 have hm3:MapS w3 m h0 K:=hm1.heap (hb13.block _ hm1.lt)
 have hd3:DM w3 (some m) S.g K:=⟨h0,hm3,fun y=>(Hdi.out y).keep fun _ _ hs=>(hs.below HB1.out (Nat.le_refl _)).below hb13 (Nat.le_refl _)⟩
 have hz3:w3.heap.size=w1.heap.size+1:=by rw[hw3];simp
 have hs3:SlL w3 ca c:=(hsc.below hb1 (Nat.le_refl _)).below hb13 (Nat.le_refl _)
 obtain⟨w4,hw4⟩ : ∃ w4,w4=w3.alloc (.cells #[.int .u32 (S.ttl:Int),.map (some m)] 102):=⟨_,rfl⟩
 have hb34:Below w3.heap.size w3 w4:=by rw[hw4];exact (Below.refl _ w3).alloc (Nat.le_refl _) _
 have hb34:Below w3.heap.size w3 w4.drew:=below_drewN hb34 1
 have hb14:Below w1.heap.size w1 w4.drew:=hb13.trans (hb34.mono hb13.size)
 have hr4:RowAt w4.drew w1.heap.size 102 #[.int .u32 (S.ttl:Int),.map (some m)]:=hr3.below hb34 hr3.lt
 have hR4:RowAt w4.drew w.heap.size 39 #[.slice na nl nc,.int .u16 (t:Int),.int .u16 (cl:Int),.int .u32 (ttl:Int),.slice da d.length dc]:=HR.out.below hb14 HR.out.lt
 have hcv4:(convert 37 9 (.slice ca c.length cc)).run Tryz.prog w4.drew = .ok (.string ⟨c.toArray⟩) w4.drew:=run_str c.length cc (hs3.below hb34 (Nat.le_refl _)) rfl
 have hs4:SlL w4.drew da d:=(((hsd.below hb1 (Nat.le_refl _)).below hb13 (Nat.le_refl _)).below hb34 (Nat.le_refl _))
 have hm4:MapS w4.drew m h0 K:=hm3.heap (hb34.block _ hm3.lt)
 have z40:w4.cell? ⟨w1.heap.size,0,none⟩=some (.int .u32 (S.ttl:Int)):=hr4.cell 0
 have f40:w4.frozen? ⟨w1.heap.size,0,none⟩=false:=hr4.frozen 0
 have z43:w4.cell? ⟨w.heap.size,3,none⟩=some (.int .u32 (ttl:Int)):=hR4.cell 3
 have z1:w4.drew.cell? ⟨w1.heap.size,1,none⟩=some (.map (some m)):=hr4.cell 1
 have z4:w4.drew.cell? ⟨w.heap.size,4,none⟩=some (.slice da d.length dc):=hR4.cell 4
 have HW3:=hide hw3
 have HW4:=hide hw4
 have Hb14:=hide hb14
 have Hr4:=hide hr4
 have HR4:=hide hR4
 have Hm4:=hide hm4
 have Hm3:=hide hd3
 have Hs3:=hide hs3
 have Hscc:=hide (hs3.below hb34 (Nat.le_refl _))
 clear hw3 hw4 hb13 hr3 hm3 hd3 hm1 hz3 hs3 hb34 hb14 hr4 hR4 hm4
 go_region
 all_goals
  go_wp2_with (go_at_call 85;rw[<- HW3.out];refine (has_any w3 (S.ttl:Int) (some m) S.g K Hm3.out c ca c.length cc rfl Hs3.out hc8).mono ?_;rintro e wq ⟨he,hwq⟩;have he:e = .returned (.bool true):=(by rw[he,Hg.out];rfl);rw[he,hwq, <- HW4.out];clear he hwq wq)
  obtain⟨w7,hw7⟩ : ∃ w7,w7=w4.setCell ⟨w1.heap.size,0,none⟩ (.int .u32 (ttl:Int)):=⟨_,rfl⟩
  have hb17:Below w1.heap.size w1 w7:=by
   rw[hw7]
   have h4:Below w1.heap.size w1 w4:=⟨Hb14.out.os,Hb14.out.tape,Hb14.out.output,Hb14.out.size,Hb14.out.block⟩
   exact h4.setCell (p:=⟨w1.heap.size,0,none⟩) (Nat.le_refl _) _
  have T7:=(HT.out.below_ HB1.out).below_ hb17
  have N7:=T7.node p x hx
  have hr7:RowAt w7 w1.heap.size 102 #[.int .u32 (ttl:Int),.map (some m)]:=by rw[hw7];exact (show RowAt w4 w1.heap.size 102 _ from Hr4.out).set 0 _
  have hR7:RowAt w7 w.heap.size 39 #[.slice na nl nc,.int .u16 (t:Int),.int .u16 (cl:Int),.int .u32 (ttl:Int),.slice da d.length dc]:=HR.out.below hb17 HR.out.lt
  have v0:w7.cell? ⟨x.n,0,none⟩=some (.map (some x.s)):=N7.row.cell 0
  have v1:w7.cell? ⟨w.heap.size,1,none⟩=some (.int .u16 (t:Int)):=hR7.cell 1
  have v2:w7.cell? ⟨w1.heap.size,0,none⟩=some (.int .u32 (ttl:Int)):=hr7.cell 0
  have v3:w7.cell? ⟨w1.heap.size,1,none⟩=some (.map (some m)):=hr7.cell 1
  obtain⟨w8,hrun8,hM8,ht8⟩:=MapAt.update N7.sets.drew keyedH Tryz.underlying104 (by omega) (keyH t ht) (.agg #[.int .u32 (ttl:Int),.map (some m)])
  have HM8:=hide hM8
  have HT8:=hide ht8
  have Hb17:=hide hb17
  have HW7:=hide hw7
  rw[<- hw7]
  clear hM8 ht8 hb17 hw7 T7 N7 hr7 hR7
  go_region
  all_goals go_end0
  all_goals refine⟨rfl,?_⟩
  all_goals
   have h17:=Hb17.out
   have h8:=HT8.out
   have hz1:=HB1.out.size
   have hz17:=h17.size
   have hlt1:=HR.out.lt
   have hz8:w8.heap.size=w7.heap.size:=h8.size
   have hxs:x.s<w.heap.size:=(HT.out.kind x.s (by rw[HT.out.rs p x hx];simp)).lt
   have hlm:=Hlm.out
   have hoth : ∀ i,i<w.heap.size->i≠x.s->i≠m->w8.heap[i]?=w.heap[i]?:=fun i hi h1 h2=>by
    rw[h8.block i h1]
    exact (h17.block i (by omega)).trans (HB1.out.block i hi)
   have e8:w8.heap[m]?=w.heap[m]?:=by
    rw[h8.block m Hms.out]
    exact (h17.block m (by omega)).trans (HB1.out.block m hlm)
   have hslL : ∀ ao l,SlL w ao l->SlL w8 ao l:=fun ao l=>slL_keep (by omega) fun i hi hz=>by
    refine hoth i hi (fun e=>hz ?_) (fun e=>hz ?_)
    ·rw[e];exact HT.out.kind _ (by rw[HT.out.rs p x hx];simp)
    ·rw[e];exact HT.out.kind _ (by rw[Hmr.out];simp)
   have hgot : ∀ y,Z.got C p t y=S.g y:=fun y=>by unfold Z.got;rw[HS.out];rfl
   refine HT.out.put hx t ht ttl c d m (Or.inl ⟨S,HS.out,Hm.out⟩) ⟨h8.os.trans (h17.os.trans HB1.out.os),h8.tape.trans (h17.tape.trans HB1.out.tape),h8.output.trans (h17.output.trans HB1.out.output),by rw[hz8];omega,fun i hi=>by omega⟩ hoth ?_ ?_
   ·exact HM8.out.congr fun k=>fput_U _ t ht _ k
   ·refine⟨h0,(Hmap.out.heap e8).mono (Nat.le_succ _),fun y=>?_⟩
    have:=(Hdi.out y).keep hslL
    by_cases e:y=c
    ·rw[if_pos e,hgot,Hg.out]
     rw[e,Hg.out] at this
     rw[e];exact this
    ·rw[if_neg e,hgot];exact this
open Go Go.RowKit
structure KeepsLp (B:Nat) (W W':World):Prop where
 size:W.heap.size<=W'.heap.size
 same : ∀ (k:Nat) (o:Obj),B<=k->W.heap[k]?=some o->o.isCells=false->o.isWalk=false->W'.heap[k]?=some o
def OwnLp {β : Type} (B:Nat) (I : β -> World->Prop):Prop :=
 ∀ s W W' row,I s W->W.grownBy W' row->(∀ r,row=some r->B<=r /\ ∃ o:Obj,W.heap[r]?=some o/\o.isCells=false/\o.isWalk=false)->I s W'
theorem OwnLp.putObj {β : Type} {B:Nat} {I : β -> World->Prop} (h:OwnLp B I) {s : β} {W:World} {l:Nat} {o:Obj} (o':Obj) (hs:I s W) (hB:B<=l) (hl:W.heap[l]?=some o) (ho:o.isCells=false) (hw:o.isWalk=false):I s (W.putObj l o') :=
 h s W _ (some l) hs (grownBy_putObj' W l o') (fun r e=>by cases e;exact⟨hB,o,hl,ho,hw⟩)
theorem OwnLp.alloc {β : Type} {B:Nat} {I : β -> World->Prop} (h:OwnLp B I) {s : β} {W:World} (o:Obj) (hs:I s W):I s (W.alloc o) :=
 h s W _ none hs (World.grownBy_alloc W o none) (fun r e=>by cases e)
def wpF (f:FuncId) (P:Program) (c:Code) (Q:Exit->Act->World->Prop) (a:Act) (w:World):Prop :=
 ∀ (b:Frame) (k:List Item) (cs:List Frame),b.roundOf=none->b.fn=f -> ∃ e a' w',Q e a' w'/\ArrivesIn (Machine.fenced P Fence.wide) P (lone (b.atR a (.code c::k)) cs w) b k cs e a' w'
theorem wpF_of_wpIn {f:FuncId} {n:Nat} {P:Program} {c:Code} {Q:Exit->Act->World->Prop} {a:Act} {w:World} (h:c.wpIn Fence.wide n P Q a w):wpF f P c Q a w:=fun b k cs hro _=>h b k cs hro trivial (room_wide _)
theorem wpF_seq {f:FuncId} {n:Nat} {P:Program} {x y:Code} {Q:Exit->Act->World->Prop} {a:Act} {w:World} (h:x.wpIn Fence.wide n P (Exit.then (wpF f P y Q) Q) a w):wpF f P (.seq x y) Q a w:=fun b k cs hro hb=>by
 obtain⟨e,a₁,w₁,hq,harr⟩:=h b (.code y::k) cs hro trivial (room_wide _)
 have one:StepsIn (Machine.fenced P Fence.wide) P (lone (b.atR a (.code (.seq x y)::k)) cs w) (lone (b.atR a (.code x :: .code y::k)) cs w) := .one (fenced_wide P _) stepR_seq
 cases e with
 | normal =>
  obtain⟨e₂,a₂,w₂,hq₂,harr₂⟩:=hq b k cs hro hb
  exact⟨e₂,a₂,w₂,hq₂,.of_steps (StepsIn.trans one harr) harr₂⟩
 | exit id=>exact⟨_,a₁,w₁,hq,.of_steps one (.pass (x := .code y) rfl (fun _ _ => .inl (by simp)) harr)⟩
 | goto l=>exact⟨_,a₁,w₁,hq,.of_steps one (.pass (x := .code y) rfl (fun _ _ => .inl (by simp)) harr)⟩
 | ret=>exact⟨_,a₁,w₁,hq,.of_steps one (.pass (x := .code y) rfl (fun _ _ => .inl (by simp)) harr)⟩
 | panic ch=>exact⟨_,a₁,w₁,hq,.of_steps one (.pass (x := .code y) rfl (fun _ _ => .inl (by simp)) harr)⟩
 | outgrown=>exact⟨_,a₁,w₁,hq,.of_steps one (.pass (x := .code y) rfl (fun _ _ => .inl (by simp)) harr)⟩
theorem wpF_seqF {f:FuncId} {P:Program} {x y:Code} {Q:Exit->Act->World->Prop} {a:Act} {w:World} (h:wpF f P x (Exit.then (wpF f P y Q) Q) a w):wpF f P (.seq x y) Q a w:=fun b k cs hro hb=>by
 obtain⟨e,a₁,w₁,hq,harr⟩:=h b (.code y::k) cs hro hb
 have one:StepsIn (Machine.fenced P Fence.wide) P (lone (b.atR a (.code (.seq x y)::k)) cs w) (lone (b.atR a (.code x :: .code y::k)) cs w) := .one (fenced_wide P _) stepR_seq
 cases e with
 | normal =>
  obtain⟨e₂,a₂,w₂,hq₂,harr₂⟩:=hq b k cs hro hb
  exact⟨e₂,a₂,w₂,hq₂,.of_steps (StepsIn.trans one harr) harr₂⟩
 | exit id=>exact⟨_,a₁,w₁,hq,.of_steps one (.pass (x := .code y) rfl (fun _ _ => .inl (by simp)) harr)⟩
 | goto l=>exact⟨_,a₁,w₁,hq,.of_steps one (.pass (x := .code y) rfl (fun _ _ => .inl (by simp)) harr)⟩
 | ret=>exact⟨_,a₁,w₁,hq,.of_steps one (.pass (x := .code y) rfl (fun _ _ => .inl (by simp)) harr)⟩
 | panic ch=>exact⟨_,a₁,w₁,hq,.of_steps one (.pass (x := .code y) rfl (fun _ _ => .inl (by simp)) harr)⟩
 | outgrown=>exact⟨_,a₁,w₁,hq,.of_steps one (.pass (x := .code y) rfl (fun _ _ => .inl (by simp)) harr)⟩
def BP (Q:Exit->Act->World->Prop):Exit->Act->World->Prop
 | .normal,a,w=>Q .normal a w
 | .panic ch,a,w=>Q (.panic ch) a w
 | _,_,_=>False
theorem wpF_block {f:FuncId} {P:Program} {id:Nat} {c:Code} {Q:Exit->Act->World->Prop} {a:Act} {w:World} (h:wpF f P c (BP Q) a w):wpF f P (.block id c) Q a w:=fun b k cs hro hb=>by
 obtain⟨e,a₁,w₁,hq,harr⟩:=h b (.inBlock id::k) cs hro hb
 have one:StepsIn (Machine.fenced P Fence.wide) P (lone (b.atR a (.code (.block id c)::k)) cs w) (lone (b.atR a (.code c :: .inBlock id::k)) cs w) := .one (fenced_wide P _) stepR_block
 cases e with
 | normal=>exact⟨.normal,a₁,w₁,hq,StepsIn.trans one (StepsIn.trans harr (.one (fenced_wide P _) stepR_inBlock))⟩
 | panic ch=>exact⟨.panic ch,a₁,w₁,hq,.of_steps one harr⟩
 | exit id=>exact hq.elim
 | goto l=>exact hq.elim
 | ret=>exact hq.elim
 | outgrown=>exact hq.elim
theorem calls_of_wpF {f:FuncId} {n:Nat} {P:Program} {fn:Func} {c:Code} {args:Array Value} {w:World} {R:Ending->World->Prop} (hf:P.funcs[f]?=some fn) (hb:fn.body=some c)
 (h:wpF f P c (bodyPostM Fence.wide n P fn R) { tmps:=args++Array.replicate (fn.ntmps - args.size) undef,defers := [] } w):CallsIn Fence.wide n P f args w R:=by
 refine⟨trivial,fun cs hr=>?_⟩
 obtain⟨b,hbe⟩ : ∃ b:Frame,b = { (default:Frame) with fn:=f,kind := .normal,roundOf:=none } := ⟨_,rfl⟩
 have henter:Frame.enter P f args .normal=b.atR { tmps:=args++Array.replicate (fn.ntmps - args.size) undef,defers := [] } [.code c]:=by
  rw[hbe];simp[Frame.enter,Frame.atR,hf,hb]
 obtain⟨e,a',w',hq,harr⟩:=h b [] cs (by rw[hbe]) (by rw[hbe])
 rw[<- henter] at harr
 subst hbe
 cases e with
 | normal =>
  obtain⟨e',w'',fr',hR,hs,hfn,hl⟩:=leaves_stepsInM (F:=Fence.wide) (n:=n) a'.defers .returning w' { ({ (default:Frame) with fn:=f,kind := .normal,roundOf:=none } : Frame).atR a' [] with mode := .returning } cs rfl rfl rfl hf rfl trivial hr hq
  exact⟨e',w'',fr',hR,ComesIn.of_steps (StepsIn.trans harr (.one (fenced_wide P _) (stepR_end rfl))) hs,hfn,hl⟩
 | panic chain =>
  obtain⟨todo,hs₀⟩:=harr
  obtain⟨e',w'',fr',hR,hs,hfn,hl⟩:=leaves_stepsInM (F:=Fence.wide) (n:=n) a'.defers (.panicking chain) w' { ({ (default:Frame) with fn:=f,kind := .normal,roundOf:=none } : Frame).atR a' todo with mode := .panicking chain } cs rfl rfl rfl hf rfl trivial hr hq
  exact⟨e',w'',fr',hR,ComesIn.of_steps hs₀ hs,hfn,hl⟩
 | ret =>
  obtain⟨todo,hs₀⟩:=harr.1 rfl
  obtain⟨e',w'',fr',hR,hs,hfn,hl⟩:=leaves_stepsInM (F:=Fence.wide) (n:=n) a'.defers .returning w' { ({ (default:Frame) with fn:=f,kind := .normal,roundOf:=none } : Frame).atR a' todo with mode := .returning } cs rfl rfl rfl hf rfl trivial hr hq
  exact⟨e',w'',fr',hR,ComesIn.of_steps hs₀ hs,hfn,hl⟩
 | exit id=>exact hq.elim
 | goto l=>exact hq.elim
 | outgrown =>
  rcases harr with hk | ho
  ·cases hk
  ·exact⟨.outgrown,w',Frame.enter P f args .normal,hq,ho,by rw[henter];rfl,trivial⟩
def roundP (P:Program) (l:Nat) (R:Ending->World->Prop):Exit->Act->World->Prop
 | .normal,_,w => ∃ v w',(Instr.endRound l none).run P w = .ok v w'/\R (.returned v) w'
 | .panic ch,a,w=>a.defers = []/\R (.panicked ch) w
 | _,_,_=>False
theorem roundIn_two {n:Nat} {P:Program} {l:Nat} {f:FuncId} {fn:Func} {tmps:Array Value} {assign body:Code} {w:World} {R:Ending->World->Prop} (hf:P.funcs[f]?=some fn)
 (h:assign.wpIn (Fence.wide.inRound l) n P (Exit.then (fun a₁ w₁ => ∃ w₂,(Instr.beginRound l).run P w₁ = .ok () w₂ /\ body.wpIn (Fence.wide.inRound l) n P (roundP P l R) a₁ w₂) (fun _ _ _=>False)) { tmps:=tmps,defers := [] } w) :
 RoundIn Fence.wide n P l f tmps assign body w R:=by
 refine⟨trivial,fun c cs hr=>?_⟩
 obtain⟨b,hbe⟩ : ∃ b:Frame,b = { (default:Frame) with fn:=f,kind := .normal,roundOf:=some l } := ⟨_,rfl⟩
 have hb0:Frame.round l f tmps assign body .normal=b.atR { tmps:=tmps,defers := [] } [.code assign,.beginRound,.code body]:=by
  rw[hbe];simp[Frame.round,Frame.atR]
 have hro:b.roundOf=some l:=by rw[hbe]
 have hk:b.kind = .normal:=by rw[hbe]
 have hfn:b.fn=f:=by rw[hbe]
 have hany : ∀ m,(Fence.wide.inRound l).room m:=fun m=>room_wide m
 obtain⟨e,a₁,w₁,hq,harr⟩:=h b [.beginRound,.code body] (c::cs) hro trivial (hany _)
 rw[<- hb0] at harr
 cases e with
 | normal =>
  obtain⟨w₂,hbr,hbody⟩:=hq
  have s1:StepsIn (Machine.fenced P (Fence.wide.inRound l)) P (lone (b.atR a₁ [.beginRound,.code body]) (c::cs) w₁) (lone (b.atR a₁ [.code body]) (c::cs) w₂) := .one (fenced_wide P _) (stepR_beginRound hro hbr)
  obtain⟨e₂,a₂,w₃,hq₂,harr₂⟩:=hbody b [] (c::cs) hro trivial (hany _)
  cases e₂ with
  | normal =>
   obtain⟨v,w₄,hend,hR⟩:=hq₂
   exact⟨.returned v,w₄,hR,(StepsIn.trans harr s1).trans (StepsIn.trans harr₂ (.one (fenced_wide P _) (stepR_round_end hro hk hend)))⟩
  | panic ch =>
   obtain⟨hd,hR⟩:=hq₂
   obtain⟨todo,hs⟩:=harr₂
   refine⟨.panicked ch,w₃,hR,(StepsIn.trans harr s1).trans (StepsIn.trans hs (.one (fenced_wide P _) ?_))⟩
   exact step_leave_panicked ⟨rfl,hd,fn,by show P.funcs[b.fn]?=_;rw[hfn];exact hf⟩
  | ret=>exact hq₂.elim
  | exit id=>exact hq₂.elim
  | goto t=>exact hq₂.elim
  | outgrown=>exact hq₂.elim
 | exit id=>exact hq.elim
 | goto t=>exact hq.elim
 | ret=>exact hq.elim
 | panic chain=>exact hq.elim
 | outgrown=>exact hq.elim
def SeqTwo (n:Nat) (P:Program) (gf:Nat) (lb:Array Value) (encs:Nat->Array Value) (Kp:World->World->Prop) (S ok:List Nat->Prop) (w0:World):Prop :=
 ∀ (l:Nat) (J:List Nat->World->Prop) (Jd:List PanicEntry->World->Prop) (W:World),Below w0.heap.size w0 W->(∀ pre A,J pre A->J pre A.drew) ->
  (∀ pre x W1,J pre W1->ok pre->YieldAt Fence.wide (n - 1) P l (encs x) W1 fun e W'=>(e = .returned (.bool true)/\J (pre ++ [x]) W'/\Kp W1 W')\/(∃ ch,e = .panicked ch/\Jd ch W')) ->
  J [] W ->
  CallsIn Fence.wide n P gf (#[.func (.yield l) #[] #[]]++lb) W fun e W'=>((∃ v,e = .returned v) /\ ∃ xs,S xs/\J xs W')\/(∃ ch,e = .panicked ch/\Jd ch W')
def twoPost (B:Nat) (Kp:World->World->Prop) (I:List Nat->World->Prop) (Id:List PanicEntry->World->Prop) (xs:List Nat) (W:World):Exit->Act->World->Prop
 | .normal,_,W'=>KeepsLp B W W'/\Kp W W'/\I xs W'
 | .panic ch,a,W'=>a.defers = []/\KeepsLp B W W'/\Id ch W'
 | _,_,_=>False
theorem wpF_range {f:FuncId} {fn:Func} {n:Nat} {P:Program} {g:Operand} {ps:Array Tmp} {assign body:Code} {Q:Exit->Act->World->Prop} {a:Act} {w:World} (hf:P.funcs[f]?=some fn)
 {gf:Nat} {lb:Array Value} (hg:a.eval g = .func (.func gf) #[] lb) (eg : ∀ args w,(callFunc gf args).run P w = .ok (.enter gf args) w)
 {encs:Nat->Array Value} {Kp:World->World->Prop} {S ok:List Nat->Prop} {w0:World} (hseq:SeqTwo n P gf lb encs Kp S ok w0)
 (hKt : ∀ {A B C:World},Kp A B->Kp B C->Kp A C) (hKb : ∀ (W:World) (l:Nat) (o o':Obj),w.heap.size<=l->W.heap[l]?=some o->o.isCells=false->o.isWalk=false->Kp W (W.putObj l o')) (hb0:Below w0.heap.size w0 w) (hps : ∀ x,(encs x).size=ps.size)
 (I:List Nat->World->Prop) (Id:List PanicEntry->World->Prop) (hI:OwnLp w.heap.size I) (h0:I [] w) (a₁ : Nat->Act)
 (hassign : ∀ (l:Nat) (x:Nat) (W:World) (K:Act->World->Prop),K (a₁ x) W->assign.wpIn (Fence.wide.inRound l) (n - 1) P (Exit.then K (fun _ _ _=>False)) { tmps:=(ps.zip (encs x)).foldl (fun t (p,v)=>t.setIfInBounds p v) a.tmps,defers := [] } W)
 (hbody : ∀ (l:Nat) (pre:List Nat) (x:Nat) (W:World),I pre W->ok pre->body.wpIn (Fence.wide.inRound l) (n - 1) P (twoPost w.heap.size Kp I Id (pre ++ [x]) W) (a₁ x) W)
 (hdone : ∀ (D:Nat) (xs:List Nat) (W:World),w.heap.size<=D->S xs->I xs W->W.heap[D]?=some (.deferred (some []))->Q .normal { a with defers := { target := .collected D,args := #[] } :: a.defers } W)
 (hfell : ∀ (D:Nat) (ch:List PanicEntry) (W:World),w.heap.size<=D->Id ch W->W.heap[D]?=some (.deferred (some []))->Q (.panic ch) { a with defers := { target := .collected D,args := #[] } :: a.defers } W) :
 wpF f P (.rangeFunc g ps assign body) Q a w:=fun b k cs hro hb=>by
 obtain⟨rec,hrec⟩ : ∃ rec:LoopState->Option Code->Loop,rec=fun st pe => { state:=st,pending:=pe,fn:=f,tmps:=a.tmps,params:=ps,assign:=assign,body:=body,defers:=w.heap.size } := ⟨_,rfl⟩
 obtain⟨W1,hW1⟩ : ∃ W1,(w.alloc (.deferred (some []))).alloc (.loop (rec .ready none))=W1:=⟨_,rfl⟩
 have hD1:W1.heap[w.heap.size]?=some (.deferred (some [])):=by
  rw[<- hW1];exact (Below.heap_alloc _ _ _ (by simp)).trans (World.alloc_heap_new w _)
 have hL1:W1.heap[w.heap.size+1]?=some (.loop (rec .ready none)):=by
  rw[<- hW1]
  have:=World.alloc_heap_new (w.alloc (.deferred (some []))) (.loop (rec .ready none))
  rwa [World.size_alloc] at this
 have hI1:I [] W1:=by rw[<- hW1];exact hI.alloc _ (hI.alloc _ h0)
 have hB1:Below w0.heap.size w0 W1:=by
  rw[<- hW1];exact (hb0.alloc hb0.size _).alloc (by simp;have:=hb0.size;omega) _
 have he:(Instr.enterLoop b.fn a.tmps ps assign body b.roundOf).run P w = .ok (w.heap.size+1, [{ target := .collected w.heap.size,args := #[] }]) W1:=by
  rw[hro,hb, <- hW1,hrec];exact run_enterLoop_outer _ _ _ _ _
 have hres:(resolve a.eval (rangeCall g (w.heap.size+1)) 0).run P W1 = .ok { target := .fn (.func gf) lb,args := #[.func (.yield (w.heap.size+1)) #[] #[]] } W1:=by
  simp only[resolve,hg]
  simp[go_sem]
 have hinv:(invoke (.fn (.func gf) lb) #[.func (.yield (w.heap.size+1)) #[] #[]]).run P W1 = .ok (.enter gf (#[.func (.yield (w.heap.size+1)) #[] #[]]++lb)) W1:=by
  simp[invoke,go_sem,eg]
 have henter:=stepR_rangeFunc (P:=P) (b:=b) (a:=a) (k:=k) (cs:=cs) (w:=w) he hres hinv
 have hdr : ∀ (pre:List Nat) (A:World),I pre A->I pre A.drew:=fun pre A hA=>hI pre A _ none hA ⟨rfl,rfl,rfl,Nat.le_refl _,fun _ _ _=>rfl⟩ (fun r e=>by cases e)
 have hcall:=hseq (w.heap.size+1)
  (fun pre W=>I pre W/\W.heap[w.heap.size+1]?=some (.loop (rec .ready none))/\W.heap[w.heap.size]?=some (.deferred (some [])))
  (fun ch W=>Id ch W/\W.heap[w.heap.size]?=some (.deferred (some []))) W1 hB1 (fun pre A hA=>⟨hdr pre A hA.1,hA.2⟩) (by
   rintro pre x W ⟨hi,hl,hd⟩ hok
   have hlt:w.heap.size+1<W.heap.size:=(Array.getElem?_eq_some_iff.1 hl).1
   have hy:=run_yield (P:=P) (args:=encs x) hl (by rw[hrec];exact hps x)
   rw[hrec] at hy
   refine⟨f,_,assign,body,hy,roundIn_two hf (hassign _ x W _ ⟨_,run_beginRound hl (by rw[hrec]),?_⟩)⟩
   obtain⟨W2,hW2⟩ : ∃ W2,W.putObj (w.heap.size+1) (.loop { rec .ready none with state := .busy })=W2:=⟨_,rfl⟩
   have hl2:W2.heap[w.heap.size+1]?=some (.loop { rec .ready none with state := .busy }):=by rw[<- hW2];exact World.putObj_heap_same hlt
   have hd2:W2.heap[w.heap.size]?=some (.deferred (some [])):=by rw[<- hW2];exact (World.putObj_heap_other (by omega)).trans hd
   have hk2:Kp W W2:=by rw[<- hW2];exact hKb _ _ _ _ (by omega) hl rfl rfl
   have hi2:I pre W2:=by rw[<- hW2];exact hI.putObj _ hi (by omega) hl rfl rfl
   rw[hW2]
   refine wpIn_mono (hbody _ pre x W2 hi2 hok) ?_
   rintro e a3 W3 hp
   cases e with
   | normal =>
    obtain⟨hk3,hkp3,hi3⟩:=hp
    have hl3:=hk3.same _ _ (by omega) hl2 rfl rfl
    have hd3:=hk3.same _ _ (Nat.le_refl _) hd2 rfl rfl
    have hlt3:=(Array.getElem?_eq_some_iff.1 hl3).1
    have hr:=run_endRound (P:=P) none hl3
    refine⟨_,_,hr,Or.inl ⟨rfl,⟨hI.putObj _ hi3 (by omega) hl3 rfl rfl,?_,(World.putObj_heap_other (by omega)).trans hd3⟩,hKt (hKt hk2 hkp3) (hKb _ _ _ _ (by omega) hl3 rfl rfl)⟩⟩
    rw[World.putObj_heap_same hlt3,hrec];rfl
   | panic ch =>
    obtain⟨ha,hk3,hi3⟩:=hp
    exact⟨ha,Or.inr ⟨ch,rfl,hi3,hk3.same _ _ (Nat.le_refl _) hd2 rfl rfl⟩⟩
   | ret=>exact hp.elim
   | exit id=>exact hp.elim
   | goto t=>exact hp.elim
   | outgrown=>exact hp.elim) ⟨hI1,hL1,hD1⟩
 obtain⟨e,w₃,fr,hR,hsteps,hfn,hleave⟩:=hcall.2 (b.atR { a with defers := [{ target := .collected w.heap.size,args := #[] }]++a.defers } (.inRangeFunc (w.heap.size+1)::k)::cs) (room_wide _)
 have one:StepsIn (Machine.fenced P Fence.wide) P (lone (b.atR a (.code (.rangeFunc g ps assign body)::k)) cs w) _ := .one (fenced_wide P _) henter
 rcases hR with⟨⟨v,rfl⟩,xs,hS,hi,hl,hd⟩ | ⟨ch,rfl,hi,hd⟩
 ·have hend0:=run_endLoop (P:=P) hl (by rw[hrec];simp)
  obtain⟨W4,hW4⟩ : ∃ W4,W4=w₃.putObj (w.heap.size+1) (.loop { rec .ready none with state := .exhausted }):=⟨_,rfl⟩
  have hend:(Instr.endLoop (w.heap.size+1)).run P w₃ = .ok none W4:=by rw[hend0,hW4,hrec]
  have hi4:I xs W4:=by rw[hW4];exact hI.putObj _ hi (by omega) hl rfl rfl
  have hd4:W4.heap[w.heap.size]?=some (.deferred (some [])):=by rw[hW4];exact (World.putObj_heap_other (by omega)).trans hd
  refine⟨.normal, { a with defers := { target := .collected w.heap.size,args := #[] } :: a.defers },W4,hdone _ xs _ (Nat.le_refl _) hS hi4 hd4,?_⟩
  refine StepsIn.trans one (StepsIn.trans hsteps (.head (fenced_wide P _) ?_ (.one (fenced_wide P _) (stepR_endRangeFunc hend))))
  rw[<- finish_atR_inRangeFunc (w.heap.size+1) v];exact step_leave_returned hleave
 ·refine⟨.panic ch, { a with defers := { target := .collected w.heap.size,args := #[] } :: a.defers },w₃,hfell _ ch _ (Nat.le_refl _) hi hd,.inRangeFunc (w.heap.size+1)::k,?_⟩
  refine StepsIn.trans one (StepsIn.trans hsteps (.one (fenced_wide P _) ?_))
  rw[<- Frame.raise_atR];exact step_leave_panicked hleave
end Go.Proofs.YtmbcegljmhcdeaaGreat
