/- The reference's Drop, plain. -/
import Derived.Test.YtbkegikdmmnkaaaGreatRpp
namespace Go.Proofs.YtbkegikdmmnkaaaGreat
set_option maxRecDepth 5000
open Go.RowKit
theorem set_off {w:World} {g:Nat} {et:TypeId} {cur:Array Value} (hr:RowAt w g et cur) (q:Nat) (v:Value) (i:Nat) (hi:i≠q):(w.setCell ⟨g,q,none⟩ v).cell? ⟨g,i,none⟩=w.cell? ⟨g,i,none⟩:=by
 rw[(hr.set q v).cell,hr.cell,Array.getElem?_setIfInBounds_ne (Ne.symm hi)]
theorem slL_cell {w:World} {g q:Nat} {cur:Array Value} {u:Int} (hr:RowAt w g 39 cur) (hc:w.cell? ⟨g,q,none⟩=some (.int .u32 u)) (v:Value) {ao:Option Addr} {l:List UInt8} (hs:SlL w ao l):SlL (w.setCell ⟨g,q,none⟩ v) ao l:=fun hn=>by
 obtain⟨b1,o,e,hlt,h⟩:=hs hn
 refine⟨b1,o,e,by rw[World.size_setCell];exact hlt,fun i hi=>?_⟩
 by_cases hb:b1=g
 ·subst hb
  by_cases hq:o+i=q
  ·have:=h i hi
   rw[hq,hc] at this;cases this
  ·rw[set_off hr q v _ hq];exact h i hi
 ·rw[<- h i hi];exact World.cell?_of_block (heap_setCell_other _ _ _ _ hb)
theorem slS_cell {w:World} {g q:Nat} {cur:Array Value} {u:Int} (hr:RowAt w g 39 cur) (hc:w.cell? ⟨g,q,none⟩=some (.int .u32 u)) (v:Value) {ao:Option Addr} {l:List (List UInt8)} (hs:SlS w ao l):SlS (w.setCell ⟨g,q,none⟩ v) ao l:=fun hn=>by
 obtain⟨b1,o,e,hlt,h⟩:=hs hn
 refine⟨b1,o,e,by rw[World.size_setCell];exact hlt,fun i hi=>?_⟩
 by_cases hb:b1=g
 ·subst hb
  by_cases hq:o+i=q
  ·have:=h i hi
   rw[hq,hc] at this;cases this
  ·rw[set_off hr q v _ hq];exact h i hi
 ·rw[<- h i hi];exact World.cell?_of_block (heap_setCell_other _ _ _ _ hb)
theorem RM.rc {base m:Nat} {w:World} {g q:Nat} {cur:Array Value} {u:Int} (hr:RowAt w g 39 cur) (hg:base<=g) (hc:w.cell? ⟨g,q,none⟩=some (.int .u32 u)) (v:Value):RM base m w (w.setCell ⟨g,q,none⟩ v) :=
 ⟨rfl,rfl,rfl,by simp,fun i _ _ h2=>heap_setCell_other _ _ _ _ (fun e=>by
  subst e
  rcases h2 with h2 | h2
  ·omega
  ·exact h2 _ _ hr),fun _ _ hs=>slL_cell hr hc v hs,fun _ _ hs=>slS_cell hr hc v hs⟩
theorem RL.row {w:World} {base c g:Nat} {L:List Z.R} (h:RL w base (some ⟨g,0,none⟩) c L) (hn:0<L.length) : ∃ cur,RowAt w g 39 cur/\base<=g:=by
 obtain⟨g',cur,e,h1,h2,_⟩:=h.2.2 hn
 injection e with e;injection e with e _ _;subst e
 exact⟨cur,h2,h1⟩
theorem RL.ttl {w:World} {base c g:Nat} {L:List Z.R} (h:RL w base (some ⟨g,0,none⟩) c L) {i:Nat} {x:Z.R} (hx:L[i]?=some x) (v:Nat):RL (w.setCell ⟨g,i*5+3,none⟩ (.int .u32 (v:Int))) base (some ⟨g,0,none⟩) c (L.set i { x with ttl:=v }):=by
 have hi:i<L.length:=(List.getElem?_eq_some_iff.1 hx).1
 obtain⟨g',cur,e,h1,h2,h3⟩:=h.2.2 (by omega)
 injection e with e;injection e with e _ _;subst e
 have hr:RowAt w g 39 cur:=h2
 have hk:KB w (w.setCell ⟨g,i*5+3,none⟩ (.int .u32 (v:Int))):=KB.setCell hr (by decide) _ _
 refine⟨by rw[List.length_set];exact h.1,(fun h=>by cases h),fun _=>⟨g,_,rfl,h1,hr.set (i*5+3) (.int .u32 (v:Int)),fun j y hy=>?_⟩⟩
 by_cases e:j=i
 ·subst e
  rw[List.getElem?_set_self hi] at hy;injection hy with hy;subst hy
  obtain⟨us,k1,k2,⟨na,nc,da,dc,rfl,k3,k5,k6,k7,k8,k9⟩,k4⟩:=h3 j x hx
  refine⟨[.slice na x.p.length nc,.int .u16 (x.t:Int),.int .u16 1,.int .u32 (v:Int),.slice da x.d.length dc],rfl,by simp[Value.oneCell'],⟨na,nc,da,dc,rfl,k3.kb hk,k5,k6,k7.kb hk,k8,k9⟩,fun t ht=>?_⟩
  have h4:=k4 t ht
  by_cases et:t=3
  ·subst et
   rw[hr.cell] at h4
   have hlt:j*5+3<cur.size:=by
    have:cur[j*5+3]?=some (.int .u32 (x.ttl:Int)):=h4
    exact (Array.getElem?_eq_some_iff.1 this).1
   rw[(hr.set (j*5+3) (.int .u32 (v:Int))).cell,Array.getElem?_setIfInBounds_self_of_lt hlt]
   rfl
  ·rw[set_off hr _ _ _ (by omega),h4]
   match t,ht,et with
   | 0,_,_=>rfl
   | 1,_,_=>rfl
   | 2,_,_=>rfl
   | 4,_,_=>rfl
 ·rw[List.getElem?_set_ne (Ne.symm e)] at hy
  obtain⟨us,k1,k2,k3,k4⟩:=h3 j y hy
  refine⟨us,k1,k2,k3.kb hk,fun t ht=>?_⟩
  rw[set_off hr _ _ _ (by omega)]
  exact k4 t ht
theorem run_append_clone {w:World} (ty:TypeId) (ao:Option Addr) (m c:Nat) (l:List UInt8) (hl:l.length=m) (hs:SlL w ao l) (hn:ao=none->c=0) (hmc:m<=c) (hm:m<=1000000) :
 ∃ v' w',(Builtin.append_ #[37,37] ty #[.slice none 0 0,.slice ao m c]).run Tryz.prog w = .ok v' w'/\OwnB w' w.heap.size v' l/\Below w.heap.size w w':=by
 cases ao with
 | none =>
  have hc:=hn rfl
  obtain rfl:m=0:=by omega
  have e:l = []:=List.eq_nil_of_length_eq_zero hl
  subst e
  obtain⟨i0,hi,hz0,hz1,hz2⟩:=info_parts infoB
  refine⟨.slice none 0 0,w,?_,OwnB.nil _ _,Below.refl _ _⟩
  simp[Builtin.append_,run_underlying Tryz.underlying37,sizeOf,typeInfo,hi,Builtin.lenOf,Builtin.firstCells]
 | some ad =>
  obtain⟨v',w',h1,h2,h3⟩:=run_append_B ty (OwnB.nil w w.heap.size) ad m c l hl hs (by simp;omega) (Nat.le_refl _)
  have h0:w.ownsRow w.heap.size 5 1 (.slice none 0 0) ([]:List UInt8).length (vb []):=OwnB.nil w w.heap.size
  exact⟨v',w',h1,by simpa using h2,owns_below h0 h3 (Nat.le_refl _)⟩
theorem step_append_clone {ops:Array Oper} {o:Oper} {a:Act} {w:World} {K:Act->World->Prop} {Q:Exit->Act->World->Prop} {F:Prop} (hgd:o.guard=none) (s x:Operand)
 (ho:o.op = .call { callee := .builtin .append,args := #[s,x],argTypes := #[37,37] }) (ao:Option Addr) (m c:Nat) (l:List UInt8) (hs:a.eval s = .slice none 0 0) (hx:a.eval x = .slice ao m c) (hl:l.length=m) (hsl:SlL w ao l) (hn:ao=none->c=0) (hmc:m<=c) (hm:m<=1000000)
 (h : ∀ v' w',OwnB w' w.heap.size v' l->Below w.heap.size w w'->K (a.put o.dst v') w'):if Region.wanted o (yielded ops a.tmps)=true then Oper.wp Tryz.prog o a w K Q else F:=by
 have hw:Region.wanted o (yielded ops a.tmps)=true:=by simp[Region.wanted,hgd]
 rw[if_pos hw]
 obtain⟨v',w',hr,k2,k3⟩:=run_append_clone o.type ao m c l hl hsl hn hmc hm
 unfold Oper.wp execOp
 simp only[ho,resolve,invoke,builtin,Sem.run_bind,Sem.run_pure,Result.andThen_ok,List.map_toArray,List.map_cons,List.map_nil,hs,hx,hr]
 exact h v' w' k2 k3
theorem run_append_one {w:World} (ty:TypeId) {g0:Nat} {r:Z.R} {us:List Value} {a:Option Addr} {m c:Nat} {L:List Z.R} {vss:List (List Value)} (h1:SegR w (some ⟨g0,0,none⟩) [r] [us]) (h2:SegR w a L vss) (hm:L.length=m) (hbd:m<=100000) :
 ∃ a' c' w' vss',(Builtin.append_ #[31,31] ty #[.slice (some ⟨g0,0,none⟩) 1 1,.slice a m c]).run Tryz.prog w = .ok (.slice a' (m+1) c') w'/\SegR w' a' ([r]++L) vss'/\Below w.heap.size w w':=by
 by_cases h0:m=0
 ·subst h0
  have e:L = []:=List.eq_nil_of_length_eq_zero hm
  subst e
  exact⟨some ⟨g0,0,none⟩,1,w, [us],run_append_same _ _ _ _ _ _,h1,Below.refl _ _⟩
 ·obtain⟨v',w',hr,hO,hb⟩:=run_append_newR (L1 := [r]) (L2:=L) ty 1 1 m c h1 rfl (fun h=>by cases h) h2 hm (by omega) (by omega) (by omega)
  obtain⟨a',c',rfl,_,_⟩:=hO.slice
  have e:([r]++L).length=m+1:=by rw[List.length_append,hm];simp;omega
  obtain⟨vss',hv⟩:=(RL.of_own hO).seg
  exact⟨a',c',w',vss',by rw[hr,e],hv,hb⟩
theorem step_append_one {ops:Array Oper} {o:Oper} {a:Act} {w:World} {K:Act->World->Prop} {Q:Exit->Act->World->Prop} {F:Prop} (hgd:o.guard=none) (s x:Operand)
 (ho:o.op = .call { callee := .builtin .append,args := #[s,x],argTypes := #[31,31] }) {g0:Nat} {r:Z.R} {us:List Value} {a2:Option Addr} {m c:Nat} {L:List Z.R} {vss:List (List Value)} (hs:a.eval s = .slice (some ⟨g0,0,none⟩) 1 1) (hx:a.eval x = .slice a2 m c) (h1:SegR w (some ⟨g0,0,none⟩) [r] [us]) (h2:SegR w a2 L vss) (hm:L.length=m) (hbd:m<=100000)
 (h : ∀ a' c' w' vss',SegR w' a' ([r]++L) vss'->Below w.heap.size w w'->K (a.put o.dst (.slice a' (m+1) c')) w'):if Region.wanted o (yielded ops a.tmps)=true then Oper.wp Tryz.prog o a w K Q else F:=by
 have hw:Region.wanted o (yielded ops a.tmps)=true:=by simp[Region.wanted,hgd]
 rw[if_pos hw]
 obtain⟨a',c',w',vss',hr,k2,k3⟩:=run_append_one (c:=c) o.type h1 h2 hm hbd
 unfold Oper.wp execOp
 simp only[ho,resolve,invoke,builtin,Sem.run_bind,Sem.run_pure,Result.andThen_ok,List.map_toArray,List.map_cons,List.map_nil,hs,hx,hr]
 exact h a' c' w' vss' k2 k3
open Go.RowKit
theorem rslice_any (a:Option Addr) (L C A:Nat) (hAC:A<=C) (hn:a=none->C=0) (w:World):(Instr.sliceAt 31 (.slice a L C) none (some (.int .i64 (A:Int))) (some (.int .i64 (A:Int)))).run Tryz.prog w = .ok (.slice a A A) w:=by
 have h1:(A:Int)<=(C:Int):=by omega
 rw[run_sliceAt_slice w 31 _ _ _ _ Tryz.underlying31]
 obtain⟨i0,hi,hz0,hz1,hz2⟩:=info_parts infoRc
 cases a with
 | none =>
  have h2:=hn rfl
  subst h2
  obtain rfl:A=0:=by omega
  simp[Instr.slice,run_underlying Tryz.underlying31,Instr.sliceBounds,run_sliceBound,sizeOf,typeInfo,hi]
 | some ad=>simp[Instr.slice,run_underlying Tryz.underlying31,Instr.sliceBounds,run_sliceBound,h1,Addr.add,sizeOf,typeInfo,hi]
theorem rslice_rest (a:Option Addr) (L C A:Nat) (hAL:A<=L) (hLC:L<=C) (hn:a=none->C=0) : ∃ a',(∀ w,(Instr.sliceAt 31 (.slice a L C) (some (.int .i64 (A:Int))) none none).run Tryz.prog w = .ok (.slice a' (L - A) (C - A)) w)/\(∀ g,a=some ⟨g,0,none⟩->A<L->a'=some ⟨g,A*5,none⟩):=by
 have h1:(A:Int)<=(L:Int):=by omega
 obtain⟨i0,hi,hz0,hz1,hz2⟩:=info_parts infoRc
 cases a with
 | none =>
  have h3:=hn rfl
  subst h3
  obtain rfl:L=0:=by omega
  obtain rfl:A=0:=by omega
  refine⟨none,fun w=>?_,fun g h=>by cases h⟩
  rw[run_sliceAt_slice w 31 _ _ _ _ Tryz.underlying31]
  simp[Instr.slice,run_underlying Tryz.underlying31,Instr.sliceBounds,run_sliceBound,sizeOf,typeInfo,hi]
 | some ad =>
  by_cases hCA:C=A
  ·refine⟨some ad,fun w=>?_,fun g _ h=>by omega⟩
   rw[run_sliceAt_slice w 31 _ _ _ _ Tryz.underlying31]
   subst hCA
   obtain rfl:L=C:=by omega
   simp[Instr.slice,run_underlying Tryz.underlying31,Instr.sliceBounds,run_sliceBound,Addr.add,sizeOf,typeInfo,hi]
  ·refine⟨some (ad.add (A*5)),fun w=>?_,fun g e _=>by injection e with e;subst e;rw[Addr.add_mid,Nat.zero_add]⟩
   rw[run_sliceAt_slice w 31 _ _ _ _ Tryz.underlying31]
   simp[Instr.slice,run_underlying Tryz.underlying31,Instr.sliceBounds,run_sliceBound,h1,sizeOf,typeInfo,hi,hz1,hCA]
theorem RL.segdrop {w:World} {base c:Nat} {a a':Option Addr} {L:List Z.R} (h:RL w base a c L) (j:Nat) (ha : ∀ g,a=some ⟨g,0,none⟩->j<L.length->a'=some ⟨g,j*5,none⟩) : ∃ vss,SegR w a' (L.drop j) vss:=by
 by_cases hj:j<L.length
 ·obtain⟨g,cur,e,_⟩:=h.2.2 (by omega)
  subst e
  obtain⟨vss,hv⟩:=h.seg
  exact⟨_,hv.drop j (fun _=>by rw[ha g rfl hj,Nat.zero_add])⟩
 ·rw[List.drop_of_length_le (by omega)]
  exact⟨[],SegR.nil _ _⟩
theorem set_same {α : Type} {l:List α} {j:Nat} {x : α} (h:l[j]?=some x):l.set j x=l:=by
 obtain⟨hj,e⟩:=List.getElem?_eq_some_iff.1 h
 subst e
 exact List.set_getElem_self hj
open Go.RowKit
namespace Z
theorem drop_at {L:List R} (hr:L.Pairwise rlt) {j:Nat} {x:R} (hx:L[j]?=some x) {p:List (List UInt8)} {t:Nat} {c:List UInt8} (hp:x.p=p) (ht:x.t=t) (hc:x.c=c):drop L p t c=L.take j++L.drop (j+1):=by
 obtain⟨hj,ex⟩:=List.getElem?_eq_some_iff.1 hx
 have e:L=L.take j++(x::L.drop (j+1)):=by
  rw[<- ex, <- List.drop_eq_getElem_cons hj,List.take_append_drop]
 have hk:isK p t c x=true:=isK_iff.2 ⟨hp,ht,hc⟩
 have hrr:=hr
 rw[e,List.pairwise_append] at hrr
 obtain⟨h1,h2,h3⟩:=hrr
 have hxL:x∈L:=List.mem_of_getElem? hx
 have k1 : ∀ y∈L.take j,isK p t c y=false:=fun y hy=>by
  cases h:isK p t c y with
  | false=>rfl
  | true =>
   obtain⟨a1,a2,a3⟩:=isK_iff.1 h
   have:=rise_eq hr (List.mem_of_mem_take hy) hxL (a1.trans hp.symm) (a2.trans ht.symm) (a3.trans hc.symm)
   exact absurd (this ▸ h3 y hy x (List.mem_cons_self ..)) (rlt_irr _)
 have k2 : ∀ y∈L.drop (j+1),isK p t c y=false:=fun y hy=>by
  cases h:isK p t c y with
  | false=>rfl
  | true =>
   obtain⟨a1,a2,a3⟩:=isK_iff.1 h
   have:=rise_eq hr (List.mem_of_mem_drop hy) hxL (a1.trans hp.symm) (a2.trans ht.symm) (a3.trans hc.symm)
   exact absurd (this ▸ (List.pairwise_cons.1 h2).1 y hy) (rlt_irr _)
 unfold drop
 conv=>lhs;rw[e]
 rw[List.filter_append,List.filter_cons,hk]
 rw[List.filter_eq_self.2 (fun y hy=>by rw[k1 y hy];rfl),List.filter_eq_self.2 (fun y hy=>by rw[k2 y hy];rfl)]
 simp
def hit (n:List (List UInt8)) (t:Nat) (d:List UInt8) (x:R):Prop:=x.t=t/\x.p=path n/\canS t x.d=canS t d
theorem canS_of {t:Nat} {d c:List UInt8} (h:cn t d=some c):canS t d=c:=by unfold canS;rw[h];rfl
theorem dropR_hit {L:List R} (hr:L.Pairwise rlt) {j:Nat} {x:R} (hx:L[j]?=some x) (hk:cn x.t x.d=some x.c) {n:List (List UInt8)} {t:Nat} {d:List UInt8} (h:hit n t d x):dropR L n t d=(true,L.take j++L.drop (j+1)):=by
 obtain⟨h1,h2,h3⟩:=h
 rw[h1] at hk
 rw[canS_of hk] at h3
 unfold dropR
 cases hc:cn t d with
 | none =>
  exfalso
  have e:canS t d=d:=by unfold canS;rw[hc];rfl
  rw[e] at h3
  have:=(cn_len hk).2.2
  rw[h3,hc] at this;cases this
 | some c =>
  rw[canS_of hc] at h3
  have hth:there L ⟨path n,t,c,0,d⟩=true:=there_iff.2 ⟨x,List.mem_of_getElem? hx,h2,h1,h3⟩
  show (if _ then _ else _)=_
  rw[if_pos hth,drop_at hr hx h2 h1 h3]
theorem dropR_miss {L:List R} (hk : ∀ x∈L,cn x.t x.d=some x.c) {n:List (List UInt8)} {t:Nat} {d:List UInt8} (h : ∀ x∈L,¬ hit n t d x):dropR L n t d=(false,L):=by
 unfold dropR
 cases hc:cn t d with
 | none=>rfl
 | some c =>
  show (if _ then _ else _)=_
  rw[if_neg]
  intro hth
  obtain⟨x,hx,e1,e2,e3⟩:=there_iff.1 hth
  have e2:x.t=t:=e2
  have e3:x.c=c:=e3
  refine h x hx ⟨e2,e1,?_⟩
  have:=hk x hx
  rw[e2] at this
  rw[canS_of this,canS_of hc,e3]
end Z
end Go.Proofs.YtbkegikdmmnkaaaGreat
