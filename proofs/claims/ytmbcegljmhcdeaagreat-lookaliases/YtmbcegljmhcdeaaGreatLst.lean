/- Lists of names, of data, of records in memory: the call's own; what appends to them do. -/
import Derived.Test.YtmbcegljmhcdeaaGreatZrc
import Derived.RangeFuncNested
import Derived.RangeFuncBound
import Derived.RangeFuncCalls
import Derived.RangeFuncLeaves
import Derived.Shelf.Abstract
import Derived.Shelf.RegionOpen
import Derived.WalkKit
import Derived.OwnWalkIn
import Derived.TacticsInMore
import Derived.LoopNIn
import Derived.LoopIn
import Derived.Maps.AppendAt
import Derived.Maps.OwnIn
import Derived.Laws.AppendOwnNone
namespace Go.Proofs.YtmbcegljmhcdeaaGreat
set_option maxRecDepth 5000
open Go.RowKit
def fU (h:Nat->Option Value):Lit->Option Value
 | .int .u16 z=>if 0<=z/\z<65536 then h z.toNat else none
 | _=>none
def fS (h:List UInt8->Option Value):Lit->Option Value
 | .string s=>h s
 | _=>none
def uput (h:Nat->Option Value) (t:Nat) (v:Value):Nat->Option Value:=fun s=>if s=t then some v else h s
def sput (h:List UInt8->Option Value) (t:List UInt8) (v:Value):List UInt8->Option Value:=fun s=>if s=t then some v else h s
theorem fU_at (h:Nat->Option Value) (t:Nat) (ht:t<65536):fU h (.int .u16 (t:Int))=h t:=by
 show (if 0<=(t:Int)/\(t:Int)<65536 then h (t:Int).toNat else none)=_
 rw[if_pos (by omega)];rfl
theorem fU_some {h:Nat->Option Value} {k:Lit} (hk:(fU h k).isSome) : ∃ t:Nat,t<65536/\k = .int .u16 (t:Int):=by
 unfold fU at hk
 split at hk
 ·rename_i z
  split at hk
  ·rename_i hz;exact⟨z.toNat,by omega,by rw[Int.toNat_of_nonneg hz.1]⟩
  ·cases hk
 ·cases hk
theorem fS_some {h:List UInt8->Option Value} {k:Lit} (hk:(fS h k).isSome) : ∃ s,k = .string s:=by
 unfold fS at hk
 split at hk
 ·exact⟨_,rfl⟩
 ·cases hk
theorem ext_some {f g:Lit->Option Value} (h : ∀ k,(f k).isSome\/(g k).isSome->f k=g k) (k:Lit):f k=g k:=by
 cases hf:f k with
 | some v=>rw[<- hf];exact h k (Or.inl (by rw[hf];rfl))
 | none=>cases hg:g k with
  | none=>rfl
  | some v=>rw[<- hf, <- hg];exact h k (Or.inr (by rw[hg];rfl))
theorem isU (t:Nat):WideAt.IsKeyLit (.int .u16 (t:Int)):=trivial
theorem isS (s:List UInt8):WideAt.IsKeyLit (.string s):=trivial
theorem fU_other (h:Nat->Option Value) (k:Lit) (hk : ∀ t:Nat,t<65536->k ≠ .int .u16 (t:Int)):fU h k=none:=by
 cases hh:fU h k with
 | none=>rfl
 | some v=>obtain⟨t,ht,e⟩:=fU_some (h:=h) (k:=k) (by rw[hh];rfl);exact absurd e (hk t ht)
theorem fput_U (h:Nat->Option Value) (t:Nat) (ht:t<65536) (v:Value) (k:Lit):fput (fU h) (.int .u16 (t:Int)) v k=fU (uput h t v) k:=by
 by_cases e:k = .int .u16 (t:Int)
 ·rw[e,fput_same _ (isU t),fU_at _ t ht];simp[uput]
 ·rw[fput_other _ e]
  by_cases hx : ∃ s:Nat,s<65536/\k = .int .u16 (s:Int)
  ·obtain⟨s,hs,rfl⟩:=hx
   rw[fU_at _ s hs,fU_at _ s hs]
   have:s≠t:=fun e2=>e (by rw[e2])
   simp[uput,this]
  ·rw[fU_other _ k (fun s hs e2=>hx ⟨s,hs,e2⟩),fU_other _ k (fun s hs e2=>hx ⟨s,hs,e2⟩)]
theorem fS_other (h:List UInt8->Option Value) (k:Lit) (hk : ∀ s,k ≠ .string s):fS h k=none:=by
 cases hh:fS h k with
 | none=>rfl
 | some v=>obtain⟨s,e⟩:=fS_some (h:=h) (k:=k) (by rw[hh];rfl);exact absurd e (hk s)
theorem fput_S (h:List UInt8->Option Value) (t:List UInt8) (v:Value) (k:Lit):fput (fS h) (.string t) v k=fS (sput h t v) k:=by
 by_cases e:k = .string t
 ·rw[e,fput_same _ (isS t)];simp[sput,fS]
 ·rw[fput_other _ e]
  by_cases hx : ∃ s,k = .string s
  ·obtain⟨s,rfl⟩:=hx
   have:s≠t:=fun e2=>e (by rw[e2])
   simp[sput,fS,this]
  ·rw[fS_other _ k (fun s e2=>hx ⟨s,e2⟩),fS_other _ k (fun s e2=>hx ⟨s,e2⟩)]
theorem fU_none (k:Lit):fU (fun _=>none) k=none:=by
 cases hh:fU (fun _=>none) k with
 | none=>rfl
 | some v =>
  obtain⟨t,ht,e⟩:=fU_some (h:=fun _=>none) (k:=k) (by rw[hh];rfl)
  rw[e,fU_at _ t ht] at hh;cases hh
theorem fS_none (k:Lit):fS (fun _=>none) k=none:=by
 cases hh:fS (fun _=>none) k with
 | none=>rfl
 | some v =>
  obtain⟨s,e⟩:=fS_some (h:=fun _=>none) (k:=k) (by rw[hh];rfl)
  rw[e] at hh;cases hh
def MapU (w:World) (b:Nat) (h:Nat->Option Value) (K:Nat):Prop:=MapAt 36 w b (fU h) K
def MapS (w:World) (b:Nat) (h:List UInt8->Option Value) (K:Nat):Prop:=MapAt 9 w b (fS h) K
theorem MapU.made (w:World) (K:Nat):MapU (w.alloc (.map #[] 0)) w.heap.size (fun _=>none) K:=((MapAt.made 36 w).congr fun k=>(fU_none k).symm).mono (Nat.zero_le _)
theorem MapS.made (w:World) (K:Nat):MapS (w.alloc (.map #[] 0)) w.heap.size (fun _=>none) K:=((MapAt.made 9 w).congr fun k=>(fS_none k).symm).mono (Nat.zero_le _)
theorem MapU.ext {w:World} {b K:Nat} {h h':Nat->Option Value} (m:MapU w b h K) (e : ∀ t,t<65536->h t=h' t):MapU w b h' K:=MapAt.congr m (ext_some fun k hk=>by
 have : ∃ t:Nat,t<65536/\k = .int .u16 (t:Int):=by rcases hk with hk | hk <;> exact fU_some hk
 obtain⟨t,ht,rfl⟩:=this
 rw[fU_at _ t ht,fU_at _ t ht,e t ht])
theorem MapS.ext {w:World} {b K:Nat} {h h':List UInt8->Option Value} (m:MapS w b h K) (e : ∀ s,h s=h' s):MapS w b h' K:=(funext e:h=h') ▸ m
inductive Role where
 | none:Role
 | node (p:List (List UInt8)):Role
 | sets (p:List (List UInt8)):Role
 | below (p:List (List UInt8)):Role
 | data (p:List (List UInt8)) (t:Nat):Role
structure Nd where
 n:Nat
 s:Nat
 b:Nat
 dm:Nat->Nat
def DIs (w:World):Option (List UInt8)->Option Value->Prop
 | none,none=>True
 | some d,some v => ∃ ao c,v = .slice ao d.length c/\SlL w ao d/\(ao=none->c=0)/\d.length<=c/\d.length<=8192
 | _,_=>False
def setV (S:Z.St) (m:Nat):Value := .agg #[.int .u32 (S.ttl:Int),.map (some m)]
def ptr (n:Nat):Value := .pointer (some ⟨n,0,none⟩)
structure NodeIs (w:World) (G:List (List UInt8)->Option Nd) (C:List (List UInt8)->Nat->Option Z.St) (K:Nat) (p:List (List UInt8)) (x:Nd):Prop where
 row:RowAt w x.n 107 #[.map (some x.s),.map (some x.b)]
 sets:MapU w x.s (fun t=>(C p t).map fun S=>setV S (x.dm t)) K
 below:MapS w x.b (fun l=>(G (p ++ [l])).map fun y=>ptr y.n) K
 data : ∀ t S,C p t=some S -> ∃ h,MapS w (x.dm t) h K /\ ∀ c,DIs w (S.g c) (h c)
def ZObj (w:World) (i:Nat):Prop:=(∃ es clock,w.heap[i]?=some (.map es clock)) \/ ∃ a b,w.heap[i]?=some (.cells #[.map a,.map b] 107 (0,0))
theorem ZObj.lt {w:World} {i:Nat} (h:ZObj w i):i<w.heap.size:=by
 rcases h with⟨es,c,h⟩ | ⟨a,b,h⟩ <;> exact (Array.getElem?_eq_some_iff.1 h).1
theorem ZObj.cell {w:World} {i j:Nat} (h:ZObj w i) {v:Value} (hv:w.cell? ⟨i,j,none⟩=some v) : ∃ m,v = .map m:=by
 rcases h with⟨es,c,h⟩ | ⟨a,b,h⟩
 ·simp[World.cell?,h] at hv
 ·rw[cell_of_row w i j _ _ _ h] at hv
  match j with
  | 0=>exact⟨a,by simpa using hv.symm⟩
  | 1=>exact⟨b,by simpa using hv.symm⟩
  | j+2=>simp at hv
theorem ZObj.heap {w w':World} {i:Nat} (h:ZObj w i) (e:w'.heap[i]?=w.heap[i]?):ZObj w' i:=by unfold ZObj at *; rw[e];exact h
structure TreeAt (w:World) (ρ : Nat->Role) (G:List (List UInt8)->Option Nd) (C:List (List UInt8)->Nat->Option Z.St) (K:Nat):Prop where
 root:(G []).isSome
 up : ∀ p l,(G (p ++ [l])).isSome->(G p).isSome
 node : ∀ p x,G p=some x->NodeIs w G C K p x
 cov : ∀ p t S,C p t=some S->(G p).isSome/\t<65536
 rn : ∀ p x,G p=some x -> ρ x.n = .node p
 rs : ∀ p x,G p=some x -> ρ x.s = .sets p
 rb : ∀ p x,G p=some x -> ρ x.b = .below p
 rd : ∀ p x t S,G p=some x->C p t=some S -> ρ (x.dm t) = .data p t
 kind : ∀ i, ρ i ≠ .none->ZObj w i
theorem TreeAt.pre {w:World} {ρ : Nat->Role} {G:List (List UInt8)->Option Nd} {C:List (List UInt8)->Nat->Option Z.St} {K:Nat} (T:TreeAt w ρ G C K) : ∀ (r p:List (List UInt8)),(G (p++r)).isSome->(G p).isSome
 | [],p,h=>by simpa using h
 | l::r,p,h=>T.up p l (TreeAt.pre T r (p ++ [l]) (by simpa using h))
theorem slL_keep {w w':World} (hsz:w.heap.size<=w'.heap.size) (hb : ∀ i,i<w.heap.size -> ¬ ZObj w i->w'.heap[i]?=w.heap[i]?) {ao:Option Addr} {l:List UInt8} (h:SlL w ao l):SlL w' ao l:=fun hn=>by
 obtain⟨b,o,e,hlt,hc⟩:=h hn
 have hz : ¬ ZObj w b:=fun hz=>by
  obtain⟨m,hm⟩:=hz.cell (hc 0 hn)
  cases hm
 refine⟨b,o,e,by omega,fun j hj=>?_⟩
 rw[<- hc j hj]
 exact World.cell?_of_block (hb b hlt hz)
theorem DIs.keep {w w':World} (hs : ∀ ao l,SlL w ao l->SlL w' ao l) : ∀ {d:Option (List UInt8)} {v:Option Value},DIs w d v->DIs w' d v
 | none,none,_=>trivial
 | some _,some _,⟨ao,c,h1,h2,h3⟩=>⟨ao,c,h1,hs _ _ h2,h3⟩
 | none,some _,h=>h.elim
 | some _,none,h=>h.elim
theorem NodeIs.keep {w w':World} {G G':List (List UInt8)->Option Nd} {C C':List (List UInt8)->Nat->Option Z.St} {K K':Nat} {p:List (List UInt8)} {x:Nd} (h:NodeIs w G C K p x) (hs : ∀ ao l,SlL w ao l->SlL w' ao l) (hK:K<=K')
 (hG : ∀ l,((G' (p ++ [l])).map fun y=>y.n)=((G (p ++ [l])).map fun y=>y.n)) (hC : ∀ t,C' p t=C p t) (h1:w'.heap[x.n]?=w.heap[x.n]?) (h2:w'.heap[x.s]?=w.heap[x.s]?) (h3:w'.heap[x.b]?=w.heap[x.b]?) (h4 : ∀ t S,C p t=some S->w'.heap[x.dm t]?=w.heap[x.dm t]?):NodeIs w' G' C' K' p x:=by
 refine⟨?_,?_,?_,fun t S hS=>?_⟩
 ·unfold RowAt;rw[h1];exact h.row
 ·refine MapU.ext ((h.sets.heap h2).mono hK) fun t _=>?_
  rw[hC t]
 ·refine MapS.ext ((h.below.heap h3).mono hK) fun l=>?_
  have:=hG l
  cases h5:G (p ++ [l]) with
  | none=>rw[h5] at this;cases h6:G' (p ++ [l]) with
   | none=>rfl
   | some y=>rw[h6] at this;cases this
  | some y=>rw[h5] at this;cases h6:G' (p ++ [l]) with
   | none=>rw[h6] at this;cases this
   | some y' =>
    rw[h6] at this
    have:y'.n=y.n:=by simpa using this
    simp[ptr,this]
 ·rw[hC t] at hS
  obtain⟨g,hm,hd⟩:=h.data t S hS
  exact⟨g,(hm.heap (h4 t S hS)).mono hK,fun c=>(hd c).keep hs⟩
theorem TreeAt.keep {w w':World} {ρ : Nat->Role} {G:List (List UInt8)->Option Nd} {C:List (List UInt8)->Nat->Option Z.St} {K:Nat} (T:TreeAt w ρ G C K) (hb : ∀ i, ρ i ≠ .none->w'.heap[i]?=w.heap[i]?) (hs : ∀ ao l,SlL w ao l->SlL w' ao l):TreeAt w' ρ G C K:=by
 have ne : ∀ {i r}, ρ i=r->r ≠ .none -> ρ i ≠ .none:=fun h h2=>by rw[h];exact h2
 refine⟨T.root,T.up,fun p x hx=>?_,T.cov,T.rn,T.rs,T.rb,T.rd,fun i hi=>(T.kind i hi).heap (hb i hi)⟩
 refine (T.node p x hx).keep hs (Nat.le_refl _) (fun _=>rfl) (fun _=>rfl) (hb _ (ne (T.rn p x hx) (by simp))) (hb _ (ne (T.rs p x hx) (by simp))) (hb _ (ne (T.rb p x hx) (by simp))) fun t S hS=>hb _ (ne (T.rd p x t S hx hS) (by simp))
theorem TreeAt.below_ {w w':World} {ρ : Nat->Role} {G:List (List UInt8)->Option Nd} {C:List (List UInt8)->Nat->Option Z.St} {K:Nat} (T:TreeAt w ρ G C K) (h:Below w.heap.size w w'):TreeAt w' ρ G C K :=
 T.keep (fun i hi=>h.block i (T.kind i hi).lt) fun _ _ hs=>hs.below h (Nat.le_refl _)
theorem TreeAt.mono {w:World} {ρ : Nat->Role} {G:List (List UInt8)->Option Nd} {C:List (List UInt8)->Nat->Option Z.St} {K K':Nat} (T:TreeAt w ρ G C K) (h:K<=K'):TreeAt w ρ G C K' :=
 ⟨T.root,T.up,fun p x hx=>(T.node p x hx).keep (fun _ _ h=>h) h (fun _=>rfl) (fun _=>rfl) rfl rfl rfl (fun _ _ _=>rfl),T.cov,T.rn,T.rs,T.rb,T.rd,T.kind⟩
structure ZMv (ρ : Nat->Role) (w w':World):Prop where
 os:w'.os=w.os
 tape:w'.tape=w.tape
 output:w'.output=w.output
 size:w.heap.size<=w'.heap.size
 block : ∀ i,i<w.heap.size -> ρ i = .none->w'.heap[i]?=w.heap[i]?
theorem ZMv.of_below {ρ : Nat->Role} {w w':World} (h:Below w.heap.size w w'):ZMv ρ w w':=⟨h.os,h.tape,h.output,h.size,fun i hi _=>h.block i hi⟩
theorem ZMv.slL {ρ : Nat->Role} {w w':World} (h:ZMv ρ w w') (hk : ∀ i, ρ i ≠ .none->ZObj w i) {ao:Option Addr} {l:List UInt8} (hs:SlL w ao l):SlL w' ao l:=slL_keep h.size (fun i hi hz=>h.block i hi (Classical.byContradiction fun h0=>hz (hk i h0))) hs
def More (w:World) (ρ ρ':Nat->Role):Prop := ∀ i,i<w.heap.size -> ρ' i = ρ i
theorem More.refl (w:World) (ρ : Nat->Role):More w ρ ρ := fun _ _=>rfl
theorem More.trans {w w':World} {ρ ρ' ρ'':Nat->Role} (h:More w ρ ρ') (h':More w' ρ' ρ'') (hs:w.heap.size<=w'.heap.size):More w ρ ρ'':=fun i hi=>(h' i (by omega)).trans (h i hi)
def gput (G:List (List UInt8)->Option Nd) (p:List (List UInt8)) (x:Option Nd):List (List UInt8)->Option Nd:=fun q=>if q=p then x else G q
theorem gput_same (G:List (List UInt8)->Option Nd) (p:List (List UInt8)) (x:Option Nd):gput G p x p=x:=if_pos rfl
theorem gput_other (G:List (List UInt8)->Option Nd) {p q:List (List UInt8)} (h:q≠p) (x:Option Nd):gput G p x q=G q:=if_neg h
theorem TreeAt.turn {w w':World} {ρ ρ':Nat->Role} {G:List (List UInt8)->Option Nd} {C C':List (List UInt8)->Nat->Option Z.St} {K K':Nat} (T:TreeAt w ρ G C K) {p:List (List UInt8)} {x x':Nd} (hx:G p=some x) (hn:x'.n=x.n) (hs:x'.s=x.s) (hb:x'.b=x.b)
 (hC : ∀ q t,q≠p->C' q t=C q t) (hK:K<=K') (hρ : More w ρ ρ') (hsz:w.heap.size<=w'.heap.size) (hblk : ∀ i,i<w.heap.size -> ρ i ≠ .sets p->(∀ t, ρ i ≠ .data p t)->w'.heap[i]?=w.heap[i]?)
 (hsets:MapU w' x.s (fun t=>(C' p t).map fun S=>setV S (x'.dm t)) K') (hdata : ∀ t S,C' p t=some S->t<65536 /\ ρ' (x'.dm t) = .data p t /\ ∃ h,MapS w' (x'.dm t) h K' /\ ∀ c,DIs w' (S.g c) (h c)) (hkind : ∀ i, ρ' i ≠ .none->ZObj w' i):TreeAt w' ρ' (gput G p (some x')) C' K':=by
 have hslL : ∀ ao l,SlL w ao l->SlL w' ao l:=fun ao l=>slL_keep hsz fun i hi hz=>by
  have h0 : ρ i = .none:=Classical.byContradiction fun h0=>hz (T.kind i h0)
  exact hblk i hi (by rw[h0];simp) (fun t=>by rw[h0];simp)
 have lt : ∀ {i r}, ρ i=r->r ≠ .none->i<w.heap.size:=fun h h2=>(T.kind _ (by rw[h];exact h2)).lt
 have same : ∀ {i r}, ρ i=r->r ≠ .none->r ≠ .sets p->(∀ t,r ≠ .data p t)->w'.heap[i]?=w.heap[i]?:=fun {i r} h h0 h1 h2=>hblk i (lt h h0) (by rw[h];exact h1) (fun t=>by rw[h];exact h2 t)
 have hgn : ∀ q,((gput G p (some x') q).map fun y=>y.n)=((G q).map fun y=>y.n):=fun q=>by
  by_cases e:q=p
  ·rw[e,gput_same,hx];simp[hn]
  ·rw[gput_other G e]
 have hgs : ∀ q,(gput G p (some x') q).isSome=(G q).isSome:=fun q=>by
  have:=congrArg Option.isSome (hgn q);simpa using this
 have hcov : ∀ q t S,C' q t=some S->(G q).isSome/\t<65536:=fun q t S hS=>by
  by_cases e:q=p
  ·rw[e] at hS ⊢; exact⟨by rw[hx];rfl,(hdata t S hS).1⟩
  ·rw[hC q t e] at hS;exact T.cov q t S hS
 have each : ∀ q y,gput G p (some x') q=some y -> ∃ y0,G q=some y0/\y.n=y0.n/\y.s=y0.s/\y.b=y0.b/\(q≠p->y=y0)/\(q=p->y=x'):=fun q y hy=>by
  by_cases e:q=p
  ·rw[e,gput_same] at hy;injection hy with hy;subst hy
   exact⟨x,by rw[e];exact hx,hn,hs,hb,fun h=>absurd e h,fun _=>rfl⟩
  ·rw[gput_other G e] at hy
   exact⟨y,hy,rfl,rfl,rfl,fun _=>rfl,fun h=>absurd h e⟩
 refine⟨by rw[hgs];exact T.root,fun q l h=>by rw[hgs] at *; exact T.up q l h,fun q y hy=>?_,fun q t S hS=>by rw[hgs];exact hcov q t S hS,fun q y hy=>?_,fun q y hy=>?_,fun q y hy=>?_,fun q y t S hy hS=>?_,hkind⟩
 ·obtain⟨y0,h0,e1,e2,e3,e4,e5⟩:=each q y hy
  by_cases e:q=p
  ·subst e
   rw[hx] at h0;injection h0 with h0;subst h0
   rw[e5 rfl]
   have N0:=T.node q x hx
   refine⟨?_,by rw[hs];exact hsets,?_,fun t S hS=>(hdata t S hS).2.2⟩
   ·rw[hn,hs,hb]
    unfold RowAt
    rw[same (T.rn q x hx) (by simp) (by simp) (by simp)]
    exact N0.row
   ·rw[hb]
    have h3:=(N0.below.heap (same (T.rb q x hx) (by simp) (by simp) (by simp))).mono hK
    refine MapS.ext h3 fun l=>?_
    have:=hgn (q ++ [l])
    cases h5:G (q ++ [l]) with
    | none=>rw[h5] at this;cases h6:gput G q (some x') (q ++ [l]) with
     | none=>rfl
     | some y=>rw[h6] at this;cases this
    | some y=>rw[h5] at this;cases h6:gput G q (some x') (q ++ [l]) with
     | none=>rw[h6] at this;cases this
     | some y' =>
      rw[h6] at this
      have:y'.n=y.n:=by simpa using this
      simp[ptr,this]
  ·rw[e4 e]
   rw[e4 e] at hy
   exact (T.node q y0 h0).keep hslL hK (fun l=>hgn (q ++ [l])) (fun t=>hC q t e) (same (T.rn q y0 h0) (by simp) (by simp) (by simp)) (same (T.rs q y0 h0) (by simp) (by simpa using e) (by simp)) (same (T.rb q y0 h0) (by simp) (by simp) (by simp)) fun t S hS=>same (T.rd q y0 t S h0 hS) (by simp) (by simp) (by intro s h;injection h with h1 _;exact e h1)
 ·obtain⟨y0,h0,e1,e2,e3,e4,e5⟩:=each q y hy
  rw[e1,hρ _ (lt (T.rn q y0 h0) (by simp))];exact T.rn q y0 h0
 ·obtain⟨y0,h0,e1,e2,e3,e4,e5⟩:=each q y hy
  rw[e2,hρ _ (lt (T.rs q y0 h0) (by simp))];exact T.rs q y0 h0
 ·obtain⟨y0,h0,e1,e2,e3,e4,e5⟩:=each q y hy
  rw[e3,hρ _ (lt (T.rb q y0 h0) (by simp))];exact T.rb q y0 h0
 ·obtain⟨y0,h0,e1,e2,e3,e4,e5⟩:=each q y hy
  by_cases e:q=p
  ·subst e;rw[e5 rfl];exact (hdata t S hS).2.1
  ·rw[e4 e]
   rw[hC q t e] at hS
   rw[hρ _ (lt (T.rd q y0 t S h0 hS) (by simp))];exact T.rd q y0 t S h0 hS
open Go.RowKit
theorem app_ne {p:List (List UInt8)} {l:List UInt8} : p≠p ++ [l]:=fun e=>by
 have:=congrArg List.length e;simp at this
theorem app_inj {p q:List (List UInt8)} {l m:List UInt8} : p ++ [l]=q ++ [m]↔p=q/\l=m:=by
 constructor
 ·intro e;obtain⟨h1,h2⟩:=List.append_inj' e rfl;exact⟨h1,by simpa using h2⟩
 ·rintro⟨rfl,rfl⟩;rfl
def role3 (ρ : Nat->Role) (q:List (List UInt8)) (y:Nd):Nat->Role:=fun i=>if i=y.n then .node q else if i=y.s then .sets q else if i=y.b then .below q else ρ i
theorem role3_more {w:World} {ρ : Nat->Role} {q:List (List UInt8)} {y:Nd} (h1:w.heap.size<=y.n) (h2:w.heap.size<=y.s) (h3:w.heap.size<=y.b):More w ρ (role3 ρ q y):=fun i hi=>by
 unfold role3;rw[if_neg (by omega),if_neg (by omega),if_neg (by omega)]
theorem TreeAt.child {w w':World} {ρ : Nat->Role} {G:List (List UInt8)->Option Nd} {C:List (List UInt8)->Nat->Option Z.St} {K K':Nat} (T:TreeAt w ρ G C K) {p:List (List UInt8)} {x y:Nd} {l:List UInt8} (hx:G p=some x) (hno:G (p ++ [l])=none) (hK:K<=K')
 (h1:w.heap.size<=y.n) (h2:w.heap.size<=y.s) (h3:w.heap.size<=y.b) (d1:y.n≠y.s) (d2:y.n≠y.b) (d3:y.s≠y.b) (hsz:w.heap.size<=w'.heap.size) (hblk : ∀ i,i<w.heap.size->i≠x.b->w'.heap[i]?=w.heap[i]?)
 (hbel:MapS w' x.b (sput (fun l=>(G (p ++ [l])).map fun y=>ptr y.n) l (ptr y.n)) K') (hrow:RowAt w' y.n 107 #[.map (some y.s),.map (some y.b)]) (hs0:MapU w' y.s (fun _=>none) K') (hb0:MapS w' y.b (fun _=>none) K') :
 TreeAt w' (role3 ρ (p ++ [l]) y) (gput G (p ++ [l]) (some y)) C K':=by
 have hρ := role3_more (ρ := ρ) (q:=p ++ [l]) h1 h2 h3
 have lt : ∀ {i r}, ρ i=r->r ≠ .none->i<w.heap.size:=fun h h2=>(T.kind _ (by rw[h];exact h2)).lt
 have hxb:=T.rb p x hx
 have hzb:ZObj w' x.b:=by obtain⟨es,c,h⟩:=hbel.obj;exact Or.inl ⟨es,c,h⟩
 have hblk2 : ∀ i,i<w.heap.size -> ρ i ≠ .below p->w'.heap[i]?=w.heap[i]?:=fun i hi h=>hblk i hi fun e=>h (by rw[e];exact hxb)
 have hslL : ∀ ao l,SlL w ao l->SlL w' ao l:=fun ao l=>slL_keep hsz fun i hi hz=>by
  have h0 : ρ i = .none:=Classical.byContradiction fun h0=>hz (T.kind i h0)
  exact hblk2 i hi (by rw[h0];simp)
 have same : ∀ {i r}, ρ i=r->r ≠ .none->r ≠ .below p->w'.heap[i]?=w.heap[i]?:=fun {i r} h h0 h1=>hblk2 i (lt h h0) (by rw[h];exact h1)
 have hC0 : ∀ t,C (p ++ [l]) t=none:=fun t=>by
  cases hc:C (p ++ [l]) t with
  | none=>rfl
  | some S=>have:=(T.cov _ t S hc).1;rw[hno] at this;cases this
 have hG0 : ∀ m,G (p ++ [l] ++ [m])=none:=fun m=>by
  cases hg:G (p ++ [l] ++ [m]) with
  | none=>rfl
  | some z=>have:=T.up (p ++ [l]) m (by rw[hg];rfl);rw[hno] at this;cases this
 have hgs : ∀ q,(G q).isSome->(gput G (p ++ [l]) (some y) q).isSome:=fun q h=>by
  by_cases e:q=p ++ [l]
  ·rw[e,gput_same];rfl
  ·rw[gput_other G e];exact h
 refine⟨hgs _ T.root,fun q m h=>?_,fun q z hz=>?_,fun q t S hS=>⟨hgs _ (T.cov q t S hS).1,(T.cov q t S hS).2⟩,fun q z hz=>?_,fun q z hz=>?_,fun q z hz=>?_,fun q z t S hz hS=>?_,fun i hi=>?_⟩
 ·by_cases e:q ++ [m]=p ++ [l]
  ·obtain⟨rfl,rfl⟩:=app_inj.1 e
   exact hgs _ (by rw[hx];rfl)
  ·rw[gput_other G e] at h
   exact hgs _ (T.up q m h)
 ·by_cases e:q=p ++ [l]
  ·subst e
   rw[gput_same] at hz;injection hz with hz;subst hz
   refine⟨hrow,MapU.ext hs0 fun t _=>by rw[hC0 t];rfl,MapS.ext hb0 fun m=>?_,fun t S hS=>by rw[hC0 t] at hS;cases hS⟩
   rw[gput_other G (fun e=>app_ne e.symm),hG0 m];rfl
  ·rw[gput_other G e] at hz
   by_cases e2:q=p
   ·subst e2
    rw[hx] at hz;injection hz with hz;subst hz
    have N0:=T.node q x hx
    refine⟨?_,?_,?_,fun t S hS=>?_⟩
    ·unfold RowAt;rw[same (T.rn q x hx) (by simp) (by simp)];exact N0.row
    ·exact (N0.sets.heap (same (T.rs q x hx) (by simp) (by simp))).mono hK
    ·refine MapS.ext hbel fun m=>?_
     by_cases em:m=l
     ·subst em;rw[gput_same];simp[sput]
     ·rw[gput_other G (fun e=>em (app_inj.1 e).2)];simp[sput,em]
    ·obtain⟨g,hm,hd⟩:=N0.data t S hS
     exact⟨g,(hm.heap (same (T.rd q x t S hx hS) (by simp) (by simp))).mono hK,fun c=>(hd c).keep hslL⟩
   ·refine (T.node q z hz).keep hslL hK (fun m=>?_) (fun _=>rfl) (same (T.rn q z hz) (by simp) (by simp)) (same (T.rs q z hz) (by simp) (by simp)) (same (T.rb q z hz) (by simp) (by simpa using e2)) fun t S hS=>same (T.rd q z t S hz hS) (by simp) (by simp)
    rw[gput_other G (fun e=>e2 (app_inj.1 e).1)]
 ·by_cases e:q=p ++ [l]
  ·subst e;rw[gput_same] at hz;injection hz with hz;subst hz
   unfold role3;rw[if_pos rfl]
  ·rw[gput_other G e] at hz
   rw[hρ _ (lt (T.rn q z hz) (by simp))];exact T.rn q z hz
 ·by_cases e:q=p ++ [l]
  ·subst e;rw[gput_same] at hz;injection hz with hz;subst hz
   unfold role3;rw[if_neg (fun e=>d1 e.symm),if_pos rfl]
  ·rw[gput_other G e] at hz
   rw[hρ _ (lt (T.rs q z hz) (by simp))];exact T.rs q z hz
 ·by_cases e:q=p ++ [l]
  ·subst e;rw[gput_same] at hz;injection hz with hz;subst hz
   unfold role3;rw[if_neg (fun e=>d2 e.symm),if_neg (fun e=>d3 e.symm),if_pos rfl]
  ·rw[gput_other G e] at hz
   rw[hρ _ (lt (T.rb q z hz) (by simp))];exact T.rb q z hz
 ·by_cases e:q=p ++ [l]
  ·subst e;rw[hC0 t] at hS;cases hS
  ·rw[gput_other G e] at hz
   rw[hρ _ (lt (T.rd q z t S hz hS) (by simp))];exact T.rd q z t S hz hS
 ·by_cases e1:i=y.n
  ·rw[e1];exact Or.inr ⟨_,_,hrow⟩
  ·by_cases e2:i=y.s
   ·rw[e2];obtain⟨es,c,h⟩:=hs0.obj;exact Or.inl ⟨es,c,h⟩
   ·by_cases e3:i=y.b
    ·rw[e3];obtain⟨es,c,h⟩:=hb0.obj;exact Or.inl ⟨es,c,h⟩
    ·unfold role3 at hi
     rw[if_neg e1,if_neg e2,if_neg e3] at hi
     by_cases e4:i=x.b
     ·rw[e4];exact hzb
     ·exact (T.kind i hi).heap (hblk i (T.kind i hi).lt e4)
theorem newNode_any (w:World):Calls Tryz.prog 49 #[] w fun e w'=>e = .returned (ptr (w.heap.size+2))/\w'=((w.alloc (.map #[] 0)).alloc (.map #[] 0)).alloc (.cells #[.map (some w.heap.size),.map (some (w.heap.size+1))] 107):=by
 have hmm := @run_makeMap Tryz.prog
 go_enter Tryz.func49,Tryz.ntmps49
 go_wp2
 go_ret
 exact⟨by simp[ptr],by simp⟩
theorem empty_any (w:World) (n s b K:Nat) (f g:Lit->Option Value) (hr:RowAt w n 107 #[.map (some s),.map (some b)]) (hs:MapAt 36 w s f K) (hb:MapAt 9 w b g K) :
 Calls Tryz.prog 65 #[ptr n] w fun e w' => ∃ r:Bool,e = .returned (.bool r)/\w'=w/\(r=true↔(∀ k,f k=none) /\ ∀ k,g k=none):=by
 obtain⟨a,ha,ha1,ha2⟩:=hs.none_len keyedH Tryz.underlying104 3
 obtain⟨c,hc,hc1,hc2⟩:=hb.none_len keyedS Tryz.underlying105 3
 have x0:w.cell? ⟨n,0,none⟩=some (.map (some s)):=hr.cell 0
 have x1:w.cell? ⟨n,1,none⟩=some (.map (some b)):=hr.cell 1
 have H1:=hide ha2
 have H2:=hide hc2
 clear ha2 hc2
 unfold ptr
 go_enter Tryz.func65,Tryz.ntmps65
 by_cases h0:(a:Int)=0
 ·have h0':((a:Int) == 0)=true:=by simp[h0]
  go_wp2
  go_ret
  refine⟨_,rfl,rfl,?_⟩
  rw[<- H1.out, <- H2.out]
  simp;omega
 ·have h1':a≠0:=by omega
  have h0':((a:Int) == 0)=false:=by simp[h1']
  go_wp2
  go_ret
  refine⟨_,rfl,rfl,?_⟩
  rw[<- H1.out, <- H2.out]
  simp;omega
open Go.RowKit Go.Shelf
attribute [local go_sem] Oper.semAt_some
theorem backward_any (w:World) (ao:Option Addr) (L c:Nat):Calls Tryz.prog 101 #[.slice ao L c] w fun e w' =>
 e = .returned (.func (.func 131) #[] #[.pointer (some ⟨w.heap.size,0,none⟩)])/\w'=w.alloc (.cells #[.slice ao L c] 28):=by
 have hmf : ∀ (fn:Fn) (first cap:Array Value) (w:World),(Instr.makeFunc fn first cap).run Tryz.prog w = .ok (.func fn first cap) w:=fun _ _ _ _=>rfl
 go_enter Tryz.func101,Tryz.ntmps101
 go_wp2
 go_ret
 exact⟨rfl,rfl⟩
structure KpA (b1:Nat) (ao:Option Addr) (W W':World):Prop where
 box:W'.heap[b1]?=W.heap[b1]?
 row : ∀ a,ao=some a->W'.heap[a.block]?=W.heap[a.block]?
 size:W.heap.size<=W'.heap.size
theorem KpA.trans {b1:Nat} {ao:Option Addr} {A B D:World} (h:KpA b1 ao A B) (h':KpA b1 ao B D):KpA b1 ao A D:=⟨h'.box.trans h.box,fun a e=>(h'.row a e).trans (h.row a e),Nat.le_trans h.size h'.size⟩
theorem KpA.sl {b1:Nat} {ao:Option Addr} {W W':World} (h:KpA b1 ao W W') {n:List (List UInt8)} (hs:SlS W ao n):SlS W' ao n:=fun hn=>by
 have hz:=h.size
 obtain⟨b,o,e,hlt,hc⟩:=hs hn
 refine⟨b,o,e,by omega,fun j hj=>?_⟩
 rw[<- hc j hj]
 exact World.cell?_of_block (a:=⟨b,o+j,none⟩) (h.row ⟨b,o,none⟩ e)
def lab (n:List (List UInt8)) (x:Nat):List UInt8:=n.getD (n.length - 1 - x) []
def bwv (n:List (List UInt8)) (x:Nat):Array Value := #[.int .i64 ((n.length:Int) - 1 - (x:Int)),.string ⟨(lab n x).toArray⟩]
set_option maxRecDepth 100000 in
set_option maxHeartbeats 2000000 in
theorem back1_in (l b1 C L:Nat) (ao:Option Addr) (n:List (List UInt8)) (hL:Hid (n.length=L)) (hL2:L<=1000000) (J Jx:List Nat->World->Prop)
 (hY : ∀ pre x W,J pre W->pre.length<L->YieldAt Fence.wide 4 Tryz.prog l (bwv n x) W fun e W' =>
  (e = .returned (.bool true)/\J (pre ++ [x]) W'/\KpA b1 ao W W')\/(e = .returned (.bool false)/\Jx (pre ++ [x]) W'))
 (W:World) (hb1:RowAt W b1 28 #[.slice ao L C]) (hs:SlS W ao n) (h0:J [] W) :
 CallsIn Fence.wide 5 Tryz.prog 131 #[.func (.yield l) #[] #[],.pointer (some ⟨b1,0,none⟩)] W fun e W'=>(∃ v,e = .returned v) /\
  (J (List.range L) W' \/ ∃ k,k<L/\Jx (List.range (k+1)) W'):=by
 refine callsIn_of_wp Tryz.func131 rfl trivial ?_ rfl
 simp only[Tryz.ntmps131,List.size_toArray,List.length_cons,List.length_nil,Nat.reduceAdd,Nat.reduceSub,Array.replicate_succ,Array.replicate_zero,List.push_toArray,List.append_toArray,List.nil_append,List.cons_append]
 have x1:W.cell? ⟨b1,0,none⟩=some (.slice ao L C):=hb1.cell 0
 have hw0:IntKind.i64.wrap ((L:Int) - 1)=(L:Int) - 1:=by rw[IntKind.wrap_i64];omega
 have HS:=hide hs
 have HB:=hide hb1
 clear hs hb1
 gi_wp2
 clear x1
 gi_loopw [3] (fun i wr => ∃ k:Nat,k<=L/\i = .int .i64 ((L:Int) - 1 - (k:Int))/\J (List.range k) wr/\RowAt wr b1 28 #[.slice ao L C]/\SlS wr ao n)
  (fun i _=>(intOf i+1).toNat)
 case atStart=>exact⟨0,by omega,by simp,by simpa using h0,HB.out,HS.out⟩
 case round =>
  obtain⟨k,hk,rfl,hJs,hr1,hs1⟩:=hrel
  have x1:wr.cell? ⟨b1,0,none⟩=some (.slice ao L C):=hr1.cell 0
  by_cases hlt:k<L
  ·have hge:(0:Int)<=(L:Int) - 1 - (k:Int):=by omega
   obtain⟨g,o,rfl,hg,hc⟩:=hs1 (by have:=hL.out;omega)
   obtain⟨i,hi⟩ : ∃ i,i=L - 1 - k:=⟨_,rfl⟩
   have hie:(L:Int) - 1 - (k:Int)=(i:Int):=by omega
   have x2:wr.cell? ⟨g,o+i,none⟩=some (.string ⟨(lab n k).toArray⟩):=by
    have:=hc i (by have:=hL.out;omega)
    rw[this];unfold lab;rw[hL.out, <- hi]
   have hin:(i:Int)<(L:Int):=by omega
   have hw1:IntKind.i64.wrap ((i:Int) - 1)=(L:Int) - 1 - ((k+1:Nat):Int):=by rw[IntKind.wrap_i64];omega
   obtain⟨fn,tmps,assign,body,hy,hR⟩:=hY (List.range k) k wr hJs (by rw[List.length_range];exact hlt)
   unfold bwv at hy
   rw[hL.out,hie] at hy
   rw[hie] at hge ⊢
   have HR:=hide hR
   have H1:=hide hr1
   have H2:=hide hs1
   have HI:=hide hi
   have HC:=hide hc
   clear hR hr1 hs1 hi hie hc
   gi_wp2
   refine HR.out.mono ?_
   rintro e W3 (⟨rfl,hJ3,hk3⟩ | ⟨rfl,hJx3⟩)
   ·have hr13:RowAt W3 b1 28 #[.slice (some ⟨g,o,none⟩) L C]:=hk3.box.trans H1.out
    have hs13:SlS W3 (some ⟨g,o,none⟩) n:=hk3.sl H2.out
    gi_wp2
    (try rw[hw1])
    go_roundw
    case rel=>exact⟨k+1,by omega,rfl,by rw[List.range_succ];exact hJ3,hr13,hs13⟩
    case measure=>simp[intOf];have:=HI.out;omega
   ·gi_wp2
    refine bodyPost_ret (results_none rfl _ _ _) rfl ?_
    exact⟨⟨_,rfl⟩,.inr ⟨k,hlt,by rw[List.range_succ];exact hJx3⟩⟩
  ·have hge : ¬ (0:Int)<=(L:Int) - 1 - (k:Int):=by omega
   have hkL:k=L:=by omega
   have HK:=hide hkL
   clear hkL
   gi_wp2
   go_end0
   exact⟨⟨_,rfl⟩,.inl (by rw[<- HK.out];exact hJs)⟩
open Go.RowKit Go.Shelf
attribute [local go_sem] Oper.semAt_some
def nodeN (G:List (List UInt8)->Option Nd) (q:List (List UInt8)):Nat:=((G q).map fun y=>y.n).getD 0
theorem nodeN_of {G:List (List UInt8)->Option Nd} {q:List (List UInt8)} {x:Nd} (h:G q=some x):nodeN G q=x.n:=by unfold nodeN;rw[h];rfl
def ptrs (G:List (List UInt8)->Option Nd) (n:List (List UInt8)) (pre:List Nat):List Value:=(List.range (pre.length+1)).map fun j=>ptr (nodeN G ((pre.take j).map (lab n)))
theorem ptrs_snoc (G:List (List UInt8)->Option Nd) (n:List (List UInt8)) (pre:List Nat) (x:Nat):ptrs G n (pre ++ [x])=ptrs G n pre ++ [ptr (nodeN G ((pre ++ [x]).map (lab n)))]:=by
 unfold ptrs
 rw[List.length_append,List.length_singleton,List.range_succ (n:=pre.length+1),List.map_append]
 congr 1
 ·refine List.map_congr_left fun j hj=>?_
  have hj':j<=pre.length:=by have:=List.mem_range.1 hj;omega
  rw[List.take_append_of_le_length hj']
 ·simp only[List.map_cons,List.map_nil]
  rw[List.take_of_length_le (by simp)]
theorem row_own {A B:World} {row:Option Nat} {M g:Nat} {t:TypeId} {c:Array Value} (h:RowAt A g t c) (hg:A.grownBy B row) (hr : ∀ r,row=some r->M<=r /\ ∃ o:Obj,A.heap[r]?=some o/\o.isCells=false):RowAt B g t c:=by
 have e:B.heap[g]?=A.heap[g]?:=hg.block g h.lt (fun e=>by
  obtain⟨_,o,h1,h2⟩:=hr g e.symm
  unfold RowAt at h
  rw[h] at h1
  injection h1 with h1
  rw[<- h1] at h2
  cases h2)
 unfold RowAt;rw[e];exact h
theorem ownsRow_own {A B:World} {row:Option Nat} {M base size k:Nat} {e:TypeId} {v:Value} {xs:List Value} (h:A.ownsRow base e size v k xs) (hg:A.grownBy B row) (hr : ∀ r,row=some r->M<=r /\ ∃ o:Obj,A.heap[r]?=some o/\o.isCells=false):B.ownsRow base e size v k xs:=by
 refine h.kept hg ?_
 rcases h.2 with⟨rfl,_⟩ | ⟨g,cap,cur,rfl,_,hgb,_⟩
 ·exact .inl rfl
 ·refine .inr fun e'=>?_
  obtain⟨_,o,ho,hc⟩:=hr g (by simpa [Value.ownBlock] using e'.symm)
  rw[hgb] at ho;cases ho;cases hc
theorem below_own {A B w:World} {row:Option Nat} {M N:Nat} (h:Below N w A) (hN:N<=M) (hN2:N<=w.heap.size) (hg:A.grownBy B row) (hr : ∀ r,row=some r->M<=r /\ ∃ o:Obj,A.heap[r]?=some o/\o.isCells=false):Below N w B:=by
 refine⟨hg.os.trans h.os,hg.tape.trans h.tape,hg.output.trans h.output,Nat.le_trans h.size hg.size,fun k hk=>?_⟩
 have hs:=h.size
 rw[hg.block k (by omega) (fun e=>by have:=(hr k e.symm).1;omega)]
 exact h.block k hk
theorem _root_.Go.Boxed.below_ {W W':World} {B b:Nat} {t:TypeId} {v:Value} (h:Boxed W b t v) (hb:Below B W W') (hB:W.heap.size<=B):Boxed W' b t v:=(hb.block b (Nat.lt_of_lt_of_le h.lt hB)).trans h
theorem ownsRow_below {w w':World} {base size k:Nat} {e:TypeId} {v:Value} {xs:List Value} (h:w.ownsRow base e size v k xs) (hb:Below w.heap.size w w'):w'.ownsRow base e size v k xs :=
 h.kept (row:=none) ⟨hb.os,hb.tape,hb.output,hb.size,fun i hi _=>hb.block i hi⟩ (by cases v.ownBlock <;> simp)
theorem OwnS.blk {w:World} {base L c:Nat} {ao:Option Addr} {n:List (List UInt8)} (h:OwnS w base (.slice ao L c) n) (a:Addr) (e:ao=some a):a.block<w.heap.size:=by
 rcases h.2 with⟨e1,_⟩ | ⟨g,cap,cur,e1,_,hgb,_⟩
 ·injection e1 with e1;rw[e] at e1;cases e1
 ·injection e1 with e1;rw[e] at e1;injection e1 with e1;rw[e1];exact (Array.getElem?_eq_some_iff.1 hgb).1
theorem lab_range (m:List (List UInt8)) : ∀ k,k<=m.length->(List.range k).map (lab m)=m.reverse.take k
 | 0,_=>by simp
 | k+1,h=>by
  rw[List.range_succ,List.map_append,lab_range m k (by omega),List.take_add_one]
  congr 1
  unfold lab
  rw[List.map_cons,List.map_nil,List.getElem?_reverse (by omega),List.getD_eq_getElem?_getD,List.getElem?_eq_getElem (by omega)]
  rfl
theorem ownsRow_base {W:World} {base base' size k:Nat} {e:TypeId} {v:Value} {xs:List Value} (h:W.ownsRow base e size v k xs) (hb:base'<=base):W.ownsRow base' e size v k xs:=by
 refine⟨h.1,?_⟩
 rcases h.2 with h1 | ⟨g,cap,cur,e,h1,h2⟩
 ·exact Or.inl h1
 ·exact Or.inr ⟨g,cap,cur,e,Nat.le_trans hb h1,h2⟩
theorem not_own {W:World} {base size k:Nat} {e:TypeId} {v:Value} {xs:List Value} (h:W.ownsRow base e size v k xs) {i:Nat} {c:Array Value} {t:TypeId} {f:Nat × Nat} (hi:W.heap[i]?=some (.cells c t f)) (hne:t≠e):some i≠v.ownBlock:=by
 rcases h.2 with⟨rfl,_⟩ | ⟨g,cap,cur,rfl,_,hgb,_⟩
 ·simp[Value.ownBlock]
 ·intro e'
  have e2:i=g:=by simpa [Value.ownBlock] using e'
  rw[e2,hgb] at hi
  injection hi with hi
  injection hi with _ hi _
  exact hne hi.symm
theorem KpA.own {b1:Nat} {ao:Option Addr} {w5:World} {M:Nat} (h1 : ∃ (c:Array Value) (t:TypeId) (f:Nat × Nat),w5.heap[b1]?=some (Obj.cells c t f)) (h2 : ∀ a,ao=some a -> ∃ (c:Array Value) (t:TypeId) (f:Nat × Nat),w5.heap[a.block]?=some (Obj.cells c t f)):OwnFrom M (fun (_:List Nat) W=>KpA b1 ao w5 W):=by
 intro _ A B row hI hg hr
 have key : ∀ i,(∃ (c:Array Value) (t:TypeId) (f:Nat × Nat),w5.heap[i]?=some (Obj.cells c t f))->A.heap[i]?=w5.heap[i]?->B.heap[i]?=w5.heap[i]?:=fun i hx hA=>by
  obtain⟨c,t,f,hc⟩:=hx
  rw[hg.block i (Array.getElem?_eq_some_iff.1 (hA.trans hc)).1 (fun e=>by
   obtain⟨_,o,h1,h2⟩:=hr i e.symm
   rw[hA,hc] at h1;injection h1 with h1;rw[<- h1] at h2;cases h2),hA]
 exact⟨key b1 h1 hI.box,fun a e=>key _ (h2 a e) (hI.row a e),Nat.le_trans hI.size hg.size⟩
theorem take_range (len j:Nat):(List.range len).take j=List.range (min j len):=by
 rw[List.take_range]
def wayV (G:List (List UInt8)->Option Nd) (m:List (List UInt8)) (k:Nat):List Value:=(List.range (k+1)).map fun j=>ptr (nodeN G (m.reverse.take j))
theorem ptrs_range (G:List (List UInt8)->Option Nd) (m:List (List UInt8)) (k:Nat) (hk:k<=m.length):ptrs G m (List.range k)=wayV G m k:=by
 unfold ptrs wayV
 rw[List.length_range]
 refine List.map_congr_left fun j hj=>?_
 have hj':j<=k:=by have:=List.mem_range.1 hj;omega
 rw[take_range,Nat.min_eq_left hj',lab_range m j (by omega)]
structure WayI (w:World) (G:List (List UInt8)->Option Nd) (n:List (List UInt8)) (pre:List Nat) (W:World):Prop where
 at_:Boxed W w.heap.size 91 (ptr (nodeN G (pre.map (lab n))))
 ex:(G (pre.map (lab n))).isSome
 out : ∃ v,Boxed W (w.heap.size+2) 111 v/\W.ownsRow (w.heap.size+1) 91 1 v (pre.length+1) (ptrs G n pre)
 bel:Below w.heap.size w W
structure WayX (w:World) (G:List (List UInt8)->Option Nd) (n:List (List UInt8)) (pre:List Nat) (W:World):Prop where
 pos:0<pre.length
 no:G (pre.map (lab n))=none
 ex:(G (pre.dropLast.map (lab n))).isSome
 out : ∃ v,Boxed W (w.heap.size+2) 111 v/\W.ownsRow (w.heap.size+1) 91 1 v (pre.dropLast.length+1) (ptrs G n pre.dropLast)
 bel:Below w.heap.size w W
theorem WayI.own {w:World} {G:List (List UInt8)->Option Nd} {n:List (List UInt8)} {M:Nat} (hM:w.heap.size<=M):OwnFrom M (fun pre W=>WayI w G n pre W):=by
 intro pre A B row hI hg hr
 obtain⟨v,h1,h2⟩:=hI.out
 exact⟨row_own hI.at_ hg hr,hI.ex,⟨v,row_own h1 hg hr,ownsRow_own h2 hg hr⟩,below_own hI.bel hM (Nat.le_refl _) hg hr⟩
theorem WayX.own {w:World} {G:List (List UInt8)->Option Nd} {n:List (List UInt8)} {M:Nat} (hM:w.heap.size<=M):OwnFrom M (fun pre W=>WayX w G n pre W):=by
 intro pre A B row hI hg hr
 obtain⟨v,h1,h2⟩:=hI.out
 exact⟨hI.pos,hI.no,hI.ex,⟨v,row_own h1 hg hr,ownsRow_own h2 hg hr⟩,below_own hI.bel hM (Nat.le_refl _) hg hr⟩
theorem infoNp:(Tryz.prog.info? 91).map (fun i=>(i.zero,i.size,i.bytes))=some (some (.pointer none),1,8):=by kernel_rfl
set_option maxRecDepth 100000 in
set_option maxHeartbeats 4000000 in
theorem way_any (w:World) (Zb:Nat) (av:Value) (cnt:Int) (ρ : Nat->Role) (G:List (List UInt8)->Option Nd) (C:List (List UInt8)->Nat->Option Z.St) (K:Nat) (T:TreeAt w ρ G C K) (hz:RowAt w Zb 94 #[av,ptr (nodeN G []),.int .i64 cnt]) (n:List (List UInt8)) (ao:Option Addr) (len cap:Nat) (hl:Hid (n.length=len)) (hs:SlS w ao n) (hm:Hid (N.Small n)) :
 Calls Tryz.prog 63 #[ptr Zb,.slice ao len cap] w fun e w' => ∃ v,e = .returned v /\ ∃ k,k<=n.length/\(G ((N.lowN n).reverse.take k)).isSome/\(k<n.length->G ((N.lowN n).reverse.take (k+1))=none) /\
  w'.ownsRow w.heap.size 91 1 v (k+1) (wayV G (N.lowN n) k)/\Below w.heap.size w w':=by
 have hmx:Tryz.prog.follows .mixedOrders=true:=by kernel_rfl
 have z1:w.cell? ⟨Zb,1,none⟩=some (ptr (nodeN G [])):=hz.cell 1
 have HS:=hide hs
 have HT:=hide T
 clear hs T hz
 unfold ptr at z1 ⊢
 refine (callsIn_wide (n:=6)).1 ?_
 refine callsIn_of_wp_marks Tryz.func63 rfl trivial ?_ rfl
 simp only[Tryz.ntmps63,List.size_toArray,List.length_cons,List.length_nil,Nat.reduceAdd,Nat.reduceSub,Array.replicate_succ,Array.replicate_zero,List.push_toArray,List.append_toArray,List.nil_append,List.cons_append]
 obtain⟨w3,hw3⟩ : ∃ w3,w3=((w.alloc (.cells #[.pointer (some ⟨nodeN G [],0,none⟩)] 91)).alloc (.cells #[.pointer (some ⟨nodeN G [],0,none⟩)] 91)).alloc (.cells #[.slice (some ⟨w.heap.size+1,0,none⟩) 1 1] 111):=⟨_,rfl⟩
 have F3:Hid (Boxed w3 w.heap.size 91 (ptr (nodeN G []))/\Boxed w3 (w.heap.size+2) 111 (.slice (some ⟨w.heap.size+1,0,none⟩) 1 1)/\w3.ownsRow (w.heap.size+1) 91 1 (.slice (some ⟨w.heap.size+1,0,none⟩) 1 1) 1 [ptr (nodeN G [])]/\Below w.heap.size w w3/\w3.heap.size=w.heap.size+3):=by
  rw[hw3]
  refine⟨((Boxed.new w _ _).alloc _).alloc _,?_,?_,(((Below.refl _ w).alloc (Nat.le_refl _) _).alloc (by simp) _).alloc (by simp;omega) _,by simp⟩
  ·have:=Boxed.new ((w.alloc (.cells #[.pointer (some ⟨nodeN G [],0,none⟩)] 91)).alloc (.cells #[.pointer (some ⟨nodeN G [],0,none⟩)] 91)) 111 (.slice (some ⟨w.heap.size+1,0,none⟩) 1 1)
   simpa using this
  ·refine World.ownsRow.alloc (w:=(w.alloc (.cells #[.pointer (some ⟨nodeN G [],0,none⟩)] 91)).alloc (.cells #[.pointer (some ⟨nodeN G [],0,none⟩)] 91)) ?_ _
   exact⟨rfl,Or.inr ⟨w.heap.size+1,1,_,rfl,by omega,by have:=heap_alloc_last (w.alloc (.cells #[.pointer (some ⟨nodeN G [],0,none⟩)] 91)) (.cells #[.pointer (some ⟨nodeN G [],0,none⟩)] 91);rwa [World.size_alloc] at this,by simp,by unfold maxLen;omega,rfl,rfl⟩⟩
 have S3:=hide (HS.out.below F3.out.2.2.2.1 (Nat.le_refl _))
 gi_wp2_with (first
  | (refine⟨trivial,?_⟩;gi_at_call 48;rw[<- hw3];refine (callsIn_wide.2 (lower_any n ao len cap w3 hl S3.out hm)).mono ?_;rintro e w4 ⟨v4,rfl,hv4,hb4⟩;obtain⟨a4,c4,rfl,hs4,_,hc4,_⟩:=OwnS.open hv4;have hk4:=OwnS.blk hv4;have hl4:Hid ((N.lowN n).length=len):=(by show _=_;rw[N.lowN_len];exact hl.out);rw[hl4.out])
  | (refine⟨trivial,?_⟩;gi_at_call 101;refine (callsIn_wide.2 (backward_any w4 a4 len c4)).mono ?_;rintro e w5 ⟨rfl,hw5⟩)
  | fail)
 have G5:Hid (RowAt (w4.alloc (.cells #[.slice a4 len c4] 28)) w4.heap.size 28 #[.slice a4 len c4]/\SlS (w4.alloc (.cells #[.slice a4 len c4] 28)) a4 (N.lowN n)/\Below w3.heap.size w3 (w4.alloc (.cells #[.slice a4 len c4] 28))/\(w4.alloc (.cells #[.slice a4 len c4] 28)).heap.size=w4.heap.size+1/\w3.heap.size<=w4.heap.size) :=
  ⟨RowAt.new w4 _ _,hs4.alloc _,hb4.alloc hb4.size _,by simp,hb4.size⟩
 have hL2:len<=1000000:=by rw[<- hl.out];exact hm.out.1
 have hlab : ∀ x,(lab (N.lowN n) x).length<=1000000:=fun x=>by
  unfold lab
  rw[List.getD_eq_getElem?_getD]
  cases h:(N.lowN n)[(N.lowN n).length - 1 - x]? with
  | none=>simp
  | some l =>
   have h1:=List.mem_of_getElem? h
   unfold N.lowN at h1
   obtain⟨l0,h2,rfl⟩:=List.mem_map.1 h1
   rw[Option.getD_some,N.lowL_len];exact hm.out.2 l0 h2
 have HK5:Hid (a4=a4 /\ ∀ a,a4=some a->w.heap.size+3<=a.block /\ ∃ c f,(w4.alloc (.cells #[.slice a4 len c4] 28)).heap[a.block]?=some (.cells c 9 f)):=⟨rfl,fun a e=>by
  have hO:w4.ownsRow w3.heap.size 9 1 (.slice a4 (N.lowN n).length c4) (N.lowN n).length (vs (N.lowN n)):=hv4
  rcases hO.2 with⟨e1,_⟩ | ⟨g,cap,cur,e1,hg0,hgb,_⟩
  ·injection e1 with e1;rw[e] at e1;cases e1
  ·injection e1 with e1;rw[e] at e1;injection e1 with e1;subst e1
   refine⟨by have:=F3.out.2.2.2.2;show w.heap.size+3<=g;omega,cur,(0,0),?_⟩
   show (w4.alloc _).heap[g]?=_
   rw[Below.heap_alloc _ _ g (Array.getElem?_eq_some_iff.1 hgb).1];exact hgb⟩
 clear hs4 hb4 hv4 hc4 hw3 z1
 generalize w4.alloc (.cells #[.slice a4 len c4] 28)=w5 at G5 HK5 ⊢
 have hz5:w.heap.size+3<=w4.heap.size:=by have:=F3.out.2.2.2.2;have:=G5.out.2.2.2.2;omega
 obtain⟨m,hme⟩ : ∃ m,m=N.lowN n:=⟨_,rfl⟩
 rw[<- hme] at G5 hl4 hlab
 have HM:=hide hme
 clear hme
 have hrow4 : ∀ a,a4=some a->w.heap.size+3<=a.block /\ ∃ c f,w5.heap[a.block]?=some (.cells c 9 f):=HK5.out.2
 have ow:OwnFrom w5.heap.size (fun pre W=>WayI w G m pre W/\KpA w4.heap.size a4 w5 W):=OwnFrom.and (WayI.own (by have:=G5.out.2.2.2.1;omega)) (KpA.own ⟨_,_,_,G5.out.1⟩ fun a e=>by obtain⟨_,c,f,h⟩:=hrow4 a e;exact⟨c,_,f,h⟩)
 have ox : ∀ c:Code,OwnFrom w5.heap.size (fun pre W=>c = .exit 0/\WayX w G m pre W):=fun c s A B row hI hg hr=>⟨hI.1,WayX.own (by have:=G5.out.2.2.2.1;omega) s A B row hI.2 hg hr⟩
 refine wpIn_rangeFunc_ownG (α := Nat) rfl (by omega) (gf:=131) (lb := #[.pointer (some ⟨w4.heap.size,0,none⟩)]) rfl trivial (enters_of Tryz.func131 (by kernel_rfl) rfl) (encs:=bwv m) (Kp:=KpA w4.heap.size a4) (S:=fun xs=>xs=List.range len) (Sp:=fun xs => ∃ k,k<len/\xs=List.range (k+1)) (N:=len) (w0:=w5) ?seq1 KpA.trans ?keep1 (Below.refl _ _) (fun _=>rfl)
  (fun pre W=>WayI w G m pre W/\KpA w4.heap.size a4 w5 W) (fun c pre W=>c = .exit 0/\WayX w G m pre W) ow ox ?init1
  (fun x => { tmps := #[.pointer (some ⟨Zb,0,none⟩),.slice ao len cap,undef,undef,.slice none 0 0,.pointer (some ⟨w.heap.size,0,none⟩),.pointer (some ⟨w.heap.size+1+1,0,none⟩),undef,.string ⟨(lab m x).toArray⟩,undef,undef,.pointer (some ⟨Zb,0,none⟩),.pointer (some ⟨Zb,0,none⟩),.pointer (some ⟨Zb,1,none⟩),.pointer (some ⟨nodeN G [],0,none⟩),.pointer (some ⟨nodeN G [],0,none⟩),.slice (some ⟨w.heap.size+1,0,none⟩) 1 1,.slice ao len cap,.slice a4 len c4,.func (.func 131) #[] #[.pointer (some ⟨w4.heap.size,0,none⟩)],.int .i64 ((m.length:Int) - 1 - (x:Int)),.string ⟨(lab m x).toArray⟩,undef,undef,undef,undef,undef,undef,undef,undef,undef,undef,undef,undef,undef,undef,undef,undef,undef],defers := [] }) ?assign1 ?body1 ?done1 ?stop1
 case seq1 =>
  intro l Jv Jx W hW hJ hJx hY h0
  refine (back1_in l w4.heap.size c4 len a4 m hl4 hL2 Jv Jx hY W (G5.out.1.below hW G5.out.1.lt) (G5.out.2.1.below hW (Nat.le_refl _)) h0).mono ?_
  rintro e W' ⟨he,hj | ⟨k,hk,hj⟩⟩
  ·exact⟨he,.inl ⟨_,rfl,hj⟩⟩
  ·exact⟨he,.inr ⟨_,⟨k,hk,rfl⟩,hj⟩⟩
 case keep1 =>
  intro W l oo oo' hl hlo _ _
  have h4:=G5.out.2.2.2.1
  refine⟨World.putObj_heap_other (by omega),fun a e=>World.putObj_heap_other ?_,by simp⟩
  have:=hk4 a e
  omega
 case init1 =>
  have h5:=G5.out.2.2.1
  refine⟨⟨F3.out.1.below_ h5 (Nat.le_refl _),by rw[List.map_nil];exact HT.out.root,⟨_,F3.out.2.1.below_ h5 (Nat.le_refl _),?_⟩,F3.out.2.2.2.1.trans (h5.mono (by have:=F3.out.2.2.2.2;omega))⟩,rfl,fun _ _=>rfl,Nat.le_refl _⟩
  exact ownsRow_below F3.out.2.2.1 h5
 case assign1 =>
  intro l x W K hK
  unfold bwv
  gi_wp2
  exact hK
 case body1 =>
  rintro l pre x W ⟨hI,hKp⟩ hlen
  have TW:=HT.out.below_ hI.bel
  obtain⟨y,hy⟩:=Option.isSome_iff_exists.1 hI.ex
  have NY:=TW.node _ y hy
  have hat:=hI.at_
  rw[nodeN_of hy] at hat
  obtain⟨v,hbox,hrow⟩:=hI.out
  have hq:pre.map (lab m) ++ [lab m x]=(pre ++ [x]).map (lab m):=by simp
  have hlook:(Instr.lookup 105 (.map (some y.b)) (.string ⟨(lab m x).toArray⟩) true).run Tryz.prog W = .ok (.tuple #[((G ((pre ++ [x]).map (lab m))).map fun y=>ptr y.n).getD (.pointer none),.bool ((G ((pre ++ [x]).map (lab m))).map fun y=>ptr y.n).isSome]) W:=by
   rw[<- hq];exact NY.below.look keyedS Tryz.underlying105 (Tryz.zeroValue91 W) (keyS (lab m x) (hlab x))
  have x0:W.cell? ⟨w.heap.size,0,none⟩=some (.pointer (some ⟨y.n,0,none⟩)):=hat.cell
  have x1:W.cell? ⟨y.n,1,none⟩=some (.map (some y.b)):=NY.row.cell 1
  have xf:=hat.frozen
  have HI:=hide hI
  have HAT:=hide hat
  have HBX:=hide hbox
  have HRW:=hide hrow
  have HY:=hide hy
  have HN:=hide NY
  clear hI hat hbox hrow hy NY TW
  dsimp only
  cases hg:G ((pre ++ [x]).map (lab m)) with
  | none =>
   rw[hg] at hlook
   have hlook':(Instr.lookup 105 (.map (some y.b)) (.string ⟨(lab m x).toArray⟩) true).run Tryz.prog W = .ok (.tuple #[.pointer none,.bool false]) W:=hlook
   clear hlook
   gi_wp2
   refine⟨KeepsFrom.refl _ _,rfl,by simp,hg,by simpa using HI.out.ex,?_,HI.out.bel⟩
   exact⟨v,HBX.out,by simpa using HRW.out⟩
  | some y' =>
   rw[hg] at hlook
   have hlook':(Instr.lookup 105 (.map (some y.b)) (.string ⟨(lab m x).toArray⟩) true).run Tryz.prog W = .ok (.tuple #[.pointer (some ⟨y'.n,0,none⟩),.bool true]) W:=hlook
   clear hlook
   obtain⟨i0,hi,hz0,hz1,hz2⟩:=info_parts infoNp
   have g1:=grownBy_setCell' W w.heap.size (.pointer (some ⟨y'.n,0,none⟩))
   have hBW:=HI.out.bel.size
   have hb1:Boxed (W.setCell ⟨w.heap.size,0,none⟩ (.pointer (some ⟨y'.n,0,none⟩))) w.heap.size 91 (ptr y'.n):=HAT.out.set _
   have hb2:Boxed (W.setCell ⟨w.heap.size,0,none⟩ (.pointer (some ⟨y'.n,0,none⟩))) (w.heap.size+2) 111 v:=HBX.out.other (by omega) _
   have hr1:(W.setCell ⟨w.heap.size,0,none⟩ (.pointer (some ⟨y'.n,0,none⟩))).ownsRow (w.heap.size+1) 91 1 v (pre.length+1) (ptrs G m pre):=HRW.out.kept g1 (.inr (fun e=>by
    rcases HRW.out.2 with⟨e1,h1⟩ | ⟨g,cap,cur,e1,hg0,hgb,_⟩
    ·omega
    ·rw[e1] at e
     have e2:w.heap.size=g:=by simpa [Value.ownBlock,eq_comm] using e
     omega))
   have hbc:=HBX.out.cell
   have HB1:=hide hb1
   have HB2:=hide hb2
   have HR1:=hide hr1
   clear hb1 hb2 hr1
   have hpl:pre.length+1<=1000000:=by omega
   have hbs:w.heap.size+1<=W.heap.size:=by have:=HBX.out.lt;omega
   gi_wp2_with (gi_at_builtin;go_loud (refine wpListIn_append_own _ rfl _ _ 111 rfl (w.heap.size+1) 91 i0 (.pointer none) 1 8 Tryz.underlying111 hi hz0 hz1 hz2 rfl (by decide) _ _ _ rfl (HR1.out.alloc _) ⟨W.heap.size,0,none⟩ 1 1 [.pointer (some ⟨y'.n,0,none⟩)] (by first | rfl | simp) (by first | rfl | simp) (by first | exact cell_one_new _ _ _ | simpa using cell_one_new (W.setCell ⟨w.heap.size,0,none⟩ (.pointer (some ⟨y'.n,0,none⟩))) _ _) (by simp[Value.oneCell']) (by unfold maxLen;omega) (by omega) (by first | omega | (simp;omega)) ?_);intro v' w1 hown' hgrow _;obtain⟨g',cap',rfl⟩:=ownsRow_succ hown';obtain⟨hv1,hv2,hr2,hk2,hb2'⟩:=HB2.out.appended (by decide) HR1.out (by simp;omega) (by omega) hown' hgrow;have hc1:=hv1.cell;have hf1:=hv1.frozen)
   obtain⟨W',hW'⟩ : ∃ W',W'=w1.setCell ⟨w.heap.size+2,0,none⟩ (.slice (some ⟨g',0,none⟩) (pre.length+1+1) cap'):=⟨_,rfl⟩
   have hsz1:=hgrow.size
   simp only[World.size_alloc,World.size_setCell] at hsz1
   have hno:some w.heap.size≠v.ownBlock:=fun e=>by
    rcases HRW.out.2 with⟨e1,h1⟩ | ⟨g,cap,cur,e1,hg0,hgb,_⟩
    ·omega
    ·rw[e1] at e
     have e2:w.heap.size=g:=by simpa [Value.ownBlock,eq_comm] using e
     omega
   have hsame : ∀ i,w.heap.size+3<=i->i<W.heap.size->some i≠v.ownBlock->W'.heap[i]?=W.heap[i]?:=fun i h1 h2 h3=>by
    rw[hW',(grownBy_setCell' w1 (w.heap.size+2) _).block i (by omega) (by simp;omega),hgrow.block i (by simp;omega) h3,Below.heap_alloc _ _ i (by simpa using h2),g1.block i h2 (by simp;omega)]
   have hKP:KpA w4.heap.size a4 W W':=by
    refine⟨hsame _ hz5 (Array.getElem?_eq_some_iff.1 (hKp.box.trans G5.out.1)).1 (not_own HRW.out (hKp.box.trans G5.out.1) (by decide)),fun a e=>?_,by rw[hW'];simp;omega⟩
    obtain⟨h1,c,f,h2⟩:=hrow4 a e
    have h3:=(hKp.row a e).trans h2
    exact hsame _ h1 (Array.getElem?_eq_some_iff.1 h3).1 (not_own HRW.out h3 (by decide))
   rw[<- hW'] at hv2 hr2 hk2 hb2' ⊢
   refine⟨((KeepsOthers.setCell W _ _).trans hk2).from _,hKP,⟨?_,by rw[hg];rfl,⟨_,hv2,?_⟩,?_⟩,hKp.trans hKP⟩
   ·rw[nodeN_of hg,hW']
    exact ((HB1.out.alloc _).kept hgrow hno).other (by omega) _
   ·rw[ptrs_snoc,nodeN_of hg,List.length_append]
    exact hr2
   ·exact HI.out.bel.trans (((Below.refl w.heap.size W).setCell (p:=⟨w.heap.size,0,none⟩) (Nat.le_refl _) _).trans (hb2'.mono (by omega)))
 case done1 =>
  rintro Dd xs W hDd rfl ⟨hI,_⟩ hK
  obtain⟨v,hbox,hrow⟩:=hI.out
  have hc:=hbox.cell
  have HR:=hide hrow
  have HI:=hide hI
  clear hbox hrow hI
  gi_wp2
  refine⟨by simp,.inl ⟨_,_,rfl,run_takeDeferred hK,?_⟩⟩
  refine⟨_,results_tmp rfl _ _ _,v,rfl,len,by rw[hl.out];omega,?_,fun h=>by have:=hl.out;omega,?_,?_⟩
  ·have:=HI.out.ex
   rw[lab_range m len (by rw[hl4.out];omega)] at this
   rw[<- HM.out];exact this
  ·have:=HR.out
   rw[List.length_range,ptrs_range G m len (by rw[hl4.out];omega)] at this
   rw[<- HM.out];exact ownsRow_base (base:=w.heap.size+1) (ownsRow_putObj this _ hK rfl) (Nat.le_succ _)
  ·exact HI.out.bel.trans ⟨rfl,rfl,rfl,by simp,fun i hi=>World.putObj_heap_other (by have:=G5.out.2.2.2.1;omega)⟩
 case stop1 =>
  rintro Dd c pre W hDd ⟨k,hk,rfl⟩ ⟨rfl,hX⟩ hK
  have hdl:(List.range (k+1)).dropLast=List.range k:=by rw[List.range_succ,List.dropLast_concat]
  obtain⟨v,hbox,hrow⟩:=hX.out
  have hc:=hbox.cell
  have HR:=hide hrow
  have HX:=hide hX
  clear hbox hrow hX
  gi_wp2
  refine⟨by simp,.inl ⟨_,_,rfl,run_takeDeferred hK,?_⟩⟩
  refine⟨_,results_tmp rfl _ _ _,v,rfl,k,by rw[hl.out];omega,?_,fun _=>?_,?_,?_⟩
  ·have:=HX.out.ex
   rw[hdl,lab_range m k (by rw[hl4.out];omega)] at this
   rw[<- HM.out];exact this
  ·have:=HX.out.no
   rw[lab_range m (k+1) (by rw[hl4.out];omega)] at this
   rw[<- HM.out];exact this
  ·have:=HR.out
   rw[hdl,List.length_range,ptrs_range G m k (by rw[hl4.out];omega)] at this
   rw[<- HM.out];exact ownsRow_base (base:=w.heap.size+1) (ownsRow_putObj this _ hK rfl) (Nat.le_succ _)
  ·exact HX.out.bel.trans ⟨rfl,rfl,rfl,by simp,fun i hi=>World.putObj_heap_other (by have:=G5.out.2.2.2.1;omega)⟩
open Go.RowKit
def path (n:List (List UInt8)):List (List UInt8):=(N.lowN n).reverse
theorem path_len (n:List (List UInt8)):(path n).length=n.length:=by unfold path;rw[List.length_reverse,N.lowN_len]
theorem path_low (n:List (List UInt8)):Z.Low (path n):=by
 have h:=Z.Low.of n
 unfold Z.Low at h
 unfold path Z.Low
 have h2:N.lowN (N.lowN n).reverse=(N.lowN (N.lowN n)).reverse:=List.map_reverse
 rw[h2,h]
structure Found (w w':World) (G:List (List UInt8)->Option Nd) (C:List (List UInt8)->Nat->Option Z.St) (K:Nat) (p:List (List UInt8)) (x:Nd):Prop where
 node:NodeIs w' G C K p x
 who:G p=some x\/(G p=none/\w.heap.size<=x.n/\w.heap.size<=x.s/\w.heap.size<=x.b)
 bel:Below w.heap.size w w'
theorem TreeAt.no_sets {w:World} {ρ : Nat->Role} {G:List (List UInt8)->Option Nd} {C:List (List UInt8)->Nat->Option Z.St} {K:Nat} (T:TreeAt w ρ G C K) {p:List (List UInt8)} (h:G p=none) (t:Nat):C p t=none:=by
 cases hC:C p t with
 | none=>rfl
 | some S=>have:=(T.cov p t S hC).1;rw[h] at this;cases this
theorem TreeAt.no_below {w:World} {ρ : Nat->Role} {G:List (List UInt8)->Option Nd} {C:List (List UInt8)->Nat->Option Z.St} {K:Nat} (T:TreeAt w ρ G C K) {p:List (List UInt8)} (h:G p=none) (r:List (List UInt8)):G (p++r)=none:=by
 cases hg:G (p++r) with
 | none=>rfl
 | some z=>have:=T.pre r p (by rw[hg];rfl);rw[h] at this;cases this
theorem new_node {w:World} {ρ : Nat->Role} {G:List (List UInt8)->Option Nd} {C:List (List UInt8)->Nat->Option Z.St} {K:Nat} (T:TreeAt w ρ G C K) {p:List (List UInt8)} (h:G p=none) (w1:World) :
 NodeIs (((w1.alloc (.map #[] 0)).alloc (.map #[] 0)).alloc (.cells #[.map (some w1.heap.size),.map (some (w1.heap.size+1))] 107)) G C K p ⟨w1.heap.size+2,w1.heap.size,w1.heap.size+1,fun _=>0⟩:=by
 refine⟨?_,?_,?_,fun t S hS=>by rw[T.no_sets h t] at hS;cases hS⟩
 ·have:=RowAt.new ((w1.alloc (.map #[] 0)).alloc (.map #[] 0)) 107 #[.map (some w1.heap.size),.map (some (w1.heap.size+1))]
  simpa using this
 ·refine MapU.ext (h:=fun _=>none) (((MapU.made w1 K).heap ?_)) fun t _=>by rw[T.no_sets h t];rfl
  rw[Below.heap_alloc _ _ _ (by simp;omega),Below.heap_alloc _ _ _ (by simp)]
 ·refine MapS.ext (h:=fun _=>none) ?_ fun l=>by rw[T.no_below h [l]];rfl
  have:=MapS.made (w1.alloc (.map #[] 0)) K
  rw[World.size_alloc] at this
  exact this.heap (Below.heap_alloc _ _ _ (by simp))
theorem wayV_get (G:List (List UInt8)->Option Nd) (m:List (List UInt8)) (k j:Nat) (h:j<=k):(wayV G m k)[j]?=some (ptr (nodeN G (m.reverse.take j))):=by
 unfold wayV
 rw[List.getElem?_map,List.getElem?_range (by omega)];rfl
theorem way_end {w w1:World} {ρ : Nat->Role} {G:List (List UInt8)->Option Nd} {C:List (List UInt8)->Nat->Option Z.St} {K:Nat} (T:TreeAt w ρ G C K) {n:List (List UInt8)} {k g c:Nat} (hk:k<=n.length) (h1:(G ((N.lowN n).reverse.take k)).isSome) (h2:k<n.length->G ((N.lowN n).reverse.take (k+1))=none)
 (hrow:w1.ownsRow w.heap.size 91 1 (.slice (some ⟨g,0,none⟩) (k+1) c) (k+1) (wayV G (N.lowN n) k)) :
 (k<n.length/\G (path n)=none)\/(k=n.length /\ ∃ x,G (path n)=some x/\w1.cell? ⟨g,n.length,none⟩=some (.pointer (some ⟨x.n,0,none⟩))):=by
 rcases Nat.lt_or_ge k n.length with hlt | hge
 ·refine Or.inl ⟨hlt,?_⟩
  have:=T.no_below (h2 hlt) ((path n).drop (k+1))
  unfold path at this ⊢
  rwa [List.take_append_drop] at this
 ·have e:k=n.length:=by omega
  refine Or.inr ⟨e,?_⟩
  have e2:(N.lowN n).reverse.take k=path n:=by
   unfold path;exact List.take_of_length_le (by rw[List.length_reverse,N.lowN_len];omega)
  rw[e2] at h1
  obtain⟨x,hx⟩:=Option.isSome_iff_exists.1 h1
  refine⟨x,hx,?_⟩
  rw[World.ownsRow.cellAt hrow n.length (by omega),wayV_get _ _ _ _ (by omega), <- e,e2,nodeN_of hx];rfl
set_option maxHeartbeats 1000000 in
theorem find_any (w:World) (Zb:Nat) (av:Value) (cnt:Int) (ρ : Nat->Role) (G:List (List UInt8)->Option Nd) (C:List (List UInt8)->Nat->Option Z.St) (K:Nat) (T:TreeAt w ρ G C K) (hz:RowAt w Zb 94 #[av,ptr (nodeN G []),.int .i64 cnt]) (n:List (List UInt8)) (ao:Option Addr) (len cap:Nat) (hl:Hid (n.length=len)) (hs:SlS w ao n) (hm:Hid (N.Small n)) :
 Calls Tryz.prog 59 #[ptr Zb,.slice ao len cap] w fun e w' => ∃ x:Nd,e = .returned (.pointer (some ⟨x.n,0,none⟩))/\Found w w' G C K (path n) x:=by
 have hw:=way_any w Zb av cnt ρ G C K T hz n ao len cap hl hs hm
 have HT:=hide T
 have hlen:len<=1000000:=by rw[<- hl.out];exact hm.out.1
 clear hs T hz
 unfold ptr at hw ⊢
 go_enter Tryz.func59,Tryz.ntmps59
 go_wp2_with (first
  | (go_at_call 63;refine hw.mono ?_;rintro e w1 ⟨v,rfl,k,hk,hG1,hG2,hrow,hbel⟩;obtain⟨g,c,rfl⟩:=ownsRow_succ hrow;have he:=way_end HT.out hk hG1 hG2 hrow;rw[hl.out] at he;clear hG1 hG2 hrow hk;rcases he with⟨hkk,hno⟩ | ⟨hkk,x,hx,hcell⟩)
  | (go_at_call 49;refine (newNode_any _).mono ?_;rintro e w2 ⟨rfl,hw2⟩))
 ·go_ret
  refine⟨⟨w1.heap.size+2,w1.heap.size,w1.heap.size+1,fun _=>0⟩,rfl,⟨new_node (HT.out.below_ hbel) hno w1,Or.inr ⟨hno,?_,?_,?_⟩,?_⟩⟩
  ·have:=hbel.size;show _<=w1.heap.size+2;omega
  ·exact hbel.size
  ·have:=hbel.size;show _<=w1.heap.size+1;omega
  ·exact ((hbel.alloc hbel.size _).alloc (by have:=hbel.size;simp;omega) _).alloc (by have:=hbel.size;simp;omega) _
 ·go_ret
  exact⟨x,rfl,⟨(HT.out.below_ hbel).node _ x hx,Or.inl hx,hbel⟩⟩
open Go.RowKit
structure KB (w w':World):Prop where
 size:w.heap.size<=w'.heap.size
 rows : ∀ (g:Nat) (c:Array Value) (et:TypeId) (fr:Nat × Nat),w.heap[g]?=some (Obj.cells c et fr)->et=5\/et=9->w'.heap[g]?=some (Obj.cells c et fr)
theorem KB.refl (w:World):KB w w:=⟨Nat.le_refl _,fun _ _ _ _ h _=>h⟩
theorem KB.trans {a b c:World} (h:KB a b) (k:KB b c):KB a c:=⟨Nat.le_trans h.size k.size,fun g x et fr hg he=>k.rows g x et fr (h.rows g x et fr hg he) he⟩
theorem KB.of_below {w w':World} (h:Below w.heap.size w w'):KB w w':=⟨h.size,fun g _ _ _ hg _=>(h.block g (Array.getElem?_eq_some_iff.1 hg).1).trans hg⟩
theorem KB.alloc (w:World) (o:Obj):KB w (w.alloc o) := .of_below ((Below.refl _ w).alloc (Nat.le_refl _) o)
theorem KB.turn {b:Nat} {w w':World} (h:Turn b w w'):KB w w':=⟨Nat.le_of_eq h.size.symm,fun g c et fr hg _=>by
 obtain⟨es,k,hb⟩:=h.was
 exact (h.block g (fun e=>by rw[e,hb] at hg;cases hg)).trans hg⟩
theorem KB.grown {w w':World} {base size k:Nat} {e:TypeId} {v:Value} {xs:List Value} (hv:w.ownsRow base e size v k xs) (he:e≠5/\e≠9) (hg:w.grownBy w' v.ownBlock):KB w w':=⟨hg.size,fun g c et fr hb het=>by
 refine (hg.block g (Array.getElem?_eq_some_iff.1 hb).1 (not_own hv hb ?_)).trans hb
 rcases het with rfl | rfl
 ·exact fun e=>he.1 e.symm
 ·exact fun e=>he.2 e.symm⟩
def TyL (w:World) (ao:Option Addr) (l:List UInt8):Prop:=SlL w ao l /\ ∀ a,ao=some a -> ∃ c fr,w.heap[a.block]?=some (Obj.cells c 5 fr)
def TyS (w:World) (ao:Option Addr) (n:List (List UInt8)):Prop:=SlS w ao n /\ ∀ a,ao=some a -> ∃ c fr,w.heap[a.block]?=some (Obj.cells c 9 fr)
theorem TyL.kb {w w':World} {ao:Option Addr} {l:List UInt8} (h:TyL w ao l) (k:KB w w'):TyL w' ao l:=by
 refine⟨fun hn=>?_,fun a e=>?_⟩
 ·obtain⟨b,o,e,hlt,hc⟩:=h.1 hn
  obtain⟨c,fr,hb⟩:=h.2 _ e
  have hb:w.heap[b]?=some (Obj.cells c 5 fr):=hb
  refine⟨b,o,e,Nat.lt_of_lt_of_le hlt k.size,fun j hj=>?_⟩
  rw[<- hc j hj]
  exact World.cell?_of_block ((k.rows _ _ _ _ hb (Or.inl rfl)).trans hb.symm)
 ·obtain⟨c,fr,hb⟩:=h.2 a e
  exact⟨c,fr,k.rows _ _ _ _ hb (Or.inl rfl)⟩
theorem TyS.kb {w w':World} {ao:Option Addr} {l:List (List UInt8)} (h:TyS w ao l) (k:KB w w'):TyS w' ao l:=by
 refine⟨fun hn=>?_,fun a e=>?_⟩
 ·obtain⟨b,o,e,hlt,hc⟩:=h.1 hn
  obtain⟨c,fr,hb⟩:=h.2 _ e
  have hb:w.heap[b]?=some (Obj.cells c 9 fr):=hb
  refine⟨b,o,e,Nat.lt_of_lt_of_le hlt k.size,fun j hj=>?_⟩
  rw[<- hc j hj]
  exact World.cell?_of_block ((k.rows _ _ _ _ hb (Or.inr rfl)).trans hb.symm)
 ·obtain⟨c,fr,hb⟩:=h.2 a e
  exact⟨c,fr,k.rows _ _ _ _ hb (Or.inr rfl)⟩
def EB (w:World) (l:List UInt8) (us:List Value):Prop := ∃ a c,us = [.slice a l.length c]/\TyL w a l/\(a=none->c=0)/\l.length<=c
def EN (w:World) (n:List (List UInt8)) (us:List Value):Prop := ∃ a c,us = [.slice a n.length c]/\TyS w a n/\(a=none->c=0)/\n.length<=c
theorem EB.kb {w w':World} {l:List UInt8} {us:List Value} (h:EB w l us) (k:KB w w'):EB w' l us:=by
 obtain⟨a,c,h1,h2,h3⟩:=h;exact⟨a,c,h1,h2.kb k,h3⟩
theorem EN.kb {w w':World} {l:List (List UInt8)} {us:List Value} (h:EN w l us) (k:KB w w'):EN w' l us:=by
 obtain⟨a,c,h1,h2,h3⟩:=h;exact⟨a,c,h1,h2.kb k,h3⟩
structure Els {α : Type} (sz:Nat) (E:World -> α -> List Value->Prop) (w:World) (L:List α) (vss:List (List Value)):Prop where
 len:vss.length=L.length
 el : ∀ (j:Nat) (x : α) (us:List Value),L[j]?=some x->vss[j]?=some us->us.length=sz/\(∀ u∈us,u.oneCell'=true)/\E w x us
theorem Els.nil {α : Type} (sz:Nat) (E:World -> α -> List Value->Prop) (w:World):Els sz E w [] []:=⟨rfl,fun j x us h=>by simp at h⟩
theorem Els.kb {α : Type} {sz:Nat} {E:World -> α -> List Value->Prop} {w w':World} {L:List α} {vss:List (List Value)} (h:Els sz E w L vss) (hE : ∀ x us,E w x us->E w' x us):Els sz E w' L vss :=
 ⟨h.len,fun j x us h1 h2=>⟨(h.el j x us h1 h2).1,(h.el j x us h1 h2).2.1,hE x us (h.el j x us h1 h2).2.2⟩⟩
theorem Els.app {α : Type} {sz:Nat} {E:World -> α -> List Value->Prop} {w:World} {L L2:List α} {vss vss2:List (List Value)} (h:Els sz E w L vss) (h2:Els sz E w L2 vss2):Els sz E w (L++L2) (vss++vss2):=by
 refine⟨by rw[List.length_append,List.length_append,h.len,h2.len],fun j x us h3 h4=>?_⟩
 by_cases hj:j<L.length
 ·rw[List.getElem?_append_left hj] at h3
  rw[List.getElem?_append_left (by rw[h.len];exact hj)] at h4
  exact h.el j x us h3 h4
 ·rw[List.getElem?_append_right (by omega)] at h3
  rw[List.getElem?_append_right (by rw[h.len];omega),h.len] at h4
  exact h2.el _ x us h3 h4
theorem Els.one {α : Type} {sz:Nat} {E:World -> α -> List Value->Prop} {w:World} {x : α} {us:List Value} (h1:us.length=sz) (h2 : ∀ u∈us,u.oneCell'=true) (h3:E w x us):Els sz E w [x] [us]:=by
 refine⟨rfl,fun j y vs hy hv=>?_⟩
 cases j with
 | zero=>simp at hy hv;subst hy;subst hv;exact⟨h1,h2,h3⟩
 | succ j=>simp at hy
theorem flat_get {sz:Nat} : ∀ (vss:List (List Value)),(∀ us∈vss,us.length=sz) -> ∀ (j t:Nat) (us:List Value),vss[j]?=some us->t<sz->vss.flatten[j*sz+t]?=us[t]?
 | [],_,j,t,us,h,_=>by simp at h
 | vs::vss,hl,0,t,us,h,ht=>by
  simp at h;subst h
  rw[List.flatten_cons,Nat.zero_mul,Nat.zero_add,List.getElem?_append_left (by rw[hl vs (by simp)];exact ht)]
 | vs::vss,hl,j+1,t,us,h,ht=>by
  have h':vss[j]?=some us:=by simpa using h
  have hv:=hl vs (by simp)
  rw[List.flatten_cons,List.getElem?_append_right (by rw[hv,Nat.succ_mul];omega),hv]
  rw[show (j+1)*sz+t - sz=j*sz+t by rw[Nat.succ_mul];omega]
  exact flat_get vss (fun us h=>hl us (by simp[h])) j t us h' ht
theorem Els.sizes {α : Type} {sz:Nat} {E:World -> α -> List Value->Prop} {w:World} {L:List α} {vss:List (List Value)} (h:Els sz E w L vss):(∀ us∈vss,us.length=sz)/\(∀ u∈vss.flatten,u.oneCell'=true)/\vss.flatten.length=L.length*sz:=by
 have key : ∀ us∈vss,us.length=sz /\ ∀ u∈us,u.oneCell'=true:=fun us hus=>by
  obtain⟨j,hj,rfl⟩:=List.getElem_of_mem hus
  have h1:vss[j]?=some vss[j]:=List.getElem?_eq_getElem hj
  have h2:L[j]?=some (L[j]'(by rw[<- h.len];exact hj)):=List.getElem?_eq_getElem _
  have:=h.el j _ _ h2 h1
  exact⟨this.1,this.2.1⟩
 refine⟨fun us hus=>(key us hus).1,fun u hu=>?_,?_⟩
 ·obtain⟨us,h1,h2⟩:=List.mem_flatten.1 hu;exact (key us h1).2 u h2
 ·rw[<- h.len]
  have : ∀ l:List (List Value),(∀ us∈l,us.length=sz)->l.flatten.length=l.length*sz:=fun l=>by
   induction l with
   | nil=>intro _;simp
   | cons a l ih =>
    intro hl
    rw[List.flatten_cons,List.length_append,ih (fun us h=>hl us (by simp[h])),hl a (by simp),List.length_cons,Nat.succ_mul];omega
  exact this vss fun us hus=>(key us hus).1
def OwnL {α : Type} (et:TypeId) (sz:Nat) (E:World -> α -> List Value->Prop) (w:World) (base:Nat) (v:Value) (L:List α):Prop :=
 ∃ vss,w.ownsRow base et sz v L.length vss.flatten/\Els sz E w L vss
theorem OwnL.nil {α : Type} (et:TypeId) (sz:Nat) (E:World -> α -> List Value->Prop) (w:World) (base:Nat):OwnL et sz E w base (.slice none 0 0) ([]:List α):=⟨[],World.ownsRow_nil _ _ _ _,Els.nil _ _ _⟩
theorem OwnL.slice {α : Type} {et:TypeId} {sz:Nat} {E:World -> α -> List Value->Prop} {w:World} {base:Nat} {v:Value} {L:List α} (h:OwnL et sz E w base v L) : ∃ a c,v = .slice a L.length c/\(a=none->c=0)/\L.length<=c:=by
 obtain⟨vss,h,_⟩:=h
 rcases h.2 with⟨rfl,h2⟩ | ⟨g,cap,cur,rfl,_,_,h3,_⟩
 ·exact⟨none,0,by rw[h2],fun _=>rfl,by omega⟩
 ·exact⟨_,cap,rfl,fun e=>(by cases e),h3⟩
theorem OwnL.low {α : Type} {et:TypeId} {sz:Nat} {E:World -> α -> List Value->Prop} {w:World} {base base':Nat} {v:Value} {L:List α} (h:OwnL et sz E w base v L) (hb:base'<=base):OwnL et sz E w base' v L:=by
 obtain⟨vss,h,h2⟩:=h;exact⟨vss,ownsRow_base h hb,h2⟩
theorem OwnL.kept {α : Type} {et:TypeId} {sz:Nat} {E:World -> α -> List Value->Prop} {w w':World} {base:Nat} {v:Value} {L:List α} (h:OwnL et sz E w base v L) (hE : ∀ x us,E w x us->E w' x us) (hk : ∀ (g:Nat) (c:Array Value) (fr:Nat × Nat),base<=g->w.heap[g]?=some (Obj.cells c et fr)->w'.heap[g]?=w.heap[g]?):OwnL et sz E w' base v L:=by
 obtain⟨vss,h,h2⟩:=h
 refine⟨vss,⟨h.1,?_⟩,h2.kb hE⟩
 rcases h.2 with h3 | ⟨g,cap,cur,e,h3,h4,h5⟩
 ·exact Or.inl h3
 ·exact Or.inr ⟨g,cap,cur,e,h3,(hk g cur _ h3 h4).trans h4,h5⟩
theorem OwnL.bel {α : Type} {et:TypeId} {sz:Nat} {E:World -> α -> List Value->Prop} {w w':World} {base:Nat} {v:Value} {L:List α} (h:OwnL et sz E w base v L) (hE : ∀ x us,E w x us->E w' x us) (hb:Below w.heap.size w w'):OwnL et sz E w' base v L :=
 h.kept hE fun g _ _ _ hg=>hb.block g (Array.getElem?_eq_some_iff.1 hg).1
theorem OwnL.get {α : Type} {et:TypeId} {sz:Nat} {E:World -> α -> List Value->Prop} {w:World} {base:Nat} {L:List α} {a:Option Addr} {n c:Nat} (h:OwnL et sz E w base (.slice a n c) L) (hn:0<L.length) : ∃ g,a=some ⟨g,0,none⟩/\base<=g/\g<w.heap.size/\(∃ cur,w.heap[g]?=some (Obj.cells cur et)) /\
 ∀ j x,L[j]?=some x -> ∃ us,us.length=sz/\E w x us /\ ∀ t,t<sz->w.cell? ⟨g,j*sz+t,none⟩=us[t]?:=by
 obtain⟨vss,h,h2⟩:=h
 rcases h.2 with⟨_,h3⟩ | ⟨g,cap,cur,e,h3,h4,h5⟩
 ·omega
 ·injection e with e1 e2 e3
  subst e1;subst e2;subst e3
  refine⟨g,rfl,h3,(Array.getElem?_eq_some_iff.1 h4).1,⟨cur,h4⟩,fun j x hx=>?_⟩
  have hj:j<vss.length:=by rw[h2.len];exact (List.getElem?_eq_some_iff.1 hx).1
  have h6:vss[j]?=some vss[j]:=List.getElem?_eq_getElem hj
  obtain⟨h7,h8,h9⟩:=h2.el j x _ hx h6
  refine⟨_,h7,h9,fun t ht=>?_⟩
  rw[World.ownsRow.cellAt h _ (by
   have h10:j+1<=L.length:=by have:=h2.len;omega
   have h11:(j+1)*sz<=L.length*sz:=Nat.mul_le_mul_right _ h10
   rw[Nat.succ_mul] at h11;omega),flat_get vss h2.sizes.1 j t _ h6 ht]
theorem owns_below {w w':World} {base size k:Nat} {e:TypeId} {v:Value} {xs:List Value} (hv:w.ownsRow base e size v k xs) (hg:w.grownBy w' v.ownBlock) (hb:base<=w.heap.size):Below base w w':=by
 refine⟨hg.os,hg.tape,hg.output,hg.size,fun i hi=>hg.block i (by omega) fun e=>?_⟩
 rcases hv.2 with⟨rfl,_⟩ | ⟨g,cap,cur,rfl,h1,_⟩
 ·simp[Value.ownBlock] at e
 ·have e2:i=g:=by simpa [Value.ownBlock] using e
  omega
theorem wpList_appL {α : Type} {et:TypeId} {sz:Nat} {E:World -> α -> List Value->Prop} {w:World} {ops:Array Oper} {rest:List Oper} {o:Oper} {a:Act} {Q:Exit->Act->World->Prop} (hgd:o.guard=none) (s x:Operand) (st:TypeId)
 (ho:o.op = .call { callee := .builtin .append,args := #[s,x],argTypes := #[st,st] }) (hu:Tryz.prog.underlying st=some (.slice et)) (z:Value) (bytes:Nat) (hie : ∃ i,Tryz.prog.info? et=some i/\i.zero=some z/\i.size=sz/\i.bytes=bytes) (hzc:z.cells.size=sz) (hsz:0<sz) (hby:bytes<=200) (hne:et≠5/\et≠9)
 (base:Nat) (v:Value) (L:List α) (hs:a.eval s=v) (hown:OwnL et sz E w base v L) (ad:Addr) (c:Nat) (y : α) (us:List Value) (hx:a.eval x = .slice (some ad) 1 c) (hr : ∀ j u,us[j]?=some u->w.cell? (ad.add j)=some u) (hlen:us.length=sz) (hone : ∀ u∈us,u.oneCell'=true) (hEy:E w y us)
 (hEk : ∀ w' x us,KB w w'->E w x us->E w' x us) (hbound:L.length<=1000000) (hbase:base<=w.heap.size)
 (h : ∀ v' w',OwnL et sz E w' base v' (L ++ [y])->w.grownBy w' v.ownBlock->KB w w'->Below base w w'->wpList Tryz.prog ops Q rest (a.put o.dst v') w'):wpList Tryz.prog ops Q (o::rest) a w:=by
 obtain⟨i0,hi,hz0,hz1,hz2⟩:=hie
 obtain⟨vss,hv,hE⟩:=hown
 have hmul:(L.length+1)*bytes<=1000001*200:=Nat.mul_le_mul (by omega) hby
 refine wpList_append_own w hgd s x st ho base et i0 z sz bytes hu hi hz0 hz1 hz2 hzc hsz v L.length vss.flatten hs hv ad 1 c us hx (by omega) hr hone (by unfold maxLen;omega) (by omega) hbase ?_
 intro v' w' h1 h2 _
 have hk:=KB.grown hv hne h2
 refine h v' w' ⟨vss ++ [us],?_,(hE.kb fun x us=>hEk w' x us hk).app (Els.one hlen hone (hEk w' y us hk hEy))⟩ h2 hk (owns_below hv h2 hbase)
 rw[List.length_append,List.length_singleton,List.flatten_append,List.flatten_cons,List.flatten_nil,List.append_nil]
 exact h1
theorem infoBs:(Tryz.prog.info? 37).map (fun i=>(i.zero,i.size,i.bytes))=some (some (.slice none 0 0),1,24):=by kernel_rfl
theorem infoNs:(Tryz.prog.info? 28).map (fun i=>(i.zero,i.size,i.bytes))=some (some (.slice none 0 0),1,24):=by kernel_rfl
theorem OwnB.ty {w:World} {base:Nat} {v:Value} {l:List UInt8} (h:OwnB w base v l) : ∃ a c,v = .slice a l.length c/\TyL w a l/\(a=none->c=0)/\l.length<=c:=by
 obtain⟨a,c,e,h1,h2,h3,_⟩:=h.open
 refine⟨a,c,e,⟨h1,fun ad ea=>?_⟩,h2,h3⟩
 have h0:w.ownsRow base 5 1 v l.length (vb l):=h
 rcases h0.2 with⟨e1,_⟩ | ⟨g,cap,cur,e1,_,hgb,_⟩
 ·rw[e] at e1;injection e1 with e1;rw[e1] at ea;cases ea
 ·rw[e] at e1;injection e1 with e1;rw[e1] at ea;injection ea with ea;subst ea;exact⟨cur,_,hgb⟩
theorem OwnS.ty {w:World} {base:Nat} {v:Value} {n:List (List UInt8)} (h:OwnS w base v n) : ∃ a c,v = .slice a n.length c/\TyS w a n/\(a=none->c=0)/\n.length<=c:=by
 obtain⟨a,c,e,h1,h2,h3,_⟩:=h.open
 refine⟨a,c,e,⟨h1,fun ad ea=>?_⟩,h2,h3⟩
 have h0:w.ownsRow base 9 1 v n.length (vs n):=h
 rcases h0.2 with⟨e1,_⟩ | ⟨g,cap,cur,e1,_,hgb,_⟩
 ·rw[e] at e1;injection e1 with e1;rw[e1] at ea;cases ea
 ·rw[e] at e1;injection e1 with e1;rw[e1] at ea;injection ea with ea;subst ea;exact⟨cur,_,hgb⟩
end Go.Proofs.YtmbcegljmhcdeaaGreat
