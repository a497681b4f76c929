/- slices.Backward of a name, as an iterator: its labels, the last one first. -/
import Derived.Test.YtmbcegljmhcdeaaGreatDat
import Derived.Test.YtmbcegljmhcdeaaGreatSg
import Derived.Maps.OwnSet
import Derived.Maps.Views
import Derived.Maps.RangeWalk
import Derived.StringKeys
import Derived.Test.YtmbcegljmhcdeaaGreatSh
import Derived.Test.YtmbcegljmhcdeaaGreatNmA
import Derived.RangeFuncNested
import Derived.RangeFuncBound
import Derived.RangeFuncCalls
import Derived.RangeFuncLeaves
import Derived.Shelf.Abstract
import Derived.Shelf.RegionOpen
import Derived.WalkKit
import Derived.OwnWalkIn
import Derived.TacticsInMore
import Derived.LoopNIn
import Derived.LoopIn
namespace Go.Proofs.YtmbcegljmhcdeaaGreat
set_option maxRecDepth 5000
open Go.RowKit Go.Shelf
def HR:Value->Option (DataW Value × List MemPlace):=fun v=>some (.held v, [])
structure MapV (D:DataW Value) (f:Lit->Option Value):Prop where
 isMap:Maps.IsMap D
 has : ∀ k,Maps.has D k=(f k).isSome
 val : ∀ (k:Lit) (z:Value),D.atKey k (.held z) = .held ((f k).getD z)
def fput (f:Lit->Option Value) (k:Lit) (v:Value):Lit->Option Value:=fun j=>if j.sameKey k=true then some v else f j
theorem same_ne {j k:Lit} (h:j≠k) : ¬ j.sameKey k=true:=fun e=>h (WideAt.sameKey_eq e)
theorem fput_same (f:Lit->Option Value) {k:Lit} (hk:WideAt.IsKeyLit k) (v:Value):fput f k v k=some v:=by unfold fput;rw[if_pos (WideAt.sameKey_self hk)]
theorem fput_other (f:Lit->Option Value) {j k:Lit} (h:j≠k) (v:Value):fput f k v j=f j:=by unfold fput;rw[if_neg (same_ne h)]
theorem MapV.nil:MapV (.map []) (fun _=>none):=⟨Maps.isMap_empty,fun _=>rfl,fun _ _=>rfl⟩
theorem MapV.put {D:DataW Value} {f:Lit->Option Value} (h:MapV D f) (k:Lit) (hk:WideAt.IsKeyLit k) (v:Value):MapV (D.put k (.held v)) (fput f k v):=by
 refine⟨h.isMap.put _ _,fun j=>?_,fun j z=>?_⟩
 ·by_cases e:j=k
  ·subst e;rw[Maps.has_put_same h.isMap hk,fput_same f hk];rfl
  ·rw[Maps.has_put_other e,h.has,fput_other f e]
 ·by_cases e:j=k
  ·subst e;rw[Maps.atKey_put_same h.isMap hk,fput_same f hk];rfl
  ·rw[Maps.atKey_put_other e,h.val,fput_other f e]
def MapAt (k:TypeId) (w:World) (b:Nat) (f:Lit->Option Value) (K:Nat):Prop := ∃ D,w.ownsMap Tryz.prog k HR b K D/\MapV D f
theorem MapAt.mono {k:TypeId} {w:World} {b K K':Nat} {f:Lit->Option Value} (h:MapAt k w b f K) (hk:K<=K'):MapAt k w b f K':=by
 obtain⟨D,h1,h2⟩:=h;exact⟨D,h1.mono hk,h2⟩
theorem MapAt.heap {k:TypeId} {w w':World} {b K:Nat} {f:Lit->Option Value} (h:MapAt k w b f K) (hb:w'.heap[b]?=w.heap[b]?):MapAt k w' b f K:=by
 obtain⟨D,⟨es,clock,h1,h2⟩,hv⟩:=h
 exact⟨D,⟨es,clock,hb.trans h1,h2⟩,hv⟩
theorem MapAt.obj {k:TypeId} {w:World} {b K:Nat} {f:Lit->Option Value} (h:MapAt k w b f K) : ∃ es clock,w.heap[b]?=some (.map es clock):=by
 obtain⟨D,⟨es,clock,h1,_⟩,_⟩:=h;exact⟨es,clock,h1⟩
theorem MapAt.lt {k:TypeId} {w:World} {b K:Nat} {f:Lit->Option Value} (h:MapAt k w b f K):b<w.heap.size:=by
 obtain⟨D,h1,_⟩:=h;exact h1.lt
theorem MapAt.row_ne {k:TypeId} {w:World} {b K g:Nat} {f:Lit->Option Value} (h:MapAt k w b f K) {c:Array Value} {t:TypeId} {fr:Nat × Nat} (hg:w.heap[g]?=some (.cells c t fr)):g≠b:=fun e=>by
 obtain⟨es,clock,h1⟩:=h.obj
 rw[e,h1] at hg;cases hg
theorem MapAt.made (k:TypeId) (w:World):MapAt k (w.alloc (.map #[] 0)) w.heap.size (fun _=>none) 0:=⟨_,World.ownsMap_made w _ _ _,MapV.nil⟩
theorem MapAt.congr {k:TypeId} {w:World} {b K:Nat} {f g:Lit->Option Value} (h:MapAt k w b f K) (e : ∀ x,f x=g x):MapAt k w b g K:=(funext e:f=g) ▸ h
theorem MapAt.look {t k e:TypeId} {w:World} {b K:Nat} {f:Lit->Option Value} (h:MapAt k w b f K) (hK:Maps.Keyed Tryz.prog k) (hu:Tryz.prog.underlying t=some (.map k e)) {z:Value} (hz:(zeroValue e).run Tryz.prog w = .ok z w) {key:Value} {kl:Lit} (hk:keyOf Tryz.prog k key=some kl) :
 (Instr.lookup t (.map (some b)) key true).run Tryz.prog w = .ok (.tuple #[(f kl).getD z,.bool (f kl).isSome]) w:=by
 obtain⟨D,h1,hv⟩:=h
 obtain⟨v,ps,hrun,hR⟩:=h1.look_ok hK hu hz (zd := .held z) (zp := []) rfl hk
 rw[hv.val kl] at hR
 simp only[HR,Option.some.injEq,Prod.mk.injEq,DataW.held.injEq] at hR
 rw[hrun,hv.has kl,hR.1]
theorem MapAt.get {t k e:TypeId} {w:World} {b K:Nat} {f:Lit->Option Value} (h:MapAt k w b f K) (hK:Maps.Keyed Tryz.prog k) (hu:Tryz.prog.underlying t=some (.map k e)) {z:Value} (hz:(zeroValue e).run Tryz.prog w = .ok z w) {key:Value} {kl:Lit} (hk:keyOf Tryz.prog k key=some kl) :
 (Instr.lookup t (.map (some b)) key false).run Tryz.prog w = .ok ((f kl).getD z) w:=by
 obtain⟨D,h1,hv⟩:=h
 obtain⟨v,ps,hrun,hR⟩:=h1.lookup hK hu hz (zd := .held z) (zp := []) rfl hk
 rw[hv.val kl] at hR
 simp only[HR,Option.some.injEq,Prod.mk.injEq,DataW.held.injEq] at hR
 rw[hrun,hR.1]
structure Turn (b:Nat) (w w':World):Prop where
 os:w'.os=w.os
 tape:w'.tape=w.tape
 output:w'.output=w.output
 size:w'.heap.size=w.heap.size
 block : ∀ i,i≠b->w'.heap[i]?=w.heap[i]?
 was : ∃ es clock,w.heap[b]?=some (.map es clock)
 is_ : ∃ es clock,w'.heap[b]?=some (.map es clock)
theorem Turn.of {b:Nat} {w w':World} (h:w.mapTurned w' b):Turn b w w':=by
 obtain⟨es,clock,es',clock',hb,rfl⟩:=h
 refine⟨rfl,rfl,rfl,by simp[ChangeMaps.setBlock],fun i hi=>?_,⟨es,clock,hb⟩,⟨es',clock',ChangeMaps.heap_setBlock_same hb _⟩⟩
 simp only[ChangeMaps.setBlock]
 exact Array.getElem?_setIfInBounds_ne (fun e=>hi e.symm)
theorem MapAt.update {t k e:TypeId} {w:World} {b K:Nat} {f:Lit->Option Value} (h:MapAt k w b f K) (hK:Maps.Keyed Tryz.prog k) (hu:Tryz.prog.underlying t=some (.map k e)) (hn:K<=1000000) {key:Value} {kl:Lit} (hk:keyOf Tryz.prog k key=some kl) (v:Value) :
 ∃ w',(Instr.mapUpdate t (.map (some b)) key v).run Tryz.prog w = .ok () w'/\MapAt k w' b (fput f kl v) (K+1)/\Turn b w w':=by
 obtain⟨D,h1,hv⟩:=h
 obtain⟨w',hrun,ho,ht⟩:=h1.store hK hu (by unfold maxLen;omega) hk (d := .held v) (ps := []) rfl
 exact⟨w',hrun,⟨_,ho,hv.put kl (hK.key hk) v⟩,Turn.of ht⟩
theorem MapV.count {k:TypeId} {w:World} {b N:Nat} {D:DataW Value} {f:Lit->Option Value} (hK:Maps.Keyed Tryz.prog k) (ho:w.ownsMap Tryz.prog k HR b N D) (h:MapV D f) (ks:List Lit) (hn:ks.Nodup) (hm : ∀ x,x∈ks↔(f x).isSome):Maps.size D=ks.length:=by
 obtain⟨es,rfl,hp,hk⟩:=ho.entries hK
 have h1:(es.map Prod.fst).Perm ks:=by
  refine (List.perm_ext_iff_of_nodup ?_ hn).2 fun x=>?_
  ·exact List.pairwise_map.2 hp
  ·rw[hm x, <- h.has x,List.mem_map]
   constructor
   ·rintro⟨p,hp',rfl⟩
    exact List.any_eq_true.2 ⟨p,hp',WideAt.sameKey_self (hk p hp')⟩
   ·intro hx
    obtain⟨p,hp',e⟩:=List.any_eq_true.1 hx
    exact⟨p,hp',WideAt.sameKey_eq e⟩
 rw[<- h1.length_eq,List.length_map];rfl
theorem MapAt.le {k:TypeId} {w:World} {b K:Nat} {f:Lit->Option Value} (h:MapAt k w b f K) (hK:Maps.Keyed Tryz.prog k) (ks:List Lit) (hn:ks.Nodup) (hm : ∀ x,x∈ks↔(f x).isSome):ks.length<=K:=by
 obtain⟨D,h1,hv⟩:=h
 rw[<- hv.count hK h1 ks hn hm];exact h1.size_le
theorem MapAt.none_len {t k e:TypeId} {w:World} {b K:Nat} {f:Lit->Option Value} (h:MapAt k w b f K) (hK:Maps.Keyed Tryz.prog k) (hu:Tryz.prog.underlying t=some (.map k e)) (ty:TypeId) :
 ∃ n:Nat,(Builtin.len_ #[t] ty #[.map (some b)]).run Tryz.prog w = .ok (.int .i64 (n:Int)) w/\n<=K/\(n=0 ↔ ∀ x,f x=none):=by
 obtain⟨D,h1,hv⟩:=h
 refine⟨Maps.size D,h1.len hu ty,h1.size_le,?_⟩
 obtain⟨es,rfl,hp,hk⟩:=h1.entries hK
 constructor
 ·intro h0 x
  have he:es = []:=List.eq_nil_of_length_eq_zero h0
  subst he
  have:=hv.has x
  cases hx:f x with
  | none=>rfl
  | some v=>rw[hx] at this;cases this
 ·intro hx
  show es.length=0
  cases es with
  | nil=>rfl
  | cons p es =>
   have h2:Maps.has (.map (p::es)) p.1=true:=List.any_eq_true.2 ⟨p,by simp,WideAt.sameKey_self (hk p (by simp))⟩
   rw[hv.has,hx] at h2;cases h2
theorem keyedS:Maps.Keyed Tryz.prog 9:=Maps.string_keyed Tryz.underlying9
theorem keyedH:Maps.Keyed Tryz.prog 36:=Maps.int_keyed Tryz.underlying36
theorem keyS (s:List UInt8) (hs:s.length<=1000000):keyOf Tryz.prog 9 (.string ⟨s.toArray⟩)=some (.string s):=by
 have h:=WideMaps.keyOf_string_mk (P:=Tryz.prog) Tryz.underlying9 (s:=⟨s.toArray⟩) (by show s.toArray.size<=maxLen;unfold maxLen;simp;omega)
 simpa using h
theorem keyH (t:Nat) (ht:t<65536):keyOf Tryz.prog 36 (.int .u16 (t:Int))=some (.int .u16 (t:Int)):=by
 refine Maps.keyOf_int_mk Tryz.underlying36 ?_
 have h1:IntKind.u16.min=0:=by decide
 have h2:IntKind.u16.max=65535:=by decide
 simp only[Lit.wf,Bool.and_eq_true,decide_eq_true_eq,h1,h2];omega
open Go.RowKit Go.Shelf
theorem asc_strs (l:List (List UInt8)) (h:l.Pairwise (· < ·)):l.mergeSort (fun x y=>decide (x<=y))=l :=
 List.mergeSort_of_pairwise (h.imp fun {a b} hab=>by simpa using List.le_of_lt hab)
theorem asc_nodup {l:List (List UInt8)} (h:l.Pairwise (· < ·)):l.Nodup:=List.Pairwise.imp (R:=(· < ·)) (S:=(· ≠ ·)) (fun {a b} (hab:a<b) (e:a=b)=>List.lt_irrefl a (by rw[<- e] at hab;exact hab)) h
theorem sortsS (m:Nat):AnyZ.SortsIn Tryz.prog Tryz.sortedSA_ren Fence.wide m :=
 ⟨fun blk off cap ss W hH hblk hsz=>callsIn_wide.2 (AnyM.slices_Sort_string Tryz.sortSA blk off cap ss W hH hblk hsz),
  fun p cap W=>callsIn_wide.2 (AnyM.slices_Sort_string_none Tryz.sortSA p cap W)⟩
theorem MapV.permS {w:World} {b N:Nat} {D:DataW Value} {f:Lit->Option Value} (ho:w.ownsMap Tryz.prog 9 HR b N D) (h:MapV D f) (ks:List (List UInt8)) (ha:ks.Pairwise (· < ·)) (hm : ∀ x,x∈ks↔(f (.string x)).isSome):ks.Perm (strKeys D):=by
 obtain⟨es,rfl,hp,hk⟩:=ho.entries keyedS
 obtain⟨es',e,hk2⟩:=ho.keysOf
 injection e with e;subst e
 refine perm_strKeys hp (fun p hp'=>?_) (asc_nodup ha) fun x=>?_
 ·obtain⟨v,hv⟩:=hk2 p hp'
  obtain⟨x,_,e,_⟩:=Maps.keyOf_str Tryz.underlying9 hv
  exact⟨x,e⟩
 ·rw[hm x,h.has]
theorem sortedN_any (w:World) (b K:Nat) (f:Lit->Option Value) (h:MapAt 9 w b f K) (hK:K<=1000000) (ks:List (List UInt8)) (ha:ks.Pairwise (· < ·)) (hm : ∀ x,x∈ks↔(f (.string x)).isSome) :
 Calls Tryz.prog 96 #[.func (.func 128) #[] #[.pointer (some ⟨w.heap.size,0,none⟩)]] (w.alloc (.cells #[.map (some b)] 105)) fun e w' => ∃ v,e = .returned v /\
  OwnS w' (w.heap.size+1) v ks/\Below (w.heap.size+1) (w.alloc (.cells #[.map (some b)] 105)) w':=by
 obtain⟨D,hown,hv⟩:=h
 have hbl:=hown.lt
 have hs:=hown.size_le
 have hp:=hv.permS hown ks ha hm
 refine (callsIn_wide (n:=5)).1 ?_
 have hseq:SeqGives Fence.wide 2 Tryz.prog 128 #[.pointer (some ⟨w.heap.size,0,none⟩)] encStr (fun ss=>ss.Perm (strKeys D)) (Maps.size D) (w.alloc (.cells #[.map (some b)] 105)) :=
  AnyZ.keys_gives (ρ := Tryz.keysNA_ren) { Tryz.keysNA with } Fence.wide _ trivial rfl (by omega) w.heap.size b K D _ (by simp) (by simp) (by
   obtain⟨es,clock,hb,Ft,hs,hD⟩:=hown
   exact⟨es,clock,(Below.heap_alloc _ _ b hbl).trans hb,Ft,hs,hD⟩)
 have cS:=AnyZ.sorted_in Tryz.sortedSA Fence.wide 5 trivial trivial trivial trivial rfl (by omega) (sortsS _) (enters_of Tryz.func127 (by kernel_rfl) rfl) 128 #[.pointer (some ⟨w.heap.size,0,none⟩)] trivial (enters_of Tryz.func128 (by kernel_rfl) rfl) _ _ (by unfold maxLen;omega) (by omega) _ hseq
 refine cS.mono ?_
 rintro e w' ⟨v,ss,rfl,hS,hrow,hnil,hb⟩
 have e1:ss.mergeSort (fun x y=>decide (x<=y))=ks:=by
  rw[<- asc_strs _ ha]
  exact mergeSort_of_perm (hS.trans hp.symm)
 have e2:ss.length=ks.length:=(hS.trans hp.symm).length_eq
 rw[e1,e2] at hrow
 refine⟨v,rfl,?_,?_⟩
 ·have e3:(w.alloc (.cells #[.map (some b)] 105)).heap.size=w.heap.size+1:=by simp
  rw[e3] at hrow
  exact hrow
 ·simpa using hb
theorem keysD_any (mb:Option Nat) (W:World):Calls Tryz.prog 99 #[.map mb] W fun e w'=>e = .returned (.func (.func 130) #[] #[.pointer (some ⟨W.heap.size,0,none⟩)])/\w'=W.alloc (.cells #[.map mb] 100) :=
 (callsIn_wide (n:=5)).1 (AnyZ.keys_in Tryz.keysDA Fence.wide 5 trivial rfl mb W)
theorem sortedD_any (w:World) (b K:Nat) (f:Lit->Option Value) (h:MapAt 9 w b f K) (hK:K<=1000000) (ks:List (List UInt8)) (ha:ks.Pairwise (· < ·)) (hm : ∀ x,x∈ks↔(f (.string x)).isSome) :
 Calls Tryz.prog 96 #[.func (.func 130) #[] #[.pointer (some ⟨w.heap.size,0,none⟩)]] (w.alloc (.cells #[.map (some b)] 100)) fun e w' => ∃ v,e = .returned v /\
  OwnS w' (w.heap.size+1) v ks/\Below (w.heap.size+1) (w.alloc (.cells #[.map (some b)] 100)) w':=by
 obtain⟨D,hown,hv⟩:=h
 have hbl:=hown.lt
 have hs:=hown.size_le
 have hp:=hv.permS hown ks ha hm
 refine (callsIn_wide (n:=5)).1 ?_
 have hseq:SeqGives Fence.wide 2 Tryz.prog 130 #[.pointer (some ⟨w.heap.size,0,none⟩)] encStr (fun ss=>ss.Perm (strKeys D)) (Maps.size D) (w.alloc (.cells #[.map (some b)] 100)) :=
  AnyZ.keys_gives (ρ := Tryz.keysDA_ren) { Tryz.keysDA with } Fence.wide _ trivial rfl (by omega) w.heap.size b K D _ (by simp) (by simp) (by
   obtain⟨es,clock,hb,Ft,hs,hD⟩:=hown
   exact⟨es,clock,(Below.heap_alloc _ _ b hbl).trans hb,Ft,hs,hD⟩)
 have cS:=AnyZ.sorted_in Tryz.sortedSA Fence.wide 5 trivial trivial trivial trivial rfl (by omega) (sortsS _) (enters_of Tryz.func127 (by kernel_rfl) rfl) 130 #[.pointer (some ⟨w.heap.size,0,none⟩)] trivial (enters_of Tryz.func130 (by kernel_rfl) rfl) _ _ (by unfold maxLen;omega) (by omega) _ hseq
 refine cS.mono ?_
 rintro e w' ⟨v,ss,rfl,hS,hrow,hnil,hb⟩
 have e1:ss.mergeSort (fun x y=>decide (x<=y))=ks:=by
  rw[<- asc_strs _ ha]
  exact mergeSort_of_perm (hS.trans hp.symm)
 have e2:ss.length=ks.length:=(hS.trans hp.symm).length_eq
 rw[e1,e2] at hrow
 refine⟨v,rfl,?_,?_⟩
 ·have e3:(w.alloc (.cells #[.map (some b)] 100)).heap.size=w.heap.size+1:=by simp
  rw[e3] at hrow
  exact hrow
 ·simpa using hb
theorem nclone_nil (w:World) (n c:Nat):Calls Tryz.prog 56 #[.slice none n c] w fun e w'=>e = .returned (.slice none 0 0)/\w'=w:=AnyE.slices_Clone_nil Tryz.nCloneA n c w
theorem bclone_any (w:World) (ao:Option Addr) (c:Nat) (l:List UInt8) (hl2:l.length<=1000000) (hs:SlL w ao l) (hn:ao=none->c=0) :
 Calls Tryz.prog 100 #[.slice ao l.length c] w fun e w' => ∃ v,e = .returned v/\OwnB w' w.heap.size v l/\Below w.heap.size w w':=by
 cases ao with
 | none =>
  have h0:l = []:=by
   cases l with
   | nil=>rfl
   | cons x r=>obtain⟨b,o,e,_⟩:=hs (by simp);cases e
  subst h0
  refine (Tryz.bytes_Clone_nil 0 c w).mono ?_
  rintro e w' ⟨rfl,rfl⟩
  exact⟨_,rfl,OwnB.nil _ _,Below.refl _ _⟩
 | some a =>
  refine (Tryz.bytes_Clone_at a l.length c (l.map fun x=>(x.toNat:Int)) w (by simp) (by omega) (fun i hi=>?_)).mono ?_
  ·obtain⟨b,o,e,hlt,hc⟩:=hs (by omega)
   injection e with e;subst e
   have:=hc i hi
   simp only[Addr.add]
   have e2:(if i=0 then (⟨b,o,none⟩:Addr) else ⟨b,o+i,none⟩)=⟨b,o+i,none⟩:=by
    split
    ·rename_i h0;subst h0;rfl
    ·rfl
   rw[e2,this]
   simp[List.getD,hi]
  ·rintro e w' ⟨v,rfl,h1,_,h2⟩
   refine⟨v,rfl,?_,h2⟩
   unfold OwnB
   rw[List.map_map] at h1
   exact h1
namespace Z
theorem ext_rise {α : Type} {r : α -> α -> Prop} (irr : ∀ a,¬ r a a) (asy : ∀ a b,r a b -> ¬ r b a) : ∀ {l m:List α},l.Pairwise r->m.Pairwise r->(∀ x,x∈l↔x∈m)->l=m
 | [], [],_,_,_=>rfl
 | [],b::m,_,_,h=>absurd ((h b).2 (by simp)) (by simp)
 | a::l, [],_,_,h=>absurd ((h a).1 (by simp)) (by simp)
 | a::l,b::m,hl,hm,h=>by
  rw[List.pairwise_cons] at hl hm
  have e:a=b:=by
   rcases List.mem_cons.1 ((h a).1 (by simp)) with e | ha
   ·exact e
   ·rcases List.mem_cons.1 ((h b).2 (by simp)) with e | hb
    ·exact e.symm
    ·exact absurd (hm.1 a ha) (asy _ _ (hl.1 b hb))
  subst e
  have e2:l=m:=ext_rise irr asy hl.2 hm.2 fun x=>by
   constructor
   ·intro hx
    rcases List.mem_cons.1 ((h x).1 (by simp[hx])) with e | h2
    ·subst e;exact absurd (hl.1 x hx) (irr x)
    ·exact h2
   ·intro hx
    rcases List.mem_cons.1 ((h x).2 (by simp[hx])) with e | h2
    ·subst e;exact absurd (hm.1 x hx) (irr x)
    ·exact h2
  rw[e2]
def dd1 {α : Type} [DecidableEq α] (acc:List α) (x : α):List α := if acc.getLast?=some x then acc else acc ++ [x]
theorem dd_spec {α : Type} [DecidableEq α] {r : α -> α -> Prop} (irr : ∀ a,¬ r a a) (asy : ∀ a b,r a b -> ¬ r b a) : ∀ (l acc:List α),(acc++l).Pairwise (fun a b=>r a b\/a=b)->acc.Pairwise r ->
 (l.foldl dd1 acc).Pairwise r /\ ∀ x,x∈l.foldl dd1 acc↔x∈acc\/x∈l
 | [],acc,_,h=>⟨h,by simp⟩
 | a::l,acc,hle,h=>by
  rw[List.foldl_cons]
  by_cases hx:acc.getLast?=some a
  ·have e:dd1 acc a=acc:=if_pos hx
   rw[e]
   have hs:(acc++l).Pairwise (fun a b=>r a b\/a=b):=hle.sublist (List.Sublist.append_left (List.sublist_cons_self a l) acc)
   obtain⟨h1,h2⟩:=dd_spec irr asy l acc hs h
   refine⟨h1,fun x=>?_⟩
   rw[h2 x]
   have ha:a∈acc:=List.mem_of_getLast? hx
   constructor
   ·rintro (h | h);exact Or.inl h;exact Or.inr (by simp[h])
   ·rintro (h | h)
    ·exact Or.inl h
    ·rcases List.mem_cons.1 h with rfl | h
     ·exact Or.inl ha
     ·exact Or.inr h
  ·have e:dd1 acc a=acc ++ [a]:=if_neg hx
   rw[e]
   have hr:(acc ++ [a]).Pairwise r:=by
    rw[List.pairwise_append]
    refine⟨h,List.pairwise_singleton _ _,fun b hb c hc=>?_⟩
    rw[List.mem_singleton] at hc;subst hc
    rcases (List.pairwise_append.1 hle).2.2 b hb c (by simp) with h1 | h1
    ·exact h1
    ·subst h1
     exfalso
     cases hl:acc.getLast? with
     | none=>rw[List.getLast?_eq_none_iff] at hl;subst hl;cases hb
     | some z =>
      obtain⟨ys,hz⟩:=List.getLast?_eq_some_iff.1 hl
      have hzb:z≠b:=fun e=>hx (by rw[hl,e])
      have hz2:z∈acc:=List.mem_of_getLast? hl
      have h4:r b z:=by
       rw[hz] at h hb
       rcases List.mem_append.1 hb with h5 | h5
       ·exact (List.pairwise_append.1 h).2.2 b h5 z (by simp)
       ·rw[List.mem_singleton] at h5;exact absurd h5.symm hzb
      rcases (List.pairwise_append.1 hle).2.2 z hz2 b (by simp) with h5 | h5
      ·exact asy _ _ h4 h5
      ·exact hzb h5
   obtain⟨h1,h2⟩:=dd_spec irr asy l (acc ++ [a]) (by simpa using hle) hr
   refine⟨h1,fun x=>?_⟩
   rw[h2 x];simp[or_assoc]
theorem lt_cmpB : ∀ (a b:List UInt8),a<b↔N.cmpB a b<0
 | [], []=>by simp[N.cmpB]
 | [],_::_=>by simp[N.cmpB]
 | _::_, []=>by simp[N.cmpB]
 | a::x,b::y=>by
  have hc:N.cmpB (a::x) (b::y)=if N.cmpI a.toNat b.toNat=0 then N.cmpB x y else N.cmpI a.toNat b.toNat:=rfl
  rw[hc,List.cons_lt_cons_iff,lt_cmpB x y]
  have h1:a<b↔a.toNat<b.toNat:=UInt8.lt_iff_toNat_lt
  have h2:a=b↔a.toNat=b.toNat:=UInt8.toNat_inj.symm
  rw[h1,h2]
  have h0 := @N.cmpI_zero a.toNat b.toNat
  by_cases h:N.cmpI a.toNat b.toNat=0
  ·rw[if_pos h]
   have:=h0.1 h
   constructor
   ·rintro (h3 | ⟨_,h3⟩);omega;exact h3
   ·exact fun h3=>Or.inr ⟨this,h3⟩
  ·rw[if_neg h]
   have h4:a.toNat≠b.toNat:=fun e=>h (h0.2 e)
   have h5:N.cmpI a.toNat b.toNat<0↔a.toNat<b.toNat:=by unfold N.cmpI;split <;> (try split) <;> omega
   rw[h5]
   constructor
   ·rintro (h3 | ⟨h3,_⟩);exact h3;exact absurd h3 h4
   ·exact fun h3=>Or.inl h3
def Low (p:List (List UInt8)):Prop:=N.lowN p=p
theorem Low.of (n:List (List UInt8)):Low (N.lowN n):=by
 unfold Low N.lowN;rw[List.map_map];exact List.map_congr_left fun x _=>N.lowL_low x
theorem cmpR_zero' {a b:List (List UInt8)} (ha:Low a) (hb:Low b):N.cmpR a b=0↔a=b:=by
 rw[N.cmpR_zero];unfold Low at *; rw[ha,hb]
end Z
namespace Z
structure R where
 p:List (List UInt8)
 t:Nat
 c:List UInt8
 ttl:Nat
 d:List UInt8
def cmpK (a b:R):Int:=if N.cmpR a.p b.p=0 then (if a.t=b.t then N.cmpB a.c b.c else if a.t<b.t then -1 else 1) else N.cmpR a.p b.p
def rlt (a b:R):Prop:=cmpK a b<0
theorem cmpK_neg (a b:R):cmpK b a = - cmpK a b:=by
 unfold cmpK
 have h1:=N.cmpR_neg a.p b.p
 have h2:=N.cmpB_neg a.c b.c
 by_cases h:N.cmpR a.p b.p=0
 ·rw[if_pos h,if_pos (by omega)]
  by_cases ht:a.t=b.t
  ·rw[if_pos ht,if_pos ht.symm];exact h2
  ·rw[if_neg ht,if_neg (fun e=>ht e.symm)]
   split <;> split <;> omega
 ·rw[if_neg h,if_neg (by omega)];exact h1
theorem cmpR_cong {a b:List (List UInt8)} (h:N.cmpR a b=0) (c:List (List UInt8)):N.cmpR a c=N.cmpR b c:=by
 rw[<- N.cmpR_lowN a, <- N.cmpR_lowN b,(N.cmpR_zero).1 h]
theorem rlt_trans {a b c:R} (h1:rlt a b) (h2:rlt b c):rlt a c:=by
 unfold rlt cmpK at *
 by_cases e1:N.cmpR a.p b.p=0
 ·rw[if_pos e1] at h1
  rw[cmpR_cong e1 c.p]
  by_cases e2:N.cmpR b.p c.p=0
  ·rw[if_pos e2] at h2 ⊢
   by_cases t1:a.t=b.t
   ·rw[if_pos t1] at h1
    by_cases t2:b.t=c.t
    ·rw[if_pos t2] at h2
     rw[if_pos (t1.trans t2)]
     have h3:=N.cmpB_trans (a:=a.c) (b:=b.c) (c:=c.c) (by omega) (by omega)
     by_cases h0:N.cmpB a.c c.c=0
     ·have:=N.cmpB_zero.1 h0
      rw[this] at h1
      have h4:=N.cmpB_neg c.c b.c
      omega
     ·omega
    ·rw[if_neg t2] at h2
     rw[if_neg (by omega)]
     split at h2
     ·rw[if_pos (by omega)];omega
     ·omega
   ·rw[if_neg t1] at h1
    split at h1
    ·by_cases t2:b.t=c.t
     ·rw[if_neg (by omega),if_pos (by omega)];omega
     ·rw[if_neg t2] at h2
      split at h2
      ·rw[if_neg (by omega),if_pos (by omega)];omega
      ·omega
    ·omega
  ·rw[if_neg e2] at h2 ⊢; exact h2
 ·rw[if_neg e1] at h1
  by_cases e2:N.cmpR b.p c.p=0
  ·have h3:=cmpR_cong e2 a.p
   have h4:=N.cmpR_neg a.p b.p
   have h5:=N.cmpR_neg a.p c.p
   rw[if_neg (by omega)];omega
  ·rw[if_neg e2] at h2
   have h3:=N.cmpR_trans (a:=a.p) (b:=b.p) (c:=c.p) (by omega) (by omega)
   by_cases e3:N.cmpR a.p c.p=0
   ·exfalso
    have h4:=cmpR_cong e3 b.p
    have h5:=N.cmpR_neg b.p c.p
    omega
   ·rw[if_neg e3];omega
theorem cmpK_zero {a b:R} (ha:Low a.p) (hb:Low b.p):cmpK a b=0↔a.p=b.p/\a.t=b.t/\a.c=b.c:=by
 unfold cmpK
 by_cases h:N.cmpR a.p b.p=0
 ·rw[if_pos h]
  have h1:=(cmpR_zero' ha hb).1 h
  by_cases ht:a.t=b.t
  ·rw[if_pos ht,N.cmpB_zero]
   exact⟨fun e=>⟨h1,ht,e⟩,fun e=>e.2.2⟩
  ·rw[if_neg ht]
   refine⟨fun e=>?_,fun e=>absurd e.2.1 ht⟩
   split at e <;> omega
 ·rw[if_neg h]
  exact⟨fun e=>absurd e h,fun e=>absurd ((cmpR_zero' ha hb).2 e.1) h⟩
def Lows (L:List R):Prop := ∀ x∈L,Low x.p
def isK (p:List (List UInt8)) (t:Nat) (c:List UInt8) (x:R):Bool:=decide (x.p=p) && decide (x.t=t) && decide (x.c=c)
theorem isK_iff {p:List (List UInt8)} {t:Nat} {c:List UInt8} {x:R} : isK p t c x=true↔x.p=p/\x.t=t/\x.c=c:=by simp[isK,and_assoc]
def there (L:List R) (r:R):Bool:=L.any (isK r.p r.t r.c)
theorem there_iff {L:List R} {r:R} : there L r=true ↔ ∃ x∈L,x.p=r.p/\x.t=r.t/\x.c=r.c:=by
 unfold there;rw[List.any_eq_true]
 exact⟨fun ⟨x,h,e⟩=>⟨x,h,isK_iff.1 e⟩,fun ⟨x,h,e⟩=>⟨x,h,isK_iff.2 e⟩⟩
def lead (L:List R) (r:R):List R:=L.takeWhile (fun x=>decide (cmpK x r<0))
def rear (L:List R) (r:R):List R:=L.dropWhile (fun x=>decide (cmpK x r<0))
def ins (L:List R) (r:R):List R:=lead L r++r::rear L r
theorem lead_rear (L:List R) (r:R):lead L r++rear L r=L:=List.takeWhile_append_dropWhile
theorem mem_ins {L:List R} {r x:R} : x∈ins L r↔x=r\/x∈L:=by
 unfold ins
 rw[List.mem_append,List.mem_cons]
 have h:x∈L↔x∈lead L r\/x∈rear L r:=by rw[<- List.mem_append,lead_rear]
 rw[h]
 constructor
 ·rintro (h | h | h)
  ·exact Or.inr (Or.inl h)
  ·exact Or.inl h
  ·exact Or.inr (Or.inr h)
 ·rintro (h | h | h)
  ·exact Or.inr (Or.inl h)
  ·exact Or.inl h
  ·exact Or.inr (Or.inr h)
theorem lead_lt {L:List R} {r x:R} (h:x∈lead L r):rlt x r:=by
 unfold lead at h
 have:=List.all_takeWhile (p:=fun x=>decide (cmpK x r<0)) (l:=L)
 rw[List.all_eq_true] at this
 simpa [rlt] using this x h
theorem rear_ge {L:List R} (h:L.Pairwise rlt) (r:R) : ∀ x∈rear L r,¬ rlt x r:=by
 induction L with
 | nil=>intro x hx;cases hx
 | cons a L ih =>
  rw[List.pairwise_cons] at h
  intro x hx
  unfold rear at hx
  by_cases ha:cmpK a r<0
  ·rw[List.dropWhile_cons_of_pos (by simpa using ha)] at hx
   exact ih h.2 x hx
  ·rw[List.dropWhile_cons_of_neg (by simpa using ha)] at hx
   rcases List.mem_cons.1 hx with rfl | hx'
   ·exact ha
   ·intro h2
    exact ha (rlt_trans (h.1 x hx') h2)
theorem ins_rise {L:List R} (h:L.Pairwise rlt) (hl:Lows L) {r:R} (hr:Low r.p) (hn:there L r=false):(ins L r).Pairwise rlt:=by
 unfold ins
 have hs:(lead L r++rear L r).Pairwise rlt:=by rw[lead_rear];exact h
 rw[List.pairwise_append] at hs ⊢
 refine⟨hs.1,?_,fun a ha b hb=>?_⟩
 ·rw[List.pairwise_cons]
  refine⟨fun x hx=>?_,hs.2.1⟩
  have h1:=rear_ge h r x hx
  have hx':x∈L:=by rw[<- lead_rear L r];exact List.mem_append_right _ hx
  have h2:cmpK x r≠0:=fun e=>by
   have:=(cmpK_zero (hl x hx') hr).1 e
   rw[there_iff.2 ⟨x,hx',this⟩] at hn;cases hn
  unfold rlt at h1 ⊢
  rw[cmpK_neg];omega
 ·rcases List.mem_cons.1 hb with rfl | hb'
  ·exact lead_lt ha
  ·exact hs.2.2 a ha b hb'
def setT (p:List (List UInt8)) (t ttl:Nat) (x:R):R:=if x.p=p/\x.t=t then { x with ttl:=ttl } else x
theorem setT_p (p:List (List UInt8)) (t ttl:Nat) (x:R):(setT p t ttl x).p=x.p:=by unfold setT;split <;> rfl
theorem setT_t (p:List (List UInt8)) (t ttl:Nat) (x:R):(setT p t ttl x).t=x.t:=by unfold setT;split <;> rfl
theorem setT_c (p:List (List UInt8)) (t ttl:Nat) (x:R):(setT p t ttl x).c=x.c:=by unfold setT;split <;> rfl
theorem setT_d (p:List (List UInt8)) (t ttl:Nat) (x:R):(setT p t ttl x).d=x.d:=by unfold setT;split <;> rfl
theorem setT_at (p:List (List UInt8)) (t ttl:Nat) (x:R) (h:x.p=p/\x.t=t):(setT p t ttl x).ttl=ttl:=by unfold setT;rw[if_pos h]
theorem setT_off (p:List (List UInt8)) (t ttl:Nat) (x:R) (h : ¬ (x.p=p/\x.t=t)):setT p t ttl x=x:=by unfold setT;rw[if_neg h]
def put (L:List R) (r:R):List R:=(if there L r=true then L else ins L r).map (setT r.p r.t r.ttl)
theorem setT_rise {L:List R} (h:L.Pairwise rlt) (p:List (List UInt8)) (t ttl:Nat):(L.map (setT p t ttl)).Pairwise rlt:=by
 rw[List.pairwise_map]
 refine h.imp fun {a b} hab=>?_
 unfold rlt cmpK at *
 rw[setT_p,setT_p,setT_t,setT_t,setT_c,setT_c];exact hab
theorem put_rise {L:List R} (h:L.Pairwise rlt) (hl:Lows L) {r:R} (hr:Low r.p):(put L r).Pairwise rlt:=by
 unfold put
 refine setT_rise ?_ _ _ _
 split
 ·exact h
 ·rename_i hn;exact ins_rise h hl hr (by simpa using hn)
theorem mem_put {L:List R} {r x:R} : x∈put L r ↔ ∃ y,(y∈L\/(there L r=false/\y=r))/\x=setT r.p r.t r.ttl y:=by
 unfold put
 rw[List.mem_map]
 constructor
 ·rintro⟨y,hy,rfl⟩
  refine⟨y,?_,rfl⟩
  split at hy
  ·exact Or.inl hy
  ·rename_i hn
   rcases mem_ins.1 hy with h | h
   ·exact Or.inr ⟨by simpa using hn,h⟩
   ·exact Or.inl h
 ·rintro⟨y,hy,rfl⟩
  refine⟨y,?_,rfl⟩
  split
  ·rename_i hn
   rcases hy with h | ⟨h,_⟩
   ·exact h
   ·rw[hn] at h;cases h
  ·rcases hy with h | ⟨_,h⟩
   ·exact mem_ins.2 (Or.inr h)
   ·exact mem_ins.2 (Or.inl h)
theorem put_lows {L:List R} (hl:Lows L) {r:R} (hr:Low r.p):Lows (put L r):=fun x hx=>by
 obtain⟨y,hy,rfl⟩:=mem_put.1 hx
 rw[setT_p]
 rcases hy with h | ⟨_,rfl⟩
 ·exact hl y h
 ·exact hr
theorem put_len (L:List R) (r:R):(put L r).length=if there L r=true then L.length else L.length+1:=by
 unfold put
 rw[List.length_map]
 split
 ·rfl
 ·have h:L.length=(lead L r).length+(rear L r).length:=by rw[<- List.length_append,lead_rear]
  unfold ins;rw[List.length_append,List.length_cons];omega
structure St where
 ttl:Nat
 g:List UInt8->Option (List UInt8)
structure Of (L:List R) (C:List (List UInt8)->Nat->Option St):Prop where
 no : ∀ p t,C p t=none -> ∀ x∈L,¬ (x.p=p/\x.t=t)
 ex : ∀ p t S,C p t=some S -> ∃ x∈L,x.p=p/\x.t=t
 at_ : ∀ x∈L,∀ S,C x.p x.t=some S->x.ttl=S.ttl/\S.g x.c=some x.d
 back : ∀ p t S c d,C p t=some S->S.g c=some d -> ∃ x∈L,x.p=p/\x.t=t/\x.c=c/\x.d=d
theorem Of.nil:Of [] (fun _ _=>none):=⟨fun _ _ _ x hx=>(by cases hx),fun _ _ _ h=>(by cases h),fun x hx=>(by cases hx),fun _ _ _ _ _ h=>(by cases h)⟩
theorem Of.hasS {L:List R} {C:List (List UInt8)->Nat->Option St} (h:Of L C) {x:R} (hx:x∈L) : ∃ S,C x.p x.t=some S:=by
 cases hC:C x.p x.t with
 | none=>exact absurd ⟨rfl,rfl⟩ (h.no _ _ hC x hx)
 | some S=>exact⟨S,rfl⟩
def got (C:List (List UInt8)->Nat->Option St) (p:List (List UInt8)) (t:Nat) (c:List UInt8):Option (List UInt8):=(C p t).bind (fun S=>S.g c)
theorem Of.got_there {L:List R} {C:List (List UInt8)->Nat->Option St} (h:Of L C) (r:R):(got C r.p r.t r.c).isSome=there L r:=by
 rw[Bool.eq_iff_iff,there_iff]
 unfold got
 constructor
 ·intro hs
  cases hC:C r.p r.t with
  | none=>rw[hC] at hs;cases hs
  | some S =>
   rw[hC] at hs
   obtain⟨d,hd⟩:=Option.isSome_iff_exists.1 hs
   obtain⟨x,hx,h1,h2,h3,_⟩:=h.back _ _ S r.c d hC hd
   exact⟨x,hx,h1,h2,h3⟩
 ·rintro⟨x,hx,h1,h2,h3⟩
  obtain⟨S,hS⟩:=h.hasS hx
  have:=(h.at_ x hx S hS).2
  rw[<- h1, <- h2, <- h3,hS]
  show (S.g x.c).isSome=true
  rw[this];rfl
def cput (C:List (List UInt8)->Nat->Option St) (p:List (List UInt8)) (t ttl:Nat) (c d:List UInt8):List (List UInt8)->Nat->Option St:=fun q s =>
 if q=p/\s=t then some ⟨ttl,fun x=>if x=c then some ((got C p t c).getD d) else got C p t x⟩ else C q s
theorem Of.put {L:List R} {C:List (List UInt8)->Nat->Option St} (h:Of L C) (r:R):Of (put L r) (cput C r.p r.t r.ttl r.c r.d):=by
 refine⟨fun p t hC x hx=>?_,fun p t S hC=>?_,fun x hx S hC=>?_,fun p t S c d hC hg=>?_⟩
 ·unfold cput at hC
  by_cases e:p=r.p/\t=r.t
  ·rw[if_pos e] at hC;cases hC
  ·rw[if_neg e] at hC
   obtain⟨y,hy,rfl⟩:=mem_put.1 hx
   rw[setT_p,setT_t]
   rcases hy with hy | ⟨_,rfl⟩
   ·exact h.no p t hC y hy
   ·exact fun e2=>e ⟨e2.1.symm,e2.2.symm⟩
 ·unfold cput at hC
  by_cases e:p=r.p/\t=r.t
  ·by_cases ht:there L r=true
   ·obtain⟨x,hx,h1,h2,h3⟩:=there_iff.1 ht
    exact⟨_,mem_put.2 ⟨x,Or.inl hx,rfl⟩,by rw[setT_p,h1,e.1],by rw[setT_t,h2,e.2]⟩
   ·exact⟨_,mem_put.2 ⟨r,Or.inr ⟨by simpa using ht,rfl⟩,rfl⟩,by rw[setT_p,e.1],by rw[setT_t,e.2]⟩
  ·rw[if_neg e] at hC
   obtain⟨x,hx,h1,h2⟩:=h.ex p t S hC
   exact⟨_,mem_put.2 ⟨x,Or.inl hx,rfl⟩,by rw[setT_p,h1],by rw[setT_t,h2]⟩
 ·obtain⟨y,hy,rfl⟩:=mem_put.1 hx
  rw[setT_p,setT_t] at hC
  rw[setT_c,setT_d]
  unfold cput at hC
  by_cases e:y.p=r.p/\y.t=r.t
  ·rw[if_pos e] at hC
   injection hC with hC;subst hC
   rw[setT_at _ _ _ _ e]
   refine⟨rfl,?_⟩
   show (if y.c=r.c then some ((got C r.p r.t r.c).getD r.d) else got C r.p r.t y.c)=some y.d
   rcases hy with hy | ⟨hn,rfl⟩
   ·obtain⟨S,hS⟩:=h.hasS hy
    have h2:=(h.at_ y hy S hS).2
    have h3:got C r.p r.t y.c=some y.d:=by unfold got;rw[<- e.1, <- e.2,hS];exact h2
    by_cases ec:y.c=r.c
    ·rw[if_pos ec, <- ec,h3];rfl
    ·rw[if_neg ec,h3]
   ·rw[if_pos rfl]
    have h3:=h.got_there y
    rw[hn] at h3
    have h4:got C y.p y.t y.c=none:=by
     cases hg:got C y.p y.t y.c with
     | none=>rfl
     | some d=>rw[hg] at h3;cases h3
    rw[h4];rfl
  ·rw[if_neg e] at hC
   rw[setT_off _ _ _ _ e]
   rcases hy with hy | ⟨_,rfl⟩
   ·exact h.at_ y hy S hC
   ·exact absurd ⟨rfl,rfl⟩ e
 ·unfold cput at hC
  by_cases e:p=r.p/\t=r.t
  ·rw[if_pos e] at hC
   injection hC with hC;subst hC
   have hg':(if c=r.c then some ((got C r.p r.t r.c).getD r.d) else got C r.p r.t c)=some d:=hg
   have old:got C r.p r.t c=some d -> ∃ x∈Z.put L r,x.p=p/\x.t=t/\x.c=c/\x.d=d:=fun hq=>by
    unfold got at hq
    cases hC2:C r.p r.t with
    | none=>rw[hC2] at hq;cases hq
    | some S =>
     rw[hC2] at hq
     obtain⟨x,hx,h1,h2,h3,h4⟩:=h.back _ _ S c d hC2 hq
     exact⟨_,mem_put.2 ⟨x,Or.inl hx,rfl⟩,by rw[setT_p,h1,e.1],by rw[setT_t,h2,e.2],by rw[setT_c,h3],by rw[setT_d,h4]⟩
   by_cases ec:c=r.c
   ·rw[if_pos ec] at hg'
    cases hq:got C r.p r.t r.c with
    | some d0 =>
     rw[hq] at hg'
     have:d0=d:=by simpa using hg'
     exact old (by rw[ec,hq,this])
    | none =>
     rw[hq] at hg'
     have hd:r.d=d:=by simpa using hg'
     have hn:=h.got_there r
     rw[hq] at hn
     exact⟨_,mem_put.2 ⟨r,Or.inr ⟨hn.symm,rfl⟩,rfl⟩,by rw[setT_p,e.1],by rw[setT_t,e.2],by rw[setT_c,ec],by rw[setT_d,hd]⟩
   ·rw[if_neg ec] at hg'
    exact old hg'
  ·rw[if_neg e] at hC
   obtain⟨x,hx,h1,h2,h3,h4⟩:=h.back p t S c d hC hg
   refine⟨_,mem_put.2 ⟨x,Or.inl hx,rfl⟩,by rw[setT_p,h1],by rw[setT_t,h2],by rw[setT_c,h3],by rw[setT_d,h4]⟩
end Z
open Go.RowKit
def fU (h:Nat->Option Value):Lit->Option Value
 | .int .u16 z=>if 0<=z/\z<65536 then h z.toNat else none
 | _=>none
def fS (h:List UInt8->Option Value):Lit->Option Value
 | .string s=>h s
 | _=>none
def uput (h:Nat->Option Value) (t:Nat) (v:Value):Nat->Option Value:=fun s=>if s=t then some v else h s
def sput (h:List UInt8->Option Value) (t:List UInt8) (v:Value):List UInt8->Option Value:=fun s=>if s=t then some v else h s
theorem fU_at (h:Nat->Option Value) (t:Nat) (ht:t<65536):fU h (.int .u16 (t:Int))=h t:=by
 show (if 0<=(t:Int)/\(t:Int)<65536 then h (t:Int).toNat else none)=_
 rw[if_pos (by omega)];rfl
theorem fU_some {h:Nat->Option Value} {k:Lit} (hk:(fU h k).isSome) : ∃ t:Nat,t<65536/\k = .int .u16 (t:Int):=by
 unfold fU at hk
 split at hk
 ·rename_i z
  split at hk
  ·rename_i hz;exact⟨z.toNat,by omega,by rw[Int.toNat_of_nonneg hz.1]⟩
  ·cases hk
 ·cases hk
theorem fS_some {h:List UInt8->Option Value} {k:Lit} (hk:(fS h k).isSome) : ∃ s,k = .string s:=by
 unfold fS at hk
 split at hk
 ·exact⟨_,rfl⟩
 ·cases hk
theorem ext_some {f g:Lit->Option Value} (h : ∀ k,(f k).isSome\/(g k).isSome->f k=g k) (k:Lit):f k=g k:=by
 cases hf:f k with
 | some v=>rw[<- hf];exact h k (Or.inl (by rw[hf];rfl))
 | none=>cases hg:g k with
  | none=>rfl
  | some v=>rw[<- hf, <- hg];exact h k (Or.inr (by rw[hg];rfl))
theorem isU (t:Nat):WideAt.IsKeyLit (.int .u16 (t:Int)):=trivial
theorem isS (s:List UInt8):WideAt.IsKeyLit (.string s):=trivial
theorem fU_other (h:Nat->Option Value) (k:Lit) (hk : ∀ t:Nat,t<65536->k ≠ .int .u16 (t:Int)):fU h k=none:=by
 cases hh:fU h k with
 | none=>rfl
 | some v=>obtain⟨t,ht,e⟩:=fU_some (h:=h) (k:=k) (by rw[hh];rfl);exact absurd e (hk t ht)
theorem fput_U (h:Nat->Option Value) (t:Nat) (ht:t<65536) (v:Value) (k:Lit):fput (fU h) (.int .u16 (t:Int)) v k=fU (uput h t v) k:=by
 by_cases e:k = .int .u16 (t:Int)
 ·rw[e,fput_same _ (isU t),fU_at _ t ht];simp[uput]
 ·rw[fput_other _ e]
  by_cases hx : ∃ s:Nat,s<65536/\k = .int .u16 (s:Int)
  ·obtain⟨s,hs,rfl⟩:=hx
   rw[fU_at _ s hs,fU_at _ s hs]
   have:s≠t:=fun e2=>e (by rw[e2])
   simp[uput,this]
  ·rw[fU_other _ k (fun s hs e2=>hx ⟨s,hs,e2⟩),fU_other _ k (fun s hs e2=>hx ⟨s,hs,e2⟩)]
theorem fS_other (h:List UInt8->Option Value) (k:Lit) (hk : ∀ s,k ≠ .string s):fS h k=none:=by
 cases hh:fS h k with
 | none=>rfl
 | some v=>obtain⟨s,e⟩:=fS_some (h:=h) (k:=k) (by rw[hh];rfl);exact absurd e (hk s)
theorem fput_S (h:List UInt8->Option Value) (t:List UInt8) (v:Value) (k:Lit):fput (fS h) (.string t) v k=fS (sput h t v) k:=by
 by_cases e:k = .string t
 ·rw[e,fput_same _ (isS t)];simp[sput,fS]
 ·rw[fput_other _ e]
  by_cases hx : ∃ s,k = .string s
  ·obtain⟨s,rfl⟩:=hx
   have:s≠t:=fun e2=>e (by rw[e2])
   simp[sput,fS,this]
  ·rw[fS_other _ k (fun s e2=>hx ⟨s,e2⟩),fS_other _ k (fun s e2=>hx ⟨s,e2⟩)]
theorem fU_none (k:Lit):fU (fun _=>none) k=none:=by
 cases hh:fU (fun _=>none) k with
 | none=>rfl
 | some v =>
  obtain⟨t,ht,e⟩:=fU_some (h:=fun _=>none) (k:=k) (by rw[hh];rfl)
  rw[e,fU_at _ t ht] at hh;cases hh
theorem fS_none (k:Lit):fS (fun _=>none) k=none:=by
 cases hh:fS (fun _=>none) k with
 | none=>rfl
 | some v =>
  obtain⟨s,e⟩:=fS_some (h:=fun _=>none) (k:=k) (by rw[hh];rfl)
  rw[e] at hh;cases hh
def MapU (w:World) (b:Nat) (h:Nat->Option Value) (K:Nat):Prop:=MapAt 36 w b (fU h) K
def MapS (w:World) (b:Nat) (h:List UInt8->Option Value) (K:Nat):Prop:=MapAt 9 w b (fS h) K
theorem MapU.made (w:World) (K:Nat):MapU (w.alloc (.map #[] 0)) w.heap.size (fun _=>none) K:=((MapAt.made 36 w).congr fun k=>(fU_none k).symm).mono (Nat.zero_le _)
theorem MapS.made (w:World) (K:Nat):MapS (w.alloc (.map #[] 0)) w.heap.size (fun _=>none) K:=((MapAt.made 9 w).congr fun k=>(fS_none k).symm).mono (Nat.zero_le _)
theorem MapU.ext {w:World} {b K:Nat} {h h':Nat->Option Value} (m:MapU w b h K) (e : ∀ t,t<65536->h t=h' t):MapU w b h' K:=MapAt.congr m (ext_some fun k hk=>by
 have : ∃ t:Nat,t<65536/\k = .int .u16 (t:Int):=by rcases hk with hk | hk <;> exact fU_some hk
 obtain⟨t,ht,rfl⟩:=this
 rw[fU_at _ t ht,fU_at _ t ht,e t ht])
theorem MapS.ext {w:World} {b K:Nat} {h h':List UInt8->Option Value} (m:MapS w b h K) (e : ∀ s,h s=h' s):MapS w b h' K:=(funext e:h=h') ▸ m
inductive Role where
 | none:Role
 | node (p:List (List UInt8)):Role
 | sets (p:List (List UInt8)):Role
 | below (p:List (List UInt8)):Role
 | data (p:List (List UInt8)) (t:Nat):Role
structure Nd where
 n:Nat
 s:Nat
 b:Nat
 dm:Nat->Nat
def DIs (w:World):Option (List UInt8)->Option Value->Prop
 | none,none=>True
 | some d,some v => ∃ ao c,v = .slice ao d.length c/\SlL w ao d/\(ao=none->c=0)/\d.length<=c/\d.length<=8192
 | _,_=>False
def setV (S:Z.St) (m:Nat):Value := .agg #[.int .u32 (S.ttl:Int),.map (some m)]
def ptr (n:Nat):Value := .pointer (some ⟨n,0,none⟩)
structure NodeIs (w:World) (G:List (List UInt8)->Option Nd) (C:List (List UInt8)->Nat->Option Z.St) (K:Nat) (p:List (List UInt8)) (x:Nd):Prop where
 row:RowAt w x.n 107 #[.map (some x.s),.map (some x.b)]
 sets:MapU w x.s (fun t=>(C p t).map fun S=>setV S (x.dm t)) K
 below:MapS w x.b (fun l=>(G (p ++ [l])).map fun y=>ptr y.n) K
 data : ∀ t S,C p t=some S -> ∃ h,MapS w (x.dm t) h K /\ ∀ c,DIs w (S.g c) (h c)
def ZObj (w:World) (i:Nat):Prop:=(∃ es clock,w.heap[i]?=some (.map es clock)) \/ ∃ a b,w.heap[i]?=some (.cells #[.map a,.map b] 107 (0,0))
theorem ZObj.lt {w:World} {i:Nat} (h:ZObj w i):i<w.heap.size:=by
 rcases h with⟨es,c,h⟩ | ⟨a,b,h⟩ <;> exact (Array.getElem?_eq_some_iff.1 h).1
theorem ZObj.cell {w:World} {i j:Nat} (h:ZObj w i) {v:Value} (hv:w.cell? ⟨i,j,none⟩=some v) : ∃ m,v = .map m:=by
 rcases h with⟨es,c,h⟩ | ⟨a,b,h⟩
 ·simp[World.cell?,h] at hv
 ·rw[cell_of_row w i j _ _ _ h] at hv
  match j with
  | 0=>exact⟨a,by simpa using hv.symm⟩
  | 1=>exact⟨b,by simpa using hv.symm⟩
  | j+2=>simp at hv
theorem ZObj.heap {w w':World} {i:Nat} (h:ZObj w i) (e:w'.heap[i]?=w.heap[i]?):ZObj w' i:=by unfold ZObj at *; rw[e];exact h
structure TreeAt (w:World) (ρ : Nat->Role) (G:List (List UInt8)->Option Nd) (C:List (List UInt8)->Nat->Option Z.St) (K:Nat):Prop where
 root:(G []).isSome
 up : ∀ p l,(G (p ++ [l])).isSome->(G p).isSome
 node : ∀ p x,G p=some x->NodeIs w G C K p x
 cov : ∀ p t S,C p t=some S->(G p).isSome/\t<65536
 rn : ∀ p x,G p=some x -> ρ x.n = .node p
 rs : ∀ p x,G p=some x -> ρ x.s = .sets p
 rb : ∀ p x,G p=some x -> ρ x.b = .below p
 rd : ∀ p x t S,G p=some x->C p t=some S -> ρ (x.dm t) = .data p t
 kind : ∀ i, ρ i ≠ .none->ZObj w i
theorem TreeAt.pre {w:World} {ρ : Nat->Role} {G:List (List UInt8)->Option Nd} {C:List (List UInt8)->Nat->Option Z.St} {K:Nat} (T:TreeAt w ρ G C K) : ∀ (r p:List (List UInt8)),(G (p++r)).isSome->(G p).isSome
 | [],p,h=>by simpa using h
 | l::r,p,h=>T.up p l (TreeAt.pre T r (p ++ [l]) (by simpa using h))
theorem slL_keep {w w':World} (hsz:w.heap.size<=w'.heap.size) (hb : ∀ i,i<w.heap.size -> ¬ ZObj w i->w'.heap[i]?=w.heap[i]?) {ao:Option Addr} {l:List UInt8} (h:SlL w ao l):SlL w' ao l:=fun hn=>by
 obtain⟨b,o,e,hlt,hc⟩:=h hn
 have hz : ¬ ZObj w b:=fun hz=>by
  obtain⟨m,hm⟩:=hz.cell (hc 0 hn)
  cases hm
 refine⟨b,o,e,by omega,fun j hj=>?_⟩
 rw[<- hc j hj]
 exact World.cell?_of_block (hb b hlt hz)
theorem DIs.keep {w w':World} (hs : ∀ ao l,SlL w ao l->SlL w' ao l) : ∀ {d:Option (List UInt8)} {v:Option Value},DIs w d v->DIs w' d v
 | none,none,_=>trivial
 | some _,some _,⟨ao,c,h1,h2,h3⟩=>⟨ao,c,h1,hs _ _ h2,h3⟩
 | none,some _,h=>h.elim
 | some _,none,h=>h.elim
theorem NodeIs.keep {w w':World} {G G':List (List UInt8)->Option Nd} {C C':List (List UInt8)->Nat->Option Z.St} {K K':Nat} {p:List (List UInt8)} {x:Nd} (h:NodeIs w G C K p x) (hs : ∀ ao l,SlL w ao l->SlL w' ao l) (hK:K<=K')
 (hG : ∀ l,((G' (p ++ [l])).map fun y=>y.n)=((G (p ++ [l])).map fun y=>y.n)) (hC : ∀ t,C' p t=C p t) (h1:w'.heap[x.n]?=w.heap[x.n]?) (h2:w'.heap[x.s]?=w.heap[x.s]?) (h3:w'.heap[x.b]?=w.heap[x.b]?) (h4 : ∀ t S,C p t=some S->w'.heap[x.dm t]?=w.heap[x.dm t]?):NodeIs w' G' C' K' p x:=by
 refine⟨?_,?_,?_,fun t S hS=>?_⟩
 ·unfold RowAt;rw[h1];exact h.row
 ·refine MapU.ext ((h.sets.heap h2).mono hK) fun t _=>?_
  rw[hC t]
 ·refine MapS.ext ((h.below.heap h3).mono hK) fun l=>?_
  have:=hG l
  cases h5:G (p ++ [l]) with
  | none=>rw[h5] at this;cases h6:G' (p ++ [l]) with
   | none=>rfl
   | some y=>rw[h6] at this;cases this
  | some y=>rw[h5] at this;cases h6:G' (p ++ [l]) with
   | none=>rw[h6] at this;cases this
   | some y' =>
    rw[h6] at this
    have:y'.n=y.n:=by simpa using this
    simp[ptr,this]
 ·rw[hC t] at hS
  obtain⟨g,hm,hd⟩:=h.data t S hS
  exact⟨g,(hm.heap (h4 t S hS)).mono hK,fun c=>(hd c).keep hs⟩
theorem TreeAt.keep {w w':World} {ρ : Nat->Role} {G:List (List UInt8)->Option Nd} {C:List (List UInt8)->Nat->Option Z.St} {K:Nat} (T:TreeAt w ρ G C K) (hb : ∀ i, ρ i ≠ .none->w'.heap[i]?=w.heap[i]?) (hs : ∀ ao l,SlL w ao l->SlL w' ao l):TreeAt w' ρ G C K:=by
 have ne : ∀ {i r}, ρ i=r->r ≠ .none -> ρ i ≠ .none:=fun h h2=>by rw[h];exact h2
 refine⟨T.root,T.up,fun p x hx=>?_,T.cov,T.rn,T.rs,T.rb,T.rd,fun i hi=>(T.kind i hi).heap (hb i hi)⟩
 refine (T.node p x hx).keep hs (Nat.le_refl _) (fun _=>rfl) (fun _=>rfl) (hb _ (ne (T.rn p x hx) (by simp))) (hb _ (ne (T.rs p x hx) (by simp))) (hb _ (ne (T.rb p x hx) (by simp))) fun t S hS=>hb _ (ne (T.rd p x t S hx hS) (by simp))
theorem TreeAt.below_ {w w':World} {ρ : Nat->Role} {G:List (List UInt8)->Option Nd} {C:List (List UInt8)->Nat->Option Z.St} {K:Nat} (T:TreeAt w ρ G C K) (h:Below w.heap.size w w'):TreeAt w' ρ G C K :=
 T.keep (fun i hi=>h.block i (T.kind i hi).lt) fun _ _ hs=>hs.below h (Nat.le_refl _)
theorem TreeAt.mono {w:World} {ρ : Nat->Role} {G:List (List UInt8)->Option Nd} {C:List (List UInt8)->Nat->Option Z.St} {K K':Nat} (T:TreeAt w ρ G C K) (h:K<=K'):TreeAt w ρ G C K' :=
 ⟨T.root,T.up,fun p x hx=>(T.node p x hx).keep (fun _ _ h=>h) h (fun _=>rfl) (fun _=>rfl) rfl rfl rfl (fun _ _ _=>rfl),T.cov,T.rn,T.rs,T.rb,T.rd,T.kind⟩
structure ZMv (ρ : Nat->Role) (w w':World):Prop where
 os:w'.os=w.os
 tape:w'.tape=w.tape
 output:w'.output=w.output
 size:w.heap.size<=w'.heap.size
 block : ∀ i,i<w.heap.size -> ρ i = .none->w'.heap[i]?=w.heap[i]?
theorem ZMv.of_below {ρ : Nat->Role} {w w':World} (h:Below w.heap.size w w'):ZMv ρ w w':=⟨h.os,h.tape,h.output,h.size,fun i hi _=>h.block i hi⟩
theorem ZMv.slL {ρ : Nat->Role} {w w':World} (h:ZMv ρ w w') (hk : ∀ i, ρ i ≠ .none->ZObj w i) {ao:Option Addr} {l:List UInt8} (hs:SlL w ao l):SlL w' ao l:=slL_keep h.size (fun i hi hz=>h.block i hi (Classical.byContradiction fun h0=>hz (hk i h0))) hs
def More (w:World) (ρ ρ':Nat->Role):Prop := ∀ i,i<w.heap.size -> ρ' i = ρ i
theorem More.refl (w:World) (ρ : Nat->Role):More w ρ ρ := fun _ _=>rfl
theorem More.trans {w w':World} {ρ ρ' ρ'':Nat->Role} (h:More w ρ ρ') (h':More w' ρ' ρ'') (hs:w.heap.size<=w'.heap.size):More w ρ ρ'':=fun i hi=>(h' i (by omega)).trans (h i hi)
def gput (G:List (List UInt8)->Option Nd) (p:List (List UInt8)) (x:Option Nd):List (List UInt8)->Option Nd:=fun q=>if q=p then x else G q
theorem gput_same (G:List (List UInt8)->Option Nd) (p:List (List UInt8)) (x:Option Nd):gput G p x p=x:=if_pos rfl
theorem gput_other (G:List (List UInt8)->Option Nd) {p q:List (List UInt8)} (h:q≠p) (x:Option Nd):gput G p x q=G q:=if_neg h
theorem TreeAt.turn {w w':World} {ρ ρ':Nat->Role} {G:List (List UInt8)->Option Nd} {C C':List (List UInt8)->Nat->Option Z.St} {K K':Nat} (T:TreeAt w ρ G C K) {p:List (List UInt8)} {x x':Nd} (hx:G p=some x) (hn:x'.n=x.n) (hs:x'.s=x.s) (hb:x'.b=x.b)
 (hC : ∀ q t,q≠p->C' q t=C q t) (hK:K<=K') (hρ : More w ρ ρ') (hsz:w.heap.size<=w'.heap.size) (hblk : ∀ i,i<w.heap.size -> ρ i ≠ .sets p->(∀ t, ρ i ≠ .data p t)->w'.heap[i]?=w.heap[i]?)
 (hsets:MapU w' x.s (fun t=>(C' p t).map fun S=>setV S (x'.dm t)) K') (hdata : ∀ t S,C' p t=some S->t<65536 /\ ρ' (x'.dm t) = .data p t /\ ∃ h,MapS w' (x'.dm t) h K' /\ ∀ c,DIs w' (S.g c) (h c)) (hkind : ∀ i, ρ' i ≠ .none->ZObj w' i):TreeAt w' ρ' (gput G p (some x')) C' K':=by
 have hslL : ∀ ao l,SlL w ao l->SlL w' ao l:=fun ao l=>slL_keep hsz fun i hi hz=>by
  have h0 : ρ i = .none:=Classical.byContradiction fun h0=>hz (T.kind i h0)
  exact hblk i hi (by rw[h0];simp) (fun t=>by rw[h0];simp)
 have lt : ∀ {i r}, ρ i=r->r ≠ .none->i<w.heap.size:=fun h h2=>(T.kind _ (by rw[h];exact h2)).lt
 have same : ∀ {i r}, ρ i=r->r ≠ .none->r ≠ .sets p->(∀ t,r ≠ .data p t)->w'.heap[i]?=w.heap[i]?:=fun {i r} h h0 h1 h2=>hblk i (lt h h0) (by rw[h];exact h1) (fun t=>by rw[h];exact h2 t)
 have hgn : ∀ q,((gput G p (some x') q).map fun y=>y.n)=((G q).map fun y=>y.n):=fun q=>by
  by_cases e:q=p
  ·rw[e,gput_same,hx];simp[hn]
  ·rw[gput_other G e]
 have hgs : ∀ q,(gput G p (some x') q).isSome=(G q).isSome:=fun q=>by
  have:=congrArg Option.isSome (hgn q);simpa using this
 have hcov : ∀ q t S,C' q t=some S->(G q).isSome/\t<65536:=fun q t S hS=>by
  by_cases e:q=p
  ·rw[e] at hS ⊢; exact⟨by rw[hx];rfl,(hdata t S hS).1⟩
  ·rw[hC q t e] at hS;exact T.cov q t S hS
 have each : ∀ q y,gput G p (some x') q=some y -> ∃ y0,G q=some y0/\y.n=y0.n/\y.s=y0.s/\y.b=y0.b/\(q≠p->y=y0)/\(q=p->y=x'):=fun q y hy=>by
  by_cases e:q=p
  ·rw[e,gput_same] at hy;injection hy with hy;subst hy
   exact⟨x,by rw[e];exact hx,hn,hs,hb,fun h=>absurd e h,fun _=>rfl⟩
  ·rw[gput_other G e] at hy
   exact⟨y,hy,rfl,rfl,rfl,fun _=>rfl,fun h=>absurd h e⟩
 refine⟨by rw[hgs];exact T.root,fun q l h=>by rw[hgs] at *; exact T.up q l h,fun q y hy=>?_,fun q t S hS=>by rw[hgs];exact hcov q t S hS,fun q y hy=>?_,fun q y hy=>?_,fun q y hy=>?_,fun q y t S hy hS=>?_,hkind⟩
 ·obtain⟨y0,h0,e1,e2,e3,e4,e5⟩:=each q y hy
  by_cases e:q=p
  ·subst e
   rw[hx] at h0;injection h0 with h0;subst h0
   rw[e5 rfl]
   have N0:=T.node q x hx
   refine⟨?_,by rw[hs];exact hsets,?_,fun t S hS=>(hdata t S hS).2.2⟩
   ·rw[hn,hs,hb]
    unfold RowAt
    rw[same (T.rn q x hx) (by simp) (by simp) (by simp)]
    exact N0.row
   ·rw[hb]
    have h3:=(N0.below.heap (same (T.rb q x hx) (by simp) (by simp) (by simp))).mono hK
    refine MapS.ext h3 fun l=>?_
    have:=hgn (q ++ [l])
    cases h5:G (q ++ [l]) with
    | none=>rw[h5] at this;cases h6:gput G q (some x') (q ++ [l]) with
     | none=>rfl
     | some y=>rw[h6] at this;cases this
    | some y=>rw[h5] at this;cases h6:gput G q (some x') (q ++ [l]) with
     | none=>rw[h6] at this;cases this
     | some y' =>
      rw[h6] at this
      have:y'.n=y.n:=by simpa using this
      simp[ptr,this]
  ·rw[e4 e]
   rw[e4 e] at hy
   exact (T.node q y0 h0).keep hslL hK (fun l=>hgn (q ++ [l])) (fun t=>hC q t e) (same (T.rn q y0 h0) (by simp) (by simp) (by simp)) (same (T.rs q y0 h0) (by simp) (by simpa using e) (by simp)) (same (T.rb q y0 h0) (by simp) (by simp) (by simp)) fun t S hS=>same (T.rd q y0 t S h0 hS) (by simp) (by simp) (by intro s h;injection h with h1 _;exact e h1)
 ·obtain⟨y0,h0,e1,e2,e3,e4,e5⟩:=each q y hy
  rw[e1,hρ _ (lt (T.rn q y0 h0) (by simp))];exact T.rn q y0 h0
 ·obtain⟨y0,h0,e1,e2,e3,e4,e5⟩:=each q y hy
  rw[e2,hρ _ (lt (T.rs q y0 h0) (by simp))];exact T.rs q y0 h0
 ·obtain⟨y0,h0,e1,e2,e3,e4,e5⟩:=each q y hy
  rw[e3,hρ _ (lt (T.rb q y0 h0) (by simp))];exact T.rb q y0 h0
 ·obtain⟨y0,h0,e1,e2,e3,e4,e5⟩:=each q y hy
  by_cases e:q=p
  ·subst e;rw[e5 rfl];exact (hdata t S hS).2.1
  ·rw[e4 e]
   rw[hC q t e] at hS
   rw[hρ _ (lt (T.rd q y0 t S h0 hS) (by simp))];exact T.rd q y0 t S h0 hS
open Go.RowKit
theorem app_ne {p:List (List UInt8)} {l:List UInt8} : p≠p ++ [l]:=fun e=>by
 have:=congrArg List.length e;simp at this
theorem app_inj {p q:List (List UInt8)} {l m:List UInt8} : p ++ [l]=q ++ [m]↔p=q/\l=m:=by
 constructor
 ·intro e;obtain⟨h1,h2⟩:=List.append_inj' e rfl;exact⟨h1,by simpa using h2⟩
 ·rintro⟨rfl,rfl⟩;rfl
def role3 (ρ : Nat->Role) (q:List (List UInt8)) (y:Nd):Nat->Role:=fun i=>if i=y.n then .node q else if i=y.s then .sets q else if i=y.b then .below q else ρ i
theorem role3_more {w:World} {ρ : Nat->Role} {q:List (List UInt8)} {y:Nd} (h1:w.heap.size<=y.n) (h2:w.heap.size<=y.s) (h3:w.heap.size<=y.b):More w ρ (role3 ρ q y):=fun i hi=>by
 unfold role3;rw[if_neg (by omega),if_neg (by omega),if_neg (by omega)]
theorem TreeAt.child {w w':World} {ρ : Nat->Role} {G:List (List UInt8)->Option Nd} {C:List (List UInt8)->Nat->Option Z.St} {K K':Nat} (T:TreeAt w ρ G C K) {p:List (List UInt8)} {x y:Nd} {l:List UInt8} (hx:G p=some x) (hno:G (p ++ [l])=none) (hK:K<=K')
 (h1:w.heap.size<=y.n) (h2:w.heap.size<=y.s) (h3:w.heap.size<=y.b) (d1:y.n≠y.s) (d2:y.n≠y.b) (d3:y.s≠y.b) (hsz:w.heap.size<=w'.heap.size) (hblk : ∀ i,i<w.heap.size->i≠x.b->w'.heap[i]?=w.heap[i]?)
 (hbel:MapS w' x.b (sput (fun l=>(G (p ++ [l])).map fun y=>ptr y.n) l (ptr y.n)) K') (hrow:RowAt w' y.n 107 #[.map (some y.s),.map (some y.b)]) (hs0:MapU w' y.s (fun _=>none) K') (hb0:MapS w' y.b (fun _=>none) K') :
 TreeAt w' (role3 ρ (p ++ [l]) y) (gput G (p ++ [l]) (some y)) C K':=by
 have hρ := role3_more (ρ := ρ) (q:=p ++ [l]) h1 h2 h3
 have lt : ∀ {i r}, ρ i=r->r ≠ .none->i<w.heap.size:=fun h h2=>(T.kind _ (by rw[h];exact h2)).lt
 have hxb:=T.rb p x hx
 have hzb:ZObj w' x.b:=by obtain⟨es,c,h⟩:=hbel.obj;exact Or.inl ⟨es,c,h⟩
 have hblk2 : ∀ i,i<w.heap.size -> ρ i ≠ .below p->w'.heap[i]?=w.heap[i]?:=fun i hi h=>hblk i hi fun e=>h (by rw[e];exact hxb)
 have hslL : ∀ ao l,SlL w ao l->SlL w' ao l:=fun ao l=>slL_keep hsz fun i hi hz=>by
  have h0 : ρ i = .none:=Classical.byContradiction fun h0=>hz (T.kind i h0)
  exact hblk2 i hi (by rw[h0];simp)
 have same : ∀ {i r}, ρ i=r->r ≠ .none->r ≠ .below p->w'.heap[i]?=w.heap[i]?:=fun {i r} h h0 h1=>hblk2 i (lt h h0) (by rw[h];exact h1)
 have hC0 : ∀ t,C (p ++ [l]) t=none:=fun t=>by
  cases hc:C (p ++ [l]) t with
  | none=>rfl
  | some S=>have:=(T.cov _ t S hc).1;rw[hno] at this;cases this
 have hG0 : ∀ m,G (p ++ [l] ++ [m])=none:=fun m=>by
  cases hg:G (p ++ [l] ++ [m]) with
  | none=>rfl
  | some z=>have:=T.up (p ++ [l]) m (by rw[hg];rfl);rw[hno] at this;cases this
 have hgs : ∀ q,(G q).isSome->(gput G (p ++ [l]) (some y) q).isSome:=fun q h=>by
  by_cases e:q=p ++ [l]
  ·rw[e,gput_same];rfl
  ·rw[gput_other G e];exact h
 refine⟨hgs _ T.root,fun q m h=>?_,fun q z hz=>?_,fun q t S hS=>⟨hgs _ (T.cov q t S hS).1,(T.cov q t S hS).2⟩,fun q z hz=>?_,fun q z hz=>?_,fun q z hz=>?_,fun q z t S hz hS=>?_,fun i hi=>?_⟩
 ·by_cases e:q ++ [m]=p ++ [l]
  ·obtain⟨rfl,rfl⟩:=app_inj.1 e
   exact hgs _ (by rw[hx];rfl)
  ·rw[gput_other G e] at h
   exact hgs _ (T.up q m h)
 ·by_cases e:q=p ++ [l]
  ·subst e
   rw[gput_same] at hz;injection hz with hz;subst hz
   refine⟨hrow,MapU.ext hs0 fun t _=>by rw[hC0 t];rfl,MapS.ext hb0 fun m=>?_,fun t S hS=>by rw[hC0 t] at hS;cases hS⟩
   rw[gput_other G (fun e=>app_ne e.symm),hG0 m];rfl
  ·rw[gput_other G e] at hz
   by_cases e2:q=p
   ·subst e2
    rw[hx] at hz;injection hz with hz;subst hz
    have N0:=T.node q x hx
    refine⟨?_,?_,?_,fun t S hS=>?_⟩
    ·unfold RowAt;rw[same (T.rn q x hx) (by simp) (by simp)];exact N0.row
    ·exact (N0.sets.heap (same (T.rs q x hx) (by simp) (by simp))).mono hK
    ·refine MapS.ext hbel fun m=>?_
     by_cases em:m=l
     ·subst em;rw[gput_same];simp[sput]
     ·rw[gput_other G (fun e=>em (app_inj.1 e).2)];simp[sput,em]
    ·obtain⟨g,hm,hd⟩:=N0.data t S hS
     exact⟨g,(hm.heap (same (T.rd q x t S hx hS) (by simp) (by simp))).mono hK,fun c=>(hd c).keep hslL⟩
   ·refine (T.node q z hz).keep hslL hK (fun m=>?_) (fun _=>rfl) (same (T.rn q z hz) (by simp) (by simp)) (same (T.rs q z hz) (by simp) (by simp)) (same (T.rb q z hz) (by simp) (by simpa using e2)) fun t S hS=>same (T.rd q z t S hz hS) (by simp) (by simp)
    rw[gput_other G (fun e=>e2 (app_inj.1 e).1)]
 ·by_cases e:q=p ++ [l]
  ·subst e;rw[gput_same] at hz;injection hz with hz;subst hz
   unfold role3;rw[if_pos rfl]
  ·rw[gput_other G e] at hz
   rw[hρ _ (lt (T.rn q z hz) (by simp))];exact T.rn q z hz
 ·by_cases e:q=p ++ [l]
  ·subst e;rw[gput_same] at hz;injection hz with hz;subst hz
   unfold role3;rw[if_neg (fun e=>d1 e.symm),if_pos rfl]
  ·rw[gput_other G e] at hz
   rw[hρ _ (lt (T.rs q z hz) (by simp))];exact T.rs q z hz
 ·by_cases e:q=p ++ [l]
  ·subst e;rw[gput_same] at hz;injection hz with hz;subst hz
   unfold role3;rw[if_neg (fun e=>d2 e.symm),if_neg (fun e=>d3 e.symm),if_pos rfl]
  ·rw[gput_other G e] at hz
   rw[hρ _ (lt (T.rb q z hz) (by simp))];exact T.rb q z hz
 ·by_cases e:q=p ++ [l]
  ·subst e;rw[hC0 t] at hS;cases hS
  ·rw[gput_other G e] at hz
   rw[hρ _ (lt (T.rd q z t S hz hS) (by simp))];exact T.rd q z t S hz hS
 ·by_cases e1:i=y.n
  ·rw[e1];exact Or.inr ⟨_,_,hrow⟩
  ·by_cases e2:i=y.s
   ·rw[e2];obtain⟨es,c,h⟩:=hs0.obj;exact Or.inl ⟨es,c,h⟩
   ·by_cases e3:i=y.b
    ·rw[e3];obtain⟨es,c,h⟩:=hb0.obj;exact Or.inl ⟨es,c,h⟩
    ·unfold role3 at hi
     rw[if_neg e1,if_neg e2,if_neg e3] at hi
     by_cases e4:i=x.b
     ·rw[e4];exact hzb
     ·exact (T.kind i hi).heap (hblk i (T.kind i hi).lt e4)
theorem newNode_any (w:World):Calls Tryz.prog 49 #[] w fun e w'=>e = .returned (ptr (w.heap.size+2))/\w'=((w.alloc (.map #[] 0)).alloc (.map #[] 0)).alloc (.cells #[.map (some w.heap.size),.map (some (w.heap.size+1))] 107):=by
 have hmm := @run_makeMap Tryz.prog
 go_enter Tryz.func49,Tryz.ntmps49
 go_wp2
 go_ret
 exact⟨by simp[ptr],by simp⟩
theorem empty_any (w:World) (n s b K:Nat) (f g:Lit->Option Value) (hr:RowAt w n 107 #[.map (some s),.map (some b)]) (hs:MapAt 36 w s f K) (hb:MapAt 9 w b g K) :
 Calls Tryz.prog 65 #[ptr n] w fun e w' => ∃ r:Bool,e = .returned (.bool r)/\w'=w/\(r=true↔(∀ k,f k=none) /\ ∀ k,g k=none):=by
 obtain⟨a,ha,ha1,ha2⟩:=hs.none_len keyedH Tryz.underlying104 3
 obtain⟨c,hc,hc1,hc2⟩:=hb.none_len keyedS Tryz.underlying105 3
 have x0:w.cell? ⟨n,0,none⟩=some (.map (some s)):=hr.cell 0
 have x1:w.cell? ⟨n,1,none⟩=some (.map (some b)):=hr.cell 1
 have H1:=hide ha2
 have H2:=hide hc2
 clear ha2 hc2
 unfold ptr
 go_enter Tryz.func65,Tryz.ntmps65
 by_cases h0:(a:Int)=0
 ·have h0':((a:Int) == 0)=true:=by simp[h0]
  go_wp2
  go_ret
  refine⟨_,rfl,rfl,?_⟩
  rw[<- H1.out, <- H2.out]
  simp;omega
 ·have h1':a≠0:=by omega
  have h0':((a:Int) == 0)=false:=by simp[h1']
  go_wp2
  go_ret
  refine⟨_,rfl,rfl,?_⟩
  rw[<- H1.out, <- H2.out]
  simp;omega
open Go.RowKit Go.Shelf
attribute [local go_sem] Oper.semAt_some
theorem backward_any (w:World) (ao:Option Addr) (L c:Nat):Calls Tryz.prog 101 #[.slice ao L c] w fun e w' =>
 e = .returned (.func (.func 131) #[] #[.pointer (some ⟨w.heap.size,0,none⟩)])/\w'=w.alloc (.cells #[.slice ao L c] 28):=by
 have hmf : ∀ (fn:Fn) (first cap:Array Value) (w:World),(Instr.makeFunc fn first cap).run Tryz.prog w = .ok (.func fn first cap) w:=fun _ _ _ _=>rfl
 go_enter Tryz.func101,Tryz.ntmps101
 go_wp2
 go_ret
 exact⟨rfl,rfl⟩
structure KpA (b1:Nat) (ao:Option Addr) (W W':World):Prop where
 box:W'.heap[b1]?=W.heap[b1]?
 row : ∀ a,ao=some a->W'.heap[a.block]?=W.heap[a.block]?
 size:W.heap.size<=W'.heap.size
theorem KpA.trans {b1:Nat} {ao:Option Addr} {A B D:World} (h:KpA b1 ao A B) (h':KpA b1 ao B D):KpA b1 ao A D:=⟨h'.box.trans h.box,fun a e=>(h'.row a e).trans (h.row a e),Nat.le_trans h.size h'.size⟩
theorem KpA.sl {b1:Nat} {ao:Option Addr} {W W':World} (h:KpA b1 ao W W') {n:List (List UInt8)} (hs:SlS W ao n):SlS W' ao n:=fun hn=>by
 have hz:=h.size
 obtain⟨b,o,e,hlt,hc⟩:=hs hn
 refine⟨b,o,e,by omega,fun j hj=>?_⟩
 rw[<- hc j hj]
 exact World.cell?_of_block (a:=⟨b,o+j,none⟩) (h.row ⟨b,o,none⟩ e)
def lab (n:List (List UInt8)) (x:Nat):List UInt8:=n.getD (n.length - 1 - x) []
def bwv (n:List (List UInt8)) (x:Nat):Array Value := #[.int .i64 ((n.length:Int) - 1 - (x:Int)),.string ⟨(lab n x).toArray⟩]
set_option maxRecDepth 100000 in
set_option maxHeartbeats 2000000 in
theorem back1_in (l b1 C L:Nat) (ao:Option Addr) (n:List (List UInt8)) (hL:Hid (n.length=L)) (hL2:L<=1000000) (J Jx:List Nat->World->Prop)
 (hY : ∀ pre x W,J pre W->pre.length<L->YieldAt Fence.wide 4 Tryz.prog l (bwv n x) W fun e W' =>
  (e = .returned (.bool true)/\J (pre ++ [x]) W'/\KpA b1 ao W W')\/(e = .returned (.bool false)/\Jx (pre ++ [x]) W'))
 (W:World) (hb1:RowAt W b1 28 #[.slice ao L C]) (hs:SlS W ao n) (h0:J [] W) :
 CallsIn Fence.wide 5 Tryz.prog 131 #[.func (.yield l) #[] #[],.pointer (some ⟨b1,0,none⟩)] W fun e W'=>(∃ v,e = .returned v) /\
  (J (List.range L) W' \/ ∃ k,k<L/\Jx (List.range (k+1)) W'):=by
 refine callsIn_of_wp Tryz.func131 rfl trivial ?_ rfl
 simp only[Tryz.ntmps131,List.size_toArray,List.length_cons,List.length_nil,Nat.reduceAdd,Nat.reduceSub,Array.replicate_succ,Array.replicate_zero,List.push_toArray,List.append_toArray,List.nil_append,List.cons_append]
 have x1:W.cell? ⟨b1,0,none⟩=some (.slice ao L C):=hb1.cell 0
 have hw0:IntKind.i64.wrap ((L:Int) - 1)=(L:Int) - 1:=by rw[IntKind.wrap_i64];omega
 have HS:=hide hs
 have HB:=hide hb1
 clear hs hb1
 gi_wp2
 clear x1
 gi_loopw [3] (fun i wr => ∃ k:Nat,k<=L/\i = .int .i64 ((L:Int) - 1 - (k:Int))/\J (List.range k) wr/\RowAt wr b1 28 #[.slice ao L C]/\SlS wr ao n)
  (fun i _=>(intOf i+1).toNat)
 case atStart=>exact⟨0,by omega,by simp,by simpa using h0,HB.out,HS.out⟩
 case round =>
  obtain⟨k,hk,rfl,hJs,hr1,hs1⟩:=hrel
  have x1:wr.cell? ⟨b1,0,none⟩=some (.slice ao L C):=hr1.cell 0
  by_cases hlt:k<L
  ·have hge:(0:Int)<=(L:Int) - 1 - (k:Int):=by omega
   obtain⟨g,o,rfl,hg,hc⟩:=hs1 (by have:=hL.out;omega)
   obtain⟨i,hi⟩ : ∃ i,i=L - 1 - k:=⟨_,rfl⟩
   have hie:(L:Int) - 1 - (k:Int)=(i:Int):=by omega
   have x2:wr.cell? ⟨g,o+i,none⟩=some (.string ⟨(lab n k).toArray⟩):=by
    have:=hc i (by have:=hL.out;omega)
    rw[this];unfold lab;rw[hL.out, <- hi]
   have hin:(i:Int)<(L:Int):=by omega
   have hw1:IntKind.i64.wrap ((i:Int) - 1)=(L:Int) - 1 - ((k+1:Nat):Int):=by rw[IntKind.wrap_i64];omega
   obtain⟨fn,tmps,assign,body,hy,hR⟩:=hY (List.range k) k wr hJs (by rw[List.length_range];exact hlt)
   unfold bwv at hy
   rw[hL.out,hie] at hy
   rw[hie] at hge ⊢
   have HR:=hide hR
   have H1:=hide hr1
   have H2:=hide hs1
   have HI:=hide hi
   have HC:=hide hc
   clear hR hr1 hs1 hi hie hc
   gi_wp2
   refine HR.out.mono ?_
   rintro e W3 (⟨rfl,hJ3,hk3⟩ | ⟨rfl,hJx3⟩)
   ·have hr13:RowAt W3 b1 28 #[.slice (some ⟨g,o,none⟩) L C]:=hk3.box.trans H1.out
    have hs13:SlS W3 (some ⟨g,o,none⟩) n:=hk3.sl H2.out
    gi_wp2
    (try rw[hw1])
    go_roundw
    case rel=>exact⟨k+1,by omega,rfl,by rw[List.range_succ];exact hJ3,hr13,hs13⟩
    case measure=>simp[intOf];have:=HI.out;omega
   ·gi_wp2
    refine bodyPost_ret (results_none rfl _ _ _) rfl ?_
    exact⟨⟨_,rfl⟩,.inr ⟨k,hlt,by rw[List.range_succ];exact hJx3⟩⟩
  ·have hge : ¬ (0:Int)<=(L:Int) - 1 - (k:Int):=by omega
   have hkL:k=L:=by omega
   have HK:=hide hkL
   clear hkL
   gi_wp2
   go_end0
   exact⟨⟨_,rfl⟩,.inl (by rw[<- HK.out];exact hJs)⟩
end Go.Proofs.YtmbcegljmhcdeaaGreat
