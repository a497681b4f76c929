/- Zones, plain: records, in order; putting and dropping; what stands at a path, by types. -/
import Derived.Test.YtmbcegljmhcdeaaGreatNmA
import Derived.BigRegion
import Derived.Recover
import Derived.Laws.OwnMore
import Derived.Ground.SlgmProg
import Derived.Ground.GgzProg
import Derived.Ground.SlgnProg
import Derived.Ground.SlmcProg
import Derived.Shelf.SortM.Plain
import Derived.Shelf.SortM.SortNone
import Derived.Shelf.SlIter.Nil
import Derived.Shelf.SlIter.Sorted
import Derived.Shelf.SlicesE.Clone
import Derived.Shelf.SlMaps.Clone
import Derived.Test.YtmbcegljmhcdeaaGreatChecked
import Derived.Maps.OwnSet
import Derived.Maps.Views
import Derived.Maps.RangeWalk
import Derived.StringKeys
import Derived.Shelf.Small.Bits
import Derived.Shelf.Small.Wraps
import Derived.Shelf.Strconv.Itoa0
import Derived.Ground.SlbCloneProg
import Derived.Shelf.Bytes.SlClone
import Derived.Shelf.SlicesE.Compact
namespace Go.Proofs.YtmbcegljmhcdeaaGreat
set_option maxRecDepth 5000
open Go.RowKit
def RowAt (wr:World) (g:Nat) (t:TypeId) (c:Array Value):Prop:=wr.heap[g]?=some (.cells c t (0,0))
theorem RowAt.cell {wr:World} {g:Nat} {t:TypeId} {c:Array Value} (h:RowAt wr g t c) (j:Nat):wr.cell? ⟨g,j,none⟩=c[j]?:=cell_of_row wr g j c t (0,0) h
theorem RowAt.frozen {wr:World} {g:Nat} {t:TypeId} {c:Array Value} (h:RowAt wr g t c) (j:Nat):wr.frozen? ⟨g,j,none⟩=false:=frozen_of_row wr g j c t h
theorem RowAt.set {wr:World} {g:Nat} {t:TypeId} {c:Array Value} (h:RowAt wr g t c) (j:Nat) (v:Value):RowAt (wr.setCell ⟨g,j,none⟩ v) g t (c.setIfInBounds j v):=heap_setCell_same wr g j c t v h
theorem RowAt.lt {w:World} {g:Nat} {t:TypeId} {c:Array Value} (h:RowAt w g t c):g<w.heap.size:=(Array.getElem?_eq_some_iff.1 h).1
theorem RowAt.below {w w':World} {B g:Nat} {t:TypeId} {c:Array Value} (h:RowAt w g t c) (hb:Below B w w') (hg:g<B):RowAt w' g t c:=by
 unfold RowAt;rw[hb.block g hg];exact h
theorem RowAt.alloc {w:World} {g:Nat} {t:TypeId} {c:Array Value} (h:RowAt w g t c) (o:Obj):RowAt (w.alloc o) g t c:=by
 unfold RowAt;rw[Below.heap_alloc _ _ _ h.lt];exact h
theorem RowAt.new (w:World) (t:TypeId) (c:Array Value):RowAt (w.alloc (.cells c t)) w.heap.size t c:=heap_alloc_last w _
theorem own_ne {w:World} {B e n T t:Nat} {v:Value} {xs:List Value} {c:Array Value} (h:w.ownsRow B e 1 v n xs) (hT:RowAt w T t c) (hne:t≠e):some T≠v.ownBlock:=by
 intro e1
 rcases h.2 with⟨rfl,_⟩ | ⟨g,cap,cur,rfl,_,hg,_⟩
 ·simp[Value.ownBlock] at e1
 ·simp[Value.ownBlock] at e1
  subst e1
  unfold RowAt at hT
  rw[hT] at hg
  simp at hg
  exact hne hg.2
theorem own_set {w:World} {B e n T t:Nat} {v:Value} {xs:List Value} {c:Array Value} (h:w.ownsRow B e 1 v n xs) (hT:RowAt w T t c) (hne:t≠e) (j:Nat) (x:Value):(w.setCell ⟨T,j,none⟩ x).ownsRow B e 1 v n xs:=by
 have h1:=own_ne h hT hne
 refine⟨h.1,?_⟩
 rcases h.2 with h2 | ⟨g,cap,cur,rfl,h3,hg,h4⟩
 ·exact Or.inl h2
 ·refine Or.inr ⟨g,cap,cur,rfl,h3,?_,h4⟩
  rw[heap_setCell_other _ _ _ _ (fun e1=>h1 (by simp[Value.ownBlock,e1]))]
  exact hg
theorem row_grown {w w':World} {B e n T t:Nat} {v:Value} {xs:List Value} {c:Array Value} (h:w.ownsRow B e 1 v n xs) (hT:RowAt w T t c) (hne:t≠e) (hg:w.grownBy w' v.ownBlock):RowAt w' T t c:=by
 unfold RowAt;rw[hg.block T hT.lt (own_ne h hT hne)];exact hT
open Go.RowKit
theorem below_drew {B:Nat} {a w:World} (h:Below B a w):Below B a w.drew:=⟨h.os,h.tape,h.output,h.size,h.block⟩
open Go.RowKit
theorem RowAt.other {wr:World} {g:Nat} {t:TypeId} {c:Array Value} (h:RowAt wr g t c) (a:Addr) (v:Value) (hne:g≠a.block):RowAt (wr.setCell a v) g t c:=by
 unfold RowAt;rw[heap_setCell_other _ _ _ _ hne];exact h
open Go.RowKit
def WrB (w:World) (g:Nat) (q:List UInt8):Prop := ∃ cur fr,w.heap[g]?=some (.cells cur 5 fr)/\q.length<=fr.1 /\ ∀ j,j<q.length->cur[j]?=some (.int .u8 (q.getD j 0).toNat)
theorem WrB.cell {w:World} {g:Nat} {q:List UInt8} (h:WrB w g q) (j:Nat) (hj:j<q.length):w.cell? ⟨g,j,none⟩=some (.int .u8 (q.getD j 0).toNat):=by
 obtain⟨cur,fr,h1,_,h3⟩:=h
 rw[cell_of_row w g j cur 5 fr h1];exact h3 j hj
theorem WrB.frozen {w:World} {g:Nat} {q:List UInt8} (h:WrB w g q) (j:Nat) (hj:j<q.length):w.frozen? ⟨g,j,none⟩=false:=by
 obtain⟨cur,fr,h1,h2,_⟩:=h
 unfold World.frozen?
 simp only[h1]
 have : ¬ (fr.1<=j):=by omega
 simp[this]
theorem WrB.lt {w:World} {g:Nat} {q:List UInt8} (h:WrB w g q):g<w.heap.size:=by
 obtain⟨cur,fr,h1,_⟩:=h
 exact (Array.getElem?_eq_some_iff.1 h1).1
theorem WrB.set {w:World} {g:Nat} {q:List UInt8} (h:WrB w g q) (j:Nat) (hj:j<q.length) (c:UInt8):WrB (w.setCell ⟨g,j,none⟩ (.int .u8 (c.toNat:Int))) g (q.set j c):=by
 obtain⟨cur,fr,h1,h2,h3⟩:=h
 refine⟨cur.setIfInBounds j (.int .u8 (c.toNat:Int)),fr,?_,by simpa using h2,fun i hi=>?_⟩
 ·rw[setCell_eq_setRow w g j cur 5 fr _ h1]
  exact setRow_heap w g cur _ 5 fr h1
 ·rw[List.length_set] at hi
  have hlt:j<cur.size:=(Array.getElem?_eq_some_iff.1 (h3 j hj)).1
  rw[Array.getElem?_setIfInBounds]
  by_cases e:j=i
  ·subst e
   rw[if_pos rfl,if_pos hlt]
   simp[hj]
  ·rw[if_neg e,h3 i hi]
   simp[List.getD_eq_getElem?_getD,e]
theorem WrB.sl {w:World} {g:Nat} {q:List UInt8} (h:WrB w g q):SlL w (some ⟨g,0,none⟩) q:=fun _=>⟨g,0,rfl,h.lt,fun j hj=>by rw[Nat.zero_add];exact h.cell j hj⟩
theorem below_drewA (w:World) (o:Obj):Below w.heap.size w (w.drew.alloc o):=(below_drew (Below.refl w.heap.size w)).alloc (Nat.le_refl _) o
theorem conv_own (w:World) (s:ByteArray) (l:List UInt8) (hs:s.data.toList=l) : ∃ c w',(convert 9 37 (.string s)).run Tryz.prog w = .ok (.slice (some ⟨w.heap.size,0,none⟩) s.size c) w'/\WrB w' w.heap.size l/\Below w.heap.size w w'/\w.heap.size<w'.heap.size:=by
 refine⟨_,_,run_bytes_of_string w 9 37 5 s Tryz.underlying9 Tryz.underlying37 Tryz.underlying5,?_,below_drewA w _,by show _<(w.alloc _).heap.size;simp⟩
 subst hs
 have hlen:s.data.toList.length=s.size:=rfl
 refine⟨_,_,heap_alloc_last w.drew _,?_,fun j hj=>?_⟩
 ·show s.data.toList.length<=(bytesRow s _).size
  unfold bytesRow
  rw[Array.size_append,Array.size_map]
  exact Nat.le_add_right _ _
 ·unfold bytesRow
  have h1:j<s.data.size:=by rw[hlen] at hj;exact hj
  rw[Array.getElem?_append_left (by simpa using h1),Array.getElem?_map,List.getD_eq_getElem?_getD,Array.getElem?_toList,Array.getElem?_eq_getElem h1]
  rfl
theorem OwnS.wr {w:World} {B:Nat} {v:Value} {n:List (List UInt8)} (h:OwnS w B v n) {g:Nat} {q:List UInt8} (hg:WrB w g q) (j:Nat) (x:Value):OwnS (w.setCell ⟨g,j,none⟩ x) B v n:=by
 have h0:w.ownsRow B 9 1 v n.length (vs n):=h
 obtain⟨cur,fr,hgg,_⟩:=hg
 refine⟨h0.1,?_⟩
 rcases h0.2 with h2 | ⟨g',cap,cur',rfl,h3,hg',h4⟩
 ·exact Or.inl h2
 ·refine Or.inr ⟨g',cap,cur',rfl,h3,?_,h4⟩
  rw[heap_setCell_other _ _ _ _ (fun e1=>?_)]
  ·exact hg'
  ·have e2:g'=g:=e1
   subst e2
   rw[hgg] at hg'
   simp at hg'
theorem OwnS.put {w:World} {B g len cap:Nat} {n:List (List UInt8)} (h:OwnS w B (.slice (some ⟨g,0,none⟩) len cap) n) (j:Nat) (x:List UInt8):OwnS (w.setCell ⟨g,j,none⟩ (.string ⟨x.toArray⟩)) B (.slice (some ⟨g,0,none⟩) len cap) (n.set j x):=by
 have h0:w.ownsRow B 9 1 (.slice (some ⟨g,0,none⟩) len cap) n.length (vs n):=h
 refine⟨by rw[vs_len,List.length_set,Nat.mul_one],?_⟩
 rcases h0.2 with⟨e,_⟩ | ⟨g',cap',cur,e,h1,h2,h3,h4,h5,h6⟩
 ·cases e
 ·cases e
  refine Or.inr ⟨g,cap,cur.setIfInBounds j (.string ⟨x.toArray⟩),by rw[List.length_set],h1,heap_setCell_same w g j cur 9 _ h2,by rw[List.length_set];exact h3,h4,by simpa using h5,?_⟩
  rw[Array.toList_setIfInBounds,List.length_set,List.take_set,h6]
  simp[vs,List.map_set]
theorem OwnS.cell {w:World} {B g len cap:Nat} {n:List (List UInt8)} (h:OwnS w B (.slice (some ⟨g,0,none⟩) len cap) n) (j:Nat) (hj:j<n.length):w.cell? ⟨g,j,none⟩=some (.string ⟨(n.getD j []).toArray⟩)/\w.frozen? ⟨g,j,none⟩=false/\B<=g:=by
 have h0:w.ownsRow B 9 1 (.slice (some ⟨g,0,none⟩) len cap) n.length (vs n):=h
 rcases h0.2 with⟨e,_⟩ | ⟨g',cap',cur,e,h1,h2,h3,h4,h5,h6⟩
 ·cases e
 ·cases e
  exact⟨by rw[World.ownsRow.cellAt h0 j (by omega),vs_get n j hj],frozen_of_row w g j cur 9 h2,h1⟩
theorem make_names (w:World) (len:Nat) (hl:len<=1000000) : ∃ w',(Instr.makeSlice 28 (.int .i64 (len:Int)) (.int .i64 (len:Int))).run Tryz.prog w = .ok (.slice (some ⟨w.heap.size,0,none⟩) len len) w'/\OwnS w' w.heap.size (.slice (some ⟨w.heap.size,0,none⟩) len len) (List.replicate len [])/\Below w.heap.size w w':=by
 obtain⟨i0,hi,hz0,hz1,hz2⟩:=info_parts infoS
 obtain⟨w',h1,h2,h3⟩:=run_make_full (P:=Tryz.prog) w w.heap.size 28 9 i0 (.string ⟨#[]⟩) 1 Tryz.underlying28 hi hz0 hz1 .i64 .i64 len (by rw[hz2];omega) (by unfold maxLen;omega) (Nat.le_refl _)
 refine⟨w',h1,?_,(Below.refl _ _).grown h3 (Nat.le_refl _) (fun k hk=>by cases hk)⟩
 unfold OwnS
 rw[List.length_replicate]
 have e:(madeCells (Value.string ⟨#[]⟩).cells (len*1)).toList=vs (List.replicate len []):=by
  rw[Nat.mul_one]
  have:(Value.string ⟨#[]⟩).cells = #[.string ⟨#[]⟩]:=rfl
  rw[this,toList_madeCells_one]
  simp[vs]
 rw[<- e];exact h2
namespace N
def half (x:List UInt8) (k:Nat):List UInt8:=lowL (x.take k)++x.drop k
theorem half_len (x:List UInt8) (k:Nat):(half x k).length=x.length:=by
 unfold half;rw[List.length_append,lowL_len,List.length_take,List.length_drop];omega
theorem half_zero (x:List UInt8):half x 0=x:=by simp[half,lowL]
theorem half_all (x:List UInt8) (k:Nat) (h:x.length<=k):half x k=lowL x:=by
 unfold half;rw[List.take_of_length_le h,List.drop_eq_nil_of_le h,List.append_nil]
theorem half_at (x:List UInt8) (k:Nat) (h:k<x.length):(half x k).getD k 0=x.getD k 0:=by
 unfold half
 have hl:(lowL (x.take k)).length=k:=by rw[lowL_len,List.length_take];omega
 rw[drop_at x k h,List.getD_eq_getElem?_getD,List.getElem?_append_right (by omega),hl,Nat.sub_self]
 simp
theorem half_next (x:List UInt8) (k:Nat) (h:k<x.length):(half x k).set k (low (x.getD k 0))=half x (k+1):=by
 unfold half
 have hl:(lowL (x.take k)).length=k:=by rw[lowL_len,List.length_take];omega
 rw[drop_at x k h,List.set_append_right _ _ (by omega),hl,Nat.sub_self,take_nextB x k h]
 simp[lowL]
def halfN (n:List (List UInt8)) (j:Nat):List (List UInt8):=lowN (n.take j)++List.replicate (n.length - j) []
theorem halfN_len (n:List (List UInt8)) (j:Nat) (h:j<=n.length):(halfN n j).length=n.length:=by
 unfold halfN;rw[List.length_append,lowN_len,List.length_take,List.length_replicate];omega
theorem halfN_next (n:List (List UInt8)) (j:Nat) (h:j<n.length):(halfN n j).set j (lowL (n.getD j []))=halfN n (j+1):=by
 unfold halfN
 have hl:(lowN (n.take j)).length=j:=by rw[lowN_len,List.length_take];omega
 obtain⟨m,hm⟩ : ∃ m,n.length - j=m+1:=⟨n.length - j - 1,by omega⟩
 have hm2:n.length - (j+1)=m:=by omega
 rw[hm,hm2,List.replicate_succ,List.set_append_right _ _ (by omega),hl,Nat.sub_self,take_nextN n j h]
 simp[lowN]
end N
set_option maxRecDepth 3000 in
set_option maxHeartbeats 800000 in
theorem lower_any (n:List (List UInt8)) (ao:Option Addr) (len cap:Nat) (w:World) (hl:Hid (n.length=len)) (hs:SlS w ao n) (hm:Hid (N.Small n)) :
 Calls Tryz.prog 48 #[.slice ao len cap] w fun e w' => ∃ v,e = .returned v/\OwnS w' w.heap.size v (N.lowN n)/\Below w.heap.size w w':=by
 have HS:=hide hs
 have hlen:len<=1000000:=by rw[<- hl.out];exact hm.out.1
 clear hs
 obtain⟨w1,hmk,hO1,hB1⟩:=make_names w len hlen
 go_enter Tryz.func48,Tryz.ntmps48
 go_wp2
 clear hmk
 go_loopw [14] (fun i wr => ∃ j:Nat,i = .int .i64 (j:Int)/\j<=len/\OwnS wr w.heap.size (.slice (some ⟨w.heap.size,0,none⟩) len len) (N.halfN n j)/\Below w.heap.size w wr) (fun i _=>len - (intOf i).toNat)
 case atStart=>exact⟨0,rfl,by omega,(by unfold N.halfN;rw[hl.out];simpa [N.lowN] using hO1),hB1⟩
 case round =>
  clear hO1 hB1
  obtain⟨j,rfl,hj,hO,hB⟩:=hrel
  have hz:=hB.size
  by_cases hlt:j<len
  ·obtain⟨b1,o1,rfl,hb1,hc1⟩:=HS.out (by have:=hl.out;omega)
   have hx:=(hB.cell (p:=⟨b1,o1+j,none⟩) hb1).trans (hc1 j (by have:=hl.out;omega))
   have hn1:=N.halfN_next n j (by have:=hl.out;omega)
   have hhl:=N.halfN_len n j (by have:=hl.out;omega)
   have hxl:=hm.out.at j
   clear hc1
   generalize n.getD j []=x at hx hn1 hxl
   have HN:=hide hn1
   clear hn1
   obtain⟨s,hs,hsd⟩ : ∃ s:ByteArray,(⟨x.toArray⟩:ByteArray)=s/\Hid (s.data.toList=x):=⟨_,rfl,rfl⟩
   have hsz:s.size<=x.length:=by rw[<- hs];exact Nat.le_refl _
   have hsz':x.length<=s.size:=by rw[<- hs];exact Nat.le_refl _
   rw[hs] at hx
   clear hs
   obtain⟨c,w2,hcv,hW2,hB2,hz2⟩:=conv_own wr s x hsd.out
   have hO2:=hO.below hB2
   have hb2:=hB.trans (hB2.mono hz)
   have hgl:=hb1
   generalize hG:wr.heap.size=g at hcv hW2 hz2
   have hgB:w.heap.size<=g:=by omega
   go_wp2
   clear hcv hO hB hB2 hx
   go_loopw [23] (fun i wr => ∃ k:Nat,i = .int .i64 (k:Int)/\k<=s.size/\WrB wr g (N.half x k)/\OwnS wr w.heap.size (.slice (some ⟨w.heap.size,0,none⟩) len len) (N.halfN n j)/\Below w.heap.size w wr) (fun i _=>s.size - (intOf i).toNat)
   case atStart=>exact⟨0,rfl,by omega,(by rw[N.half_zero];exact hW2),hO2,hb2⟩
   case round =>
    clear hW2 hO2 hb2 hz2
    obtain⟨k,rfl,hk,hW,hO,hB⟩:=hrel
    by_cases hkl:k<s.size
    ·have c0:=hW.cell k (by rw[N.half_len];omega)
     have f0:=hW.frozen k (by rw[N.half_len];omega)
     rw[N.half_at x k (by omega)] at c0
     have hn2:=N.half_next x k (by omega)
     generalize x.getD k 0=y at c0 hn2
     have HN2:=hide hn2
     have HW:=hide hW
     clear hn2 hW
     go_wp2_with (go_at_call 91;refine (lower_c y _).mono ?_;rintro e w5 ⟨rfl,rfl⟩)
     go_roundw
     case rel=>exact⟨k+1,by go_num,by omega,(by rw[<- HN2.out];exact HW.out.set k (by rw[N.half_len];omega) _),OwnS.wr hO HW.out _ _,hB.setCell hgB _⟩
     case measure=>simp[intOf];omega
    ·obtain rfl:k=s.size:=by omega
     rw[N.half_all x s.size (by omega)] at hW
     have hst:=run_str s.size c hW.sl (by rw[N.lowL_len];omega)
     obtain⟨k0,g0,_⟩:=hO.cell j (by rw[hhl,hl.out];exact hlt)
     have HO:=hide hO
     clear hO hW
     go_wp2
     go_roundw
     case rel=>exact⟨j+1,by go_num,by omega,(by rw[<- HN.out];exact HO.out.put j _),hB.setCell (Nat.le_refl _) _⟩
     case measure=>simp[intOf];omega
  ·obtain rfl:j=len:=by omega
   go_wp2
   go_ret
   refine⟨_,rfl,?_,hB⟩
   have e:N.halfN n j=N.lowN n:=by
    unfold N.halfN
    rw[<- hl.out,List.take_length];simp
   rw[e] at hO
   exact hO
open Go.RowKit
open Go.RowKit
theorem rlow_c (c:UInt8) (w:World):Calls Tryz.prog 129 #[.int .u8 (c.toNat:Int)] w fun e w'=>e = .returned (.int .u8 ((N.low c).toNat:Int))/\w'=w:=by
 have hc:=c.toNat_lt
 rcases Nat.lt_or_ge c.toNat 65 with h1 | h1
 ·rw[N.low_other (Or.inl h1)]
  go_enter Tryz.func129,Tryz.ntmps129
  go_wp2
  go_ret
  exact⟨rfl,rfl⟩
 ·rcases Nat.lt_or_ge 90 c.toNat with h2 | h2
  ·rw[N.low_other (Or.inr h2)]
   go_enter Tryz.func129,Tryz.ntmps129
   go_wp2
   go_ret
   exact⟨rfl,rfl⟩
  ·rw[N.low_cap h1 h2]
   go_enter Tryz.func129,Tryz.ntmps129
   go_wp2
   go_ret
   exact⟨by rw[show ((c.toNat+32:Nat):Int)=(c.toNat:Int)+32 by omega] <;> rfl,rfl⟩
set_option maxRecDepth 3000 in
theorem rLowText_any (s:ByteArray) (x:List UInt8) (w:World) (hs:Hid (s.data.toList=x)) (hn:s.size<=9223372036854775807) :
 Calls Tryz.prog 98 #[.string s] w fun e w'=>e = .returned (.string ⟨(N.lowL x).toArray⟩)/\Below w.heap.size w w':=by
 have hsz:s.size<=x.length:=by rw[<- hs.out];exact Nat.le_refl _
 have hsz':x.length<=s.size:=by rw[<- hs.out];exact Nat.le_refl _
 obtain⟨c,w2,hcv,hW2,hB2,hz2⟩:=conv_own w s x hs.out
 generalize hG:w.heap.size=g at hcv hW2 hz2
 go_enter Tryz.func98,Tryz.ntmps98
 go_wp2
 clear hcv
 go_loopw [4] (fun i wr => ∃ k:Nat,i = .int .i64 (k:Int)/\k<=s.size/\WrB wr g (N.half x k)/\Below w.heap.size w wr) (fun i _=>s.size - (intOf i).toNat)
 case atStart=>exact⟨0,rfl,by omega,(by rw[N.half_zero];exact hW2),hB2⟩
 case round =>
  clear hW2 hB2 hz2
  obtain⟨k,rfl,hk,hW,hB⟩:=hrel
  by_cases hkl:k<s.size
  ·have c0:=hW.cell k (by rw[N.half_len];omega)
   have f0:=hW.frozen k (by rw[N.half_len];omega)
   rw[N.half_at x k (by omega)] at c0
   have hn2:=N.half_next x k (by omega)
   generalize x.getD k 0=y at c0 hn2
   have HN2:=hide hn2
   have HW:=hide hW
   clear hn2 hW
   go_wp2_with (go_at_call 129;refine (rlow_c y _).mono ?_;rintro e w5 ⟨rfl,rfl⟩)
   go_roundw
   case rel=>exact⟨k+1,by go_num,by omega,(by rw[<- HN2.out];exact HW.out.set k (by rw[N.half_len];omega) _),hB.setCell (by show w.heap.size<=g;omega) _⟩
   case measure=>simp[intOf];omega
  ·obtain rfl:k=s.size:=by omega
   rw[N.half_all x s.size (by omega)] at hW
   have hst:=run_str s.size c hW.sl (by rw[N.lowL_len];omega)
   clear hW
   go_wp2
   go_ret
   exact⟨rfl,by rw[<- hG];exact hB⟩
set_option maxRecDepth 3000 in
theorem rLower_any (n:List (List UInt8)) (ao:Option Addr) (len cap:Nat) (w:World) (hl:Hid (n.length=len)) (hs:SlS w ao n) (hm:Hid (N.Small n)) :
 Calls Tryz.prog 61 #[.slice ao len cap] w fun e w' => ∃ v,e = .returned v/\OwnS w' w.heap.size v (N.lowN n)/\Below w.heap.size w w':=by
 have HS:=hide hs
 have hlen:len<=1000000:=by rw[<- hl.out];exact hm.out.1
 clear hs
 go_enter Tryz.func61,Tryz.ntmps61
 go_wp2
 go_loopw [3,4] (fun v i wr => ∃ j:Nat,i = .int .i64 (j:Int)/\j<=len/\OwnS wr w.heap.size v (N.lowN (n.take j))/\Below w.heap.size w wr) (fun _ i _=>len - (intOf i).toNat)
 case atStart=>exact⟨0,rfl,by omega,OwnS.nil _ _,Below.refl _ _⟩
 case round =>
  obtain⟨j,rfl,hj,hO,hB⟩:=hrel
  have hz:=hB.size
  by_cases hlt:j<len
  ·obtain⟨b1,o1,rfl,hb1,hc1⟩:=HS.out (by have:=hl.out;omega)
   have hx:=(hB.cell (p:=⟨b1,o1+j,none⟩) hb1).trans (hc1 j (by have:=hl.out;omega))
   have hn1:N.lowN (n.take (j+1))=N.lowN (n.take j) ++ [N.lowL (n.getD j [])]:=by rw[N.take_nextN n j (by have:=hl.out;omega)];simp[N.lowN]
   have hxl:=hm.out.at j
   have hll:(N.lowN (n.take j)).length<=1000000:=by rw[N.lowN_len,List.length_take];omega
   clear hc1
   generalize n.getD j []=x at hx hn1 hxl
   have HN:=hide hn1
   have HO:=hide hO
   clear hn1 hO
   go_wp2_with (first
    | (go_at_call 98;refine (rLowText_any ⟨x.toArray⟩ x _ rfl (by show x.length<=_;omega)).mono ?_;rintro e w3 ⟨rfl,hB3⟩;have hb3:=hB.trans (hB3.mono hz);have hz3:=hb3.size;have HO3:=hide (HO.out.below hB3);clear HO)
    | (at_builtin;refine wpList_append_S rfl (.tmp 11) (.tmp 17) rfl w.heap.size _ _ rfl (by exact HO3.out.alloc _) _ _ _ [N.lowL x] rfl rfl (SlS.one _ _ _) (by simp;omega) (by simp;omega) ?_;intro v4 w4 hO4 hG4;have hB4:=grown_belowS (HO3.out.alloc _) hG4 (hb3.alloc hz3 _) (by simp;omega);clear hG4))
   go_roundw
   case rel=>exact⟨j+1,by go_num,by omega,(by rw[HN.out];exact hO4),hB4⟩
   case measure=>simp[intOf];omega
  ·obtain rfl:j=len:=by omega
   go_wp2
   go_ret
   refine⟨_,rfl,?_,hB⟩
   have ht:n.take j=n:=by rw[<- hl.out];exact List.take_length
   rw[ht] at hO
   exact hO
theorem rWild_any (a:List (List UInt8)) (ao:Option Addr) (la ca:Nat) (w:World) (hla:Hid (a.length=la)) (hsa:SlS w ao a) :
 Calls Tryz.prog 105 #[.slice ao la ca] w fun e w'=>e = .returned (.bool (wild a))/\w'=w:=by
 have HSA:=hide hsa
 clear hsa
 by_cases h:0<la
 ·have hz:wild a=(a.getD 0 [] == [42]):=by
   unfold wild;rw[hla.out,decide_eq_true h,Bool.true_and]
  rw[hz]
  obtain⟨b1,o1,rfl,_,hc1⟩:=HSA.out (by have:=hla.out;omega)
  have hx1:w.cell? ⟨b1,o1,none⟩=some (.string ⟨(a.getD 0 []).toArray⟩):=hc1 0 (by have:=hla.out;omega)
  clear hc1
  generalize a.getD 0 []=x at hx1
  go_enter Tryz.func105,Tryz.ntmps105
  go_wp2
  go_ret
  exact⟨rfl,rfl⟩
 ·have hz:wild a=false:=by
   unfold wild;rw[hla.out,decide_eq_false h,Bool.false_and]
  rw[hz]
  go_enter Tryz.func105,Tryz.ntmps105
  go_wp2
  go_ret
  exact⟨rfl,rfl⟩
open Go.RowKit
namespace N
theorem chk_long {n:List (List UInt8)} (h0 : ∀ l∈n,l ≠ []) (h:(∃ l∈n,63<l.length)\/255<size n):chk n=31:=by
 unfold chk
 rw[if_neg (fun e=>h0 [] e rfl),if_pos (h.elim Or.inr Or.inl)]
theorem size_take_le (n:List (List UInt8)) (j:Nat):size (n.take j)<=size n:=by
 conv=>rhs;rw[<- List.take_append_drop j n]
 rw[size_app];omega
theorem mem_at (n:List (List UInt8)) (j:Nat) (h:j<n.length):n.getD j []∈n:=by
 have:n.getD j []=n[j]:=by simp[h]
 rw[this];exact List.getElem_mem h
end N
set_option maxRecDepth 3000 in
set_option maxHeartbeats 400000 in
theorem rCheck_any (n:List (List UInt8)) (ao:Option Addr) (len cap:Nat) (w:World) (hl:Hid (n.length=len)) (hs:SlS w ao n) (hm:Hid (N.Small n)) :
 Calls Tryz.prog 88 #[.slice ao len cap] w fun e w'=>e = .returned (.int .i64 (N.chk n))/\w'=w:=by
 have HS:=hide hs
 have hlen:len<=1000000:=by rw[<- hl.out];exact hm.out.1
 clear hs
 go_enter Tryz.func88,Tryz.ntmps88
 go_wp2
 go_loopw [4] (fun i wr => ∃ j:Nat,i = .int .i64 (j:Int)/\j<=len/\Hid (∀ l∈n.take j,l ≠ [])/\wr=w) (fun i _=>len - (intOf i).toNat)
 case atStart=>exact⟨0,rfl,by omega,(fun l hl=>by simp at hl),rfl⟩
 case round =>
  obtain⟨j,rfl,hj,HE,rfl⟩:=hrel
  by_cases hlt:j<len
  ·obtain⟨b1,o1,rfl,_,hc1⟩:=HS.out (by have:=hl.out;omega)
   have hx:=hc1 j (by have:=hl.out;omega)
   have hbad := @N.chk_bad n j (by have:=hl.out;omega)
   have ht:=N.take_nextN n j (by have:=hl.out;omega)
   clear hc1
   generalize n.getD j []=x at hx hbad ht
   have HB:=hide hbad
   have HT:=hide ht
   clear hbad ht
   by_cases hx0:x = []
   ·have HB0:=hide (HB.out hx0)
    clear HB
    subst hx0
    go_wp2
    go_ret
    exact⟨by rw[HB0.out];rfl,rfl⟩
   ·have hx1:x.isEmpty=false:=by cases x <;> simp_all
    have hx2:(x == [])=false:=by cases x <;> simp_all
    go_wp2
    go_roundw
    case rel=>exact⟨j+1,by go_num,by omega,(by rw[HT.out];intro l hl;rcases List.mem_append.1 hl with h | h;exact HE.out l h;rw[List.mem_singleton.1 h];exact hx0),trivial⟩
    case measure=>simp[intOf];omega
  ·obtain rfl:j=len:=by omega
   have ht:n.take j=n:=by rw[<- hl.out];exact List.take_length
   rw[ht] at HE
   clear ht
   go_wp2
   go_loopw [3,5] (fun a i wr' => ∃ k sz:Nat,i = .int .i64 (k:Int)/\a = .int .i64 (sz:Int)/\k<=j/\sz<=255/\Hid (sz=N.size (n.take k))/\Hid (∀ l∈n.take k,l.length<=63)/\wr'=wr) (fun _ i _=>j - (intOf i).toNat)
   case atStart=>exact⟨0,1,rfl,rfl,by omega,by omega,rfl,(fun l hl=>by simp at hl),rfl⟩
   case round =>
    obtain⟨k,sz,rfl,rfl,hk,hsz,HZ,H63,rfl⟩:=hrel
    by_cases hlt2:k<j
    ·obtain⟨b1,o1,rfl,_,hc1⟩:=HS.out (by have:=hl.out;omega)
     have hx:=hc1 k (by have:=hl.out;omega)
     have hn:=N.size_next n k (by have:=hl.out;omega)
     have ht:=N.take_nextN n k (by have:=hl.out;omega)
     have hme:=N.mem_at n k (by have:=hl.out;omega)
     have hxl:=hm.out.at k
     have hle:=N.size_take_le n (k+1)
     clear hc1
     generalize n.getD k []=x at hx hn ht hme hxl
     have HME:=hide hme
     have HT:=hide ht
     rw[hn, <- HZ.out] at hle
     have HN:=hide hn
     have HLE:=hide hle
     clear hn ht hme hle
     rcases Nat.lt_or_ge 63 x.length with h63 | h63
     ·have HC:=hide (N.chk_long HE.out (Or.inl ⟨x,HME.out,h63⟩))
      go_wp2
      go_ret
      exact⟨by rw[HC.out];rfl,rfl⟩
     ·rcases Nat.lt_or_ge 255 (sz+(x.length+1)) with h255 | h255
      ·have HC:=hide (N.chk_long HE.out (Or.inr (Nat.lt_of_lt_of_le h255 HLE.out)))
       go_wp2
       go_ret
       exact⟨by rw[HC.out];rfl,rfl⟩
      ·go_wp2
       go_roundw
       case rel=>exact⟨k+1,sz+(x.length+1),by go_num,by go_num,by omega,by omega,(by show _=_;rw[HZ.out];exact HN.out.symm),(by rw[HT.out];intro l hl;rcases List.mem_append.1 hl with h | h;exact H63.out l h;rw[List.mem_singleton.1 h];exact h63),trivial⟩
       case measure=>simp[intOf];omega
    ·obtain rfl:k=j:=by omega
     have ht:n.take k=n:=by rw[<- hl.out];exact List.take_length
     rw[ht] at HZ H63
     have HC:=hide (N.chk_ok (fun e=>HE.out [] e rfl) (by rw[<- HZ.out];exact hsz) H63.out)
     clear ht
     go_wp2
     go_ret
     exact⟨by rw[HC.out];rfl,rfl⟩
set_option maxRecDepth 3000 in
set_option maxHeartbeats 800000 in
theorem rWire_any (n:List (List UInt8)) (ao:Option Addr) (len cap:Nat) (w:World) (hl:Hid (n.length=len)) (hs:SlS w ao n) (hm:Hid (N.Small n)) :
 Calls Tryz.prog 47 #[.slice ao len cap] w fun e w' => ∃ v,e = .returned v/\OwnB w' w.heap.size v (N.wire n)/\Below w.heap.size w w':=by
 have HS:=hide hs
 have hlen:len<=1000000:=by rw[<- hl.out];exact hm.out.1
 clear hs
 go_enter Tryz.func47,Tryz.ntmps47
 go_wp2
 go_loopw [4,3] (fun i v wr => ∃ j:Nat,i = .int .i64 (j:Int)/\j<=len/\OwnB wr w.heap.size v (N.body (n.take j))/\Below w.heap.size w wr) (fun i _ _=>len - (intOf i).toNat)
 case atStart=>exact⟨0,rfl,by omega,OwnB.nil _ _,Below.refl _ _⟩
 case round =>
  obtain⟨j,rfl,hj,hO,hB⟩:=hrel
  have hz:=hB.size
  have hbl:=N.body_len (n.take j)
  have hsj:=hm.out.size j (by have:=hl.out;omega)
  by_cases hlt:j<len
  ·obtain⟨b1,o1,rfl,hb1,hc1⟩:=HS.out (by have:=hl.out;omega)
   have hx0:=hc1 j (by have:=hl.out;omega)
   have hx:=(hB.cell (p:=⟨b1,o1+j,none⟩) hb1).trans hx0
   have hn:=N.body_next n j (by have:=hl.out;omega)
   have hxl:=hm.out.at j
   clear hc1
   generalize n.getD j []=x at hx hn hxl hx0
   have HN:=hide hn
   have HX0:=hide hx0
   have HO:=hide hO
   have HB:=hide hB
   have hj1:(j:Int)<(len:Int):=by omega
   have hbw:b1<wr.heap.size:=by omega
   clear hn hO hB hx0
   go_wp2
   go_region_law (first
    | (refine step_append_B rfl (.tmp 11) (.tmp 18) rfl w.heap.size _ (N.body (n.take j)) (by simp[Act.eval];rfl) (by exact HO.out.alloc _) ⟨wr.heap.size,0,none⟩ 1 1 [UInt8.ofNat x.length] (by simp[Act.eval]) rfl (by exact SlL.oneI wr ((x.length:Int) % 256) (UInt8.ofNat x.length) 5 (by rw[UInt8.toNat_ofNat'];omega)) (by simp;omega) (by simp;omega) ?_;intro v4 w4 hO4 hG4;have hB4:=grown_below (w:=(wr.alloc (.cells #[.int .u8 ((x.length:Int) % 256)] 5)).drew) (HO.out.alloc _) hG4 (below_drew (HB.out.alloc hz _)) (by show _<=(wr.alloc _).heap.size;simp;omega);have hx4:w4.cell? ⟨b1,o1+j,none⟩=some (.string ⟨x.toArray⟩):=(hB4.cell (p:=⟨b1,o1+j,none⟩) hb1).trans HX0.out;have hz4:=hB4.size;have HO4:=hide hO4;have HB4:=hide hB4;clear hG4 hO4 hB4)
    | (refine step_append_BS rfl (.tmp 19) (.tmp 23) rfl w.heap.size _ _ (by simp[Act.eval];rfl) (by exact HO4.out) x (by simp[Act.eval]) (by simp only[List.length_append,List.length_singleton];omega) hz4 ?_;intro v5 w5 hO5 hG5;have HB5:=hide (grown_below HO4.out hG5 HB4.out hz4);have HO5:=hide hO5;clear hG5 hO5))
   all_goals
    go_wp2
    go_roundw
    case rel=>exact⟨j+1,by go_num,by omega,(by rw[HN.out];exact HO5.out),HB5.out⟩
    case measure=>simp[intOf];omega
  ·obtain rfl:j=len:=by omega
   go_wp2_with (at_builtin;refine wpList_append_B rfl (.tmp 25) (.tmp 26) rfl w.heap.size _ (N.body (n.take j)) rfl (by exact hO.alloc _) _ _ _ [0] rfl rfl (SlL.oneI _ _ _ _ (by rfl)) (by simp) (by omega) (by simp;omega) ?_;intro v4 w4 hO4 hG4;have hB4:=grown_below (hO.alloc _) hG4 (hB.alloc hz _) (by simp;omega);clear hG4 hO)
   go_ret
   refine⟨_,rfl,?_,hB4⟩
   have ht:n.take j=n:=by rw[<- hl.out];exact List.take_length
   rw[ht] at hO4
   exact hO4
open Go.RowKit
set_option maxRecDepth 3000 in
set_option maxHeartbeats 1000000 in
theorem rOpen_any (b:List UInt8) (ao:Option Addr) (len cap:Nat) (w:World) (hl:Hid (b.length=len)) (hs:SlL w ao b) (hm:len<=1000000000) (hcap:len<=cap) :
 Calls Tryz.prog 140 #[.slice ao len cap] w fun e w'=>Opened b w.heap.size w e w':=by
 have HS:=hide hs
 clear hs
 go_enter Tryz.func140,Tryz.ntmps140
 go_wp2
 go_loopw [6,5] (fun i v wr => ∃ (j:Nat) (n:List (List UInt8)),i = .int .i64 (j:Int)/\j<=len/\Hid (N.opn b=(N.opn (b.drop j)).map (n ++ ·))/\Hid (j+1=N.size n)/\n.length<=j/\OwnS wr w.heap.size v n/\Below w.heap.size w wr) (fun i _ _=>len+1 - (intOf i).toNat)
 case atStart=>exact⟨0, [],rfl,by omega,(by show _=_;simp),rfl,by simp,OwnS.nil _ _,Below.refl _ _⟩
 case round =>
  obtain⟨j,n,rfl,hj,HO,HZ,hnl,hO,hB⟩:=hrel
  have hz:=hB.size
  by_cases hlt:j<len
  ·obtain⟨b1,o1,rfl,hb1,hc1⟩:=HS.out (by have:=hl.out;omega)
   have hx:=(hB.cell (p:=⟨b1,o1+j,none⟩) hb1).trans (hc1 j (by have:=hl.out;omega))
   have hz0:=N.opn_zero b j (by have:=hl.out;omega)
   have hgr:=N.opn_great b j (by have:=hl.out;omega)
   have hnx:=N.opn_next b j (by have:=hl.out;omega)
   clear hc1
   have hk:=(b.getD j 0).toNat_lt
   generalize (b.getD j 0).toNat=k at hx hz0 hgr hnx hk
   by_cases h0:k=0
   ·have HR:Hid (N.opn b=some n):=by rw[HO.out,hz0 h0];show _=_;simp
    clear hz0 hgr hnx HO
    subst h0
    by_cases h255:255<j+1
    ·go_wp2
     go_ret3
     exact⟨Or.inr (Or.inr ⟨n,HR.out,by rw[<- HZ.out];exact h255,rfl⟩),hB⟩
    ·go_wp2
     go_ret3
     refine⟨Or.inl ⟨n,_,HR.out,by rw[<- HZ.out];omega,?_,hO⟩,hB⟩
     rw[<- HZ.out];rfl
   ·have hne:((k:Int) == 0)=false:=by simp;omega
    rcases Nat.lt_or_ge 63 k with h63 | h63
    ·have HR:Hid (N.opn b=none):=by rw[HO.out,hgr h63];exact rfl
     clear hz0 hgr hnx HO
     go_wp2
     go_ret3
     exact⟨Or.inr (Or.inl ⟨HR.out,rfl⟩),hB⟩
    ·have h1:=hnx h0 h63
     rcases Nat.lt_or_ge (len - j - 1) k with hov | hov
     ·have HR:Hid (N.opn b=none):=by rw[HO.out,h1,N.opn_out b _ (by have:=hl.out;omega)];exact rfl
      have hov2:(len:Int) - (j:Int) - 1<(k:Int):=by omega
      clear hz0 hgr hnx HO h1
      go_wp2
      go_ret3
      exact⟨Or.inr (Or.inl ⟨HR.out,rfl⟩),hB⟩
     ·have hov2 : ¬ ((len:Int) - (j:Int) - 1<(k:Int)):=by omega
      obtain⟨ao',hsl,hs'⟩:=slice_mid (k:=j+1) (m:=k) (x:=(j:Int)+1) (y:=(j:Int)+1+(k:Int)) (by omega) (by omega) (HS.out.below hB (Nat.le_refl _)) hl.out (by omega) hcap
      have hxl:((b.drop (j+1)).take k).length=k:=by rw[List.length_take,List.length_drop,hl.out];omega
      have hst:=run_str k (cap - (j+1)) hs' hxl
      have HR:Hid (N.opn b=(N.opn (b.drop (j+1+k))).map ((n ++ [(b.drop (j+1)).take k]) ++ ·)):=by
       rw[HO.out,h1,N.map_map];exact rfl
      have HZ2:Hid (j+1+k+1=N.size (n ++ [(b.drop (j+1)).take k])):=by
       show _=_
       rw[N.size_one,hxl, <- HZ.out];omega
      generalize (b.drop (j+1)).take k=x at hst HR HZ2
      clear hz0 hgr hnx h1 hs' HO HZ hxl
      go_wp2_with (at_builtin;refine wpList_append_S rfl (.tmp 30) (.tmp 40) rfl w.heap.size _ n rfl (by exact hO.alloc _) _ _ _ [x] rfl rfl (SlS.one _ _ _) (by simp;omega) (by simp;omega) ?_;intro v4 w4 hO4 hG4;have hB4:=grown_belowS (hO.alloc _) hG4 (hB.alloc hz _) (by simp;omega);clear hG4 hO)
      go_roundw
      case rel=>exact⟨j+1+k,_,by go_num,by omega,HR,HZ2,by simp;omega,hO4,hB4⟩
      case measure=>simp[intOf];omega
  ·have HR:Hid (N.opn b=none):=by rw[HO.out,N.opn_out b j (by have:=hl.out;omega)];exact rfl
   go_wp2
   go_ret3
   exact⟨Or.inr (Or.inl ⟨HR.out,rfl⟩),hB⟩
end Go.Proofs.YtmbcegljmhcdeaaGreat
namespace Go.Proofs
open Go.Shelf
def Tryz.sortSA_ren:Go.Shelf.Ren:=⟨fun | 6=>127 | 8=>134 | 9=>162 | 19=>172 | 20=>173 | 21=>187 | 22=>188 | 23=>189 | 24=>190 | 25=>191 | 26=>192 | 27=>193 | 28=>194 | 29=>195 | 36=>211 | 31=>197 | 32=>198 | 37=>212 | 38=>213 | 39=>214 | 41=>220 | n=>n,fun | 27=>27 | 29=>9 | 3=>3 | 32=>131 | 26=>27 | 0=>0 | 44=>35 | 46=>230 | 4=>4 | 36=>221 | 35=>220 | 41=>226 | 5=>5 | 9=>9 | 53=>246 | 57=>250 | 63=>264 | 64=>265 | n=>n,fun | n=>n⟩
theorem Tryz.sortSA:Go.Proofs.SlLaysM.n6 Tryz.prog Tryz.sortSA_ren := {
 mixed:=by kernel_rfl
 f6:=⟨Tryz.f127.name,by decide,Tryz.func127.trans (congrArg some (by kernel_rfl))⟩
 f8:=Tryz.func134.trans (congrArg some (by kernel_rfl))
 f9:=⟨Tryz.f162.name,by decide,Tryz.func162.trans (congrArg some (by kernel_rfl))⟩
 f19:=Tryz.func172.trans (congrArg some (by kernel_rfl))
 f20:=Tryz.func173.trans (congrArg some (by kernel_rfl))
 f21:=⟨Tryz.f187.name,by decide,Tryz.func187.trans (congrArg some (by kernel_rfl))⟩
 f22:=⟨Tryz.f188.name,by decide,Tryz.func188.trans (congrArg some (by kernel_rfl))⟩
 f23:=⟨Tryz.f189.name,by decide,Tryz.func189.trans (congrArg some (by kernel_rfl))⟩
 f24:=⟨Tryz.f190.name,by decide,Tryz.func190.trans (congrArg some (by kernel_rfl))⟩
 f25:=⟨Tryz.f191.name,by decide,Tryz.func191.trans (congrArg some (by kernel_rfl))⟩
 f26:=⟨Tryz.f192.name,by decide,Tryz.func192.trans (congrArg some (by kernel_rfl))⟩
 f27:=⟨Tryz.f193.name,by decide,Tryz.func193.trans (congrArg some (by kernel_rfl))⟩
 f28:=⟨Tryz.f194.name,by decide,Tryz.func194.trans (congrArg some (by kernel_rfl))⟩
 f29:=⟨Tryz.f195.name,by decide,Tryz.func195.trans (congrArg some (by kernel_rfl))⟩
 f31:=Tryz.func197.trans (congrArg some (by kernel_rfl))
 f32:=Tryz.func198.trans (congrArg some (by kernel_rfl))
 f36:=⟨Tryz.f211.name,by decide,Tryz.func211.trans (congrArg some (by kernel_rfl))⟩
 f37:=⟨Tryz.f212.name,by decide,Tryz.func212.trans (congrArg some (by kernel_rfl))⟩
 f38:=⟨Tryz.f213.name,by decide,Tryz.func213.trans (congrArg some (by kernel_rfl))⟩
 f39:=⟨Tryz.f214.name,by decide,Tryz.func214.trans (congrArg some (by kernel_rfl))⟩
 f41:=⟨Tryz.f220.name,by decide,Tryz.func220.trans (congrArg some (by kernel_rfl))⟩
 t0:=Tryz.underlying0
 a0:=Tryz.isAgg0
 z0:=Tryz.sizeOf0
 v0:=Tryz.zeroValue0
 t3:=Tryz.underlying3
 a3:=Tryz.isAgg3
 z3:=Tryz.sizeOf3
 v3:=Tryz.zeroValue3
 t4:=Tryz.underlying4
 a4:=Tryz.isAgg4
 z4:=Tryz.sizeOf4
 v4:=Tryz.zeroValue4
 t5:=Tryz.underlying5
 a5:=Tryz.isAgg5
 z5:=Tryz.sizeOf5
 v5:=Tryz.zeroValue5
 t9:=Tryz.underlying9
 a9:=Tryz.isAgg9
 z9:=Tryz.sizeOf9
 v9:=Tryz.zeroValue9
 t26:=Tryz.underlying27
 a26:=Tryz.isAgg27
 z26:=Tryz.sizeOf27
 v26:=Tryz.zeroValue27
 t27:=Tryz.underlying27
 a27:=Tryz.isAgg27
 z27:=Tryz.sizeOf27
 v27:=Tryz.zeroValue27
 t29:=Tryz.underlying9
 a29:=Tryz.isAgg9
 z29:=Tryz.sizeOf9
 v29:=Tryz.zeroValue9
 t32:=Tryz.underlying131
 a32:=Tryz.isAgg131
 z32:=Tryz.sizeOf131
 v32:=Tryz.zeroValue131
 t35:=Tryz.underlying220
 a35:=Tryz.isAgg220
 z35:=Tryz.sizeOf220
 v35:=Tryz.zeroValue220
 t36:=Tryz.underlying221
 a36:=Tryz.isAgg221
 z36:=Tryz.sizeOf221
 v36:=Tryz.zeroValue221
 t41:=Tryz.underlying226
 a41:=Tryz.isAgg226
 z41:=Tryz.sizeOf226
 v41:=Tryz.zeroValue226
 t44:=Tryz.underlying35
 a44:=Tryz.isAgg35
 z44:=Tryz.sizeOf35
 v44:=Tryz.zeroValue35
 t46:=Tryz.underlying230
 a46:=Tryz.isAgg230
 z46:=Tryz.sizeOf230
 v46:=Tryz.zeroValue230
 t53:=Tryz.underlying246
 a53:=Tryz.isAgg246
 z53:=Tryz.sizeOf246
 v53:=Tryz.zeroValue246
 t57:=Tryz.underlying250
 a57:=Tryz.isAgg250
 z57:=Tryz.sizeOf250
 v57:=Tryz.zeroValue250
 t63:=Tryz.underlying264
 a63:=Tryz.isAgg264
 z63:=Tryz.sizeOf264
 v63:=Tryz.zeroValue264
 t64:=Tryz.underlying265
 a64:=Tryz.isAgg265
 z64:=Tryz.sizeOf265
 v64:=Tryz.zeroValue265 }
def Tryz.keysDA_ren:Go.Shelf.Ren:=⟨fun | 7=>99 | 10=>130 | n=>n,fun | 23=>100 | 26=>9 | 3=>37 | 28=>146 | 0=>0 | 27=>145 | 33=>190 | 4=>4 | n=>n,fun | n=>n⟩
theorem Tryz.keysDA:Go.Proofs.SlLaysZ.n7 Tryz.prog Tryz.keysDA_ren := {
 mixed:=by kernel_rfl
 f7:=⟨Tryz.f99.name,by decide,Tryz.func99.trans (congrArg some (by kernel_rfl))⟩
 f10:=⟨Tryz.f130.name,by decide,Tryz.func130.trans (congrArg some (by kernel_rfl))⟩
 t0:=Tryz.underlying0
 a0:=Tryz.isAgg0
 z0:=Tryz.sizeOf0
 v0:=Tryz.zeroValue0
 t4:=Tryz.underlying4
 a4:=Tryz.isAgg4
 z4:=Tryz.sizeOf4
 v4:=Tryz.zeroValue4
 t23:=Tryz.underlying100
 a23:=Tryz.isAgg100
 z23:=Tryz.sizeOf100
 v23:=Tryz.zeroValue100
 t26:=Tryz.underlying9
 a26:=Tryz.isAgg9
 z26:=Tryz.sizeOf9
 v26:=Tryz.zeroValue9
 t27:=Tryz.underlying145
 a27:=Tryz.isAgg145
 z27:=Tryz.sizeOf145
 v27:=Tryz.zeroValue145
 t28:=Tryz.underlying146
 a28:=Tryz.isAgg146
 z28:=Tryz.sizeOf146
 v28:=Tryz.zeroValue146
 t33:=Tryz.underlying190
 a33:=Tryz.isAgg190
 z33:=Tryz.sizeOf190
 v33:=Tryz.zeroValue190 }
def Tryz.sortedSA_ren:Go.Shelf.Ren:=⟨fun | 6=>96 | 8=>126 | 9=>127 | 11=>161 | 13=>134 | 12=>162 | 23=>172 | 24=>173 | 14=>187 | 15=>188 | 16=>189 | 17=>190 | 18=>191 | 19=>192 | 20=>193 | 21=>194 | 22=>195 | 25=>211 | 26=>197 | 27=>198 | 28=>212 | 29=>213 | 30=>214 | 31=>220 | n=>n,fun | 26=>9 | 28=>146 | 24=>27 | 0=>0 | 3=>3 | 37=>131 | 48=>35 | 50=>230 | 4=>4 | 40=>221 | 39=>220 | 45=>226 | 5=>5 | 9=>9 | 51=>246 | 55=>250 | 57=>264 | 58=>265 | 33=>190 | n=>n,fun | n=>n⟩
theorem Tryz.sortedSA:Go.Proofs.SlLaysZ.n6 Tryz.prog Tryz.sortedSA_ren := {
 mixed:=by kernel_rfl
 f6:=⟨Tryz.f96.name,by decide,Tryz.func96.trans (congrArg some (by kernel_rfl))⟩
 f8:=⟨Tryz.f126.name,by decide,Tryz.func126.trans (congrArg some (by kernel_rfl))⟩
 f11:=⟨Tryz.f161.name,by decide,Tryz.func161.trans (congrArg some (by kernel_rfl))⟩
 t0:=Tryz.underlying0
 a0:=Tryz.isAgg0
 z0:=Tryz.sizeOf0
 v0:=Tryz.zeroValue0
 t24:=Tryz.underlying27
 a24:=Tryz.isAgg27
 z24:=Tryz.sizeOf27
 v24:=Tryz.zeroValue27
 t26:=Tryz.underlying9
 a26:=Tryz.isAgg9
 z26:=Tryz.sizeOf9
 v26:=Tryz.zeroValue9
 t28:=Tryz.underlying146
 a28:=Tryz.isAgg146
 z28:=Tryz.sizeOf146
 v28:=Tryz.zeroValue146
 i26:=by kernel_rfl }
def Tryz.nCloneA_ren:Go.Shelf.Ren:=⟨fun | 41=>56 | n=>n,fun | 22=>28 | 23=>9 | 4=>4 | n=>n,fun | n=>n⟩
theorem Tryz.nCloneA:Go.Proofs.SlLaysE0.n41 Tryz.prog Tryz.nCloneA_ren := {
 mixed:=by kernel_rfl
 f41:=⟨Tryz.f56.name,by decide,Tryz.func56.trans (congrArg some (by kernel_rfl))⟩
 t4:=Tryz.underlying4
 a4:=Tryz.isAgg4
 z4:=Tryz.sizeOf4
 v4:=Tryz.zeroValue4
 t22:=Tryz.underlying28
 a22:=Tryz.isAgg28
 z22:=Tryz.sizeOf28
 v22:=Tryz.zeroValue28 }
end Go.Proofs
namespace Go.Proofs.YtmbcegljmhcdeaaGreat
set_option maxRecDepth 5000
open Go.RowKit Go.Shelf
def HR:Value->Option (DataW Value × List MemPlace):=fun v=>some (.held v, [])
structure MapV (D:DataW Value) (f:Lit->Option Value):Prop where
 isMap:Maps.IsMap D
 has : ∀ k,Maps.has D k=(f k).isSome
 val : ∀ (k:Lit) (z:Value),D.atKey k (.held z) = .held ((f k).getD z)
def fput (f:Lit->Option Value) (k:Lit) (v:Value):Lit->Option Value:=fun j=>if j.sameKey k=true then some v else f j
theorem same_ne {j k:Lit} (h:j≠k) : ¬ j.sameKey k=true:=fun e=>h (WideAt.sameKey_eq e)
theorem fput_same (f:Lit->Option Value) {k:Lit} (hk:WideAt.IsKeyLit k) (v:Value):fput f k v k=some v:=by unfold fput;rw[if_pos (WideAt.sameKey_self hk)]
theorem fput_other (f:Lit->Option Value) {j k:Lit} (h:j≠k) (v:Value):fput f k v j=f j:=by unfold fput;rw[if_neg (same_ne h)]
theorem MapV.nil:MapV (.map []) (fun _=>none):=⟨Maps.isMap_empty,fun _=>rfl,fun _ _=>rfl⟩
theorem MapV.put {D:DataW Value} {f:Lit->Option Value} (h:MapV D f) (k:Lit) (hk:WideAt.IsKeyLit k) (v:Value):MapV (D.put k (.held v)) (fput f k v):=by
 refine⟨h.isMap.put _ _,fun j=>?_,fun j z=>?_⟩
 ·by_cases e:j=k
  ·subst e;rw[Maps.has_put_same h.isMap hk,fput_same f hk];rfl
  ·rw[Maps.has_put_other e,h.has,fput_other f e]
 ·by_cases e:j=k
  ·subst e;rw[Maps.atKey_put_same h.isMap hk,fput_same f hk];rfl
  ·rw[Maps.atKey_put_other e,h.val,fput_other f e]
def MapAt (k:TypeId) (w:World) (b:Nat) (f:Lit->Option Value) (K:Nat):Prop := ∃ D,w.ownsMap Tryz.prog k HR b K D/\MapV D f
theorem MapAt.mono {k:TypeId} {w:World} {b K K':Nat} {f:Lit->Option Value} (h:MapAt k w b f K) (hk:K<=K'):MapAt k w b f K':=by
 obtain⟨D,h1,h2⟩:=h;exact⟨D,h1.mono hk,h2⟩
theorem MapAt.heap {k:TypeId} {w w':World} {b K:Nat} {f:Lit->Option Value} (h:MapAt k w b f K) (hb:w'.heap[b]?=w.heap[b]?):MapAt k w' b f K:=by
 obtain⟨D,⟨es,clock,h1,h2⟩,hv⟩:=h
 exact⟨D,⟨es,clock,hb.trans h1,h2⟩,hv⟩
theorem MapAt.obj {k:TypeId} {w:World} {b K:Nat} {f:Lit->Option Value} (h:MapAt k w b f K) : ∃ es clock,w.heap[b]?=some (.map es clock):=by
 obtain⟨D,⟨es,clock,h1,_⟩,_⟩:=h;exact⟨es,clock,h1⟩
theorem MapAt.lt {k:TypeId} {w:World} {b K:Nat} {f:Lit->Option Value} (h:MapAt k w b f K):b<w.heap.size:=by
 obtain⟨D,h1,_⟩:=h;exact h1.lt
theorem MapAt.row_ne {k:TypeId} {w:World} {b K g:Nat} {f:Lit->Option Value} (h:MapAt k w b f K) {c:Array Value} {t:TypeId} {fr:Nat × Nat} (hg:w.heap[g]?=some (.cells c t fr)):g≠b:=fun e=>by
 obtain⟨es,clock,h1⟩:=h.obj
 rw[e,h1] at hg;cases hg
theorem MapAt.made (k:TypeId) (w:World):MapAt k (w.alloc (.map #[] 0)) w.heap.size (fun _=>none) 0:=⟨_,World.ownsMap_made w _ _ _,MapV.nil⟩
theorem MapAt.congr {k:TypeId} {w:World} {b K:Nat} {f g:Lit->Option Value} (h:MapAt k w b f K) (e : ∀ x,f x=g x):MapAt k w b g K:=(funext e:f=g) ▸ h
theorem MapAt.look {t k e:TypeId} {w:World} {b K:Nat} {f:Lit->Option Value} (h:MapAt k w b f K) (hK:Maps.Keyed Tryz.prog k) (hu:Tryz.prog.underlying t=some (.map k e)) {z:Value} (hz:(zeroValue e).run Tryz.prog w = .ok z w) {key:Value} {kl:Lit} (hk:keyOf Tryz.prog k key=some kl) :
 (Instr.lookup t (.map (some b)) key true).run Tryz.prog w = .ok (.tuple #[(f kl).getD z,.bool (f kl).isSome]) w:=by
 obtain⟨D,h1,hv⟩:=h
 obtain⟨v,ps,hrun,hR⟩:=h1.look_ok hK hu hz (zd := .held z) (zp := []) rfl hk
 rw[hv.val kl] at hR
 simp only[HR,Option.some.injEq,Prod.mk.injEq,DataW.held.injEq] at hR
 rw[hrun,hv.has kl,hR.1]
theorem MapAt.get {t k e:TypeId} {w:World} {b K:Nat} {f:Lit->Option Value} (h:MapAt k w b f K) (hK:Maps.Keyed Tryz.prog k) (hu:Tryz.prog.underlying t=some (.map k e)) {z:Value} (hz:(zeroValue e).run Tryz.prog w = .ok z w) {key:Value} {kl:Lit} (hk:keyOf Tryz.prog k key=some kl) :
 (Instr.lookup t (.map (some b)) key false).run Tryz.prog w = .ok ((f kl).getD z) w:=by
 obtain⟨D,h1,hv⟩:=h
 obtain⟨v,ps,hrun,hR⟩:=h1.lookup hK hu hz (zd := .held z) (zp := []) rfl hk
 rw[hv.val kl] at hR
 simp only[HR,Option.some.injEq,Prod.mk.injEq,DataW.held.injEq] at hR
 rw[hrun,hR.1]
structure Turn (b:Nat) (w w':World):Prop where
 os:w'.os=w.os
 tape:w'.tape=w.tape
 output:w'.output=w.output
 size:w'.heap.size=w.heap.size
 block : ∀ i,i≠b->w'.heap[i]?=w.heap[i]?
 was : ∃ es clock,w.heap[b]?=some (.map es clock)
 is_ : ∃ es clock,w'.heap[b]?=some (.map es clock)
theorem Turn.of {b:Nat} {w w':World} (h:w.mapTurned w' b):Turn b w w':=by
 obtain⟨es,clock,es',clock',hb,rfl⟩:=h
 refine⟨rfl,rfl,rfl,by simp[ChangeMaps.setBlock],fun i hi=>?_,⟨es,clock,hb⟩,⟨es',clock',ChangeMaps.heap_setBlock_same hb _⟩⟩
 simp only[ChangeMaps.setBlock]
 exact Array.getElem?_setIfInBounds_ne (fun e=>hi e.symm)
theorem MapAt.update {t k e:TypeId} {w:World} {b K:Nat} {f:Lit->Option Value} (h:MapAt k w b f K) (hK:Maps.Keyed Tryz.prog k) (hu:Tryz.prog.underlying t=some (.map k e)) (hn:K<=1000000) {key:Value} {kl:Lit} (hk:keyOf Tryz.prog k key=some kl) (v:Value) :
 ∃ w',(Instr.mapUpdate t (.map (some b)) key v).run Tryz.prog w = .ok () w'/\MapAt k w' b (fput f kl v) (K+1)/\Turn b w w':=by
 obtain⟨D,h1,hv⟩:=h
 obtain⟨w',hrun,ho,ht⟩:=h1.store hK hu (by unfold maxLen;omega) hk (d := .held v) (ps := []) rfl
 exact⟨w',hrun,⟨_,ho,hv.put kl (hK.key hk) v⟩,Turn.of ht⟩
theorem MapV.count {k:TypeId} {w:World} {b N:Nat} {D:DataW Value} {f:Lit->Option Value} (hK:Maps.Keyed Tryz.prog k) (ho:w.ownsMap Tryz.prog k HR b N D) (h:MapV D f) (ks:List Lit) (hn:ks.Nodup) (hm : ∀ x,x∈ks↔(f x).isSome):Maps.size D=ks.length:=by
 obtain⟨es,rfl,hp,hk⟩:=ho.entries hK
 have h1:(es.map Prod.fst).Perm ks:=by
  refine (List.perm_ext_iff_of_nodup ?_ hn).2 fun x=>?_
  ·exact List.pairwise_map.2 hp
  ·rw[hm x, <- h.has x,List.mem_map]
   constructor
   ·rintro⟨p,hp',rfl⟩
    exact List.any_eq_true.2 ⟨p,hp',WideAt.sameKey_self (hk p hp')⟩
   ·intro hx
    obtain⟨p,hp',e⟩:=List.any_eq_true.1 hx
    exact⟨p,hp',WideAt.sameKey_eq e⟩
 rw[<- h1.length_eq,List.length_map];rfl
theorem MapAt.le {k:TypeId} {w:World} {b K:Nat} {f:Lit->Option Value} (h:MapAt k w b f K) (hK:Maps.Keyed Tryz.prog k) (ks:List Lit) (hn:ks.Nodup) (hm : ∀ x,x∈ks↔(f x).isSome):ks.length<=K:=by
 obtain⟨D,h1,hv⟩:=h
 rw[<- hv.count hK h1 ks hn hm];exact h1.size_le
theorem MapAt.none_len {t k e:TypeId} {w:World} {b K:Nat} {f:Lit->Option Value} (h:MapAt k w b f K) (hK:Maps.Keyed Tryz.prog k) (hu:Tryz.prog.underlying t=some (.map k e)) (ty:TypeId) :
 ∃ n:Nat,(Builtin.len_ #[t] ty #[.map (some b)]).run Tryz.prog w = .ok (.int .i64 (n:Int)) w/\n<=K/\(n=0 ↔ ∀ x,f x=none):=by
 obtain⟨D,h1,hv⟩:=h
 refine⟨Maps.size D,h1.len hu ty,h1.size_le,?_⟩
 obtain⟨es,rfl,hp,hk⟩:=h1.entries hK
 constructor
 ·intro h0 x
  have he:es = []:=List.eq_nil_of_length_eq_zero h0
  subst he
  have:=hv.has x
  cases hx:f x with
  | none=>rfl
  | some v=>rw[hx] at this;cases this
 ·intro hx
  show es.length=0
  cases es with
  | nil=>rfl
  | cons p es =>
   have h2:Maps.has (.map (p::es)) p.1=true:=List.any_eq_true.2 ⟨p,by simp,WideAt.sameKey_self (hk p (by simp))⟩
   rw[hv.has,hx] at h2;cases h2
theorem keyedS:Maps.Keyed Tryz.prog 9:=Maps.string_keyed Tryz.underlying9
theorem keyedH:Maps.Keyed Tryz.prog 36:=Maps.int_keyed Tryz.underlying36
theorem keyS (s:List UInt8) (hs:s.length<=1000000):keyOf Tryz.prog 9 (.string ⟨s.toArray⟩)=some (.string s):=by
 have h:=WideMaps.keyOf_string_mk (P:=Tryz.prog) Tryz.underlying9 (s:=⟨s.toArray⟩) (by show s.toArray.size<=maxLen;unfold maxLen;simp;omega)
 simpa using h
theorem keyH (t:Nat) (ht:t<65536):keyOf Tryz.prog 36 (.int .u16 (t:Int))=some (.int .u16 (t:Int)):=by
 refine Maps.keyOf_int_mk Tryz.underlying36 ?_
 have h1:IntKind.u16.min=0:=by decide
 have h2:IntKind.u16.max=65535:=by decide
 simp only[Lit.wf,Bool.and_eq_true,decide_eq_true_eq,h1,h2];omega
end Go.Proofs.YtmbcegljmhcdeaaGreat
namespace Go.Proofs
open Go.Shelf
def Tryz.lays125_ren:Go.Shelf.Ren:=⟨fun | 125=>134 | 128=>172 | 129=>173 | n=>n,fun | 46=>131 | 3=>3 | 51=>35 | 53=>230 | 4=>4 | 5=>5 | 9=>9 | n=>n,fun | n=>n⟩
theorem Tryz.lays125:Go.Proofs.Lays.n125 Tryz.prog Tryz.lays125_ren := {
 mixed:=by kernel_rfl
 f125:=Tryz.func134.trans (congrArg some (by kernel_rfl))
 f128:=Tryz.func172.trans (congrArg some (by kernel_rfl))
 f129:=Tryz.func173.trans (congrArg some (by kernel_rfl))
 t3:=Tryz.underlying3
 a3:=Tryz.isAgg3
 z3:=Tryz.sizeOf3
 v3:=Tryz.zeroValue3
 t4:=Tryz.underlying4
 a4:=Tryz.isAgg4
 z4:=Tryz.sizeOf4
 v4:=Tryz.zeroValue4
 t5:=Tryz.underlying5
 a5:=Tryz.isAgg5
 z5:=Tryz.sizeOf5
 v5:=Tryz.zeroValue5
 t9:=Tryz.underlying9
 a9:=Tryz.isAgg9
 z9:=Tryz.sizeOf9
 v9:=Tryz.zeroValue9
 t46:=Tryz.underlying131
 a46:=Tryz.isAgg131
 z46:=Tryz.sizeOf131
 v46:=Tryz.zeroValue131
 t51:=Tryz.underlying35
 a51:=Tryz.isAgg35
 z51:=Tryz.sizeOf35
 v51:=Tryz.zeroValue35
 t53:=Tryz.underlying230
 a53:=Tryz.isAgg230
 z53:=Tryz.sizeOf230
 v53:=Tryz.zeroValue230 }
theorem Tryz.bits_Len (x:Int) (w:World) (h0:0<=x) (h1:x<=18446744073709551615) :
 Calls Tryz.prog 134 #[.int .u64 x] w fun e w'=>e = .returned (.int .i64 (Lib.bitLen x.toNat))/\w'=w:=Any.bits_Len Tryz.lays125 x w h0 h1
def Tryz.laysSlK4_ren:Go.Shelf.Ren:=⟨fun | 4=>100 | n=>n,fun | 22=>37 | 4=>4 | 5=>5 | n=>n,fun | n=>n⟩
theorem Tryz.laysSlK4:Go.Proofs.SlLaysK.n4 Tryz.prog Tryz.laysSlK4_ren := {
 mixed:=by kernel_rfl
 f4:=Tryz.func100.trans (congrArg some (by kernel_rfl))
 t4:=Tryz.underlying4
 a4:=Tryz.isAgg4
 z4:=Tryz.sizeOf4
 v4:=Tryz.zeroValue4
 t22:=Tryz.underlying37
 a22:=Tryz.isAgg37
 z22:=Tryz.sizeOf37
 v22:=Tryz.zeroValue37
 t5:=Tryz.underlying5
 i5:=by kernel_rfl }
open Go.RowKit Go.Lib in
theorem Tryz.bytes_Clone_at (a:Addr) (n c:Nat) (xs:List Int) (w:World) (hx:xs.length=n) (hbig:n<=140737488355328) (hc : ∀ i,i<n->w.cell? (a.add i)=some (.int .u8 (xs.getD i 0))) :
 Calls Tryz.prog 100 #[.slice (some a) n c] w fun e w' => ∃ v',e = .returned v'/\w'.ownsRow w.heap.size 5 1 v' n (xs.map (Value.int .u8))/\v' ≠ .slice none 0 0/\Below w.heap.size w w':=Any.bytes_Clone_at Tryz.laysSlK4 a n c xs w hx hbig hc
open Go.RowKit Go.Lib in
theorem Tryz.bytes_Clone_nil (n c:Nat) (w:World) :
 Calls Tryz.prog 100 #[.slice none n c] w fun e w'=>e = .returned (.slice none 0 0)/\w'=w:=Any.bytes_Clone_nil Tryz.laysSlK4 n c w
def Tryz.laysSlE43_f218_ren:Go.Shelf.Ren:=⟨fun | 43=>218 | n=>n,fun | 22=>51 | 23=>36 | 3=>3 | 4=>4 | 0=>0 | n=>n,fun | n=>n⟩
theorem Tryz.laysSlE43_f218:Go.Proofs.SlLaysE.n43 Tryz.prog Tryz.laysSlE43_f218_ren := {
 mixed:=by kernel_rfl
 f43:=⟨Tryz.f218.name,by decide,Tryz.func218.trans (congrArg some (by kernel_rfl))⟩
 t0:=Tryz.underlying0
 a0:=Tryz.isAgg0
 z0:=Tryz.sizeOf0
 v0:=Tryz.zeroValue0
 t3:=Tryz.underlying3
 a3:=Tryz.isAgg3
 z3:=Tryz.sizeOf3
 v3:=Tryz.zeroValue3
 t4:=Tryz.underlying4
 a4:=Tryz.isAgg4
 z4:=Tryz.sizeOf4
 v4:=Tryz.zeroValue4
 t22:=Tryz.underlying51
 a22:=Tryz.isAgg51
 z22:=Tryz.sizeOf51
 v22:=Tryz.zeroValue51
 a23:=Tryz.isAgg36
 z23:=Tryz.sizeOf36 }
open Go.RowKit Go.Lib Go.Sort in
theorem Tryz.slices_Compact {α : Type} [Inhabited α] [DecidableEq α] (enc : α -> Value) (hO:OneCell enc) (heq:EqlAt Tryz.prog 36 enc (fun x y=>decide (x=y))) (hne:NeqAt Tryz.prog 36 enc (fun x y=>decide (x=y))) (zr : α) (v23 : ∀ w,(zeroValue 36).run Tryz.prog w = .ok (enc zr) w) (blk off cap:Nat) (d:Array α) (w:World) (hH:Holds enc w blk off d) (hsz:d.size<=9223372036854775807) (hcap:d.size<=cap) :
 Calls Tryz.prog 218 #[.slice (some ⟨blk,off,none⟩) d.size cap] w fun e w'=>e = .returned (.slice (some ⟨blk,off,none⟩) (compactUpTo d d.size).length cap) /\ ∃ q,w'=putRow enc (Sort.ahead w q) blk off (compactUpTo d d.size++List.replicate (d.size - (compactUpTo d d.size).length) zr).toArray:=AnyE.slices_Compact Tryz.laysSlE43_f218 enc hO heq hne zr v23 blk off cap d w hH hsz hcap
end Go.Proofs
namespace Go.Proofs.YtmbcegljmhcdeaaGreat
set_option maxRecDepth 5000
open Go.RowKit Go.Shelf
theorem asc_strs (l:List (List UInt8)) (h:l.Pairwise (· < ·)):l.mergeSort (fun x y=>decide (x<=y))=l :=
 List.mergeSort_of_pairwise (h.imp fun {a b} hab=>by simpa using List.le_of_lt hab)
theorem asc_nodup {l:List (List UInt8)} (h:l.Pairwise (· < ·)):l.Nodup:=List.Pairwise.imp (R:=(· < ·)) (S:=(· ≠ ·)) (fun {a b} (hab:a<b) (e:a=b)=>List.lt_irrefl a (by rw[<- e] at hab;exact hab)) h
theorem sortsS (m:Nat):AnyZ.SortsIn Tryz.prog Tryz.sortedSA_ren Fence.wide m :=
 ⟨fun blk off cap ss W hH hblk hsz=>callsIn_wide.2 (AnyM.slices_Sort_string Tryz.sortSA blk off cap ss W hH hblk hsz),
  fun p cap W=>callsIn_wide.2 (AnyM.slices_Sort_string_none Tryz.sortSA p cap W)⟩
theorem MapV.permS {w:World} {b N:Nat} {D:DataW Value} {f:Lit->Option Value} (ho:w.ownsMap Tryz.prog 9 HR b N D) (h:MapV D f) (ks:List (List UInt8)) (ha:ks.Pairwise (· < ·)) (hm : ∀ x,x∈ks↔(f (.string x)).isSome):ks.Perm (strKeys D):=by
 obtain⟨es,rfl,hp,hk⟩:=ho.entries keyedS
 obtain⟨es',e,hk2⟩:=ho.keysOf
 injection e with e;subst e
 refine perm_strKeys hp (fun p hp'=>?_) (asc_nodup ha) fun x=>?_
 ·obtain⟨v,hv⟩:=hk2 p hp'
  obtain⟨x,_,e,_⟩:=Maps.keyOf_str Tryz.underlying9 hv
  exact⟨x,e⟩
 ·rw[hm x,h.has]
theorem keysD_any (mb:Option Nat) (W:World):Calls Tryz.prog 99 #[.map mb] W fun e w'=>e = .returned (.func (.func 130) #[] #[.pointer (some ⟨W.heap.size,0,none⟩)])/\w'=W.alloc (.cells #[.map mb] 100) :=
 (callsIn_wide (n:=5)).1 (AnyZ.keys_in Tryz.keysDA Fence.wide 5 trivial rfl mb W)
theorem sortedD_any (w:World) (b K:Nat) (f:Lit->Option Value) (h:MapAt 9 w b f K) (hK:K<=1000000) (ks:List (List UInt8)) (ha:ks.Pairwise (· < ·)) (hm : ∀ x,x∈ks↔(f (.string x)).isSome) :
 Calls Tryz.prog 96 #[.func (.func 130) #[] #[.pointer (some ⟨w.heap.size,0,none⟩)]] (w.alloc (.cells #[.map (some b)] 100)) fun e w' => ∃ v,e = .returned v /\
  OwnS w' (w.heap.size+1) v ks/\Below (w.heap.size+1) (w.alloc (.cells #[.map (some b)] 100)) w':=by
 obtain⟨D,hown,hv⟩:=h
 have hbl:=hown.lt
 have hs:=hown.size_le
 have hp:=hv.permS hown ks ha hm
 refine (callsIn_wide (n:=5)).1 ?_
 have hseq:SeqGives Fence.wide 2 Tryz.prog 130 #[.pointer (some ⟨w.heap.size,0,none⟩)] encStr (fun ss=>ss.Perm (strKeys D)) (Maps.size D) (w.alloc (.cells #[.map (some b)] 100)) :=
  AnyZ.keys_gives (ρ := Tryz.keysDA_ren) { Tryz.keysDA with } Fence.wide _ trivial rfl (by omega) w.heap.size b K D _ (by simp) (by simp) (by
   obtain⟨es,clock,hb,Ft,hs,hD⟩:=hown
   exact⟨es,clock,(Below.heap_alloc _ _ b hbl).trans hb,Ft,hs,hD⟩)
 have cS:=AnyZ.sorted_in Tryz.sortedSA Fence.wide 5 trivial trivial trivial trivial rfl (by omega) (sortsS _) (enters_of Tryz.func127 (by kernel_rfl) rfl) 130 #[.pointer (some ⟨w.heap.size,0,none⟩)] trivial (enters_of Tryz.func130 (by kernel_rfl) rfl) _ _ (by unfold maxLen;omega) (by omega) _ hseq
 refine cS.mono ?_
 rintro e w' ⟨v,ss,rfl,hS,hrow,hnil,hb⟩
 have e1:ss.mergeSort (fun x y=>decide (x<=y))=ks:=by
  rw[<- asc_strs _ ha]
  exact mergeSort_of_perm (hS.trans hp.symm)
 have e2:ss.length=ks.length:=(hS.trans hp.symm).length_eq
 rw[e1,e2] at hrow
 refine⟨v,rfl,?_,?_⟩
 ·have e3:(w.alloc (.cells #[.map (some b)] 100)).heap.size=w.heap.size+1:=by simp
  rw[e3] at hrow
  exact hrow
 ·simpa using hb
theorem nclone_nil (w:World) (n c:Nat):Calls Tryz.prog 56 #[.slice none n c] w fun e w'=>e = .returned (.slice none 0 0)/\w'=w:=AnyE.slices_Clone_nil Tryz.nCloneA n c w
theorem bclone_any (w:World) (ao:Option Addr) (c:Nat) (l:List UInt8) (hl2:l.length<=1000000) (hs:SlL w ao l) (hn:ao=none->c=0) :
 Calls Tryz.prog 100 #[.slice ao l.length c] w fun e w' => ∃ v,e = .returned v/\OwnB w' w.heap.size v l/\Below w.heap.size w w':=by
 cases ao with
 | none =>
  have h0:l = []:=by
   cases l with
   | nil=>rfl
   | cons x r=>obtain⟨b,o,e,_⟩:=hs (by simp);cases e
  subst h0
  refine (Tryz.bytes_Clone_nil 0 c w).mono ?_
  rintro e w' ⟨rfl,rfl⟩
  exact⟨_,rfl,OwnB.nil _ _,Below.refl _ _⟩
 | some a =>
  refine (Tryz.bytes_Clone_at a l.length c (l.map fun x=>(x.toNat:Int)) w (by simp) (by omega) (fun i hi=>?_)).mono ?_
  ·obtain⟨b,o,e,hlt,hc⟩:=hs (by omega)
   injection e with e;subst e
   have:=hc i hi
   simp only[Addr.add]
   have e2:(if i=0 then (⟨b,o,none⟩:Addr) else ⟨b,o+i,none⟩)=⟨b,o+i,none⟩:=by
    split
    ·rename_i h0;subst h0;rfl
    ·rfl
   rw[e2,this]
   simp[List.getD,hi]
  ·rintro e w' ⟨v,rfl,h1,_,h2⟩
   refine⟨v,rfl,?_,h2⟩
   unfold OwnB
   rw[List.map_map] at h1
   exact h1
namespace Z
theorem ext_rise {α : Type} {r : α -> α -> Prop} (irr : ∀ a,¬ r a a) (asy : ∀ a b,r a b -> ¬ r b a) : ∀ {l m:List α},l.Pairwise r->m.Pairwise r->(∀ x,x∈l↔x∈m)->l=m
 | [], [],_,_,_=>rfl
 | [],b::m,_,_,h=>absurd ((h b).2 (by simp)) (by simp)
 | a::l, [],_,_,h=>absurd ((h a).1 (by simp)) (by simp)
 | a::l,b::m,hl,hm,h=>by
  rw[List.pairwise_cons] at hl hm
  have e:a=b:=by
   rcases List.mem_cons.1 ((h a).1 (by simp)) with e | ha
   ·exact e
   ·rcases List.mem_cons.1 ((h b).2 (by simp)) with e | hb
    ·exact e.symm
    ·exact absurd (hm.1 a ha) (asy _ _ (hl.1 b hb))
  subst e
  have e2:l=m:=ext_rise irr asy hl.2 hm.2 fun x=>by
   constructor
   ·intro hx
    rcases List.mem_cons.1 ((h x).1 (by simp[hx])) with e | h2
    ·subst e;exact absurd (hl.1 x hx) (irr x)
    ·exact h2
   ·intro hx
    rcases List.mem_cons.1 ((h x).2 (by simp[hx])) with e | h2
    ·subst e;exact absurd (hm.1 x hx) (irr x)
    ·exact h2
  rw[e2]
def dd1 {α : Type} [DecidableEq α] (acc:List α) (x : α):List α := if acc.getLast?=some x then acc else acc ++ [x]
theorem dd_spec {α : Type} [DecidableEq α] {r : α -> α -> Prop} (irr : ∀ a,¬ r a a) (asy : ∀ a b,r a b -> ¬ r b a) : ∀ (l acc:List α),(acc++l).Pairwise (fun a b=>r a b\/a=b)->acc.Pairwise r ->
 (l.foldl dd1 acc).Pairwise r /\ ∀ x,x∈l.foldl dd1 acc↔x∈acc\/x∈l
 | [],acc,_,h=>⟨h,by simp⟩
 | a::l,acc,hle,h=>by
  rw[List.foldl_cons]
  by_cases hx:acc.getLast?=some a
  ·have e:dd1 acc a=acc:=if_pos hx
   rw[e]
   have hs:(acc++l).Pairwise (fun a b=>r a b\/a=b):=hle.sublist (List.Sublist.append_left (List.sublist_cons_self a l) acc)
   obtain⟨h1,h2⟩:=dd_spec irr asy l acc hs h
   refine⟨h1,fun x=>?_⟩
   rw[h2 x]
   have ha:a∈acc:=List.mem_of_getLast? hx
   constructor
   ·rintro (h | h);exact Or.inl h;exact Or.inr (by simp[h])
   ·rintro (h | h)
    ·exact Or.inl h
    ·rcases List.mem_cons.1 h with rfl | h
     ·exact Or.inl ha
     ·exact Or.inr h
  ·have e:dd1 acc a=acc ++ [a]:=if_neg hx
   rw[e]
   have hr:(acc ++ [a]).Pairwise r:=by
    rw[List.pairwise_append]
    refine⟨h,List.pairwise_singleton _ _,fun b hb c hc=>?_⟩
    rw[List.mem_singleton] at hc;subst hc
    rcases (List.pairwise_append.1 hle).2.2 b hb c (by simp) with h1 | h1
    ·exact h1
    ·subst h1
     exfalso
     cases hl:acc.getLast? with
     | none=>rw[List.getLast?_eq_none_iff] at hl;subst hl;cases hb
     | some z =>
      obtain⟨ys,hz⟩:=List.getLast?_eq_some_iff.1 hl
      have hzb:z≠b:=fun e=>hx (by rw[hl,e])
      have hz2:z∈acc:=List.mem_of_getLast? hl
      have h4:r b z:=by
       rw[hz] at h hb
       rcases List.mem_append.1 hb with h5 | h5
       ·exact (List.pairwise_append.1 h).2.2 b h5 z (by simp)
       ·rw[List.mem_singleton] at h5;exact absurd h5.symm hzb
      rcases (List.pairwise_append.1 hle).2.2 z hz2 b (by simp) with h5 | h5
      ·exact asy _ _ h4 h5
      ·exact hzb h5
   obtain⟨h1,h2⟩:=dd_spec irr asy l (acc ++ [a]) (by simpa using hle) hr
   refine⟨h1,fun x=>?_⟩
   rw[h2 x];simp[or_assoc]
theorem lt_cmpB : ∀ (a b:List UInt8),a<b↔N.cmpB a b<0
 | [], []=>by simp[N.cmpB]
 | [],_::_=>by simp[N.cmpB]
 | _::_, []=>by simp[N.cmpB]
 | a::x,b::y=>by
  have hc:N.cmpB (a::x) (b::y)=if N.cmpI a.toNat b.toNat=0 then N.cmpB x y else N.cmpI a.toNat b.toNat:=rfl
  rw[hc,List.cons_lt_cons_iff,lt_cmpB x y]
  have h1:a<b↔a.toNat<b.toNat:=UInt8.lt_iff_toNat_lt
  have h2:a=b↔a.toNat=b.toNat:=UInt8.toNat_inj.symm
  rw[h1,h2]
  have h0 := @N.cmpI_zero a.toNat b.toNat
  by_cases h:N.cmpI a.toNat b.toNat=0
  ·rw[if_pos h]
   have:=h0.1 h
   constructor
   ·rintro (h3 | ⟨_,h3⟩);omega;exact h3
   ·exact fun h3=>Or.inr ⟨this,h3⟩
  ·rw[if_neg h]
   have h4:a.toNat≠b.toNat:=fun e=>h (h0.2 e)
   have h5:N.cmpI a.toNat b.toNat<0↔a.toNat<b.toNat:=by unfold N.cmpI;split <;> (try split) <;> omega
   rw[h5]
   constructor
   ·rintro (h3 | ⟨h3,_⟩);exact h3;exact absurd h3 h4
   ·exact fun h3=>Or.inl h3
def Low (p:List (List UInt8)):Prop:=N.lowN p=p
theorem Low.of (n:List (List UInt8)):Low (N.lowN n):=by
 unfold Low N.lowN;rw[List.map_map];exact List.map_congr_left fun x _=>N.lowL_low x
theorem cmpR_zero' {a b:List (List UInt8)} (ha:Low a) (hb:Low b):N.cmpR a b=0↔a=b:=by
 rw[N.cmpR_zero];unfold Low at *; rw[ha,hb]
end Z
namespace Z
structure R where
 p:List (List UInt8)
 t:Nat
 c:List UInt8
 ttl:Nat
 d:List UInt8
def cmpK (a b:R):Int:=if N.cmpR a.p b.p=0 then (if a.t=b.t then N.cmpB a.c b.c else if a.t<b.t then -1 else 1) else N.cmpR a.p b.p
def rlt (a b:R):Prop:=cmpK a b<0
theorem cmpK_neg (a b:R):cmpK b a = - cmpK a b:=by
 unfold cmpK
 have h1:=N.cmpR_neg a.p b.p
 have h2:=N.cmpB_neg a.c b.c
 by_cases h:N.cmpR a.p b.p=0
 ·rw[if_pos h,if_pos (by omega)]
  by_cases ht:a.t=b.t
  ·rw[if_pos ht,if_pos ht.symm];exact h2
  ·rw[if_neg ht,if_neg (fun e=>ht e.symm)]
   split <;> split <;> omega
 ·rw[if_neg h,if_neg (by omega)];exact h1
theorem cmpR_cong {a b:List (List UInt8)} (h:N.cmpR a b=0) (c:List (List UInt8)):N.cmpR a c=N.cmpR b c:=by
 rw[<- N.cmpR_lowN a, <- N.cmpR_lowN b,(N.cmpR_zero).1 h]
theorem rlt_trans {a b c:R} (h1:rlt a b) (h2:rlt b c):rlt a c:=by
 unfold rlt cmpK at *
 by_cases e1:N.cmpR a.p b.p=0
 ·rw[if_pos e1] at h1
  rw[cmpR_cong e1 c.p]
  by_cases e2:N.cmpR b.p c.p=0
  ·rw[if_pos e2] at h2 ⊢
   by_cases t1:a.t=b.t
   ·rw[if_pos t1] at h1
    by_cases t2:b.t=c.t
    ·rw[if_pos t2] at h2
     rw[if_pos (t1.trans t2)]
     have h3:=N.cmpB_trans (a:=a.c) (b:=b.c) (c:=c.c) (by omega) (by omega)
     by_cases h0:N.cmpB a.c c.c=0
     ·have:=N.cmpB_zero.1 h0
      rw[this] at h1
      have h4:=N.cmpB_neg c.c b.c
      omega
     ·omega
    ·rw[if_neg t2] at h2
     rw[if_neg (by omega)]
     split at h2
     ·rw[if_pos (by omega)];omega
     ·omega
   ·rw[if_neg t1] at h1
    split at h1
    ·by_cases t2:b.t=c.t
     ·rw[if_neg (by omega),if_pos (by omega)];omega
     ·rw[if_neg t2] at h2
      split at h2
      ·rw[if_neg (by omega),if_pos (by omega)];omega
      ·omega
    ·omega
  ·rw[if_neg e2] at h2 ⊢; exact h2
 ·rw[if_neg e1] at h1
  by_cases e2:N.cmpR b.p c.p=0
  ·have h3:=cmpR_cong e2 a.p
   have h4:=N.cmpR_neg a.p b.p
   have h5:=N.cmpR_neg a.p c.p
   rw[if_neg (by omega)];omega
  ·rw[if_neg e2] at h2
   have h3:=N.cmpR_trans (a:=a.p) (b:=b.p) (c:=c.p) (by omega) (by omega)
   by_cases e3:N.cmpR a.p c.p=0
   ·exfalso
    have h4:=cmpR_cong e3 b.p
    have h5:=N.cmpR_neg b.p c.p
    omega
   ·rw[if_neg e3];omega
theorem cmpK_zero {a b:R} (ha:Low a.p) (hb:Low b.p):cmpK a b=0↔a.p=b.p/\a.t=b.t/\a.c=b.c:=by
 unfold cmpK
 by_cases h:N.cmpR a.p b.p=0
 ·rw[if_pos h]
  have h1:=(cmpR_zero' ha hb).1 h
  by_cases ht:a.t=b.t
  ·rw[if_pos ht,N.cmpB_zero]
   exact⟨fun e=>⟨h1,ht,e⟩,fun e=>e.2.2⟩
  ·rw[if_neg ht]
   refine⟨fun e=>?_,fun e=>absurd e.2.1 ht⟩
   split at e <;> omega
 ·rw[if_neg h]
  exact⟨fun e=>absurd e h,fun e=>absurd ((cmpR_zero' ha hb).2 e.1) h⟩
def Lows (L:List R):Prop := ∀ x∈L,Low x.p
def isK (p:List (List UInt8)) (t:Nat) (c:List UInt8) (x:R):Bool:=decide (x.p=p) && decide (x.t=t) && decide (x.c=c)
theorem isK_iff {p:List (List UInt8)} {t:Nat} {c:List UInt8} {x:R} : isK p t c x=true↔x.p=p/\x.t=t/\x.c=c:=by simp[isK,and_assoc]
def there (L:List R) (r:R):Bool:=L.any (isK r.p r.t r.c)
theorem there_iff {L:List R} {r:R} : there L r=true ↔ ∃ x∈L,x.p=r.p/\x.t=r.t/\x.c=r.c:=by
 unfold there;rw[List.any_eq_true]
 exact⟨fun ⟨x,h,e⟩=>⟨x,h,isK_iff.1 e⟩,fun ⟨x,h,e⟩=>⟨x,h,isK_iff.2 e⟩⟩
def lead (L:List R) (r:R):List R:=L.takeWhile (fun x=>decide (cmpK x r<0))
def rear (L:List R) (r:R):List R:=L.dropWhile (fun x=>decide (cmpK x r<0))
def ins (L:List R) (r:R):List R:=lead L r++r::rear L r
theorem lead_rear (L:List R) (r:R):lead L r++rear L r=L:=List.takeWhile_append_dropWhile
theorem mem_ins {L:List R} {r x:R} : x∈ins L r↔x=r\/x∈L:=by
 unfold ins
 rw[List.mem_append,List.mem_cons]
 have h:x∈L↔x∈lead L r\/x∈rear L r:=by rw[<- List.mem_append,lead_rear]
 rw[h]
 constructor
 ·rintro (h | h | h)
  ·exact Or.inr (Or.inl h)
  ·exact Or.inl h
  ·exact Or.inr (Or.inr h)
 ·rintro (h | h | h)
  ·exact Or.inr (Or.inl h)
  ·exact Or.inl h
  ·exact Or.inr (Or.inr h)
theorem lead_lt {L:List R} {r x:R} (h:x∈lead L r):rlt x r:=by
 unfold lead at h
 have:=List.all_takeWhile (p:=fun x=>decide (cmpK x r<0)) (l:=L)
 rw[List.all_eq_true] at this
 simpa [rlt] using this x h
theorem rear_ge {L:List R} (h:L.Pairwise rlt) (r:R) : ∀ x∈rear L r,¬ rlt x r:=by
 induction L with
 | nil=>intro x hx;cases hx
 | cons a L ih =>
  rw[List.pairwise_cons] at h
  intro x hx
  unfold rear at hx
  by_cases ha:cmpK a r<0
  ·rw[List.dropWhile_cons_of_pos (by simpa using ha)] at hx
   exact ih h.2 x hx
  ·rw[List.dropWhile_cons_of_neg (by simpa using ha)] at hx
   rcases List.mem_cons.1 hx with rfl | hx'
   ·exact ha
   ·intro h2
    exact ha (rlt_trans (h.1 x hx') h2)
theorem ins_rise {L:List R} (h:L.Pairwise rlt) (hl:Lows L) {r:R} (hr:Low r.p) (hn:there L r=false):(ins L r).Pairwise rlt:=by
 unfold ins
 have hs:(lead L r++rear L r).Pairwise rlt:=by rw[lead_rear];exact h
 rw[List.pairwise_append] at hs ⊢
 refine⟨hs.1,?_,fun a ha b hb=>?_⟩
 ·rw[List.pairwise_cons]
  refine⟨fun x hx=>?_,hs.2.1⟩
  have h1:=rear_ge h r x hx
  have hx':x∈L:=by rw[<- lead_rear L r];exact List.mem_append_right _ hx
  have h2:cmpK x r≠0:=fun e=>by
   have:=(cmpK_zero (hl x hx') hr).1 e
   rw[there_iff.2 ⟨x,hx',this⟩] at hn;cases hn
  unfold rlt at h1 ⊢
  rw[cmpK_neg];omega
 ·rcases List.mem_cons.1 hb with rfl | hb'
  ·exact lead_lt ha
  ·exact hs.2.2 a ha b hb'
def setT (p:List (List UInt8)) (t ttl:Nat) (x:R):R:=if x.p=p/\x.t=t then { x with ttl:=ttl } else x
theorem setT_p (p:List (List UInt8)) (t ttl:Nat) (x:R):(setT p t ttl x).p=x.p:=by unfold setT;split <;> rfl
theorem setT_t (p:List (List UInt8)) (t ttl:Nat) (x:R):(setT p t ttl x).t=x.t:=by unfold setT;split <;> rfl
theorem setT_c (p:List (List UInt8)) (t ttl:Nat) (x:R):(setT p t ttl x).c=x.c:=by unfold setT;split <;> rfl
theorem setT_d (p:List (List UInt8)) (t ttl:Nat) (x:R):(setT p t ttl x).d=x.d:=by unfold setT;split <;> rfl
theorem setT_at (p:List (List UInt8)) (t ttl:Nat) (x:R) (h:x.p=p/\x.t=t):(setT p t ttl x).ttl=ttl:=by unfold setT;rw[if_pos h]
theorem setT_off (p:List (List UInt8)) (t ttl:Nat) (x:R) (h : ¬ (x.p=p/\x.t=t)):setT p t ttl x=x:=by unfold setT;rw[if_neg h]
def put (L:List R) (r:R):List R:=(if there L r=true then L else ins L r).map (setT r.p r.t r.ttl)
theorem setT_rise {L:List R} (h:L.Pairwise rlt) (p:List (List UInt8)) (t ttl:Nat):(L.map (setT p t ttl)).Pairwise rlt:=by
 rw[List.pairwise_map]
 refine h.imp fun {a b} hab=>?_
 unfold rlt cmpK at *
 rw[setT_p,setT_p,setT_t,setT_t,setT_c,setT_c];exact hab
theorem put_rise {L:List R} (h:L.Pairwise rlt) (hl:Lows L) {r:R} (hr:Low r.p):(put L r).Pairwise rlt:=by
 unfold put
 refine setT_rise ?_ _ _ _
 split
 ·exact h
 ·rename_i hn;exact ins_rise h hl hr (by simpa using hn)
theorem mem_put {L:List R} {r x:R} : x∈put L r ↔ ∃ y,(y∈L\/(there L r=false/\y=r))/\x=setT r.p r.t r.ttl y:=by
 unfold put
 rw[List.mem_map]
 constructor
 ·rintro⟨y,hy,rfl⟩
  refine⟨y,?_,rfl⟩
  split at hy
  ·exact Or.inl hy
  ·rename_i hn
   rcases mem_ins.1 hy with h | h
   ·exact Or.inr ⟨by simpa using hn,h⟩
   ·exact Or.inl h
 ·rintro⟨y,hy,rfl⟩
  refine⟨y,?_,rfl⟩
  split
  ·rename_i hn
   rcases hy with h | ⟨h,_⟩
   ·exact h
   ·rw[hn] at h;cases h
  ·rcases hy with h | ⟨_,h⟩
   ·exact mem_ins.2 (Or.inr h)
   ·exact mem_ins.2 (Or.inl h)
theorem put_lows {L:List R} (hl:Lows L) {r:R} (hr:Low r.p):Lows (put L r):=fun x hx=>by
 obtain⟨y,hy,rfl⟩:=mem_put.1 hx
 rw[setT_p]
 rcases hy with h | ⟨_,rfl⟩
 ·exact hl y h
 ·exact hr
theorem put_len (L:List R) (r:R):(put L r).length=if there L r=true then L.length else L.length+1:=by
 unfold put
 rw[List.length_map]
 split
 ·rfl
 ·have h:L.length=(lead L r).length+(rear L r).length:=by rw[<- List.length_append,lead_rear]
  unfold ins;rw[List.length_append,List.length_cons];omega
structure St where
 ttl:Nat
 g:List UInt8->Option (List UInt8)
structure Of (L:List R) (C:List (List UInt8)->Nat->Option St):Prop where
 no : ∀ p t,C p t=none -> ∀ x∈L,¬ (x.p=p/\x.t=t)
 ex : ∀ p t S,C p t=some S -> ∃ x∈L,x.p=p/\x.t=t
 at_ : ∀ x∈L,∀ S,C x.p x.t=some S->x.ttl=S.ttl/\S.g x.c=some x.d
 back : ∀ p t S c d,C p t=some S->S.g c=some d -> ∃ x∈L,x.p=p/\x.t=t/\x.c=c/\x.d=d
theorem Of.nil:Of [] (fun _ _=>none):=⟨fun _ _ _ x hx=>(by cases hx),fun _ _ _ h=>(by cases h),fun x hx=>(by cases hx),fun _ _ _ _ _ h=>(by cases h)⟩
theorem Of.hasS {L:List R} {C:List (List UInt8)->Nat->Option St} (h:Of L C) {x:R} (hx:x∈L) : ∃ S,C x.p x.t=some S:=by
 cases hC:C x.p x.t with
 | none=>exact absurd ⟨rfl,rfl⟩ (h.no _ _ hC x hx)
 | some S=>exact⟨S,rfl⟩
def got (C:List (List UInt8)->Nat->Option St) (p:List (List UInt8)) (t:Nat) (c:List UInt8):Option (List UInt8):=(C p t).bind (fun S=>S.g c)
theorem Of.got_there {L:List R} {C:List (List UInt8)->Nat->Option St} (h:Of L C) (r:R):(got C r.p r.t r.c).isSome=there L r:=by
 rw[Bool.eq_iff_iff,there_iff]
 unfold got
 constructor
 ·intro hs
  cases hC:C r.p r.t with
  | none=>rw[hC] at hs;cases hs
  | some S =>
   rw[hC] at hs
   obtain⟨d,hd⟩:=Option.isSome_iff_exists.1 hs
   obtain⟨x,hx,h1,h2,h3,_⟩:=h.back _ _ S r.c d hC hd
   exact⟨x,hx,h1,h2,h3⟩
 ·rintro⟨x,hx,h1,h2,h3⟩
  obtain⟨S,hS⟩:=h.hasS hx
  have:=(h.at_ x hx S hS).2
  rw[<- h1, <- h2, <- h3,hS]
  show (S.g x.c).isSome=true
  rw[this];rfl
def cput (C:List (List UInt8)->Nat->Option St) (p:List (List UInt8)) (t ttl:Nat) (c d:List UInt8):List (List UInt8)->Nat->Option St:=fun q s =>
 if q=p/\s=t then some ⟨ttl,fun x=>if x=c then some ((got C p t c).getD d) else got C p t x⟩ else C q s
theorem Of.put {L:List R} {C:List (List UInt8)->Nat->Option St} (h:Of L C) (r:R):Of (put L r) (cput C r.p r.t r.ttl r.c r.d):=by
 refine⟨fun p t hC x hx=>?_,fun p t S hC=>?_,fun x hx S hC=>?_,fun p t S c d hC hg=>?_⟩
 ·unfold cput at hC
  by_cases e:p=r.p/\t=r.t
  ·rw[if_pos e] at hC;cases hC
  ·rw[if_neg e] at hC
   obtain⟨y,hy,rfl⟩:=mem_put.1 hx
   rw[setT_p,setT_t]
   rcases hy with hy | ⟨_,rfl⟩
   ·exact h.no p t hC y hy
   ·exact fun e2=>e ⟨e2.1.symm,e2.2.symm⟩
 ·unfold cput at hC
  by_cases e:p=r.p/\t=r.t
  ·by_cases ht:there L r=true
   ·obtain⟨x,hx,h1,h2,h3⟩:=there_iff.1 ht
    exact⟨_,mem_put.2 ⟨x,Or.inl hx,rfl⟩,by rw[setT_p,h1,e.1],by rw[setT_t,h2,e.2]⟩
   ·exact⟨_,mem_put.2 ⟨r,Or.inr ⟨by simpa using ht,rfl⟩,rfl⟩,by rw[setT_p,e.1],by rw[setT_t,e.2]⟩
  ·rw[if_neg e] at hC
   obtain⟨x,hx,h1,h2⟩:=h.ex p t S hC
   exact⟨_,mem_put.2 ⟨x,Or.inl hx,rfl⟩,by rw[setT_p,h1],by rw[setT_t,h2]⟩
 ·obtain⟨y,hy,rfl⟩:=mem_put.1 hx
  rw[setT_p,setT_t] at hC
  rw[setT_c,setT_d]
  unfold cput at hC
  by_cases e:y.p=r.p/\y.t=r.t
  ·rw[if_pos e] at hC
   injection hC with hC;subst hC
   rw[setT_at _ _ _ _ e]
   refine⟨rfl,?_⟩
   show (if y.c=r.c then some ((got C r.p r.t r.c).getD r.d) else got C r.p r.t y.c)=some y.d
   rcases hy with hy | ⟨hn,rfl⟩
   ·obtain⟨S,hS⟩:=h.hasS hy
    have h2:=(h.at_ y hy S hS).2
    have h3:got C r.p r.t y.c=some y.d:=by unfold got;rw[<- e.1, <- e.2,hS];exact h2
    by_cases ec:y.c=r.c
    ·rw[if_pos ec, <- ec,h3];rfl
    ·rw[if_neg ec,h3]
   ·rw[if_pos rfl]
    have h3:=h.got_there y
    rw[hn] at h3
    have h4:got C y.p y.t y.c=none:=by
     cases hg:got C y.p y.t y.c with
     | none=>rfl
     | some d=>rw[hg] at h3;cases h3
    rw[h4];rfl
  ·rw[if_neg e] at hC
   rw[setT_off _ _ _ _ e]
   rcases hy with hy | ⟨_,rfl⟩
   ·exact h.at_ y hy S hC
   ·exact absurd ⟨rfl,rfl⟩ e
 ·unfold cput at hC
  by_cases e:p=r.p/\t=r.t
  ·rw[if_pos e] at hC
   injection hC with hC;subst hC
   have hg':(if c=r.c then some ((got C r.p r.t r.c).getD r.d) else got C r.p r.t c)=some d:=hg
   have old:got C r.p r.t c=some d -> ∃ x∈Z.put L r,x.p=p/\x.t=t/\x.c=c/\x.d=d:=fun hq=>by
    unfold got at hq
    cases hC2:C r.p r.t with
    | none=>rw[hC2] at hq;cases hq
    | some S =>
     rw[hC2] at hq
     obtain⟨x,hx,h1,h2,h3,h4⟩:=h.back _ _ S c d hC2 hq
     exact⟨_,mem_put.2 ⟨x,Or.inl hx,rfl⟩,by rw[setT_p,h1,e.1],by rw[setT_t,h2,e.2],by rw[setT_c,h3],by rw[setT_d,h4]⟩
   by_cases ec:c=r.c
   ·rw[if_pos ec] at hg'
    cases hq:got C r.p r.t r.c with
    | some d0 =>
     rw[hq] at hg'
     have:d0=d:=by simpa using hg'
     exact old (by rw[ec,hq,this])
    | none =>
     rw[hq] at hg'
     have hd:r.d=d:=by simpa using hg'
     have hn:=h.got_there r
     rw[hq] at hn
     exact⟨_,mem_put.2 ⟨r,Or.inr ⟨hn.symm,rfl⟩,rfl⟩,by rw[setT_p,e.1],by rw[setT_t,e.2],by rw[setT_c,ec],by rw[setT_d,hd]⟩
   ·rw[if_neg ec] at hg'
    exact old hg'
  ·rw[if_neg e] at hC
   obtain⟨x,hx,h1,h2,h3,h4⟩:=h.back p t S c d hC hg
   refine⟨_,mem_put.2 ⟨x,Or.inl hx,rfl⟩,by rw[setT_p,h1],by rw[setT_t,h2],by rw[setT_c,h3],by rw[setT_d,h4]⟩
end Z
end Go.Proofs.YtmbcegljmhcdeaaGreat
