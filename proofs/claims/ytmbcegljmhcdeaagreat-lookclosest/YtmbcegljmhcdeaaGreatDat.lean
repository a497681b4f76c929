/- Data of records, plain (a text of stage 5, at this seat). -/
import Derived.Test.YtmbcegljmhcdeaaGreatNmA
import Derived.BigRegion
import Derived.Recover
import Derived.Laws.OwnMore
import Derived.Test.YtmbcegljmhcdeaaGreatChecked
import Init
namespace Go.Proofs.YtmbcegljmhcdeaaGreat
set_option maxRecDepth 5000
open Go.RowKit
def RowAt (wr:World) (g:Nat) (t:TypeId) (c:Array Value):Prop:=wr.heap[g]?=some (.cells c t (0,0))
theorem RowAt.cell {wr:World} {g:Nat} {t:TypeId} {c:Array Value} (h:RowAt wr g t c) (j:Nat):wr.cell? ⟨g,j,none⟩=c[j]?:=cell_of_row wr g j c t (0,0) h
theorem RowAt.frozen {wr:World} {g:Nat} {t:TypeId} {c:Array Value} (h:RowAt wr g t c) (j:Nat):wr.frozen? ⟨g,j,none⟩=false:=frozen_of_row wr g j c t h
theorem RowAt.set {wr:World} {g:Nat} {t:TypeId} {c:Array Value} (h:RowAt wr g t c) (j:Nat) (v:Value):RowAt (wr.setCell ⟨g,j,none⟩ v) g t (c.setIfInBounds j v):=heap_setCell_same wr g j c t v h
theorem RowAt.lt {w:World} {g:Nat} {t:TypeId} {c:Array Value} (h:RowAt w g t c):g<w.heap.size:=(Array.getElem?_eq_some_iff.1 h).1
theorem RowAt.below {w w':World} {B g:Nat} {t:TypeId} {c:Array Value} (h:RowAt w g t c) (hb:Below B w w') (hg:g<B):RowAt w' g t c:=by
 unfold RowAt;rw[hb.block g hg];exact h
theorem RowAt.alloc {w:World} {g:Nat} {t:TypeId} {c:Array Value} (h:RowAt w g t c) (o:Obj):RowAt (w.alloc o) g t c:=by
 unfold RowAt;rw[Below.heap_alloc _ _ _ h.lt];exact h
theorem RowAt.new (w:World) (t:TypeId) (c:Array Value):RowAt (w.alloc (.cells c t)) w.heap.size t c:=heap_alloc_last w _
theorem own_ne {w:World} {B e n T t:Nat} {v:Value} {xs:List Value} {c:Array Value} (h:w.ownsRow B e 1 v n xs) (hT:RowAt w T t c) (hne:t≠e):some T≠v.ownBlock:=by
 intro e1
 rcases h.2 with⟨rfl,_⟩ | ⟨g,cap,cur,rfl,_,hg,_⟩
 ·simp[Value.ownBlock] at e1
 ·simp[Value.ownBlock] at e1
  subst e1
  unfold RowAt at hT
  rw[hT] at hg
  simp at hg
  exact hne hg.2
theorem own_set {w:World} {B e n T t:Nat} {v:Value} {xs:List Value} {c:Array Value} (h:w.ownsRow B e 1 v n xs) (hT:RowAt w T t c) (hne:t≠e) (j:Nat) (x:Value):(w.setCell ⟨T,j,none⟩ x).ownsRow B e 1 v n xs:=by
 have h1:=own_ne h hT hne
 refine⟨h.1,?_⟩
 rcases h.2 with h2 | ⟨g,cap,cur,rfl,h3,hg,h4⟩
 ·exact Or.inl h2
 ·refine Or.inr ⟨g,cap,cur,rfl,h3,?_,h4⟩
  rw[heap_setCell_other _ _ _ _ (fun e1=>h1 (by simp[Value.ownBlock,e1]))]
  exact hg
theorem row_grown {w w':World} {B e n T t:Nat} {v:Value} {xs:List Value} {c:Array Value} (h:w.ownsRow B e 1 v n xs) (hT:RowAt w T t c) (hne:t≠e) (hg:w.grownBy w' v.ownBlock):RowAt w' T t c:=by
 unfold RowAt;rw[hg.block T hT.lt (own_ne h hT hne)];exact hT
open Go.RowKit
theorem below_drew {B:Nat} {a w:World} (h:Below B a w):Below B a w.drew:=⟨h.os,h.tape,h.output,h.size,h.block⟩
open Go.RowKit
theorem RowAt.other {wr:World} {g:Nat} {t:TypeId} {c:Array Value} (h:RowAt wr g t c) (a:Addr) (v:Value) (hne:g≠a.block):RowAt (wr.setCell a v) g t c:=by
 unfold RowAt;rw[heap_setCell_other _ _ _ _ hne];exact h
open Go.RowKit
def WrB (w:World) (g:Nat) (q:List UInt8):Prop := ∃ cur fr,w.heap[g]?=some (.cells cur 5 fr)/\q.length<=fr.1 /\ ∀ j,j<q.length->cur[j]?=some (.int .u8 (q.getD j 0).toNat)
theorem WrB.cell {w:World} {g:Nat} {q:List UInt8} (h:WrB w g q) (j:Nat) (hj:j<q.length):w.cell? ⟨g,j,none⟩=some (.int .u8 (q.getD j 0).toNat):=by
 obtain⟨cur,fr,h1,_,h3⟩:=h
 rw[cell_of_row w g j cur 5 fr h1];exact h3 j hj
theorem WrB.frozen {w:World} {g:Nat} {q:List UInt8} (h:WrB w g q) (j:Nat) (hj:j<q.length):w.frozen? ⟨g,j,none⟩=false:=by
 obtain⟨cur,fr,h1,h2,_⟩:=h
 unfold World.frozen?
 simp only[h1]
 have : ¬ (fr.1<=j):=by omega
 simp[this]
theorem WrB.lt {w:World} {g:Nat} {q:List UInt8} (h:WrB w g q):g<w.heap.size:=by
 obtain⟨cur,fr,h1,_⟩:=h
 exact (Array.getElem?_eq_some_iff.1 h1).1
theorem WrB.set {w:World} {g:Nat} {q:List UInt8} (h:WrB w g q) (j:Nat) (hj:j<q.length) (c:UInt8):WrB (w.setCell ⟨g,j,none⟩ (.int .u8 (c.toNat:Int))) g (q.set j c):=by
 obtain⟨cur,fr,h1,h2,h3⟩:=h
 refine⟨cur.setIfInBounds j (.int .u8 (c.toNat:Int)),fr,?_,by simpa using h2,fun i hi=>?_⟩
 ·rw[setCell_eq_setRow w g j cur 5 fr _ h1]
  exact setRow_heap w g cur _ 5 fr h1
 ·rw[List.length_set] at hi
  have hlt:j<cur.size:=(Array.getElem?_eq_some_iff.1 (h3 j hj)).1
  rw[Array.getElem?_setIfInBounds]
  by_cases e:j=i
  ·subst e
   rw[if_pos rfl,if_pos hlt]
   simp[hj]
  ·rw[if_neg e,h3 i hi]
   simp[List.getD_eq_getElem?_getD,e]
theorem WrB.sl {w:World} {g:Nat} {q:List UInt8} (h:WrB w g q):SlL w (some ⟨g,0,none⟩) q:=fun _=>⟨g,0,rfl,h.lt,fun j hj=>by rw[Nat.zero_add];exact h.cell j hj⟩
theorem below_drewA (w:World) (o:Obj):Below w.heap.size w (w.drew.alloc o):=(below_drew (Below.refl w.heap.size w)).alloc (Nat.le_refl _) o
theorem conv_own (w:World) (s:ByteArray) (l:List UInt8) (hs:s.data.toList=l) : ∃ c w',(convert 9 37 (.string s)).run Tryz.prog w = .ok (.slice (some ⟨w.heap.size,0,none⟩) s.size c) w'/\WrB w' w.heap.size l/\Below w.heap.size w w'/\w.heap.size<w'.heap.size:=by
 refine⟨_,_,run_bytes_of_string w 9 37 5 s Tryz.underlying9 Tryz.underlying37 Tryz.underlying5,?_,below_drewA w _,by show _<(w.alloc _).heap.size;simp⟩
 subst hs
 have hlen:s.data.toList.length=s.size:=rfl
 refine⟨_,_,heap_alloc_last w.drew _,?_,fun j hj=>?_⟩
 ·show s.data.toList.length<=(bytesRow s _).size
  unfold bytesRow
  rw[Array.size_append,Array.size_map]
  exact Nat.le_add_right _ _
 ·unfold bytesRow
  have h1:j<s.data.size:=by rw[hlen] at hj;exact hj
  rw[Array.getElem?_append_left (by simpa using h1),Array.getElem?_map,List.getD_eq_getElem?_getD,Array.getElem?_toList,Array.getElem?_eq_getElem h1]
  rfl
theorem OwnS.wr {w:World} {B:Nat} {v:Value} {n:List (List UInt8)} (h:OwnS w B v n) {g:Nat} {q:List UInt8} (hg:WrB w g q) (j:Nat) (x:Value):OwnS (w.setCell ⟨g,j,none⟩ x) B v n:=by
 have h0:w.ownsRow B 9 1 v n.length (vs n):=h
 obtain⟨cur,fr,hgg,_⟩:=hg
 refine⟨h0.1,?_⟩
 rcases h0.2 with h2 | ⟨g',cap,cur',rfl,h3,hg',h4⟩
 ·exact Or.inl h2
 ·refine Or.inr ⟨g',cap,cur',rfl,h3,?_,h4⟩
  rw[heap_setCell_other _ _ _ _ (fun e1=>?_)]
  ·exact hg'
  ·have e2:g'=g:=e1
   subst e2
   rw[hgg] at hg'
   simp at hg'
theorem OwnS.put {w:World} {B g len cap:Nat} {n:List (List UInt8)} (h:OwnS w B (.slice (some ⟨g,0,none⟩) len cap) n) (j:Nat) (x:List UInt8):OwnS (w.setCell ⟨g,j,none⟩ (.string ⟨x.toArray⟩)) B (.slice (some ⟨g,0,none⟩) len cap) (n.set j x):=by
 have h0:w.ownsRow B 9 1 (.slice (some ⟨g,0,none⟩) len cap) n.length (vs n):=h
 refine⟨by rw[vs_len,List.length_set,Nat.mul_one],?_⟩
 rcases h0.2 with⟨e,_⟩ | ⟨g',cap',cur,e,h1,h2,h3,h4,h5,h6⟩
 ·cases e
 ·cases e
  refine Or.inr ⟨g,cap,cur.setIfInBounds j (.string ⟨x.toArray⟩),by rw[List.length_set],h1,heap_setCell_same w g j cur 9 _ h2,by rw[List.length_set];exact h3,h4,by simpa using h5,?_⟩
  rw[Array.toList_setIfInBounds,List.length_set,List.take_set,h6]
  simp[vs,List.map_set]
theorem OwnS.cell {w:World} {B g len cap:Nat} {n:List (List UInt8)} (h:OwnS w B (.slice (some ⟨g,0,none⟩) len cap) n) (j:Nat) (hj:j<n.length):w.cell? ⟨g,j,none⟩=some (.string ⟨(n.getD j []).toArray⟩)/\w.frozen? ⟨g,j,none⟩=false/\B<=g:=by
 have h0:w.ownsRow B 9 1 (.slice (some ⟨g,0,none⟩) len cap) n.length (vs n):=h
 rcases h0.2 with⟨e,_⟩ | ⟨g',cap',cur,e,h1,h2,h3,h4,h5,h6⟩
 ·cases e
 ·cases e
  exact⟨by rw[World.ownsRow.cellAt h0 j (by omega),vs_get n j hj],frozen_of_row w g j cur 9 h2,h1⟩
theorem make_names (w:World) (len:Nat) (hl:len<=1000000) : ∃ w',(Instr.makeSlice 28 (.int .i64 (len:Int)) (.int .i64 (len:Int))).run Tryz.prog w = .ok (.slice (some ⟨w.heap.size,0,none⟩) len len) w'/\OwnS w' w.heap.size (.slice (some ⟨w.heap.size,0,none⟩) len len) (List.replicate len [])/\Below w.heap.size w w':=by
 obtain⟨i0,hi,hz0,hz1,hz2⟩:=info_parts infoS
 obtain⟨w',h1,h2,h3⟩:=run_make_full (P:=Tryz.prog) w w.heap.size 28 9 i0 (.string ⟨#[]⟩) 1 Tryz.underlying28 hi hz0 hz1 .i64 .i64 len (by rw[hz2];omega) (by unfold maxLen;omega) (Nat.le_refl _)
 refine⟨w',h1,?_,(Below.refl _ _).grown h3 (Nat.le_refl _) (fun k hk=>by cases hk)⟩
 unfold OwnS
 rw[List.length_replicate]
 have e:(madeCells (Value.string ⟨#[]⟩).cells (len*1)).toList=vs (List.replicate len []):=by
  rw[Nat.mul_one]
  have:(Value.string ⟨#[]⟩).cells = #[.string ⟨#[]⟩]:=rfl
  rw[this,toList_madeCells_one]
  simp[vs]
 rw[<- e];exact h2
namespace N
def half (x:List UInt8) (k:Nat):List UInt8:=lowL (x.take k)++x.drop k
theorem half_len (x:List UInt8) (k:Nat):(half x k).length=x.length:=by
 unfold half;rw[List.length_append,lowL_len,List.length_take,List.length_drop];omega
theorem half_zero (x:List UInt8):half x 0=x:=by simp[half,lowL]
theorem half_all (x:List UInt8) (k:Nat) (h:x.length<=k):half x k=lowL x:=by
 unfold half;rw[List.take_of_length_le h,List.drop_eq_nil_of_le h,List.append_nil]
theorem half_at (x:List UInt8) (k:Nat) (h:k<x.length):(half x k).getD k 0=x.getD k 0:=by
 unfold half
 have hl:(lowL (x.take k)).length=k:=by rw[lowL_len,List.length_take];omega
 rw[drop_at x k h,List.getD_eq_getElem?_getD,List.getElem?_append_right (by omega),hl,Nat.sub_self]
 simp
theorem half_next (x:List UInt8) (k:Nat) (h:k<x.length):(half x k).set k (low (x.getD k 0))=half x (k+1):=by
 unfold half
 have hl:(lowL (x.take k)).length=k:=by rw[lowL_len,List.length_take];omega
 rw[drop_at x k h,List.set_append_right _ _ (by omega),hl,Nat.sub_self,take_nextB x k h]
 simp[lowL]
def halfN (n:List (List UInt8)) (j:Nat):List (List UInt8):=lowN (n.take j)++List.replicate (n.length - j) []
theorem halfN_len (n:List (List UInt8)) (j:Nat) (h:j<=n.length):(halfN n j).length=n.length:=by
 unfold halfN;rw[List.length_append,lowN_len,List.length_take,List.length_replicate];omega
theorem halfN_next (n:List (List UInt8)) (j:Nat) (h:j<n.length):(halfN n j).set j (lowL (n.getD j []))=halfN n (j+1):=by
 unfold halfN
 have hl:(lowN (n.take j)).length=j:=by rw[lowN_len,List.length_take];omega
 obtain⟨m,hm⟩ : ∃ m,n.length - j=m+1:=⟨n.length - j - 1,by omega⟩
 have hm2:n.length - (j+1)=m:=by omega
 rw[hm,hm2,List.replicate_succ,List.set_append_right _ _ (by omega),hl,Nat.sub_self,take_nextN n j h]
 simp[lowN]
end N
set_option maxRecDepth 3000 in
set_option maxHeartbeats 800000 in
theorem lower_any (n:List (List UInt8)) (ao:Option Addr) (len cap:Nat) (w:World) (hl:Hid (n.length=len)) (hs:SlS w ao n) (hm:Hid (N.Small n)) :
 Calls Tryz.prog 48 #[.slice ao len cap] w fun e w' => ∃ v,e = .returned v/\OwnS w' w.heap.size v (N.lowN n)/\Below w.heap.size w w':=by
 have HS:=hide hs
 have hlen:len<=1000000:=by rw[<- hl.out];exact hm.out.1
 clear hs
 obtain⟨w1,hmk,hO1,hB1⟩:=make_names w len hlen
 go_enter Tryz.func48,Tryz.ntmps48
 go_wp2
 clear hmk
 go_loopw [14] (fun i wr => ∃ j:Nat,i = .int .i64 (j:Int)/\j<=len/\OwnS wr w.heap.size (.slice (some ⟨w.heap.size,0,none⟩) len len) (N.halfN n j)/\Below w.heap.size w wr) (fun i _=>len - (intOf i).toNat)
 case atStart=>exact⟨0,rfl,by omega,(by unfold N.halfN;rw[hl.out];simpa [N.lowN] using hO1),hB1⟩
 case round =>
  clear hO1 hB1
  obtain⟨j,rfl,hj,hO,hB⟩:=hrel
  have hz:=hB.size
  by_cases hlt:j<len
  ·obtain⟨b1,o1,rfl,hb1,hc1⟩:=HS.out (by have:=hl.out;omega)
   have hx:=(hB.cell (p:=⟨b1,o1+j,none⟩) hb1).trans (hc1 j (by have:=hl.out;omega))
   have hn1:=N.halfN_next n j (by have:=hl.out;omega)
   have hhl:=N.halfN_len n j (by have:=hl.out;omega)
   have hxl:=hm.out.at j
   clear hc1
   generalize n.getD j []=x at hx hn1 hxl
   have HN:=hide hn1
   clear hn1
   obtain⟨s,hs,hsd⟩ : ∃ s:ByteArray,(⟨x.toArray⟩:ByteArray)=s/\Hid (s.data.toList=x):=⟨_,rfl,rfl⟩
   have hsz:s.size<=x.length:=by rw[<- hs];exact Nat.le_refl _
   have hsz':x.length<=s.size:=by rw[<- hs];exact Nat.le_refl _
   rw[hs] at hx
   clear hs
   obtain⟨c,w2,hcv,hW2,hB2,hz2⟩:=conv_own wr s x hsd.out
   have hO2:=hO.below hB2
   have hb2:=hB.trans (hB2.mono hz)
   have hgl:=hb1
   generalize hG:wr.heap.size=g at hcv hW2 hz2
   have hgB:w.heap.size<=g:=by omega
   go_wp2
   clear hcv hO hB hB2 hx
   go_loopw [23] (fun i wr => ∃ k:Nat,i = .int .i64 (k:Int)/\k<=s.size/\WrB wr g (N.half x k)/\OwnS wr w.heap.size (.slice (some ⟨w.heap.size,0,none⟩) len len) (N.halfN n j)/\Below w.heap.size w wr) (fun i _=>s.size - (intOf i).toNat)
   case atStart=>exact⟨0,rfl,by omega,(by rw[N.half_zero];exact hW2),hO2,hb2⟩
   case round =>
    clear hW2 hO2 hb2 hz2
    obtain⟨k,rfl,hk,hW,hO,hB⟩:=hrel
    by_cases hkl:k<s.size
    ·have c0:=hW.cell k (by rw[N.half_len];omega)
     have f0:=hW.frozen k (by rw[N.half_len];omega)
     rw[N.half_at x k (by omega)] at c0
     have hn2:=N.half_next x k (by omega)
     generalize x.getD k 0=y at c0 hn2
     have HN2:=hide hn2
     have HW:=hide hW
     clear hn2 hW
     go_wp2_with (go_at_call 91;refine (lower_c y _).mono ?_;rintro e w5 ⟨rfl,rfl⟩)
     go_roundw
     case rel=>exact⟨k+1,by go_num,by omega,(by rw[<- HN2.out];exact HW.out.set k (by rw[N.half_len];omega) _),OwnS.wr hO HW.out _ _,hB.setCell hgB _⟩
     case measure=>simp[intOf];omega
    ·obtain rfl:k=s.size:=by omega
     rw[N.half_all x s.size (by omega)] at hW
     have hst:=run_str s.size c hW.sl (by rw[N.lowL_len];omega)
     obtain⟨k0,g0,_⟩:=hO.cell j (by rw[hhl,hl.out];exact hlt)
     have HO:=hide hO
     clear hO hW
     go_wp2
     go_roundw
     case rel=>exact⟨j+1,by go_num,by omega,(by rw[<- HN.out];exact HO.out.put j _),hB.setCell (Nat.le_refl _) _⟩
     case measure=>simp[intOf];omega
  ·obtain rfl:j=len:=by omega
   go_wp2
   go_ret
   refine⟨_,rfl,?_,hB⟩
   have e:N.halfN n j=N.lowN n:=by
    unfold N.halfN
    rw[<- hl.out,List.take_length];simp
   rw[e] at hO
   exact hO
open Go.RowKit
open Go.RowKit
def Light (n:List (List UInt8)):Prop:=n.length<=200 /\ ∀ l∈n,l.length<=300
theorem Light.small {n:List (List UInt8)} (h:Light n):N.Small n:=⟨by have:=h.1;omega,fun l hl=>by have:=h.2 l hl;omega⟩
set_option maxRecDepth 3000 in
theorem light_any (n:List (List UInt8)) (ao:Option Addr) (len cap:Nat) (w:World) (hl:Hid (n.length=len)) (hs:SlS w ao n) (hm:len<=9223372036854775807) :
 Calls Tryz.prog 21 #[.slice ao len cap] w fun e w' => ∃ t,e = .returned (.bool t)/\(t=true->Light n)/\w'=w:=by
 have HS:=hide hs
 clear hs
 rcases Nat.lt_or_ge 200 len with h127 | h127
 ·go_enter Tryz.func21,Tryz.ntmps21
  go_wp2
  go_ret
  exact⟨false,rfl,fun h=>(by cases h),rfl⟩
 ·go_enter Tryz.func21,Tryz.ntmps21
  go_wp2
  go_loopw [3,4] (fun a i wr => ∃ (j sz:Nat),i = .int .i64 (j:Int)/\a = .int .i64 (sz:Int)/\j<=len/\sz<=j*300/\Hid (∀ l∈n.take j,l.length<=300)/\wr=w) (fun _ i _=>len - (intOf i).toNat)
  case atStart=>exact⟨0,0,rfl,rfl,by omega,by omega,(fun l hl=>by simp at hl),rfl⟩
  case round =>
   obtain⟨j,sz,rfl,rfl,hj,hsz,HE,rfl⟩:=hrel
   by_cases hlt:j<len
   ·obtain⟨b1,o1,rfl,_,hc1⟩:=HS.out (by have:=hl.out;omega)
    have hx:=hc1 j (by have:=hl.out;omega)
    have ht:=N.take_nextN n j (by have:=hl.out;omega)
    clear hc1
    generalize n.getD j []=x at hx ht
    have HT:=hide ht
    clear ht
    rcases Nat.lt_or_ge 300 x.length with h63 | h63
    ·go_wp2
     go_ret
     exact⟨false,rfl,fun h=>(by cases h),rfl⟩
    ·go_wp2
     go_roundw
     case rel=>exact⟨j+1,sz+x.length,by go_num,by go_num,by omega,by omega,(by rw[HT.out];intro l hl;rcases List.mem_append.1 hl with h | h;exact HE.out l h;rw[List.mem_singleton.1 h];exact h63),trivial⟩
     case measure=>simp[intOf];omega
   ·obtain rfl:j=len:=by omega
    have ht:n.take j=n:=by rw[<- hl.out];exact List.take_length
    rw[ht] at HE
    have HLEN:=hide hl.out
    clear ht
    go_wp2
    go_ret
    exact⟨_,rfl,fun _=>⟨by have:=HLEN.out;omega,HE.out⟩,rfl⟩
theorem rlow_c (c:UInt8) (w:World):Calls Tryz.prog 129 #[.int .u8 (c.toNat:Int)] w fun e w'=>e = .returned (.int .u8 ((N.low c).toNat:Int))/\w'=w:=by
 have hc:=c.toNat_lt
 rcases Nat.lt_or_ge c.toNat 65 with h1 | h1
 ·rw[N.low_other (Or.inl h1)]
  go_enter Tryz.func129,Tryz.ntmps129
  go_wp2
  go_ret
  exact⟨rfl,rfl⟩
 ·rcases Nat.lt_or_ge 90 c.toNat with h2 | h2
  ·rw[N.low_other (Or.inr h2)]
   go_enter Tryz.func129,Tryz.ntmps129
   go_wp2
   go_ret
   exact⟨rfl,rfl⟩
  ·rw[N.low_cap h1 h2]
   go_enter Tryz.func129,Tryz.ntmps129
   go_wp2
   go_ret
   exact⟨by rw[show ((c.toNat+32:Nat):Int)=(c.toNat:Int)+32 by omega] <;> rfl,rfl⟩
set_option maxRecDepth 3000 in
theorem rLowText_any (s:ByteArray) (x:List UInt8) (w:World) (hs:Hid (s.data.toList=x)) (hn:s.size<=9223372036854775807) :
 Calls Tryz.prog 98 #[.string s] w fun e w'=>e = .returned (.string ⟨(N.lowL x).toArray⟩)/\Below w.heap.size w w':=by
 have hsz:s.size<=x.length:=by rw[<- hs.out];exact Nat.le_refl _
 have hsz':x.length<=s.size:=by rw[<- hs.out];exact Nat.le_refl _
 obtain⟨c,w2,hcv,hW2,hB2,hz2⟩:=conv_own w s x hs.out
 generalize hG:w.heap.size=g at hcv hW2 hz2
 go_enter Tryz.func98,Tryz.ntmps98
 go_wp2
 clear hcv
 go_loopw [4] (fun i wr => ∃ k:Nat,i = .int .i64 (k:Int)/\k<=s.size/\WrB wr g (N.half x k)/\Below w.heap.size w wr) (fun i _=>s.size - (intOf i).toNat)
 case atStart=>exact⟨0,rfl,by omega,(by rw[N.half_zero];exact hW2),hB2⟩
 case round =>
  clear hW2 hB2 hz2
  obtain⟨k,rfl,hk,hW,hB⟩:=hrel
  by_cases hkl:k<s.size
  ·have c0:=hW.cell k (by rw[N.half_len];omega)
   have f0:=hW.frozen k (by rw[N.half_len];omega)
   rw[N.half_at x k (by omega)] at c0
   have hn2:=N.half_next x k (by omega)
   generalize x.getD k 0=y at c0 hn2
   have HN2:=hide hn2
   have HW:=hide hW
   clear hn2 hW
   go_wp2_with (go_at_call 129;refine (rlow_c y _).mono ?_;rintro e w5 ⟨rfl,rfl⟩)
   go_roundw
   case rel=>exact⟨k+1,by go_num,by omega,(by rw[<- HN2.out];exact HW.out.set k (by rw[N.half_len];omega) _),hB.setCell (by show w.heap.size<=g;omega) _⟩
   case measure=>simp[intOf];omega
  ·obtain rfl:k=s.size:=by omega
   rw[N.half_all x s.size (by omega)] at hW
   have hst:=run_str s.size c hW.sl (by rw[N.lowL_len];omega)
   clear hW
   go_wp2
   go_ret
   exact⟨rfl,by rw[<- hG];exact hB⟩
set_option maxRecDepth 3000 in
theorem rLower_any (n:List (List UInt8)) (ao:Option Addr) (len cap:Nat) (w:World) (hl:Hid (n.length=len)) (hs:SlS w ao n) (hm:Hid (N.Small n)) :
 Calls Tryz.prog 61 #[.slice ao len cap] w fun e w' => ∃ v,e = .returned v/\OwnS w' w.heap.size v (N.lowN n)/\Below w.heap.size w w':=by
 have HS:=hide hs
 have hlen:len<=1000000:=by rw[<- hl.out];exact hm.out.1
 clear hs
 go_enter Tryz.func61,Tryz.ntmps61
 go_wp2
 go_loopw [3,4] (fun v i wr => ∃ j:Nat,i = .int .i64 (j:Int)/\j<=len/\OwnS wr w.heap.size v (N.lowN (n.take j))/\Below w.heap.size w wr) (fun _ i _=>len - (intOf i).toNat)
 case atStart=>exact⟨0,rfl,by omega,OwnS.nil _ _,Below.refl _ _⟩
 case round =>
  obtain⟨j,rfl,hj,hO,hB⟩:=hrel
  have hz:=hB.size
  by_cases hlt:j<len
  ·obtain⟨b1,o1,rfl,hb1,hc1⟩:=HS.out (by have:=hl.out;omega)
   have hx:=(hB.cell (p:=⟨b1,o1+j,none⟩) hb1).trans (hc1 j (by have:=hl.out;omega))
   have hn1:N.lowN (n.take (j+1))=N.lowN (n.take j) ++ [N.lowL (n.getD j [])]:=by rw[N.take_nextN n j (by have:=hl.out;omega)];simp[N.lowN]
   have hxl:=hm.out.at j
   have hll:(N.lowN (n.take j)).length<=1000000:=by rw[N.lowN_len,List.length_take];omega
   clear hc1
   generalize n.getD j []=x at hx hn1 hxl
   have HN:=hide hn1
   have HO:=hide hO
   clear hn1 hO
   go_wp2_with (first
    | (go_at_call 98;refine (rLowText_any ⟨x.toArray⟩ x _ rfl (by show x.length<=_;omega)).mono ?_;rintro e w3 ⟨rfl,hB3⟩;have hb3:=hB.trans (hB3.mono hz);have hz3:=hb3.size;have HO3:=hide (HO.out.below hB3);clear HO)
    | (at_builtin;refine wpList_append_S rfl (.tmp 11) (.tmp 17) rfl w.heap.size _ _ rfl (by exact HO3.out.alloc _) _ _ _ [N.lowL x] rfl rfl (SlS.one _ _ _) (by simp;omega) (by simp;omega) ?_;intro v4 w4 hO4 hG4;have hB4:=grown_belowS (HO3.out.alloc _) hG4 (hb3.alloc hz3 _) (by simp;omega);clear hG4))
   go_roundw
   case rel=>exact⟨j+1,by go_num,by omega,(by rw[HN.out];exact hO4),hB4⟩
   case measure=>simp[intOf];omega
  ·obtain rfl:j=len:=by omega
   go_wp2
   go_ret
   refine⟨_,rfl,?_,hB⟩
   have ht:n.take j=n:=by rw[<- hl.out];exact List.take_length
   rw[ht] at hO
   exact hO
theorem rWild_any (a:List (List UInt8)) (ao:Option Addr) (la ca:Nat) (w:World) (hla:Hid (a.length=la)) (hsa:SlS w ao a) :
 Calls Tryz.prog 105 #[.slice ao la ca] w fun e w'=>e = .returned (.bool (wild a))/\w'=w:=by
 have HSA:=hide hsa
 clear hsa
 by_cases h:0<la
 ·have hz:wild a=(a.getD 0 [] == [42]):=by
   unfold wild;rw[hla.out,decide_eq_true h,Bool.true_and]
  rw[hz]
  obtain⟨b1,o1,rfl,_,hc1⟩:=HSA.out (by have:=hla.out;omega)
  have hx1:w.cell? ⟨b1,o1,none⟩=some (.string ⟨(a.getD 0 []).toArray⟩):=hc1 0 (by have:=hla.out;omega)
  clear hc1
  generalize a.getD 0 []=x at hx1
  go_enter Tryz.func105,Tryz.ntmps105
  go_wp2
  go_ret
  exact⟨rfl,rfl⟩
 ·have hz:wild a=false:=by
   unfold wild;rw[hla.out,decide_eq_false h,Bool.false_and]
  rw[hz]
  go_enter Tryz.func105,Tryz.ntmps105
  go_wp2
  go_ret
  exact⟨rfl,rfl⟩
open Go.RowKit
namespace N
theorem chk_long {n:List (List UInt8)} (h0 : ∀ l∈n,l ≠ []) (h:(∃ l∈n,63<l.length)\/255<size n):chk n=31:=by
 unfold chk
 rw[if_neg (fun e=>h0 [] e rfl),if_pos (h.elim Or.inr Or.inl)]
theorem size_take_le (n:List (List UInt8)) (j:Nat):size (n.take j)<=size n:=by
 conv=>rhs;rw[<- List.take_append_drop j n]
 rw[size_app];omega
theorem mem_at (n:List (List UInt8)) (j:Nat) (h:j<n.length):n.getD j []∈n:=by
 have:n.getD j []=n[j]:=by simp[h]
 rw[this];exact List.getElem_mem h
end N
set_option maxRecDepth 3000 in
set_option maxHeartbeats 400000 in
theorem rCheck_any (n:List (List UInt8)) (ao:Option Addr) (len cap:Nat) (w:World) (hl:Hid (n.length=len)) (hs:SlS w ao n) (hm:Hid (N.Small n)) :
 Calls Tryz.prog 88 #[.slice ao len cap] w fun e w'=>e = .returned (.int .i64 (N.chk n))/\w'=w:=by
 have HS:=hide hs
 have hlen:len<=1000000:=by rw[<- hl.out];exact hm.out.1
 clear hs
 go_enter Tryz.func88,Tryz.ntmps88
 go_wp2
 go_loopw [4] (fun i wr => ∃ j:Nat,i = .int .i64 (j:Int)/\j<=len/\Hid (∀ l∈n.take j,l ≠ [])/\wr=w) (fun i _=>len - (intOf i).toNat)
 case atStart=>exact⟨0,rfl,by omega,(fun l hl=>by simp at hl),rfl⟩
 case round =>
  obtain⟨j,rfl,hj,HE,rfl⟩:=hrel
  by_cases hlt:j<len
  ·obtain⟨b1,o1,rfl,_,hc1⟩:=HS.out (by have:=hl.out;omega)
   have hx:=hc1 j (by have:=hl.out;omega)
   have hbad := @N.chk_bad n j (by have:=hl.out;omega)
   have ht:=N.take_nextN n j (by have:=hl.out;omega)
   clear hc1
   generalize n.getD j []=x at hx hbad ht
   have HB:=hide hbad
   have HT:=hide ht
   clear hbad ht
   by_cases hx0:x = []
   ·have HB0:=hide (HB.out hx0)
    clear HB
    subst hx0
    go_wp2
    go_ret
    exact⟨by rw[HB0.out];rfl,rfl⟩
   ·have hx1:x.isEmpty=false:=by cases x <;> simp_all
    have hx2:(x == [])=false:=by cases x <;> simp_all
    go_wp2
    go_roundw
    case rel=>exact⟨j+1,by go_num,by omega,(by rw[HT.out];intro l hl;rcases List.mem_append.1 hl with h | h;exact HE.out l h;rw[List.mem_singleton.1 h];exact hx0),trivial⟩
    case measure=>simp[intOf];omega
  ·obtain rfl:j=len:=by omega
   have ht:n.take j=n:=by rw[<- hl.out];exact List.take_length
   rw[ht] at HE
   clear ht
   go_wp2
   go_loopw [3,5] (fun a i wr' => ∃ k sz:Nat,i = .int .i64 (k:Int)/\a = .int .i64 (sz:Int)/\k<=j/\sz<=255/\Hid (sz=N.size (n.take k))/\Hid (∀ l∈n.take k,l.length<=63)/\wr'=wr) (fun _ i _=>j - (intOf i).toNat)
   case atStart=>exact⟨0,1,rfl,rfl,by omega,by omega,rfl,(fun l hl=>by simp at hl),rfl⟩
   case round =>
    obtain⟨k,sz,rfl,rfl,hk,hsz,HZ,H63,rfl⟩:=hrel
    by_cases hlt2:k<j
    ·obtain⟨b1,o1,rfl,_,hc1⟩:=HS.out (by have:=hl.out;omega)
     have hx:=hc1 k (by have:=hl.out;omega)
     have hn:=N.size_next n k (by have:=hl.out;omega)
     have ht:=N.take_nextN n k (by have:=hl.out;omega)
     have hme:=N.mem_at n k (by have:=hl.out;omega)
     have hxl:=hm.out.at k
     have hle:=N.size_take_le n (k+1)
     clear hc1
     generalize n.getD k []=x at hx hn ht hme hxl
     have HME:=hide hme
     have HT:=hide ht
     rw[hn, <- HZ.out] at hle
     have HN:=hide hn
     have HLE:=hide hle
     clear hn ht hme hle
     rcases Nat.lt_or_ge 63 x.length with h63 | h63
     ·have HC:=hide (N.chk_long HE.out (Or.inl ⟨x,HME.out,h63⟩))
      go_wp2
      go_ret
      exact⟨by rw[HC.out];rfl,rfl⟩
     ·rcases Nat.lt_or_ge 255 (sz+(x.length+1)) with h255 | h255
      ·have HC:=hide (N.chk_long HE.out (Or.inr (Nat.lt_of_lt_of_le h255 HLE.out)))
       go_wp2
       go_ret
       exact⟨by rw[HC.out];rfl,rfl⟩
      ·go_wp2
       go_roundw
       case rel=>exact⟨k+1,sz+(x.length+1),by go_num,by go_num,by omega,by omega,(by show _=_;rw[HZ.out];exact HN.out.symm),(by rw[HT.out];intro l hl;rcases List.mem_append.1 hl with h | h;exact H63.out l h;rw[List.mem_singleton.1 h];exact h63),trivial⟩
       case measure=>simp[intOf];omega
    ·obtain rfl:k=j:=by omega
     have ht:n.take k=n:=by rw[<- hl.out];exact List.take_length
     rw[ht] at HZ H63
     have HC:=hide (N.chk_ok (fun e=>HE.out [] e rfl) (by rw[<- HZ.out];exact hsz) H63.out)
     clear ht
     go_wp2
     go_ret
     exact⟨by rw[HC.out];rfl,rfl⟩
set_option maxRecDepth 3000 in
set_option maxHeartbeats 800000 in
theorem rWire_any (n:List (List UInt8)) (ao:Option Addr) (len cap:Nat) (w:World) (hl:Hid (n.length=len)) (hs:SlS w ao n) (hm:Hid (N.Small n)) :
 Calls Tryz.prog 47 #[.slice ao len cap] w fun e w' => ∃ v,e = .returned v/\OwnB w' w.heap.size v (N.wire n)/\Below w.heap.size w w':=by
 have HS:=hide hs
 have hlen:len<=1000000:=by rw[<- hl.out];exact hm.out.1
 clear hs
 go_enter Tryz.func47,Tryz.ntmps47
 go_wp2
 go_loopw [4,3] (fun i v wr => ∃ j:Nat,i = .int .i64 (j:Int)/\j<=len/\OwnB wr w.heap.size v (N.body (n.take j))/\Below w.heap.size w wr) (fun i _ _=>len - (intOf i).toNat)
 case atStart=>exact⟨0,rfl,by omega,OwnB.nil _ _,Below.refl _ _⟩
 case round =>
  obtain⟨j,rfl,hj,hO,hB⟩:=hrel
  have hz:=hB.size
  have hbl:=N.body_len (n.take j)
  have hsj:=hm.out.size j (by have:=hl.out;omega)
  by_cases hlt:j<len
  ·obtain⟨b1,o1,rfl,hb1,hc1⟩:=HS.out (by have:=hl.out;omega)
   have hx0:=hc1 j (by have:=hl.out;omega)
   have hx:=(hB.cell (p:=⟨b1,o1+j,none⟩) hb1).trans hx0
   have hn:=N.body_next n j (by have:=hl.out;omega)
   have hxl:=hm.out.at j
   clear hc1
   generalize n.getD j []=x at hx hn hxl hx0
   have HN:=hide hn
   have HX0:=hide hx0
   have HO:=hide hO
   have HB:=hide hB
   have hj1:(j:Int)<(len:Int):=by omega
   have hbw:b1<wr.heap.size:=by omega
   clear hn hO hB hx0
   go_wp2
   go_region_law (first
    | (refine step_append_B rfl (.tmp 11) (.tmp 18) rfl w.heap.size _ (N.body (n.take j)) (by simp[Act.eval];rfl) (by exact HO.out.alloc _) ⟨wr.heap.size,0,none⟩ 1 1 [UInt8.ofNat x.length] (by simp[Act.eval]) rfl (by exact SlL.oneI wr ((x.length:Int) % 256) (UInt8.ofNat x.length) 5 (by rw[UInt8.toNat_ofNat'];omega)) (by simp;omega) (by simp;omega) ?_;intro v4 w4 hO4 hG4;have hB4:=grown_below (w:=(wr.alloc (.cells #[.int .u8 ((x.length:Int) % 256)] 5)).drew) (HO.out.alloc _) hG4 (below_drew (HB.out.alloc hz _)) (by show _<=(wr.alloc _).heap.size;simp;omega);have hx4:w4.cell? ⟨b1,o1+j,none⟩=some (.string ⟨x.toArray⟩):=(hB4.cell (p:=⟨b1,o1+j,none⟩) hb1).trans HX0.out;have hz4:=hB4.size;have HO4:=hide hO4;have HB4:=hide hB4;clear hG4 hO4 hB4)
    | (refine step_append_BS rfl (.tmp 19) (.tmp 23) rfl w.heap.size _ _ (by simp[Act.eval];rfl) (by exact HO4.out) x (by simp[Act.eval]) (by simp only[List.length_append,List.length_singleton];omega) hz4 ?_;intro v5 w5 hO5 hG5;have HB5:=hide (grown_below HO4.out hG5 HB4.out hz4);have HO5:=hide hO5;clear hG5 hO5))
   all_goals
    go_wp2
    go_roundw
    case rel=>exact⟨j+1,by go_num,by omega,(by rw[HN.out];exact HO5.out),HB5.out⟩
    case measure=>simp[intOf];omega
  ·obtain rfl:j=len:=by omega
   go_wp2_with (at_builtin;refine wpList_append_B rfl (.tmp 25) (.tmp 26) rfl w.heap.size _ (N.body (n.take j)) rfl (by exact hO.alloc _) _ _ _ [0] rfl rfl (SlL.oneI _ _ _ _ (by rfl)) (by simp) (by omega) (by simp;omega) ?_;intro v4 w4 hO4 hG4;have hB4:=grown_below (hO.alloc _) hG4 (hB.alloc hz _) (by simp;omega);clear hG4 hO)
   go_ret
   refine⟨_,rfl,?_,hB4⟩
   have ht:n.take j=n:=by rw[<- hl.out];exact List.take_length
   rw[ht] at hO4
   exact hO4
open Go.RowKit
set_option maxRecDepth 3000 in
set_option maxHeartbeats 1000000 in
theorem rOpen_any (b:List UInt8) (ao:Option Addr) (len cap:Nat) (w:World) (hl:Hid (b.length=len)) (hs:SlL w ao b) (hm:len<=1000000000) (hcap:len<=cap) :
 Calls Tryz.prog 140 #[.slice ao len cap] w fun e w'=>Opened b w.heap.size w e w':=by
 have HS:=hide hs
 clear hs
 go_enter Tryz.func140,Tryz.ntmps140
 go_wp2
 go_loopw [6,5] (fun i v wr => ∃ (j:Nat) (n:List (List UInt8)),i = .int .i64 (j:Int)/\j<=len/\Hid (N.opn b=(N.opn (b.drop j)).map (n ++ ·))/\Hid (j+1=N.size n)/\n.length<=j/\OwnS wr w.heap.size v n/\Below w.heap.size w wr) (fun i _ _=>len+1 - (intOf i).toNat)
 case atStart=>exact⟨0, [],rfl,by omega,(by show _=_;simp),rfl,by simp,OwnS.nil _ _,Below.refl _ _⟩
 case round =>
  obtain⟨j,n,rfl,hj,HO,HZ,hnl,hO,hB⟩:=hrel
  have hz:=hB.size
  by_cases hlt:j<len
  ·obtain⟨b1,o1,rfl,hb1,hc1⟩:=HS.out (by have:=hl.out;omega)
   have hx:=(hB.cell (p:=⟨b1,o1+j,none⟩) hb1).trans (hc1 j (by have:=hl.out;omega))
   have hz0:=N.opn_zero b j (by have:=hl.out;omega)
   have hgr:=N.opn_great b j (by have:=hl.out;omega)
   have hnx:=N.opn_next b j (by have:=hl.out;omega)
   clear hc1
   have hk:=(b.getD j 0).toNat_lt
   generalize (b.getD j 0).toNat=k at hx hz0 hgr hnx hk
   by_cases h0:k=0
   ·have HR:Hid (N.opn b=some n):=by rw[HO.out,hz0 h0];show _=_;simp
    clear hz0 hgr hnx HO
    subst h0
    by_cases h255:255<j+1
    ·go_wp2
     go_ret3
     exact⟨Or.inr (Or.inr ⟨n,HR.out,by rw[<- HZ.out];exact h255,rfl⟩),hB⟩
    ·go_wp2
     go_ret3
     refine⟨Or.inl ⟨n,_,HR.out,by rw[<- HZ.out];omega,?_,hO⟩,hB⟩
     rw[<- HZ.out];rfl
   ·have hne:((k:Int) == 0)=false:=by simp;omega
    rcases Nat.lt_or_ge 63 k with h63 | h63
    ·have HR:Hid (N.opn b=none):=by rw[HO.out,hgr h63];exact rfl
     clear hz0 hgr hnx HO
     go_wp2
     go_ret3
     exact⟨Or.inr (Or.inl ⟨HR.out,rfl⟩),hB⟩
    ·have h1:=hnx h0 h63
     rcases Nat.lt_or_ge (len - j - 1) k with hov | hov
     ·have HR:Hid (N.opn b=none):=by rw[HO.out,h1,N.opn_out b _ (by have:=hl.out;omega)];exact rfl
      have hov2:(len:Int) - (j:Int) - 1<(k:Int):=by omega
      clear hz0 hgr hnx HO h1
      go_wp2
      go_ret3
      exact⟨Or.inr (Or.inl ⟨HR.out,rfl⟩),hB⟩
     ·have hov2 : ¬ ((len:Int) - (j:Int) - 1<(k:Int)):=by omega
      obtain⟨ao',hsl,hs'⟩:=slice_mid (k:=j+1) (m:=k) (x:=(j:Int)+1) (y:=(j:Int)+1+(k:Int)) (by omega) (by omega) (HS.out.below hB (Nat.le_refl _)) hl.out (by omega) hcap
      have hxl:((b.drop (j+1)).take k).length=k:=by rw[List.length_take,List.length_drop,hl.out];omega
      have hst:=run_str k (cap - (j+1)) hs' hxl
      have HR:Hid (N.opn b=(N.opn (b.drop (j+1+k))).map ((n ++ [(b.drop (j+1)).take k]) ++ ·)):=by
       rw[HO.out,h1,N.map_map];exact rfl
      have HZ2:Hid (j+1+k+1=N.size (n ++ [(b.drop (j+1)).take k])):=by
       show _=_
       rw[N.size_one,hxl, <- HZ.out];omega
      generalize (b.drop (j+1)).take k=x at hst HR HZ2
      clear hz0 hgr hnx h1 hs' HO HZ hxl
      go_wp2_with (at_builtin;refine wpList_append_S rfl (.tmp 30) (.tmp 40) rfl w.heap.size _ n rfl (by exact hO.alloc _) _ _ _ [x] rfl rfl (SlS.one _ _ _) (by simp;omega) (by simp;omega) ?_;intro v4 w4 hO4 hG4;have hB4:=grown_belowS (hO.alloc _) hG4 (hB.alloc hz _) (by simp;omega);clear hG4 hO)
      go_roundw
      case rel=>exact⟨j+1+k,_,by go_num,by omega,HR,HZ2,by simp;omega,hO4,hB4⟩
      case measure=>simp[intOf];omega
  ·have HR:Hid (N.opn b=none):=by rw[HO.out,N.opn_out b j (by have:=hl.out;omega)];exact rfl
   go_wp2
   go_ret3
   exact⟨Or.inr (Or.inl ⟨HR.out,rfl⟩),hB⟩
namespace T
def Rise (l:List Nat):Prop:=l.Pairwise (· < ·)
theorem rise_ext : ∀ (a b:List Nat),Rise a->Rise b->(∀ x,x∈a↔x∈b)->a=b
 | [], [],_,_,_=>rfl
 | [],y::b,_,_,h=>absurd ((h y).2 (by simp)) (by simp)
 | x::a, [],_,_,h=>absurd ((h x).1 (by simp)) (by simp)
 | x::a,y::b,ha,hb,h=>by
  have h1:=List.pairwise_cons.1 ha
  have h2:=List.pairwise_cons.1 hb
  have e:x=y:=by
   have hx:=(h x).1 (by simp)
   have hy:=(h y).2 (by simp)
   rcases List.mem_cons.1 hx with e | e
   ·exact e
   ·rcases List.mem_cons.1 hy with e' | e'
    ·exact e'.symm
    ·have:=h2.1 x e;have:=h1.1 y e';omega
  subst e
  rw[rise_ext a b h1.2 h2.2 fun z=>?_]
  constructor
  ·intro hz
   rcases List.mem_cons.1 ((h z).1 (List.mem_cons_of_mem _ hz)) with e | e
   ·have:=h1.1 z hz;omega
   ·exact e
  ·intro hz
   rcases List.mem_cons.1 ((h z).2 (List.mem_cons_of_mem _ hz)) with e | e
   ·have:=h2.1 z hz;omega
   ·exact e
def Rising (l:List UInt16):Prop:=l.Pairwise (fun x y=>x.toNat<y.toNat)
theorem Rising.rise {l:List UInt16} (h:Rising l):Rise (l.map UInt16.toNat):=by
 unfold Rise;rw[List.pairwise_map];exact h
theorem map_inj {a b:List UInt16} (h:a.map UInt16.toNat=b.map UInt16.toNat):a=b:=by
 induction a generalizing b with
 | nil=>cases b with
  | nil=>rfl
  | cons y b=>simp at h
 | cons x a ih=>cases b with
  | nil=>simp at h
  | cons y b =>
   simp only[List.map_cons,List.cons.injEq] at h
   rw[ih h.2,UInt16.toNat_inj.1 h.1]
theorem rising_ext (a b:List UInt16) (ha:Rising a) (hb:Rising b) (h : ∀ x,x∈a↔x∈b):a=b:=by
 refine map_inj (rise_ext _ _ ha.rise hb.rise fun x=>?_)
 simp only[List.mem_map,h]
def IsClean (l c:List UInt16):Prop:=Rising c /\ ∀ x,x∈c↔x∈l
theorem IsClean.unique {l c c':List UInt16} (h:IsClean l c) (h':IsClean l c'):c=c':=rising_ext _ _ h.1 h'.1 fun x=>(h.2 x).trans (h'.2 x).symm
theorem IsClean.self {l c:List UInt16} (hl:Rising l) (h:IsClean l c):c=l:=h.unique ⟨hl,fun _=>Iff.rfl⟩
def has (b:List UInt8) (p:Nat):Bool:=(b.getD (p / 8) 0).toNat.testBit (7 - p % 8)
def setb (b:List UInt8) (p:Nat):List UInt8:=b.set (p / 8) (UInt8.ofNat ((b.getD (p / 8) 0).toNat ||| 2 ^ (7 - p % 8)))
theorem setb_len (b:List UInt8) (p:Nat):(setb b p).length=b.length:=by simp[setb]
theorem or_small (x:UInt8) (k:Nat) (hk:k<8):x.toNat ||| 2 ^ k<256:=by
 have h1:x.toNat<2 ^ 8:=x.toNat_lt
 have h2:2 ^ k<2 ^ 8:=Nat.pow_lt_pow_right (by omega) hk
 exact Nat.or_lt_two_pow h1 h2
theorem has_setb (b:List UInt8) (p q:Nat) (hp:p / 8<b.length):has (setb b p) q=(decide (q=p) || has b q):=by
 unfold has setb
 by_cases e:q / 8=p / 8
 ·rw[e,List.getD_eq_getElem?_getD,List.getElem?_set_self hp,Option.getD_some,UInt8.toNat_ofNat',Nat.mod_eq_of_lt (or_small _ _ (by omega)),Nat.testBit_or,Nat.testBit_two_pow]
  by_cases e2:q=p
  ·subst e2;simp
  ·have : ¬ (7 - p % 8=7 - q % 8):=by omega
   simp[this,e2]
 ·have e2:q≠p:=by intro h;subst h;exact e rfl
  rw[List.getD_eq_getElem?_getD,List.getElem?_set_ne (by omega), <- List.getD_eq_getElem?_getD]
  simp[e2]
theorem byte_ext (x y:UInt8) (h : ∀ j,j<8->x.toNat.testBit (7 - j)=y.toNat.testBit (7 - j)):x=y:=by
 refine UInt8.toNat_inj.1 (Nat.eq_of_testBit_eq fun i=>?_)
 by_cases hi:i<8
 ·have:=h (7 - i) (by omega)
  rwa [show 7 - (7 - i)=i by omega] at this
 ·have h1:x.toNat<2 ^ 8:=x.toNat_lt
  have h2:y.toNat<2 ^ 8:=y.toNat_lt
  have h3:2 ^ 8<=2 ^ i:=Nat.pow_le_pow_right (by omega) (by omega)
  rw[Nat.testBit_lt_two_pow (by omega),Nat.testBit_lt_two_pow (by omega)]
theorem has_ext (a b:List UInt8) (hl:a.length=b.length) (h : ∀ p,p<8*a.length->has a p=has b p):a=b:=by
 refine List.ext_getElem hl fun k h1 h2=>byte_ext _ _ fun j hj=>?_
 have:=h (8*k+j) (by omega)
 unfold has at this
 rw[show (8*k+j) / 8=k by omega,show (8*k+j) % 8=j by omega] at this
 simpa [h1,h2] using this
def row (n:Nat) (ps:List Nat):List UInt8:=ps.foldl setb (List.replicate n 0)
theorem fold_len (ps:List Nat) : ∀ b:List UInt8,(ps.foldl setb b).length=b.length:=by
 induction ps with
 | nil=>intro b;rfl
 | cons p ps ih=>intro b;rw[List.foldl_cons,ih,setb_len]
theorem row_len (n:Nat) (ps:List Nat):(row n ps).length=n:=by unfold row;rw[fold_len];simp
theorem row_snoc (n:Nat) (ps:List Nat) (p:Nat):row n (ps ++ [p])=setb (row n ps) p:=by unfold row;rw[List.foldl_append];rfl
theorem has_fold (ps:List Nat) : ∀ (b:List UInt8) (q:Nat),(∀ p∈ps,p / 8<b.length)->has (ps.foldl setb b) q=(decide (q∈ps) || has b q):=by
 induction ps with
 | nil=>intro b q _;simp
 | cons p ps ih =>
  intro b q h
  rw[List.foldl_cons,ih _ _ (fun x hx=>by rw[setb_len];exact h x (List.mem_cons_of_mem _ hx)),has_setb _ _ _ (h p (by simp))]
  by_cases e:q=p <;> simp[e]
theorem has_zero (n q:Nat):has (List.replicate n 0) q=false:=by
 unfold has
 have:(List.replicate n (0:UInt8)).getD (q / 8) 0=0:=by
  rw[List.getD_eq_getElem?_getD,List.getElem?_replicate];split <;> rfl
 rw[this];simp
theorem has_row (n:Nat) (ps:List Nat) (q:Nat) (h : ∀ p∈ps,p<8*n):has (row n ps) q=decide (q∈ps):=by
 unfold row
 rw[has_fold _ _ _ (fun p hp=>by have:=h p hp;simp;omega),has_zero];simp
theorem has_take (b:List UInt8) (n q:Nat) (h:q<8*n):has (b.take n) q=has b q:=by
 unfold has
 have:q / 8<n:=by omega
 simp[List.getD_eq_getElem?_getD,this]
theorem row_take (n m:Nat) (ps:List Nat) (h : ∀ p∈ps,p<8*n) (hn:n<=m):(row m ps).take n=row n ps:=by
 refine has_ext _ _ (by rw[List.length_take,row_len,row_len];omega) fun p hp=>?_
 rw[List.length_take,row_len] at hp
 rw[has_take _ _ _ (by omega),has_row _ _ _ (fun p hp=>by have:=h p hp;omega),has_row _ _ _ h]
def places (b:List UInt8):List Nat:=(List.range (8*b.length)).filter (has b)
theorem range_rise (n:Nat):Rise (List.range n):=List.pairwise_lt_range
theorem places_rise (b:List UInt8):Rise (places b):=(range_rise _).filter _
theorem mem_places (b:List UInt8) (p:Nat):p∈places b↔p<8*b.length/\has b p=true:=by simp[places]
theorem places_row (n:Nat) (ps:List Nat) (hr:Rise ps) (h : ∀ p∈ps,p<8*n):places (row n ps)=ps:=by
 refine rise_ext _ _ (places_rise _) hr fun x=>?_
 rw[mem_places,row_len,has_row _ _ _ h,decide_eq_true_eq]
 exact⟨fun hx=>hx.2,fun hx=>⟨h x hx,hx⟩⟩
theorem row_places (b:List UInt8):row b.length (places b)=b:=by
 have hb : ∀ p∈places b,p<8*b.length:=fun p hp=>((mem_places b p).1 hp).1
 refine has_ext _ _ (row_len _ _) fun p hp=>?_
 rw[row_len] at hp
 rw[has_row _ _ _ hb]
 by_cases h:has b p=true
 ·rw[h,decide_eq_true_eq];exact (mem_places b p).2 ⟨hp,h⟩
 ·have h0:has b p=false:=by simpa using h
  rw[h0,decide_eq_false_iff_not];exact fun hm=>h ((mem_places b p).1 hm).2
def hi (t:UInt16):Nat:=t.toNat / 256
def lo (t:UInt16):Nat:=t.toNat % 256
def mk (w p:Nat):UInt16:=UInt16.ofNat (w*256+p)
theorem hi_lt (t:UInt16):hi t<256:=by have:=t.toNat_lt;unfold hi;omega
theorem lo_lt (t:UInt16):lo t<256:=by unfold lo;omega
theorem mk_eq (t:UInt16):mk (hi t) (lo t)=t:=by
 refine UInt16.toNat_inj.1 ?_
 have:=t.toNat_lt
 unfold mk hi lo;rw[UInt16.toNat_ofNat'];omega
theorem hi_mk (w p:Nat) (hw:w<256) (hp:p<256):hi (mk w p)=w:=by unfold hi mk;rw[UInt16.toNat_ofNat'];omega
theorem lo_mk (w p:Nat) (_hw:w<256) (hp:p<256):lo (mk w p)=p:=by unfold lo mk;rw[UInt16.toNat_ofNat'];omega
theorem mk_nat (w p:Nat) (hw:w<256) (hp:p<256):(mk w p).toNat=w*256+p:=by unfold mk;rw[UInt16.toNat_ofNat'];omega
def size (ps:List Nat):Nat:=ps.getLastD 0 / 8+1
def win (w:Nat) (ps:List Nat):List UInt8:=UInt8.ofNat w::UInt8.ofNat (size ps)::row (size ps) ps
def same (t:UInt16) (x:UInt16):Bool:=decide (hi x=hi t)
theorem drop_le (t:UInt16) (r:List UInt16):(r.dropWhile (same t)).length<=r.length:=by
 induction r with
 | nil=>simp
 | cons x r ih=>rw[List.dropWhile_cons];split <;> simp <;> omega
def bmp:List UInt16->List UInt8
 | [] => []
 | t::r=>win (hi t) ((t::r.takeWhile (same t)).map lo)++bmp (r.dropWhile (same t))
termination_by l => l.length
decreasing_by have := drop_le t r; simp; omega
theorem bmp_nil:bmp [] = []:=by rw[bmp]
theorem bmp_cons (t:UInt16) (r:List UInt16):bmp (t::r)=win (hi t) ((t::r.takeWhile (same t)).map lo)++bmp (r.dropWhile (same t)):=by rw[bmp]
def typ (w:Nat) (b:List UInt8):List UInt16:=(places b).map (mk w)
def bad (least:Nat) (x n:UInt8) (r:List UInt8):Prop:=x.toNat<least\/n.toNat=0\/32<n.toNat\/r.length<n.toNat\/r.getD (n.toNat - 1) 0=0
instance (least:Nat) (x n:UInt8) (r:List UInt8):Decidable (bad least x n r):=by unfold bad;infer_instance
def opn (least:Nat):List UInt8->Option (List UInt16)
 | []=>some []
 | [_]=>none
 | x::n::r=>if bad least x n r then none else (opn (x.toNat+1) (r.drop n.toNat)).map (typ x.toNat (r.take n.toNat) ++ ·)
termination_by l => l.length
decreasing_by simp; omega
theorem opn_nil (least:Nat):opn least []=some []:=by rw[opn]
theorem opn_one (least:Nat) (x:UInt8):opn least [x]=none:=by rw[opn]
theorem opn_two (least:Nat) (x n:UInt8) (r:List UInt8):opn least (x::n::r)=if bad least x n r then none else (opn (x.toNat+1) (r.drop n.toNat)).map (typ x.toNat (r.take n.toNat) ++ ·):=by rw[opn]
theorem last_mem (ps:List Nat) (h:ps ≠ []):ps.getLastD 0∈ps:=by
 rw[List.getLastD_eq_getLast?,List.getLast?_eq_some_getLast h]
 exact List.getLast_mem h
theorem last_max (ps:List Nat) (hr:Rise ps) : ∀ p∈ps,p<=ps.getLastD 0:=by
 induction ps with
 | nil=>simp
 | cons x ps ih =>
  intro p hp
  have h:=List.pairwise_cons.1 hr
  cases ps with
  | nil=>simp at hp;simp[hp]
  | cons y ps =>
   have e:(x::y::ps).getLastD 0=(y::ps).getLastD 0:=by simp[List.getLastD_eq_getLast?,List.getLast?_cons_cons]
   rw[e]
   rcases List.mem_cons.1 hp with rfl | hp
   ·have h1:=h.1 y (by simp)
    have h2:=ih h.2 y (by simp)
    omega
   ·exact ih h.2 p hp
theorem size_bound (ps:List Nat) (hr:Rise ps) : ∀ p∈ps,p<8*size ps:=fun p hp=>by have:=last_max ps hr p hp;unfold size;omega
theorem size_le (ps:List Nat) (h : ∀ p∈ps,p<256):size ps<=32:=by
 unfold size
 by_cases e:ps = []
 ·subst e;simp
 ·have:=h _ (last_mem ps e);omega
theorem row_last (ps:List Nat) (h:ps ≠ []) (hr:Rise ps):(row (size ps) ps).getD (size ps - 1) 0≠0:=by
 intro e
 have h1:=has_row (size ps) ps (ps.getLastD 0) (size_bound ps hr)
 rw[decide_eq_true (last_mem ps h)] at h1
 unfold has at h1
 rw[show ps.getLastD 0 / 8=size ps - 1 by unfold size;omega,e] at h1
 simp at h1
theorem size_places (b:List UInt8) (hb:0<b.length) (h:b.getD (b.length - 1) 0≠0):size (places b)=b.length/\places b ≠ []:=by
 obtain⟨j,hj,hb1⟩ : ∃ j,j<8/\has b (8*(b.length - 1)+j)=true:=by
  apply Classical.byContradiction
  intro hn
  refine h (byte_ext _ _ fun j hj=>?_)
  have:has b (8*(b.length - 1)+j)=false:=by
   by_cases e:has b (8*(b.length - 1)+j)=true
   ·exact absurd ⟨j,hj,e⟩ hn
   ·simpa using e
  unfold has at this
  rw[show (8*(b.length - 1)+j) / 8=b.length - 1 by omega,show (8*(b.length - 1)+j) % 8=j by omega] at this
  rw[this];simp
 have hm:8*(b.length - 1)+j∈places b:=(mem_places b _).2 ⟨by omega,hb1⟩
 have hne:places b ≠ []:=List.ne_nil_of_mem hm
 have h1:=last_max _ (places_rise b) _ hm
 have h2:=((mem_places b _).1 (last_mem _ hne)).1
 exact⟨by unfold size;omega,hne⟩
theorem takeWhile_all {p:UInt16->Bool} (a b:List UInt16) (ha : ∀ x∈a,p x=true) (hb : ∀ x∈b,p x=false):(a++b).takeWhile p=a/\(a++b).dropWhile p=b:=by
 induction a with
 | nil =>
  cases b with
  | nil=>simp
  | cons y b=>simp[hb y (by simp)]
 | cons x a ih =>
  have:=ih (fun y hy=>ha y (List.mem_cons_of_mem _ hy))
  simp[ha x (by simp),this]
theorem takeWhile_mem {p:UInt16->Bool} (r:List UInt16) : ∀ x∈r.takeWhile p,p x=true:=by
 induction r with
 | nil=>simp
 | cons y r ih =>
  intro x hx
  rw[List.takeWhile_cons] at hx
  split at hx
  ·rcases List.mem_cons.1 hx with rfl | hx
   ·assumption
   ·exact ih x hx
  ·simp at hx
theorem rest_hi (t:UInt16) (r:List UInt16) (h:Rising (t::r)) : ∀ x∈r.dropWhile (same t),hi t+1<=hi x:=by
 induction r with
 | nil=>simp
 | cons y r ih =>
  intro x hx
  have h1:=List.pairwise_cons.1 h
  have h2:=List.pairwise_cons.1 h1.2
  rw[List.dropWhile_cons] at hx
  split at hx
  ·exact ih (List.pairwise_cons.2 ⟨fun z hz=>h1.1 z (List.mem_cons_of_mem _ hz),h2.2⟩) x hx
  ·rename_i hs
   have hy:hi y≠hi t:=by simpa [same] using hs
   have h3:=h1.1 y (by simp)
   have h4:y.toNat<=x.toNat:=by
    rcases List.mem_cons.1 hx with rfl | hx
    ·omega
    ·have:=h2.1 x hx;omega
   unfold hi at *; omega
theorem rising_sub {a b:List UInt16} (hs:a.Sublist b) (h:Rising b):Rising a:=h.sublist hs
theorem rising_rest (t:UInt16) (r:List UInt16) (h:Rising (t::r)):Rising (r.dropWhile (same t)):=rising_sub (List.dropWhile_sublist _) (List.pairwise_cons.1 h).2
theorem rising_take (t:UInt16) (r:List UInt16) (h:Rising (t::r)):Rising (t::r.takeWhile (same t)):=rising_sub ((List.takeWhile_sublist _).cons_cons t) h
theorem take_hi (t:UInt16) (r:List UInt16) : ∀ x∈t::r.takeWhile (same t),hi x=hi t:=fun x hx=>by
 rcases List.mem_cons.1 hx with rfl | hx
 ·rfl
 ·simpa [same] using takeWhile_mem r x hx
theorem rise_lo (t:UInt16) (l:List UInt16) (h:Rising l) (hh : ∀ x∈l,hi x=hi t):Rise (l.map lo):=by
 unfold Rise;rw[List.pairwise_map]
 refine h.imp_of_mem fun {x y} hx hy hxy=>?_
 have h1:=hh x hx
 have h2:=hh y hy
 unfold hi at h1 h2;unfold lo;omega
theorem mk_lo (w:Nat) (l:List UInt16) (hh : ∀ x∈l,hi x=w):(l.map lo).map (mk w)=l:=by
 rw[List.map_map]
 conv=>rhs;rw[<- List.map_id l]
 refine List.map_congr_left fun x hx=>?_
 show mk w (lo x)=x
 rw[<- hh x hx];exact mk_eq x
theorem nat8 (n:Nat) (h:n<256):(UInt8.ofNat n).toNat=n:=by rw[UInt8.toNat_ofNat'];omega
theorem opn_bmp (k:Nat) : ∀ (l:List UInt16) (least:Nat),l.length<=k->Rising l->(∀ t∈l,least<=hi t)->opn least (bmp l)=some l:=by
 induction k with
 | zero=>intro l least hl _ _;obtain rfl:l = []:=List.eq_nil_of_length_eq_zero (by omega);rw[bmp_nil,opn_nil]
 | succ k ih =>
  intro l least hl hr hh
  cases l with
  | nil=>rw[bmp_nil,opn_nil]
  | cons t r =>
   rw[bmp_cons]
   have hps:=rise_lo t _ (rising_take t r hr) (take_hi t r)
   have hml:=mk_lo (hi t) _ (take_hi t r)
   have hne:(t::r.takeWhile (same t)).map lo ≠ []:=by simp
   have hlt : ∀ p∈(t::r.takeWhile (same t)).map lo,p<256:=fun p hp=>by
    obtain⟨x,_,rfl⟩:=List.mem_map.1 hp;exact lo_lt x
   generalize (t::r.takeWhile (same t)).map lo=ps at hps hml hne hlt ⊢
   have hsz:=size_le ps hlt
   have hs0:0<size ps:=by unfold size;omega
   have hrow:=row_len (size ps) ps
   unfold win
   rw[List.cons_append,List.cons_append,opn_two,nat8 _ (hi_lt t),nat8 _ (by omega)]
   rw[if_neg (by
    unfold bad
    rw[nat8 _ (hi_lt t),nat8 _ (by omega)]
    rintro (h | h | h | h | h)
    ·have:=hh t (by simp);omega
    ·omega
    ·omega
    ·rw[List.length_append] at h;omega
    ·rw[List.getD_eq_getElem?_getD,List.getElem?_append_left (by omega), <- List.getD_eq_getElem?_getD] at h
     exact row_last ps hne hps h)]
   rw[List.drop_left' hrow,List.take_left' hrow,ih _ _ (by have:=drop_le t r;simp at hl;omega) (rising_rest t r hr) (rest_hi t r hr)]
   unfold typ
   rw[places_row _ _ hps (size_bound ps hps),hml,Option.map_some,List.cons_append,List.takeWhile_append_dropWhile]
theorem bmp_opn (k:Nat) : ∀ (b:List UInt8) (least:Nat) (m:List UInt16),b.length<=k->opn least b=some m->bmp m=b/\Rising m /\ ∀ t∈m,least<=hi t:=by
 induction k with
 | zero =>
  intro b least m hl h
  obtain rfl:b = []:=List.eq_nil_of_length_eq_zero (by omega)
  rw[opn_nil] at h;cases h;exact⟨bmp_nil,List.Pairwise.nil,by simp⟩
 | succ k ih =>
  intro b least m hl h
  match b,hl,h with
  | [],_,h=>rw[opn_nil] at h;cases h;exact⟨bmp_nil,List.Pairwise.nil,by simp⟩
  | [_],_,h=>rw[opn_one] at h;cases h
  | x::n::r,hl,h =>
   rw[opn_two] at h
   split at h
   ·cases h
   ·rename_i hg
    unfold bad at hg
    simp only[not_or] at hg
    obtain⟨g1,g2,g3,g4,g5⟩:=hg
    obtain⟨m',hm',rfl⟩:=Option.map_eq_some_iff.1 h
    obtain⟨i1,i2,i3⟩:=ih _ _ _ (by rw[List.length_drop];simp at hl;omega) hm'
    have hbl:(r.take n.toNat).length=n.toNat:=by rw[List.length_take];omega
    have hlast:(r.take n.toNat).getD ((r.take n.toNat).length - 1) 0≠0:=by
     rw[hbl,List.getD_eq_getElem?_getD,List.getElem?_take,if_pos (by omega), <- List.getD_eq_getElem?_getD];exact g5
    obtain⟨s1,s2⟩:=size_places _ (by omega) hlast
    have hx:x.toNat<256:=x.toNat_lt
    have hpl : ∀ p∈places (r.take n.toNat),p<256:=fun p hp=>by have:=((mem_places _ p).1 hp).1;omega
    have hps:=places_rise (r.take n.toNat)
    have hrow:=row_places (r.take n.toNat)
    rw[hbl] at s1 hrow
    have htk:r.take n.toNat++r.drop n.toNat=r:=List.take_append_drop _ _
    unfold typ
    generalize hP:places (r.take n.toNat)=ps at *
    cases ps with
    | nil=>exact absurd rfl s2
    | cons p ps =>
     have hpp : ∀ q∈p::ps,hi (mk x.toNat q)=x.toNat:=fun q hq=>hi_mk _ _ hx (hpl q hq)
     have hR:Rising ((p::ps).map (mk x.toNat)):=by
      unfold Rising;rw[List.pairwise_map]
      refine hps.imp_of_mem fun {u v} hu hv huv=>?_
      rw[mk_nat _ _ hx (hpl u hu),mk_nat _ _ hx (hpl v hv)];omega
     refine⟨?_,?_,?_⟩
     ·rw[List.map_cons,List.cons_append,bmp_cons]
      obtain⟨t1,t2⟩:=takeWhile_all (p:=same (mk x.toNat p)) (ps.map (mk x.toNat)) m' (fun y hy=>by
       obtain⟨q,hq,rfl⟩:=List.mem_map.1 hy
       simp only[same,decide_eq_true_eq];rw[hpp q (List.mem_cons_of_mem _ hq),hpp p (by simp)]) (fun y hy=>by
       simp only[same,decide_eq_false_iff_not];rw[hpp p (by simp)];have:=i3 y hy;omega)
      rw[t1,t2,i1,hpp p (by simp), <- List.map_cons,List.map_map]
      have e:(p::ps).map (lo ∘ mk x.toNat)=p::ps:=by
       conv=>rhs;rw[<- List.map_id (p::ps)]
       exact List.map_congr_left fun q hq=>lo_mk _ _ hx (hpl q hq)
      rw[e]
      unfold win
      rw[s1,hrow,UInt8.ofNat_toNat,UInt8.ofNat_toNat,List.cons_append,List.cons_append,htk]
     ·unfold Rising
      rw[List.pairwise_append]
      refine⟨hR,i2,fun u hu v hv=>?_⟩
      obtain⟨q,hq,rfl⟩:=List.mem_map.1 hu
      have h1:=i3 v hv
      have h2:=hpl q hq
      rw[mk_nat _ _ hx h2]
      unfold hi at h1;omega
     ·intro t ht
      rcases List.mem_append.1 ht with ht | ht
      ·obtain⟨q,hq,rfl⟩:=List.mem_map.1 ht
       rw[hpp q hq];omega
      ·have:=i3 t ht;omega
end T
namespace D
def by_ (k:Nat) (b:List UInt8):Option (List UInt8 × List UInt8):=if b.length<k then none else some (b.take k,b.drop k)
def n8:List UInt8->Option (Nat × List UInt8)
 | x::r=>some (x.toNat,r)
 | _=>none
def n16:List UInt8->Option (Nat × List UInt8)
 | x::y::r=>some (x.toNat*256+y.toNat,r)
 | _=>none
def n32 (b:List UInt8):Option (Nat × List UInt8):=(n16 b).bind fun p=>(n16 p.2).map fun q=>(p.1*65536+q.1,q.2)
def cnt (b:List UInt8):Option (List UInt8 × List UInt8):=(n8 b).bind fun p=>by_ p.1 p.2
def nm (b:List UInt8):Option (List (List UInt8) × List UInt8):=(N.opn b).bind fun n=>if N.size n<=255 then some (n,b.drop (N.size n)) else none
def p16 (n:Nat):List UInt8 := [UInt8.ofNat (n / 256),UInt8.ofNat n]
def p32 (n:Nat):List UInt8:=p16 (n / 65536)++p16 (n % 65536)
def pc (b:List UInt8):List UInt8:=UInt8.ofNat b.length::b
structure Soa where
 main:List (List UInt8)
 box:List (List UInt8)
 a:Nat
 b:Nat
 c:Nat
 d:Nat
 e:Nat
structure Sig where
 type:Nat
 alg:Nat
 labels:Nat
 ttl:Nat
 expire:Nat
 begin_:Nat
 tag:Nat
 signer:List (List UInt8)
 sig:List UInt8
structure Chain where
 hash:Nat
 flags:Nat
 iter:Nat
 salt:List UInt8
 next:List UInt8
 types:List UInt16
structure Key where
 flags:Nat
 proto:Nat
 alg:Nat
 key:List UInt8
def soa (l:List UInt8):Option (Soa × List UInt8) :=
 (nm l).bind fun m=>(nm m.2).bind fun x=>(n32 x.2).bind fun a=>(n32 a.2).bind fun b=>(n32 b.2).bind fun c=>(n32 c.2).bind fun d=>(n32 d.2).map fun e=>(⟨m.1,x.1,a.1,b.1,c.1,d.1,e.1⟩,e.2)
def sig (l:List UInt8):Option (Sig × List UInt8) :=
 (n16 l).bind fun t=>(n8 t.2).bind fun a=>(n8 a.2).bind fun k=>(n32 k.2).bind fun x=>(n32 x.2).bind fun y=>(n32 y.2).bind fun z=>(n16 z.2).bind fun g=>(nm g.2).map fun s=>(⟨t.1,a.1,k.1,x.1,y.1,z.1,g.1,s.1,s.2⟩, [])
def chain (l:List UInt8):Option (Chain × List UInt8) :=
 (n8 l).bind fun h=>(n8 h.2).bind fun f=>(n16 f.2).bind fun i=>(cnt i.2).bind fun s=>(cnt s.2).bind fun n=>if n.1.length=0 then none else (T.opn 0 n.2).map fun t=>(⟨h.1,f.1,i.1,s.1,n.1,t⟩, [])
def key (l:List UInt8):Option (Key × List UInt8) :=
 (n16 l).bind fun f=>(n8 f.2).bind fun p=>(n8 p.2).map fun a=>(⟨f.1,p.1,a.1,a.2⟩, [])
def soaB (s:Soa):List UInt8:=N.wire s.main++N.wire s.box++p32 s.a++p32 s.b++p32 s.c++p32 s.d++p32 s.e
def sigB (s:Sig):List UInt8:=p16 s.type ++ [UInt8.ofNat s.alg,UInt8.ofNat s.labels]++p32 s.ttl++p32 s.expire++p32 s.begin_++p16 s.tag++N.wire s.signer++s.sig
def chainB (c:Chain):List UInt8 := [UInt8.ofNat c.hash,UInt8.ofNat c.flags]++p16 c.iter++pc c.salt++pc c.next++T.bmp c.types
def keyB (k:Key):List UInt8:=p16 k.flags ++ [UInt8.ofNat k.proto,UInt8.ofNat k.alg]++k.key
def Good (n:List (List UInt8)):Prop := [] ∉ n/\(∀ l∈n,l.length<=63)/\N.size n<=255
def Soa.Ok (s:Soa):Prop:=Good s.main/\Good s.box/\s.a<4294967296/\s.b<4294967296/\s.c<4294967296/\s.d<4294967296/\s.e<4294967296
def Sig.Ok (s:Sig):Prop:=s.type<65536/\s.alg<256/\s.labels<256/\s.ttl<4294967296/\s.expire<4294967296/\s.begin_<4294967296/\s.tag<65536/\Good s.signer
def Chain.Ok (c:Chain):Prop:=c.hash<256/\c.flags<256/\c.iter<65536/\c.salt.length<=255/\c.next.length<=255/\c.next ≠ []/\T.Rising c.types
def Key.Ok (k:Key):Prop:=k.flags<65536/\k.proto<256/\k.alg<256
theorem u8_nat (x:UInt8):UInt8.ofNat x.toNat=x:=by simp
theorem nat_u8 (n:Nat) (h:n<256):(UInt8.ofNat n).toNat=n:=by rw[UInt8.toNat_ofNat'];omega
theorem n8_back {b r:List UInt8} {x:Nat} (h:n8 b=some (x,r)):b=UInt8.ofNat x::r/\x<256:=by
 match b,h with
 | y::r',h=>cases h;exact⟨by rw[u8_nat],y.toNat_lt⟩
theorem p16_of (x y:UInt8):p16 (x.toNat*256+y.toNat) = [x,y]:=by
 have hx:=x.toNat_lt
 have hy:=y.toNat_lt
 unfold p16
 rw[show (x.toNat*256+y.toNat) / 256=x.toNat by omega,u8_nat]
 congr 2
 apply UInt8.toNat_inj.1
 rw[UInt8.toNat_ofNat'];omega
theorem n16_back {b r:List UInt8} {x:Nat} (h:n16 b=some (x,r)):b=p16 x++r/\x<65536:=by
 match b,h with
 | y::z::r',h =>
  cases h
  have hx:=y.toNat_lt
  have hy:=z.toNat_lt
  exact⟨by rw[p16_of];rfl,by omega⟩
theorem n32_back {b r:List UInt8} {x:Nat} (h:n32 b=some (x,r)):b=p32 x++r/\x<4294967296:=by
 unfold n32 at h
 rw[Option.bind_eq_some_iff] at h
 obtain⟨⟨u,r1⟩,h1,h⟩:=h
 rw[Option.map_eq_some_iff] at h
 obtain⟨⟨v,r2⟩,h2,h⟩:=h
 cases h
 obtain⟨e1,l1⟩:=n16_back h1
 obtain⟨e2,l2⟩:=n16_back h2
 replace e2:r1=p16 v++r2:=e2
 refine⟨?_,by omega⟩
 unfold p32
 rw[show (u*65536+v) / 65536=u by omega,show (u*65536+v) % 65536=v by omega,e1,e2,List.append_assoc]
theorem by_back {b x r:List UInt8} {k:Nat} (h:by_ k b=some (x,r)):b=x++r/\x.length=k:=by
 unfold by_ at h
 split at h
 ·cases h
 ·cases h;exact⟨by rw[List.take_append_drop],by rw[List.length_take];omega⟩
theorem cnt_back {b x r:List UInt8} (h:cnt b=some (x,r)):b=pc x++r/\x.length<=255:=by
 unfold cnt at h
 rw[Option.bind_eq_some_iff] at h
 obtain⟨⟨k,r1⟩,h1,h⟩:=h
 obtain⟨e1,l1⟩:=n8_back h1
 obtain⟨e2,l2⟩:=by_back h
 replace e2:r1=x++r:=e2
 replace l2:x.length=k:=l2
 refine⟨?_,by omega⟩
 unfold pc
 rw[e1,l2,e2];rfl
theorem opn_back : ∀ (b:List UInt8) (n:List (List UInt8)),N.opn b=some n->b=N.wire n++b.drop (N.size n)
 | b,n,h=>by
  match b with
  | []=>rw[N.opn_nil] at h;cases h
  | k::r =>
   rw[N.opn] at h
   split at h
   ·rename_i hk
    cases h
    have:k=0:=UInt8.toNat_inj.1 hk
    subst this
    simp[N.wire,N.body,N.size]
   ·split at h
    ·cases h
    ·rename_i hk hk2
     rw[Option.map_eq_some_iff] at h
     obtain⟨m,hm,rfl⟩:=h
     have ih:=opn_back (r.drop k.toNat) m hm
     have hl:(r.take k.toNat).length=k.toNat:=by rw[List.length_take];omega
     have e1:N.size (r.take k.toNat::m)=N.size m+k.toNat+1:=by simp only[N.size,List.map_cons,List.sum_cons,hl];omega
     have e2:N.wire (r.take k.toNat::m)=k::(r.take k.toNat++N.wire m):=by
      simp only[N.wire,N.body,List.flatMap_cons,hl,u8_nat,List.cons_append,List.append_assoc]
     rw[e1,e2,List.drop_succ_cons,List.cons_append,List.append_assoc,Nat.add_comm (N.size m), <- List.drop_drop, <- ih,List.take_append_drop]
termination_by b => b.length
decreasing_by subst_vars; simp only [List.length_drop, List.length_cons]; omega
theorem nm_back {b r:List UInt8} {n:List (List UInt8)} (h:nm b=some (n,r)):b=N.wire n++r/\Good n:=by
 unfold nm at h
 rw[Option.bind_eq_some_iff] at h
 obtain⟨m,h1,h⟩:=h
 split at h
 ·rename_i hs
  cases h
  obtain⟨a,b',_⟩:=N.opn_small _ _ h1
  exact⟨opn_back _ _ h1,a,b',hs⟩
 ·cases h
theorem soa_back {l r:List UInt8} {s:Soa} (h:soa l=some (s,r)):l=soaB s++r/\s.Ok:=by
 simp only[soa,Option.bind_eq_some_iff,Option.map_eq_some_iff,Prod.exists] at h
 obtain⟨m,r1,h1,x,r2,h2,a,r3,h3,b,r4,h4,c,r5,h5,d,r6,h6,e,r7,h7,h⟩:=h
 cases h
 obtain⟨e1,g1⟩:=nm_back h1
 obtain⟨e2,g2⟩:=nm_back h2
 obtain⟨e3,g3⟩:=n32_back h3
 obtain⟨e4,g4⟩:=n32_back h4
 obtain⟨e5,g5⟩:=n32_back h5
 obtain⟨e6,g6⟩:=n32_back h6
 obtain⟨e7,g7⟩:=n32_back h7
 refine⟨?_,g1,g2,g3,g4,g5,g6,g7⟩
 rw[e1,e2,e3,e4,e5,e6,e7]
 simp[soaB]
theorem sig_back {l r:List UInt8} {s:Sig} (h:sig l=some (s,r)):l=sigB s++r/\r = []/\s.Ok:=by
 simp only[sig,Option.bind_eq_some_iff,Option.map_eq_some_iff,Prod.exists] at h
 obtain⟨t,r1,h1,a,r2,h2,k,r3,h3,x,r4,h4,y,r5,h5,z,r6,h6,g,r7,h7,n,r8,h8,h⟩:=h
 cases h
 obtain⟨e1,g1⟩:=n16_back h1
 obtain⟨e2,g2⟩:=n8_back h2
 obtain⟨e3,g3⟩:=n8_back h3
 obtain⟨e4,g4⟩:=n32_back h4
 obtain⟨e5,g5⟩:=n32_back h5
 obtain⟨e6,g6⟩:=n32_back h6
 obtain⟨e7,g7⟩:=n16_back h7
 obtain⟨e8,g8⟩:=nm_back h8
 refine⟨?_,rfl,g1,g2,g3,g4,g5,g6,g7,g8⟩
 rw[e1,e2,e3,e4,e5,e6,e7,e8]
 simp[sigB]
theorem chain_back {l r:List UInt8} {c:Chain} (h:chain l=some (c,r)):l=chainB c++r/\r = []/\c.Ok:=by
 simp only[chain,Option.bind_eq_some_iff,Prod.exists] at h
 obtain⟨a,r1,h1,f,r2,h2,i,r3,h3,s,r4,h4,n,r5,h5,h⟩:=h
 split at h
 ·cases h
 ·rename_i hn
  simp only[Option.map_eq_some_iff] at h
  obtain⟨t,h6,h⟩:=h
  cases h
  obtain⟨e1,g1⟩:=n8_back h1
  obtain⟨e2,g2⟩:=n8_back h2
  obtain⟨e3,g3⟩:=n16_back h3
  obtain⟨e4,g4⟩:=cnt_back h4
  obtain⟨e5,g5⟩:=cnt_back h5
  obtain⟨e6,g6,_⟩:=T.bmp_opn _ _ _ _ (Nat.le_refl _) h6
  refine⟨?_,rfl,g1,g2,g3,g4,g5,fun e=>hn (by have e':n = []:=e;rw[e'];rfl),g6⟩
  rw[e1,e2,e3,e4,e5]
  simp[chainB,e6]
theorem key_back {l r:List UInt8} {k:Key} (h:key l=some (k,r)):l=keyB k++r/\r = []/\k.Ok:=by
 simp only[key,Option.bind_eq_some_iff,Option.map_eq_some_iff,Prod.exists] at h
 obtain⟨f,r1,h1,p,r2,h2,a,r3,h3,h⟩:=h
 cases h
 obtain⟨e1,g1⟩:=n16_back h1
 obtain⟨e2,g2⟩:=n8_back h2
 obtain⟨e3,g3⟩:=n8_back h3
 refine⟨?_,rfl,g1,g2,g3⟩
 rw[e1,e2,e3]
 simp[keyB]
theorem n8_fwd (x:Nat) (r:List UInt8) (h:x<256):n8 (UInt8.ofNat x::r)=some (x,r):=by
 show some ((UInt8.ofNat x).toNat,r)=_
 rw[nat_u8 x h]
theorem n16_fwd (x:Nat) (r:List UInt8) (h:x<65536):n16 (p16 x++r)=some (x,r):=by
 show some ((UInt8.ofNat (x / 256)).toNat*256+(UInt8.ofNat x).toNat,r)=_
 rw[UInt8.toNat_ofNat',UInt8.toNat_ofNat']
 congr 2;omega
theorem n32_fwd (x:Nat) (r:List UInt8) (h:x<4294967296):n32 (p32 x++r)=some (x,r):=by
 unfold n32 p32
 rw[List.append_assoc,n16_fwd _ _ (by omega)]
 simp only[Option.bind_some]
 rw[n16_fwd _ _ (by omega)]
 simp only[Option.map_some]
 congr 2;omega
theorem by_fwd (x r:List UInt8) (k:Nat) (h:x.length=k):by_ k (x++r)=some (x,r):=by
 unfold by_
 rw[if_neg (by rw[List.length_append];omega), <- h,List.take_left,List.drop_left]
theorem nm_fwd (n:List (List UInt8)) (r:List UInt8) (h:Good n):nm (N.wire n++r)=some (n,r):=by
 unfold nm
 rw[N.opn_wire n r h.1 h.2.1,Option.bind_some,if_pos h.2.2, <- N.wire_len,List.drop_left]
theorem soa_fwd (s:Soa) (r:List UInt8) (h:s.Ok):soa (soaB s++r)=some (s,r):=by
 obtain⟨g1,g2,g3,g4,g5,g6,g7⟩:=h
 unfold soa soaB
 simp only[List.append_assoc]
 simp only[nm_fwd _ _ g1,nm_fwd _ _ g2,n32_fwd _ _ g3,n32_fwd _ _ g4,n32_fwd _ _ g5,n32_fwd _ _ g6,n32_fwd _ _ g7,Option.bind_some,Option.map_some]
theorem sig_fwd (s:Sig) (h:s.Ok):sig (sigB s)=some (s, []):=by
 obtain⟨g1,g2,g3,g4,g5,g6,g7,g8⟩:=h
 unfold sig sigB
 simp only[List.append_assoc,List.cons_append,List.nil_append]
 simp only[n16_fwd _ _ g1,n8_fwd _ _ g2,n8_fwd _ _ g3,n32_fwd _ _ g4,n32_fwd _ _ g5,n32_fwd _ _ g6,n16_fwd _ _ g7,nm_fwd _ _ g8,Option.bind_some,Option.map_some]
end D
end Go.Proofs.YtmbcegljmhcdeaaGreat
