/- (*node).put. -/
import Derived.Test.YtmbcegljmhcdeaaGreatBwd
import Derived.Maps.AppendAt
import Derived.Maps.OwnIn
import Derived.Laws.AppendOwnNone
import Derived.Deep.RegionHeld3
import Derived.RegionTactic
import Derived.BigRegion
namespace Go.Proofs.YtmbcegljmhcdeaaGreat
set_option maxRecDepth 5000
open Go.RowKit Go.Shelf
attribute [local go_sem] Oper.semAt_some
def nodeN (G:List (List UInt8)->Option Nd) (q:List (List UInt8)):Nat:=((G q).map fun y=>y.n).getD 0
theorem nodeN_of {G:List (List UInt8)->Option Nd} {q:List (List UInt8)} {x:Nd} (h:G q=some x):nodeN G q=x.n:=by unfold nodeN;rw[h];rfl
def ptrs (G:List (List UInt8)->Option Nd) (n:List (List UInt8)) (pre:List Nat):List Value:=(List.range (pre.length+1)).map fun j=>ptr (nodeN G ((pre.take j).map (lab n)))
theorem ptrs_snoc (G:List (List UInt8)->Option Nd) (n:List (List UInt8)) (pre:List Nat) (x:Nat):ptrs G n (pre ++ [x])=ptrs G n pre ++ [ptr (nodeN G ((pre ++ [x]).map (lab n)))]:=by
 unfold ptrs
 rw[List.length_append,List.length_singleton,List.range_succ (n:=pre.length+1),List.map_append]
 congr 1
 ·refine List.map_congr_left fun j hj=>?_
  have hj':j<=pre.length:=by have:=List.mem_range.1 hj;omega
  rw[List.take_append_of_le_length hj']
 ·simp only[List.map_cons,List.map_nil]
  rw[List.take_of_length_le (by simp)]
theorem row_own {A B:World} {row:Option Nat} {M g:Nat} {t:TypeId} {c:Array Value} (h:RowAt A g t c) (hg:A.grownBy B row) (hr : ∀ r,row=some r->M<=r /\ ∃ o:Obj,A.heap[r]?=some o/\o.isCells=false):RowAt B g t c:=by
 have e:B.heap[g]?=A.heap[g]?:=hg.block g h.lt (fun e=>by
  obtain⟨_,o,h1,h2⟩:=hr g e.symm
  unfold RowAt at h
  rw[h] at h1
  injection h1 with h1
  rw[<- h1] at h2
  cases h2)
 unfold RowAt;rw[e];exact h
theorem ownsRow_own {A B:World} {row:Option Nat} {M base size k:Nat} {e:TypeId} {v:Value} {xs:List Value} (h:A.ownsRow base e size v k xs) (hg:A.grownBy B row) (hr : ∀ r,row=some r->M<=r /\ ∃ o:Obj,A.heap[r]?=some o/\o.isCells=false):B.ownsRow base e size v k xs:=by
 refine h.kept hg ?_
 rcases h.2 with⟨rfl,_⟩ | ⟨g,cap,cur,rfl,_,hgb,_⟩
 ·exact .inl rfl
 ·refine .inr fun e'=>?_
  obtain⟨_,o,ho,hc⟩:=hr g (by simpa [Value.ownBlock] using e'.symm)
  rw[hgb] at ho;cases ho;cases hc
theorem below_own {A B w:World} {row:Option Nat} {M N:Nat} (h:Below N w A) (hN:N<=M) (hN2:N<=w.heap.size) (hg:A.grownBy B row) (hr : ∀ r,row=some r->M<=r /\ ∃ o:Obj,A.heap[r]?=some o/\o.isCells=false):Below N w B:=by
 refine⟨hg.os.trans h.os,hg.tape.trans h.tape,hg.output.trans h.output,Nat.le_trans h.size hg.size,fun k hk=>?_⟩
 have hs:=h.size
 rw[hg.block k (by omega) (fun e=>by have:=(hr k e.symm).1;omega)]
 exact h.block k hk
theorem _root_.Go.Boxed.below_ {W W':World} {B b:Nat} {t:TypeId} {v:Value} (h:Boxed W b t v) (hb:Below B W W') (hB:W.heap.size<=B):Boxed W' b t v:=(hb.block b (Nat.lt_of_lt_of_le h.lt hB)).trans h
theorem ownsRow_below {w w':World} {base size k:Nat} {e:TypeId} {v:Value} {xs:List Value} (h:w.ownsRow base e size v k xs) (hb:Below w.heap.size w w'):w'.ownsRow base e size v k xs :=
 h.kept (row:=none) ⟨hb.os,hb.tape,hb.output,hb.size,fun i hi _=>hb.block i hi⟩ (by cases v.ownBlock <;> simp)
theorem OwnS.blk {w:World} {base L c:Nat} {ao:Option Addr} {n:List (List UInt8)} (h:OwnS w base (.slice ao L c) n) (a:Addr) (e:ao=some a):a.block<w.heap.size:=by
 rcases h.2 with⟨e1,_⟩ | ⟨g,cap,cur,e1,_,hgb,_⟩
 ·injection e1 with e1;rw[e] at e1;cases e1
 ·injection e1 with e1;rw[e] at e1;injection e1 with e1;rw[e1];exact (Array.getElem?_eq_some_iff.1 hgb).1
theorem lab_range (m:List (List UInt8)) : ∀ k,k<=m.length->(List.range k).map (lab m)=m.reverse.take k
 | 0,_=>by simp
 | k+1,h=>by
  rw[List.range_succ,List.map_append,lab_range m k (by omega),List.take_add_one]
  congr 1
  unfold lab
  rw[List.map_cons,List.map_nil,List.getElem?_reverse (by omega),List.getD_eq_getElem?_getD,List.getElem?_eq_getElem (by omega)]
  rfl
theorem ownsRow_base {W:World} {base base' size k:Nat} {e:TypeId} {v:Value} {xs:List Value} (h:W.ownsRow base e size v k xs) (hb:base'<=base):W.ownsRow base' e size v k xs:=by
 refine⟨h.1,?_⟩
 rcases h.2 with h1 | ⟨g,cap,cur,e,h1,h2⟩
 ·exact Or.inl h1
 ·exact Or.inr ⟨g,cap,cur,e,Nat.le_trans hb h1,h2⟩
theorem not_own {W:World} {base size k:Nat} {e:TypeId} {v:Value} {xs:List Value} (h:W.ownsRow base e size v k xs) {i:Nat} {c:Array Value} {t:TypeId} {f:Nat × Nat} (hi:W.heap[i]?=some (.cells c t f)) (hne:t≠e):some i≠v.ownBlock:=by
 rcases h.2 with⟨rfl,_⟩ | ⟨g,cap,cur,rfl,_,hgb,_⟩
 ·simp[Value.ownBlock]
 ·intro e'
  have e2:i=g:=by simpa [Value.ownBlock] using e'
  rw[e2,hgb] at hi
  injection hi with hi
  injection hi with _ hi _
  exact hne hi.symm
theorem KpA.own {b1:Nat} {ao:Option Addr} {w5:World} {M:Nat} (h1 : ∃ (c:Array Value) (t:TypeId) (f:Nat × Nat),w5.heap[b1]?=some (Obj.cells c t f)) (h2 : ∀ a,ao=some a -> ∃ (c:Array Value) (t:TypeId) (f:Nat × Nat),w5.heap[a.block]?=some (Obj.cells c t f)):OwnFrom M (fun (_:List Nat) W=>KpA b1 ao w5 W):=by
 intro _ A B row hI hg hr
 have key : ∀ i,(∃ (c:Array Value) (t:TypeId) (f:Nat × Nat),w5.heap[i]?=some (Obj.cells c t f))->A.heap[i]?=w5.heap[i]?->B.heap[i]?=w5.heap[i]?:=fun i hx hA=>by
  obtain⟨c,t,f,hc⟩:=hx
  rw[hg.block i (Array.getElem?_eq_some_iff.1 (hA.trans hc)).1 (fun e=>by
   obtain⟨_,o,h1,h2⟩:=hr i e.symm
   rw[hA,hc] at h1;injection h1 with h1;rw[<- h1] at h2;cases h2),hA]
 exact⟨key b1 h1 hI.box,fun a e=>key _ (h2 a e) (hI.row a e),Nat.le_trans hI.size hg.size⟩
theorem take_range (len j:Nat):(List.range len).take j=List.range (min j len):=by
 rw[List.take_range]
def wayV (G:List (List UInt8)->Option Nd) (m:List (List UInt8)) (k:Nat):List Value:=(List.range (k+1)).map fun j=>ptr (nodeN G (m.reverse.take j))
theorem ptrs_range (G:List (List UInt8)->Option Nd) (m:List (List UInt8)) (k:Nat) (hk:k<=m.length):ptrs G m (List.range k)=wayV G m k:=by
 unfold ptrs wayV
 rw[List.length_range]
 refine List.map_congr_left fun j hj=>?_
 have hj':j<=k:=by have:=List.mem_range.1 hj;omega
 rw[take_range,Nat.min_eq_left hj',lab_range m j (by omega)]
structure WayI (w:World) (G:List (List UInt8)->Option Nd) (n:List (List UInt8)) (pre:List Nat) (W:World):Prop where
 at_:Boxed W w.heap.size 91 (ptr (nodeN G (pre.map (lab n))))
 ex:(G (pre.map (lab n))).isSome
 out : ∃ v,Boxed W (w.heap.size+2) 111 v/\W.ownsRow (w.heap.size+1) 91 1 v (pre.length+1) (ptrs G n pre)
 bel:Below w.heap.size w W
structure WayX (w:World) (G:List (List UInt8)->Option Nd) (n:List (List UInt8)) (pre:List Nat) (W:World):Prop where
 pos:0<pre.length
 no:G (pre.map (lab n))=none
 ex:(G (pre.dropLast.map (lab n))).isSome
 out : ∃ v,Boxed W (w.heap.size+2) 111 v/\W.ownsRow (w.heap.size+1) 91 1 v (pre.dropLast.length+1) (ptrs G n pre.dropLast)
 bel:Below w.heap.size w W
theorem WayI.own {w:World} {G:List (List UInt8)->Option Nd} {n:List (List UInt8)} {M:Nat} (hM:w.heap.size<=M):OwnFrom M (fun pre W=>WayI w G n pre W):=by
 intro pre A B row hI hg hr
 obtain⟨v,h1,h2⟩:=hI.out
 exact⟨row_own hI.at_ hg hr,hI.ex,⟨v,row_own h1 hg hr,ownsRow_own h2 hg hr⟩,below_own hI.bel hM (Nat.le_refl _) hg hr⟩
theorem WayX.own {w:World} {G:List (List UInt8)->Option Nd} {n:List (List UInt8)} {M:Nat} (hM:w.heap.size<=M):OwnFrom M (fun pre W=>WayX w G n pre W):=by
 intro pre A B row hI hg hr
 obtain⟨v,h1,h2⟩:=hI.out
 exact⟨hI.pos,hI.no,hI.ex,⟨v,row_own h1 hg hr,ownsRow_own h2 hg hr⟩,below_own hI.bel hM (Nat.le_refl _) hg hr⟩
theorem infoNp:(Tryz.prog.info? 91).map (fun i=>(i.zero,i.size,i.bytes))=some (some (.pointer none),1,8):=by kernel_rfl
set_option maxRecDepth 100000 in
set_option maxHeartbeats 4000000 in
theorem way_any (w:World) (Zb:Nat) (av:Value) (cnt:Int) (ρ : Nat->Role) (G:List (List UInt8)->Option Nd) (C:List (List UInt8)->Nat->Option Z.St) (K:Nat) (T:TreeAt w ρ G C K) (hz:RowAt w Zb 94 #[av,ptr (nodeN G []),.int .i64 cnt]) (n:List (List UInt8)) (ao:Option Addr) (len cap:Nat) (hl:Hid (n.length=len)) (hs:SlS w ao n) (hm:Hid (N.Small n)) :
 Calls Tryz.prog 63 #[ptr Zb,.slice ao len cap] w fun e w' => ∃ v,e = .returned v /\ ∃ k,k<=n.length/\(G ((N.lowN n).reverse.take k)).isSome/\(k<n.length->G ((N.lowN n).reverse.take (k+1))=none) /\
  w'.ownsRow w.heap.size 91 1 v (k+1) (wayV G (N.lowN n) k)/\Below w.heap.size w w':=by
 have hmx:Tryz.prog.follows .mixedOrders=true:=by kernel_rfl
 have z1:w.cell? ⟨Zb,1,none⟩=some (ptr (nodeN G [])):=hz.cell 1
 have HS:=hide hs
 have HT:=hide T
 clear hs T hz
 unfold ptr at z1 ⊢
 refine (callsIn_wide (n:=6)).1 ?_
 refine callsIn_of_wp_marks Tryz.func63 rfl trivial ?_ rfl
 simp only[Tryz.ntmps63,List.size_toArray,List.length_cons,List.length_nil,Nat.reduceAdd,Nat.reduceSub,Array.replicate_succ,Array.replicate_zero,List.push_toArray,List.append_toArray,List.nil_append,List.cons_append]
 obtain⟨w3,hw3⟩ : ∃ w3,w3=((w.alloc (.cells #[.pointer (some ⟨nodeN G [],0,none⟩)] 91)).alloc (.cells #[.pointer (some ⟨nodeN G [],0,none⟩)] 91)).alloc (.cells #[.slice (some ⟨w.heap.size+1,0,none⟩) 1 1] 111):=⟨_,rfl⟩
 have F3:Hid (Boxed w3 w.heap.size 91 (ptr (nodeN G []))/\Boxed w3 (w.heap.size+2) 111 (.slice (some ⟨w.heap.size+1,0,none⟩) 1 1)/\w3.ownsRow (w.heap.size+1) 91 1 (.slice (some ⟨w.heap.size+1,0,none⟩) 1 1) 1 [ptr (nodeN G [])]/\Below w.heap.size w w3/\w3.heap.size=w.heap.size+3):=by
  rw[hw3]
  refine⟨((Boxed.new w _ _).alloc _).alloc _,?_,?_,(((Below.refl _ w).alloc (Nat.le_refl _) _).alloc (by simp) _).alloc (by simp;omega) _,by simp⟩
  ·have:=Boxed.new ((w.alloc (.cells #[.pointer (some ⟨nodeN G [],0,none⟩)] 91)).alloc (.cells #[.pointer (some ⟨nodeN G [],0,none⟩)] 91)) 111 (.slice (some ⟨w.heap.size+1,0,none⟩) 1 1)
   simpa using this
  ·refine World.ownsRow.alloc (w:=(w.alloc (.cells #[.pointer (some ⟨nodeN G [],0,none⟩)] 91)).alloc (.cells #[.pointer (some ⟨nodeN G [],0,none⟩)] 91)) ?_ _
   exact⟨rfl,Or.inr ⟨w.heap.size+1,1,_,rfl,by omega,by have:=heap_alloc_last (w.alloc (.cells #[.pointer (some ⟨nodeN G [],0,none⟩)] 91)) (.cells #[.pointer (some ⟨nodeN G [],0,none⟩)] 91);rwa [World.size_alloc] at this,by simp,by unfold maxLen;omega,rfl,rfl⟩⟩
 have S3:=hide (HS.out.below F3.out.2.2.2.1 (Nat.le_refl _))
 gi_wp2_with (first
  | (refine⟨trivial,?_⟩;gi_at_call 48;rw[<- hw3];refine (callsIn_wide.2 (lower_any n ao len cap w3 hl S3.out hm)).mono ?_;rintro e w4 ⟨v4,rfl,hv4,hb4⟩;obtain⟨a4,c4,rfl,hs4,_,hc4,_⟩:=OwnS.open hv4;have hk4:=OwnS.blk hv4;have hl4:Hid ((N.lowN n).length=len):=(by show _=_;rw[N.lowN_len];exact hl.out);rw[hl4.out])
  | (refine⟨trivial,?_⟩;gi_at_call 101;refine (callsIn_wide.2 (backward_any w4 a4 len c4)).mono ?_;rintro e w5 ⟨rfl,hw5⟩)
  | fail)
 have G5:Hid (RowAt (w4.alloc (.cells #[.slice a4 len c4] 28)) w4.heap.size 28 #[.slice a4 len c4]/\SlS (w4.alloc (.cells #[.slice a4 len c4] 28)) a4 (N.lowN n)/\Below w3.heap.size w3 (w4.alloc (.cells #[.slice a4 len c4] 28))/\(w4.alloc (.cells #[.slice a4 len c4] 28)).heap.size=w4.heap.size+1/\w3.heap.size<=w4.heap.size) :=
  ⟨RowAt.new w4 _ _,hs4.alloc _,hb4.alloc hb4.size _,by simp,hb4.size⟩
 have hL2:len<=1000000:=by rw[<- hl.out];exact hm.out.1
 have hlab : ∀ x,(lab (N.lowN n) x).length<=1000000:=fun x=>by
  unfold lab
  rw[List.getD_eq_getElem?_getD]
  cases h:(N.lowN n)[(N.lowN n).length - 1 - x]? with
  | none=>simp
  | some l =>
   have h1:=List.mem_of_getElem? h
   unfold N.lowN at h1
   obtain⟨l0,h2,rfl⟩:=List.mem_map.1 h1
   rw[Option.getD_some,N.lowL_len];exact hm.out.2 l0 h2
 have HK5:Hid (a4=a4 /\ ∀ a,a4=some a->w.heap.size+3<=a.block /\ ∃ c f,(w4.alloc (.cells #[.slice a4 len c4] 28)).heap[a.block]?=some (.cells c 9 f)):=⟨rfl,fun a e=>by
  have hO:w4.ownsRow w3.heap.size 9 1 (.slice a4 (N.lowN n).length c4) (N.lowN n).length (vs (N.lowN n)):=hv4
  rcases hO.2 with⟨e1,_⟩ | ⟨g,cap,cur,e1,hg0,hgb,_⟩
  ·injection e1 with e1;rw[e] at e1;cases e1
  ·injection e1 with e1;rw[e] at e1;injection e1 with e1;subst e1
   refine⟨by have:=F3.out.2.2.2.2;show w.heap.size+3<=g;omega,cur,(0,0),?_⟩
   show (w4.alloc _).heap[g]?=_
   rw[Below.heap_alloc _ _ g (Array.getElem?_eq_some_iff.1 hgb).1];exact hgb⟩
 clear hs4 hb4 hv4 hc4 hw3 z1
 generalize w4.alloc (.cells #[.slice a4 len c4] 28)=w5 at G5 HK5 ⊢
 have hz5:w.heap.size+3<=w4.heap.size:=by have:=F3.out.2.2.2.2;have:=G5.out.2.2.2.2;omega
 obtain⟨m,hme⟩ : ∃ m,m=N.lowN n:=⟨_,rfl⟩
 rw[<- hme] at G5 hl4 hlab
 have HM:=hide hme
 clear hme
 have hrow4 : ∀ a,a4=some a->w.heap.size+3<=a.block /\ ∃ c f,w5.heap[a.block]?=some (.cells c 9 f):=HK5.out.2
 have ow:OwnFrom w5.heap.size (fun pre W=>WayI w G m pre W/\KpA w4.heap.size a4 w5 W):=OwnFrom.and (WayI.own (by have:=G5.out.2.2.2.1;omega)) (KpA.own ⟨_,_,_,G5.out.1⟩ fun a e=>by obtain⟨_,c,f,h⟩:=hrow4 a e;exact⟨c,_,f,h⟩)
 have ox : ∀ c:Code,OwnFrom w5.heap.size (fun pre W=>c = .exit 0/\WayX w G m pre W):=fun c s A B row hI hg hr=>⟨hI.1,WayX.own (by have:=G5.out.2.2.2.1;omega) s A B row hI.2 hg hr⟩
 refine wpIn_rangeFunc_ownG (α := Nat) rfl (by omega) (gf:=131) (lb := #[.pointer (some ⟨w4.heap.size,0,none⟩)]) rfl trivial (enters_of Tryz.func131 (by kernel_rfl) rfl) (encs:=bwv m) (Kp:=KpA w4.heap.size a4) (S:=fun xs=>xs=List.range len) (Sp:=fun xs => ∃ k,k<len/\xs=List.range (k+1)) (N:=len) (w0:=w5) ?seq1 KpA.trans ?keep1 (Below.refl _ _) (fun _=>rfl)
  (fun pre W=>WayI w G m pre W/\KpA w4.heap.size a4 w5 W) (fun c pre W=>c = .exit 0/\WayX w G m pre W) ow ox ?init1
  (fun x => { tmps := #[.pointer (some ⟨Zb,0,none⟩),.slice ao len cap,undef,undef,.slice none 0 0,.pointer (some ⟨w.heap.size,0,none⟩),.pointer (some ⟨w.heap.size+1+1,0,none⟩),undef,.string ⟨(lab m x).toArray⟩,undef,undef,.pointer (some ⟨Zb,0,none⟩),.pointer (some ⟨Zb,0,none⟩),.pointer (some ⟨Zb,1,none⟩),.pointer (some ⟨nodeN G [],0,none⟩),.pointer (some ⟨nodeN G [],0,none⟩),.slice (some ⟨w.heap.size+1,0,none⟩) 1 1,.slice ao len cap,.slice a4 len c4,.func (.func 131) #[] #[.pointer (some ⟨w4.heap.size,0,none⟩)],.int .i64 ((m.length:Int) - 1 - (x:Int)),.string ⟨(lab m x).toArray⟩,undef,undef,undef,undef,undef,undef,undef,undef,undef,undef,undef,undef,undef,undef,undef,undef,undef],defers := [] }) ?assign1 ?body1 ?done1 ?stop1
 case seq1 =>
  intro l Jv Jx W hW hJ hJx hY h0
  refine (back1_in l w4.heap.size c4 len a4 m hl4 hL2 Jv Jx hY W (G5.out.1.below hW G5.out.1.lt) (G5.out.2.1.below hW (Nat.le_refl _)) h0).mono ?_
  rintro e W' ⟨he,hj | ⟨k,hk,hj⟩⟩
  ·exact⟨he,.inl ⟨_,rfl,hj⟩⟩
  ·exact⟨he,.inr ⟨_,⟨k,hk,rfl⟩,hj⟩⟩
 case keep1 =>
  intro W l oo oo' hl hlo _ _
  have h4:=G5.out.2.2.2.1
  refine⟨World.putObj_heap_other (by omega),fun a e=>World.putObj_heap_other ?_,by simp⟩
  have:=hk4 a e
  omega
 case init1 =>
  have h5:=G5.out.2.2.1
  refine⟨⟨F3.out.1.below_ h5 (Nat.le_refl _),by rw[List.map_nil];exact HT.out.root,⟨_,F3.out.2.1.below_ h5 (Nat.le_refl _),?_⟩,F3.out.2.2.2.1.trans (h5.mono (by have:=F3.out.2.2.2.2;omega))⟩,rfl,fun _ _=>rfl,Nat.le_refl _⟩
  exact ownsRow_below F3.out.2.2.1 h5
 case assign1 =>
  intro l x W K hK
  unfold bwv
  gi_wp2
  exact hK
 case body1 =>
  rintro l pre x W ⟨hI,hKp⟩ hlen
  have TW:=HT.out.below_ hI.bel
  obtain⟨y,hy⟩:=Option.isSome_iff_exists.1 hI.ex
  have NY:=TW.node _ y hy
  have hat:=hI.at_
  rw[nodeN_of hy] at hat
  obtain⟨v,hbox,hrow⟩:=hI.out
  have hq:pre.map (lab m) ++ [lab m x]=(pre ++ [x]).map (lab m):=by simp
  have hlook:(Instr.lookup 105 (.map (some y.b)) (.string ⟨(lab m x).toArray⟩) true).run Tryz.prog W = .ok (.tuple #[((G ((pre ++ [x]).map (lab m))).map fun y=>ptr y.n).getD (.pointer none),.bool ((G ((pre ++ [x]).map (lab m))).map fun y=>ptr y.n).isSome]) W:=by
   rw[<- hq];exact NY.below.look keyedS Tryz.underlying105 (Tryz.zeroValue91 W) (keyS (lab m x) (hlab x))
  have x0:W.cell? ⟨w.heap.size,0,none⟩=some (.pointer (some ⟨y.n,0,none⟩)):=hat.cell
  have x1:W.cell? ⟨y.n,1,none⟩=some (.map (some y.b)):=NY.row.cell 1
  have xf:=hat.frozen
  have HI:=hide hI
  have HAT:=hide hat
  have HBX:=hide hbox
  have HRW:=hide hrow
  have HY:=hide hy
  have HN:=hide NY
  clear hI hat hbox hrow hy NY TW
  dsimp only
  cases hg:G ((pre ++ [x]).map (lab m)) with
  | none =>
   rw[hg] at hlook
   have hlook':(Instr.lookup 105 (.map (some y.b)) (.string ⟨(lab m x).toArray⟩) true).run Tryz.prog W = .ok (.tuple #[.pointer none,.bool false]) W:=hlook
   clear hlook
   gi_wp2
   refine⟨KeepsFrom.refl _ _,rfl,by simp,hg,by simpa using HI.out.ex,?_,HI.out.bel⟩
   exact⟨v,HBX.out,by simpa using HRW.out⟩
  | some y' =>
   rw[hg] at hlook
   have hlook':(Instr.lookup 105 (.map (some y.b)) (.string ⟨(lab m x).toArray⟩) true).run Tryz.prog W = .ok (.tuple #[.pointer (some ⟨y'.n,0,none⟩),.bool true]) W:=hlook
   clear hlook
   obtain⟨i0,hi,hz0,hz1,hz2⟩:=info_parts infoNp
   have g1:=grownBy_setCell' W w.heap.size (.pointer (some ⟨y'.n,0,none⟩))
   have hBW:=HI.out.bel.size
   have hb1:Boxed (W.setCell ⟨w.heap.size,0,none⟩ (.pointer (some ⟨y'.n,0,none⟩))) w.heap.size 91 (ptr y'.n):=HAT.out.set _
   have hb2:Boxed (W.setCell ⟨w.heap.size,0,none⟩ (.pointer (some ⟨y'.n,0,none⟩))) (w.heap.size+2) 111 v:=HBX.out.other (by omega) _
   have hr1:(W.setCell ⟨w.heap.size,0,none⟩ (.pointer (some ⟨y'.n,0,none⟩))).ownsRow (w.heap.size+1) 91 1 v (pre.length+1) (ptrs G m pre):=HRW.out.kept g1 (.inr (fun e=>by
    rcases HRW.out.2 with⟨e1,h1⟩ | ⟨g,cap,cur,e1,hg0,hgb,_⟩
    ·omega
    ·rw[e1] at e
     have e2:w.heap.size=g:=by simpa [Value.ownBlock,eq_comm] using e
     omega))
   have hbc:=HBX.out.cell
   have HB1:=hide hb1
   have HB2:=hide hb2
   have HR1:=hide hr1
   clear hb1 hb2 hr1
   have hpl:pre.length+1<=1000000:=by omega
   have hbs:w.heap.size+1<=W.heap.size:=by have:=HBX.out.lt;omega
   gi_wp2_with (gi_at_builtin;go_loud (refine wpListIn_append_own _ rfl _ _ 111 rfl (w.heap.size+1) 91 i0 (.pointer none) 1 8 Tryz.underlying111 hi hz0 hz1 hz2 rfl (by decide) _ _ _ rfl (HR1.out.alloc _) ⟨W.heap.size,0,none⟩ 1 1 [.pointer (some ⟨y'.n,0,none⟩)] (by first | rfl | simp) (by first | rfl | simp) (by first | exact cell_one_new _ _ _ | simpa using cell_one_new (W.setCell ⟨w.heap.size,0,none⟩ (.pointer (some ⟨y'.n,0,none⟩))) _ _) (by simp[Value.oneCell']) (by unfold maxLen;omega) (by omega) (by first | omega | (simp;omega)) ?_);intro v' w1 hown' hgrow _;obtain⟨g',cap',rfl⟩:=ownsRow_succ hown';obtain⟨hv1,hv2,hr2,hk2,hb2'⟩:=HB2.out.appended (by decide) HR1.out (by simp;omega) (by omega) hown' hgrow;have hc1:=hv1.cell;have hf1:=hv1.frozen)
   obtain⟨W',hW'⟩ : ∃ W',W'=w1.setCell ⟨w.heap.size+2,0,none⟩ (.slice (some ⟨g',0,none⟩) (pre.length+1+1) cap'):=⟨_,rfl⟩
   have hsz1:=hgrow.size
   simp only[World.size_alloc,World.size_setCell] at hsz1
   have hno:some w.heap.size≠v.ownBlock:=fun e=>by
    rcases HRW.out.2 with⟨e1,h1⟩ | ⟨g,cap,cur,e1,hg0,hgb,_⟩
    ·omega
    ·rw[e1] at e
     have e2:w.heap.size=g:=by simpa [Value.ownBlock,eq_comm] using e
     omega
   have hsame : ∀ i,w.heap.size+3<=i->i<W.heap.size->some i≠v.ownBlock->W'.heap[i]?=W.heap[i]?:=fun i h1 h2 h3=>by
    rw[hW',(grownBy_setCell' w1 (w.heap.size+2) _).block i (by omega) (by simp;omega),hgrow.block i (by simp;omega) h3,Below.heap_alloc _ _ i (by simpa using h2),g1.block i h2 (by simp;omega)]
   have hKP:KpA w4.heap.size a4 W W':=by
    refine⟨hsame _ hz5 (Array.getElem?_eq_some_iff.1 (hKp.box.trans G5.out.1)).1 (not_own HRW.out (hKp.box.trans G5.out.1) (by decide)),fun a e=>?_,by rw[hW'];simp;omega⟩
    obtain⟨h1,c,f,h2⟩:=hrow4 a e
    have h3:=(hKp.row a e).trans h2
    exact hsame _ h1 (Array.getElem?_eq_some_iff.1 h3).1 (not_own HRW.out h3 (by decide))
   rw[<- hW'] at hv2 hr2 hk2 hb2' ⊢
   refine⟨((KeepsOthers.setCell W _ _).trans hk2).from _,hKP,⟨?_,by rw[hg];rfl,⟨_,hv2,?_⟩,?_⟩,hKp.trans hKP⟩
   ·rw[nodeN_of hg,hW']
    exact ((HB1.out.alloc _).kept hgrow hno).other (by omega) _
   ·rw[ptrs_snoc,nodeN_of hg,List.length_append]
    exact hr2
   ·exact HI.out.bel.trans (((Below.refl w.heap.size W).setCell (p:=⟨w.heap.size,0,none⟩) (Nat.le_refl _) _).trans (hb2'.mono (by omega)))
 case done1 =>
  rintro Dd xs W hDd rfl ⟨hI,_⟩ hK
  obtain⟨v,hbox,hrow⟩:=hI.out
  have hc:=hbox.cell
  have HR:=hide hrow
  have HI:=hide hI
  clear hbox hrow hI
  gi_wp2
  refine⟨by simp,.inl ⟨_,_,rfl,run_takeDeferred hK,?_⟩⟩
  refine⟨_,results_tmp rfl _ _ _,v,rfl,len,by rw[hl.out];omega,?_,fun h=>by have:=hl.out;omega,?_,?_⟩
  ·have:=HI.out.ex
   rw[lab_range m len (by rw[hl4.out];omega)] at this
   rw[<- HM.out];exact this
  ·have:=HR.out
   rw[List.length_range,ptrs_range G m len (by rw[hl4.out];omega)] at this
   rw[<- HM.out];exact ownsRow_base (base:=w.heap.size+1) (ownsRow_putObj this _ hK rfl) (Nat.le_succ _)
  ·exact HI.out.bel.trans ⟨rfl,rfl,rfl,by simp,fun i hi=>World.putObj_heap_other (by have:=G5.out.2.2.2.1;omega)⟩
 case stop1 =>
  rintro Dd c pre W hDd ⟨k,hk,rfl⟩ ⟨rfl,hX⟩ hK
  have hdl:(List.range (k+1)).dropLast=List.range k:=by rw[List.range_succ,List.dropLast_concat]
  obtain⟨v,hbox,hrow⟩:=hX.out
  have hc:=hbox.cell
  have HR:=hide hrow
  have HX:=hide hX
  clear hbox hrow hX
  gi_wp2
  refine⟨by simp,.inl ⟨_,_,rfl,run_takeDeferred hK,?_⟩⟩
  refine⟨_,results_tmp rfl _ _ _,v,rfl,k,by rw[hl.out];omega,?_,fun _=>?_,?_,?_⟩
  ·have:=HX.out.ex
   rw[hdl,lab_range m k (by rw[hl4.out];omega)] at this
   rw[<- HM.out];exact this
  ·have:=HX.out.no
   rw[lab_range m (k+1) (by rw[hl4.out];omega)] at this
   rw[<- HM.out];exact this
  ·have:=HR.out
   rw[hdl,List.length_range,ptrs_range G m k (by rw[hl4.out];omega)] at this
   rw[<- HM.out];exact ownsRow_base (base:=w.heap.size+1) (ownsRow_putObj this _ hK rfl) (Nat.le_succ _)
  ·exact HX.out.bel.trans ⟨rfl,rfl,rfl,by simp,fun i hi=>World.putObj_heap_other (by have:=G5.out.2.2.2.1;omega)⟩
open Go.RowKit
def path (n:List (List UInt8)):List (List UInt8):=(N.lowN n).reverse
theorem path_len (n:List (List UInt8)):(path n).length=n.length:=by unfold path;rw[List.length_reverse,N.lowN_len]
theorem path_low (n:List (List UInt8)):Z.Low (path n):=by
 have h:=Z.Low.of n
 unfold Z.Low at h
 unfold path Z.Low
 have h2:N.lowN (N.lowN n).reverse=(N.lowN (N.lowN n)).reverse:=List.map_reverse
 rw[h2,h]
structure Found (w w':World) (G:List (List UInt8)->Option Nd) (C:List (List UInt8)->Nat->Option Z.St) (K:Nat) (p:List (List UInt8)) (x:Nd):Prop where
 node:NodeIs w' G C K p x
 who:G p=some x\/(G p=none/\w.heap.size<=x.n/\w.heap.size<=x.s/\w.heap.size<=x.b)
 bel:Below w.heap.size w w'
theorem TreeAt.no_sets {w:World} {ρ : Nat->Role} {G:List (List UInt8)->Option Nd} {C:List (List UInt8)->Nat->Option Z.St} {K:Nat} (T:TreeAt w ρ G C K) {p:List (List UInt8)} (h:G p=none) (t:Nat):C p t=none:=by
 cases hC:C p t with
 | none=>rfl
 | some S=>have:=(T.cov p t S hC).1;rw[h] at this;cases this
theorem TreeAt.no_below {w:World} {ρ : Nat->Role} {G:List (List UInt8)->Option Nd} {C:List (List UInt8)->Nat->Option Z.St} {K:Nat} (T:TreeAt w ρ G C K) {p:List (List UInt8)} (h:G p=none) (r:List (List UInt8)):G (p++r)=none:=by
 cases hg:G (p++r) with
 | none=>rfl
 | some z=>have:=T.pre r p (by rw[hg];rfl);rw[h] at this;cases this
theorem new_node {w:World} {ρ : Nat->Role} {G:List (List UInt8)->Option Nd} {C:List (List UInt8)->Nat->Option Z.St} {K:Nat} (T:TreeAt w ρ G C K) {p:List (List UInt8)} (h:G p=none) (w1:World) :
 NodeIs (((w1.alloc (.map #[] 0)).alloc (.map #[] 0)).alloc (.cells #[.map (some w1.heap.size),.map (some (w1.heap.size+1))] 107)) G C K p ⟨w1.heap.size+2,w1.heap.size,w1.heap.size+1,fun _=>0⟩:=by
 refine⟨?_,?_,?_,fun t S hS=>by rw[T.no_sets h t] at hS;cases hS⟩
 ·have:=RowAt.new ((w1.alloc (.map #[] 0)).alloc (.map #[] 0)) 107 #[.map (some w1.heap.size),.map (some (w1.heap.size+1))]
  simpa using this
 ·refine MapU.ext (h:=fun _=>none) (((MapU.made w1 K).heap ?_)) fun t _=>by rw[T.no_sets h t];rfl
  rw[Below.heap_alloc _ _ _ (by simp;omega),Below.heap_alloc _ _ _ (by simp)]
 ·refine MapS.ext (h:=fun _=>none) ?_ fun l=>by rw[T.no_below h [l]];rfl
  have:=MapS.made (w1.alloc (.map #[] 0)) K
  rw[World.size_alloc] at this
  exact this.heap (Below.heap_alloc _ _ _ (by simp))
theorem wayV_get (G:List (List UInt8)->Option Nd) (m:List (List UInt8)) (k j:Nat) (h:j<=k):(wayV G m k)[j]?=some (ptr (nodeN G (m.reverse.take j))):=by
 unfold wayV
 rw[List.getElem?_map,List.getElem?_range (by omega)];rfl
theorem way_end {w w1:World} {ρ : Nat->Role} {G:List (List UInt8)->Option Nd} {C:List (List UInt8)->Nat->Option Z.St} {K:Nat} (T:TreeAt w ρ G C K) {n:List (List UInt8)} {k g c:Nat} (hk:k<=n.length) (h1:(G ((N.lowN n).reverse.take k)).isSome) (h2:k<n.length->G ((N.lowN n).reverse.take (k+1))=none)
 (hrow:w1.ownsRow w.heap.size 91 1 (.slice (some ⟨g,0,none⟩) (k+1) c) (k+1) (wayV G (N.lowN n) k)) :
 (k<n.length/\G (path n)=none)\/(k=n.length /\ ∃ x,G (path n)=some x/\w1.cell? ⟨g,n.length,none⟩=some (.pointer (some ⟨x.n,0,none⟩))):=by
 rcases Nat.lt_or_ge k n.length with hlt | hge
 ·refine Or.inl ⟨hlt,?_⟩
  have:=T.no_below (h2 hlt) ((path n).drop (k+1))
  unfold path at this ⊢
  rwa [List.take_append_drop] at this
 ·have e:k=n.length:=by omega
  refine Or.inr ⟨e,?_⟩
  have e2:(N.lowN n).reverse.take k=path n:=by
   unfold path;exact List.take_of_length_le (by rw[List.length_reverse,N.lowN_len];omega)
  rw[e2] at h1
  obtain⟨x,hx⟩:=Option.isSome_iff_exists.1 h1
  refine⟨x,hx,?_⟩
  rw[World.ownsRow.cellAt hrow n.length (by omega),wayV_get _ _ _ _ (by omega), <- e,e2,nodeN_of hx];rfl
set_option maxHeartbeats 1000000 in
theorem find_any (w:World) (Zb:Nat) (av:Value) (cnt:Int) (ρ : Nat->Role) (G:List (List UInt8)->Option Nd) (C:List (List UInt8)->Nat->Option Z.St) (K:Nat) (T:TreeAt w ρ G C K) (hz:RowAt w Zb 94 #[av,ptr (nodeN G []),.int .i64 cnt]) (n:List (List UInt8)) (ao:Option Addr) (len cap:Nat) (hl:Hid (n.length=len)) (hs:SlS w ao n) (hm:Hid (N.Small n)) :
 Calls Tryz.prog 59 #[ptr Zb,.slice ao len cap] w fun e w' => ∃ x:Nd,e = .returned (.pointer (some ⟨x.n,0,none⟩))/\Found w w' G C K (path n) x:=by
 have hw:=way_any w Zb av cnt ρ G C K T hz n ao len cap hl hs hm
 have HT:=hide T
 have hlen:len<=1000000:=by rw[<- hl.out];exact hm.out.1
 clear hs T hz
 unfold ptr at hw ⊢
 go_enter Tryz.func59,Tryz.ntmps59
 go_wp2_with (first
  | (go_at_call 63;refine hw.mono ?_;rintro e w1 ⟨v,rfl,k,hk,hG1,hG2,hrow,hbel⟩;obtain⟨g,c,rfl⟩:=ownsRow_succ hrow;have he:=way_end HT.out hk hG1 hG2 hrow;rw[hl.out] at he;clear hG1 hG2 hrow hk;rcases he with⟨hkk,hno⟩ | ⟨hkk,x,hx,hcell⟩)
  | (go_at_call 49;refine (newNode_any _).mono ?_;rintro e w2 ⟨rfl,hw2⟩))
 ·go_ret
  refine⟨⟨w1.heap.size+2,w1.heap.size,w1.heap.size+1,fun _=>0⟩,rfl,⟨new_node (HT.out.below_ hbel) hno w1,Or.inr ⟨hno,?_,?_,?_⟩,?_⟩⟩
  ·have:=hbel.size;show _<=w1.heap.size+2;omega
  ·exact hbel.size
  ·have:=hbel.size;show _<=w1.heap.size+1;omega
  ·exact ((hbel.alloc hbel.size _).alloc (by have:=hbel.size;simp;omega) _).alloc (by have:=hbel.size;simp;omega) _
 ·go_ret
  exact⟨x,rfl,⟨(HT.out.below_ hbel).node _ x hx,Or.inl hx,hbel⟩⟩
open Go.RowKit
structure KB (w w':World):Prop where
 size:w.heap.size<=w'.heap.size
 rows : ∀ (g:Nat) (c:Array Value) (et:TypeId) (fr:Nat × Nat),w.heap[g]?=some (Obj.cells c et fr)->et=5\/et=9->w'.heap[g]?=some (Obj.cells c et fr)
theorem KB.refl (w:World):KB w w:=⟨Nat.le_refl _,fun _ _ _ _ h _=>h⟩
theorem KB.trans {a b c:World} (h:KB a b) (k:KB b c):KB a c:=⟨Nat.le_trans h.size k.size,fun g x et fr hg he=>k.rows g x et fr (h.rows g x et fr hg he) he⟩
theorem KB.of_below {w w':World} (h:Below w.heap.size w w'):KB w w':=⟨h.size,fun g _ _ _ hg _=>(h.block g (Array.getElem?_eq_some_iff.1 hg).1).trans hg⟩
theorem KB.alloc (w:World) (o:Obj):KB w (w.alloc o) := .of_below ((Below.refl _ w).alloc (Nat.le_refl _) o)
theorem KB.turn {b:Nat} {w w':World} (h:Turn b w w'):KB w w':=⟨Nat.le_of_eq h.size.symm,fun g c et fr hg _=>by
 obtain⟨es,k,hb⟩:=h.was
 exact (h.block g (fun e=>by rw[e,hb] at hg;cases hg)).trans hg⟩
theorem KB.grown {w w':World} {base size k:Nat} {e:TypeId} {v:Value} {xs:List Value} (hv:w.ownsRow base e size v k xs) (he:e≠5/\e≠9) (hg:w.grownBy w' v.ownBlock):KB w w':=⟨hg.size,fun g c et fr hb het=>by
 refine (hg.block g (Array.getElem?_eq_some_iff.1 hb).1 (not_own hv hb ?_)).trans hb
 rcases het with rfl | rfl
 ·exact fun e=>he.1 e.symm
 ·exact fun e=>he.2 e.symm⟩
def TyL (w:World) (ao:Option Addr) (l:List UInt8):Prop:=SlL w ao l /\ ∀ a,ao=some a -> ∃ c fr,w.heap[a.block]?=some (Obj.cells c 5 fr)
def TyS (w:World) (ao:Option Addr) (n:List (List UInt8)):Prop:=SlS w ao n /\ ∀ a,ao=some a -> ∃ c fr,w.heap[a.block]?=some (Obj.cells c 9 fr)
theorem TyL.kb {w w':World} {ao:Option Addr} {l:List UInt8} (h:TyL w ao l) (k:KB w w'):TyL w' ao l:=by
 refine⟨fun hn=>?_,fun a e=>?_⟩
 ·obtain⟨b,o,e,hlt,hc⟩:=h.1 hn
  obtain⟨c,fr,hb⟩:=h.2 _ e
  have hb:w.heap[b]?=some (Obj.cells c 5 fr):=hb
  refine⟨b,o,e,Nat.lt_of_lt_of_le hlt k.size,fun j hj=>?_⟩
  rw[<- hc j hj]
  exact World.cell?_of_block ((k.rows _ _ _ _ hb (Or.inl rfl)).trans hb.symm)
 ·obtain⟨c,fr,hb⟩:=h.2 a e
  exact⟨c,fr,k.rows _ _ _ _ hb (Or.inl rfl)⟩
theorem TyS.kb {w w':World} {ao:Option Addr} {l:List (List UInt8)} (h:TyS w ao l) (k:KB w w'):TyS w' ao l:=by
 refine⟨fun hn=>?_,fun a e=>?_⟩
 ·obtain⟨b,o,e,hlt,hc⟩:=h.1 hn
  obtain⟨c,fr,hb⟩:=h.2 _ e
  have hb:w.heap[b]?=some (Obj.cells c 9 fr):=hb
  refine⟨b,o,e,Nat.lt_of_lt_of_le hlt k.size,fun j hj=>?_⟩
  rw[<- hc j hj]
  exact World.cell?_of_block ((k.rows _ _ _ _ hb (Or.inr rfl)).trans hb.symm)
 ·obtain⟨c,fr,hb⟩:=h.2 a e
  exact⟨c,fr,k.rows _ _ _ _ hb (Or.inr rfl)⟩
def EB (w:World) (l:List UInt8) (us:List Value):Prop := ∃ a c,us = [.slice a l.length c]/\TyL w a l/\(a=none->c=0)/\l.length<=c
theorem EB.kb {w w':World} {l:List UInt8} {us:List Value} (h:EB w l us) (k:KB w w'):EB w' l us:=by
 obtain⟨a,c,h1,h2,h3⟩:=h;exact⟨a,c,h1,h2.kb k,h3⟩
structure Els {α : Type} (sz:Nat) (E:World -> α -> List Value->Prop) (w:World) (L:List α) (vss:List (List Value)):Prop where
 len:vss.length=L.length
 el : ∀ (j:Nat) (x : α) (us:List Value),L[j]?=some x->vss[j]?=some us->us.length=sz/\(∀ u∈us,u.oneCell'=true)/\E w x us
theorem Els.nil {α : Type} (sz:Nat) (E:World -> α -> List Value->Prop) (w:World):Els sz E w [] []:=⟨rfl,fun j x us h=>by simp at h⟩
theorem Els.kb {α : Type} {sz:Nat} {E:World -> α -> List Value->Prop} {w w':World} {L:List α} {vss:List (List Value)} (h:Els sz E w L vss) (hE : ∀ x us,E w x us->E w' x us):Els sz E w' L vss :=
 ⟨h.len,fun j x us h1 h2=>⟨(h.el j x us h1 h2).1,(h.el j x us h1 h2).2.1,hE x us (h.el j x us h1 h2).2.2⟩⟩
theorem Els.app {α : Type} {sz:Nat} {E:World -> α -> List Value->Prop} {w:World} {L L2:List α} {vss vss2:List (List Value)} (h:Els sz E w L vss) (h2:Els sz E w L2 vss2):Els sz E w (L++L2) (vss++vss2):=by
 refine⟨by rw[List.length_append,List.length_append,h.len,h2.len],fun j x us h3 h4=>?_⟩
 by_cases hj:j<L.length
 ·rw[List.getElem?_append_left hj] at h3
  rw[List.getElem?_append_left (by rw[h.len];exact hj)] at h4
  exact h.el j x us h3 h4
 ·rw[List.getElem?_append_right (by omega)] at h3
  rw[List.getElem?_append_right (by rw[h.len];omega),h.len] at h4
  exact h2.el _ x us h3 h4
theorem Els.one {α : Type} {sz:Nat} {E:World -> α -> List Value->Prop} {w:World} {x : α} {us:List Value} (h1:us.length=sz) (h2 : ∀ u∈us,u.oneCell'=true) (h3:E w x us):Els sz E w [x] [us]:=by
 refine⟨rfl,fun j y vs hy hv=>?_⟩
 cases j with
 | zero=>simp at hy hv;subst hy;subst hv;exact⟨h1,h2,h3⟩
 | succ j=>simp at hy
theorem flat_get {sz:Nat} : ∀ (vss:List (List Value)),(∀ us∈vss,us.length=sz) -> ∀ (j t:Nat) (us:List Value),vss[j]?=some us->t<sz->vss.flatten[j*sz+t]?=us[t]?
 | [],_,j,t,us,h,_=>by simp at h
 | vs::vss,hl,0,t,us,h,ht=>by
  simp at h;subst h
  rw[List.flatten_cons,Nat.zero_mul,Nat.zero_add,List.getElem?_append_left (by rw[hl vs (by simp)];exact ht)]
 | vs::vss,hl,j+1,t,us,h,ht=>by
  have h':vss[j]?=some us:=by simpa using h
  have hv:=hl vs (by simp)
  rw[List.flatten_cons,List.getElem?_append_right (by rw[hv,Nat.succ_mul];omega),hv]
  rw[show (j+1)*sz+t - sz=j*sz+t by rw[Nat.succ_mul];omega]
  exact flat_get vss (fun us h=>hl us (by simp[h])) j t us h' ht
theorem Els.sizes {α : Type} {sz:Nat} {E:World -> α -> List Value->Prop} {w:World} {L:List α} {vss:List (List Value)} (h:Els sz E w L vss):(∀ us∈vss,us.length=sz)/\(∀ u∈vss.flatten,u.oneCell'=true)/\vss.flatten.length=L.length*sz:=by
 have key : ∀ us∈vss,us.length=sz /\ ∀ u∈us,u.oneCell'=true:=fun us hus=>by
  obtain⟨j,hj,rfl⟩:=List.getElem_of_mem hus
  have h1:vss[j]?=some vss[j]:=List.getElem?_eq_getElem hj
  have h2:L[j]?=some (L[j]'(by rw[<- h.len];exact hj)):=List.getElem?_eq_getElem _
  have:=h.el j _ _ h2 h1
  exact⟨this.1,this.2.1⟩
 refine⟨fun us hus=>(key us hus).1,fun u hu=>?_,?_⟩
 ·obtain⟨us,h1,h2⟩:=List.mem_flatten.1 hu;exact (key us h1).2 u h2
 ·rw[<- h.len]
  have : ∀ l:List (List Value),(∀ us∈l,us.length=sz)->l.flatten.length=l.length*sz:=fun l=>by
   induction l with
   | nil=>intro _;simp
   | cons a l ih =>
    intro hl
    rw[List.flatten_cons,List.length_append,ih (fun us h=>hl us (by simp[h])),hl a (by simp),List.length_cons,Nat.succ_mul];omega
  exact this vss fun us hus=>(key us hus).1
def OwnL {α : Type} (et:TypeId) (sz:Nat) (E:World -> α -> List Value->Prop) (w:World) (base:Nat) (v:Value) (L:List α):Prop :=
 ∃ vss,w.ownsRow base et sz v L.length vss.flatten/\Els sz E w L vss
theorem OwnL.nil {α : Type} (et:TypeId) (sz:Nat) (E:World -> α -> List Value->Prop) (w:World) (base:Nat):OwnL et sz E w base (.slice none 0 0) ([]:List α):=⟨[],World.ownsRow_nil _ _ _ _,Els.nil _ _ _⟩
theorem OwnL.slice {α : Type} {et:TypeId} {sz:Nat} {E:World -> α -> List Value->Prop} {w:World} {base:Nat} {v:Value} {L:List α} (h:OwnL et sz E w base v L) : ∃ a c,v = .slice a L.length c/\(a=none->c=0)/\L.length<=c:=by
 obtain⟨vss,h,_⟩:=h
 rcases h.2 with⟨rfl,h2⟩ | ⟨g,cap,cur,rfl,_,_,h3,_⟩
 ·exact⟨none,0,by rw[h2],fun _=>rfl,by omega⟩
 ·exact⟨_,cap,rfl,fun e=>(by cases e),h3⟩
theorem OwnL.low {α : Type} {et:TypeId} {sz:Nat} {E:World -> α -> List Value->Prop} {w:World} {base base':Nat} {v:Value} {L:List α} (h:OwnL et sz E w base v L) (hb:base'<=base):OwnL et sz E w base' v L:=by
 obtain⟨vss,h,h2⟩:=h;exact⟨vss,ownsRow_base h hb,h2⟩
theorem OwnL.kept {α : Type} {et:TypeId} {sz:Nat} {E:World -> α -> List Value->Prop} {w w':World} {base:Nat} {v:Value} {L:List α} (h:OwnL et sz E w base v L) (hE : ∀ x us,E w x us->E w' x us) (hk : ∀ (g:Nat) (c:Array Value) (fr:Nat × Nat),base<=g->w.heap[g]?=some (Obj.cells c et fr)->w'.heap[g]?=w.heap[g]?):OwnL et sz E w' base v L:=by
 obtain⟨vss,h,h2⟩:=h
 refine⟨vss,⟨h.1,?_⟩,h2.kb hE⟩
 rcases h.2 with h3 | ⟨g,cap,cur,e,h3,h4,h5⟩
 ·exact Or.inl h3
 ·exact Or.inr ⟨g,cap,cur,e,h3,(hk g cur _ h3 h4).trans h4,h5⟩
theorem OwnL.bel {α : Type} {et:TypeId} {sz:Nat} {E:World -> α -> List Value->Prop} {w w':World} {base:Nat} {v:Value} {L:List α} (h:OwnL et sz E w base v L) (hE : ∀ x us,E w x us->E w' x us) (hb:Below w.heap.size w w'):OwnL et sz E w' base v L :=
 h.kept hE fun g _ _ _ hg=>hb.block g (Array.getElem?_eq_some_iff.1 hg).1
theorem OwnL.get {α : Type} {et:TypeId} {sz:Nat} {E:World -> α -> List Value->Prop} {w:World} {base:Nat} {L:List α} {a:Option Addr} {n c:Nat} (h:OwnL et sz E w base (.slice a n c) L) (hn:0<L.length) : ∃ g,a=some ⟨g,0,none⟩/\base<=g/\g<w.heap.size/\(∃ cur,w.heap[g]?=some (Obj.cells cur et)) /\
 ∀ j x,L[j]?=some x -> ∃ us,us.length=sz/\E w x us /\ ∀ t,t<sz->w.cell? ⟨g,j*sz+t,none⟩=us[t]?:=by
 obtain⟨vss,h,h2⟩:=h
 rcases h.2 with⟨_,h3⟩ | ⟨g,cap,cur,e,h3,h4,h5⟩
 ·omega
 ·injection e with e1 e2 e3
  subst e1;subst e2;subst e3
  refine⟨g,rfl,h3,(Array.getElem?_eq_some_iff.1 h4).1,⟨cur,h4⟩,fun j x hx=>?_⟩
  have hj:j<vss.length:=by rw[h2.len];exact (List.getElem?_eq_some_iff.1 hx).1
  have h6:vss[j]?=some vss[j]:=List.getElem?_eq_getElem hj
  obtain⟨h7,h8,h9⟩:=h2.el j x _ hx h6
  refine⟨_,h7,h9,fun t ht=>?_⟩
  rw[World.ownsRow.cellAt h _ (by
   have h10:j+1<=L.length:=by have:=h2.len;omega
   have h11:(j+1)*sz<=L.length*sz:=Nat.mul_le_mul_right _ h10
   rw[Nat.succ_mul] at h11;omega),flat_get vss h2.sizes.1 j t _ h6 ht]
theorem owns_below {w w':World} {base size k:Nat} {e:TypeId} {v:Value} {xs:List Value} (hv:w.ownsRow base e size v k xs) (hg:w.grownBy w' v.ownBlock) (hb:base<=w.heap.size):Below base w w':=by
 refine⟨hg.os,hg.tape,hg.output,hg.size,fun i hi=>hg.block i (by omega) fun e=>?_⟩
 rcases hv.2 with⟨rfl,_⟩ | ⟨g,cap,cur,rfl,h1,_⟩
 ·simp[Value.ownBlock] at e
 ·have e2:i=g:=by simpa [Value.ownBlock] using e
  omega
theorem wpList_appL {α : Type} {et:TypeId} {sz:Nat} {E:World -> α -> List Value->Prop} {w:World} {ops:Array Oper} {rest:List Oper} {o:Oper} {a:Act} {Q:Exit->Act->World->Prop} (hgd:o.guard=none) (s x:Operand) (st:TypeId)
 (ho:o.op = .call { callee := .builtin .append,args := #[s,x],argTypes := #[st,st] }) (hu:Tryz.prog.underlying st=some (.slice et)) (z:Value) (bytes:Nat) (hie : ∃ i,Tryz.prog.info? et=some i/\i.zero=some z/\i.size=sz/\i.bytes=bytes) (hzc:z.cells.size=sz) (hsz:0<sz) (hby:bytes<=200) (hne:et≠5/\et≠9)
 (base:Nat) (v:Value) (L:List α) (hs:a.eval s=v) (hown:OwnL et sz E w base v L) (ad:Addr) (c:Nat) (y : α) (us:List Value) (hx:a.eval x = .slice (some ad) 1 c) (hr : ∀ j u,us[j]?=some u->w.cell? (ad.add j)=some u) (hlen:us.length=sz) (hone : ∀ u∈us,u.oneCell'=true) (hEy:E w y us)
 (hEk : ∀ w' x us,KB w w'->E w x us->E w' x us) (hbound:L.length<=1000000) (hbase:base<=w.heap.size)
 (h : ∀ v' w',OwnL et sz E w' base v' (L ++ [y])->w.grownBy w' v.ownBlock->KB w w'->Below base w w'->wpList Tryz.prog ops Q rest (a.put o.dst v') w'):wpList Tryz.prog ops Q (o::rest) a w:=by
 obtain⟨i0,hi,hz0,hz1,hz2⟩:=hie
 obtain⟨vss,hv,hE⟩:=hown
 have hmul:(L.length+1)*bytes<=1000001*200:=Nat.mul_le_mul (by omega) hby
 refine wpList_append_own w hgd s x st ho base et i0 z sz bytes hu hi hz0 hz1 hz2 hzc hsz v L.length vss.flatten hs hv ad 1 c us hx (by omega) hr hone (by unfold maxLen;omega) (by omega) hbase ?_
 intro v' w' h1 h2 _
 have hk:=KB.grown hv hne h2
 refine h v' w' ⟨vss ++ [us],?_,(hE.kb fun x us=>hEk w' x us hk).app (Els.one hlen hone (hEk w' y us hk hEy))⟩ h2 hk (owns_below hv h2 hbase)
 rw[List.length_append,List.length_singleton,List.flatten_append,List.flatten_cons,List.flatten_nil,List.append_nil]
 exact h1
theorem infoBs:(Tryz.prog.info? 37).map (fun i=>(i.zero,i.size,i.bytes))=some (some (.slice none 0 0),1,24):=by kernel_rfl
theorem OwnB.ty {w:World} {base:Nat} {v:Value} {l:List UInt8} (h:OwnB w base v l) : ∃ a c,v = .slice a l.length c/\TyL w a l/\(a=none->c=0)/\l.length<=c:=by
 obtain⟨a,c,e,h1,h2,h3,_⟩:=h.open
 refine⟨a,c,e,⟨h1,fun ad ea=>?_⟩,h2,h3⟩
 have h0:w.ownsRow base 5 1 v l.length (vb l):=h
 rcases h0.2 with⟨e1,_⟩ | ⟨g,cap,cur,e1,_,hgb,_⟩
 ·rw[e] at e1;injection e1 with e1;rw[e1] at ea;cases ea
 ·rw[e] at e1;injection e1 with e1;rw[e1] at ea;injection ea with ea;subst ea;exact⟨cur,_,hgb⟩
theorem OwnS.ty {w:World} {base:Nat} {v:Value} {n:List (List UInt8)} (h:OwnS w base v n) : ∃ a c,v = .slice a n.length c/\TyS w a n/\(a=none->c=0)/\n.length<=c:=by
 obtain⟨a,c,e,h1,h2,h3,_⟩:=h.open
 refine⟨a,c,e,⟨h1,fun ad ea=>?_⟩,h2,h3⟩
 have h0:w.ownsRow base 9 1 v n.length (vs n):=h
 rcases h0.2 with⟨e1,_⟩ | ⟨g,cap,cur,e1,_,hgb,_⟩
 ·rw[e] at e1;injection e1 with e1;rw[e1] at ea;cases ea
 ·rw[e] at e1;injection e1 with e1;rw[e1] at ea;injection ea with ea;subst ea;exact⟨cur,_,hgb⟩
open Go.RowKit
def DM (w:World):Option Nat->(List UInt8->Option (List UInt8))->Nat->Prop
 | none,g,_ => ∀ c,g c=none
 | some m,g,K => ∃ h,MapS w m h K /\ ∀ c,DIs w (g c) (h c)
theorem DM.bel {w w':World} {mo:Option Nat} {g:List UInt8->Option (List UInt8)} {K:Nat} (h:DM w mo g K) (hb:Below w.heap.size w w'):DM w' mo g K:=by
 cases mo with
 | none=>exact h
 | some m =>
  obtain⟨f,h1,h2⟩:=h
  exact⟨f,h1.heap (hb.block m h1.lt),fun c=>(h2 c).keep fun _ _ hs=>hs.below hb (Nat.le_refl _)⟩
theorem DIs.some {w:World} {d:List UInt8} {v:Option Value} (h:DIs w (some d) v) : ∃ ao c,v=some (.slice ao d.length c)/\SlL w ao d/\(ao=none->c=0)/\d.length<=c/\d.length<=8192:=by
 cases v with
 | none=>exact h.elim
 | some u=>obtain⟨ao,c,h1,h2⟩:=h;exact⟨ao,c,by rw[h1],h2⟩
theorem DIs.same {w:World} {d:Option (List UInt8)} {v:Option Value} (h:DIs w d v):v.isSome=d.isSome:=by
 cases d with
 | none=>cases v with
  | none=>rfl
  | some _=>exact h.elim
 | some _=>cases v with
  | none=>exact h.elim
  | some _=>rfl
theorem DM.look {w:World} {mo:Option Nat} {g:List UInt8->Option (List UInt8)} {K:Nat} (h:DM w mo g K) (c:List UInt8) (hc:c.length<=1000000) :
 ∃ v,(Instr.lookup 100 (.map mo) (.string ⟨c.toArray⟩) true).run Tryz.prog w = .ok (.tuple #[v,.bool (g c).isSome]) w/\(Instr.lookup 100 (.map mo) (.string ⟨c.toArray⟩) false).run Tryz.prog w = .ok v w /\
  ∀ d,g c=some d -> ∃ ao cp,v = .slice ao d.length cp/\SlL w ao d/\(ao=none->cp=0)/\d.length<=cp/\d.length<=8192:=by
 cases mo with
 | none =>
  have h0:g c=none:=h c
  refine⟨.slice none 0 0,?_,?_,fun d hd=>by rw[h0] at hd;cases hd⟩
  ·rw[h0];exact Maps.look_nil true keyedS Tryz.underlying100 (Tryz.zeroValue37 w) (keyS c hc)
  ·exact Maps.look_nil false keyedS Tryz.underlying100 (Tryz.zeroValue37 w) (keyS c hc)
 | some m =>
  obtain⟨f,h1,h2⟩:=h
  have h3:=h1.look keyedS Tryz.underlying100 (Tryz.zeroValue37 w) (keyS c hc)
  have h4:=h1.get keyedS Tryz.underlying100 (Tryz.zeroValue37 w) (keyS c hc)
  refine⟨(f c).getD (.slice none 0 0),?_,h4,fun d hd=>?_⟩
  ·rw[<- (h2 c).same];exact h3
  ·have:=h2 c
   rw[hd] at this
   obtain⟨ao,cp,e,h5⟩:=this.some
   exact⟨ao,cp,by rw[e];rfl,h5⟩
theorem has_any (w:World) (ttl:Int) (mo:Option Nat) (g:List UInt8->Option (List UInt8)) (K:Nat) (h:DM w mo g K) (c:List UInt8) (ao:Option Addr) (len cap:Nat) (hl:Hid (c.length=len)) (hs:SlL w ao c) (hlen:len<=1000000) :
 Calls Tryz.prog 85 #[.agg #[.int .u32 ttl,.map mo],.slice ao len cap] w fun e w'=>e = .returned (.bool (g c).isSome)/\w'=w.alloc (.cells #[.int .u32 ttl,.map mo] 102):=by
 have hcv:(convert 37 9 (.slice ao len cap)).run Tryz.prog (w.alloc (.cells #[.int .u32 ttl,.map mo] 102)) = .ok (.string ⟨c.toArray⟩) (w.alloc (.cells #[.int .u32 ttl,.map mo] 102)):=run_str len cap (hs.alloc _) hl.out
 obtain⟨v,hk,_,_⟩:=(h.bel ((Below.refl _ w).alloc (Nat.le_refl _) (.cells #[.int .u32 ttl,.map mo] 102))).look c (by rw[hl.out];exact hlen)
 clear h hs
 go_enter Tryz.func85,Tryz.ntmps85
 go_wp2
 go_ret
 exact⟨rfl,rfl⟩
open Go.RowKit
def datas (g:List UInt8->Option (List UInt8)) (ks:List (List UInt8)):List (List UInt8):=ks.map fun c=>(g c).getD []
theorem datas_snoc (g:List UInt8->Option (List UInt8)) (ks:List (List UInt8)) (j:Nat) (hj:j<ks.length):datas g (ks.take (j+1))=datas g (ks.take j) ++ [(g (ks.getD j [])).getD []]:=by
 unfold datas
 rw[List.take_add_one,List.map_append]
 congr 1
 rw[List.getElem?_eq_getElem hj,List.getD_eq_getElem?_getD,List.getElem?_eq_getElem hj];rfl
set_option maxHeartbeats 1000000 in
theorem list_any (w:World) (ttl:Int) (m:Nat) (g:List UInt8->Option (List UInt8)) (K:Nat) (h:DM w (some m) g K) (hK:K<=1000000) (ks:List (List UInt8)) (ha:ks.Pairwise (· < ·)) (hm : ∀ c,c∈ks↔(g c).isSome) (hlen:ks.length<=1000000) (hcl : ∀ c∈ks,c.length<=1000000) :
 Calls Tryz.prog 60 #[.agg #[.int .u32 ttl,.map (some m)]] w fun e w' => ∃ v,e = .returned v/\OwnL 37 1 EB w' w.heap.size v (datas g ks)/\Below w.heap.size w w':=by
 obtain⟨n,hn⟩ : ∃ n,ks.length=n:=⟨_,rfl⟩
 obtain⟨w1,hw1⟩ : ∃ w1,w1=w.alloc (.cells #[.int .u32 ttl,.map (some m)] 102):=⟨_,rfl⟩
 have hb1:Below w.heap.size w w1:=by rw[hw1];exact (Below.refl _ w).alloc (Nat.le_refl _) _
 have hz1:w1.heap.size=w.heap.size+1:=by rw[hw1];simp
 have hr1:RowAt w1 w.heap.size 102 #[.int .u32 ttl,.map (some m)]:=by rw[hw1];exact RowAt.new w _ _
 have HD:=hide (h.bel hb1)
 have HM:=hide hm
 have HC:=hide hcl
 have HW:=hide hw1
 have HZ:=hide hz1
 have HR:=hide hr1
 have HB:=hide hb1
 obtain⟨f,hmf,hdf⟩:=HD.out
 have HF:=hide hmf
 have HG:=hide hdf
 have HN:=hide hn
 rw[hn] at hlen
 clear h hm hcl hw1 hz1 hr1 hb1 hmf hdf hn
 go_enter Tryz.func60,Tryz.ntmps60
 go_wp2_with (first
  | (go_at_call 99;rw[<- HW.out];refine (keysD_any (some m) w1).mono ?_;rintro e w2 ⟨rfl,hw2⟩;rw[hw2];clear hw2 w2)
  | (go_at_call 96;refine (sortedD_any w1 m K _ HF.out hK ks ha (fun x=>(by rw[HM.out x, <- (HG.out x).same];rfl))).mono ?_;rintro e w3 ⟨v3,rfl,hv3,hb3⟩;obtain⟨a3,c3,rfl,hs3,_,_⟩:=hv3.ty;rw[HN.out];clear hv3))
 have hb13:Below (w.heap.size+1) w1 w3:=by
  have e:=HZ.out
  rw[<- e]
  exact ((Below.refl _ w1).alloc (Nat.le_refl _) _).trans (hb3.mono (Nat.le_succ _))
 clear hb3
 go_loopw [3,11] (fun v i wr => ∃ j:Nat,i = .int .i64 (j:Int)/\j<=n/\OwnL 37 1 EB wr (w.heap.size+1) v (datas g (ks.take j))/\Below (w.heap.size+1) w1 wr/\TyS wr a3 ks) (fun _ i _=>n - (intOf i).toNat)
 case atStart=>exact⟨0,rfl,by omega,OwnL.nil _ _ _ _ _,hb13,hs3⟩
 case round =>
  obtain⟨j,rfl,hj,hO,hB,hT⟩:=hrel
  have hz:=hB.size
  have hzz:=HZ.out
  have hz0:w.heap.size+1<=wr.heap.size:=by omega
  by_cases hlt:j<n
  ·have hjk:j<ks.length:=by have:=HN.out;omega
   obtain⟨b1,o1,rfl,_,hc1⟩:=hT.1 (by omega)
   have hx:=hc1 j hjk
   have hd1:=datas_snoc g ks j hjk
   have hmem:ks.getD j []∈ks:=by rw[List.getD_eq_getElem?_getD,List.getElem?_eq_getElem hjk];exact List.getElem_mem hjk
   obtain⟨d,hd⟩:=Option.isSome_iff_exists.1 ((HM.out _).1 hmem)
   rw[hd,Option.getD_some] at hd1
   obtain⟨v0,_,hlk,hv0⟩:=(HD.out.bel (by rw[hzz];exact hB)).look (ks.getD j []) (HC.out _ hmem)
   obtain⟨ao,cp,rfl,hs0,hn0,_,hd8⟩:=hv0 d hd
   have hr:RowAt wr w.heap.size 102 #[.int .u32 ttl,.map (some m)]:=HR.out.below hB (by omega)
   have y1:wr.cell? ⟨w.heap.size,1,none⟩=some (.map (some m)):=hr.cell 1
   have hdl:(datas g (ks.take j)).length<=1000000:=by unfold datas;rw[List.length_map,List.length_take];omega
   generalize ks.getD j []=key at hx hlk
   have HO:=hide hO
   have HD1:=hide hd1
   have HB1:=hide hB
   clear hO hd1 hB hd hv0 hc1 hmem hr hzz
   go_wp2_with (first
    | (go_at_call 100;refine (bclone_any wr ao cp d (by omega) hs0 hn0).mono ?_;rintro e w4 ⟨v4,rfl,hO4,hB4⟩;obtain⟨a4,c4,rfl,hT4,hn4,hc4⟩:=hO4.ty;have hz4:=hB4.size;have HO4:=hide (HO.out.bel (fun _ _ h=>h.kb (KB.of_below hB4)) hB4))
    | (at_builtin;go_loud (refine wpList_appL rfl (.tmp 15) (.tmp 21) 52 rfl Tryz.underlying52 (.slice none 0 0) 24 (info_parts infoBs) rfl (by decide) (by decide) (by decide) (w.heap.size+1) _ _ rfl (HO4.out.bel (fun _ _ h=>h.kb (KB.alloc _ _)) ((Below.refl _ w4).alloc (Nat.le_refl _) _)) ⟨w4.heap.size,0,none⟩ 1 d [.slice a4 d.length c4] rfl (cell_one_new _ _ _) rfl (by simp[Value.oneCell']) ⟨a4,c4,rfl,hT4.kb (KB.alloc _ _),hn4,hc4⟩ (fun _ _ _ k h=>h.kb k) hdl (by simp;omega) ?_);intro v5 w5 hO5 hG5 hK5 hB5))
   go_roundw
   case rel =>
    refine⟨j+1,by go_num,by omega,by rw[HD1.out];exact hO5,?_,?_⟩
    ·exact HB1.out.trans ((hB4.mono hz0).trans (((Below.refl (w.heap.size+1) w4).alloc (by omega) _).trans hB5))
    ·exact hT.kb ((KB.of_below hB4).trans ((KB.alloc _ _).trans hK5))
   case measure=>simp[intOf];omega
  ·obtain rfl:j=n:=by omega
   go_wp2
   go_ret
   refine⟨_,rfl,?_,HB.out.trans (hB.mono (Nat.le_succ _))⟩
   have ht:ks.take j=ks:=by rw[<- HN.out];exact List.take_length
   rw[ht] at hO
   exact hO.low (Nat.le_succ _)
open Go.RowKit
structure Grew (w w':World) (ρ ρ':Nat->Role) (G G':List (List UInt8)->Option Nd):Prop where
 more:More w ρ ρ'
 mv:ZMv ρ w w'
 root:nodeN G' []=nodeN G []
theorem gput_some {G:List (List UInt8)->Option Nd} {p:List (List UInt8)} {x x':Nd} (hx:G p=some x) (q:List (List UInt8)):(gput G p (some x') q).isSome=(G q).isSome:=by
 by_cases e:q=p
 ·rw[e,gput_same,hx];rfl
 ·rw[gput_other G e]
theorem gput_nodeN {G:List (List UInt8)->Option Nd} {p:List (List UInt8)} {x x':Nd} (hx:G p=some x) (hn:x'.n=x.n) (q:List (List UInt8)):nodeN (gput G p (some x')) q=nodeN G q:=by
 by_cases e:q=p
 ·rw[e,nodeN_of (gput_same G p _),nodeN_of hx,hn]
 ·unfold nodeN;rw[gput_other G e]
theorem TreeAt.put {w w':World} {ρ : Nat->Role} {G:List (List UInt8)->Option Nd} {C:List (List UInt8)->Nat->Option Z.St} {K:Nat} (T:TreeAt w ρ G C K) {p:List (List UInt8)} {x:Nd} (hx:G p=some x) (t:Nat) (ht:t<65536) (ttl:Nat) (c d:List UInt8) (m:Nat)
 (hm:(∃ S,C p t=some S/\m=x.dm t)\/(C p t=none/\w.heap.size<=m)) (h0:Below 0 w w') (hoth : ∀ i,i<w.heap.size->i≠x.s->i≠m->w'.heap[i]?=w.heap[i]?)
 (hsets:MapU w' x.s (uput (fun s=>(C p s).map fun S=>setV S (x.dm s)) t (.agg #[.int .u32 (ttl:Int),.map (some m)])) (K+1))
 (hdat : ∃ h,MapS w' m h (K+1) /\ ∀ y,DIs w' (if y=c then some ((Z.got C p t c).getD d) else Z.got C p t y) (h y)) :
 ∃ ρ' x',TreeAt w' ρ' (gput G p (some x')) (Z.cput C p t ttl c d) (K+1)/\x'.n=x.n/\x'.s=x.s/\x'.b=x.b/\Grew w w' ρ ρ' G (gput G p (some x')):=by
 have hsz:=h0.size
 have rl : ∀ {i r}, ρ i=r->r ≠ .none->i<w.heap.size:=fun h h2=>(T.kind _ (by rw[h];exact h2)).lt
 have hmd : ∃ es k,w'.heap[m]?=some (.map es k):=by obtain⟨h,h1,_⟩:=hdat;exact h1.obj
 have hms : ∃ es k,w'.heap[x.s]?=some (.map es k):=hsets.obj
 have hmx:m≠x.s:=fun e=>by
  rcases hm with⟨S,hS,e2⟩ | ⟨_,h2⟩
  ·have h1:=T.rd p x t S hx hS
   rw[<- e2,e,T.rs p x hx] at h1;cases h1
  ·have:=rl (T.rs p x hx) (by simp);omega
 obtain⟨ρ',hρ⟩ : ∃ ρ':Nat->Role, ρ'=fun i=>if i=m then .data p t else ρ i:=⟨_,rfl⟩
 obtain⟨x',hx'⟩ : ∃ x':Nd,x' = { x with dm:=fun s=>if s=t then m else x.dm s } := ⟨_,rfl⟩
 have hold : ∀ i,i<w.heap.size -> ρ' i = ρ i:=fun i hi=>by
  rw[hρ]
  by_cases e:i=m
  ·rcases hm with⟨S,hS,e2⟩ | ⟨_,h2⟩
   ·show (if i=m then Role.data p t else ρ i) = ρ i
    rw[if_pos e,e,e2,T.rd p x t S hx hS]
   ·omega
  ·exact if_neg e
 have hC' : ∀ q s,¬ (q=p/\s=t)->Z.cput C p t ttl c d q s=C q s:=fun q s e=>by unfold Z.cput;rw[if_neg e]
 have hCt:Z.cput C p t ttl c d p t=some ⟨ttl,fun y=>if y=c then some ((Z.got C p t c).getD d) else Z.got C p t y⟩:=by unfold Z.cput;rw[if_pos ⟨rfl,rfl⟩]
 have hslL : ∀ ao l,SlL w ao l->SlL w' ao l:=fun ao l=>slL_keep hsz fun i hi hz=>by
  have h0 : ρ i = .none:=Classical.byContradiction fun h0=>hz (T.kind i h0)
  refine hoth i hi (fun e=>?_) (fun e=>?_)
  ·rw[e,T.rs p x hx] at h0;cases h0
  ·have:=hold i hi
   rw[h0,hρ,e] at this;simp at this
 refine⟨ρ',x',?_,by rw[hx'],by rw[hx'],by rw[hx'],⟨fun i hi=>hold i hi,⟨h0.os,h0.tape,h0.output,hsz,fun i hi h0=>?_⟩,gput_nodeN hx (by rw[hx']) _⟩⟩
 ·refine T.turn hx (by rw[hx']) (by rw[hx']) (by rw[hx']) (fun q s hq=>hC' q s fun e=>hq e.1) (Nat.le_succ _) (fun i hi=>hold i hi) hsz (fun i hi h1 h2=>?_) ?_ ?_ ?_
  ·refine hoth i hi (fun e=>h1 (by rw[e];exact T.rs p x hx)) (fun e=>?_)
   have:=hold i hi
   rw[hρ,e] at this
   exact h2 t (by rw[e, <- this];simp)
  ·refine MapU.ext hsets fun s hs=>?_
   by_cases e:s=t
   ·subst e
    rw[hCt,hx'];simp[uput,setV]
   ·rw[hC' p s (fun e2=>e e2.2),hx'];simp[uput,e]
  ·intro s S hS
   by_cases e:s=t
   ·subst e
    rw[hCt] at hS;injection hS with hS;subst hS
    have e1:x'.dm s=m:=by rw[hx'];simp
    rw[e1]
    exact⟨ht,by rw[hρ];simp,hdat⟩
   ·rw[hC' p s (fun e2=>e e2.2)] at hS
    have e1:x'.dm s=x.dm s:=by rw[hx'];simp[e]
    rw[e1]
    have h1:=T.rd p x s S hx hS
    have h2:=rl h1 (by simp)
    have h3:x.dm s≠m:=fun e2=>by
     have:=hold _ h2
     rw[h1,hρ,e2] at this
     simp at this
     exact e this.symm
    obtain⟨h,h4,h5⟩:=(T.node p x hx).data s S hS
    refine⟨(T.cov p s S hS).2,by rw[hold _ h2,h1],h,(h4.heap (hoth _ h2 (fun e2=>?_) h3)).mono (Nat.le_succ _),fun y=>(h5 y).keep hslL⟩
    rw[e2,T.rs p x hx] at h1;cases h1
  ·intro i hi
   by_cases e:i=m
   ·rw[e];obtain⟨es,k,h⟩:=hmd;exact Or.inl ⟨es,k,h⟩
   ·by_cases e2:i=x.s
    ·rw[e2];obtain⟨es,k,h⟩:=hms;exact Or.inl ⟨es,k,h⟩
    ·have e3 : ρ' i = ρ i:=by rw[hρ];exact if_neg e
     rw[e3] at hi
     exact (T.kind i hi).heap (hoth i (T.kind i hi).lt e2 e)
 ·refine hoth i hi (fun e=>?_) (fun e=>?_)
  ·rw[e,T.rs p x hx] at h0;cases h0
  ·have:=hold i hi
   rw[h0,hρ,e] at this;simp at this
open Go.RowKit
def recV (na:Option Addr) (nl nc t cl ttl:Nat) (da:Option Addr) (dl dc:Nat):Value := .agg #[.slice na nl nc,.int .u16 (t:Int),.int .u16 (cl:Int),.int .u32 (ttl:Int),.slice da dl dc]
theorem MapAt.drew {k:TypeId} {w:World} {b K:Nat} {f:Lit->Option Value} (h:MapAt k w b f K):MapAt k w.drew b f K:=h.heap rfl
theorem NodeIs.lookup {w:World} {G:List (List UInt8)->Option Nd} {C:List (List UInt8)->Nat->Option Z.St} {K:Nat} {p:List (List UInt8)} {x:Nd} (h:NodeIs w G C K p x) (t:Nat) (ht:t<65536) (w':World) (hw:w'.heap[x.s]?=w.heap[x.s]?) :
 (Instr.lookup 104 (.map (some x.s)) (.int .u16 (t:Int)) true).run Tryz.prog w' = .ok (.tuple #[((C p t).map fun S=>setV S (x.dm t)).getD (.agg #[.int .u32 0,.map none]),.bool (C p t).isSome]) w' /\
 (Instr.lookup 104 (.map (some x.s)) (.int .u16 (t:Int)) false).run Tryz.prog w' = .ok (((C p t).map fun S=>setV S (x.dm t)).getD (.agg #[.int .u32 0,.map none])) w':=by
 have h0:MapU w' x.s (fun t=>(C p t).map fun S=>setV S (x.dm t)) K:=h.sets.heap hw
 have h1:=h0.look keyedH Tryz.underlying104 (Tryz.zeroValue102 w') (keyH t ht)
 have h2:=h0.get keyedH Tryz.underlying104 (Tryz.zeroValue102 w') (keyH t ht)
 rw[fU_at _ t ht] at h1 h2
 refine⟨?_,h2⟩
 rw[h1];simp
theorem slL_map {b:Nat} {w w':World} (h:Turn b w w') {ao:Option Addr} {l:List UInt8} (hs:SlL w ao l):SlL w' ao l:=fun hn=>by
 obtain⟨g,o,e,hlt,hc⟩:=hs hn
 obtain⟨es,k,hb⟩:=h.was
 have hne:g≠b:=fun e2=>by
  have:=hc 0 hn
  rw[e2] at this
  simp[World.cell?,hb] at this
 refine⟨g,o,e,by rw[h.size];exact hlt,fun j hj=>?_⟩
 rw[<- hc j hj];exact World.cell?_of_block (h.block g hne)
set_option maxHeartbeats 1500000 in
theorem nput_new (w:World) {ρ : Nat->Role} {G:List (List UInt8)->Option Nd} {C:List (List UInt8)->Nat->Option Z.St} {K:Nat} (T:TreeAt w ρ G C K) (hK:K+1<=1000000) {p:List (List UInt8)} {x:Nd} (hx:G p=some x) (t:Nat) (ht:t<65536) (ttl cl:Nat) (c d:List UInt8) (na:Option Addr) (nl nc:Nat) (da:Option Addr) (dc:Nat) (ca:Option Addr) (cc:Nat)
 (hsd:SlL w da d) (hnd:da=none->dc=0) (hd8:d.length<=8192) (hsc:SlL w ca c) (hc8:c.length<=1000000) (hno:C p t=none) :
 Calls Tryz.prog 87 #[.pointer (some ⟨x.n,0,none⟩),recV na nl nc t cl ttl da d.length dc,.slice ca c.length cc] w fun e w'=>e = .returned (.tuple #[]) /\ ∃ ρ' x',TreeAt w' ρ' (gput G p (some x')) (Z.cput C p t ttl c d) (K+1)/\x'.n=x.n/\x'.s=x.s/\x'.b=x.b/\Grew w w' ρ ρ' G (gput G p (some x')):=by
 obtain⟨w1,hw1⟩ : ∃ w1,w1=w.alloc (.cells #[.slice na nl nc,.int .u16 (t:Int),.int .u16 (cl:Int),.int .u32 (ttl:Int),.slice da d.length dc] 39):=⟨_,rfl⟩
 have N:=T.node p x hx
 have hb1:Below w.heap.size w w1:=by rw[hw1];exact (Below.refl _ w).alloc (Nat.le_refl _) _
 have hr1:RowAt w1 w.heap.size 39 #[.slice na nl nc,.int .u16 (t:Int),.int .u16 (cl:Int),.int .u32 (ttl:Int),.slice da d.length dc]:=by rw[hw1];exact RowAt.new w _ _
 have N1:=(T.below_ hb1).node p x hx
 have hlk:=(N1.lookup t ht w1.drew rfl).1
 rw[hno] at hlk
 have x0:w1.cell? ⟨x.n,0,none⟩=some (.map (some x.s)):=N1.row.cell 0
 have y1:w1.cell? ⟨w.heap.size,1,none⟩=some (.int .u16 (t:Int)):=hr1.cell 1
 have hb2:Below w1.heap.size w1 (w1.alloc (.cells #[.int .u32 0,.map none] 102)):=(Below.refl _ w1).alloc (Nat.le_refl _) _
 have N2:=((T.below_ hb1).below_ hb2).node p x hx
 have hlk2:=(N2.lookup t ht (w1.alloc (.cells #[.int .u32 0,.map none] 102)).drew rfl).1
 rw[hno] at hlk2
 have x2:(w1.alloc (.cells #[.int .u32 0,.map none] 102)).cell? ⟨x.n,0,none⟩=some (.map (some x.s)):=N2.row.cell 0
 have y2:(w1.alloc (.cells #[.int .u32 0,.map none] 102)).cell? ⟨w.heap.size,1,none⟩=some (.int .u16 (t:Int)):=(hr1.below hb2 hr1.lt).cell 1
 clear hb2 N2
 have HB1:=hide hb1
 have HW:=hide hw1
 have HN:=hide N1
 have HR:=hide hr1
 have HT:=hide T
 clear hw1 N N1 hr1 T
 unfold recV
 go_enter Tryz.func87,Tryz.ntmps87
 go_wp2
 rw[<- HW.out]
 have hmm := @run_makeMap Tryz.prog
 obtain⟨w3,hw3⟩ : ∃ w3,w3=((w1.alloc (.cells #[.int .u32 0,.map (some (w1.heap.size+1))] 102)).alloc (.map #[] 0)).drew:=⟨_,rfl⟩
 have hb13:Below w1.heap.size w1 w3:=by
  rw[hw3]
  exact below_drewN (((Below.refl _ w1).alloc (Nat.le_refl _) _).alloc (by simp) _) 1
 have hr3:RowAt w3 w1.heap.size 102 #[.int .u32 0,.map (some (w1.heap.size+1))]:=by
  rw[hw3]
  have:=(RowAt.new w1 102 #[.int .u32 0,.map (some (w1.heap.size+1))]).alloc (.map #[] 0)
  exact this
 have hm3:MapS w3 (w1.heap.size+1) (fun _=>none) K:=by
  rw[hw3]
  have:=MapS.made (w1.alloc (.cells #[.int .u32 0,.map (some (w1.heap.size+1))] 102)) K
  rw[World.size_alloc] at this
  exact this.heap rfl
 have hz3:w3.heap.size=w1.heap.size+2:=by rw[hw3];simp
 have hs3:SlL w3 ca c:=(hsc.below hb1 (Nat.le_refl _)).below hb13 (Nat.le_refl _)
 obtain⟨w4,hw4⟩ : ∃ w4,w4=w3.alloc (.cells #[.int .u32 0,.map (some (w1.heap.size+1))] 102):=⟨_,rfl⟩
 have hb34:Below w3.heap.size w3 w4:=by rw[hw4];exact (Below.refl _ w3).alloc (Nat.le_refl _) _
 have hb34:Below w3.heap.size w3 w4.drew:=below_drewN hb34 1
 have hb14:Below w1.heap.size w1 w4.drew:=hb13.trans (hb34.mono hb13.size)
 have hr4:RowAt w4.drew w1.heap.size 102 #[.int .u32 0,.map (some (w1.heap.size+1))]:=hr3.below hb34 hr3.lt
 have hR4:RowAt w4.drew w.heap.size 39 #[.slice na nl nc,.int .u16 (t:Int),.int .u16 (cl:Int),.int .u32 (ttl:Int),.slice da d.length dc]:=HR.out.below hb14 HR.out.lt
 have hcv4:(convert 37 9 (.slice ca c.length cc)).run Tryz.prog w4.drew = .ok (.string ⟨c.toArray⟩) w4.drew:=run_str c.length cc (hs3.below hb34 (Nat.le_refl _)) rfl
 have hs4:SlL w4.drew da d:=(((hsd.below hb1 (Nat.le_refl _)).below hb13 (Nat.le_refl _)).below hb34 (Nat.le_refl _))
 have hm4:MapS w4.drew (w1.heap.size+1) (fun _=>none) K:=hm3.heap (hb34.block _ (by omega))
 have z1:w4.drew.cell? ⟨w1.heap.size,1,none⟩=some (.map (some (w1.heap.size+1))):=hr4.cell 1
 have z4:w4.drew.cell? ⟨w.heap.size,4,none⟩=some (.slice da d.length dc):=hR4.cell 4
 have HW3:=hide hw3
 have HW4:=hide hw4
 have Hb14:=hide hb14
 have Hr4:=hide hr4
 have HR4:=hide hR4
 have Hm4:=hide hm4
 have Hm3:=hide hm3
 have Hs3:=hide hs3
 have Hscc:=hide (hs3.below hb34 (Nat.le_refl _))
 clear hw3 hw4 hb13 hr3 hm3 hz3 hs3 hb34 hb14 hr4 hR4 hm4
 go_region
 all_goals
  go_wp2_with (go_at_call 85;rw[<- HW3.out];refine (has_any w3 0 (some (w1.heap.size+1)) (fun _=>none) K ⟨_,Hm3.out,fun _=>trivial⟩ c ca c.length cc rfl Hs3.out hc8).mono ?_;rintro e wq ⟨he,hwq⟩;have he:e = .returned (.bool false):=he;rw[he,hwq, <- HW4.out];clear he hwq wq)
  go_region_held3 (fun w'=>w'.cell? ⟨w1.heap.size,1,none⟩=some (.map (some (w1.heap.size+1)))/\w'.cell? ⟨w.heap.size,4,none⟩=some (.slice da d.length dc)/\(convert 37 9 (.slice ca c.length cc)).run Tryz.prog w' = .ok (.string ⟨c.toArray⟩) w') (first | exact⟨z1,z4,hcv4⟩ | exact⟨z51,z54,hcv5⟩ | exact⟨z61,z64,hcv6⟩) ((go_at_call 100;refine (bclone_any _ da dc d (by omega) (by exact hs4) hnd).mono ?_;rintro e w5 ⟨v5,rfl,hO5,hB5⟩;obtain⟨a5,c5,rfl,hT5,hn5,hc5⟩:=hO5.ty;have hr5:=Hr4.out.below hB5 Hr4.out.lt;have hR5:=HR4.out.below hB5 HR4.out.lt;have z51:w5.cell? ⟨w1.heap.size,1,none⟩=some (.map (some (w1.heap.size+1))):=hr5.cell 1;have z54:w5.cell? ⟨w.heap.size,4,none⟩=some (.slice da d.length dc):=hR5.cell 4;have hcv5:(convert 37 9 (.slice ca c.length cc)).run Tryz.prog w5 = .ok (.string ⟨c.toArray⟩) w5:=run_str c.length cc (Hscc.out.below hB5 (Nat.le_refl _)) rfl;have hm5:MapS w5 (w1.heap.size+1) (fun _=>none) K:=Hm4.out.heap (hB5.block _ Hm4.out.lt);obtain⟨w6,hrun,hM6,ht6⟩:=MapAt.update hm5 keyedS Tryz.underlying100 (by omega) (keyS c hc8) (.slice a5 d.length c5);have hr6:RowAt w6 w1.heap.size 102 #[.int .u32 0,.map (some (w1.heap.size+1))]:=(ht6.block _ (fun e=>by omega)).trans hr5;have hR6:RowAt w6 w.heap.size 39 #[.slice na nl nc,.int .u16 (t:Int),.int .u16 (cl:Int),.int .u32 (ttl:Int),.slice da d.length dc]:=(ht6.block _ (fun e=>by have:=HR.out.lt;omega)).trans hR5;have z61:w6.cell? ⟨w1.heap.size,1,none⟩=some (.map (some (w1.heap.size+1))):=hr6.cell 1;have z64:w6.cell? ⟨w.heap.size,4,none⟩=some (.slice da d.length dc):=hR6.cell 4;have hcv6:(convert 37 9 (.slice ca c.length cc)).run Tryz.prog w6 = .ok (.string ⟨c.toArray⟩) w6:=run_str c.length cc (slL_map ht6 (Hscc.out.below hB5 (Nat.le_refl _))) rfl))
  have z60:w6.cell? ⟨w1.heap.size,0,none⟩=some (.int .u32 0):=hr6.cell 0
  have f60:w6.frozen? ⟨w1.heap.size,0,none⟩=false:=hr6.frozen 0
  have z63:w6.cell? ⟨w.heap.size,3,none⟩=some (.int .u32 (ttl:Int)):=hR6.cell 3
  have Hr6:=hide hr6
  have HR6:=hide hR6
  have HM6:=hide hM6
  have Ht6:=hide ht6
  have HB5:=hide hB5
  have HT5:=hide hT5
  clear hr6 hR6 hM6 ht6 hB5 hT5 hr5 hR5 hm5 hO5
  go_wp2
  obtain⟨w7,hw7⟩ : ∃ w7,w7=w6.setCell ⟨w1.heap.size,0,none⟩ (.int .u32 (ttl:Int)):=⟨_,rfl⟩
  have hb17:Below w1.heap.size w1 w7:=by
   rw[hw7]
   refine (Hb14.out.trans ((HB5.out.mono Hb14.out.size).trans ⟨Ht6.out.os,Ht6.out.tape,Ht6.out.output,Nat.le_of_eq Ht6.out.size.symm,fun i hi=>Ht6.out.block i (by omega)⟩)).setCell (p:=⟨w1.heap.size,0,none⟩) (Nat.le_refl _) _
  have T7:=(HT.out.below_ HB1.out).below_ hb17
  have N7:=T7.node p x hx
  have hr7:RowAt w7 w1.heap.size 102 #[.int .u32 (ttl:Int),.map (some (w1.heap.size+1))]:=by rw[hw7];exact Hr6.out.set 0 _
  have hR7:RowAt w7 w.heap.size 39 #[.slice na nl nc,.int .u16 (t:Int),.int .u16 (cl:Int),.int .u32 (ttl:Int),.slice da d.length dc]:=HR.out.below hb17 HR.out.lt
  have v0:w7.cell? ⟨x.n,0,none⟩=some (.map (some x.s)):=N7.row.cell 0
  have v1:w7.cell? ⟨w.heap.size,1,none⟩=some (.int .u16 (t:Int)):=hR7.cell 1
  have v2:w7.cell? ⟨w1.heap.size,0,none⟩=some (.int .u32 (ttl:Int)):=hr7.cell 0
  have v3:w7.cell? ⟨w1.heap.size,1,none⟩=some (.map (some (w1.heap.size+1))):=hr7.cell 1
  obtain⟨w8,hrun8,hM8,ht8⟩:=MapAt.update N7.sets.drew keyedH Tryz.underlying104 (by omega) (keyH t ht) (.agg #[.int .u32 (ttl:Int),.map (some (w1.heap.size+1))])
  have HM8:=hide hM8
  have HT8:=hide ht8
  have Hb17:=hide hb17
  have HW7:=hide hw7
  rw[<- hw7]
  clear hM8 ht8 hb17 hw7 T7 N7 hr7 hR7
  go_region
  all_goals go_end0
  all_goals refine⟨rfl,?_⟩
  all_goals
   have h17:=Hb17.out
   have h8:=HT8.out
   have hz1:=HB1.out.size
   have hz17:=h17.size
   have hlt1:=HR.out.lt
   have hz8:w8.heap.size=w7.heap.size:=h8.size
   have hxs:x.s<w.heap.size:=(HT.out.kind x.s (by rw[HT.out.rs p x hx];simp)).lt
   have hm6:MapS w6 (w1.heap.size+1) (sput (fun _=>none) c (.slice a5 d.length c5)) (K+1):=HM6.out.congr fun k=>fput_S _ _ _ k
   have e86:w8.heap[w1.heap.size+1]?=w6.heap[w1.heap.size+1]?:=by
    rw[h8.block _ (by omega)]
    show w7.heap[w1.heap.size+1]?=_
    rw[HW7.out];exact (grownBy_setCell' w6 w1.heap.size _).block _ (by have:=hm6.lt;exact this) (by simp)
   have hT8:TyL w8 a5 d:=(HT5.out.kb (KB.turn Ht6.out)).kb ⟨by rw[hz8,HW7.out];simp,fun g cs et fr hg he=>by
    have hg1:g≠w1.heap.size:=fun e=>by
     have:=Hr6.out
     unfold RowAt at this
     rw[e,this] at hg;injection hg with hg;injection hg with _ hg _
     rcases he with rfl | rfl
     ·exact absurd hg (by decide)
     ·exact absurd hg (by decide)
    have hg2:w7.heap[g]?=some (Obj.cells cs et fr):=by
     rw[HW7.out,(grownBy_setCell' w6 w1.heap.size _).block g (Array.getElem?_eq_some_iff.1 hg).1 (by simp;omega)];exact hg
    refine (h8.block g (fun e=>?_)).trans hg2
    obtain⟨es,k,hb⟩:=h8.was
    have hb:w7.heap[x.s]?=some (.map es k):=hb
    rw[e,hb] at hg2;cases hg2⟩
   have hgot : ∀ y,Z.got C p t y=none:=fun y=>by unfold Z.got;rw[hno];rfl
   refine HT.out.put hx t ht ttl c d (w1.heap.size+1) (Or.inr ⟨hno,by omega⟩) ⟨h8.os.trans (h17.os.trans HB1.out.os),h8.tape.trans (h17.tape.trans HB1.out.tape),h8.output.trans (h17.output.trans HB1.out.output),by rw[hz8];omega,fun i hi=>by omega⟩ (fun i hi h1 h2=>?_) ?_ ?_
   ·rw[h8.block i h1]
    exact (h17.block i (by omega)).trans (HB1.out.block i hi)
   ·exact HM8.out.congr fun k=>fput_U _ t ht _ k
   ·refine⟨_,hm6.heap e86,fun y=>?_⟩
    by_cases e:y=c
    ·rw[if_pos e,hgot]
     have e9:sput (fun _=>none) c (.slice a5 d.length c5) y=some (.slice a5 d.length c5):=by simp[sput,e]
     rw[e9]
     exact⟨a5,c5,rfl,hT8.1,hn5,hc5,hd8⟩
    ·rw[if_neg e,hgot]
     simp[sput,e,DIs]
end Go.Proofs.YtmbcegljmhcdeaaGreat
