/- Data of records, plain (a text of stage 5, at this seat). -/
import Derived.Test.YtmbcegljmhcdeaaGreatLrg
import Derived.Test.YtmbcegljmhcdeaaGreatZrc
import Derived.Test.YtmbcegljmhcdeaaGreatChecked
import Init
namespace Go.Proofs.YtmbcegljmhcdeaaGreat
set_option maxRecDepth 5000
open Go.RowKit Go.Shelf
attribute [local go_sem] Oper.semAt_some
set_option maxRecDepth 100000 in
set_option maxHeartbeats 2000000 in
theorem back1_two (l b1 C L:Nat) (ao:Option Addr) (n:List (List UInt8)) (hL:Hid (n.length=L)) (hL2:L<=1000000) (J:List Nat->World->Prop) (Jd:List PanicEntry->World->Prop)
 (hY : ∀ pre x W,J pre W->pre.length<L->YieldAt Fence.wide 4 Tryz.prog l (bwv n x) W fun e W' =>
  (e = .returned (.bool true)/\J (pre ++ [x]) W'/\KpA b1 ao W W')\/(∃ ch,e = .panicked ch/\Jd ch W'))
 (W:World) (hb1:RowAt W b1 28 #[.slice ao L C]) (hs:SlS W ao n) (h0:J [] W) :
 CallsIn Fence.wide 5 Tryz.prog 131 #[.func (.yield l) #[] #[],.pointer (some ⟨b1,0,none⟩)] W fun e W'=>((∃ v,e = .returned v)/\J (List.range L) W')\/(∃ ch,e = .panicked ch/\Jd ch W'):=by
 refine callsIn_of_wp Tryz.func131 rfl trivial ?_ rfl
 simp only[Tryz.ntmps131,List.size_toArray,List.length_cons,List.length_nil,Nat.reduceAdd,Nat.reduceSub,Array.replicate_succ,Array.replicate_zero,List.push_toArray,List.append_toArray,List.nil_append,List.cons_append]
 have x1:W.cell? ⟨b1,0,none⟩=some (.slice ao L C):=hb1.cell 0
 have hw0:IntKind.i64.wrap ((L:Int) - 1)=(L:Int) - 1:=by rw[IntKind.wrap_i64];omega
 have HS:=hide hs
 have HB:=hide hb1
 clear hs hb1
 gi_wp2
 clear x1
 gi_loopw [3] (fun i wr => ∃ k:Nat,k<=L/\i = .int .i64 ((L:Int) - 1 - (k:Int))/\J (List.range k) wr/\RowAt wr b1 28 #[.slice ao L C]/\SlS wr ao n)
  (fun i _=>(intOf i+1).toNat)
 case atStart=>exact⟨0,by omega,by simp,by simpa using h0,HB.out,HS.out⟩
 case round =>
  obtain⟨k,hk,rfl,hJs,hr1,hs1⟩:=hrel
  have x1:wr.cell? ⟨b1,0,none⟩=some (.slice ao L C):=hr1.cell 0
  by_cases hlt:k<L
  ·have hge:(0:Int)<=(L:Int) - 1 - (k:Int):=by omega
   obtain⟨g,o,rfl,hg,hc⟩:=hs1 (by have:=hL.out;omega)
   obtain⟨i,hi⟩ : ∃ i,i=L - 1 - k:=⟨_,rfl⟩
   have hie:(L:Int) - 1 - (k:Int)=(i:Int):=by omega
   have x2:wr.cell? ⟨g,o+i,none⟩=some (.string ⟨(lab n k).toArray⟩):=by
    have:=hc i (by have:=hL.out;omega)
    rw[this];unfold lab;rw[hL.out, <- hi]
   have hin:(i:Int)<(L:Int):=by omega
   have hw1:IntKind.i64.wrap ((i:Int) - 1)=(L:Int) - 1 - ((k+1:Nat):Int):=by rw[IntKind.wrap_i64];omega
   obtain⟨fn,tmps,assign,body,hy,hR⟩:=hY (List.range k) k wr hJs (by rw[List.length_range];exact hlt)
   unfold bwv at hy
   rw[hL.out,hie] at hy
   rw[hie] at hge ⊢
   have HR:=hide hR
   have H1:=hide hr1
   have H2:=hide hs1
   have HI:=hide hi
   have HC:=hide hc
   clear hR hr1 hs1 hi hie hc
   gi_wp2
   refine HR.out.mono ?_
   rintro e W3 (⟨rfl,hJ3,hk3⟩ | ⟨ch,rfl,hJx3⟩)
   ·have hr13:RowAt W3 b1 28 #[.slice (some ⟨g,o,none⟩) L C]:=hk3.box.trans H1.out
    have hs13:SlS W3 (some ⟨g,o,none⟩) n:=hk3.sl H2.out
    gi_wp2
    (try rw[hw1])
    go_roundw
    case rel=>exact⟨k+1,by omega,rfl,by rw[List.range_succ];exact hJ3,hr13,hs13⟩
    case measure=>simp[intOf];have:=HI.out;omega
   ·gi_wp2
    exact⟨rfl,Or.inr ⟨ch,rfl,hJx3⟩⟩
  ·have hge : ¬ (0:Int)<=(L:Int) - 1 - (k:Int):=by omega
   have hkL:k=L:=by omega
   have HK:=hide hkL
   clear hkL
   gi_wp2
   go_end0
   exact Or.inl ⟨⟨_,rfl⟩,by rw[<- HK.out];exact hJs⟩
theorem TreeAt.box {w:World} {ρ : Nat->Role} {G:List (List UInt8)->Option Nd} {C:List (List UInt8)->Nat->Option Z.St} {K b n:Nat} (T:TreeAt w ρ G C K) (hb:Boxed w b 91 (.pointer (some ⟨n,0,none⟩))) (u:Value):TreeAt (w.setCell ⟨b,0,none⟩ u) ρ G C K:=by
 have hb':w.heap[b]?=some (Obj.cells #[.pointer (some ⟨n,0,none⟩)] 91):=hb
 have g:=grownBy_setCell' w b u
 have hne : ∀ i, ρ i ≠ .none->i≠b:=fun i hi e=>by
  rcases T.kind i hi with⟨es,k,h⟩ | ⟨x,y,h⟩
  ·rw[e,hb'] at h;cases h
  ·rw[e,hb'] at h;injection h with h;injection h with _ h _;exact absurd h (by decide)
 refine T.keep (fun i hi=>g.block i (T.kind i hi).lt (by simpa using hne i hi)) fun ao l hs hn=>?_
 obtain⟨k,o,e,hlt,hc⟩:=hs hn
 have hk:k≠b:=fun e2=>by
  have:=hc 0 hn
  rw[e2,cell_of_row _ _ _ _ _ _ hb'] at this
  cases o with
  | zero=>simp at this
  | succ o=>simp at this
 refine⟨k,o,e,Nat.lt_of_lt_of_le hlt g.size,fun j hj=>?_⟩
 rw[<- hc j hj];exact World.cell?_of_block (g.block k hlt (by simpa using hk))
structure GrI (w:World) (ρ : Nat->Role) (G:List (List UInt8)->Option Nd) (C:List (List UInt8)->Nat->Option Z.St) (K:Nat) (m:List (List UInt8)) (pre:List Nat) (W:World) (ρ':Nat->Role) (G':List (List UInt8)->Option Nd):Prop where
 tree:TreeAt W ρ' G' C (K+pre.length)
 grew:Grew w W ρ ρ' G G'
 at_:Boxed W w.heap.size 91 (ptr (nodeN G' (pre.map (lab m))))
 ex:(G' (pre.map (lab m))).isSome
 all : ∀ q,(G' q).isSome↔(G q).isSome\/q <+: pre.map (lab m)
theorem row_lp {A B:World} {row:Option Nat} {M g:Nat} {t:TypeId} {c:Array Value} (h:RowAt A g t c) (hg:A.grownBy B row) (hr : ∀ r,row=some r->M<=r /\ ∃ o:Obj,A.heap[r]?=some o/\o.isCells=false/\o.isWalk=false):RowAt B g t c :=
 row_own h hg fun r e=>by obtain⟨h1,o,h2,h3,_⟩:=hr r e;exact⟨h1,o,h2,h3⟩
theorem GrI.own {w:World} {ρ : Nat->Role} {G:List (List UInt8)->Option Nd} {C:List (List UInt8)->Nat->Option Z.St} {K:Nat} {m:List (List UInt8)} {M:Nat} {ρ':Nat->Role} {G':List (List UInt8)->Option Nd} (hM:w.heap.size<=M):OwnLp M (fun pre W=>GrI w ρ G C K m pre W ρ' G'):=by
 intro pre A B row h hg hr
 have hz : ∀ (i:Nat) (o:Obj),A.heap[i]?=some o->(o.isCells=true\/o.isWalk=true)->B.heap[i]?=A.heap[i]?:=fun i o ho hc=>hg.block i (Array.getElem?_eq_some_iff.1 ho).1 fun e=>by
  obtain⟨_,o2,h1,h2,h3⟩:=hr i e.symm
  rw[ho] at h1;injection h1 with h1;subst h1
  rcases hc with hc | hc
  ·rw[hc] at h2;cases h2
  ·rw[hc] at h3;cases h3
 refine⟨h.tree.keep (fun i hi=>?_) fun ao l hs hn=>?_,⟨h.grew.more,⟨hg.os.trans h.grew.mv.os,hg.tape.trans h.grew.mv.tape,hg.output.trans h.grew.mv.output,Nat.le_trans h.grew.mv.size hg.size,fun i hi h0=>?_⟩,h.grew.root⟩,row_lp h.at_ hg hr,h.ex,h.all⟩
 ·rcases h.tree.kind i hi with⟨es,k,hb⟩ | ⟨x,y,hb⟩
  ·exact hz i _ hb (Or.inr rfl)
  ·exact hz i _ hb (Or.inl rfl)
 ·obtain⟨k,o,e,hlt,hc⟩:=hs hn
  have h0:=hc 0 hn
  have hcell : ∃ ob,A.heap[k]?=some ob/\(ob.isCells=true\/ob.isWalk=true):=by
   have h1:A.heap[k]?=some A.heap[k]:=Array.getElem?_eq_getElem hlt
   refine⟨_,h1,Or.inl ?_⟩
   cases ho:A.heap[k] with
   | cells c t f=>rfl
   | _=>rw[ho] at h1;simp[World.cell?,h1] at h0
  obtain⟨ob,h1,h2⟩:=hcell
  refine⟨k,o,e,Nat.lt_of_lt_of_le hlt hg.size,fun j hj=>?_⟩
  rw[<- hc j hj];exact World.cell?_of_block (hz k ob h1 h2)
 ·refine (hg.block i (Nat.lt_of_lt_of_le hi h.grew.mv.size) fun e=>?_).trans (h.grew.mv.block i hi h0)
  have:=(hr i e.symm).1;omega
theorem KpA.ownL {b1:Nat} {ao:Option Addr} {w5:World} {M:Nat} (h1 : ∃ (c:Array Value) (t:TypeId) (f:Nat × Nat),w5.heap[b1]?=some (Obj.cells c t f)) (h2 : ∀ a,ao=some a -> ∃ (c:Array Value) (t:TypeId) (f:Nat × Nat),w5.heap[a.block]?=some (Obj.cells c t f)):OwnLp M (fun (_:List Nat) W=>KpA b1 ao w5 W) :=
 fun s A B row hI hg hr=>KpA.own (M:=M) h1 h2 s A B row hI hg fun r e=>by obtain⟨h3,o,h4,h5,_⟩:=hr r e;exact⟨h3,o,h4,h5⟩
set_option maxRecDepth 100000 in
set_option maxHeartbeats 4000000 in
theorem grow_any (w:World) (Zb:Nat) (av:Value) (cnt:Int) (ρ : Nat->Role) (G:List (List UInt8)->Option Nd) (C:List (List UInt8)->Nat->Option Z.St) (K:Nat) (T:TreeAt w ρ G C K) (hz:RowAt w Zb 94 #[av,ptr (nodeN G []),.int .i64 cnt]) (n:List (List UInt8)) (ao:Option Addr) (len cap:Nat) (hl:Hid (n.length=len)) (hs:SlS w ao n) (hm:Hid (N.Small n)) (hK:K+len+1<=1000000) :
 Calls Tryz.prog 86 #[.pointer (some ⟨Zb,0,none⟩),.slice ao len cap] w fun e w' => ∃ v,e = .returned v /\ ∃ ρ' G' x,v = .pointer (some ⟨x.n,0,none⟩)/\G' (path n)=some x/\TreeAt w' ρ' G' C (K+len)/\Grew w w' ρ ρ' G G' /\ ∀ q,(G' q).isSome↔(G q).isSome\/q <+: path n:=by
 have hmx:Tryz.prog.follows .mixedOrders=true:=by kernel_rfl
 have z1:w.cell? ⟨Zb,1,none⟩=some (ptr (nodeN G [])):=hz.cell 1
 have HS:=hide hs
 have HT:=hide T
 clear hs T hz
 unfold ptr at z1
 refine (callsIn_wide (n:=6)).1 ?_
 refine calls_of_wpF Tryz.func86 rfl ?_
 simp only[Tryz.ntmps86,List.size_toArray,List.length_cons,List.length_nil,Nat.reduceAdd,Nat.reduceSub,Array.replicate_succ,Array.replicate_zero,List.push_toArray,List.append_toArray,List.nil_append,List.cons_append]
 obtain⟨w3,hw3⟩ : ∃ w3,w3=w.alloc (.cells #[.pointer (some ⟨nodeN G [],0,none⟩)] 91):=⟨_,rfl⟩
 have F3:Hid (Boxed w3 w.heap.size 91 (ptr (nodeN G []))/\Below w.heap.size w w3/\w3.heap.size=w.heap.size+1):=by
  rw[hw3]
  exact⟨Boxed.new w _ _,(Below.refl _ w).alloc (Nat.le_refl _) _,by simp⟩
 have S3:=hide (HS.out.below F3.out.2.1 (Nat.le_refl _))
 have HW3:=hide hw3
 clear hw3
 refine wpF_seq (n:=6) ?_
 gi_wp2
 refine wpF_seq (n:=6) ?_
 gi_wp2
 rw[<- HW3.out]
 refine wpF_seqF ?_
 refine wpF_seq (n:=6) ?_
 gi_wp2_with (first
  | (refine⟨trivial,?_⟩;gi_at_call 48;refine (callsIn_wide.2 (lower_any n ao len cap w3 hl S3.out hm)).mono ?_;rintro e w4 ⟨v4,rfl,hv4,hb4⟩;obtain⟨a4,c4,rfl,hs4,_,hc4,_⟩:=OwnS.open hv4;have hk4:=OwnS.blk hv4;have hl4:Hid ((N.lowN n).length=len):=(by show _=_;rw[N.lowN_len];exact hl.out);rw[hl4.out])
  | (refine⟨trivial,?_⟩;gi_at_call 101;refine (callsIn_wide.2 (backward_any w4 a4 len c4)).mono ?_;rintro e wb ⟨rfl,hwb⟩;rw[hwb];clear hwb wb)
  | fail)
 have G5:Hid (RowAt (w4.alloc (.cells #[.slice a4 len c4] 28)) w4.heap.size 28 #[.slice a4 len c4]/\SlS (w4.alloc (.cells #[.slice a4 len c4] 28)) a4 (N.lowN n)/\Below w3.heap.size w3 (w4.alloc (.cells #[.slice a4 len c4] 28))/\(w4.alloc (.cells #[.slice a4 len c4] 28)).heap.size=w4.heap.size+1/\w3.heap.size<=w4.heap.size) :=
  ⟨RowAt.new w4 _ _,hs4.alloc _,hb4.alloc hb4.size _,by simp,hb4.size⟩
 have hL2:len<=1000000:=by rw[<- hl.out];exact hm.out.1
 have hlab : ∀ x,(lab (N.lowN n) x).length<=1000000:=fun x=>by
  unfold lab
  rw[List.getD_eq_getElem?_getD]
  cases h:(N.lowN n)[(N.lowN n).length - 1 - x]? with
  | none=>simp
  | some l =>
   have h1:=List.mem_of_getElem? h
   unfold N.lowN at h1
   obtain⟨l0,h2,rfl⟩:=List.mem_map.1 h1
   rw[Option.getD_some,N.lowL_len];exact hm.out.2 l0 h2
 have HK5:Hid (∀ a,a4=some a->w.heap.size+1<=a.block /\ ∃ c f,(w4.alloc (.cells #[.slice a4 len c4] 28)).heap[a.block]?=some (.cells c 9 f)):=fun a e=>by
  have hO:w4.ownsRow w3.heap.size 9 1 (.slice a4 (N.lowN n).length c4) (N.lowN n).length (vs (N.lowN n)):=hv4
  rcases hO.2 with⟨e1,_⟩ | ⟨g,cap,cur,e1,hg0,hgb,_⟩
  ·injection e1 with e1;rw[e] at e1;cases e1
  ·injection e1 with e1;rw[e] at e1;injection e1 with e1;subst e1
   refine⟨by have:=F3.out.2.2;show w.heap.size+1<=g;omega,cur,(0,0),?_⟩
   show (w4.alloc _).heap[g]?=_
   rw[Below.heap_alloc _ _ g (Array.getElem?_eq_some_iff.1 hgb).1];exact hgb
 clear hs4 hb4 hv4 hc4 z1
 generalize w4.alloc (.cells #[.slice a4 len c4] 28)=w5 at G5 HK5 ⊢
 have hz5:w.heap.size+1<=w4.heap.size:=by have:=F3.out.2.2;have:=G5.out.2.2.2.2;omega
 obtain⟨m,hme⟩ : ∃ m,m=N.lowN n:=⟨_,rfl⟩
 rw[<- hme] at G5 hl4 hlab
 have HM:=hide hme
 clear hme
 have own:OwnLp w5.heap.size (fun pre W=>(∃ ρ' G',GrI w ρ G C K m pre W ρ' G')/\KpA w4.heap.size a4 w5 W):=fun s A B row hI hg hr=>⟨(by obtain⟨⟨ρ1,G1,h1⟩,_⟩:=hI;exact⟨ρ1,G1,GrI.own (by have:=G5.out.2.2.2.1;omega) s A B row h1 hg hr⟩),KpA.ownL ⟨_,_,_,G5.out.1⟩ (fun a e=>by obtain⟨_,c,f,h⟩:=HK5.out a e;exact⟨c,_,f,h⟩) s A B row hI.2 hg hr⟩
 refine wpF_block ?_
 refine wpF_range (n:=5) Tryz.func86 (gf:=131) (lb := #[.pointer (some ⟨w4.heap.size,0,none⟩)]) rfl (enters_of Tryz.func131 (by kernel_rfl) rfl) (encs:=bwv m) (Kp:=KpA w4.heap.size a4) (S:=fun xs=>xs=List.range len) (ok:=fun pre=>pre.length<len) (w0:=w5) ?seq1 KpA.trans ?keep1 (Below.refl _ _) (fun _=>rfl)
  (fun pre W=>(∃ ρ' G',GrI w ρ G C K m pre W ρ' G')/\KpA w4.heap.size a4 w5 W) (fun _ _=>False) own ?init1
  (fun x => { tmps := #[.pointer (some ⟨Zb,0,none⟩),.slice ao len cap,undef,undef,.pointer none,.pointer (some ⟨w.heap.size,0,none⟩),undef,.string ⟨(lab m x).toArray⟩,undef,undef,.pointer (some ⟨Zb,0,none⟩),.pointer (some ⟨Zb,0,none⟩),.pointer (some ⟨Zb,1,none⟩),.pointer (some ⟨nodeN G [],0,none⟩),.slice ao len cap,.slice a4 len c4,.func (.func 131) #[] #[.pointer (some ⟨w4.heap.size,0,none⟩)],.int .i64 ((m.length:Int) - 1 - (x:Int)),.string ⟨(lab m x).toArray⟩,undef,undef,undef,undef,undef,undef,undef,undef,undef,undef,undef,undef,undef,undef,undef,undef,undef,undef,undef,undef],defers := [] }) ?assign1 ?body1 ?done1 ?fell1
 case seq1 =>
  intro l Jv Jd W hW hJ hY h0
  refine (back1_two l w4.heap.size c4 len a4 m hl4 hL2 Jv Jd hY W (G5.out.1.below hW G5.out.1.lt) (G5.out.2.1.below hW (Nat.le_refl _)) h0).mono ?_
  rintro e W' (⟨he,hj⟩ | h)
  ·exact Or.inl ⟨he,_,rfl,hj⟩
  ·exact Or.inr h
 case keep1 =>
  intro W l oo oo' hl hlo _ _
  have h4:=G5.out.2.2.2.1
  refine⟨World.putObj_heap_other (by omega),fun a e=>World.putObj_heap_other ?_,by simp⟩
  have:=hk4 a e
  omega
 case init1 =>
  have h5:=G5.out.2.2.1
  have hb:=F3.out.2.1.trans (h5.mono (by have:=F3.out.2.2;omega))
  refine⟨⟨ρ,G,⟨(HT.out.below_ hb).mono (Nat.le_add_right _ _),⟨More.refl _ _,ZMv.of_below hb,rfl⟩,F3.out.1.below_ h5 (Nat.le_refl _),HT.out.root,fun q=>?_⟩⟩,rfl,fun _ _=>rfl,Nat.le_refl _⟩
  rw[List.map_nil]
  constructor
  ·exact Or.inl
  ·rintro (h | h)
   ·exact h
   ·rw[List.prefix_nil.1 h];exact HT.out.root
 case assign1 =>
  intro l x W K hK
  unfold bwv
  gi_wp2
  exact hK
 case body1 =>
  rintro l pre x W ⟨⟨ρ1,G1,hI⟩,hKp⟩ hlen
  obtain⟨y,hy⟩:=Option.isSome_iff_exists.1 hI.ex
  have NY:=hI.tree.node _ y hy
  have hat:=hI.at_
  rw[nodeN_of hy] at hat
  have hq:pre.map (lab m) ++ [lab m x]=(pre ++ [x]).map (lab m):=by simp
  have hlook:(Instr.lookup 105 (.map (some y.b)) (.string ⟨(lab m x).toArray⟩) true).run Tryz.prog W = .ok (.tuple #[((G1 ((pre ++ [x]).map (lab m))).map fun y=>ptr y.n).getD (.pointer none),.bool ((G1 ((pre ++ [x]).map (lab m))).map fun y=>ptr y.n).isSome]) W:=by
   rw[<- hq];exact NY.below.look keyedS Tryz.underlying105 (Tryz.zeroValue91 W) (keyS (lab m x) (hlab x))
  have x0:W.cell? ⟨w.heap.size,0,none⟩=some (.pointer (some ⟨y.n,0,none⟩)):=hat.cell
  have x1:W.cell? ⟨y.n,1,none⟩=some (.map (some y.b)):=NY.row.cell 1
  have xf:=hat.frozen
  have HI:=hide hI
  have HAT:=hide hat
  have HY:=hide hy
  have HN:=hide NY
  have HQ:=hide hq
  clear hI hat hy NY hq
  dsimp only
  have hrow4:=HK5.out
  have hWz:=HI.out.grew.mv.size
  have hn4W:W.heap[w4.heap.size]?=some (Obj.cells #[.slice a4 len c4] 28):=hKp.box.trans G5.out.1
  have hrw4 : ∀ a,a4=some a->w.heap.size+1<=a.block /\ ∃ c f,W.heap[a.block]?=some (.cells c 9 f):=fun a e=>by
   obtain⟨h1,c,f,h2⟩:=hrow4 a e
   exact⟨h1,c,f,(hKp.row a e).trans h2⟩
  cases hg:G1 ((pre ++ [x]).map (lab m)) with
  | some y' =>
   rw[hg] at hlook
   have hlook':(Instr.lookup 105 (.map (some y.b)) (.string ⟨(lab m x).toArray⟩) true).run Tryz.prog W = .ok (.tuple #[.pointer (some ⟨y'.n,0,none⟩),.bool true]) W:=hlook
   clear hlook
   gi_wp2
   have g1:=grownBy_setCell' W w.heap.size (.pointer (some ⟨y'.n,0,none⟩))
   have hsame : ∀ i,i≠w.heap.size->i<W.heap.size->(W.setCell ⟨w.heap.size,0,none⟩ (.pointer (some ⟨y'.n,0,none⟩))).heap[i]?=W.heap[i]?:=fun i h1 h2=>g1.block i h2 (by simpa using h1)
   have hKP:KpA w4.heap.size a4 W (W.setCell ⟨w.heap.size,0,none⟩ (.pointer (some ⟨y'.n,0,none⟩))):=by
    refine⟨hsame _ (by omega) (Array.getElem?_eq_some_iff.1 hn4W).1,fun a e=>?_,g1.size⟩
    obtain⟨h1,c,f,h2⟩:=hrw4 a e
    exact hsame _ (by omega) (Array.getElem?_eq_some_iff.1 h2).1
   refine⟨⟨g1.size,fun k o hk hko _ _=>(hsame k (by have:=G5.out.2.2.2.1;omega) (Array.getElem?_eq_some_iff.1 hko).1).trans hko⟩,hKP,⟨ρ1,G1,⟨?_,⟨HI.out.grew.more,⟨g1.os.trans HI.out.grew.mv.os,g1.tape.trans HI.out.grew.mv.tape,g1.output.trans HI.out.grew.mv.output,Nat.le_trans hWz g1.size,fun i hi h0=>(hsame i (by omega) (by omega)).trans (HI.out.grew.mv.block i hi h0)⟩,HI.out.grew.root⟩,?_,by rw[hg];rfl,fun q=>?_⟩⟩,hKp.trans hKP⟩
   ·exact (HI.out.tree.box HAT.out _).mono (by rw[List.length_append];omega)
   ·rw[nodeN_of hg];exact HAT.out.set _
   ·rw[HI.out.all q, <- HQ.out]
    constructor
    ·rintro (h | h)
     ·exact Or.inl h
     ·exact Or.inr (h.trans (List.prefix_append _ _))
    ·rintro (h | h)
     ·exact Or.inl h
     ·rcases List.prefix_concat_iff.1 h with e | h
      ·rw[e,HQ.out]
       exact (HI.out.all _).1 (by rw[hg];rfl)
      ·exact Or.inr h
  | none =>
   rw[hg] at hlook
   have hlook':(Instr.lookup 105 (.map (some y.b)) (.string ⟨(lab m x).toArray⟩) true).run Tryz.prog W = .ok (.tuple #[.pointer none,.bool false]) W:=hlook
   clear hlook
   obtain⟨wn,hwn⟩ : ∃ wn,wn=((W.alloc (.map #[] 0)).alloc (.map #[] 0)).alloc (.cells #[.map (some W.heap.size),.map (some (W.heap.size+1))] 107):=⟨_,rfl⟩
   have hbn:Below W.heap.size W wn:=by rw[hwn];exact (((Below.refl _ W).alloc (Nat.le_refl _) _).alloc (by simp) _).alloc (by simp;omega) _
   have Tn:=HI.out.tree.below_ hbn
   have Nn:=Tn.node _ y HY.out
   have hnn:=new_node HI.out.tree hg W
   rw[<- hwn] at hnn
   have hzn:wn.heap.size=W.heap.size+3:=by rw[hwn];simp
   have v0:wn.cell? ⟨w.heap.size,0,none⟩=some (.pointer (some ⟨y.n,0,none⟩)):=(HAT.out.below_ hbn (Nat.le_refl _)).cell
   have v1:wn.cell? ⟨y.n,1,none⟩=some (.map (some y.b)):=Nn.row.cell 1
   obtain⟨w8,hrun,hM8,ht8⟩:=MapAt.update Nn.below keyedS Tryz.underlying105 (by have:=hlen;omega) (keyS (lab m x) (hlab x)) (.pointer (some ⟨W.heap.size+2,0,none⟩))
   have hbx8:Boxed w8 w.heap.size 91 (.pointer (some ⟨y.n,0,none⟩)):=(ht8.block _ (fun e=>by
    have h1:=HAT.out.below_ hbn (Nat.le_refl _)
    obtain⟨es,k,hb⟩:=ht8.was
    have h1:wn.heap[w.heap.size]?=_:=h1
    rw[e,hb] at h1;cases h1)).trans (HAT.out.below_ hbn (Nat.le_refl _))
   have y0:w8.cell? ⟨w.heap.size,0,none⟩=some (.pointer (some ⟨y.n,0,none⟩)):=hbx8.cell
   have yf:=hbx8.frozen
   have HWN:=hide hwn
   have HBN:=hide hbn
   have HTN:=hide Tn
   have HNN:=hide hnn
   have HZN:=hide hzn
   have HM8:=hide hM8
   have HT8:=hide ht8
   have HX8:=hide hbx8
   clear hwn hbn Tn Nn hnn hzn hM8 ht8 hbx8
   gi_wp2_with (first
    | (refine⟨trivial,?_⟩;gi_at_call 49;refine (CallsIn.inRound l (callsIn_wide.2 (newNode_any W))).mono ?_;rintro e wq ⟨rfl,hwq⟩;rw[hwq, <- HWN.out];clear hwq wq;unfold ptr)
    | fail)
   obtain⟨W',hW'⟩ : ∃ W',W'=w8.setCell ⟨w.heap.size,0,none⟩ (.pointer (some ⟨W.heap.size+2,0,none⟩)):=⟨_,rfl⟩
   rw[<- hW']
   have ht8:=HT8.out
   have hbn:=HBN.out
   have hzn:=HZN.out
   have hz8:=ht8.size
   have g1:=grownBy_setCell' w8 w.heap.size (.pointer (some ⟨W.heap.size+2,0,none⟩))
   have hyb:=HI.out.tree.rb _ y HY.out
   have hlb:y.b<W.heap.size:=(HI.out.tree.kind y.b (by rw[hyb];simp)).lt
   rw[<- HQ.out] at hg
   have hsame : ∀ i,i≠w.heap.size->i≠y.b->i<W.heap.size->W'.heap[i]?=W.heap[i]?:=fun i h1 h2 h3=>by
    rw[hW',g1.block i (by omega) (by simpa using h1),ht8.block i h2,hbn.block i h3]
   have hsz':W.heap.size<=W'.heap.size:=by rw[hW'];have:=g1.size;omega
   have hyw : ∃ es k,W.heap[y.b]?=some (.map es k):=HN.out.below.obj
   have hKP:KpA w4.heap.size a4 W W':=by
    obtain⟨es,k,hb⟩:=hyw
    refine⟨hsame _ (by omega) (fun e=>by rw[e,hb] at hn4W;cases hn4W) (Array.getElem?_eq_some_iff.1 hn4W).1,fun a e=>?_,hsz'⟩
    obtain⟨h1,c,f,h2⟩:=hrw4 a e
    exact hsame _ (by omega) (fun e=>by rw[e,hb] at h2;cases h2) (Array.getElem?_eq_some_iff.1 h2).1
   have T8:TreeAt w8 (role3 ρ1 (pre.map (lab m) ++ [lab m x]) ⟨W.heap.size+2,W.heap.size,W.heap.size+1,fun _=>0⟩) (gput G1 (pre.map (lab m) ++ [lab m x]) (some ⟨W.heap.size+2,W.heap.size,W.heap.size+1,fun _=>0⟩)) C (K+pre.length+1):=by
    refine HI.out.tree.child HY.out hg (Nat.le_succ _) (by show _<=W.heap.size+2;omega) (Nat.le_refl _) (by show _<=W.heap.size+1;omega) (by show W.heap.size+2≠W.heap.size;omega) (by show W.heap.size+2≠W.heap.size+1;omega) (by show W.heap.size≠W.heap.size+1;omega) (by omega) (fun i h1 h2=>by rw[ht8.block i h2,hbn.block i h1]) (HM8.out.congr fun k=>fput_S _ _ _ k) ?_ ?_ ?_
    ·exact (ht8.block _ (by show W.heap.size+2≠y.b;omega)).trans HNN.out.row
    ·refine (MapU.ext (HNN.out.sets.heap (ht8.block _ (by show W.heap.size≠y.b;omega))) fun t _=>?_).mono (by omega)
     rw[HI.out.tree.no_sets (by rw[<- HQ.out];exact hg) t];rfl
    ·refine (MapS.ext (HNN.out.below.heap (ht8.block _ (by show W.heap.size+1≠y.b;omega))) fun l=>?_).mono (by omega)
     rw[HI.out.tree.no_below (by rw[<- HQ.out];exact hg) [l]];rfl
   refine⟨⟨hsz',fun k o hk hko hnc hnw=>?_⟩,hKP,⟨_,gput G1 (pre.map (lab m) ++ [lab m x]) (some ⟨W.heap.size+2,W.heap.size,W.heap.size+1,fun _=>0⟩),⟨?_,⟨HI.out.grew.more.trans (role3_more (q:=pre.map (lab m) ++ [lab m x]) (y:=⟨W.heap.size+2,W.heap.size,W.heap.size+1,fun _=>0⟩) (by show _<=W.heap.size+2;omega) (Nat.le_refl _) (by show _<=W.heap.size+1;omega)) hWz,⟨?_,?_,?_,Nat.le_trans hWz hsz',fun i hi h0=>?_⟩,?_⟩,?_,?_,fun q=>?_⟩⟩,hKp.trans hKP⟩
   ·obtain⟨es,kk,hb⟩:=hyw
    refine (hsame k (by have:=G5.out.2.2.2.1;omega) (fun e=>?_) (Array.getElem?_eq_some_iff.1 hko).1).trans hko
    rw[e,hb] at hko;injection hko with hko;rw[<- hko] at hnw;cases hnw
   ·rw[hW',List.length_append];exact T8.box HX8.out _
   ·rw[hW'];exact g1.os.trans (ht8.os.trans (hbn.os.trans HI.out.grew.mv.os))
   ·rw[hW'];exact g1.tape.trans (ht8.tape.trans (hbn.tape.trans HI.out.grew.mv.tape))
   ·rw[hW'];exact g1.output.trans (ht8.output.trans (hbn.output.trans HI.out.grew.mv.output))
   ·refine (hsame i (by omega) (fun e=>?_) (by omega)).trans (HI.out.grew.mv.block i hi h0)
    have:=HI.out.grew.more i hi
    rw[h0,e,hyb] at this;cases this
   ·unfold nodeN
    rw[gput_other _ (by simp)]
    exact HI.out.grew.root
   ·rw[<- HQ.out,nodeN_of (gput_same _ _ _),hW'];exact HX8.out.set _
   ·rw[<- HQ.out,gput_same];rfl
   ·rw[<- HQ.out]
    by_cases e:q=pre.map (lab m) ++ [lab m x]
    ·rw[e,gput_same]
     exact⟨fun _=>Or.inr (List.prefix_refl _),fun _=>rfl⟩
    ·rw[gput_other _ e,HI.out.all q]
     constructor
     ·rintro (h | h)
      ·exact Or.inl h
      ·exact Or.inr (h.trans (List.prefix_append _ _))
     ·rintro (h | h)
      ·exact Or.inl h
      ·rcases List.prefix_concat_iff.1 h with e2 | h
       ·exact absurd e2 e
       ·exact Or.inr h
 case done1 =>
  rintro Dd xs W hDd rfl ⟨⟨ρ1,G1,hI⟩,_⟩ hK
  show wpF _ _ _ _ _ _
  refine wpF_of_wpIn (n:=6) ?_
  obtain⟨y,hy⟩:=Option.isSome_iff_exists.1 hI.ex
  have hat:=hI.at_
  rw[nodeN_of hy] at hat
  have x0:W.cell? ⟨w.heap.size,0,none⟩=some (.pointer (some ⟨y.n,0,none⟩)):=hat.cell
  have HI:=hide hI
  have HY:=hide hy
  clear hI hat hy
  gi_wp2
  refine⟨by simp,.inl ⟨_,_,rfl,run_takeDeferred hK,?_⟩⟩
  have hI2:GrI w ρ G C K m (List.range len) (W.putObj Dd (.deferred none)) ρ1 G1:=OwnLp.putObj (GrI.own (M:=w5.heap.size) (by have:=G5.out.2.2.2.1;omega)) _ HI.out hDd hK rfl rfl
  have hpq:(List.range len).map (lab m)=path n:=by
   rw[lab_range m len (by rw[hl4.out];omega),List.take_of_length_le (by rw[List.length_reverse,hl4.out];omega),HM.out];rfl
  have hT:=hI2.tree
  rw[List.length_range] at hT
  refine⟨_,results_tmp rfl _ _ _,_,rfl, ρ1,G1,y,rfl,by rw[<- hpq];exact HY.out,hT,hI2.grew,fun q=>?_⟩
  rw[hI2.all q,hpq]
 case fell1 =>
  intro _ _ _ _ h
  exact h.elim
namespace Z
theorem rlt_can {x y:R} (h:x.p=y.p) (h2:x.t=y.t):rlt x y↔x.c<y.c:=by
 unfold rlt cmpK
 rw[h,h2,if_pos ((N.cmpR_zero).2 rfl),if_pos rfl,lt_cmpB]
theorem type_of_rlt {x y:R} (hp:x.p=y.p) (h:rlt x y):x.t<y.t\/x.t=y.t:=by
 unfold rlt cmpK at h
 rw[hp,if_pos ((N.cmpR_zero).2 rfl)] at h
 by_cases e:x.t=y.t
 ·exact Or.inr e
 ·rw[if_neg e] at h
  split at h
  ·rename_i h2;exact Or.inl h2
  ·omega
def typesAt (L:List R) (p:List (List UInt8)):List Nat:=((L.filter (fun x=>decide (x.p=p))).map (·.t)).foldl dd1 []
theorem types_rise {L:List R} (h:L.Pairwise rlt) (p:List (List UInt8)):(typesAt L p).Pairwise (· < ·) /\ ∀ t,t∈typesAt L p ↔ ∃ x∈L,x.p=p/\x.t=t:=by
 have h0:((L.filter (fun x=>decide (x.p=p))).map (·.t)).Pairwise (fun a b=>a<b\/a=b):=by
  rw[List.pairwise_map]
  refine (h.filter _).imp_of_mem fun {a b} ha hb hab=>type_of_rlt ?_ hab
  have h1:=(List.mem_filter.1 ha).2
  have h2:=(List.mem_filter.1 hb).2
  simp at h1 h2
  rw[h1,h2]
 obtain⟨h1,h2⟩:=dd_spec (r:=(· < ·)) (fun a=>Nat.lt_irrefl a) (fun a b h h2=>Nat.lt_asymm h h2) _ [] (by simpa using h0) List.Pairwise.nil
 refine⟨h1,fun t=>?_⟩
 unfold typesAt;rw[h2 t]
 simp[List.mem_map,List.mem_filter,and_assoc]
def setAt (L:List R) (p:List (List UInt8)) (t:Nat):List R:=L.filter (fun x=>decide (x.p=p) && decide (x.t=t))
theorem mem_setAt {L:List R} {p:List (List UInt8)} {t:Nat} {x:R} : x∈setAt L p t↔x∈L/\x.p=p/\x.t=t:=by
 unfold setAt;rw[List.mem_filter];simp
theorem setAt_rise {L:List R} (h:L.Pairwise rlt) (p:List (List UInt8)) (t:Nat):((setAt L p t).map (·.c)).Pairwise (· < ·):=by
 rw[List.pairwise_map]
 refine List.Pairwise.imp_of_mem (R:=rlt) (fun {a b} ha hb hab=>?_) (h.filter _)
 obtain⟨_,h1,h2⟩:=mem_setAt.1 ha
 obtain⟨_,h3,h4⟩:=mem_setAt.1 hb
 exact (rlt_can (h1.trans h3.symm) (h2.trans h4.symm)).1 hab
theorem Of.isSome {L:List R} {C:List (List UInt8)->Nat->Option St} (h:Of L C) (p:List (List UInt8)) (t:Nat):(C p t).isSome ↔ ∃ x∈L,x.p=p/\x.t=t:=by
 constructor
 ·intro hs
  obtain⟨S,hS⟩:=Option.isSome_iff_exists.1 hs
  exact h.ex p t S hS
 ·rintro⟨x,hx,rfl,rfl⟩
  obtain⟨S,hS⟩:=h.hasS hx
  rw[hS];rfl
theorem Of.mem_c {L:List R} {C:List (List UInt8)->Nat->Option St} (h:Of L C) {p:List (List UInt8)} {t:Nat} {S:St} (hS:C p t=some S) (c:List UInt8):c∈(setAt L p t).map (·.c)↔(S.g c).isSome:=by
 rw[List.mem_map]
 constructor
 ·rintro⟨x,hx,rfl⟩
  obtain⟨h1,rfl,rfl⟩:=mem_setAt.1 hx
  rw[(h.at_ x h1 S hS).2];rfl
 ·intro hs
  obtain⟨d,hd⟩:=Option.isSome_iff_exists.1 hs
  obtain⟨x,hx,h1,h2,h3,_⟩:=h.back p t S c d hS hd
  exact⟨x,mem_setAt.2 ⟨hx,h1,h2⟩,h3⟩
def has (L:List R) (p:List (List UInt8)):Bool:=L.any (fun x=>p.isPrefixOf x.p)
theorem has_iff {L:List R} {p:List (List UInt8)} : has L p=true ↔ ∃ x∈L,p <+: x.p:=by
 unfold has;rw[List.any_eq_true];simp only[List.isPrefixOf_iff_prefix]
def Cov {α : Type} (G:List (List UInt8)->Option α) (L:List R):Prop := ∀ p,(G p).isSome->p = [] \/ ∃ x∈L,p <+: x.p
theorem Cov.more {α : Type} {G:List (List UInt8)->Option α} {L:List R} (h:Cov G L) (r:R):Cov G (put L r):=fun p hp=>by
 rcases h p hp with h3 | ⟨x,hx,hpx⟩
 ·exact Or.inl h3
 ·exact Or.inr ⟨_,mem_put.2 ⟨x,Or.inl hx,rfl⟩,by rw[setT_p];exact hpx⟩
theorem put_has (L:List R) (r:R) : ∃ x∈put L r,x.p=r.p:=by
 by_cases ht:there L r=true
 ·obtain⟨x,hx,h1,_⟩:=there_iff.1 ht
  exact⟨_,mem_put.2 ⟨x,Or.inl hx,rfl⟩,by rw[setT_p,h1]⟩
 ·exact⟨_,mem_put.2 ⟨r,Or.inr ⟨by simpa using ht,rfl⟩,rfl⟩,by rw[setT_p]⟩
end Z
namespace T
def Rise (l:List Nat):Prop:=l.Pairwise (· < ·)
theorem rise_ext : ∀ (a b:List Nat),Rise a->Rise b->(∀ x,x∈a↔x∈b)->a=b
 | [], [],_,_,_=>rfl
 | [],y::b,_,_,h=>absurd ((h y).2 (by simp)) (by simp)
 | x::a, [],_,_,h=>absurd ((h x).1 (by simp)) (by simp)
 | x::a,y::b,ha,hb,h=>by
  have h1:=List.pairwise_cons.1 ha
  have h2:=List.pairwise_cons.1 hb
  have e:x=y:=by
   have hx:=(h x).1 (by simp)
   have hy:=(h y).2 (by simp)
   rcases List.mem_cons.1 hx with e | e
   ·exact e
   ·rcases List.mem_cons.1 hy with e' | e'
    ·exact e'.symm
    ·have:=h2.1 x e;have:=h1.1 y e';omega
  subst e
  rw[rise_ext a b h1.2 h2.2 fun z=>?_]
  constructor
  ·intro hz
   rcases List.mem_cons.1 ((h z).1 (List.mem_cons_of_mem _ hz)) with e | e
   ·have:=h1.1 z hz;omega
   ·exact e
  ·intro hz
   rcases List.mem_cons.1 ((h z).2 (List.mem_cons_of_mem _ hz)) with e | e
   ·have:=h2.1 z hz;omega
   ·exact e
def Rising (l:List UInt16):Prop:=l.Pairwise (fun x y=>x.toNat<y.toNat)
theorem Rising.rise {l:List UInt16} (h:Rising l):Rise (l.map UInt16.toNat):=by
 unfold Rise;rw[List.pairwise_map];exact h
theorem map_inj {a b:List UInt16} (h:a.map UInt16.toNat=b.map UInt16.toNat):a=b:=by
 induction a generalizing b with
 | nil=>cases b with
  | nil=>rfl
  | cons y b=>simp at h
 | cons x a ih=>cases b with
  | nil=>simp at h
  | cons y b =>
   simp only[List.map_cons,List.cons.injEq] at h
   rw[ih h.2,UInt16.toNat_inj.1 h.1]
theorem rising_ext (a b:List UInt16) (ha:Rising a) (hb:Rising b) (h : ∀ x,x∈a↔x∈b):a=b:=by
 refine map_inj (rise_ext _ _ ha.rise hb.rise fun x=>?_)
 simp only[List.mem_map,h]
def IsClean (l c:List UInt16):Prop:=Rising c /\ ∀ x,x∈c↔x∈l
theorem IsClean.unique {l c c':List UInt16} (h:IsClean l c) (h':IsClean l c'):c=c':=rising_ext _ _ h.1 h'.1 fun x=>(h.2 x).trans (h'.2 x).symm
theorem IsClean.self {l c:List UInt16} (hl:Rising l) (h:IsClean l c):c=l:=h.unique ⟨hl,fun _=>Iff.rfl⟩
def has (b:List UInt8) (p:Nat):Bool:=(b.getD (p / 8) 0).toNat.testBit (7 - p % 8)
def setb (b:List UInt8) (p:Nat):List UInt8:=b.set (p / 8) (UInt8.ofNat ((b.getD (p / 8) 0).toNat ||| 2 ^ (7 - p % 8)))
theorem setb_len (b:List UInt8) (p:Nat):(setb b p).length=b.length:=by simp[setb]
theorem or_small (x:UInt8) (k:Nat) (hk:k<8):x.toNat ||| 2 ^ k<256:=by
 have h1:x.toNat<2 ^ 8:=x.toNat_lt
 have h2:2 ^ k<2 ^ 8:=Nat.pow_lt_pow_right (by omega) hk
 exact Nat.or_lt_two_pow h1 h2
theorem has_setb (b:List UInt8) (p q:Nat) (hp:p / 8<b.length):has (setb b p) q=(decide (q=p) || has b q):=by
 unfold has setb
 by_cases e:q / 8=p / 8
 ·rw[e,List.getD_eq_getElem?_getD,List.getElem?_set_self hp,Option.getD_some,UInt8.toNat_ofNat',Nat.mod_eq_of_lt (or_small _ _ (by omega)),Nat.testBit_or,Nat.testBit_two_pow]
  by_cases e2:q=p
  ·subst e2;simp
  ·have : ¬ (7 - p % 8=7 - q % 8):=by omega
   simp[this,e2]
 ·have e2:q≠p:=by intro h;subst h;exact e rfl
  rw[List.getD_eq_getElem?_getD,List.getElem?_set_ne (by omega), <- List.getD_eq_getElem?_getD]
  simp[e2]
theorem byte_ext (x y:UInt8) (h : ∀ j,j<8->x.toNat.testBit (7 - j)=y.toNat.testBit (7 - j)):x=y:=by
 refine UInt8.toNat_inj.1 (Nat.eq_of_testBit_eq fun i=>?_)
 by_cases hi:i<8
 ·have:=h (7 - i) (by omega)
  rwa [show 7 - (7 - i)=i by omega] at this
 ·have h1:x.toNat<2 ^ 8:=x.toNat_lt
  have h2:y.toNat<2 ^ 8:=y.toNat_lt
  have h3:2 ^ 8<=2 ^ i:=Nat.pow_le_pow_right (by omega) (by omega)
  rw[Nat.testBit_lt_two_pow (by omega),Nat.testBit_lt_two_pow (by omega)]
theorem has_ext (a b:List UInt8) (hl:a.length=b.length) (h : ∀ p,p<8*a.length->has a p=has b p):a=b:=by
 refine List.ext_getElem hl fun k h1 h2=>byte_ext _ _ fun j hj=>?_
 have:=h (8*k+j) (by omega)
 unfold has at this
 rw[show (8*k+j) / 8=k by omega,show (8*k+j) % 8=j by omega] at this
 simpa [h1,h2] using this
def row (n:Nat) (ps:List Nat):List UInt8:=ps.foldl setb (List.replicate n 0)
theorem fold_len (ps:List Nat) : ∀ b:List UInt8,(ps.foldl setb b).length=b.length:=by
 induction ps with
 | nil=>intro b;rfl
 | cons p ps ih=>intro b;rw[List.foldl_cons,ih,setb_len]
theorem row_len (n:Nat) (ps:List Nat):(row n ps).length=n:=by unfold row;rw[fold_len];simp
theorem row_snoc (n:Nat) (ps:List Nat) (p:Nat):row n (ps ++ [p])=setb (row n ps) p:=by unfold row;rw[List.foldl_append];rfl
theorem has_fold (ps:List Nat) : ∀ (b:List UInt8) (q:Nat),(∀ p∈ps,p / 8<b.length)->has (ps.foldl setb b) q=(decide (q∈ps) || has b q):=by
 induction ps with
 | nil=>intro b q _;simp
 | cons p ps ih =>
  intro b q h
  rw[List.foldl_cons,ih _ _ (fun x hx=>by rw[setb_len];exact h x (List.mem_cons_of_mem _ hx)),has_setb _ _ _ (h p (by simp))]
  by_cases e:q=p <;> simp[e]
theorem has_zero (n q:Nat):has (List.replicate n 0) q=false:=by
 unfold has
 have:(List.replicate n (0:UInt8)).getD (q / 8) 0=0:=by
  rw[List.getD_eq_getElem?_getD,List.getElem?_replicate];split <;> rfl
 rw[this];simp
theorem has_row (n:Nat) (ps:List Nat) (q:Nat) (h : ∀ p∈ps,p<8*n):has (row n ps) q=decide (q∈ps):=by
 unfold row
 rw[has_fold _ _ _ (fun p hp=>by have:=h p hp;simp;omega),has_zero];simp
theorem has_take (b:List UInt8) (n q:Nat) (h:q<8*n):has (b.take n) q=has b q:=by
 unfold has
 have:q / 8<n:=by omega
 simp[List.getD_eq_getElem?_getD,this]
theorem row_take (n m:Nat) (ps:List Nat) (h : ∀ p∈ps,p<8*n) (hn:n<=m):(row m ps).take n=row n ps:=by
 refine has_ext _ _ (by rw[List.length_take,row_len,row_len];omega) fun p hp=>?_
 rw[List.length_take,row_len] at hp
 rw[has_take _ _ _ (by omega),has_row _ _ _ (fun p hp=>by have:=h p hp;omega),has_row _ _ _ h]
def places (b:List UInt8):List Nat:=(List.range (8*b.length)).filter (has b)
theorem range_rise (n:Nat):Rise (List.range n):=List.pairwise_lt_range
theorem places_rise (b:List UInt8):Rise (places b):=(range_rise _).filter _
theorem mem_places (b:List UInt8) (p:Nat):p∈places b↔p<8*b.length/\has b p=true:=by simp[places]
theorem places_row (n:Nat) (ps:List Nat) (hr:Rise ps) (h : ∀ p∈ps,p<8*n):places (row n ps)=ps:=by
 refine rise_ext _ _ (places_rise _) hr fun x=>?_
 rw[mem_places,row_len,has_row _ _ _ h,decide_eq_true_eq]
 exact⟨fun hx=>hx.2,fun hx=>⟨h x hx,hx⟩⟩
theorem row_places (b:List UInt8):row b.length (places b)=b:=by
 have hb : ∀ p∈places b,p<8*b.length:=fun p hp=>((mem_places b p).1 hp).1
 refine has_ext _ _ (row_len _ _) fun p hp=>?_
 rw[row_len] at hp
 rw[has_row _ _ _ hb]
 by_cases h:has b p=true
 ·rw[h,decide_eq_true_eq];exact (mem_places b p).2 ⟨hp,h⟩
 ·have h0:has b p=false:=by simpa using h
  rw[h0,decide_eq_false_iff_not];exact fun hm=>h ((mem_places b p).1 hm).2
def hi (t:UInt16):Nat:=t.toNat / 256
def lo (t:UInt16):Nat:=t.toNat % 256
def mk (w p:Nat):UInt16:=UInt16.ofNat (w*256+p)
theorem hi_lt (t:UInt16):hi t<256:=by have:=t.toNat_lt;unfold hi;omega
theorem lo_lt (t:UInt16):lo t<256:=by unfold lo;omega
theorem mk_eq (t:UInt16):mk (hi t) (lo t)=t:=by
 refine UInt16.toNat_inj.1 ?_
 have:=t.toNat_lt
 unfold mk hi lo;rw[UInt16.toNat_ofNat'];omega
theorem hi_mk (w p:Nat) (hw:w<256) (hp:p<256):hi (mk w p)=w:=by unfold hi mk;rw[UInt16.toNat_ofNat'];omega
theorem lo_mk (w p:Nat) (_hw:w<256) (hp:p<256):lo (mk w p)=p:=by unfold lo mk;rw[UInt16.toNat_ofNat'];omega
theorem mk_nat (w p:Nat) (hw:w<256) (hp:p<256):(mk w p).toNat=w*256+p:=by unfold mk;rw[UInt16.toNat_ofNat'];omega
def size (ps:List Nat):Nat:=ps.getLastD 0 / 8+1
def win (w:Nat) (ps:List Nat):List UInt8:=UInt8.ofNat w::UInt8.ofNat (size ps)::row (size ps) ps
def same (t:UInt16) (x:UInt16):Bool:=decide (hi x=hi t)
theorem drop_le (t:UInt16) (r:List UInt16):(r.dropWhile (same t)).length<=r.length:=by
 induction r with
 | nil=>simp
 | cons x r ih=>rw[List.dropWhile_cons];split <;> simp <;> omega
def bmp:List UInt16->List UInt8
 | [] => []
 | t::r=>win (hi t) ((t::r.takeWhile (same t)).map lo)++bmp (r.dropWhile (same t))
termination_by l => l.length
decreasing_by have := drop_le t r; simp; omega
theorem bmp_nil:bmp [] = []:=by rw[bmp]
theorem bmp_cons (t:UInt16) (r:List UInt16):bmp (t::r)=win (hi t) ((t::r.takeWhile (same t)).map lo)++bmp (r.dropWhile (same t)):=by rw[bmp]
def typ (w:Nat) (b:List UInt8):List UInt16:=(places b).map (mk w)
def bad (least:Nat) (x n:UInt8) (r:List UInt8):Prop:=x.toNat<least\/n.toNat=0\/32<n.toNat\/r.length<n.toNat\/r.getD (n.toNat - 1) 0=0
instance (least:Nat) (x n:UInt8) (r:List UInt8):Decidable (bad least x n r):=by unfold bad;infer_instance
def opn (least:Nat):List UInt8->Option (List UInt16)
 | []=>some []
 | [_]=>none
 | x::n::r=>if bad least x n r then none else (opn (x.toNat+1) (r.drop n.toNat)).map (typ x.toNat (r.take n.toNat) ++ ·)
termination_by l => l.length
decreasing_by simp; omega
theorem opn_nil (least:Nat):opn least []=some []:=by rw[opn]
theorem opn_one (least:Nat) (x:UInt8):opn least [x]=none:=by rw[opn]
theorem opn_two (least:Nat) (x n:UInt8) (r:List UInt8):opn least (x::n::r)=if bad least x n r then none else (opn (x.toNat+1) (r.drop n.toNat)).map (typ x.toNat (r.take n.toNat) ++ ·):=by rw[opn]
theorem last_mem (ps:List Nat) (h:ps ≠ []):ps.getLastD 0∈ps:=by
 rw[List.getLastD_eq_getLast?,List.getLast?_eq_some_getLast h]
 exact List.getLast_mem h
theorem last_max (ps:List Nat) (hr:Rise ps) : ∀ p∈ps,p<=ps.getLastD 0:=by
 induction ps with
 | nil=>simp
 | cons x ps ih =>
  intro p hp
  have h:=List.pairwise_cons.1 hr
  cases ps with
  | nil=>simp at hp;simp[hp]
  | cons y ps =>
   have e:(x::y::ps).getLastD 0=(y::ps).getLastD 0:=by simp[List.getLastD_eq_getLast?,List.getLast?_cons_cons]
   rw[e]
   rcases List.mem_cons.1 hp with rfl | hp
   ·have h1:=h.1 y (by simp)
    have h2:=ih h.2 y (by simp)
    omega
   ·exact ih h.2 p hp
theorem size_bound (ps:List Nat) (hr:Rise ps) : ∀ p∈ps,p<8*size ps:=fun p hp=>by have:=last_max ps hr p hp;unfold size;omega
theorem size_le (ps:List Nat) (h : ∀ p∈ps,p<256):size ps<=32:=by
 unfold size
 by_cases e:ps = []
 ·subst e;simp
 ·have:=h _ (last_mem ps e);omega
theorem row_last (ps:List Nat) (h:ps ≠ []) (hr:Rise ps):(row (size ps) ps).getD (size ps - 1) 0≠0:=by
 intro e
 have h1:=has_row (size ps) ps (ps.getLastD 0) (size_bound ps hr)
 rw[decide_eq_true (last_mem ps h)] at h1
 unfold has at h1
 rw[show ps.getLastD 0 / 8=size ps - 1 by unfold size;omega,e] at h1
 simp at h1
theorem size_places (b:List UInt8) (hb:0<b.length) (h:b.getD (b.length - 1) 0≠0):size (places b)=b.length/\places b ≠ []:=by
 obtain⟨j,hj,hb1⟩ : ∃ j,j<8/\has b (8*(b.length - 1)+j)=true:=by
  apply Classical.byContradiction
  intro hn
  refine h (byte_ext _ _ fun j hj=>?_)
  have:has b (8*(b.length - 1)+j)=false:=by
   by_cases e:has b (8*(b.length - 1)+j)=true
   ·exact absurd ⟨j,hj,e⟩ hn
   ·simpa using e
  unfold has at this
  rw[show (8*(b.length - 1)+j) / 8=b.length - 1 by omega,show (8*(b.length - 1)+j) % 8=j by omega] at this
  rw[this];simp
 have hm:8*(b.length - 1)+j∈places b:=(mem_places b _).2 ⟨by omega,hb1⟩
 have hne:places b ≠ []:=List.ne_nil_of_mem hm
 have h1:=last_max _ (places_rise b) _ hm
 have h2:=((mem_places b _).1 (last_mem _ hne)).1
 exact⟨by unfold size;omega,hne⟩
theorem takeWhile_all {p:UInt16->Bool} (a b:List UInt16) (ha : ∀ x∈a,p x=true) (hb : ∀ x∈b,p x=false):(a++b).takeWhile p=a/\(a++b).dropWhile p=b:=by
 induction a with
 | nil =>
  cases b with
  | nil=>simp
  | cons y b=>simp[hb y (by simp)]
 | cons x a ih =>
  have:=ih (fun y hy=>ha y (List.mem_cons_of_mem _ hy))
  simp[ha x (by simp),this]
theorem takeWhile_mem {p:UInt16->Bool} (r:List UInt16) : ∀ x∈r.takeWhile p,p x=true:=by
 induction r with
 | nil=>simp
 | cons y r ih =>
  intro x hx
  rw[List.takeWhile_cons] at hx
  split at hx
  ·rcases List.mem_cons.1 hx with rfl | hx
   ·assumption
   ·exact ih x hx
  ·simp at hx
theorem rest_hi (t:UInt16) (r:List UInt16) (h:Rising (t::r)) : ∀ x∈r.dropWhile (same t),hi t+1<=hi x:=by
 induction r with
 | nil=>simp
 | cons y r ih =>
  intro x hx
  have h1:=List.pairwise_cons.1 h
  have h2:=List.pairwise_cons.1 h1.2
  rw[List.dropWhile_cons] at hx
  split at hx
  ·exact ih (List.pairwise_cons.2 ⟨fun z hz=>h1.1 z (List.mem_cons_of_mem _ hz),h2.2⟩) x hx
  ·rename_i hs
   have hy:hi y≠hi t:=by simpa [same] using hs
   have h3:=h1.1 y (by simp)
   have h4:y.toNat<=x.toNat:=by
    rcases List.mem_cons.1 hx with rfl | hx
    ·omega
    ·have:=h2.1 x hx;omega
   unfold hi at *; omega
theorem rising_sub {a b:List UInt16} (hs:a.Sublist b) (h:Rising b):Rising a:=h.sublist hs
theorem rising_rest (t:UInt16) (r:List UInt16) (h:Rising (t::r)):Rising (r.dropWhile (same t)):=rising_sub (List.dropWhile_sublist _) (List.pairwise_cons.1 h).2
theorem rising_take (t:UInt16) (r:List UInt16) (h:Rising (t::r)):Rising (t::r.takeWhile (same t)):=rising_sub ((List.takeWhile_sublist _).cons_cons t) h
theorem take_hi (t:UInt16) (r:List UInt16) : ∀ x∈t::r.takeWhile (same t),hi x=hi t:=fun x hx=>by
 rcases List.mem_cons.1 hx with rfl | hx
 ·rfl
 ·simpa [same] using takeWhile_mem r x hx
theorem rise_lo (t:UInt16) (l:List UInt16) (h:Rising l) (hh : ∀ x∈l,hi x=hi t):Rise (l.map lo):=by
 unfold Rise;rw[List.pairwise_map]
 refine h.imp_of_mem fun {x y} hx hy hxy=>?_
 have h1:=hh x hx
 have h2:=hh y hy
 unfold hi at h1 h2;unfold lo;omega
theorem mk_lo (w:Nat) (l:List UInt16) (hh : ∀ x∈l,hi x=w):(l.map lo).map (mk w)=l:=by
 rw[List.map_map]
 conv=>rhs;rw[<- List.map_id l]
 refine List.map_congr_left fun x hx=>?_
 show mk w (lo x)=x
 rw[<- hh x hx];exact mk_eq x
theorem nat8 (n:Nat) (h:n<256):(UInt8.ofNat n).toNat=n:=by rw[UInt8.toNat_ofNat'];omega
theorem opn_bmp (k:Nat) : ∀ (l:List UInt16) (least:Nat),l.length<=k->Rising l->(∀ t∈l,least<=hi t)->opn least (bmp l)=some l:=by
 induction k with
 | zero=>intro l least hl _ _;obtain rfl:l = []:=List.eq_nil_of_length_eq_zero (by omega);rw[bmp_nil,opn_nil]
 | succ k ih =>
  intro l least hl hr hh
  cases l with
  | nil=>rw[bmp_nil,opn_nil]
  | cons t r =>
   rw[bmp_cons]
   have hps:=rise_lo t _ (rising_take t r hr) (take_hi t r)
   have hml:=mk_lo (hi t) _ (take_hi t r)
   have hne:(t::r.takeWhile (same t)).map lo ≠ []:=by simp
   have hlt : ∀ p∈(t::r.takeWhile (same t)).map lo,p<256:=fun p hp=>by
    obtain⟨x,_,rfl⟩:=List.mem_map.1 hp;exact lo_lt x
   generalize (t::r.takeWhile (same t)).map lo=ps at hps hml hne hlt ⊢
   have hsz:=size_le ps hlt
   have hs0:0<size ps:=by unfold size;omega
   have hrow:=row_len (size ps) ps
   unfold win
   rw[List.cons_append,List.cons_append,opn_two,nat8 _ (hi_lt t),nat8 _ (by omega)]
   rw[if_neg (by
    unfold bad
    rw[nat8 _ (hi_lt t),nat8 _ (by omega)]
    rintro (h | h | h | h | h)
    ·have:=hh t (by simp);omega
    ·omega
    ·omega
    ·rw[List.length_append] at h;omega
    ·rw[List.getD_eq_getElem?_getD,List.getElem?_append_left (by omega), <- List.getD_eq_getElem?_getD] at h
     exact row_last ps hne hps h)]
   rw[List.drop_left' hrow,List.take_left' hrow,ih _ _ (by have:=drop_le t r;simp at hl;omega) (rising_rest t r hr) (rest_hi t r hr)]
   unfold typ
   rw[places_row _ _ hps (size_bound ps hps),hml,Option.map_some,List.cons_append,List.takeWhile_append_dropWhile]
theorem bmp_opn (k:Nat) : ∀ (b:List UInt8) (least:Nat) (m:List UInt16),b.length<=k->opn least b=some m->bmp m=b/\Rising m /\ ∀ t∈m,least<=hi t:=by
 induction k with
 | zero =>
  intro b least m hl h
  obtain rfl:b = []:=List.eq_nil_of_length_eq_zero (by omega)
  rw[opn_nil] at h;cases h;exact⟨bmp_nil,List.Pairwise.nil,by simp⟩
 | succ k ih =>
  intro b least m hl h
  match b,hl,h with
  | [],_,h=>rw[opn_nil] at h;cases h;exact⟨bmp_nil,List.Pairwise.nil,by simp⟩
  | [_],_,h=>rw[opn_one] at h;cases h
  | x::n::r,hl,h =>
   rw[opn_two] at h
   split at h
   ·cases h
   ·rename_i hg
    unfold bad at hg
    simp only[not_or] at hg
    obtain⟨g1,g2,g3,g4,g5⟩:=hg
    obtain⟨m',hm',rfl⟩:=Option.map_eq_some_iff.1 h
    obtain⟨i1,i2,i3⟩:=ih _ _ _ (by rw[List.length_drop];simp at hl;omega) hm'
    have hbl:(r.take n.toNat).length=n.toNat:=by rw[List.length_take];omega
    have hlast:(r.take n.toNat).getD ((r.take n.toNat).length - 1) 0≠0:=by
     rw[hbl,List.getD_eq_getElem?_getD,List.getElem?_take,if_pos (by omega), <- List.getD_eq_getElem?_getD];exact g5
    obtain⟨s1,s2⟩:=size_places _ (by omega) hlast
    have hx:x.toNat<256:=x.toNat_lt
    have hpl : ∀ p∈places (r.take n.toNat),p<256:=fun p hp=>by have:=((mem_places _ p).1 hp).1;omega
    have hps:=places_rise (r.take n.toNat)
    have hrow:=row_places (r.take n.toNat)
    rw[hbl] at s1 hrow
    have htk:r.take n.toNat++r.drop n.toNat=r:=List.take_append_drop _ _
    unfold typ
    generalize hP:places (r.take n.toNat)=ps at *
    cases ps with
    | nil=>exact absurd rfl s2
    | cons p ps =>
     have hpp : ∀ q∈p::ps,hi (mk x.toNat q)=x.toNat:=fun q hq=>hi_mk _ _ hx (hpl q hq)
     have hR:Rising ((p::ps).map (mk x.toNat)):=by
      unfold Rising;rw[List.pairwise_map]
      refine hps.imp_of_mem fun {u v} hu hv huv=>?_
      rw[mk_nat _ _ hx (hpl u hu),mk_nat _ _ hx (hpl v hv)];omega
     refine⟨?_,?_,?_⟩
     ·rw[List.map_cons,List.cons_append,bmp_cons]
      obtain⟨t1,t2⟩:=takeWhile_all (p:=same (mk x.toNat p)) (ps.map (mk x.toNat)) m' (fun y hy=>by
       obtain⟨q,hq,rfl⟩:=List.mem_map.1 hy
       simp only[same,decide_eq_true_eq];rw[hpp q (List.mem_cons_of_mem _ hq),hpp p (by simp)]) (fun y hy=>by
       simp only[same,decide_eq_false_iff_not];rw[hpp p (by simp)];have:=i3 y hy;omega)
      rw[t1,t2,i1,hpp p (by simp), <- List.map_cons,List.map_map]
      have e:(p::ps).map (lo ∘ mk x.toNat)=p::ps:=by
       conv=>rhs;rw[<- List.map_id (p::ps)]
       exact List.map_congr_left fun q hq=>lo_mk _ _ hx (hpl q hq)
      rw[e]
      unfold win
      rw[s1,hrow,UInt8.ofNat_toNat,UInt8.ofNat_toNat,List.cons_append,List.cons_append,htk]
     ·unfold Rising
      rw[List.pairwise_append]
      refine⟨hR,i2,fun u hu v hv=>?_⟩
      obtain⟨q,hq,rfl⟩:=List.mem_map.1 hu
      have h1:=i3 v hv
      have h2:=hpl q hq
      rw[mk_nat _ _ hx h2]
      unfold hi at h1;omega
     ·intro t ht
      rcases List.mem_append.1 ht with ht | ht
      ·obtain⟨q,hq,rfl⟩:=List.mem_map.1 ht
       rw[hpp q hq];omega
      ·have:=i3 t ht;omega
end T
namespace D
def by_ (k:Nat) (b:List UInt8):Option (List UInt8 × List UInt8):=if b.length<k then none else some (b.take k,b.drop k)
def n8:List UInt8->Option (Nat × List UInt8)
 | x::r=>some (x.toNat,r)
 | _=>none
def n16:List UInt8->Option (Nat × List UInt8)
 | x::y::r=>some (x.toNat*256+y.toNat,r)
 | _=>none
def n32 (b:List UInt8):Option (Nat × List UInt8):=(n16 b).bind fun p=>(n16 p.2).map fun q=>(p.1*65536+q.1,q.2)
def cnt (b:List UInt8):Option (List UInt8 × List UInt8):=(n8 b).bind fun p=>by_ p.1 p.2
def nm (b:List UInt8):Option (List (List UInt8) × List UInt8):=(N.opn b).bind fun n=>if N.size n<=255 then some (n,b.drop (N.size n)) else none
def p16 (n:Nat):List UInt8 := [UInt8.ofNat (n / 256),UInt8.ofNat n]
def p32 (n:Nat):List UInt8:=p16 (n / 65536)++p16 (n % 65536)
def pc (b:List UInt8):List UInt8:=UInt8.ofNat b.length::b
structure Soa where
 main:List (List UInt8)
 box:List (List UInt8)
 a:Nat
 b:Nat
 c:Nat
 d:Nat
 e:Nat
structure Sig where
 type:Nat
 alg:Nat
 labels:Nat
 ttl:Nat
 expire:Nat
 begin_:Nat
 tag:Nat
 signer:List (List UInt8)
 sig:List UInt8
structure Chain where
 hash:Nat
 flags:Nat
 iter:Nat
 salt:List UInt8
 next:List UInt8
 types:List UInt16
structure Key where
 flags:Nat
 proto:Nat
 alg:Nat
 key:List UInt8
def soa (l:List UInt8):Option (Soa × List UInt8) :=
 (nm l).bind fun m=>(nm m.2).bind fun x=>(n32 x.2).bind fun a=>(n32 a.2).bind fun b=>(n32 b.2).bind fun c=>(n32 c.2).bind fun d=>(n32 d.2).map fun e=>(⟨m.1,x.1,a.1,b.1,c.1,d.1,e.1⟩,e.2)
def sig (l:List UInt8):Option (Sig × List UInt8) :=
 (n16 l).bind fun t=>(n8 t.2).bind fun a=>(n8 a.2).bind fun k=>(n32 k.2).bind fun x=>(n32 x.2).bind fun y=>(n32 y.2).bind fun z=>(n16 z.2).bind fun g=>(nm g.2).map fun s=>(⟨t.1,a.1,k.1,x.1,y.1,z.1,g.1,s.1,s.2⟩, [])
def chain (l:List UInt8):Option (Chain × List UInt8) :=
 (n8 l).bind fun h=>(n8 h.2).bind fun f=>(n16 f.2).bind fun i=>(cnt i.2).bind fun s=>(cnt s.2).bind fun n=>if n.1.length=0 then none else (T.opn 0 n.2).map fun t=>(⟨h.1,f.1,i.1,s.1,n.1,t⟩, [])
def key (l:List UInt8):Option (Key × List UInt8) :=
 (n16 l).bind fun f=>(n8 f.2).bind fun p=>(n8 p.2).map fun a=>(⟨f.1,p.1,a.1,a.2⟩, [])
def soaB (s:Soa):List UInt8:=N.wire s.main++N.wire s.box++p32 s.a++p32 s.b++p32 s.c++p32 s.d++p32 s.e
def sigB (s:Sig):List UInt8:=p16 s.type ++ [UInt8.ofNat s.alg,UInt8.ofNat s.labels]++p32 s.ttl++p32 s.expire++p32 s.begin_++p16 s.tag++N.wire s.signer++s.sig
def chainB (c:Chain):List UInt8 := [UInt8.ofNat c.hash,UInt8.ofNat c.flags]++p16 c.iter++pc c.salt++pc c.next++T.bmp c.types
def keyB (k:Key):List UInt8:=p16 k.flags ++ [UInt8.ofNat k.proto,UInt8.ofNat k.alg]++k.key
def Good (n:List (List UInt8)):Prop := [] ∉ n/\(∀ l∈n,l.length<=63)/\N.size n<=255
def Soa.Ok (s:Soa):Prop:=Good s.main/\Good s.box/\s.a<4294967296/\s.b<4294967296/\s.c<4294967296/\s.d<4294967296/\s.e<4294967296
def Sig.Ok (s:Sig):Prop:=s.type<65536/\s.alg<256/\s.labels<256/\s.ttl<4294967296/\s.expire<4294967296/\s.begin_<4294967296/\s.tag<65536/\Good s.signer
def Chain.Ok (c:Chain):Prop:=c.hash<256/\c.flags<256/\c.iter<65536/\c.salt.length<=255/\c.next.length<=255/\c.next ≠ []/\T.Rising c.types
def Key.Ok (k:Key):Prop:=k.flags<65536/\k.proto<256/\k.alg<256
theorem u8_nat (x:UInt8):UInt8.ofNat x.toNat=x:=by simp
theorem nat_u8 (n:Nat) (h:n<256):(UInt8.ofNat n).toNat=n:=by rw[UInt8.toNat_ofNat'];omega
theorem n8_back {b r:List UInt8} {x:Nat} (h:n8 b=some (x,r)):b=UInt8.ofNat x::r/\x<256:=by
 match b,h with
 | y::r',h=>cases h;exact⟨by rw[u8_nat],y.toNat_lt⟩
theorem p16_of (x y:UInt8):p16 (x.toNat*256+y.toNat) = [x,y]:=by
 have hx:=x.toNat_lt
 have hy:=y.toNat_lt
 unfold p16
 rw[show (x.toNat*256+y.toNat) / 256=x.toNat by omega,u8_nat]
 congr 2
 apply UInt8.toNat_inj.1
 rw[UInt8.toNat_ofNat'];omega
theorem n16_back {b r:List UInt8} {x:Nat} (h:n16 b=some (x,r)):b=p16 x++r/\x<65536:=by
 match b,h with
 | y::z::r',h =>
  cases h
  have hx:=y.toNat_lt
  have hy:=z.toNat_lt
  exact⟨by rw[p16_of];rfl,by omega⟩
theorem n32_back {b r:List UInt8} {x:Nat} (h:n32 b=some (x,r)):b=p32 x++r/\x<4294967296:=by
 unfold n32 at h
 rw[Option.bind_eq_some_iff] at h
 obtain⟨⟨u,r1⟩,h1,h⟩:=h
 rw[Option.map_eq_some_iff] at h
 obtain⟨⟨v,r2⟩,h2,h⟩:=h
 cases h
 obtain⟨e1,l1⟩:=n16_back h1
 obtain⟨e2,l2⟩:=n16_back h2
 replace e2:r1=p16 v++r2:=e2
 refine⟨?_,by omega⟩
 unfold p32
 rw[show (u*65536+v) / 65536=u by omega,show (u*65536+v) % 65536=v by omega,e1,e2,List.append_assoc]
theorem by_back {b x r:List UInt8} {k:Nat} (h:by_ k b=some (x,r)):b=x++r/\x.length=k:=by
 unfold by_ at h
 split at h
 ·cases h
 ·cases h;exact⟨by rw[List.take_append_drop],by rw[List.length_take];omega⟩
theorem cnt_back {b x r:List UInt8} (h:cnt b=some (x,r)):b=pc x++r/\x.length<=255:=by
 unfold cnt at h
 rw[Option.bind_eq_some_iff] at h
 obtain⟨⟨k,r1⟩,h1,h⟩:=h
 obtain⟨e1,l1⟩:=n8_back h1
 obtain⟨e2,l2⟩:=by_back h
 replace e2:r1=x++r:=e2
 replace l2:x.length=k:=l2
 refine⟨?_,by omega⟩
 unfold pc
 rw[e1,l2,e2];rfl
theorem opn_back : ∀ (b:List UInt8) (n:List (List UInt8)),N.opn b=some n->b=N.wire n++b.drop (N.size n)
 | b,n,h=>by
  match b with
  | []=>rw[N.opn_nil] at h;cases h
  | k::r =>
   rw[N.opn] at h
   split at h
   ·rename_i hk
    cases h
    have:k=0:=UInt8.toNat_inj.1 hk
    subst this
    simp[N.wire,N.body,N.size]
   ·split at h
    ·cases h
    ·rename_i hk hk2
     rw[Option.map_eq_some_iff] at h
     obtain⟨m,hm,rfl⟩:=h
     have ih:=opn_back (r.drop k.toNat) m hm
     have hl:(r.take k.toNat).length=k.toNat:=by rw[List.length_take];omega
     have e1:N.size (r.take k.toNat::m)=N.size m+k.toNat+1:=by simp only[N.size,List.map_cons,List.sum_cons,hl];omega
     have e2:N.wire (r.take k.toNat::m)=k::(r.take k.toNat++N.wire m):=by
      simp only[N.wire,N.body,List.flatMap_cons,hl,u8_nat,List.cons_append,List.append_assoc]
     rw[e1,e2,List.drop_succ_cons,List.cons_append,List.append_assoc,Nat.add_comm (N.size m), <- List.drop_drop, <- ih,List.take_append_drop]
termination_by b => b.length
decreasing_by subst_vars; simp only [List.length_drop, List.length_cons]; omega
theorem nm_back {b r:List UInt8} {n:List (List UInt8)} (h:nm b=some (n,r)):b=N.wire n++r/\Good n:=by
 unfold nm at h
 rw[Option.bind_eq_some_iff] at h
 obtain⟨m,h1,h⟩:=h
 split at h
 ·rename_i hs
  cases h
  obtain⟨a,b',_⟩:=N.opn_small _ _ h1
  exact⟨opn_back _ _ h1,a,b',hs⟩
 ·cases h
theorem soa_back {l r:List UInt8} {s:Soa} (h:soa l=some (s,r)):l=soaB s++r/\s.Ok:=by
 simp only[soa,Option.bind_eq_some_iff,Option.map_eq_some_iff,Prod.exists] at h
 obtain⟨m,r1,h1,x,r2,h2,a,r3,h3,b,r4,h4,c,r5,h5,d,r6,h6,e,r7,h7,h⟩:=h
 cases h
 obtain⟨e1,g1⟩:=nm_back h1
 obtain⟨e2,g2⟩:=nm_back h2
 obtain⟨e3,g3⟩:=n32_back h3
 obtain⟨e4,g4⟩:=n32_back h4
 obtain⟨e5,g5⟩:=n32_back h5
 obtain⟨e6,g6⟩:=n32_back h6
 obtain⟨e7,g7⟩:=n32_back h7
 refine⟨?_,g1,g2,g3,g4,g5,g6,g7⟩
 rw[e1,e2,e3,e4,e5,e6,e7]
 simp[soaB]
theorem sig_back {l r:List UInt8} {s:Sig} (h:sig l=some (s,r)):l=sigB s++r/\r = []/\s.Ok:=by
 simp only[sig,Option.bind_eq_some_iff,Option.map_eq_some_iff,Prod.exists] at h
 obtain⟨t,r1,h1,a,r2,h2,k,r3,h3,x,r4,h4,y,r5,h5,z,r6,h6,g,r7,h7,n,r8,h8,h⟩:=h
 cases h
 obtain⟨e1,g1⟩:=n16_back h1
 obtain⟨e2,g2⟩:=n8_back h2
 obtain⟨e3,g3⟩:=n8_back h3
 obtain⟨e4,g4⟩:=n32_back h4
 obtain⟨e5,g5⟩:=n32_back h5
 obtain⟨e6,g6⟩:=n32_back h6
 obtain⟨e7,g7⟩:=n16_back h7
 obtain⟨e8,g8⟩:=nm_back h8
 refine⟨?_,rfl,g1,g2,g3,g4,g5,g6,g7,g8⟩
 rw[e1,e2,e3,e4,e5,e6,e7,e8]
 simp[sigB]
theorem chain_back {l r:List UInt8} {c:Chain} (h:chain l=some (c,r)):l=chainB c++r/\r = []/\c.Ok:=by
 simp only[chain,Option.bind_eq_some_iff,Prod.exists] at h
 obtain⟨a,r1,h1,f,r2,h2,i,r3,h3,s,r4,h4,n,r5,h5,h⟩:=h
 split at h
 ·cases h
 ·rename_i hn
  simp only[Option.map_eq_some_iff] at h
  obtain⟨t,h6,h⟩:=h
  cases h
  obtain⟨e1,g1⟩:=n8_back h1
  obtain⟨e2,g2⟩:=n8_back h2
  obtain⟨e3,g3⟩:=n16_back h3
  obtain⟨e4,g4⟩:=cnt_back h4
  obtain⟨e5,g5⟩:=cnt_back h5
  obtain⟨e6,g6,_⟩:=T.bmp_opn _ _ _ _ (Nat.le_refl _) h6
  refine⟨?_,rfl,g1,g2,g3,g4,g5,fun e=>hn (by have e':n = []:=e;rw[e'];rfl),g6⟩
  rw[e1,e2,e3,e4,e5]
  simp[chainB,e6]
theorem key_back {l r:List UInt8} {k:Key} (h:key l=some (k,r)):l=keyB k++r/\r = []/\k.Ok:=by
 simp only[key,Option.bind_eq_some_iff,Option.map_eq_some_iff,Prod.exists] at h
 obtain⟨f,r1,h1,p,r2,h2,a,r3,h3,h⟩:=h
 cases h
 obtain⟨e1,g1⟩:=n16_back h1
 obtain⟨e2,g2⟩:=n8_back h2
 obtain⟨e3,g3⟩:=n8_back h3
 refine⟨?_,rfl,g1,g2,g3⟩
 rw[e1,e2,e3]
 simp[keyB]
theorem n8_fwd (x:Nat) (r:List UInt8) (h:x<256):n8 (UInt8.ofNat x::r)=some (x,r):=by
 show some ((UInt8.ofNat x).toNat,r)=_
 rw[nat_u8 x h]
theorem n16_fwd (x:Nat) (r:List UInt8) (h:x<65536):n16 (p16 x++r)=some (x,r):=by
 show some ((UInt8.ofNat (x / 256)).toNat*256+(UInt8.ofNat x).toNat,r)=_
 rw[UInt8.toNat_ofNat',UInt8.toNat_ofNat']
 congr 2;omega
theorem n32_fwd (x:Nat) (r:List UInt8) (h:x<4294967296):n32 (p32 x++r)=some (x,r):=by
 unfold n32 p32
 rw[List.append_assoc,n16_fwd _ _ (by omega)]
 simp only[Option.bind_some]
 rw[n16_fwd _ _ (by omega)]
 simp only[Option.map_some]
 congr 2;omega
theorem by_fwd (x r:List UInt8) (k:Nat) (h:x.length=k):by_ k (x++r)=some (x,r):=by
 unfold by_
 rw[if_neg (by rw[List.length_append];omega), <- h,List.take_left,List.drop_left]
theorem nm_fwd (n:List (List UInt8)) (r:List UInt8) (h:Good n):nm (N.wire n++r)=some (n,r):=by
 unfold nm
 rw[N.opn_wire n r h.1 h.2.1,Option.bind_some,if_pos h.2.2, <- N.wire_len,List.drop_left]
theorem soa_fwd (s:Soa) (r:List UInt8) (h:s.Ok):soa (soaB s++r)=some (s,r):=by
 obtain⟨g1,g2,g3,g4,g5,g6,g7⟩:=h
 unfold soa soaB
 simp only[List.append_assoc]
 simp only[nm_fwd _ _ g1,nm_fwd _ _ g2,n32_fwd _ _ g3,n32_fwd _ _ g4,n32_fwd _ _ g5,n32_fwd _ _ g6,n32_fwd _ _ g7,Option.bind_some,Option.map_some]
theorem sig_fwd (s:Sig) (h:s.Ok):sig (sigB s)=some (s, []):=by
 obtain⟨g1,g2,g3,g4,g5,g6,g7,g8⟩:=h
 unfold sig sigB
 simp only[List.append_assoc,List.cons_append,List.nil_append]
 simp only[n16_fwd _ _ g1,n8_fwd _ _ g2,n8_fwd _ _ g3,n32_fwd _ _ g4,n32_fwd _ _ g5,n32_fwd _ _ g6,n16_fwd _ _ g7,nm_fwd _ _ g8,Option.bind_some,Option.map_some]
end D
end Go.Proofs.YtmbcegljmhcdeaaGreat
