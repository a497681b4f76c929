/- SoaBytes, SigBytes, the reader (texts of stage 5, at this seat). -/
import Derived.Test.YtmbcegljmhcdeaaGreatSrC
import Derived.Test.YtmbcegljmhcdeaaGreatSrA
import Derived.Test.YtmbcegljmhcdeaaGreatDat
import Derived.Deep.RegionLaw
import Derived.Lib.AppendStr
import Derived.Deep.RegionWith
import Derived.Laws.BitsAllLaws
namespace Go.Proofs.YtmbcegljmhcdeaaGreat
set_option maxRecDepth 5000
open Go.RowKit
theorem SlL.drop {w:World} {b o k:Nat} {n:List UInt8} (h:SlL w (some ⟨b,o,none⟩) n) (hk:k<=n.length):SlL w (some ⟨b,o+k,none⟩) (n.drop k):=fun hn=>by
 rw[List.length_drop] at hn
 obtain⟨b',o',e,hlt,hc⟩:=h (by omega)
 cases e
 refine⟨b,o+k,rfl,hlt,fun j hj=>?_⟩
 rw[List.length_drop] at hj
 rw[show o+k+j=o+(k+j) by omega,hc (k+j) (by omega)]
 simp[List.getD_eq_getElem?_getD,List.getElem?_drop]
def vh (l:List (UInt16)):List Value:=l.map (fun b => .int .u16 b.toNat)
theorem vh_len (l:List (UInt16)):(vh l).length=l.length:=by simp[vh]
theorem vh_app (l m:List (UInt16)):vh (l++m)=vh l++vh m:=by simp[vh]
theorem vh_one (l:List (UInt16)) : ∀ v∈vh l,v.oneCell'=true:=fun v hv=>by
 simp only[vh,List.mem_map] at hv;obtain⟨j,_,rfl⟩:=hv;rfl
theorem vh_get (l:List (UInt16)) (j:Nat) (h:j<l.length):(vh l)[j]?=some (.int .u16 (l.getD j 0).toNat):=by simp[vh,h]
def SlH (w:World) (ao:Option Addr) (l:List (UInt16)):Prop:=0<l.length -> ∃ b o,ao=some ⟨b,o,none⟩/\b<w.heap.size /\ ∀ j,j<l.length->w.cell? ⟨b,o+j,none⟩=some (.int .u16 (l.getD j 0).toNat)
theorem SlH.below {B:Nat} {w w':World} {ao:Option Addr} {l:List (UInt16)} (h:SlH w ao l) (hb:Below B w w') (hB:w.heap.size<=B):SlH w' ao l:=fun hn=>by
 obtain⟨b,o,e,hlt,hc⟩:=h hn
 exact⟨b,o,e,Nat.lt_of_lt_of_le hlt hb.size,fun j hj=>(hb.cell (p:=⟨b,o+j,none⟩) (Nat.lt_of_lt_of_le hlt hB)).trans (hc j hj)⟩
theorem SlH.one (w:World) (b:UInt16) (t:TypeId):SlH (w.alloc (.cells #[.int .u16 b.toNat] t)) (some ⟨w.heap.size,0,none⟩) [b]:=fun _=>by
 refine⟨w.heap.size,0,rfl,by simp,fun j hj=>?_⟩
 have:j=0:=by simpa using hj
 subst this
 rw[cell_of_row _ _ _ _ t (0,0) (heap_alloc_last w _)];rfl
theorem SlH.oneI (w:World) (x:Int) (b:UInt16) (t:TypeId) (h:x=(b.toNat:Int)):SlH (w.alloc (.cells #[.int .u16 x] t)) (some ⟨w.heap.size,0,none⟩) [b]:=by
 subst h;exact SlH.one w b t
def OwnH (w:World) (base:Nat) (v:Value) (l:List (UInt16)):Prop:=w.ownsRow base 36 1 v l.length (vh l)
theorem OwnH.nil (w:World) (base:Nat):OwnH w base (.slice none 0 0) []:=World.ownsRow_nil _ _ _ _
theorem OwnH.alloc {w:World} {base:Nat} {v:Value} {l:List (UInt16)} (h:OwnH w base v l) (o:Obj):OwnH (w.alloc o) base v l:=World.ownsRow.alloc h o
theorem OwnH.form {w:World} {base:Nat} {v:Value} {l:List (UInt16)} (h:OwnH w base v l) (hl:0<l.length) : ∃ g cap,v = .slice (some ⟨g,0,none⟩) l.length cap/\base<=g/\l.length<=cap/\cap<=maxLen/\g<w.heap.size /\ ∀ j,j<l.length->w.cell? ⟨g,j,none⟩=some (.int .u16 (l.getD j 0).toNat):=by
 have h0:w.ownsRow base 36 1 v l.length (vh l):=h
 rcases h0.2 with⟨_,h'⟩ | ⟨g,cap,cur,rfl,hb,hg,hc,hm,_,_⟩
 ·omega
 ·exact⟨g,cap,rfl,hb,hc,hm,(Array.getElem?_eq_some_iff.1 hg).1,fun j hj=>by rw[World.ownsRow.cellAt h0 j (by omega),vh_get l j hj]⟩
theorem infoH:(Tryz.prog.info? 36).map (fun i=>(i.zero,i.size,i.bytes))=some (some (.int .u16 0),1,2):=by kernel_rfl
theorem wpList_append_H {w:World} {ops:Array Oper} {rest:List Oper} {o:Oper} {a:Act} {Q:Exit->Act->World->Prop} (hgd:o.guard=none) (s x:Operand)
 (ho:o.op = .call { callee := .builtin .append,args := #[s,x],argTypes := #[51,51] }) (base:Nat) (v:Value) (l:List (UInt16)) (hs:a.eval s=v) (hown:OwnH w base v l)
 (ao:Option Addr) (m c:Nat) (l2:List (UInt16)) (hx:a.eval x = .slice ao m c) (hm:l2.length=m) (hsrc:SlH w ao l2) (hnil:ao=none->c=0) (hbound:l.length+m<=1099511627776) (hbase:base<=w.heap.size)
 (h : ∀ v' w',OwnH w' base v' (l++l2)->w.grownBy w' v.ownBlock->wpList Tryz.prog ops Q rest (a.put o.dst v') w'):wpList Tryz.prog ops Q (o::rest) a w:=by
 obtain⟨i0,hi,hz0,hz1,hz2⟩:=info_parts infoH
 subst hm
 cases ao with
 | none =>
  have h0:l2.length=0:=by
   rcases Nat.eq_zero_or_pos l2.length with h | h
   ·exact h
   ·obtain⟨b,o,e,_⟩:=hsrc h;cases e
  obtain rfl:l2 = []:=List.eq_nil_of_length_eq_zero h0
  obtain rfl:=hnil rfl
  refine wpList_append_own_none hgd s x 51 ho base 36 i0 1 Tryz.underlying51 hi v l.length (vh l) hs hown hx ?_
  exact h v w (by rw[List.append_nil];exact hown) ⟨rfl,rfl,rfl,Nat.le_refl _,fun _ _ _=>rfl⟩
 | some ad =>
  refine wpList_append_own w hgd s x 51 ho base 36 i0 (.int .u16 0) 1 2 Tryz.underlying51 hi hz0 hz1 hz2 rfl (by decide) v l.length (vh l) hs hown ad l2.length c (vh l2) hx (by rw[vh_len,Nat.mul_one]) ?_ (vh_one l2) (by unfold maxLen;omega) (by omega) hbase ?_
  ·intro j u hu
   have hj:j<l2.length:=by have:=(List.getElem?_eq_some_iff.1 hu).1;rwa [vh_len] at this
   obtain⟨b,o',e,_,hc⟩:=hsrc (by omega)
   cases e
   rw[Addr.add_mid,hc j hj, <- vh_get l2 j hj,hu]
  ·intro v' w' h1 h2 _
   exact h v' w' (by unfold OwnH;rw[List.length_append,vh_app];exact h1) h2
theorem grown_belowH {w w' w0:World} {base:Nat} {v:Value} {l:List (UInt16)} (hown:OwnH w base v l) (hg:w.grownBy w' v.ownBlock) (hb:Below base w0 w) (hB:base<=w.heap.size):Below base w0 w':=by
 refine hb.grown hg hB fun k hk=>?_
 have h0:w.ownsRow base 36 1 v l.length (vh l):=hown
 rcases h0.2 with⟨rfl,_⟩ | ⟨g,cap,cur,rfl,hg',_⟩
 ·simp[Value.ownBlock] at hk
 ·simp[Value.ownBlock] at hk;omega
theorem OwnH.below {w w':World} {base:Nat} {v:Value} {l:List (UInt16)} (h:OwnH w base v l) (hb:Below w.heap.size w w'):OwnH w' base v l:=by
 have h0:w.ownsRow base 36 1 v l.length (vh l):=h
 refine⟨h0.1,?_⟩
 rcases h0.2 with h1 | ⟨g,cap,cur,e,h1,h2,h3⟩
 ·exact Or.inl h1
 ·exact Or.inr ⟨g,cap,cur,e,h1,by rw[hb.block g (Array.getElem?_eq_some_iff.1 h2).1];exact h2,h3⟩
theorem OwnH.open {w:World} {base:Nat} {v:Value} {l:List UInt16} (h:OwnH w base v l) : ∃ ao c,v = .slice ao l.length c/\SlH w ao l/\(ao=none->c=0)/\l.length<=c/\c<=maxLen:=by
 have h0:w.ownsRow base 36 1 v l.length (vh l):=h
 rcases h0.2 with⟨rfl,hn⟩ | ⟨g,cap,cur,rfl,hb,hg,hc,hm,_,_⟩
 ·exact⟨none,0,by rw[hn],fun hh=>by omega,fun _=>rfl,by omega,by unfold maxLen;omega⟩
 ·exact⟨_,cap,rfl,fun hl=>⟨g,0,rfl,(Array.getElem?_eq_some_iff.1 hg).1,fun j hj=>by rw[Nat.zero_add,World.ownsRow.cellAt h0 j (by omega),vh_get l j hj]⟩,fun hh=>(by cases hh),hc,hm⟩
theorem OwnH.lower {w:World} {base base':Nat} {v:Value} {n:List UInt16} (h:OwnH w base v n) (hb:base'<=base):OwnH w base' v n:=by
 have h0:w.ownsRow base 36 1 v n.length (vh n):=h
 refine⟨h0.1,?_⟩
 rcases h0.2 with h1 | ⟨g,cap,cur,e,h1,h2,h3⟩
 ·exact Or.inl h1
 ·exact Or.inr ⟨g,cap,cur,e,Nat.le_trans hb h1,h2,h3⟩
theorem SlH.drop {w:World} {b o k:Nat} {n:List UInt16} (h:SlH w (some ⟨b,o,none⟩) n) (hk:k<=n.length):SlH w (some ⟨b,o+k,none⟩) (n.drop k):=fun hn=>by
 rw[List.length_drop] at hn
 obtain⟨b',o',e,hlt,hc⟩:=h (by omega)
 cases e
 refine⟨b,o+k,rfl,hlt,fun j hj=>?_⟩
 rw[List.length_drop] at hj
 rw[show o+k+j=o+(k+j) by omega,hc (k+j) (by omega)]
 simp[List.getD_eq_getElem?_getD,List.getElem?_drop]
open Go.RowKit Go.Sort
namespace Q
theorem row_put {w:World} {g n:Nat} {os:Array Obj} {cur:Array Value} {e:TypeId} {fr:Nat × Nat} (d:Array UInt16) (hb:w.heap[g]?=some (.cells cur e fr)) :
 (grow (putRow enc (Sort.ahead w n) g 0 d) os).heap[g]?=some (.cells (putCells enc 0 d cur) e fr):=by
 have hg:g<w.heap.size:=(Array.getElem?_eq_some_iff.1 hb).1
 rw[heap_grow_old _ _ (by simpa using hg)]
 simp[putRow,mapBlock,Sort.ahead,Array.getElem?_modify,hb,onCells]
theorem below_put {w:World} {B g n:Nat} (os:Array Obj) (d:Array UInt16) (hB:B<=g) (hw:B<=w.heap.size):Below B w (grow (putRow enc (Sort.ahead w n) g 0 d) os):=by
 refine⟨rfl,rfl,rfl,by simp,fun k hk=>?_⟩
 rw[heap_grow_old _ _ (by simp;omega)]
 have:g≠k:=by omega
 simp[putRow,mapBlock,Sort.ahead,Array.getElem?_modify,this]
theorem take_put (cur:Array Value) (d:Array UInt16) (k:Nat) (hk:k<=d.size) (h:d.size<=cur.size):(putCells enc 0 d cur).toList.take k=vh (d.toList.take k):=by
 apply List.ext_getElem?
 intro j
 by_cases hj:j<k
 ·have h1:j<cur.size:=by omega
  have h2:j<d.size:=by omega
  rw[List.getElem?_take_of_lt hj,Array.getElem?_toList]
  simp[putCells,h1,h2,vh,List.getElem?_take_of_lt hj,enc]
 ·rw[List.getElem?_eq_none (by simp;omega),List.getElem?_eq_none (by simp[vh];omega)]
theorem own_put {w:World} {base g cap n:Nat} {os:Array Obj} {l:List UInt16} (h:OwnH w base (.slice (some ⟨g,0,none⟩) l.length cap) l) (d:Array UInt16) (hd:d.size=l.length) (k:Nat) (hk:k<=d.size) :
 OwnH (grow (putRow enc (Sort.ahead w n) g 0 d) os) base (.slice (some ⟨g,0,none⟩) k cap) (d.toList.take k):=by
 have h0:w.ownsRow base 36 1 (.slice (some ⟨g,0,none⟩) l.length cap) l.length (vh l):=h
 have hkl:(d.toList.take k).length=k:=by rw[List.length_take];simp;omega
 unfold OwnH
 rw[hkl]
 refine⟨by rw[vh_len,hkl,Nat.mul_one],?_⟩
 rcases h0.2 with⟨e,_⟩ | ⟨g',cap',cur,e,h1,h2,h3,h4,h5,h6⟩
 ·cases e
 ·cases e
  exact Or.inr ⟨g,cap,_,rfl,h1,row_put d h2,by omega,h4,by simp[putCells,h5],by rw[Nat.mul_one];exact take_put cur d k hk (by omega)⟩
theorem own_holds {w:World} {base g cap:Nat} {l:List UInt16} (h:OwnH w base (.slice (some ⟨g,0,none⟩) l.length cap) l):Holds enc w g 0 l.toArray/\g<w.heap.size/\base<=g/\l.length<=cap/\cap<=maxLen:=by
 have h0:w.ownsRow base 36 1 (.slice (some ⟨g,0,none⟩) l.length cap) l.length (vh l):=h
 rcases h0.2 with⟨e,_⟩ | ⟨g',cap',cur,e,h1,h2,h3,h4,h5,h6⟩
 ·cases e
 ·cases e
  refine⟨fun j hj=>?_,(Array.getElem?_eq_some_iff.1 h2).1,h1,h3,h4⟩
  have hj':j<l.length:=by simpa using hj
  refine⟨?_,by rw[Nat.zero_add];exact frozen_of_row w g j cur 36 h2⟩
  rw[Nat.zero_add,World.ownsRow.cellAt h0 j (by omega),vh_get l j hj']
  simp[enc,hj',List.getD_eq_getElem?_getD]
open Go.Lib
theorem compact_rising (d:Array UInt16) (hs:SortedIn lt 0 d.size d):T.Rising (compactUpTo d d.size):=by
 have hle : ∀ i j,i<=j->j<d.size->d[i]!.toNat<=d[j]!.toNat:=fun i j hij hj=>by
  rcases Nat.lt_or_ge i j with h | h
  ·have:=hs i j (Nat.zero_le _) h hj
   simp only[lt,decide_eq_false_iff_not] at this;omega
  ·obtain rfl:i=j:=by omega
   exact Nat.le_refl _
 unfold compactUpTo T.Rising
 rw[List.pairwise_map]
 refine (List.Pairwise.filter (keeps d) List.pairwise_lt_range).imp_of_mem fun {i j} _ hj hij=>?_
 rw[List.mem_filter,List.mem_range] at hj
 have hk:=hj.2
 have h1:=hle i (j - 1) (by omega) (by omega)
 have h2:=hle (j - 1) j (by omega) hj.1
 have h3:d[j]! ≠ d[j - 1]! := by
  unfold keeps at hk
  simpa [show j≠0 by omega] using hk
 have h4:d[j]!.toNat≠d[j - 1]!.toNat:=fun e=>h3 (UInt16.toNat_inj.1 e)
 omega
theorem compact_mem (d:Array UInt16) (x:UInt16):x∈compactUpTo d d.size↔x∈d.toList:=by
 have key : ∀ j,j<d.size->d[j]! ∈ compactUpTo d d.size:=fun j=>by
  induction j with
  | zero=>exact fun hj=>List.mem_map.2 ⟨0,List.mem_filter.2 ⟨List.mem_range.2 hj,by simp[keeps]⟩,rfl⟩
  | succ j ih =>
   intro hj
   by_cases hk:keeps d (j+1)=true
   ·exact List.mem_map.2 ⟨j+1,List.mem_filter.2 ⟨List.mem_range.2 hj,hk⟩,rfl⟩
   ·have e:d[j+1]! = d[j]! := by
     unfold keeps at hk
     simpa using hk
    rw[e];exact ih (by omega)
 constructor
 ·intro hx
  obtain⟨j,hj,rfl⟩:=List.mem_map.1 hx
  have hj':=List.mem_range.1 (List.mem_filter.1 hj).1
  rw[getElem!_pos d j hj'];simp
 ·intro hx
  obtain⟨j,hj,rfl⟩:=List.getElem_of_mem hx
  have hj':j<d.size:=by simpa using hj
  have:=key j hj'
  rw[getElem!_pos d j hj'] at this
  simpa using this
theorem perm_mem {d d':Array UInt16} {N:Nat} (hd:d.size=N) (h:PermIn 0 N d d') (x:UInt16):x∈d'.toList↔x∈d.toList:=by
 have h3:=h.2.2
 have e1:d'.extract 0 N=d':=by rw[<- hd, <- h.1];exact Array.extract_size
 have e2:d.extract 0 N=d:=by rw[<- hd];exact Array.extract_size
 rw[e1,e2] at h3
 exact h3.mem_iff
end Q
open Q Go.Lib
theorem compact_short (ao:Option Addr) (n cap:Nat) (w:World) (hn:n<2):Calls Tryz.prog 218 #[.slice ao n cap] w fun e w'=>e = .returned (.slice ao n cap)/\w'=w:=by
 have e1:(n:Int)<2:=by omega
 go_enter Tryz.func218,Tryz.ntmps218
 go_wp2
 go_ret
 exact⟨rfl,rfl⟩
theorem zero16 (w:World):(zeroValue 36).run Tryz.prog w = .ok (Q.enc 0) w:=Tryz.zeroValue36 w
theorem dec16 (x y:UInt16):decide ((x.toNat:Int)=(y.toNat:Int))=decide (x=y):=by
 apply decide_eq_decide.2
 constructor
 ·intro h;exact UInt16.toNat_inj.1 (by omega)
 ·rintro rfl;rfl
theorem eql16:EqlAt Tryz.prog 36 Q.enc (fun x y=>decide (x=y)):=by
 refine⟨fun x y w=>?_,fun op a b x y w=>GuardAt.int Tryz.prog 36 .u16 op a b x.toNat y.toNat w⟩
 have h:=(EqlAt.intD Tryz.prog 36 .u16).1 (x.toNat:Int) (y.toNat:Int) w
 simp only[dec16] at h
 exact h
theorem neq16:NeqAt Tryz.prog 36 Q.enc (fun x y=>decide (x=y)):=by
 refine⟨fun x y w=>?_,fun op a b x y w=>GuardAt.int Tryz.prog 36 .u16 op a b x.toNat y.toNat w⟩
 have h:=(NeqAt.intD Tryz.prog 36 .u16).1 (x.toNat:Int) (y.toNat:Int) w
 simp only[dec16] at h
 exact h
theorem clean_any (l:List UInt16) (ao:Option Addr) (len cap:Nat) (w:World) (hl:Hid (l.length=len)) (hs:SlH w ao l) (hnil:ao=none->cap=0) (hlen:len<=1000000) :
 Calls Tryz.prog 206 #[.slice ao len cap] w fun e w' => ∃ v c,e = .returned v/\T.IsClean l c/\c.length<=len/\OwnH w' w.heap.size v c/\Below w.heap.size w w':=by
 have HS:=hide hs
 clear hs
 go_enter Tryz.func206,Tryz.ntmps206
 go_wp2_with (at_builtin;refine wpList_append_H rfl (.const (.slice none 0 0)) (.tmp 4) rfl w.heap.size (.slice none 0 0) [] rfl (OwnH.nil _ _) ao _ cap l rfl hl.out (by exact HS.out) hnil (by simp;omega) (Nat.le_refl _) ?_;intro v1 w1 hO1 hG1;have hB1:=grown_belowH (OwnH.nil w w.heap.size) hG1 (Below.refl w.heap.size w) (Nat.le_refl _);rw[List.nil_append] at hO1;clear hG1)
 obtain⟨a1,c1,rfl,hS1,hn1,hc1,hm1⟩:=hO1.open
 by_cases h0:l.length=0
 ·obtain rfl:l = []:=List.eq_nil_of_length_eq_zero h0
  refine (sort_none a1 c1 _).mono ?_
  rintro e w2 ⟨rfl,rfl⟩
  clear hS1 hl
  go_wp2_with (go_at_call 218;refine (compact_short a1 0 c1 _ (by omega)).mono ?_;rintro e w3 ⟨rfl,rfl⟩)
  go_ret
  exact⟨_, [],rfl,⟨List.Pairwise.nil,fun _=>Iff.rfl⟩,by simp,hO1,hB1⟩
 ·obtain⟨g,cap1,e1,hbg,_,_,hglt,_⟩:=hO1.form (by omega)
  cases e1
  obtain⟨hH,hg,_,hlc,hcm⟩:=own_holds hO1
  have hz1:=hB1.size
  refine (sort_any w1 g 0 l.length c1 l.toArray (by simp) (by have:=hl.out;omega) hg hH).mono ?_
  rintro e w2 ⟨rfl,d',hp,hsrt,hSt⟩
  have hd:d'.size=l.length:=hSt.size
  have hmem : ∀ x,x∈d'.toList↔x∈l:=fun x=>by have:=perm_mem (by simp) hp x;simpa using this
  obtain⟨n2,os2,hw2⟩:=hSt.sw
  have hO2:OwnH w2 w.heap.size (.slice (some ⟨g,0,none⟩) l.length c1) d'.toList:=by
   have:=own_put (n:=n2) (os:=os2) hO1 d' hd d'.size (Nat.le_refl _)
   rw[hd,show d'.toList.take l.length=d'.toList from List.take_of_length_le (by simp;omega)] at this
   rw[hw2];exact this
  have hB2:Below w.heap.size w w2:=by
   rw[hw2];exact hB1.trans (below_put os2 d' hbg hz1)
  rw[<- hd] at hsrt
  have hcl:T.IsClean l (compactUpTo d' d'.size):=⟨compact_rising d' hsrt,fun x=>(compact_mem d' x).trans (hmem x)⟩
  have hz2:=hB2.size
  have hO2':OwnH w2 w.heap.size (.slice (some ⟨g,0,none⟩) d'.toList.length c1) d'.toList:=by
   rw[show d'.toList.length=l.length by simpa using hd];exact hO2
  obtain⟨hH2,_,_,_,_⟩:=own_holds hO2'
  have hH2':Holds Q.enc w2 g 0 d':=by simpa using hH2
  have cc:=Tryz.slices_Compact Q.enc (fun _=>rfl) eql16 neq16 0 zero16 g 0 c1 d' w2 hH2' (by have:=hl.out;omega) (by omega)
  rw[hd] at cc
  have hcle:(compactUpTo d' l.length).length<=l.length:=by
   unfold compactUpTo;rw[List.length_map];exact Nat.le_trans (List.length_filter_le _ _) (by simp)
  have HD:=hide hd
  have HCL:=hide hcl
  rw[hd] at HCL
  clear hS1 hH hH2 hH2' hO1 hO2 hp hsrt hSt hw2 hmem hB1 hcl hd
  generalize compactUpTo d' l.length=c at cc HCL hcle
  go_wp2_with (go_at_call 218;refine cc.mono ?_;rintro e w3 ⟨rfl,q,hw3⟩)
  go_ret
  refine⟨_,c,rfl,HCL.out,by rw[<- hl.out];exact hcle,?_,?_⟩
  ·have:=own_put (n:=q) (os := #[]) hO2' (c++List.replicate (l.length - c.length) 0).toArray (by have:=HD.out;simp;omega) c.length (by simp)
   rw[grow_empty] at this
   simpa using this
  ·have:=below_put (n:=q) #[] (c++List.replicate (l.length - c.length) 0).toArray hbg hz2
   rw[grow_empty] at this
   exact hB2.trans this
open Go.RowKit
namespace T
theorem takeWhile_len (p:UInt16->Bool) : ∀ (l:List UInt16) (i:Nat),(∀ j,j<i->p (l.getD j 0)=true)->(i=l.length\/(i<l.length/\p (l.getD i 0)=false))->(l.takeWhile p).length=i
 | [],i,_,h=>by simp at h ⊢; omega
 | x::l,0,_,h=>by
  have:p x=false:=by simpa using h
  simp[this]
 | x::l,i+1,h1,h2=>by
  have hx:p x=true:=by simpa using h1 0 (by omega)
  rw[List.takeWhile_cons,if_pos hx,List.length_cons,takeWhile_len p l i (fun j hj=>by simpa using h1 (j+1) (by omega)) (by simpa using h2)]
theorem same_hi (t x:UInt16):same t x=decide (x.toNat / 256=t.toNat / 256):=rfl
end T
theorem wrap_hi (x:UInt16):IntKind.u16.wrap ((x.toNat:Int) / 256)=((T.hi x:Nat):Int):=by
 have:=x.toNat_lt
 rw[IntKind.wrap_u16];unfold T.hi;omega
theorem bitOf_any (p:Nat) (hp:p<1000000) (w:World):Calls Tryz.prog 219 #[.int .i64 (p:Int)] w fun e w'=>e = .returned (.int .u8 ((2 ^ (7 - p % 8):Nat):Int))/\w'=w:=by
 obtain⟨r,hr⟩ : ∃ r,p % 8=r:=⟨_,rfl⟩
 have h8:r<8:=by omega
 have e1:Int.tmod (p:Int) 8=(r:Int):=by rw[Int.tmod_eq_emod_of_nonneg (by omega)];omega
 have e2:(p:Int) % 8=(r:Int):=by omega
 rw[hr]
 clear hr
 go_enter Tryz.func219,Tryz.ntmps219
 rcases (by omega:r=0\/r=1\/r=2\/r=3\/r=4\/r=5\/r=6\/r=7) with rfl | rfl | rfl | rfl | rfl | rfl | rfl | rfl
 all_goals
  go_wp2
  go_ret
  exact⟨rfl,rfl⟩
set_option maxHeartbeats 1600000 in
theorem firstWindow_any (t:UInt16) (r:List UInt16) (b o cap:Nat) (w:World) (hs:SlH w (some ⟨b,o,none⟩) (t::r)) (hlen:r.length<1000000) :
 Calls Tryz.prog 207 #[.slice (some ⟨b,o,none⟩) (r.length+1) cap] w fun e w'=>e = .returned (.int .i64 (((t::r).takeWhile (T.same t)).length:Nat))/\w'=w:=by
 obtain⟨b',o',e,hb,hc⟩:=hs (by simp)
 cases e
 obtain⟨N,hN⟩ : ∃ N,r.length+1=N:=⟨_,rfl⟩
 have hl:(t::r).length=N:=by simpa using hN
 have hlN:N<=1000000:=by omega
 have hN0:0<N:=by omega
 rw[hl] at hc
 have ht:(t::r).getD 0 0=t:=rfl
 have c0:=hc 0 hN0
 rw[ht] at c0
 have hf:=T.takeWhile_len (T.same t) (t::r)
 rw[hl] at hf
 rw[hN]
 obtain⟨G,hG⟩ : ∃ G:Nat->UInt16,∀ j,(t::r).getD j 0=G j:=⟨fun j=>(t::r).getD j 0,fun _=>rfl⟩
 have HG0:Hid (G 0=t):=(hG 0).symm.trans ht
 have e0:=wrap_hi (G 0)
 simp only[hG] at hc hf
 have HF:=hide hf
 generalize ((t::r).takeWhile (T.same t)).length=K at HF
 clear hf hs hG ht hl hN
 go_enter Tryz.func207,Tryz.ntmps207
 go_wp2
 go_loopw [7] (fun v W => ∃ i:Nat,v = .int .i64 (i:Int)/\i<=N/\W=w /\ ∀ j,j<i->T.same t (G j)=true) (fun v _=>N - (intOf v).toNat)
 case atStart=>exact⟨0,rfl,by omega,rfl,fun j hj=>by omega⟩
 case round =>
  obtain⟨i,rfl,hi,rfl,hall⟩:=hrel
  have HA:=hide hall
  clear hall
  by_cases hiN:i<N
  ·have c1:=hc i hiN
   have e1:=wrap_hi (G i)
   go_wp2
   ·have hne:(((T.hi (G i):Nat):Int) != ((T.hi (G 0):Nat):Int))=true:=by assumption
    have hne2:T.same t (G i)=false:=by
     rw[<- HG0.out]
     simp only[T.same,decide_eq_false_iff_not]
     intro e
     rw[e] at hne;simp at hne
    go_ret
    exact⟨by rw[HF.out i HA.out (Or.inr ⟨hiN,hne2⟩)];rfl,rfl⟩
   ·have heq:(((T.hi (G i):Nat):Int) != ((T.hi (G 0):Nat):Int))=false:=by assumption
    have heq2:T.same t (G i)=true:=by
     rw[<- HG0.out]
     simp only[T.same,decide_eq_true_eq]
     simp at heq;omega
    go_roundw
    case rel=>exact⟨i+1,by go_num,by omega,by trivial,fun j hj=>by
     rcases Nat.lt_or_ge j i with h | h
     ·exact HA.out j h
     ·obtain rfl:j=i:=by omega
      exact heq2⟩
    case measure=>simp[intOf];omega
  ·obtain rfl:i=N:=by omega
   go_wp2
   go_ret
   exact⟨by rw[HF.out i HA.out (Or.inl rfl)];rfl,rfl⟩
def ArB (w:World) (g:Nat) (q:List UInt8):Prop:=w.heap[g]?=some (.cells (vb q).toArray 269 (0,0))
theorem ArB.cell {w:World} {g:Nat} {q:List UInt8} (h:ArB w g q) (j:Nat) (hj:j<q.length):w.cell? ⟨g,j,none⟩=some (.int .u8 (q.getD j 0).toNat):=by
 rw[cell_of_row w g j _ 269 (0,0) h]
 simp only[List.getElem?_toArray]
 exact vb_get q j hj
theorem ArB.frozen {w:World} {g:Nat} {q:List UInt8} (h:ArB w g q) (j:Nat):w.frozen? ⟨g,j,none⟩=false:=frozen_of_row w g j _ 269 h
theorem ArB.lt {w:World} {g:Nat} {q:List UInt8} (h:ArB w g q):g<w.heap.size:=(Array.getElem?_eq_some_iff.1 h).1
theorem ArB.set {w:World} {g:Nat} {q:List UInt8} (h:ArB w g q) (j:Nat) (c:UInt8):ArB (w.setCell ⟨g,j,none⟩ (.int .u8 (c.toNat:Int))) g (q.set j c):=by
 unfold ArB
 rw[heap_setCell_same w g j _ 269 _ h]
 simp[vb,List.map_set]
theorem ArB.sl {w:World} {g:Nat} {q:List UInt8} (h:ArB w g q) (n:Nat):SlL w (some ⟨g,0,none⟩) (q.take n):=fun _ =>
 ⟨g,0,rfl,h.lt,fun j hj=>by
  rw[List.length_take] at hj
  rw[Nat.zero_add,h.cell j (by omega),List.getD_eq_getElem?_getD,List.getD_eq_getElem?_getD,List.getElem?_take_of_lt (by omega)]⟩
theorem ArB.drewN {w:World} {g:Nat} {q:List UInt8} (h:ArB w g q) (n:Nat):ArB (w.drewN n) g q:=h
open Go.RowKit
namespace T
theorem take_nextH (n:List UInt16) (j:Nat) (h:j<n.length):n.take (j+1)=n.take j ++ [n.getD j 0]:=by
 rw[List.take_add_one,List.getElem?_eq_getElem h,List.getD_eq_getElem?_getD,List.getElem?_eq_getElem h];rfl
theorem map_take_next (l:List UInt16) (i:Nat) (h:i<l.length):(l.take (i+1)).map lo=(l.take i).map lo ++ [lo (l.getD i 0)]:=by
 rw[take_nextH l i h,List.map_append];rfl
theorem setb_at (b:List UInt8) (p:Nat):setb b p=b.set (p / 8) (UInt8.ofNat ((b.getD (p / 8) 0).toNat ||| 2 ^ (7 - p % 8))):=rfl
theorem last_lo (l:List UInt16) (h:0<l.length):(l.map lo).getLastD 0=lo (l.getD (l.length - 1) 0):=by
 have hne:l ≠ []:=by intro e;subst e;simp at h
 rw[List.getLastD_eq_getLast?,List.getLast?_map,List.getLast?_eq_getElem?,List.getD_eq_getElem?_getD,List.getElem?_eq_getElem (by omega)]
 rfl
end T
theorem grown_ar {w w':World} {g:Nat} {q:List UInt8} {k:Option Nat} (h:ArB w g q) (hg:w.grownBy w' k) (hk:k≠some g):ArB w' g q:=by
 unfold ArB
 rw[hg.block g h.lt (fun e=>hk e.symm)];exact h
theorem OwnB.ar {w:World} {B:Nat} {v:Value} {q:List UInt8} (h:OwnB w B v q) {g:Nat} {x:List UInt8} (hg:ArB w g x) (j:Nat) (c:Value):OwnB (w.setCell ⟨g,j,none⟩ c) B v q:=by
 have h0:w.ownsRow B 5 1 v q.length (vb q):=h
 refine⟨h0.1,?_⟩
 rcases h0.2 with h2 | ⟨g',cap,cur',rfl,h3,hg',h4⟩
 ·exact Or.inl h2
 ·refine Or.inr ⟨g',cap,cur',rfl,h3,?_,h4⟩
  rw[heap_setCell_other _ _ _ _ (fun e1=>?_)]
  ·exact hg'
  ·have e2:g'=g:=e1
   subst e2
   unfold ArB at hg
   rw[hg] at hg'
   simp at hg'
theorem OwnB.ne_ar {w:World} {B:Nat} {v:Value} {q:List UInt8} (h:OwnB w B v q) {g:Nat} {x:List UInt8} (hg:ArB w g x):v.ownBlock≠some g:=by
 have h0:w.ownsRow B 5 1 v q.length (vb q):=h
 rcases h0.2 with⟨rfl,_⟩ | ⟨g',cap,cur',rfl,h3,hg',h4⟩
 ·simp[Value.ownBlock]
 ·intro e
  have e2:g'=g:=by simpa [Value.ownBlock] using e
  subst e2
  unfold ArB at hg
  rw[hg] at hg'
  simp at hg'
theorem ArB.alloc {w:World} {g:Nat} {q:List UInt8} (h:ArB w g q) (o:Obj):ArB (w.alloc o) g q:=by
 have hb:=((Below.refl w.heap.size w).alloc (Nat.le_refl _) o).block g h.lt
 unfold ArB;rw[hb];exact h
theorem OwnB.drewN {w:World} {B:Nat} {v:Value} {q:List UInt8} (h:OwnB w B v q) (n:Nat):OwnB (w.drewN n) B v q:=h
set_option maxRecDepth 3000 in
set_option maxHeartbeats 3200000 in
theorem appendWindow_any (t:UInt16) (l:List UInt16) (q:List UInt8) (B b o len cap:Nat) (v:Value) (w:World) (hl:Hid (l.length=len)) (h0:0<len) (hlen:len<=1000000) (hs:SlH w (some ⟨b,o,none⟩) l) (hO:OwnB w B v q) (hB:B<=w.heap.size) (hq:q.length<=10000000) (hh : ∀ x∈l,T.hi x=T.hi t) (hR:T.Rising l) :
 Calls Tryz.prog 208 #[v,.slice (some ⟨b,o,none⟩) len cap] w fun e w' => ∃ v',e = .returned v'/\OwnB w' B v' (q++T.win (T.hi t) (l.map T.lo))/\Below B w w':=by
 obtain⟨b',o',e,hb,hc⟩:=hs (by rw[hl.out];exact h0)
 cases e
 rw[hl.out] at hc
 clear hs
 have HPS:Hid (T.Rise (l.map T.lo)):=T.rise_lo t l hR hh
 clear hR
 have hA:ArB (w.alloc (.cells (vb (List.replicate 32 0)).toArray 269 (0,0))) w.heap.size (T.row 32 ((l.take 0).map T.lo)):=heap_alloc_last w _
 go_enter Tryz.func208,Tryz.ntmps208
 go_wp2
 have hO1:OwnB (w.alloc (.cells (vb (List.replicate 32 0)).toArray 269 (0,0))) B v q:=hO.alloc _
 have hB1:Below w.heap.size w (w.alloc (.cells (vb (List.replicate 32 0)).toArray 269 (0,0))):=(Below.refl _ _).alloc (Nat.le_refl _) _
 clear hO
 go_loopw [13] (fun u W => ∃ i:Nat,u = .int .i64 (i:Int)/\i<=len/\ArB W w.heap.size (T.row 32 ((l.take i).map T.lo))/\OwnB W B v q/\Below w.heap.size w W) (fun u _=>len - (intOf u).toNat)
 case atStart=>exact⟨0,rfl,by omega,hA,hO1,hB1⟩
 case round =>
  clear hA hO1 hB1
  obtain⟨i,rfl,hi,hA,hO,hBw⟩:=hrel
  have hz:=hBw.size
  by_cases hil:i<len
  ·have hx:=(hBw.cell (p:=⟨b,o+i,none⟩) hb).trans (hc i hil)
   have hn:=T.map_take_next l i (by rw[hl.out];exact hil)
   obtain⟨x,hxd⟩ : ∃ x,l.getD i 0=x:=⟨_,rfl⟩
   rw[hxd] at hx hn
   clear hxd
   obtain⟨p,hp⟩ : ∃ p,T.lo x=p:=⟨_,rfl⟩
   have hp2:p<256:=by rw[<- hp];exact T.lo_lt x
   have e1:(x.toNat:Int) % 256=(p:Int):=by rw[<- hp];unfold T.lo;omega
   have e1':Int.tmod (x.toNat:Int) 256=(p:Int):=by rw[Int.tmod_eq_emod_of_nonneg (by omega)];exact e1
   have e1'':IntKind.u16.wrap (p:Int)=(p:Int):=by rw[IntKind.wrap_u16];omega
   obtain⟨k,hk⟩ : ∃ k,p / 8=k:=⟨_,rfl⟩
   have e2:(p:Int) / 8=(k:Int):=by omega
   have e2':Int.tdiv (p:Int) 8=(k:Int):=by rw[Int.tdiv_eq_ediv_of_nonneg (by omega)];exact e2
   have hk2:k<32:=by omega
   have hk2':(k:Int)<32:=by omega
   have e4:IntKind.i64.wrap (k:Int)=(k:Int):=wrap_nat k (by omega)
   rw[hp] at hn
   have hrow:=T.row_snoc 32 ((l.take i).map T.lo) p
   rw[<- hn,T.setb_at,hk] at hrow
   have hcell:=hA.cell k (by rw[T.row_len];exact hk2)
   have hfr:=hA.frozen k
   obtain⟨y,hy⟩ : ∃ y,(T.row 32 ((l.take i).map T.lo)).getD k 0=y:=⟨_,rfl⟩
   rw[hy] at hcell hrow
   obtain⟨m,hm⟩ : ∃ m:Nat,2 ^ (7 - p % 8)=m:=⟨_,rfl⟩
   have hm2:y.toNat ||| m<256:=by rw[<- hm];exact T.or_small y _ (by omega)
   have hm3:m<256:=by
    rw[<- hm]
    have:2 ^ (7 - p % 8)<2 ^ 8:=Nat.pow_lt_pow_right (by omega) (by omega)
    omega
   rw[hm] at hrow
   obtain⟨z,hzz⟩ : ∃ z,UInt8.ofNat (y.toNat ||| m)=z:=⟨_,rfl⟩
   have e3:bits .or .u8 (y.toNat:Int) (m:Int)=(z.toNat:Int):=by
    rw[u8_or_nat _ _ y.toNat_lt hm3, <- hzz,T.nat8 _ hm2]
   rw[hzz] at hrow
   have cb:=fun W=>bitOf_any p (by omega) W
   rw[hm] at cb
   have HR:=hide hrow
   have HA:=hide hA
   have HO:=hide hO
   clear hrow hn hA hO hm hm2 hm3 hzz hy hk hp
   go_wp2
   go_region_with (go_at_call 219;refine (cb _).mono ?_;rintro e w5 ⟨rfl,rfl⟩)
   all_goals go_wp2
   all_goals
    go_roundw
    case rel=>exact⟨i+1,by go_num,by omega,(by rw[HR.out];exact (HA.out.set k z).drewN 1),(HO.out.ar HA.out k _).drewN 1,below_drew (hBw.setCell (Nat.le_refl _) _)⟩
    case measure=>simp[intOf];omega
  ·obtain rfl:i=len:=by omega
   rw[show l.take i=l from List.take_of_length_le (by rw[hl.out];exact Nat.le_refl _)] at hA
   have hx:=(hBw.cell (p:=⟨b,o+(i - 1),none⟩) hb).trans (hc (i - 1) (by omega))
   have hlast:=T.last_lo l (by rw[hl.out];exact h0)
   rw[hl.out] at hlast
   have hmem:l.getD (i - 1) 0∈l:=by
    rw[List.getD_eq_getElem?_getD,List.getElem?_eq_getElem (by rw[hl.out];omega)]
    exact List.getElem_mem _
   have hhi:=hh _ hmem
   obtain⟨x,hxd⟩ : ∃ x,l.getD (i - 1) 0=x:=⟨_,rfl⟩
   rw[hxd] at hx hlast hhi
   clear hxd hmem hh
   obtain⟨p,hp⟩ : ∃ p,T.lo x=p:=⟨_,rfl⟩
   have hp2:p<256:=by rw[<- hp];exact T.lo_lt x
   have e1:(x.toNat:Int) % 256=(p:Int):=by rw[<- hp];unfold T.lo;omega
   have e1':Int.tmod (x.toNat:Int) 256=(p:Int):=by rw[Int.tmod_eq_emod_of_nonneg (by omega)];exact e1
   have e1'':IntKind.u16.wrap (p:Int)=(p:Int):=by rw[IntKind.wrap_u16];omega
   obtain⟨k,hk⟩ : ∃ k,p / 8=k:=⟨_,rfl⟩
   have e2:(p:Int) / 8=(k:Int):=by omega
   have e2':Int.tdiv (p:Int) 8=(k:Int):=by rw[Int.tdiv_eq_ediv_of_nonneg (by omega)];exact e2
   have e2'':IntKind.u16.wrap (k:Int)=(k:Int):=by rw[IntKind.wrap_u16];omega
   have e5:=wrap_hi x
   have h256:=T.hi_lt x
   rw[hhi] at e5 h256
   obtain⟨H,hH⟩ : ∃ H,T.hi t=H:=⟨_,rfl⟩
   rw[hH] at e5 h256
   obtain⟨n,hn⟩ : ∃ n,k+1=n:=⟨_,rfl⟩
   have e6:IntKind.u16.wrap ((k:Int)+1)=(n:Int):=by rw[IntKind.wrap_u16];omega
   have e7:IntKind.u8.wrap (H:Int)=(H:Int):=by rw[IntKind.wrap_u8];omega
   have e8:IntKind.u8.wrap (n:Int)=(n:Int):=by rw[IntKind.wrap_u8];omega
   have hn32:n<=32:=by omega
   have hn32':(n:Int)<=32:=by omega
   have hsz:T.size (l.map T.lo)=n:=by unfold T.size;rw[hlast,hp];omega
   have hwin:T.win (T.hi t) (l.map T.lo) = [UInt8.ofNat H,UInt8.ofNat n]++(T.row 32 (l.map T.lo)).take n:=by
    have hb8:=T.size_bound _ HPS.out
    rw[hsz] at hb8
    unfold T.win
    rw[hsz,hH,T.row_take n 32 _ hb8 hn32];rfl
   have hrl:((T.row 32 (l.map T.lo)).take n).length=n:=by rw[List.length_take,T.row_len];omega
   have HW:=hide hwin
   have HA:=hide hA
   have HO:=hide hO
   have hz1:B<=wr.heap.size:=by omega
   clear hwin hsz hA hO hn hk hp hlast hhi hH hc
   generalize hrw:(T.row 32 (l.map T.lo))=rw32 at HW HA hrl
   have HRL:=hide hrl
   clear hrw hrl
   go_wp2_with (first
    | (at_builtin;refine wpList_append_B rfl (.tmp 39) (.tmp 45) rfl B v q rfl (by exact HO.out.alloc _) _ _ _ [UInt8.ofNat H,UInt8.ofNat n] rfl rfl (SlL.litm _ _ _ _ _ (by simp[vb,T.nat8 H h256,T.nat8 n (by omega)])) (by simp) (by simp;omega) (by simp;omega) ?_;intro v4 w4 hO4 hG4;have HO4:=hide hO4;have hB4:=grown_below (HO.out.alloc _) hG4 ((hBw.mono hB).alloc hz1 _) (by simp;omega);have hA4:=grown_ar (HA.out.alloc _) hG4 (HO.out.ne_ar HA.out);have HA4:=hide hA4;have hz4:B<=w4.heap.size:=(by have:=hG4.size;simp at this;omega);clear hG4 hO4 hA4)
    | (at_builtin;refine wpList_append_B rfl (.tmp 47) (.tmp 49) rfl B v4 _ rfl (by exact HO4.out) _ _ _ (rw32.take n) rfl HRL.out (by exact HA4.out.sl n) (by simp) (by simp;omega) hz4 ?_;intro v5 w5 hO5 hG5;have hB5:=grown_below HO4.out hG5 hB4 hz4;clear hG5))
   go_ret
   refine⟨_,rfl,?_,hB5⟩
   rw[HW.out, <- List.append_assoc];exact hO5
open Go.RowKit
namespace T
theorem win_len (w:Nat) (ps:List Nat):(win w ps).length=2+size ps:=by unfold win;rw[List.length_cons,List.length_cons,row_len];omega
theorem bmp_len (k:Nat) : ∀ l:List UInt16,l.length<=k->(bmp l).length<=34*l.length:=by
 induction k with
 | zero=>intro l hl;obtain rfl:l = []:=List.eq_nil_of_length_eq_zero (by omega);rw[bmp_nil];simp
 | succ k ih =>
  intro l hl
  cases l with
  | nil=>rw[bmp_nil];simp
  | cons t r =>
   rw[bmp_cons,List.length_append,win_len]
   have h1:=size_le ((t::r.takeWhile (same t)).map lo) (fun p hp=>by obtain⟨x,_,rfl⟩:=List.mem_map.1 hp;exact lo_lt x)
   have h2:=drop_le t r
   have h3:=ih (r.dropWhile (same t)) (by simp at hl;omega)
   simp only[List.length_cons]
   omega
theorem tw_self (t:UInt16) (r:List UInt16):(t::r).takeWhile (same t)=t::r.takeWhile (same t):=by
 rw[List.takeWhile_cons,if_pos (by simp[same])]
theorem tw_take (p:UInt16->Bool) (l:List UInt16):l.take (l.takeWhile p).length=l.takeWhile p/\l.drop (l.takeWhile p).length=l.dropWhile p:=by
 have h:=List.takeWhile_append_dropWhile (p:=p) (l:=l)
 have h1:(l.takeWhile p++l.dropWhile p).take (l.takeWhile p).length=l.takeWhile p:=List.take_left
 have h2:(l.takeWhile p++l.dropWhile p).drop (l.takeWhile p).length=l.dropWhile p:=List.drop_left
 rw[h] at h1 h2
 exact⟨h1,h2⟩
theorem dw_self (t:UInt16) (r:List UInt16):(t::r).dropWhile (same t)=r.dropWhile (same t):=by
 rw[List.dropWhile_cons,if_pos (by simp[same])]
end T
def lenOf:Value->Nat | .slice _ n _=>n | _=>0
theorem SlH.take {w:World} {ao:Option Addr} {l:List UInt16} (h:SlH w ao l) (k:Nat):SlH w ao (l.take k):=fun hn=>by
 rw[List.length_take] at hn
 obtain⟨b,o,e,hlt,hc⟩:=h (by omega)
 refine⟨b,o,e,hlt,fun j hj=>?_⟩
 rw[List.length_take] at hj
 rw[hc j (by omega),List.getD_eq_getElem?_getD,List.getD_eq_getElem?_getD,List.getElem?_take_of_lt (by omega)]
set_option maxRecDepth 3000 in
set_option maxHeartbeats 3200000 in
theorem bitmap_any (l:List UInt16) (ao:Option Addr) (len cap:Nat) (w:World) (hl:Hid (l.length=len)) (hs:SlH w ao l) (hnil:ao=none->cap=0) (hlen:len<=70000) :
 Calls Tryz.prog 185 #[.slice ao len cap] w fun e w' => ∃ v c,e = .returned v/\T.IsClean l c/\c.length<=len/\OwnB w' w.heap.size v (T.bmp c)/\Below w.heap.size w w':=by
 have cc:=clean_any l ao len cap w hl hs hnil (by omega)
 clear hs
 go_enter Tryz.func185,Tryz.ntmps185
 go_wp2_with (go_at_call 206;refine cc.mono ?_;rintro e w1 ⟨v1,c,rfl,hcl,hcn,hO1,hB1⟩)
 clear cc
 obtain⟨a1,c1,rfl,hS1,hn1,hc1,hm1⟩:=hO1.open
 have hbl:=T.bmp_len c.length c (Nat.le_refl _)
 have HCL:=hide hcl
 have hR:=hcl.1
 clear hcl hO1
 go_loopw [3,4] (fun v3 v4 W => ∃ (rest:List UInt16) (ao:Option Addr) (cap:Nat) (q:List UInt8),v4 = .slice ao rest.length cap/\SlH w1 ao rest/\rest.length<=cap/\cap<=maxLen/\rest.length<=c.length/\T.Rising rest/\OwnB W w1.heap.size v3 q/\Below w1.heap.size w1 W/\q++T.bmp rest=T.bmp c) (fun _ v4 _=>lenOf v4)
 case atStart=>exact⟨c,a1,c1, [],rfl,hS1,hc1,hm1,Nat.le_refl _,hR,OwnB.nil _ _,Below.refl _ _,rfl⟩
 case round =>
  clear hS1 hn1 hc1 hm1 hR
  obtain⟨rest,ao,cap2,q,rfl,hS,hcap,hmax,hrl,hR,hO,hB,hE⟩:=hrel
  have hz:=hB.size
  cases rest with
  | nil =>
   have HE:=hide hE
   clear hE
   go_wp2
   go_ret
   refine⟨_,c,rfl,HCL.out,hcn,?_,hB1.trans (hB.mono hB1.size)⟩
   have e:=HE.out
   rw[T.bmp_nil,List.append_nil] at e
   rw[<- e]
   exact hO.lower hB1.size
  | cons t r =>
   have hSr:SlH wr ao (t::r):=hS.below hB (Nat.le_refl _)
   obtain⟨b,o,rfl,hb,hcc⟩:=hS (by simp)
   have hrN:r.length+1<=70000:=by simp at hrl;omega
   have cf:=firstWindow_any t r b o cap2 wr hSr (by omega)
   have hts:=T.tw_self t r
   obtain⟨m1,m2⟩:=T.tw_take (T.same t) (t::r)
   have hkle:((t::r).takeWhile (T.same t)).length<=r.length+1:=by
    have:=(List.takeWhile_sublist (p:=T.same t) (l:=t::r)).length_le;simpa using this
   have hk1:1<=((t::r).takeWhile (T.same t)).length:=by rw[hts];simp
   have hS2:SlH wr (some ⟨b,o,none⟩) ((t::r).takeWhile (T.same t)):=by rw[<- m1];exact hSr.take _
   have hbm:=T.bmp_cons t r
   rw[<- hts, <- T.dw_self t r] at hbm
   have hRt:T.Rising ((t::r).takeWhile (T.same t)):=by rw[hts];exact T.rising_take t r hR
   have hhi : ∀ x∈(t::r).takeWhile (T.same t),T.hi x=T.hi t:=by rw[hts];exact T.take_hi t r
   have hRd:T.Rising ((t::r).dropWhile (T.same t)):=by rw[T.dw_self];exact T.rising_rest t r hR
   have hql:q.length<=10000000:=by
    have:=congrArg List.length hE
    rw[List.length_append] at this;omega
   have hdl:((t::r).dropWhile (T.same t)).length+((t::r).takeWhile (T.same t)).length=r.length+1:=by
    have:=congrArg List.length (List.takeWhile_append_dropWhile (p:=T.same t) (l:=t::r))
    rw[List.length_append] at this
    simp at this ⊢; omega
   have hSd:SlH w1 (some ⟨b,o+((t::r).takeWhile (T.same t)).length,none⟩) ((t::r).dropWhile (T.same t)):=by
    rw[<- m2];exact SlH.drop hS (by simpa using hkle)
   rw[hbm] at hE
   have ca:=fun v=>appendWindow_any t ((t::r).takeWhile (T.same t)) q w1.heap.size b o ((t::r).takeWhile (T.same t)).length cap2 v wr rfl hk1 (by omega) hS2
   generalize (t::r).takeWhile (T.same t)=tw at *
   generalize (t::r).dropWhile (T.same t)=dw at *
   have HE:=hide hE
   have HO:=hide hO
   obtain⟨k,hk⟩ : ∃ k,tw.length=k:=⟨_,rfl⟩
   rw[hk] at cf ca hkle hk1 hdl hSd
   simp only[List.length_cons] at hcap
   have hkc:k<=cap2:=by omega
   clear hE hO hbm m1 m2 hts hS hSr hcc hS2 hk hR
   simp only[List.length_cons]
   go_wp2_with (first
    | (go_at_call 207;refine cf.mono ?_;rintro e w2 ⟨rfl,rfl⟩)
    | (go_at_call 208;refine (ca _ HO.out hz hql hhi hRt).mono ?_;rintro e w3 ⟨v3,rfl,hO3,hB3⟩))
   go_roundw
   case rel =>
    refine⟨dw,_,cap2 - k,_,by rw[show dw.length=r.length+1 - k by omega],?_,by omega,by omega,by simp at hrl;omega,hRd,hO3,hB.trans hB3,by rw[<- HE.out,List.append_assoc]⟩
    by_cases e:cap2=k
    ·intro hn;omega
    ·rw[if_neg e];exact hSd
   case measure=>simp[lenOf];omega
open Go.RowKit
theorem p16_len (n:Nat):(D.p16 n).length=2:=rfl
theorem p32_len (n:Nat):(D.p32 n).length=4:=rfl
theorem sum_len : ∀ (n:List (List UInt8)) (l:List UInt8),l∈n->l.length+1<=(n.map (fun l=>l.length+1)).sum
 | a::n,l,h=>by
  rw[List.map_cons,List.sum_cons]
  rcases List.mem_cons.1 h with rfl | h
  ·omega
  ·have:=sum_len n l h;omega
theorem len_sum : ∀ (n:List (List UInt8)),n.length<=(n.map (fun l=>l.length+1)).sum
 | []=>by simp
 | a::n=>by
  have:=len_sum n
  rw[List.map_cons,List.sum_cons,List.length_cons];omega
theorem small_of {n:List (List UInt8)} (h:N.size n<=1000):N.Small n:=by
 unfold N.size at h
 exact⟨by have:=len_sum n;omega,fun l hl=>by have:=sum_len n l hl;omega⟩
set_option maxHeartbeats 1600000 in
theorem soaBytes_any (s:D.Soa) (a1 a2:Option Addr) (n1 c1 n2 c2:Nat) (w:World) (h1:Hid (s.main.length=n1)) (h2:Hid (s.box.length=n2)) (hs1:SlS w a1 s.main) (hs2:SlS w a2 s.box) (hz1:N.size s.main<=1000) (hz2:N.size s.box<=1000)
 (ha:s.a<4294967296) (hb:s.b<4294967296) (hc:s.c<4294967296) (hd:s.d<4294967296) (he:s.e<4294967296) :
 Calls Tryz.prog 179 #[.agg #[.slice a1 n1 c1,.slice a2 n2 c2,.int .u32 (s.a:Int),.int .u32 (s.b:Int),.int .u32 (s.c:Int),.int .u32 (s.d:Int),.int .u32 (s.e:Int)]] w fun e w' => ∃ v',e = .returned v'/\OwnB w' w.heap.size v' (D.soaB s)/\Below w.heap.size w w':=by
 have S1:=hide hs1
 have S2:=hide hs2
 have m1:=hide (small_of hz1)
 have m2:=hide (small_of hz2)
 have l1:=N.wire_len s.main
 have l2:=N.wire_len s.box
 clear hs1 hs2
 unfold D.soaB
 obtain⟨main,box,a,b,c,d,e⟩:=s
 simp only at h1 h2 S1 S2 m1 m2 l1 l2 hz1 hz2 ha hb hc hd he ⊢
 have HROW:=hide (RowAt.new w 166 #[.slice a1 n1 c1,.slice a2 n2 c2,.int .u32 (a:Int),.int .u32 (b:Int),.int .u32 (c:Int),.int .u32 (d:Int),.int .u32 (e:Int)])
 have HB0:=hide ((Below.refl w.heap.size w).alloc (Nat.le_refl _) (.cells #[.slice a1 n1 c1,.slice a2 n2 c2,.int .u32 (a:Int),.int .u32 (b:Int),.int .u32 (c:Int),.int .u32 (d:Int),.int .u32 (e:Int)] 166))
 have HL1:Hid ((N.wire main).length<=1000):=by show _<=_;omega
 have HL2:Hid ((N.wire box).length<=1000):=by show _<=_;omega
 clear l1 l2
 go_enter Tryz.func179,Tryz.ntmps179
 go_wp2
 go_region_law (first
  | (refine step_call rfl 178 #[.slice a1 n1 c1] (by go_simp) (wire_any main a1 n1 c1 _ h1 (by exact S1.out.alloc _) m1) (by rintro e w' ⟨v,rfl,_⟩;exact⟨v,rfl⟩) ?_;rintro v1 w1 ⟨_,he,hO1,hb1⟩;cases he;have r1:=RowAt.below (by exact HROW.out) hb1 (by simp <;> omega);have p1:w1.cell? ⟨w.heap.size,1,none⟩=some (.slice a2 n2 c2):=r1.cell 1;have R1:=hide r1;have O1:=hide (OwnB.lower (base':=w.heap.size) hO1 (by simp <;> omega));have z1:w.heap.size<=w1.heap.size:=Nat.le_trans (by simp <;> omega) hb1.size;have B1:=hide ((below_allocs HB0.out (Nat.le_refl _) (Or.inl rfl)).trans (hb1.mono (by simp <;> omega)));clear r1 hO1 hb1)
  | (refine step_call rfl 178 #[.slice a2 n2 c2] (by go_simp) (wire_any box a2 n2 c2 _ h2 (by exact S2.out.below B1.out (Nat.le_refl _)) m2) (by rintro e w' ⟨v,rfl,_⟩;exact⟨v,rfl⟩) ?_;rintro v2 w2 ⟨_,he,hO2,hb2⟩;cases he;have R2:=hide (R1.out.below hb2 R1.out.lt);have OM:=hide (O1.out.below hb2);obtain⟨g9,c9,rfl,_,_,_,_,_⟩:=hO2.form (by simp[N.wire]);have S9:=hide hO2.sl;have z2:w.heap.size<=w2.heap.size:=Nat.le_trans z1 hb2.size;have B2:=hide (B1.out.trans (hb2.mono z1));clear hO2 hb2)
  | (refine step_append_B rfl (.tmp 6) (.tmp 9) rfl w.heap.size v1 (N.wire main) (by simp[Act.eval]) (by exact OM.out) ⟨g9,0,none⟩ (N.wire box).length c9 (N.wire box) (by simp[Act.eval]) rfl (by exact S9.out) (by have:=HL1.out;have:=HL2.out;omega) (by exact z2) ?_;intro v4 w4 hO4 hG4;have K4:=hide (Kp.grown OM.out hG4 z2);have O4:=hide hO4;clear hG4 hO4))
 all_goals
  have z4:w.heap.size<=w4.heap.size:=K4.out.size z2
  have B4:=hide (B2.out.trans K4.out.1)
  have R4:=hide (K4.out.2 _ _ _ R2.out (by decide))
  have p4:w4.cell? ⟨w.heap.size,2,none⟩=some (.int .u32 (a:Int)):=R4.out.cell 2
  have L4:Hid ((N.wire main++N.wire box).length<=2000):=by have:=HL1.out;have:=HL2.out;show _<=_;rw[List.length_append];omega
  obtain⟨q,hq⟩ : ∃ q,N.wire main++N.wire box=q:=⟨_,rfl⟩
  rw[hq] at O4 L4
  have HQ:=hide hq
  clear hq
  clear R2 B2 K4 S9 OM R1 B1 O1
  go_wp2_with fail
  refine (append32_any a ha w.heap.size v4 (q) _ (by exact O4.out) (by exact z4) (by have:=L4.out;first | omega | (simp only[List.length_append,p32_len];omega))).mono ?_
  rintro e w5 ⟨v5,rfl,hO5,hK5⟩
  have z5:w.heap.size<=w5.heap.size:=hK5.size z4
  have B5:=hide (B4.out.trans hK5.1)
  have R5:=hide (hK5.2 _ _ _ R4.out (by decide))
  have p5:w5.cell? ⟨w.heap.size,3,none⟩=some (.int .u32 (b:Int)):=R5.out.cell 3
  have O5:=hide hO5
  clear hO5 hK5 p4 R4 O4
  go_wp2_with fail
  refine (append32_any b hb w.heap.size v5 (q++D.p32 a) _ (by exact O5.out) (by exact z5) (by have:=L4.out;first | omega | (simp only[List.length_append,p32_len];omega))).mono ?_
  rintro e w6 ⟨v6,rfl,hO6,hK6⟩
  have z6:w.heap.size<=w6.heap.size:=hK6.size z5
  have B6:=hide (B5.out.trans hK6.1)
  have R6:=hide (hK6.2 _ _ _ R5.out (by decide))
  have p6:w6.cell? ⟨w.heap.size,4,none⟩=some (.int .u32 (c:Int)):=R6.out.cell 4
  have O6:=hide hO6
  clear hO6 hK6 p5 R5 O5
  go_wp2_with fail
  refine (append32_any c hc w.heap.size v6 (q++D.p32 a++D.p32 b) _ (by exact O6.out) (by exact z6) (by have:=L4.out;first | omega | (simp only[List.length_append,p32_len];omega))).mono ?_
  rintro e w7 ⟨v7,rfl,hO7,hK7⟩
  have z7:w.heap.size<=w7.heap.size:=hK7.size z6
  have B7:=hide (B6.out.trans hK7.1)
  have R7:=hide (hK7.2 _ _ _ R6.out (by decide))
  have p7:w7.cell? ⟨w.heap.size,5,none⟩=some (.int .u32 (d:Int)):=R7.out.cell 5
  have O7:=hide hO7
  clear hO7 hK7 p6 R6 O6
  go_wp2_with fail
  refine (append32_any d hd w.heap.size v7 (q++D.p32 a++D.p32 b++D.p32 c) _ (by exact O7.out) (by exact z7) (by have:=L4.out;first | omega | (simp only[List.length_append,p32_len];omega))).mono ?_
  rintro e w8 ⟨v8,rfl,hO8,hK8⟩
  have z8:w.heap.size<=w8.heap.size:=hK8.size z7
  have B8:=hide (B7.out.trans hK8.1)
  have R8:=hide (hK8.2 _ _ _ R7.out (by decide))
  have p8:w8.cell? ⟨w.heap.size,6,none⟩=some (.int .u32 (e:Int)):=R8.out.cell 6
  have O8:=hide hO8
  clear hO8 hK8 p7 R7 O7
  go_wp2_with fail
  refine (append32_any e he w.heap.size v8 (q++D.p32 a++D.p32 b++D.p32 c++D.p32 d) _ (by exact O8.out) (by exact z8) (by have:=L4.out;first | omega | (simp only[List.length_append,p32_len];omega))).mono ?_
  rintro e w9 ⟨v9,rfl,hO9,hK9⟩
  go_wp2
  go_ret
  exact⟨_,rfl,by rw[HQ.out];exact hO9,B8.out.trans hK9.1⟩
open Go.RowKit
set_option maxHeartbeats 1600000 in
theorem sigBytes_any (s:D.Sig) (a1 a2:Option Addr) (n1 c1 n2 c2:Nat) (w:World) (h1:Hid (s.signer.length=n1)) (h2:Hid (s.sig.length=n2)) (hs1:SlS w a1 s.signer) (hs2:SlL w a2 s.sig) (hnil:a2=none->c2=0) (hz1:N.size s.signer<=1000) (hz2:n2<=100000)
 (ht:s.type<65536) (ha:s.alg<256) (hb:s.labels<256) (hc:s.ttl<4294967296) (hd:s.expire<4294967296) (he:s.begin_<4294967296) (hg:s.tag<65536) :
 Calls Tryz.prog 181 #[.agg #[.int .u16 (s.type:Int),.int .u8 (s.alg:Int),.int .u8 (s.labels:Int),.int .u32 (s.ttl:Int),.int .u32 (s.expire:Int),.int .u32 (s.begin_:Int),.int .u16 (s.tag:Int),.slice a1 n1 c1,.slice a2 n2 c2]] w fun e w' => ∃ v',e = .returned v'/\OwnB w' w.heap.size v' (D.sigB s)/\Below w.heap.size w w':=by
 have S1:=hide hs1
 have S2:=hide hs2
 have NI:=hide hnil
 have m1:=hide (small_of hz1)
 have l1:=N.wire_len s.signer
 clear hs1 hs2 hnil
 unfold D.sigB
 obtain⟨type,alg,labels,ttl,expire,begin_,tag,signer,sig⟩:=s
 simp only at h1 h2 S1 S2 m1 l1 hz1 ht ha hb hc hd he hg ⊢
 have q1:(alg:Int)=((UInt8.ofNat alg).toNat:Int):=by rw[D.nat_u8 _ ha]
 have q2:(labels:Int)=((UInt8.ofNat labels).toNat:Int):=by rw[D.nat_u8 _ hb]
 rw[q1,q2]
 clear q1 q2
 generalize UInt8.ofNat alg=x
 generalize UInt8.ofNat labels=y
 have R0:=hide (RowAt.new w 175 #[.int .u16 (type:Int),.int .u8 (x.toNat:Int),.int .u8 (y.toNat:Int),.int .u32 (ttl:Int),.int .u32 (expire:Int),.int .u32 (begin_:Int),.int .u16 (tag:Int),.slice a1 n1 c1,.slice a2 n2 c2])
 have B0:=hide ((Below.refl w.heap.size w).alloc (Nat.le_refl _) (.cells #[.int .u16 (type:Int),.int .u8 (x.toNat:Int),.int .u8 (y.toNat:Int),.int .u32 (ttl:Int),.int .u32 (expire:Int),.int .u32 (begin_:Int),.int .u16 (tag:Int),.slice a1 n1 c1,.slice a2 n2 c2] 175))
 have HL1:Hid ((N.wire signer).length<=1000):=by show _<=_;omega
 clear l1
 go_enter Tryz.func181,Tryz.ntmps181
 go_wp2_with fail
 refine (append16_nil type ht _).mono ?_
 rintro e w1 ⟨v1,rfl,hO1,hb1⟩
 have z1:w.heap.size<=w1.heap.size:=Nat.le_trans (by simp) hb1.size
 have B1:=hide (B0.out.trans (hb1.mono (by simp)))
 have R1:=hide (R0.out.below hb1 (by simp))
 have O1:=hide (OwnB.lower (base':=w.heap.size) hO1 (by simp))
 have p1:w1.cell? ⟨w.heap.size,1,none⟩=some (.int .u8 (x.toNat:Int)):=R1.out.cell 1
 have p1b:w1.cell? ⟨w.heap.size,2,none⟩=some (.int .u8 (y.toNat:Int)):=R1.out.cell 2
 clear hO1 hb1 R0 B0
 go_wp2_with (at_builtin;refine wpList_append_B rfl (.tmp 7) (.tmp 12) rfl w.heap.size _ (D.p16 type) rfl (by exact O1.out.alloc _) _ _ _ [x,y] rfl rfl (by exact SlL.litm w1 [x,y] _ 5 (0,0) rfl) (by intro h;cases h) (by simp[p16_len]) (by simp;omega) ?_;intro v2 w2 hO2 hG2;have hK2:=Kp.app O1.out hG2 z1;have z2:w.heap.size<=w2.heap.size:=hK2.size z1;have B2:=hide (B1.out.trans hK2.1);have R2:=hide (hK2.2 _ _ _ R1.out (by decide));have p2:w2.cell? ⟨w.heap.size,3,none⟩=some (.int .u32 (ttl:Int)):=R2.out.cell 3;have O2:=hide hO2;clear hO2 hG2 hK2 p1 p1b R1 B1 O1)
 refine (append32_any ttl hc w.heap.size v2 (D.p16 type ++ [x,y]) _ (by exact O2.out) (by exact z2) (by simp only[List.length_append,p16_len,List.length_cons,List.length_nil];omega)).mono ?_
 rintro e w3 ⟨v3,rfl,hO3,hK3⟩
 have z3:w.heap.size<=w3.heap.size:=hK3.size z2
 have B3:=hide (B2.out.trans hK3.1)
 have R3:=hide (hK3.2 _ _ _ R2.out (by decide))
 have p3:w3.cell? ⟨w.heap.size,4,none⟩=some (.int .u32 (expire:Int)):=R3.out.cell 4
 have O3:=hide hO3
 clear hO3 hK3 p2 R2 O2 B2
 go_wp2_with fail
 refine (append32_any expire hd w.heap.size v3 (D.p16 type ++ [x,y]++D.p32 ttl) _ (by exact O3.out) (by exact z3) (by simp only[List.length_append,p32_len,p16_len,List.length_cons,List.length_nil];omega)).mono ?_
 rintro e w4 ⟨v4,rfl,hO4,hK4⟩
 have z4:w.heap.size<=w4.heap.size:=hK4.size z3
 have B4:=hide (B3.out.trans hK4.1)
 have R4:=hide (hK4.2 _ _ _ R3.out (by decide))
 have p4:w4.cell? ⟨w.heap.size,5,none⟩=some (.int .u32 (begin_:Int)):=R4.out.cell 5
 have O4:=hide hO4
 clear hO4 hK4 p3 R3 O3 B3
 go_wp2_with fail
 refine (append32_any begin_ he w.heap.size v4 (D.p16 type ++ [x,y]++D.p32 ttl++D.p32 expire) _ (by exact O4.out) (by exact z4) (by simp only[List.length_append,p32_len,p16_len,List.length_cons,List.length_nil];omega)).mono ?_
 rintro e w5 ⟨v5,rfl,hO5,hK5⟩
 have z5:w.heap.size<=w5.heap.size:=hK5.size z4
 have B5:=hide (B4.out.trans hK5.1)
 have R5:=hide (hK5.2 _ _ _ R4.out (by decide))
 have p5:w5.cell? ⟨w.heap.size,6,none⟩=some (.int .u16 (tag:Int)):=R5.out.cell 6
 have O5:=hide hO5
 clear hO5 hK5 p4 R4 O4 B4
 go_wp2_with fail
 refine (append16_any tag hg w.heap.size v5 (D.p16 type ++ [x,y]++D.p32 ttl++D.p32 expire++D.p32 begin_) _ (by exact O5.out) (by exact z5) (by simp only[List.length_append,p32_len,p16_len,List.length_cons,List.length_nil];omega)).mono ?_
 rintro e w6 ⟨v6,rfl,hO6,hK6⟩
 have z6:w.heap.size<=w6.heap.size:=hK6.size z5
 have B6:=hide (B5.out.trans hK6.1)
 have R6:=hide (hK6.2 _ _ _ R5.out (by decide))
 have p6:w6.cell? ⟨w.heap.size,7,none⟩=some (.slice a1 n1 c1):=R6.out.cell 7
 have O6:=hide hO6
 clear hO6 hK6 p5 R5 O5 B5
 go_wp2_with fail
 refine (wire_any signer a1 n1 c1 _ h1 (by exact S1.out.below B6.out (Nat.le_refl _)) m1).mono ?_
 rintro e w7 ⟨v7,rfl,hO7,hb7⟩
 have z7:w.heap.size<=w7.heap.size:=Nat.le_trans z6 hb7.size
 have B7:=hide (B6.out.trans (hb7.mono z6))
 have R7:=hide (R6.out.below hb7 R6.out.lt)
 have O7:=hide (O6.out.below hb7)
 obtain⟨a9,c9,rfl,hs9,hn9,_⟩:=hO7.open
 have S9:=hide hs9
 have N9:=hide hn9
 clear hs9 hn9 hO7 hb7 p6 R6 O6 B6
 go_wp2_with (first
  | (at_builtin;refine wpList_append_B rfl (.tmp 30) (.tmp 33) rfl w.heap.size _ (D.p16 type ++ [x,y]++D.p32 ttl++D.p32 expire++D.p32 begin_++D.p16 tag) rfl (by exact O7.out) _ _ _ (N.wire signer) rfl rfl (by exact S9.out) N9.out (by have:=HL1.out;simp only[List.length_append,p32_len,p16_len,List.length_cons,List.length_nil];omega) z7 ?_;intro v8 w8 hO8 hG8;have hK8:=Kp.grown O7.out hG8 z7;have z8:w.heap.size<=w8.heap.size:=hK8.size z7;have B8:=hide (B7.out.trans hK8.1);have p8:w8.cell? ⟨w.heap.size,8,none⟩=some (.slice a2 n2 c2):=(hK8.2 _ _ _ R7.out (by decide)).cell 8;have O8:=hide hO8;clear hO8 hG8 hK8 R7 B7 O7 S9)
  | (at_builtin;refine wpList_append_B rfl (.tmp 35) (.tmp 37) rfl w.heap.size _ (D.p16 type ++ [x,y]++D.p32 ttl++D.p32 expire++D.p32 begin_++D.p16 tag++N.wire signer) rfl (by exact O8.out) _ _ _ sig rfl h2.out (by exact S2.out.below B8.out (Nat.le_refl _)) NI.out (by have:=HL1.out;simp only[List.length_append,p32_len,p16_len,List.length_cons,List.length_nil];omega) z8 ?_;intro v10 w10 hO10 hG10;have hK10:=Kp.grown O8.out hG10 z8;clear hG10))
 go_ret
 exact⟨_,rfl,hO10,B8.out.trans hK10.1⟩
set_option maxHeartbeats 1600000 in
theorem chainBytes_any (c:D.Chain) (a1 a2 a3:Option Addr) (n1 c1 n2 c2 n3 c3:Nat) (w:World) (h1:Hid (c.salt.length=n1)) (h2:Hid (c.next.length=n2)) (h3:Hid (c.types.length=n3)) (hs1:SlL w a1 c.salt) (hs2:SlL w a2 c.next) (hs3:SlH w a3 c.types)
 (hn1:a1=none->c1=0) (hn2:a2=none->c2=0) (hn3:a3=none->c3=0) (l1:n1<=10000) (l2:n2<=10000) (l3:n3<=70000) (hr:T.Rising c.types) (ha:c.hash<256) (hb:c.flags<256) (hi:c.iter<65536) (hlb:(T.bmp c.types).length<=100000) :
 Calls Tryz.prog 154 #[.agg #[.int .u8 (c.hash:Int),.int .u8 (c.flags:Int),.int .u16 (c.iter:Int),.slice a1 n1 c1,.slice a2 n2 c2,.slice a3 n3 c3]] w fun e w' => ∃ v',e = .returned v'/\OwnB w' w.heap.size v' (D.chainB c)/\Below w.heap.size w w':=by
 have S1:=hide hs1
 have S2:=hide hs2
 have S3:=hide hs3
 have N1:=hide hn1
 have N2:=hide hn2
 have N3:=hide hn3
 have HLB:=hide hlb
 have HR:=hide hr
 clear hs1 hs2 hs3 hn1 hn2 hn3 hlb hr
 unfold D.chainB
 obtain⟨hash,flags,iter,salt,next,types⟩:=c
 simp only at h1 h2 h3 S1 S2 S3 HR HLB ha hb hi ⊢
 have q1:(hash:Int)=((UInt8.ofNat hash).toNat:Int):=by rw[D.nat_u8 _ ha]
 have q2:(flags:Int)=((UInt8.ofNat flags).toNat:Int):=by rw[D.nat_u8 _ hb]
 rw[q1,q2]
 clear q1 q2
 generalize UInt8.ofNat hash=x
 generalize UInt8.ofNat flags=y
 have R0:=hide ((RowAt.new w 183 #[.int .u8 (x.toNat:Int),.int .u8 (y.toNat:Int),.int .u16 (iter:Int),.slice a1 n1 c1,.slice a2 n2 c2,.slice a3 n3 c3]).alloc (.cells #[.int .u8 x.toNat,.int .u8 y.toNat] 5))
 have B0:=hide (((Below.refl w.heap.size w).alloc (Nat.le_refl _) (.cells #[.int .u8 (x.toNat:Int),.int .u8 (y.toNat:Int),.int .u16 (iter:Int),.slice a1 n1 c1,.slice a2 n2 c2,.slice a3 n3 c3] 183)).alloc (by simp) (.cells #[.int .u8 x.toNat,.int .u8 y.toNat] 5))
 have O0:=hide (OwnB.two (w.alloc (.cells #[.int .u8 (x.toNat:Int),.int .u8 (y.toNat:Int),.int .u16 (iter:Int),.slice a1 n1 c1,.slice a2 n2 c2,.slice a3 n3 c3] 183)) x y w.heap.size (by simp))
 rw[World.size_alloc] at O0
 have L1:Hid ((D.pc salt).length<=10001):=by show _<=_;have:=h1.out;simp[D.pc];omega
 have L2:Hid ((D.pc next).length<=10001):=by show _<=_;have:=h2.out;simp[D.pc];omega
 go_enter Tryz.func154,Tryz.ntmps154
 go_wp2_with fail
 refine (append16_any iter hi w.heap.size (.slice (some ⟨w.heap.size+1,0,none⟩) 2 2) [x,y] _ (by exact O0.out) (by simp <;> omega) (by simp)).mono ?_
 rintro e w1 ⟨v1,rfl,hO1,hK1⟩
 have z1:w.heap.size<=w1.heap.size:=hK1.size (by simp <;> omega)
 have B1:=hide (B0.out.trans hK1.1)
 have R1:=hide (hK1.2 _ _ _ R0.out (by decide))
 have p1:w1.cell? ⟨w.heap.size,3,none⟩=some (.slice a1 n1 c1):=R1.out.cell 3
 have O1:=hide hO1
 clear hO1 hK1 R0 B0 O0
 go_wp2_with fail
 refine (appendCounted_any salt a1 n1 c1 w.heap.size v1 ([x,y]++D.p16 iter) _ (by exact O1.out) (by exact z1) (by have:=L1.out;simp only[List.length_append,p16_len,List.length_cons,List.length_nil];omega) h1 (by exact S1.out.below B1.out (Nat.le_refl _)) N1.out (by omega) (by exact S1.out.apart O1.out (Nat.le_refl _))).mono ?_
 rintro e w2 ⟨v2,rfl,hO2,hK2⟩
 have z2:w.heap.size<=w2.heap.size:=hK2.size z1
 have B2:=hide (B1.out.trans hK2.1)
 have R2:=hide (hK2.2 _ _ _ R1.out (by decide))
 have p2:w2.cell? ⟨w.heap.size,4,none⟩=some (.slice a2 n2 c2):=R2.out.cell 4
 have O2:=hide hO2
 clear hO2 hK2 p1 R1 O1 B1
 go_wp2_with fail
 refine (appendCounted_any next a2 n2 c2 w.heap.size v2 ([x,y]++D.p16 iter++D.pc salt) _ (by exact O2.out) (by exact z2) (by have:=L1.out;simp only[List.length_append,p16_len,List.length_cons,List.length_nil];omega) h2 (by exact S2.out.below B2.out (Nat.le_refl _)) N2.out (by omega) (by exact S2.out.apart O2.out (Nat.le_refl _))).mono ?_
 rintro e w3 ⟨v3,rfl,hO3,hK3⟩
 have z3:w.heap.size<=w3.heap.size:=hK3.size z2
 have B3:=hide (B2.out.trans hK3.1)
 have R3:=hide (hK3.2 _ _ _ R2.out (by decide))
 have p3:w3.cell? ⟨w.heap.size,5,none⟩=some (.slice a3 n3 c3):=R3.out.cell 5
 have O3:=hide hO3
 clear hO3 hK3 p2 R2 O2 B2
 go_wp2_with fail
 refine (bitmap_any types a3 n3 c3 _ h3 (by exact S3.out.below B3.out (Nat.le_refl _)) N3.out l3).mono ?_
 rintro e w4 ⟨v4,cl,rfl,hcl,_,hO4,hb4⟩
 have hcl2:=hcl.self HR.out
 rw[hcl2] at hO4
 have O5:=hide (O3.out.below hb4)
 have z4:w.heap.size<=w4.heap.size:=Nat.le_trans z3 hb4.size
 have B4:=hide (B3.out.trans (hb4.mono z3))
 obtain⟨a9,c9,rfl,hs9,hn9,_⟩:=hO4.open
 have S9:=hide hs9
 have N9:=hide hn9
 clear hs9 hn9 hO4 hb4 p3 R3 O3 B3 hcl hcl2
 go_wp2_with (at_builtin;refine wpList_append_B rfl (.tmp 20) (.tmp 23) rfl w.heap.size _ ([x,y]++D.p16 iter++D.pc salt++D.pc next) rfl (by exact O5.out) _ _ _ (T.bmp types) rfl rfl (by exact S9.out) N9.out (by have:=L1.out;have:=L2.out;have:=HLB.out;simp only[List.length_append,p16_len,List.length_cons,List.length_nil];omega) z4 ?_;intro v6 w6 hO6 hG6;have hK6:=Kp.grown O5.out hG6 z4;clear hG6)
 go_ret
 exact⟨_,rfl,hO6,B4.out.trans hK6.1⟩
open Go.RowKit
theorem Rdr.base {B T:Nat} {l:List UInt8} {w:World} (h:Rdr B T l w):B<=w.heap.size:=by
 obtain⟨ao,c,_,_,_,_,_,_,h⟩:=h
 exact h
theorem Rdr.len {B T:Nat} {l:List UInt8} {w:World} (h:Rdr B T l w):l.length<=8192:=by
 obtain⟨ao,c,_,_,_,_,_,h,_⟩:=h
 exact h
theorem Rdr.other {B T:Nat} {l:List UInt8} {w:World} (h:Rdr B T l w) (g j:Nat) (v:Value) (hg:T≠g) (hB:B<=g):Rdr B T l (w.setCell ⟨g,j,none⟩ v):=by
 obtain⟨ao,c,h1,h2,h3,h4,h5,h6,h7⟩:=h
 exact⟨ao,c,h1.other _ _ hg,h2.below ((Below.refl B w).setCell hB _),h3,h4,h5,h6,by simp[World.setCell];omega⟩
theorem Mv.setNew {T:Nat} {w w':World} (h:Mv T w w') (g j:Nat) (v:Value) (hg:w.heap.size<=g):Mv T w (w'.setCell ⟨g,j,none⟩ v) :=
 ⟨h.os,h.tape,h.output,by simp[World.setCell];exact h.size,fun k hk hn=>(Below.heap_setCell _ _ _ _ (by show k≠g;omega)).trans (h.block k hk hn)⟩
theorem RowAt.same {w:World} {g t:Nat} {c:Array Value} (h:RowAt w g t c) (j:Nat) {v:Value} (hv:c[j]?=some v):RowAt (w.setCell ⟨g,j,none⟩ v) g t c:=by
 have h1:=h.set j v
 have e:c.setIfInBounds j v=c:=by
  apply Array.ext
  ·simp
  ·intro i h1 h2
   rw[Array.getElem_setIfInBounds]
   split
   ·subst_vars;rw[Array.getElem?_eq_some_iff] at hv;obtain⟨_,hv⟩:=hv;exact hv.symm
   ·rfl
 rwa [e] at h1
def Upd (g:Nat) (W F:World):Prop:=F.os=W.os/\F.tape=W.tape/\F.output=W.output/\F.heap.size=W.heap.size /\ ∀ k,k≠g->F.heap[k]?=W.heap[k]?
theorem Upd.refl (g:Nat) (W:World):Upd g W W:=⟨rfl,rfl,rfl,rfl,fun _ _=>rfl⟩
theorem Upd.set {g:Nat} {W F:World} (h:Upd g W F) (j:Nat) (v:Value):Upd g W (F.setCell ⟨g,j,none⟩ v) :=
 ⟨h.1,h.2.1,h.2.2.1,by simp[World.setCell];exact h.2.2.2.1,fun k hk=>(Below.heap_setCell _ _ _ _ hk).trans (h.2.2.2.2 k hk)⟩
theorem Upd.mv {T g:Nat} {w W F:World} (u:Upd g W F) (h:Mv T w W) (hg:w.heap.size<=g):Mv T w F :=
 ⟨u.1.trans h.os,u.2.1.trans h.tape,u.2.2.1.trans h.output,by rw[u.2.2.2.1];exact h.size,fun k hk hn=>(u.2.2.2.2 k (by omega)).trans (h.block k hk hn)⟩
theorem Upd.below {B g:Nat} {W F:World} (u:Upd g W F) (hg:B<=g):Below B W F:=⟨u.1,u.2.1,u.2.2.1,by rw[u.2.2.2.1];exact Nat.le_refl _,fun k hk=>u.2.2.2.2 k (by omega)⟩
theorem Upd.rdr {B T g:Nat} {l:List UInt8} {W F:World} (u:Upd g W F) (h:Rdr B T l W) (hT:T≠g) (hB:B<=g):Rdr B T l F:=by
 obtain⟨ao,c,h1,h2,h3,h4,h5,h6,h7⟩:=h
 exact⟨ao,c,by unfold RowAt;rw[u.2.2.2.2 T hT];exact h1,h2.below (u.below hB),h3,h4,h5,h6,by rw[u.2.2.2.1];exact h7⟩
theorem Upd.own {g t B e n:Nat} {W F:World} {v:Value} {xs:List Value} {c:Array Value} (u:Upd g W F) (hT:RowAt W g t c) (hne:t≠e) (h:W.ownsRow B e 1 v n xs):F.ownsRow B e 1 v n xs:=by
 have hn:=own_ne h hT hne
 refine⟨h.1,?_⟩
 rcases h.2 with h1 | ⟨g',cap,cur,e1,hb,hg',hr⟩
 ·exact Or.inl h1
 ·refine Or.inr ⟨g',cap,cur,e1,hb,?_,hr⟩
  rw[u.2.2.2.2 g' (fun e2=>hn (by rw[e1, <- e2];rfl))];exact hg'
def KeyV (base:Nat) (k:D.Key) (v:Value) (w:World):Prop := ∃ a c,v = .agg #[.int .u16 (k.flags:Int),.int .u8 (k.proto:Int),.int .u8 (k.alg:Int),.slice a k.key.length c]/\OwnB w base (.slice a k.key.length c) k.key
def SoaV (base:Nat) (s:D.Soa) (v:Value) (w:World):Prop := ∃ a1 c1 a2 c2,v = .agg #[.slice a1 s.main.length c1,.slice a2 s.box.length c2,.int .u32 (s.a:Int),.int .u32 (s.b:Int),.int .u32 (s.c:Int),.int .u32 (s.d:Int),.int .u32 (s.e:Int)]/\OwnS w base (.slice a1 s.main.length c1) s.main/\OwnS w base (.slice a2 s.box.length c2) s.box
def SigV (base:Nat) (s:D.Sig) (v:Value) (w:World):Prop := ∃ a1 c1 a2 c2,v = .agg #[.int .u16 (s.type:Int),.int .u8 (s.alg:Int),.int .u8 (s.labels:Int),.int .u32 (s.ttl:Int),.int .u32 (s.expire:Int),.int .u32 (s.begin_:Int),.int .u16 (s.tag:Int),.slice a1 s.signer.length c1,.slice a2 s.sig.length c2]/\OwnS w base (.slice a1 s.signer.length c1) s.signer/\OwnB w base (.slice a2 s.sig.length c2) s.sig
def ChainV (base:Nat) (c:D.Chain) (v:Value) (w:World):Prop := ∃ a1 c1 a2 c2 a3 c3,v = .agg #[.int .u8 (c.hash:Int),.int .u8 (c.flags:Int),.int .u16 (c.iter:Int),.slice a1 c.salt.length c1,.slice a2 c.next.length c2,.slice a3 c.types.length c3]/\OwnB w base (.slice a1 c.salt.length c1) c.salt/\OwnB w base (.slice a2 c.next.length c2) c.next/\OwnH w base (.slice a3 c.types.length c3) c.types
end Go.Proofs.YtmbcegljmhcdeaaGreat
