/- Names: small letters; slices of bytes and of strings; name.Wire, name.Open (texts of stage 3, at this seat). -/
import Derived.Test.YtmbcegljmhcdeaaGreatChecked
import Derived.Laws.AppendOwnNone
import Derived.WalkKit
import Derived.BigCall
import Derived.BigQuiet
import Derived.Deep.RegionWith
import Derived.Laws.CopyOwn
import Derived.Lib.SlBytesConst
import Derived.Deep.MidRow
import Derived.Deep.WholeRow
import Derived.Lib.AppendStr
import Derived.Laws.IdiomStrings
import Derived.Laws.BytesArg
import Derived.Deep.RegionLaw
import Derived.WalkLawsBesides
namespace Go.Proofs.YtmbcegljmhcdeaaGreat
set_option maxRecDepth 5000
namespace N
def low (c:UInt8):UInt8:=if 65<=c.toNat/\c.toNat<=90 then c+32 else c
theorem low_cap {c:UInt8} (h1:65<=c.toNat) (h2:c.toNat<=90):(low c).toNat=c.toNat+32:=by
 unfold low;rw[if_pos ⟨h1,h2⟩,UInt8.toNat_add]
 have:(32:UInt8).toNat=32:=rfl
 rw[this];omega
theorem low_other {c:UInt8} (h:c.toNat<65\/90<c.toNat):low c=c:=by
 unfold low;rw[if_neg (by omega)]
theorem low_low (c:UInt8):low (low c)=low c:=by
 by_cases h:65<=c.toNat/\c.toNat<=90
 ·exact low_other (Or.inr (by rw[low_cap h.1 h.2];omega))
 ·have:low c=c:=low_other (by omega)
  rw[this,this]
def lowL (l:List UInt8):List UInt8:=l.map low
theorem lowL_len (l:List UInt8):(lowL l).length=l.length:=by simp[lowL]
theorem lowL_low (l:List UInt8):lowL (lowL l)=lowL l:=by
 simp only[lowL,List.map_map];exact List.map_congr_left fun x _=>low_low x
def lowN (n:List (List UInt8)):List (List UInt8):=n.map lowL
def cmpI (a b:Nat):Int:=if a<b then -1 else if b<a then 1 else 0
theorem cmpI_self (a:Nat):cmpI a a=0:=by simp[cmpI]
theorem cmpI_zero {a b:Nat} : cmpI a b=0↔a=b:=by unfold cmpI;split <;> (try split) <;> omega
theorem cmpI_neg (a b:Nat):cmpI b a = - cmpI a b:=by unfold cmpI;split <;> split <;> (try split) <;> omega
theorem cmpI_bounds (a b:Nat) : -1<=cmpI a b/\cmpI a b<=1:=by unfold cmpI;split <;> (try split) <;> omega
theorem cmpI_le {a b:Nat} : cmpI a b<=0↔a<=b:=by unfold cmpI;split <;> (try split) <;> omega
def cmpB:List UInt8->List UInt8->Int
 | [], []=>0
 | [],_::_ => -1
 | _::_, []=>1
 | a::x,b::y=>if cmpI a.toNat b.toNat=0 then cmpB x y else cmpI a.toNat b.toNat
theorem cmpB_bounds : ∀ a b, -1<=cmpB a b/\cmpB a b<=1
 | [], []=>by simp[cmpB]
 | [],_::_=>by simp[cmpB]
 | _::_, []=>by simp[cmpB]
 | a::x,b::y=>by
  unfold cmpB;split
  ·exact cmpB_bounds x y
  ·exact cmpI_bounds _ _
theorem cmpB_zero : ∀ {a b},cmpB a b=0↔a=b
 | [], []=>by simp[cmpB]
 | [],_::_=>by simp[cmpB]
 | _::_, []=>by simp[cmpB]
 | a::x,b::y=>by
  unfold cmpB
  by_cases h:cmpI a.toNat b.toNat=0
  ·rw[if_pos h,cmpB_zero,List.cons.injEq]
   have h1:a=b:=UInt8.toNat_inj.1 (cmpI_zero.1 h)
   exact⟨fun e=>⟨h1,e⟩,fun e=>e.2⟩
  ·rw[if_neg h]
   refine⟨fun e=>absurd e h,fun e=>?_⟩
   obtain⟨rfl,_⟩:=List.cons.inj e
   exact cmpI_self _
theorem cmpB_neg : ∀ a b,cmpB b a = - cmpB a b
 | [], []=>by simp[cmpB]
 | [],_::_=>by simp[cmpB]
 | _::_, []=>by simp[cmpB]
 | a::x,b::y=>by
  unfold cmpB
  have h:=cmpI_neg a.toNat b.toNat
  by_cases h0:cmpI a.toNat b.toNat=0
  ·rw[if_pos h0,if_pos (by omega),cmpB_neg]
  ·rw[if_neg h0,if_neg (by omega),h]
theorem cmpB_trans : ∀ {a b c},cmpB a b<=0->cmpB b c<=0->cmpB a c<=0
 | [],_, []=>fun _ _=>by simp[cmpB]
 | [],_,_::_=>fun _ _=>by simp[cmpB]
 | _::_, [],_=>fun h _=>by simp[cmpB] at h
 | _::_,_::_, []=>fun _ h=>by simp[cmpB] at h
 | a::x,b::y,c::z=>fun h1 h2=>by
  unfold cmpB at h1 h2 ⊢
  have hab := @cmpI_le a.toNat b.toNat
  have hbc := @cmpI_le b.toNat c.toNat
  have hac := @cmpI_le a.toNat c.toNat
  have zab := @cmpI_zero a.toNat b.toNat
  have zbc := @cmpI_zero b.toNat c.toNat
  have zac := @cmpI_zero a.toNat c.toNat
  by_cases e1:cmpI a.toNat b.toNat=0
  ·rw[if_pos e1] at h1
   by_cases e2:cmpI b.toNat c.toNat=0
   ·rw[if_pos e2] at h2
    rw[if_pos (by omega)]
    exact cmpB_trans h1 h2
   ·rw[if_neg e2] at h2
    rw[if_neg (by omega)];omega
  ·rw[if_neg e1] at h1
   by_cases e2:cmpI b.toNat c.toNat=0
   ·rw[if_neg (by omega)];omega
   ·rw[if_neg e2] at h2
    rw[if_neg (by omega)];omega
def cmpL (a b:List UInt8):Int:=cmpB (lowL a) (lowL b)
def cmpR:List (List UInt8)->List (List UInt8)->Int
 | [], []=>0
 | [],_::_ => -1
 | _::_, []=>1
 | a::x,b::y=>if cmpL a b=0 then cmpR x y else cmpL a b
def cmpN (a b:List (List UInt8)):Int:=cmpR a.reverse b.reverse
theorem cmpL_bounds (a b:List UInt8) : -1<=cmpL a b/\cmpL a b<=1:=cmpB_bounds _ _
theorem cmpL_zero {a b:List UInt8} : cmpL a b=0↔lowL a=lowL b:=cmpB_zero
theorem cmpL_neg (a b:List UInt8):cmpL b a = - cmpL a b:=cmpB_neg _ _
theorem cmpL_low (a b:List UInt8):cmpL (lowL a) b=cmpL a b:=by unfold cmpL;rw[lowL_low]
theorem cmpR_bounds : ∀ a b, -1<=cmpR a b/\cmpR a b<=1
 | [], []=>by simp[cmpR]
 | [],_::_=>by simp[cmpR]
 | _::_, []=>by simp[cmpR]
 | a::x,b::y=>by
  unfold cmpR;split
  ·exact cmpR_bounds x y
  ·exact cmpL_bounds _ _
theorem cmpR_zero : ∀ {a b},cmpR a b=0↔lowN a=lowN b
 | [], []=>by simp[cmpR,lowN]
 | [],_::_=>by simp[cmpR,lowN]
 | _::_, []=>by simp[cmpR,lowN]
 | a::x,b::y=>by
  unfold cmpR
  have hl:lowN (a::x)=lowN (b::y)↔lowL a=lowL b/\lowN x=lowN y:=by simp[lowN]
  by_cases h:cmpL a b=0
  ·rw[if_pos h,cmpR_zero,hl]
   exact⟨fun e=>⟨cmpL_zero.1 h,e⟩,fun e=>e.2⟩
  ·rw[if_neg h,hl]
   exact⟨fun e=>absurd e h,fun e=>absurd (cmpL_zero.2 e.1) h⟩
theorem cmpR_neg : ∀ a b,cmpR b a = - cmpR a b
 | [], []=>by simp[cmpR]
 | [],_::_=>by simp[cmpR]
 | _::_, []=>by simp[cmpR]
 | a::x,b::y=>by
  unfold cmpR
  have h:=cmpL_neg a b
  by_cases h0:cmpL a b=0
  ·rw[if_pos h0,if_pos (by omega),cmpR_neg]
  ·rw[if_neg h0,if_neg (by omega),h]
theorem cmpR_trans : ∀ {a b c},cmpR a b<=0->cmpR b c<=0->cmpR a c<=0
 | [],_, []=>fun _ _=>by simp[cmpR]
 | [],_,_::_=>fun _ _=>by simp[cmpR]
 | _::_, [],_=>fun h _=>by simp[cmpR] at h
 | _::_,_::_, []=>fun _ h=>by simp[cmpR] at h
 | a::x,b::y,c::z=>fun h1 h2=>by
  unfold cmpR at h1 h2 ⊢
  have zab := @cmpL_zero a b
  have zbc := @cmpL_zero b c
  have zac := @cmpL_zero a c
  by_cases e1:cmpL a b=0
  ·rw[if_pos e1] at h1
   have hl:=zab.1 e1
   have hac:cmpL a c=cmpL b c:=by unfold cmpL;rw[hl]
   rw[hac]
   by_cases e2:cmpL b c=0
   ·rw[if_pos e2] at h2 ⊢
    exact cmpR_trans h1 h2
   ·rw[if_neg e2] at h2 ⊢; exact h2
  ·rw[if_neg e1] at h1
   by_cases e2:cmpL b c=0
   ·have hac:cmpL a c=cmpL a b:=by unfold cmpL;rw[zbc.1 e2]
    rw[hac,if_neg e1];exact h1
   ·rw[if_neg e2] at h2
    have h3:cmpL a c<=0:=cmpB_trans h1 h2
    by_cases e3:cmpL a c=0
    ·exfalso
     have hl:=zac.1 e3
     have h4:cmpL b c=cmpL b a:=by unfold cmpL;rw[hl]
     have h5:=cmpL_neg a b
     omega
    ·rw[if_neg e3];exact h3
theorem cmpR_lowN : ∀ a b,cmpR (lowN a) b=cmpR a b
 | [], []=>rfl
 | [],_::_=>rfl
 | _::_, []=>rfl
 | a::x,b::y=>by
  show (if cmpL (lowL a) b=0 then cmpR (lowN x) y else cmpL (lowL a) b)=_
  rw[cmpL_low,cmpR_lowN];rfl
theorem lowN_rev (a:List (List UInt8)):lowN a.reverse=(lowN a).reverse:=by simp[lowN]
theorem lowN_len (a:List (List UInt8)):(lowN a).length=a.length:=by simp[lowN]
theorem cmpN_bounds (a b:List (List UInt8)) : -1<=cmpN a b/\cmpN a b<=1:=cmpR_bounds _ _
theorem cmpN_zero {a b:List (List UInt8)} : cmpN a b=0↔lowN a=lowN b:=by
 unfold cmpN;rw[cmpR_zero,lowN_rev,lowN_rev,List.reverse_inj]
def same (a b:List (List UInt8)):Bool:=decide (lowN a=lowN b)
def within (n apex:List (List UInt8)):Bool:=decide (apex.length<=n.length) && same (n.drop (n.length - apex.length)) apex
theorem within_iff (n apex:List (List UInt8)):within n apex=true↔lowN apex.reverse <+: lowN n.reverse:=by
 unfold within same
 rw[lowN_rev,lowN_rev,List.reverse_prefix]
 simp only[Bool.and_eq_true,decide_eq_true_eq]
 constructor
 ·rintro⟨h1,h2⟩
  rw[<- h2]
  have h3:lowN (n.drop (n.length - apex.length))=(lowN n).drop (n.length - apex.length):=by simp[lowN,List.map_drop]
  rw[h3];exact List.drop_suffix _ _
 ·intro h
  have h1:=h.length_le
  rw[lowN_len,lowN_len] at h1
  refine⟨h1,?_⟩
  have h3:lowN (n.drop (n.length - apex.length))=(lowN n).drop (n.length - apex.length):=by simp[lowN,List.map_drop]
  rw[h3]
  obtain⟨t,ht⟩:=h
  have h4:t.length=n.length - apex.length:=by
   have:=congrArg List.length ht
   rw[List.length_append,lowN_len,lowN_len] at this;omega
  rw[<- ht, <- h4,List.drop_left]
end N
open Go.RowKit
theorem hide {p:Prop} (h:p):Hid p:=h
def vb (l:List (UInt8)):List Value:=l.map (fun b => .int .u8 b.toNat)
theorem vb_len (l:List (UInt8)):(vb l).length=l.length:=by simp[vb]
theorem vb_app (l m:List (UInt8)):vb (l++m)=vb l++vb m:=by simp[vb]
theorem vb_one (l:List (UInt8)) : ∀ v∈vb l,v.oneCell'=true:=fun v hv=>by
 simp only[vb,List.mem_map] at hv;obtain⟨j,_,rfl⟩:=hv;rfl
theorem vb_get (l:List (UInt8)) (j:Nat) (h:j<l.length):(vb l)[j]?=some (.int .u8 (l.getD j 0).toNat):=by simp[vb,h]
def SlL (w:World) (ao:Option Addr) (l:List (UInt8)):Prop:=0<l.length -> ∃ b o,ao=some ⟨b,o,none⟩/\b<w.heap.size /\ ∀ j,j<l.length->w.cell? ⟨b,o+j,none⟩=some (.int .u8 (l.getD j 0).toNat)
theorem SlL.below {B:Nat} {w w':World} {ao:Option Addr} {l:List (UInt8)} (h:SlL w ao l) (hb:Below B w w') (hB:w.heap.size<=B):SlL w' ao l:=fun hn=>by
 obtain⟨b,o,e,hlt,hc⟩:=h hn
 exact⟨b,o,e,Nat.lt_of_lt_of_le hlt hb.size,fun j hj=>(hb.cell (p:=⟨b,o+j,none⟩) (Nat.lt_of_lt_of_le hlt hB)).trans (hc j hj)⟩
theorem SlL.alloc {w:World} {ao:Option Addr} {l:List (UInt8)} (h:SlL w ao l) (o:Obj):SlL (w.alloc o) ao l:=h.below ((Below.refl w.heap.size w).alloc (Nat.le_refl _) o) (Nat.le_refl _)
theorem SlL.nil (w:World) (ao:Option Addr):SlL w ao []:=fun h=>by simp at h
theorem SlL.one (w:World) (b:UInt8) (t:TypeId):SlL (w.alloc (.cells #[.int .u8 b.toNat] t)) (some ⟨w.heap.size,0,none⟩) [b]:=fun _=>by
 refine⟨w.heap.size,0,rfl,by simp,fun j hj=>?_⟩
 have:j=0:=by simpa using hj
 subst this
 rw[cell_of_row _ _ _ _ t (0,0) (heap_alloc_last w _)];rfl
theorem SlL.oneI (w:World) (x:Int) (b:UInt8) (t:TypeId) (h:x=(b.toNat:Int)):SlL (w.alloc (.cells #[.int .u8 x] t)) (some ⟨w.heap.size,0,none⟩) [b]:=by
 subst h;exact SlL.one w b t
def OwnB (w:World) (base:Nat) (v:Value) (l:List (UInt8)):Prop:=w.ownsRow base 5 1 v l.length (vb l)
theorem OwnB.nil (w:World) (base:Nat):OwnB w base (.slice none 0 0) []:=World.ownsRow_nil _ _ _ _
theorem OwnB.alloc {w:World} {base:Nat} {v:Value} {l:List (UInt8)} (h:OwnB w base v l) (o:Obj):OwnB (w.alloc o) base v l:=World.ownsRow.alloc h o
theorem OwnB.form {w:World} {base:Nat} {v:Value} {l:List (UInt8)} (h:OwnB w base v l) (hl:0<l.length) : ∃ g cap,v = .slice (some ⟨g,0,none⟩) l.length cap/\base<=g/\l.length<=cap/\cap<=maxLen/\g<w.heap.size /\ ∀ j,j<l.length->w.cell? ⟨g,j,none⟩=some (.int .u8 (l.getD j 0).toNat):=by
 have h0:w.ownsRow base 5 1 v l.length (vb l):=h
 rcases h0.2 with⟨_,h'⟩ | ⟨g,cap,cur,rfl,hb,hg,hc,hm,_,_⟩
 ·omega
 ·exact⟨g,cap,rfl,hb,hc,hm,(Array.getElem?_eq_some_iff.1 hg).1,fun j hj=>by rw[World.ownsRow.cellAt h0 j (by omega),vb_get l j hj]⟩
theorem OwnB.sl {w:World} {base g cap:Nat} {l:List (UInt8)} (h:OwnB w base (.slice (some ⟨g,0,none⟩) l.length cap) l):SlL w (some ⟨g,0,none⟩) l:=fun hl=>by
 obtain⟨g',cap',e,_,_,_,hlt,hc⟩:=h.form hl
 simp only[Value.slice.injEq,Option.some.injEq,Addr.mk.injEq,and_true,true_and] at e
 obtain⟨rfl,rfl⟩:=e
 exact⟨g,0,rfl,hlt,fun j hj=>by rw[Nat.zero_add];exact hc j hj⟩
theorem infoB:(Tryz.prog.info? 5).map (fun i=>(i.zero,i.size,i.bytes))=some (some (.int .u8 0),1,1):=by kernel_rfl
theorem wpList_append_B {w:World} {ops:Array Oper} {rest:List Oper} {o:Oper} {a:Act} {Q:Exit->Act->World->Prop} (hgd:o.guard=none) (s x:Operand)
 (ho:o.op = .call { callee := .builtin .append,args := #[s,x],argTypes := #[37,37] }) (base:Nat) (v:Value) (l:List (UInt8)) (hs:a.eval s=v) (hown:OwnB w base v l)
 (ao:Option Addr) (m c:Nat) (l2:List (UInt8)) (hx:a.eval x = .slice ao m c) (hm:l2.length=m) (hsrc:SlL w ao l2) (hnil:ao=none->c=0) (hbound:l.length+m<=1099511627776) (hbase:base<=w.heap.size)
 (h : ∀ v' w',OwnB w' base v' (l++l2)->w.grownBy w' v.ownBlock->wpList Tryz.prog ops Q rest (a.put o.dst v') w'):wpList Tryz.prog ops Q (o::rest) a w:=by
 obtain⟨i0,hi,hz0,hz1,hz2⟩:=info_parts infoB
 subst hm
 cases ao with
 | none =>
  have h0:l2.length=0:=by
   rcases Nat.eq_zero_or_pos l2.length with h | h
   ·exact h
   ·obtain⟨b,o,e,_⟩:=hsrc h;cases e
  obtain rfl:l2 = []:=List.eq_nil_of_length_eq_zero h0
  obtain rfl:=hnil rfl
  refine wpList_append_own_none hgd s x 37 ho base 5 i0 1 Tryz.underlying37 hi v l.length (vb l) hs hown hx ?_
  exact h v w (by rw[List.append_nil];exact hown) ⟨rfl,rfl,rfl,Nat.le_refl _,fun _ _ _=>rfl⟩
 | some ad =>
  refine wpList_append_own w hgd s x 37 ho base 5 i0 (.int .u8 0) 1 1 Tryz.underlying37 hi hz0 hz1 hz2 rfl (by decide) v l.length (vb l) hs hown ad l2.length c (vb l2) hx (by rw[vb_len,Nat.mul_one]) ?_ (vb_one l2) (by unfold maxLen;omega) (by omega) hbase ?_
  ·intro j u hu
   have hj:j<l2.length:=by have:=(List.getElem?_eq_some_iff.1 hu).1;rwa [vb_len] at this
   obtain⟨b,o',e,_,hc⟩:=hsrc (by omega)
   cases e
   rw[Addr.add_mid,hc j hj, <- vb_get l2 j hj,hu]
  ·intro v' w' h1 h2 _
   exact h v' w' (by unfold OwnB;rw[List.length_append,vb_app];exact h1) h2
theorem grown_below {w w' w0:World} {base:Nat} {v:Value} {l:List (UInt8)} (hown:OwnB w base v l) (hg:w.grownBy w' v.ownBlock) (hb:Below base w0 w) (hB:base<=w.heap.size):Below base w0 w':=by
 refine hb.grown hg hB fun k hk=>?_
 have h0:w.ownsRow base 5 1 v l.length (vb l):=hown
 rcases h0.2 with⟨rfl,_⟩ | ⟨g,cap,cur,rfl,hg',_⟩
 ·simp[Value.ownBlock] at hk
 ·simp[Value.ownBlock] at hk;omega
theorem OwnB.below {w w':World} {base:Nat} {v:Value} {l:List (UInt8)} (h:OwnB w base v l) (hb:Below w.heap.size w w'):OwnB w' base v l:=by
 have h0:w.ownsRow base 5 1 v l.length (vb l):=h
 refine⟨h0.1,?_⟩
 rcases h0.2 with h1 | ⟨g,cap,cur,e,h1,h2,h3⟩
 ·exact Or.inl h1
 ·exact Or.inr ⟨g,cap,cur,e,h1,by rw[hb.block g (Array.getElem?_eq_some_iff.1 h2).1];exact h2,h3⟩
theorem SlL.litm (w:World) (l:List (UInt8)) (A:Array Value) (t:TypeId) (fr:Nat × Nat) (h:A=(vb l).toArray):SlL (w.alloc (.cells A t fr)) (some ⟨w.heap.size,0,none⟩) l:=fun _=>by
 subst h
 refine⟨w.heap.size,0,rfl,by simp,fun j hj=>?_⟩
 rw[cell_of_row _ _ _ _ t fr (heap_alloc_last w _),Nat.zero_add]
 simp only[List.getElem?_toArray]
 exact vb_get l j hj
open Go.RowKit
theorem wrap_nat (n:Nat) (h:n<=9223372036854775807):IntKind.i64.wrap (n:Int)=(n:Int):=by rw[IntKind.wrap_i64];omega
def vs (n:List (List UInt8)):List Value:=n.map (fun l => .string ⟨l.toArray⟩)
theorem vs_len (n:List (List UInt8)):(vs n).length=n.length:=by simp[vs]
theorem vs_app (n m:List (List UInt8)):vs (n++m)=vs n++vs m:=by simp[vs]
theorem vs_one (n:List (List UInt8)) : ∀ v∈vs n,v.oneCell'=true:=fun v hv=>by
 simp only[vs,List.mem_map] at hv;obtain⟨j,_,rfl⟩:=hv;rfl
theorem vs_get (n:List (List UInt8)) (j:Nat) (h:j<n.length):(vs n)[j]?=some (.string ⟨(n.getD j []).toArray⟩):=by simp[vs,h]
def SlS (w:World) (ao:Option Addr) (n:List (List UInt8)):Prop:=0<n.length -> ∃ b o,ao=some ⟨b,o,none⟩/\b<w.heap.size /\ ∀ j,j<n.length->w.cell? ⟨b,o+j,none⟩=some (.string ⟨(n.getD j []).toArray⟩)
theorem SlS.below {B:Nat} {w w':World} {ao:Option Addr} {n:List (List UInt8)} (h:SlS w ao n) (hb:Below B w w') (hB:w.heap.size<=B):SlS w' ao n:=fun hn=>by
 obtain⟨b,o,e,hlt,hc⟩:=h hn
 exact⟨b,o,e,Nat.lt_of_lt_of_le hlt hb.size,fun j hj=>(hb.cell (p:=⟨b,o+j,none⟩) (Nat.lt_of_lt_of_le hlt hB)).trans (hc j hj)⟩
theorem SlS.alloc {w:World} {ao:Option Addr} {n:List (List UInt8)} (h:SlS w ao n) (o:Obj):SlS (w.alloc o) ao n:=h.below ((Below.refl w.heap.size w).alloc (Nat.le_refl _) o) (Nat.le_refl _)
theorem SlS.litm (w:World) (n:List (List UInt8)) (A:Array Value) (t:TypeId) (fr:Nat × Nat) (h:A=(vs n).toArray):SlS (w.alloc (.cells A t fr)) (some ⟨w.heap.size,0,none⟩) n:=fun _=>by
 subst h
 refine⟨w.heap.size,0,rfl,by simp,fun j hj=>?_⟩
 rw[cell_of_row _ _ _ _ t fr (heap_alloc_last w _),Nat.zero_add]
 simp only[List.getElem?_toArray]
 exact vs_get n j hj
theorem SlS.one (w:World) (l:List UInt8) (t:TypeId):SlS (w.alloc (.cells #[.string ⟨l.toArray⟩] t)) (some ⟨w.heap.size,0,none⟩) [l]:=SlS.litm w [l] _ t (0,0) rfl
theorem SlS.drop {w:World} {b o k:Nat} {n:List (List UInt8)} (h:SlS w (some ⟨b,o,none⟩) n) (hk:k<=n.length):SlS w (some ⟨b,o+k,none⟩) (n.drop k):=fun hn=>by
 rw[List.length_drop] at hn
 obtain⟨b',o',e,hlt,hc⟩:=h (by omega)
 cases e
 refine⟨b,o+k,rfl,hlt,fun j hj=>?_⟩
 rw[List.length_drop] at hj
 rw[show o+k+j=o+(k+j) by omega,hc (k+j) (by omega)]
 simp[List.getD_eq_getElem?_getD,List.getElem?_drop]
def OwnS (w:World) (base:Nat) (v:Value) (n:List (List UInt8)):Prop:=w.ownsRow base 9 1 v n.length (vs n)
theorem OwnS.nil (w:World) (base:Nat):OwnS w base (.slice none 0 0) []:=World.ownsRow_nil _ _ _ _
theorem OwnS.alloc {w:World} {base:Nat} {v:Value} {n:List (List UInt8)} (h:OwnS w base v n) (o:Obj):OwnS (w.alloc o) base v n:=World.ownsRow.alloc h o
theorem OwnS.open {w:World} {base:Nat} {v:Value} {n:List (List UInt8)} (h:OwnS w base v n) : ∃ ao c,v = .slice ao n.length c/\SlS w ao n/\(ao=none->c=0)/\n.length<=c/\c<=maxLen:=by
 have h0:w.ownsRow base 9 1 v n.length (vs n):=h
 rcases h0.2 with⟨rfl,hn⟩ | ⟨g,cap,cur,rfl,hb,hg,hc,hm,_,_⟩
 ·exact⟨none,0,by rw[hn],fun hh=>by omega,fun _=>rfl,by omega,by unfold maxLen;omega⟩
 ·exact⟨_,cap,rfl,fun hl=>⟨g,0,rfl,(Array.getElem?_eq_some_iff.1 hg).1,fun j hj=>by rw[Nat.zero_add,World.ownsRow.cellAt h0 j (by omega),vs_get n j hj]⟩,fun hh=>(by cases hh),hc,hm⟩
theorem OwnB.open {w:World} {base:Nat} {v:Value} {l:List UInt8} (h:OwnB w base v l) : ∃ ao c,v = .slice ao l.length c/\SlL w ao l/\(ao=none->c=0)/\l.length<=c/\c<=maxLen:=by
 have h0:w.ownsRow base 5 1 v l.length (vb l):=h
 rcases h0.2 with⟨rfl,hn⟩ | ⟨g,cap,cur,rfl,hb,hg,hc,hm,_,_⟩
 ·exact⟨none,0,by rw[hn],fun hh=>by omega,fun _=>rfl,by omega,by unfold maxLen;omega⟩
 ·exact⟨_,cap,rfl,fun hl=>⟨g,0,rfl,(Array.getElem?_eq_some_iff.1 hg).1,fun j hj=>by rw[Nat.zero_add,World.ownsRow.cellAt h0 j (by omega),vb_get l j hj]⟩,fun hh=>(by cases hh),hc,hm⟩
theorem OwnS.below {w w':World} {base:Nat} {v:Value} {n:List (List UInt8)} (h:OwnS w base v n) (hb:Below w.heap.size w w'):OwnS w' base v n:=by
 have h0:w.ownsRow base 9 1 v n.length (vs n):=h
 refine⟨h0.1,?_⟩
 rcases h0.2 with h1 | ⟨g,cap,cur,e,h1,h2,h3⟩
 ·exact Or.inl h1
 ·exact Or.inr ⟨g,cap,cur,e,h1,by rw[hb.block g (Array.getElem?_eq_some_iff.1 h2).1];exact h2,h3⟩
theorem OwnS.lower {w:World} {base base':Nat} {v:Value} {n:List (List UInt8)} (h:OwnS w base v n) (hb:base'<=base):OwnS w base' v n:=by
 have h0:w.ownsRow base 9 1 v n.length (vs n):=h
 refine⟨h0.1,?_⟩
 rcases h0.2 with h1 | ⟨g,cap,cur,e,h1,h2,h3⟩
 ·exact Or.inl h1
 ·exact Or.inr ⟨g,cap,cur,e,Nat.le_trans hb h1,h2,h3⟩
theorem infoS:(Tryz.prog.info? 9).map (fun i=>(i.zero,i.size,i.bytes))=some (some (.string ⟨#[]⟩),1,16):=by kernel_rfl
theorem grown_belowS {w w' w0:World} {base:Nat} {v:Value} {n:List (List UInt8)} (hown:OwnS w base v n) (hg:w.grownBy w' v.ownBlock) (hb:Below base w0 w) (hB:base<=w.heap.size):Below base w0 w':=by
 refine hb.grown hg hB fun k hk=>?_
 have h0:w.ownsRow base 9 1 v n.length (vs n):=hown
 rcases h0.2 with⟨rfl,_⟩ | ⟨g,cap,cur,rfl,hg',_⟩
 ·simp[Value.ownBlock] at hk
 ·simp[Value.ownBlock] at hk;omega
theorem run_append_S {w:World} {base:Nat} {v:Value} {n:List (List UInt8)} (ty:TypeId) (hown:OwnS w base v n) (ad:Addr) (m c:Nat) (n2:List (List UInt8)) (hm:n2.length=m) (hsrc:SlS w (some ad) n2) (hbound:n.length+m<=1099511627776) (hbase:base<=w.heap.size) :
 ∃ v' w',(Builtin.append_ #[28,28] ty #[v,.slice (some ad) m c]).run Tryz.prog w = .ok v' w'/\OwnS w' base v' (n++n2)/\w.grownBy w' v.ownBlock:=by
 obtain⟨i0,hi,hz0,hz1,hz2⟩:=info_parts infoS
 subst hm
 obtain⟨v',w',h1,h2,h3,_⟩:=run_append_own (P:=Tryz.prog) w base 28 ty 9 i0 (.string ⟨#[]⟩) 1 16 Tryz.underlying28 hi hz0 hz1 hz2 rfl (by decide) v n.length (vs n) hown ad n2.length c (vs n2) (by rw[vs_len,Nat.mul_one]) (by
  intro j u hu
  have hj:j<n2.length:=by have:=(List.getElem?_eq_some_iff.1 hu).1;rwa [vs_len] at this
  obtain⟨b,o',e,_,hc⟩:=hsrc (by omega)
  cases e
  rw[Addr.add_mid,hc j hj, <- vs_get n2 j hj,hu]) (vs_one n2) (by unfold maxLen;omega) (by omega) hbase
 exact⟨v',w',h1,by unfold OwnS;rw[List.length_append,vs_app];exact h2,h3⟩
theorem wpList_append_S {w:World} {ops:Array Oper} {rest:List Oper} {o:Oper} {a:Act} {Q:Exit->Act->World->Prop} (hgd:o.guard=none) (s x:Operand)
 (ho:o.op = .call { callee := .builtin .append,args := #[s,x],argTypes := #[28,28] }) (base:Nat) (v:Value) (n:List (List UInt8)) (hs:a.eval s=v) (hown:OwnS w base v n)
 (ad:Addr) (m c:Nat) (n2:List (List UInt8)) (hx:a.eval x = .slice (some ad) m c) (hm:n2.length=m) (hsrc:SlS w (some ad) n2) (hbound:n.length+m<=1099511627776) (hbase:base<=w.heap.size)
 (h : ∀ v' w',OwnS w' base v' (n++n2)->w.grownBy w' v.ownBlock->wpList Tryz.prog ops Q rest (a.put o.dst v') w'):wpList Tryz.prog ops Q (o::rest) a w:=by
 refine wpList_plain hgd fun K hK=>?_
 obtain⟨v',w',hr,h2,h3⟩:=run_append_S o.type hown ad m c n2 hm hsrc hbound hbase
 unfold Oper.wp execOp
 simp only[ho,resolve,invoke,builtin,Sem.run_bind,Sem.run_pure,Result.andThen_ok,List.map_toArray,List.map_cons,List.map_nil,hs,hx,hr]
 exact hK _ _ (h v' w' h2 h3)
theorem run_append_B {w:World} {base:Nat} {v:Value} {l:List UInt8} (ty:TypeId) (hown:OwnB w base v l) (ad:Addr) (m c:Nat) (l2:List UInt8) (hm:l2.length=m) (hsrc:SlL w (some ad) l2) (hbound:l.length+m<=1099511627776) (hbase:base<=w.heap.size) :
 ∃ v' w',(Builtin.append_ #[37,37] ty #[v,.slice (some ad) m c]).run Tryz.prog w = .ok v' w'/\OwnB w' base v' (l++l2)/\w.grownBy w' v.ownBlock:=by
 obtain⟨i0,hi,hz0,hz1,hz2⟩:=info_parts infoB
 subst hm
 obtain⟨v',w',h1,h2,h3,_⟩:=run_append_own (P:=Tryz.prog) w base 37 ty 5 i0 (.int .u8 0) 1 1 Tryz.underlying37 hi hz0 hz1 hz2 rfl (by decide) v l.length (vb l) hown ad l2.length c (vb l2) (by rw[vb_len,Nat.mul_one]) (by
  intro j u hu
  have hj:j<l2.length:=by have:=(List.getElem?_eq_some_iff.1 hu).1;rwa [vb_len] at this
  obtain⟨b,o',e,_,hc⟩:=hsrc (by omega)
  cases e
  rw[Addr.add_mid,hc j hj, <- vb_get l2 j hj,hu]) (vb_one l2) (by unfold maxLen;omega) (by omega) hbase
 exact⟨v',w',h1,by unfold OwnB;rw[List.length_append,vb_app];exact h2,h3⟩
theorem step_append_B {ops:Array Oper} {o:Oper} {a:Act} {w:World} {K:Act->World->Prop} {Q:Exit->Act->World->Prop} {E:Prop} (hgd:o.guard=none) (s x:Operand)
 (ho:o.op = .call { callee := .builtin .append,args := #[s,x],argTypes := #[37,37] }) (base:Nat) (v:Value) (l:List UInt8) (hs:a.eval s=v) (hown:OwnB w base v l)
 (ad:Addr) (m c:Nat) (l2:List UInt8) (hx:a.eval x = .slice (some ad) m c) (hm:l2.length=m) (hsrc:SlL w (some ad) l2) (hbound:l.length+m<=1099511627776) (hbase:base<=w.heap.size)
 (h : ∀ v' w',OwnB w' base v' (l++l2)->w.grownBy w' v.ownBlock->K (a.put o.dst v') w'):if Region.wanted o (yielded ops a.tmps)=true then Oper.wp Tryz.prog o a w K Q else E:=by
 have hw:Region.wanted o (yielded ops a.tmps)=true:=by simp[Region.wanted,hgd]
 rw[if_pos hw]
 obtain⟨v',w',hr,h2,h3⟩:=run_append_B o.type hown ad m c l2 hm hsrc hbound hbase
 unfold Oper.wp execOp
 simp only[ho,resolve,invoke,builtin,Sem.run_bind,Sem.run_pure,Result.andThen_ok,List.map_toArray,List.map_cons,List.map_nil,hs,hx,hr]
 exact h v' w' h2 h3
theorem size_mk (l:List UInt8):(⟨l.toArray⟩:ByteArray).size=l.length:=rfl
theorem run_append_BS {w:World} {base:Nat} {v:Value} {l:List UInt8} (ty:TypeId) (hown:OwnB w base v l) (l2:List UInt8) (hbound:l.length+l2.length<=1099511627776) (hbase:base<=w.heap.size) :
 ∃ v' w',(Builtin.append_ #[37,9] ty #[v,.string ⟨l2.toArray⟩]).run Tryz.prog w = .ok v' w'/\OwnB w' base v' (l++l2)/\w.grownBy w' v.ownBlock:=by
 obtain⟨i0,hi,hz0,hz1,hz2⟩:=info_parts infoB
 obtain⟨v',w',h1,h2,h3,_⟩:=Lib.run_append_own_string (P:=Tryz.prog) w base 37 9 ty 5 i0 Tryz.underlying37 Tryz.underlying9 hi hz0 hz1 hz2 v l.length (vb l) hown ⟨l2.toArray⟩ (by rw[size_mk];unfold maxLen;omega) (by rw[size_mk];omega) hbase
 refine⟨v',w',h1,?_,h3⟩
 have e:Lib.strCells ⟨l2.toArray⟩=vb l2:=by simp[Lib.strCells,vb]
 rw[e,size_mk] at h2
 unfold OwnB;rw[List.length_append,vb_app];exact h2
theorem wpList_append_BS {w:World} {ops:Array Oper} {rest:List Oper} {o:Oper} {a:Act} {Q:Exit->Act->World->Prop} (hgd:o.guard=none) (s x:Operand)
 (ho:o.op = .call { callee := .builtin .append,args := #[s,x],argTypes := #[37,9] }) (base:Nat) (v:Value) (l:List UInt8) (hs:a.eval s=v) (hown:OwnB w base v l)
 (l2:List UInt8) (hx:a.eval x = .string ⟨l2.toArray⟩) (hbound:l.length+l2.length<=1099511627776) (hbase:base<=w.heap.size)
 (h : ∀ v' w',OwnB w' base v' (l++l2)->w.grownBy w' v.ownBlock->wpList Tryz.prog ops Q rest (a.put o.dst v') w'):wpList Tryz.prog ops Q (o::rest) a w:=by
 refine wpList_plain hgd fun K hK=>?_
 obtain⟨v',w',hr,h2,h3⟩:=run_append_BS o.type hown l2 hbound hbase
 unfold Oper.wp execOp
 simp only[ho,resolve,invoke,builtin,Sem.run_bind,Sem.run_pure,Result.andThen_ok,List.map_toArray,List.map_cons,List.map_nil,hs,hx,hr]
 exact hK _ _ (h v' w' h2 h3)
theorem step_append_BS {ops:Array Oper} {o:Oper} {a:Act} {w:World} {K:Act->World->Prop} {Q:Exit->Act->World->Prop} {E:Prop} (hgd:o.guard=none) (s x:Operand)
 (ho:o.op = .call { callee := .builtin .append,args := #[s,x],argTypes := #[37,9] }) (base:Nat) (v:Value) (l:List UInt8) (hs:a.eval s=v) (hown:OwnB w base v l)
 (l2:List UInt8) (hx:a.eval x = .string ⟨l2.toArray⟩) (hbound:l.length+l2.length<=1099511627776) (hbase:base<=w.heap.size)
 (h : ∀ v' w',OwnB w' base v' (l++l2)->w.grownBy w' v.ownBlock->K (a.put o.dst v') w'):if Region.wanted o (yielded ops a.tmps)=true then Oper.wp Tryz.prog o a w K Q else E:=by
 have hw:Region.wanted o (yielded ops a.tmps)=true:=by simp[Region.wanted,hgd]
 rw[if_pos hw]
 obtain⟨v',w',hr,h2,h3⟩:=run_append_BS o.type hown l2 hbound hbase
 unfold Oper.wp execOp
 simp only[ho,resolve,invoke,builtin,Sem.run_bind,Sem.run_pure,Result.andThen_ok,List.map_toArray,List.map_cons,List.map_nil,hs,hx,hr]
 exact h v' w' h2 h3
theorem run_str {W:World} {ao:Option Addr} {l:List UInt8} (n cap:Nat) (hs:SlL W ao l) (hl:l.length=n):(convert 37 9 (.slice ao n cap)).run Tryz.prog W = .ok (.string ⟨l.toArray⟩) W:=by
 subst hl
 cases ao with
 | none =>
  have h0:l = []:=by
   rcases Nat.eq_zero_or_pos l.length with h | h
   ·exact List.eq_nil_of_length_eq_zero h
   ·obtain⟨b,o,e,_⟩:=hs h;cases e
  subst h0
  exact run_convert_bytes_nil W 37 5 Tryz.underlying37 Tryz.underlying5 0 cap 9 Tryz.underlying9
 | some a =>
  refine run_convert_bytes_back W 37 9 5 a cap l Tryz.underlying37 Tryz.underlying5 Tryz.underlying9 ?_
  intro j hj
  obtain⟨b,o,e,_,hc⟩:=hs (by omega)
  cases e
  rw[Addr.add_mid,hc j hj]
  simp[hj]
theorem SlL.part {w:World} {b o k:Nat} {l:List UInt8} (m:Nat) (h:SlL w (some ⟨b,o,none⟩) l) (hk:k+m<=l.length):SlL w (some ⟨b,o+k,none⟩) ((l.drop k).take m):=fun hn=>by
 rw[List.length_take,List.length_drop] at hn
 obtain⟨b',o',e,hlt,hc⟩:=h (by omega)
 cases e
 refine⟨b,o+k,rfl,hlt,fun j hj=>?_⟩
 rw[List.length_take,List.length_drop] at hj
 rw[show o+k+j=o+(k+j) by omega,hc (k+j) (by omega)]
 have hjm:j<m:=by omega
 simp[List.getD_eq_getElem?_getD,List.getElem?_drop,hjm]
open Go.RowKit
namespace N
theorem drop_at (l:List UInt8) (j:Nat) (h:j<l.length):l.drop j=l.getD j 0::l.drop (j+1):=by
 rw[List.drop_eq_getElem_cons h];simp[h]
theorem dropN_at (l:List (List UInt8)) (j:Nat) (h:j<l.length):l.drop j=l.getD j []::l.drop (j+1):=by
 rw[List.drop_eq_getElem_cons h];simp[h]
theorem cmpL_next (a b:List UInt8) (j:Nat) (ha:j<a.length) (hb:j<b.length) :
 cmpL (a.drop j) (b.drop j)=if cmpI (low (a.getD j 0)).toNat (low (b.getD j 0)).toNat=0 then cmpL (a.drop (j+1)) (b.drop (j+1)) else cmpI (low (a.getD j 0)).toNat (low (b.getD j 0)).toNat:=by
 rw[drop_at a j ha,drop_at b j hb];rfl
theorem cmpL_end (a b:List UInt8) (j:Nat) (ha:j<=a.length) (hb:j<=b.length) (h:j=a.length\/j=b.length):cmpL (a.drop j) (b.drop j)=cmpI a.length b.length:=by
 rcases Nat.lt_or_ge j a.length with h1 | h1
 ·have h2:j=b.length:=by omega
  rw[drop_at a j h1,List.drop_eq_nil_of_le (by omega:b.length<=j)]
  show (1:Int)=_
  unfold cmpI;rw[if_neg (by omega),if_pos (by omega)]
 ·rw[List.drop_eq_nil_of_le h1]
  rcases Nat.lt_or_ge j b.length with h2 | h2
  ·rw[drop_at b j h2]
   show (-1:Int)=_
   unfold cmpI;rw[if_pos (by omega)]
  ·rw[List.drop_eq_nil_of_le h2]
   show (0:Int)=_
   unfold cmpI;rw[if_neg (by omega),if_neg (by omega)]
end N
theorem str_at (s:ByteArray) (pos:Nat) (h:pos<s.size):s[pos]'h=s.data.toList.getD pos 0:=by
 have h1:pos<s.data.toList.length:=h
 rw[List.getD_eq_getElem?_getD,List.getElem?_eq_getElem h1];rfl
theorem drew_more {w wr:World} (n:Nat) (h : ∃ m,wr=w.drewN m) : ∃ m,wr.drewN n=w.drewN m:=by
 obtain⟨m,rfl⟩:=h
 exact⟨m+n,World.drewN_drewN _ _ _⟩
theorem drew_below {w w':World} (B:Nat) (h : ∃ m,w'=w.drewN m):Below B w w':=by
 obtain⟨n,rfl⟩:=h
 exact⟨rfl,rfl,rfl,Nat.le_refl _,fun _ _=>rfl⟩
theorem lower_c (c:UInt8) (w:World):Calls Tryz.prog 91 #[.int .u8 (c.toNat:Int)] w fun e w'=>e = .returned (.int .u8 ((N.low c).toNat:Int))/\w'=w:=by
 have hc:=c.toNat_lt
 rcases Nat.lt_or_ge c.toNat 65 with h1 | h1
 ·rw[N.low_other (Or.inl h1)]
  go_enter Tryz.func91,Tryz.ntmps91
  go_wp2
  go_ret
  exact⟨rfl,rfl⟩
 ·rcases Nat.lt_or_ge 90 c.toNat with h2 | h2
  ·rw[N.low_other (Or.inr h2)]
   go_enter Tryz.func91,Tryz.ntmps91
   go_wp2
   go_ret
   exact⟨rfl,rfl⟩
  ·rw[N.low_cap h1 h2]
   go_enter Tryz.func91,Tryz.ntmps91
   go_wp2
   go_ret
   exact⟨by rw[show ((c.toNat+32:Nat):Int)=(c.toNat:Int)+97 - 65 by omega] <;> rfl,rfl⟩
theorem nanInt_any (x:Int) (w:World):Calls Tryz.prog 203 #[.int .i64 x] w fun e w'=>e = .returned (.bool false)/\w'=w:=by
 go_enter Tryz.func203,Tryz.ntmps203
 go_wp2
 go_ret
 exact⟨by simp,rfl⟩
theorem nanByte_any (x:Int) (w:World):Calls Tryz.prog 216 #[.int .u8 x] w fun e w'=>e = .returned (.bool false)/\w'=w:=by
 go_enter Tryz.func216,Tryz.ntmps216
 go_wp2
 go_ret
 exact⟨by simp,rfl⟩
theorem cmpInt_any (x y:Nat) (w:World):Calls Tryz.prog 175 #[.int .i64 (x:Int),.int .i64 (y:Int)] w fun e w'=>e = .returned (.int .i64 (N.cmpI x y))/\w'=w:=by
 rcases Nat.lt_trichotomy x y with h | h | h
 ·have hc:N.cmpI x y = -1:=by unfold N.cmpI;rw[if_pos h]
  rw[hc]
  go_enter Tryz.func175,Tryz.ntmps175
  go_wp2_with (go_at_call 203;refine (nanInt_any _ _).mono ?_;rintro e w' ⟨rfl,rfl⟩)
  go_ret
  exact⟨rfl,rfl⟩
 ·subst h
  rw[N.cmpI_self]
  go_enter Tryz.func175,Tryz.ntmps175
  go_wp2_with (go_at_call 203;refine (nanInt_any _ _).mono ?_;rintro e w' ⟨rfl,rfl⟩)
  go_ret
  exact⟨rfl,rfl⟩
 ·have hc:N.cmpI x y=1:=by unfold N.cmpI;rw[if_neg (by omega),if_pos h]
  rw[hc]
  go_enter Tryz.func175,Tryz.ntmps175
  go_wp2_with (go_at_call 203;refine (nanInt_any _ _).mono ?_;rintro e w' ⟨rfl,rfl⟩)
  go_ret
  exact⟨rfl,rfl⟩
theorem cmpByte_any (x y:Nat) (w:World):Calls Tryz.prog 202 #[.int .u8 (x:Int),.int .u8 (y:Int)] w fun e w'=>e = .returned (.int .i64 (N.cmpI x y))/\w'=w:=by
 rcases Nat.lt_trichotomy x y with h | h | h
 ·have hc:N.cmpI x y = -1:=by unfold N.cmpI;rw[if_pos h]
  rw[hc]
  go_enter Tryz.func202,Tryz.ntmps202
  go_wp2_with (go_at_call 216;refine (nanByte_any _ _).mono ?_;rintro e w' ⟨rfl,rfl⟩)
  go_ret
  exact⟨rfl,rfl⟩
 ·subst h
  rw[N.cmpI_self]
  go_enter Tryz.func202,Tryz.ntmps202
  go_wp2_with (go_at_call 216;refine (nanByte_any _ _).mono ?_;rintro e w' ⟨rfl,rfl⟩)
  go_ret
  exact⟨rfl,rfl⟩
 ·have hc:N.cmpI x y=1:=by unfold N.cmpI;rw[if_neg (by omega),if_pos h]
  rw[hc]
  go_enter Tryz.func202,Tryz.ntmps202
  go_wp2_with (go_at_call 216;refine (nanByte_any _ _).mono ?_;rintro e w' ⟨rfl,rfl⟩)
  go_ret
  exact⟨rfl,rfl⟩
set_option maxRecDepth 3000 in
set_option maxHeartbeats 400000 in
theorem compareLabels_any (sa sb:ByteArray) (a b:List UInt8) (w:World) (ha:Hid (sa.data.toList=a)) (hb:Hid (sb.data.toList=b)) (hsa:sa.size<=9223372036854775807) (hsb:sb.size<=9223372036854775807) :
 Calls Tryz.prog 174 #[.string sa,.string sb] w fun e w'=>e = .returned (.int .i64 (N.cmpL a b)) /\ ∃ m,w'=w.drewN m:=by
 have hla:Hid (a.length=sa.size):=by rw[<- ha.out];exact rfl
 have hlb:Hid (b.length=sb.size):=by rw[<- hb.out];exact rfl
 obtain⟨M,hMa,hMb,hMe⟩ : ∃ M:Nat,M<=sa.size/\M<=sb.size/\(M=sa.size\/M=sb.size):=⟨min sa.size sb.size,by omega,by omega,by omega⟩
 have hME:=hide hMe
 clear hMe
 go_enter Tryz.func174,Tryz.ntmps174
 go_wp2
 all_goals
  go_loopw [12] (fun i wr => ∃ j:Nat,i = .int .i64 (j:Int)/\j<=M/\Hid (N.cmpL a b=N.cmpL (a.drop j) (b.drop j)) /\ ∃ m,wr=w.drewN m) (fun i _=>M - (intOf i).toNat)
  case atStart=>exact⟨0,rfl,by omega,rfl,0,rfl⟩
  case round =>
   obtain⟨j,rfl,hj,HC,hm⟩:=hrel
   have HM:=hide hm
   clear hm
   by_cases hlt:j<M
   ·have hxa:sa[j]'(by omega)=a.getD j 0:=by rw[<- ha.out];exact str_at sa j (by omega)
    have hxb:sb[j]'(by omega)=b.getD j 0:=by rw[<- hb.out];exact str_at sb j (by omega)
    have hn:=N.cmpL_next a b j (by rw[hla.out];omega) (by rw[hlb.out];omega)
    generalize a.getD j 0=x at hxa hn
    generalize b.getD j 0=y at hxb hn
    have hbd:=N.cmpI_bounds (N.low x).toNat (N.low y).toNat
    obtain⟨c,hcc⟩ : ∃ c,N.cmpI (N.low x).toNat (N.low y).toNat=c:=⟨_,rfl⟩
    rw[hcc] at hn hbd
    have hj1:(j:Int)<(sa.size:Int):=by omega
    have hj2:(j:Int)<(sb.size:Int):=by omega
    have HN:=hide hn
    clear hn
    go_wp2
    go_quiet (first | ((go_at_call 91;exact Calls.quiet_of_same (lower_c _ _))) | ((go_at_call 202;exact Calls.quiet_of_same (cmpByte_any _ _ _))))
    by_cases h0:c=0
    ·subst h0
     go_wp2
     go_roundw
     case rel=>exact⟨j+1,by go_num,by omega,(by have:=HN.out;rw[if_pos rfl] at this;rw[HC.out];exact this),drew_more _ HM.out⟩
     case measure=>simp[intOf];omega
    ·have hne:(c != 0)=true:=by simp[h0]
     go_wp2
     go_ret
     refine⟨?_,drew_more _ HM.out⟩
     have:=HN.out
     rw[if_neg h0] at this
     rw[HC.out,this, <- hcc]
     rfl
   ·obtain rfl:j=M:=by omega
    try have hz1 : ¬ (j<sa.size):=by (have:=hME.out;omega)
    try have hz2 : ¬ (j<sb.size):=by (have:=hME.out;omega)
    have hend:=N.cmpL_end a b j (by rw[hla.out];omega) (by rw[hlb.out];omega) (by rw[hla.out,hlb.out];exact hME.out)
    rw[hla.out,hlb.out] at hend
    have HE:=hide hend
    clear hend
    go_wp2_with (go_at_call 175;refine (cmpInt_any _ _ _).mono ?_;rintro e w' ⟨rfl,rfl⟩)
    go_ret
    exact⟨by rw[HC.out,HE.out];rfl,HM.out⟩
open Go.RowKit
namespace N
theorem rev_at (a:List (List UInt8)) (j:Nat) (h:j<a.length):a.reverse.getD j []=a.getD (a.length - 1 - j) []:=by
 have h1:j<a.reverse.length:=by simpa using h
 have h2:a.length - 1 - j<a.length:=by omega
 rw[List.getD_eq_getElem?_getD,List.getD_eq_getElem?_getD,List.getElem?_eq_getElem h1,List.getElem?_eq_getElem h2,List.getElem_reverse]
theorem cmpR_next (a b:List (List UInt8)) (j:Nat) (ha:j<a.length) (hb:j<b.length) :
 cmpR (a.reverse.drop j) (b.reverse.drop j)=if cmpL (a.getD (a.length - 1 - j) []) (b.getD (b.length - 1 - j) [])=0 then cmpR (a.reverse.drop (j+1)) (b.reverse.drop (j+1)) else cmpL (a.getD (a.length - 1 - j) []) (b.getD (b.length - 1 - j) []):=by
 rw[dropN_at a.reverse j (by simpa using ha),dropN_at b.reverse j (by simpa using hb),rev_at a j ha,rev_at b j hb];rfl
theorem cmpR_end (a b:List (List UInt8)) (j:Nat) (ha:j<=a.length) (hb:j<=b.length) (h:j=a.length\/j=b.length):cmpR (a.reverse.drop j) (b.reverse.drop j)=cmpI a.length b.length:=by
 have la:a.reverse.length=a.length:=by simp
 have lb:b.reverse.length=b.length:=by simp
 rcases Nat.lt_or_ge j a.length with h1 | h1
 ·have h2:j=b.length:=by omega
  rw[dropN_at a.reverse j (by omega),List.drop_eq_nil_of_le (by omega:b.reverse.length<=j)]
  show (1:Int)=_
  unfold cmpI;rw[if_neg (by omega),if_pos (by omega)]
 ·rw[List.drop_eq_nil_of_le (by omega:a.reverse.length<=j)]
  rcases Nat.lt_or_ge j b.length with h2 | h2
  ·rw[dropN_at b.reverse j (by omega)]
   show (-1:Int)=_
   unfold cmpI;rw[if_pos (by omega)]
  ·rw[List.drop_eq_nil_of_le (by omega:b.reverse.length<=j)]
   show (0:Int)=_
   unfold cmpI;rw[if_neg (by omega),if_neg (by omega)]
end N
def Sane (n:List (List UInt8)):Prop := ∀ l∈n,l.length<=9223372036854775807
theorem Sane.at {n:List (List UInt8)} (h:Sane n) (j:Nat):(n.getD j []).length<=9223372036854775807:=by
 rcases Nat.lt_or_ge j n.length with h1 | h1
 ·have:n.getD j []=n[j]:=by simp[h1]
  rw[this];exact h _ (List.getElem_mem h1)
 ·have:n.getD j [] = []:=by simp[h1]
  rw[this];simp
theorem Sane.drop {n:List (List UInt8)} (h:Sane n) (k:Nat):Sane (n.drop k):=fun l hl=>h l (List.mem_of_mem_drop hl)
set_option maxRecDepth 3000 in
set_option maxHeartbeats 400000 in
theorem compare_any (a b:List (List UInt8)) (ao bo:Option Addr) (la lb ca cb:Nat) (w:World) (hla:Hid (a.length=la)) (hlb:Hid (b.length=lb)) (hsa:SlS w ao a) (hsb:SlS w bo b) (hma:la<=9223372036854775807) (hmb:lb<=9223372036854775807) (ha:Hid (Sane a)) (hb:Hid (Sane b)) :
 Calls Tryz.prog 135 #[.slice ao la ca,.slice bo lb cb] w fun e w'=>e = .returned (.int .i64 (N.cmpN a b)) /\ ∃ m,w'=w.drewN m:=by
 obtain⟨M,hMa,hMb,hMe⟩ : ∃ M:Nat,M<=la/\M<=lb/\(M=la\/M=lb):=⟨min la lb,by omega,by omega,by omega⟩
 have hME:=hide hMe
 have HSA:=hide hsa
 have HSB:=hide hsb
 clear hMe hsa hsb
 go_enter Tryz.func135,Tryz.ntmps135
 go_wp2
 all_goals
  go_loopw [12] (fun i wr => ∃ j:Nat,i = .int .i64 (j:Int)/\j<=M/\Hid (N.cmpN a b=N.cmpR (a.reverse.drop j) (b.reverse.drop j)) /\ ∃ m,wr=w.drewN m) (fun i _=>M - (intOf i).toNat)
  case atStart=>exact⟨0,rfl,by omega,rfl,0,rfl⟩
  case round =>
   obtain⟨j,rfl,hj,HC,hm⟩:=hrel
   have HM:=hide hm
   clear hm
   by_cases hlt:j<M
   ·obtain⟨b1,o1,rfl,_,hc1⟩:=HSA.out (by have:=hla.out;omega)
    obtain⟨b2,o2,rfl,_,hc2⟩:=HSB.out (by have:=hlb.out;omega)
    obtain⟨ja,hja⟩ : ∃ ja,ja=la - 1 - j:=⟨_,rfl⟩
    obtain⟨jb,hjb⟩ : ∃ jb,jb=lb - 1 - j:=⟨_,rfl⟩
    have hn:=N.cmpR_next a b j (by have:=hla.out;omega) (by have:=hlb.out;omega)
    rw[hla.out,hlb.out, <- hja, <- hjb] at hn
    have hx1:wr.cell? ⟨b1,o1+ja,none⟩=some (.string ⟨(a.getD ja []).toArray⟩):=by
     obtain⟨m,rfl⟩:=HM.out
     exact hc1 ja (by have:=hla.out;omega)
    have hx2:wr.cell? ⟨b2,o2+jb,none⟩=some (.string ⟨(b.getD jb []).toArray⟩):=by
     obtain⟨m,rfl⟩:=HM.out
     exact hc2 jb (by have:=hlb.out;omega)
    have hxl:=ha.out.at ja
    have hyl:=hb.out.at jb
    clear hc1 hc2
    generalize a.getD ja []=x at hx1 hn hxl
    generalize b.getD jb []=y at hx2 hn hyl
    have hbd:=N.cmpL_bounds x y
    obtain⟨c,hcc⟩ : ∃ c,N.cmpL x y=c:=⟨_,rfl⟩
    rw[hcc] at hn hbd
    have e1:IntKind.i64.wrap ((la:Int) - 1)=(la:Int) - 1:=by rw[IntKind.wrap_i64];omega
    have e2:IntKind.i64.wrap ((lb:Int) - 1)=(lb:Int) - 1:=by rw[IntKind.wrap_i64];omega
    have e3:IntKind.i64.wrap ((la:Int) - 1 - (j:Int))=(ja:Int):=by rw[IntKind.wrap_i64];omega
    have e4:IntKind.i64.wrap ((lb:Int) - 1 - (j:Int))=(jb:Int):=by rw[IntKind.wrap_i64];omega
    have hj1:(ja:Int)<(la:Int):=by omega
    have hj2:(jb:Int)<(lb:Int):=by omega
    have HN:=hide hn
    have HJ:=hide (And.intro hja hjb)
    clear hn hja hjb
    go_wp2
    go_quiet ((go_at_call 174;exact Calls.quiet_of (compareLabels_any _ _ x y _ rfl rfl (by exact hxl) (by exact hyl))))
    rw[hcc]
    by_cases h0:c=0
    ·subst h0
     go_wp2
     go_roundw
     case rel=>exact⟨j+1,by go_num,by omega,(by have:=HN.out;rw[if_pos rfl] at this;rw[HC.out];exact this),drew_more _ HM.out⟩
     case measure=>simp[intOf];omega
    ·have hne:(c != 0)=true:=by simp[h0]
     go_wp2
     go_ret
     refine⟨?_,drew_more _ HM.out⟩
     have:=HN.out
     rw[if_neg h0] at this
     rw[HC.out,this]
     rfl
   ·obtain rfl:j=M:=by omega
    try have hz1 : ¬ (j<la):=by (have:=hME.out;omega)
    try have hz2 : ¬ (j<lb):=by (have:=hME.out;omega)
    have hend:=N.cmpR_end a b j (by rw[hla.out];omega) (by rw[hlb.out];omega) (by rw[hla.out,hlb.out];exact hME.out)
    rw[hla.out,hlb.out] at hend
    have HE:=hide hend
    clear hend
    go_wp2_with (go_at_call 175;refine (cmpInt_any _ _ _).mono ?_;rintro e w' ⟨rfl,rfl⟩)
    go_ret
    exact⟨by rw[HC.out,HE.out];rfl,HM.out⟩
theorem same_any (a b:List (List UInt8)) (ao bo:Option Addr) (la lb ca cb:Nat) (w:World) (hla:Hid (a.length=la)) (hlb:Hid (b.length=lb)) (hsa:SlS w ao a) (hsb:SlS w bo b) (hma:la<=9223372036854775807) (hmb:lb<=9223372036854775807) (ha:Hid (Sane a)) (hb:Hid (Sane b)) :
 Calls Tryz.prog 106 #[.slice ao la ca,.slice bo lb cb] w fun e w'=>e = .returned (.bool (N.same a b)) /\ ∃ m,w'=w.drewN m:=by
 have HSA:=hide hsa
 have HSB:=hide hsb
 clear hsa hsb
 by_cases h:la=lb
 ·have hz:N.same a b=decide (N.cmpN a b=0):=by unfold N.same;rw[decide_eq_decide];exact N.cmpN_zero.symm
  have hbd:=N.cmpN_bounds a b
  rw[hz]
  subst h
  go_enter Tryz.func106,Tryz.ntmps106
  go_wp2_with (go_at_call 135;refine (compare_any a b ao bo la la ca cb _ hla hlb HSA.out HSB.out hma hmb ha hb).mono ?_;rintro e w' ⟨rfl,hm⟩)
  go_ret
  exact⟨rfl,hm⟩
 ·have hz:N.same a b=false:=by
   unfold N.same
   rw[decide_eq_false_iff_not]
   intro e
   have:=congrArg List.length e
   rw[N.lowN_len,N.lowN_len,hla.out,hlb.out] at this
   exact h this
  have hne:((la:Int) == (lb:Int))=false:=by simp;omega
  rw[hz]
  go_enter Tryz.func106,Tryz.ntmps106
  go_wp2
  go_ret
  exact⟨rfl,0,rfl⟩
open Go.RowKit
theorem addr_add (b o k:Nat):(⟨b,o,none⟩:Addr).add k=⟨b,o+k,none⟩:=Addr.add_lit b o k
theorem slice_from {w:World} {ao:Option Addr} {n:List (List UInt8)} {len cap k:Nat} {x:Int} (hx:x=(k:Int)) (hs:SlS w ao n) (hl:n.length=len) (hk:k<=len) (hc:len<=cap) :
 ∃ ao',(∀ W,(Instr.slice 28 (.slice ao len cap) (some (.int .i64 x)) none none).run Tryz.prog W = .ok (.slice ao' (len - k) (cap - k)) W)/\SlS w ao' (n.drop k):=by
 subst hx
 refine⟨if cap=k then ao else ao.map (·.add (k*1)),fun W=>?_,fun hn=>?_⟩
 ·rw[run_slice_l W 28 ao len cap Tryz.underlying28 .i64 (k:Int) (by omega) (by omega)]
  have hz:(sizeOf (Tryz.prog.elem 28)).run Tryz.prog W = .ok 1 W:=Tryz.sizeOf9 W
  rw[hz]
  simp only[Result.andThen,sliced,Int.toNat_natCast]
 ·rw[List.length_drop] at hn
  obtain⟨b,o,rfl,hlt,hcell⟩:=hs (by omega)
  rw[if_neg (by omega)]
  obtain⟨b',o',e,h1,h2⟩:=(SlS.drop (w:=w) (b:=b) (o:=o) (k:=k) (n:=n) (fun _=>⟨b,o,rfl,hlt,hcell⟩) (by omega)) (by rw[List.length_drop];omega)
  refine⟨b',o',?_,h1,h2⟩
  rw[<- e,Option.map_some,Nat.mul_one,addr_add]
theorem within_any (a b:List (List UInt8)) (ao bo:Option Addr) (la lb ca cb:Nat) (w:World) (hla:Hid (a.length=la)) (hlb:Hid (b.length=lb)) (hsa:SlS w ao a) (hsb:SlS w bo b) (hma:la<=9223372036854775807) (hmb:lb<=9223372036854775807) (hca:la<=ca) (ha:Hid (Sane a)) (hb:Hid (Sane b)) :
 Calls Tryz.prog 83 #[.slice ao la ca,.slice bo lb cb] w fun e w'=>e = .returned (.bool (N.within a b)) /\ ∃ m,w'=w.drewN m:=by
 have HSA:=hide hsa
 have HSB:=hide hsb
 clear hsa hsb
 by_cases h:lb<=la
 ·have hz:N.within a b=N.same (a.drop (la - lb)) b:=by
   unfold N.within;rw[hla.out,hlb.out,decide_eq_true h,Bool.true_and]
  rw[hz]
  obtain⟨ao',hsl,hs'⟩:=slice_from (k:=la - lb) (x:=(la:Int) - (lb:Int)) (by omega) HSA.out hla.out (by omega) hca
  have HS':=hide hs'
  clear hs'
  go_enter Tryz.func83,Tryz.ntmps83
  go_wp2_with (go_at_call 106;refine (same_any (a.drop (la - lb)) b ao' bo _ lb _ cb _ (by show _=_;rw[List.length_drop,hla.out]) hlb HS'.out HSB.out (by omega) hmb (ha.out.drop _) hb).mono ?_;rintro e w' ⟨rfl,hm⟩)
  go_ret
  exact⟨rfl,hm⟩
 ·have hz:N.within a b=false:=by
   unfold N.within;rw[hla.out,hlb.out,decide_eq_false h,Bool.false_and]
  rw[hz]
  go_enter Tryz.func83,Tryz.ntmps83
  go_wp2
  go_ret
  exact⟨rfl,0,rfl⟩
def wild (n:List (List UInt8)):Bool:=decide (0<n.length) && (n.getD 0 [] == [42])
open Go.RowKit
namespace N
def size (n:List (List UInt8)):Nat:=1+(n.map (fun l=>l.length+1)).sum
theorem take_nextN (n:List (List UInt8)) (j:Nat) (h:j<n.length):n.take (j+1)=n.take j ++ [n.getD j []]:=by
 rw[List.take_succ_eq_append_getElem h];simp[h]
theorem take_nextB (n:List UInt8) (j:Nat) (h:j<n.length):n.take (j+1)=n.take j ++ [n.getD j 0]:=by
 rw[List.take_succ_eq_append_getElem h];simp[h]
theorem size_app (a b:List (List UInt8)):size (a++b)=size a+(b.map (fun l=>l.length+1)).sum:=by
 simp only[size,List.map_append,List.sum_append];omega
theorem size_next (n:List (List UInt8)) (j:Nat) (h:j<n.length):size (n.take (j+1))=size (n.take j)+((n.getD j []).length+1):=by
 rw[take_nextN n j h,size_app];simp
def Small (n:List (List UInt8)):Prop:=n.length<=1000000 /\ ∀ l∈n,l.length<=1000000
theorem Small.at {n:List (List UInt8)} (h:Small n) (j:Nat):(n.getD j []).length<=1000000:=by
 rcases Nat.lt_or_ge j n.length with h1 | h1
 ·have:n.getD j []=n[j]:=by simp[h1]
  rw[this];exact h.2 _ (List.getElem_mem h1)
 ·have:n.getD j [] = []:=by simp[h1]
  rw[this];simp
theorem Small.size {n:List (List UInt8)} (h:Small n) : ∀ j,j<=n.length->size (n.take j)<=1+j*1000001
 | 0,_=>by simp[N.size]
 | j+1,hj=>by
  rw[size_next n j (by omega)]
  have h1:=h.size j (by omega)
  have h2:=h.at j
  omega
def chk (n:List (List UInt8)):Int:=if []∈n then 30 else if 255<size n \/ ∃ l∈n,63<l.length then 31 else 0
def lng (n:List (List UInt8)) (j:Nat):Bool:=decide (255<size n) || (n.take j).any (fun l=>decide (63<l.length))
theorem lng_next (n:List (List UInt8)) (j:Nat) (h:j<n.length):lng n (j+1)=(lng n j || decide (63<(n.getD j []).length)):=by
 unfold lng;rw[take_nextN n j h,List.any_append,Bool.or_assoc];simp
theorem chk_bad {n:List (List UInt8)} (j:Nat) (h:j<n.length) (he:n.getD j [] = []):chk n=30:=by
 unfold chk;rw[if_pos]
 have:n[j] = []:=by simpa [h] using he
 rw[<- this];exact List.getElem_mem h
theorem chk_end {n:List (List UInt8)} (h : ∀ l∈n.take n.length,l ≠ []):chk n=if lng n n.length=true then 31 else 0:=by
 rw[List.take_length] at h
 unfold chk lng
 rw[if_neg (fun e=>h [] e rfl),List.take_length]
 simp only[Bool.or_eq_true,decide_eq_true_eq,List.any_eq_true]
theorem chk_small {n:List (List UInt8)} (h:chk n=0) : [] ∉ n/\size n<=255 /\ ∀ l∈n,l.length<=63:=by
 unfold chk at h
 split at h
 ·cases h
 ·rename_i h1
  split at h
  ·cases h
  ·rename_i h2
   exact⟨h1,Nat.le_of_not_lt fun e=>h2 (Or.inl e),fun l hl=>Nat.le_of_not_lt fun e=>h2 (Or.inr ⟨l,hl,e⟩)⟩
theorem chk_ok {n:List (List UInt8)} (h1 : [] ∉ n) (h2:size n<=255) (h3 : ∀ l∈n,l.length<=63):chk n=0:=by
 unfold chk
 rw[if_neg h1,if_neg]
 rintro (h | ⟨l,hl,h⟩)
 ·omega
 ·have:=h3 l hl;omega
end N
set_option maxRecDepth 3000 in
theorem wireSize_any (n:List (List UInt8)) (ao:Option Addr) (len cap:Nat) (w:World) (hl:Hid (n.length=len)) (hs:SlS w ao n) (hm:Hid (N.Small n)) :
 Calls Tryz.prog 115 #[.slice ao len cap] w fun e w'=>e = .returned (.int .i64 (N.size n:Int))/\w'=w:=by
 have HS:=hide hs
 have hlen:len<=1000000:=by rw[<- hl.out];exact hm.out.1
 clear hs
 go_enter Tryz.func115,Tryz.ntmps115
 go_wp2
 go_loopw [8,3] (fun i s wr => ∃ j sz:Nat,i = .int .i64 (j:Int)/\s = .int .i64 (sz:Int)/\j<=len/\Hid (sz=N.size (n.take j))/\wr=w) (fun i _ _=>len - (intOf i).toNat)
 case atStart=>exact⟨0,1,rfl,rfl,by omega,rfl,rfl⟩
 case round =>
  obtain⟨j,sz,rfl,rfl,hj,HZ,rfl⟩:=hrel
  have hsz:sz<=1+j*1000001:=by rw[HZ.out];exact hm.out.size j (by have:=hl.out;omega)
  by_cases hlt:j<len
  ·obtain⟨b1,o1,rfl,_,hc1⟩:=HS.out (by have:=hl.out;omega)
   have hx:=hc1 j (by have:=hl.out;omega)
   have hn:=N.size_next n j (by have:=hl.out;omega)
   have hxl:=hm.out.at j
   clear hc1
   generalize n.getD j []=x at hx hn hxl
   have HN:=hide hn
   clear hn
   go_wp2
   go_roundw
   case rel=>exact⟨j+1,sz+(x.length+1),by go_num,by go_num,by omega,(by rw[HZ.out];exact HN.out.symm),trivial⟩
   case measure=>simp[intOf];omega
  ·obtain rfl:j=len:=by omega
   go_wp2
   go_ret
   refine⟨?_,rfl⟩
   have h1:=HZ.out
   rw[<- hl.out,List.take_length] at h1
   rw[<- h1];rfl
set_option maxRecDepth 3000 in
theorem check_any (n:List (List UInt8)) (ao:Option Addr) (len cap:Nat) (w:World) (hl:Hid (n.length=len)) (hs:SlS w ao n) (hm:Hid (N.Small n)) :
 Calls Tryz.prog 82 #[.slice ao len cap] w fun e w'=>e = .returned (.int .i64 (N.chk n))/\w'=w:=by
 have HS:=hide hs
 have hlen:len<=1000000:=by rw[<- hl.out];exact hm.out.1
 have hsz:N.size n<=1+len*1000001:=by
  have:=hm.out.size n.length (Nat.le_refl _)
  rw[List.take_length,hl.out] at this;exact this
 clear hs
 go_enter Tryz.func82,Tryz.ntmps82
 go_wp2_with (go_at_call 115;refine (wireSize_any n ao len cap _ hl HS.out hm).mono ?_;rintro e w' ⟨rfl,rfl⟩)
 go_loopw [11,3] (fun i s wr => ∃ (j:Nat) (g:Bool),i = .int .i64 (j:Int)/\s = .bool g/\j<=len/\Hid (g=N.lng n j)/\Hid (∀ l∈n.take j,l ≠ [])/\wr=w') (fun i _ _=>len - (intOf i).toNat)
 case atStart=>exact⟨0,_,rfl,rfl,by omega,(by show _=_;unfold N.lng;rw[List.take_zero,List.any_nil,Bool.or_false,decide_eq_decide];omega),(fun l hl=>by simp at hl),rfl⟩
 case round =>
  obtain⟨j,g,rfl,rfl,hj,HG,HE,rfl⟩:=hrel
  by_cases hlt:j<len
  ·obtain⟨b1,o1,rfl,_,hc1⟩:=HS.out (by have:=hl.out;omega)
   have hx:=hc1 j (by have:=hl.out;omega)
   have hn:=N.lng_next n j (by have:=hl.out;omega)
   have hxl:=hm.out.at j
   have hbad := @N.chk_bad n j (by have:=hl.out;omega)
   have ht:=N.take_nextN n j (by have:=hl.out;omega)
   clear hc1
   generalize n.getD j []=x at hx hn hxl hbad ht
   have HN:=hide hn
   have HB:=hide hbad
   have HT:=hide ht
   clear hn hbad ht
   by_cases hx0:x = []
   ·have HB0:=hide (HB.out hx0)
    clear HB
    subst hx0
    go_wp2
    go_ret
    exact⟨by rw[HB0.out];rfl,rfl⟩
   ·have hx1:x.isEmpty=false:=by cases x <;> simp_all
    have hx2:(x == [])=false:=by cases x <;> simp_all
    cases g
    ·go_wp2
     go_roundw
     case rel=>exact⟨j+1,_,by go_num,rfl,by omega,(by show _=_;rw[HN.out, <- HG.out,Bool.false_or,decide_eq_decide];omega),(by rw[HT.out];intro l hl;rcases List.mem_append.1 hl with h | h;exact HE.out l h;rw[List.mem_singleton.1 h];exact hx0),trivial⟩
     case measure=>simp[intOf];omega
    ·go_wp2
     go_roundw
     case rel=>exact⟨j+1,_,by go_num,rfl,by omega,(by show _=_;rw[HN.out, <- HG.out,Bool.true_or]),(by rw[HT.out];intro l hl;rcases List.mem_append.1 hl with h | h;exact HE.out l h;rw[List.mem_singleton.1 h];exact hx0),trivial⟩
     case measure=>simp[intOf];omega
  ·obtain rfl:j=len:=by omega
   have he := @N.chk_end n (by rw[hl.out];exact HE.out)
   rw[hl.out, <- HG.out] at he
   have HC:=hide he
   clear he
   cases g
   ·go_wp2
    go_ret
    exact⟨by rw[HC.out];rfl,rfl⟩
   ·go_wp2
    go_ret
    exact⟨by rw[HC.out];rfl,rfl⟩
open Go.RowKit
namespace N
def body (n:List (List UInt8)):List UInt8:=n.flatMap (fun l=>UInt8.ofNat l.length::l)
def wire (n:List (List UInt8)):List UInt8:=body n ++ [0]
theorem body_len : ∀ n:List (List UInt8),(body n).length+1=size n
 | []=>rfl
 | l::n=>by
  have h:=body_len n
  have e:body (l::n)=(UInt8.ofNat l.length::l)++body n:=by simp[body]
  rw[e,List.length_append,List.length_cons]
  have e2:size (l::n)=(l.length+1)+size n:=by simp only[size,List.map_cons,List.sum_cons];omega
  omega
theorem body_next (n:List (List UInt8)) (j:Nat) (h:j<n.length):body (n.take (j+1))=body (n.take j) ++ [UInt8.ofNat (n.getD j []).length]++n.getD j []:=by
 rw[take_nextN n j h];simp[body]
theorem wire_len (n:List (List UInt8)):(wire n).length=size n:=by
 unfold wire;rw[List.length_append, <- body_len];rfl
end N
theorem make_own (w:World) (c:Nat) (x:Int) (hx:x=(c:Int)) (hc:c<=100000000000000) : ∃ w',(Instr.makeSlice 37 (.int .i64 0) (.int .i64 x)).run Tryz.prog w = .ok (.slice (some ⟨w.heap.size,0,none⟩) 0 c) w'/\OwnB w' w.heap.size (.slice (some ⟨w.heap.size,0,none⟩) 0 c) []/\Below w.heap.size w w':=by
 subst hx
 obtain⟨i0,hi,hz0,hz1,hz2⟩:=info_parts infoB
 obtain⟨w',h1,h2,h3⟩:=run_make_own w w.heap.size 37 5 i0 (.int .u8 0) 1 Tryz.underlying37 hi hz0 hz1 .i64 .i64 c (by rw[hz2];omega) (by unfold maxLen;omega) (Nat.le_refl _)
 exact⟨w',h1,h2,(Below.refl _ _).grown h3 (Nat.le_refl _) (fun k hk=>by cases hk)⟩
set_option maxRecDepth 3000 in
set_option maxHeartbeats 400000 in
theorem wire_any (n:List (List UInt8)) (ao:Option Addr) (len cap:Nat) (w:World) (hl:Hid (n.length=len)) (hs:SlS w ao n) (hm:Hid (N.Small n)) :
 Calls Tryz.prog 178 #[.slice ao len cap] w fun e w' => ∃ v,e = .returned v/\OwnB w' w.heap.size v (N.wire n)/\Below w.heap.size w w':=by
 have HS:=hide hs
 have hlen:len<=1000000:=by rw[<- hl.out];exact hm.out.1
 have hsz:N.size n<=1+len*1000001:=by
  have:=hm.out.size n.length (Nat.le_refl _)
  rw[List.take_length,hl.out] at this;exact this
 obtain⟨w1,hmk,hO1,hB1⟩:=make_own w (N.size n) (N.size n:Int) rfl (by omega)
 clear hs
 go_enter Tryz.func178,Tryz.ntmps178
 go_wp2_with (go_at_call 115;refine (wireSize_any n ao len cap _ hl HS.out hm).mono ?_;rintro e w' ⟨rfl,rfl⟩)
 clear hmk
 go_loopw [11,3] (fun i v wr => ∃ j:Nat,i = .int .i64 (j:Int)/\j<=len/\OwnB wr w'.heap.size v (N.body (n.take j))/\Below w'.heap.size w' wr) (fun i _ _=>len - (intOf i).toNat)
 case atStart=>exact⟨0,rfl,by omega,hO1,hB1⟩
 case round =>
  clear hO1 hB1
  obtain⟨j,rfl,hj,hO,hB⟩:=hrel
  have hz:=hB.size
  have hbl:=N.body_len (n.take j)
  have hsj:=hm.out.size j (by have:=hl.out;omega)
  by_cases hlt:j<len
  ·obtain⟨b1,o1,rfl,hb1,hc1⟩:=HS.out (by have:=hl.out;omega)
   have hx:=(hB.cell (p:=⟨b1,o1+j,none⟩) hb1).trans (hc1 j (by have:=hl.out;omega))
   have hn:=N.body_next n j (by have:=hl.out;omega)
   have hxl:=hm.out.at j
   clear hc1
   generalize n.getD j []=x at hx hn hxl
   have HN:=hide hn
   clear hn
   go_wp2_with (first
    | (at_builtin;refine wpList_append_B rfl (.tmp 15) (.tmp 19) rfl w'.heap.size _ (N.body (n.take j)) rfl (by exact hO.alloc _) _ _ _ [UInt8.ofNat x.length] rfl rfl (SlL.oneI _ _ _ _ (by first | rfl | (rw[UInt8.toNat_ofNat'];omega))) (by simp) (by omega) (by simp;omega) ?_;intro v4 w4 hO4 hG4;have hB4:=grown_below (hO.alloc _) hG4 (hB.alloc hz _) (by simp;omega);have hz4:=hB4.size;clear hG4 hO)
    | (at_builtin;refine wpList_append_BS rfl (.tmp 21) (.tmp 22) rfl w'.heap.size _ _ rfl hO4 x rfl (by simp only[List.length_append,List.length_singleton];omega) hz4 ?_;intro v5 w5 hO5 hG5;have hB5:=grown_below hO4 hG5 hB4 hz4;clear hG5))
   go_roundw
   case rel=>exact⟨j+1,by go_num,by omega,(by rw[HN.out];exact hO5),hB5⟩
   case measure=>simp[intOf];omega
  ·obtain rfl:j=len:=by omega
   go_wp2_with (at_builtin;refine wpList_append_B rfl (.tmp 25) (.tmp 26) rfl w'.heap.size _ (N.body (n.take j)) rfl (by exact hO.alloc _) _ _ _ [0] rfl rfl (SlL.oneI _ _ _ _ (by rfl)) (by simp) (by omega) (by simp;omega) ?_;intro v4 w4 hO4 hG4;have hB4:=grown_below (hO.alloc _) hG4 (hB.alloc hz _) (by simp;omega);clear hG4 hO)
   go_ret
   refine⟨_,rfl,?_,hB4⟩
   have ht:n.take j=n:=by rw[<- hl.out];exact List.take_length
   rw[ht] at hO4
   exact hO4
open Go.RowKit
namespace N
def opn (b:List UInt8):Option (List (List UInt8)) :=
 match b with
 | []=>none
 | k::r=>if k.toNat=0 then some [] else if 63<k.toNat\/r.length<k.toNat then none else (opn (r.drop k.toNat)).map (r.take k.toNat :: ·)
termination_by b.length
decreasing_by simp only [List.length_drop, List.length_cons]; omega
theorem opn_nil:opn []=none:=by rw[opn]
theorem opn_out (b:List UInt8) (j:Nat) (h:b.length<=j):opn (b.drop j)=none:=by rw[List.drop_eq_nil_of_le h,opn_nil]
theorem opn_zero (b:List UInt8) (j:Nat) (h:j<b.length) (hk:(b.getD j 0).toNat=0):opn (b.drop j)=some []:=by
 rw[drop_at b j h,opn,if_pos hk]
theorem opn_great (b:List UInt8) (j:Nat) (h:j<b.length) (hk:63<(b.getD j 0).toNat):opn (b.drop j)=none:=by
 rw[drop_at b j h,opn,if_neg (by omega),if_pos (Or.inl hk)]
theorem opn_next (b:List UInt8) (j:Nat) (h:j<b.length) (h0:(b.getD j 0).toNat≠0) (hk:(b.getD j 0).toNat<=63) :
 opn (b.drop j)=(opn (b.drop (j+1+(b.getD j 0).toNat))).map ((b.drop (j+1)).take (b.getD j 0).toNat :: ·):=by
 rw[drop_at b j h,opn,if_neg h0]
 by_cases h1:(b.drop (j+1)).length<(b.getD j 0).toNat
 ·rw[if_pos (Or.inr h1)]
  rw[List.length_drop] at h1
  rw[opn_out b _ (by omega)];rfl
 ·rw[if_neg (by omega),List.drop_drop]
theorem opn_small : ∀ (b:List UInt8) (n:List (List UInt8)),opn b=some n -> [] ∉ n/\(∀ l∈n,l.length<=63)/\size n<=b.length
 | b,n,h=>by
  match b with
  | []=>rw[opn_nil] at h;cases h
  | k::r =>
   rw[opn] at h
   split at h
   ·cases h;exact⟨by simp,fun l hl=>by simp at hl,by simp[size]⟩
   ·rename_i hk
    split at h
    ·cases h
    ·rename_i hk2
     rw[Option.map_eq_some_iff] at h
     obtain⟨m,hm,rfl⟩:=h
     obtain⟨h1,h2,h3⟩:=opn_small (r.drop k.toNat) m hm
     have hl:(r.take k.toNat).length=k.toNat:=by rw[List.length_take];omega
     refine⟨?_,?_,?_⟩
     ·intro e
      rcases List.mem_cons.1 e with e1 | e1
      ·rw[<- e1] at hl;simp at hl;omega
      ·exact h1 e1
     ·intro l e
      rcases List.mem_cons.1 e with e1 | e1
      ·rw[e1,hl];omega
      ·exact h2 l e1
     ·have e2:size (r.take k.toNat::m)=(k.toNat+1)+size m:=by simp only[size,List.map_cons,List.sum_cons,hl];omega
      rw[List.length_drop] at h3
      rw[e2,List.length_cons];omega
termination_by b => b.length
decreasing_by subst_vars; simp only [List.length_drop, List.length_cons]; omega
theorem opn_wire : ∀ (n:List (List UInt8)) (behind:List UInt8), [] ∉ n->(∀ l∈n,l.length<=63)->opn (wire n++behind)=some n
 | [],behind,_,_=>by
  show opn (0::behind)=_
  rw[opn,if_pos (by rfl)]
 | l::n,behind,h0,h1=>by
  have hl:=h1 l (by simp)
  have hl0:l ≠ []:=fun e=>h0 (by rw[e];simp)
  have hk:(UInt8.ofNat l.length).toNat=l.length:=by rw[UInt8.toNat_ofNat'];omega
  have hp:0<l.length:=List.length_pos_iff.2 hl0
  have e:wire (l::n)++behind=UInt8.ofNat l.length::(l++(wire n++behind)):=by simp[wire,body]
  rw[e,opn,hk,if_neg (by omega),if_neg (by rw[List.length_append];omega),List.drop_left,List.take_left,opn_wire n behind (fun e=>h0 (by simp[e])) (fun x hx=>h1 x (by simp[hx]))]
  rfl
def szO:Option (List (List UInt8))->Int
 | some n=>(size n:Int)
 | none=>0
theorem map_map (r:Option (List (List UInt8))) (n:List (List UInt8)) (x:List UInt8):(r.map (x :: ·)).map (n ++ ·)=r.map ((n ++ [x]) ++ ·):=by
 cases r <;> simp
theorem size_one (n:List (List UInt8)) (x:List UInt8):size (n ++ [x])=size n+(x.length+1):=by rw[size_app];simp
end N
set_option maxRecDepth 3000 in
set_option maxHeartbeats 400000 in
theorem openSize_any (b:List UInt8) (ao:Option Addr) (len cap:Nat) (w:World) (hl:Hid (b.length=len)) (hs:SlL w ao b) (hm:len<=1000000000) :
 Calls Tryz.prog 217 #[.slice ao len cap] w fun e w'=>e = .returned (.tuple #[.int .i64 (N.szO (N.opn b)),.bool (N.opn b).isSome])/\w'=w:=by
 have HS:=hide hs
 clear hs
 go_enter Tryz.func217,Tryz.ntmps217
 go_wp2
 go_loopw [4] (fun i wr => ∃ (j:Nat) (n:List (List UInt8)),i = .int .i64 (j:Int)/\j<=1000000100/\Hid (N.opn b=(N.opn (b.drop j)).map (n ++ ·))/\Hid (j<=len->j+1=N.size n)/\wr=w) (fun i _=>len+1 - (intOf i).toNat)
 case atStart=>exact⟨0, [],rfl,by omega,(by show _=_;simp),(fun _=>rfl),rfl⟩
 case round =>
  obtain⟨j,n,rfl,hj,HO,HZ,rfl⟩:=hrel
  by_cases hlt:j<len
  ·obtain⟨b1,o1,rfl,_,hc1⟩:=HS.out (by have:=hl.out;omega)
   have hx:=hc1 j (by have:=hl.out;omega)
   have hz0:=N.opn_zero b j (by have:=hl.out;omega)
   have hgr:=N.opn_great b j (by have:=hl.out;omega)
   have hnx:=N.opn_next b j (by have:=hl.out;omega)
   clear hc1
   have hk:=(b.getD j 0).toNat_lt
   generalize (b.getD j 0).toNat=k at hx hz0 hgr hnx hk
   rcases Nat.lt_or_ge 63 k with h63 | h63
   ·have HR:Hid (N.opn b=none):=by rw[HO.out,hgr h63];exact rfl
    clear hz0 hgr hnx
    go_wp2
    go_ret2
    exact⟨by rw[HR.out];rfl,rfl⟩
   ·by_cases h0:k=0
    ·have HR:Hid (N.opn b=some n):=by rw[HO.out,hz0 h0];show _=_;simp
     clear hz0 hgr hnx
     subst h0
     have HZ2:=hide (HZ.out (by omega))
     clear HZ
     go_wp2
     go_ret2
     refine⟨?_,rfl⟩
     rw[HR.out]
     show _=Ending.returned (.tuple #[.int .i64 (N.size n:Int),.bool true])
     rw[<- HZ2.out];rfl
    ·have HR:Hid (N.opn b=(N.opn (b.drop (j+1+k))).map ((n ++ [(b.drop (j+1)).take k]) ++ ·)):=by
      rw[HO.out,hnx h0 h63,N.map_map];exact rfl
     have HZ2:Hid (j+1+k<=len->j+1+k+1=N.size (n ++ [(b.drop (j+1)).take k])):=by
      intro hh
      have:=HZ.out (by omega)
      rw[N.size_one,List.length_take,List.length_drop,hl.out]
      omega
     clear hz0 hgr hnx HZ HO
     have hne:((k:Int) == 0)=false:=by simp;omega
     go_wp2
     go_roundw
     case rel=>exact⟨j+1+k,_,by go_num,by omega,HR,HZ2,trivial⟩
     case measure=>simp[intOf];omega
  ·have HR:Hid (N.opn b=none):=by rw[HO.out,N.opn_out b j (by have:=hl.out;omega)];exact rfl
   go_wp2
   go_ret2
   exact⟨by rw[HR.out];rfl,rfl⟩
theorem slice_mid {w:World} {ao:Option Addr} {l:List UInt8} {len cap k m:Nat} {x y:Int} (hx:x=(k:Int)) (hy:y=((k+m:Nat):Int)) (hs:SlL w ao l) (hl:l.length=len) (hk:k+m<=len) (hc:len<=cap) :
 ∃ ao',(∀ W,(Instr.slice 37 (.slice ao len cap) (some (.int .i64 x)) (some (.int .i64 y)) none).run Tryz.prog W = .ok (.slice ao' m (cap - k)) W)/\SlL w ao' ((l.drop k).take m):=by
 subst hx hy
 refine⟨if cap=k then ao else ao.map (·.add (k*1)),fun W=>?_,fun hn=>?_⟩
 ·rw[run_slice_lh W 37 ao len cap Tryz.underlying37 .i64 .i64 (k:Int) ((k+m:Nat):Int) (by omega) (by omega) (by omega)]
  have hz:(sizeOf (Tryz.prog.elem 37)).run Tryz.prog W = .ok 1 W:=Tryz.sizeOf5 W
  rw[hz]
  simp only[Result.andThen,sliced,Int.toNat_natCast]
  rw[show k+m - k=m by omega]
 ·have hn2:=hn
  rw[List.length_take,List.length_drop] at hn2
  obtain⟨b,o,rfl,hlt,hcell⟩:=hs (by omega)
  rw[if_neg (by omega)]
  obtain⟨b',o',e,h1,h2⟩:=(SlL.part (w:=w) (b:=b) (o:=o) (k:=k) (l:=l) m (fun _=>⟨b,o,rfl,hlt,hcell⟩) (by omega)) hn
  refine⟨b',o',?_,h1,h2⟩
  rw[<- e,Option.map_some,Nat.mul_one,addr_add]
theorem openSize_some (b:List UInt8) (n:List (List UInt8)) (ao:Option Addr) (len cap:Nat) (w:World) (hl:Hid (b.length=len)) (hs:SlL w ao b) (hm:len<=1000000000) (hr:Hid (N.opn b=some n)) :
 Calls Tryz.prog 217 #[.slice ao len cap] w fun e w'=>e = .returned (.tuple #[.int .i64 (N.size n:Int),.bool true])/\w'=w :=
 (openSize_any b ao len cap w hl hs hm).mono fun _ _ h=>by rw[hr.out] at h;exact h
theorem openSize_none (b:List UInt8) (ao:Option Addr) (len cap:Nat) (w:World) (hl:Hid (b.length=len)) (hs:SlL w ao b) (hm:len<=1000000000) (hr:Hid (N.opn b=none)) :
 Calls Tryz.prog 217 #[.slice ao len cap] w fun e w'=>e = .returned (.tuple #[.int .i64 0,.bool false])/\w'=w :=
 (openSize_any b ao len cap w hl hs hm).mono fun _ _ h=>by rw[hr.out] at h;exact h
def Opened (b:List UInt8) (B:Nat) (w:World) (e:Ending) (w':World):Prop :=
 ((∃ n v,N.opn b=some n/\N.size n<=255/\e = .returned (.tuple #[v,.int .i64 (N.size n:Int),.int .i64 0])/\OwnS w' B v n)\/(N.opn b=none/\e = .returned (.tuple #[.slice none 0 0,.int .i64 0,.int .i64 30])) \/
  (∃ n,N.opn b=some n/\255<N.size n/\e = .returned (.tuple #[.slice none 0 0,.int .i64 0,.int .i64 31])))/\Below B w w'
set_option maxRecDepth 3000 in
set_option maxHeartbeats 400000 in
theorem open_any (b:List UInt8) (ao:Option Addr) (len cap:Nat) (w:World) (hl:Hid (b.length=len)) (hs:SlL w ao b) (hm:len<=1000000000) (hcap:len<=cap) :
 Calls Tryz.prog 204 #[.slice ao len cap] w fun e w'=>Opened b w.heap.size w e w':=by
 have HS:=hide hs
 clear hs
 obtain⟨r,hr⟩ : ∃ r,N.opn b=r:=⟨_,rfl⟩
 have HR:=hide hr
 clear hr
 cases r with
 | none =>
  go_enter Tryz.func204,Tryz.ntmps204
  go_wp2_with (go_at_call 217;refine (openSize_none b ao len cap _ hl HS.out hm HR).mono ?_;rintro e w1 ⟨rfl,rfl⟩)
  go_ret3
  exact⟨Or.inr (Or.inl ⟨HR.out,rfl⟩),Below.refl _ _⟩
 | some n0 =>
  obtain⟨he0,h63,hszb⟩:=N.opn_small b n0 HR.out
  rw[hl.out] at hszb
  have hpos:1<=N.size n0:=by unfold N.size;omega
  by_cases h255:255<N.size n0
  ·clear he0 h63
   go_enter Tryz.func204,Tryz.ntmps204
   go_wp2_with (go_at_call 217;refine (openSize_some b n0 ao len cap _ hl HS.out hm HR).mono ?_;rintro e w1 ⟨rfl,rfl⟩)
   go_ret3
   exact⟨Or.inr (Or.inr ⟨n0,HR.out,h255,rfl⟩),Below.refl _ _⟩
  ·clear he0 h63
   go_enter Tryz.func204,Tryz.ntmps204
   go_wp2_with (go_at_call 217;refine (openSize_some b n0 ao len cap _ hl HS.out hm HR).mono ?_;rintro e w1 ⟨rfl,rfl⟩)
   go_loopw [8,7] (fun i v wr => ∃ (j:Nat) (n m:List (List UInt8)),i = .int .i64 (j:Int)/\j<len/\Hid (N.opn (b.drop j)=some m)/\Hid (n0=n++m)/\n.length<=j/\OwnS wr w1.heap.size v n/\Below w1.heap.size w1 wr) (fun i _ _=>len - (intOf i).toNat)
   case atStart=>exact⟨0, [],n0,rfl,by omega,HR,rfl,by simp,OwnS.nil _ _,Below.refl _ _⟩
   case round =>
    obtain⟨j,n,m,rfl,hj,HO,HN,hnl,hO,hB⟩:=hrel
    have hz:=hB.size
    obtain⟨b1,o1,rfl,hb1,hc1⟩:=HS.out (by have:=hl.out;omega)
    have hx:=(hB.cell (p:=⟨b1,o1+j,none⟩) hb1).trans (hc1 j (by have:=hl.out;omega))
    have hz0:=N.opn_zero b j (by have:=hl.out;omega)
    have hgr:=N.opn_great b j (by have:=hl.out;omega)
    have hnx:=N.opn_next b j (by have:=hl.out;omega)
    clear hc1
    have hk:=(b.getD j 0).toNat_lt
    generalize (b.getD j 0).toNat=k at hx hz0 hgr hnx hk
    by_cases h0:k=0
    ·have HM:Hid (n0=n):=by
      have:=hz0 h0
      rw[HO.out] at this
      cases this
      have h2:=HN.out
      rw[List.append_nil] at h2;exact h2
     clear hz0 hgr hnx HN
     subst h0
     go_wp2
     go_ret3
     have e:=HM.out
     subst e
     exact⟨Or.inl ⟨n0,_,HR.out,by omega,rfl,hO⟩,hB⟩
    ·have h63:k<=63:=by
      rcases Nat.lt_or_ge 63 k with h | h
      ·have:=hgr h
       rw[HO.out] at this;cases this
      ·exact h
     have h1:=hnx h0 h63
     rw[HO.out] at h1
     have h2:=h1.symm
     rw[Option.map_eq_some_iff] at h2
     obtain⟨m',hm',hmm⟩:=h2
     have hkl:j+1+k<len:=by
      rcases Nat.lt_or_ge (j+1+k) len with h | h
      ·exact h
      ·rw[N.opn_out b _ (by have:=hl.out;omega)] at hm';cases hm'
     obtain⟨ao',hsl,hs'⟩:=slice_mid (k:=j+1) (m:=k) (x:=(j:Int)+1) (y:=(j:Int)+1+(k:Int)) (by omega) (by omega) (HS.out.below hB (Nat.le_refl _)) hl.out (by omega) hcap
     have hst:=run_str k (cap - (j+1)) hs' (by rw[List.length_take,List.length_drop,hl.out];omega)
     have HN2:Hid (n0=(n ++ [(b.drop (j+1)).take k])++m'):=by rw[HN.out, <- hmm];show _=_;simp
     have HO2:=hide hm'
     generalize (b.drop (j+1)).take k=x at hst HN2
     have hne:((k:Int) != 0)=true:=by simp;omega
     clear hz0 hgr hnx h1 hmm hm' hs' HN HO
     go_wp2_with (at_builtin;refine wpList_append_S rfl (.tmp 32) (.tmp 39) rfl w1.heap.size _ n rfl (by exact hO.alloc _) _ _ _ [x] rfl rfl (SlS.one _ _ _) (by simp;omega) (by simp;omega) ?_;intro v4 w4 hO4 hG4;have hB4:=grown_belowS (hO.alloc _) hG4 (hB.alloc hz _) (by simp;omega);clear hG4 hO)
     go_roundw
     case rel=>exact⟨j+1+k,_,m',by go_num,by omega,HO2,HN2,by simp;omega,hO4,hB4⟩
     case measure=>simp[intOf];omega
end Go.Proofs.YtmbcegljmhcdeaaGreat
