/- Records. -/
import Derived.Test.YtmbcegljmhcdeaaGreatZrc
import Derived.BigRegion
import Derived.Deep.RegionWith
import Derived.Laws.AppendOwnNone
import Derived.Test.YtmbcegljmhcdeaaGreatZna
import Derived.Deep.Cut
import Derived.Test.YtmbcegljmhcdeaaGreatZpl2
import Derived.Laws.ResultCell
import Derived.Test.YtmbcegljmhcdeaaGreatTak
import Derived.Laws.IdiomStrings
import Derived.Laws.BytesArg
import Derived.Sort.WalkA
import Derived.Deep.RegionHeld3
namespace Go.Proofs.YtmbcegljmhcdeaaGreat
set_option maxRecDepth 5000
open Go.RowKit
namespace N
theorem same_false {a b:List (List UInt8)} (j:Nat) (ha:j<a.length) (hb:j<b.length) (h:lowL (a.getD j [])≠lowL (b.getD j [])):same a b=false:=by
 unfold same
 rw[decide_eq_false_iff_not]
 intro e
 have h1:(lowN a)[j]?=(lowN b)[j]?:=by rw[e]
 simp only[lowN,List.getElem?_map,List.getElem?_eq_getElem ha,List.getElem?_eq_getElem hb,Option.map_some,Option.some.injEq] at h1
 apply h
 have e1:a.getD j []=a[j]:=by simp[ha]
 have e2:b.getD j []=b[j]:=by simp[hb]
 rw[e1,e2];exact h1
end N
set_option maxRecDepth 3000 in
set_option maxHeartbeats 1000000 in
theorem rSame_any (a b:List (List UInt8)) (ao bo:Option Addr) (la lb ca cb:Nat) (w:World) (hla:Hid (a.length=la)) (hlb:Hid (b.length=lb)) (hsa:SlS w ao a) (hsb:SlS w bo b) (hma:la<=9223372036854775807) (ha:Hid (Sane a)) (hb:Hid (Sane b)) :
 Calls Tryz.prog 58 #[.slice ao la ca,.slice bo lb cb] w fun e w'=>e = .returned (.bool (N.same a b))/\Below w.heap.size w w':=by
 have HSA:=hide hsa
 have HSB:=hide hsb
 clear hsa hsb
 by_cases h:la=lb
 ·subst h
  go_enter Tryz.func58,Tryz.ntmps58
  go_wp2
  go_loopw [5] (fun i wr => ∃ j:Nat,i = .int .i64 (j:Int)/\j<=la/\Hid (N.lowN (a.take j)=N.lowN (b.take j))/\Below w.heap.size w wr) (fun i _=>la - (intOf i).toNat)
  case atStart=>exact⟨0,rfl,by omega,rfl,Below.refl _ _⟩
  case round =>
   obtain⟨j,rfl,hj,HE,hB⟩:=hrel
   have hz:=hB.size
   by_cases hlt:j<la
   ·obtain⟨b1,o1,rfl,hb1,hc1⟩:=HSA.out (by have:=hla.out;omega)
    obtain⟨b2,o2,rfl,hb2,hc2⟩:=HSB.out (by have:=hlb.out;omega)
    have hx0:=hc1 j (by have:=hla.out;omega)
    have hy0:=hc2 j (by have:=hlb.out;omega)
    have hx:=(hB.cell (p:=⟨b1,o1+j,none⟩) hb1).trans hx0
    have hy:=(hB.cell (p:=⟨b2,o2+j,none⟩) hb2).trans hy0
    have hta:=N.take_nextN a j (by have:=hla.out;omega)
    have htb:=N.take_nextN b j (by have:=hlb.out;omega)
    have hsf := @N.same_false a b j (by have:=hla.out;omega) (by have:=hlb.out;omega)
    have hxl:=ha.out.at j
    have hyl:=hb.out.at j
    clear hc1 hc2
    generalize a.getD j []=x at hx hx0 hta hsf hxl
    generalize b.getD j []=y at hy hy0 htb hsf hyl
    have HX0:=hide hx0
    have HY0:=hide hy0
    have HTA:=hide hta
    have HTB:=hide htb
    have HSF:=hide hsf
    have HB:=hide hB
    have hj1:(j:Int)<(la:Int):=by omega
    clear hx0 hy0 hta htb hsf hB
    by_cases hxy:N.lowL x=N.lowL y
    ·have HXY:=hide hxy
     have e1:(N.lowL x == N.lowL y)=true:=by rw[hxy];exact beq_self_eq_true _
     have e2:(N.lowL x != N.lowL y)=false:=by rw[hxy];exact bne_self_eq_false _
     clear hxy
     go_wp2
     go_region_with (first
      | (go_at_call_of 98 x;refine (rLowText_any ⟨x.toArray⟩ x _ rfl (by exact hxl)).mono ?_;rintro e w3 ⟨rfl,hB3⟩;have HB3:=hide ((below_drew HB.out).trans (hB3.mono hz));have hz3:=HB3.out.size;have hy3:w3.cell? ⟨b2,o2+j,none⟩=some (.string ⟨y.toArray⟩):=(HB3.out.cell (p:=⟨b2,o2+j,none⟩) hb2).trans HY0.out;clear hB3)
      | (go_at_call_of 98 y;refine (rLowText_any ⟨y.toArray⟩ y _ rfl (by exact hyl)).mono ?_;rintro e w4 ⟨rfl,hB4⟩;have HB4:=hide (HB3.out.trans (hB4.mono hz3));clear hB4))
     all_goals
      go_wp2
      go_roundw
      case rel=>exact⟨j+1,by go_num,by omega,(by show _=_;rw[HTA.out,HTB.out];have h1:=HE.out;have h2:=HXY.out;unfold N.lowN at h1 ⊢; rw[List.map_append,List.map_append,h1];simp[h2]),HB4.out⟩
      case measure=>simp[intOf];omega
    ·have e1:(N.lowL x == N.lowL y)=false:=beq_eq_false_iff_ne.2 hxy
     have e2:(N.lowL x != N.lowL y)=true:=bne_iff_ne.2 hxy
     go_wp2
     go_region_with (first
      | (go_at_call_of 98 x;refine (rLowText_any ⟨x.toArray⟩ x _ rfl (by exact hxl)).mono ?_;rintro e w3 ⟨rfl,hB3⟩;have HB3:=hide ((below_drew HB.out).trans (hB3.mono hz));have hz3:=HB3.out.size;have hy3:w3.cell? ⟨b2,o2+j,none⟩=some (.string ⟨y.toArray⟩):=(HB3.out.cell (p:=⟨b2,o2+j,none⟩) hb2).trans HY0.out;clear hB3)
      | (go_at_call_of 98 y;refine (rLowText_any ⟨y.toArray⟩ y _ rfl (by exact hyl)).mono ?_;rintro e w4 ⟨rfl,hB4⟩;have HB4:=hide (HB3.out.trans (hB4.mono hz3));clear hB4))
     all_goals
      go_wp2
      go_ret
      exact⟨by rw[HSF.out hxy];rfl,HB4.out⟩
   ·obtain rfl:j=la:=by omega
    have HS:Hid (N.same a b=true):=by
     show _=_
     unfold N.same
     rw[decide_eq_true_eq]
     have h1:=HE.out
     rw[List.take_of_length_le (by rw[hla.out];exact Nat.le_refl _),List.take_of_length_le (by rw[hlb.out];exact Nat.le_refl _)] at h1
     exact h1
    go_wp2
    go_ret
    exact⟨by rw[HS.out];rfl,hB⟩
 ·have hz:N.same a b=false:=by
   unfold N.same
   rw[decide_eq_false_iff_not]
   intro e
   have:=congrArg List.length e
   rw[N.lowN_len,N.lowN_len,hla.out,hlb.out] at this
   exact h this
  have hne:((la:Int) != (lb:Int))=true:=by simp;omega
  rw[hz]
  go_enter Tryz.func58,Tryz.ntmps58
  go_wp2
  go_ret
  exact⟨rfl,Below.refl _ _⟩
theorem rWithin_any (a b:List (List UInt8)) (ao bo:Option Addr) (la lb ca cb:Nat) (w:World) (hla:Hid (a.length=la)) (hlb:Hid (b.length=lb)) (hsa:SlS w ao a) (hsb:SlS w bo b) (hma:la<=9223372036854775807) (hca:la<=ca) (ha:Hid (Sane a)) (hb:Hid (Sane b)) :
 Calls Tryz.prog 64 #[.slice ao la ca,.slice bo lb cb] w fun e w'=>e = .returned (.bool (N.within a b))/\Below w.heap.size w w':=by
 have HSA:=hide hsa
 have HSB:=hide hsb
 clear hsa hsb
 by_cases h:lb<=la
 ·have hz:N.within a b=N.same (a.drop (la - lb)) b:=by
   unfold N.within;rw[hla.out,hlb.out,decide_eq_true h,Bool.true_and]
  rw[hz]
  obtain⟨ao',hsl,hs'⟩:=slice_from (k:=la - lb) (x:=(la:Int) - (lb:Int)) (by omega) HSA.out hla.out (by omega) hca
  have HS':=hide hs'
  clear hs'
  go_enter Tryz.func64,Tryz.ntmps64
  go_wp2_with (go_at_call 58;refine (rSame_any (a.drop (la - lb)) b ao' bo _ lb _ cb _ (by show _=_;rw[List.length_drop,hla.out]) hlb HS'.out HSB.out (by omega) (ha.out.drop _) hb).mono ?_;rintro e w' ⟨rfl,hm⟩)
  go_ret
  exact⟨rfl,hm⟩
 ·have hz:N.within a b=false:=by
   unfold N.within;rw[hla.out,hlb.out,decide_eq_false h,Bool.false_and]
  rw[hz]
  have hm2:lb<=la\/la<lb:=by omega
  go_enter Tryz.func64,Tryz.ntmps64
  go_wp2
  go_ret
  exact⟨rfl,Below.refl _ _⟩
open Go.RowKit
namespace N
theorem less_is : ∀ a b:List UInt8,Op.bytesLess a b=decide (cmpB a b = -1)
 | [], []=>rfl
 | [],_::_=>rfl
 | _::_, []=>rfl
 | a::x,b::y=>by
  show (decide (a<b) || (a == b && Op.bytesLess x y))=decide ((if cmpI a.toNat b.toNat=0 then cmpB x y else cmpI a.toNat b.toNat) = -1)
  rw[less_is x y]
  have hlt:(a<b)=(a.toNat<b.toNat):=propext UInt8.lt_iff_toNat_lt
  have heq:(a == b)=decide (a.toNat=b.toNat):=by
   by_cases h:a=b
   ·subst h;simp
   ·rw[beq_eq_false_iff_ne.2 h,eq_comm,decide_eq_false_iff_not]
    exact fun e=>h (UInt8.toNat_inj.1 e)
  rw[heq]
  simp only[hlt]
  unfold cmpI
  rcases Nat.lt_trichotomy a.toNat b.toNat with h | h | h
  ·simp[h]
  ·simp[h]
  ·have h1 : ¬ (a.toNat<b.toNat):=by omega
   have h2 : ¬ (a.toNat=b.toNat):=by omega
   simp[h,h1,h2]
end N
set_option maxRecDepth 3000 in
set_option maxHeartbeats 4000000 in
theorem rCompare_any (a b:List (List UInt8)) (ao bo:Option Addr) (la lb ca cb:Nat) (w:World) (hla:Hid (a.length=la)) (hlb:Hid (b.length=lb)) (hsa:SlS w ao a) (hsb:SlS w bo b) (hma:la<=1000000) (hmb:lb<=1000000) (ha:Hid (Sane a)) (hb:Hid (Sane b)) :
 Calls Tryz.prog 124 #[.slice ao la ca,.slice bo lb cb] w fun e w'=>e = .returned (.int .i64 (N.cmpN a b))/\Below w.heap.size w w':=by
 have HSA:=hide hsa
 have HSB:=hide hsb
 clear hsa hsb
 go_enter Tryz.func124,Tryz.ntmps124
 go_wp2
 go_loopw [5] (fun i wr => ∃ j:Nat,i = .int .i64 ((j:Int)+1)/\j<=la/\j<=lb/\Hid (N.cmpN a b=N.cmpR (a.reverse.drop j) (b.reverse.drop j))/\Below w.heap.size w wr) (fun i _=>la+1 - (intOf i).toNat)
 case atStart=>exact⟨0,rfl,by omega,by omega,rfl,Below.refl _ _⟩
 case round =>
  obtain⟨j,rfl,hja,hjb,HC,hB⟩:=hrel
  have hz:=hB.size
  by_cases hlt:j<la/\j<lb
  ·obtain⟨hlta,hltb⟩:=hlt
   obtain⟨b1,o1,rfl,hb1,hc1⟩:=HSA.out (by have:=hla.out;omega)
   obtain⟨b2,o2,rfl,hb2,hc2⟩:=HSB.out (by have:=hlb.out;omega)
   obtain⟨ia,hia⟩ : ∃ ia,ia=la - 1 - j:=⟨_,rfl⟩
   obtain⟨ib,hib⟩ : ∃ ib,ib=lb - 1 - j:=⟨_,rfl⟩
   have hn:=N.cmpR_next a b j (by have:=hla.out;omega) (by have:=hlb.out;omega)
   rw[hla.out,hlb.out, <- hia, <- hib] at hn
   have hx0:=hc1 ia (by have:=hla.out;omega)
   have hy0:=hc2 ib (by have:=hlb.out;omega)
   have hx:=(hB.cell (p:=⟨b1,o1+ia,none⟩) hb1).trans hx0
   have hy:=(hB.cell (p:=⟨b2,o2+ib,none⟩) hb2).trans hy0
   have hxl:=ha.out.at ia
   have hyl:=hb.out.at ib
   clear hc1 hc2
   generalize a.getD ia []=x at hx hx0 hn hxl
   generalize b.getD ib []=y at hy hy0 hn hyl
   have e3:IntKind.i64.wrap ((la:Int) - ((j:Int)+1))=(ia:Int):=by rw[IntKind.wrap_i64];omega
   have e4:IntKind.i64.wrap ((lb:Int) - ((j:Int)+1))=(ib:Int):=by rw[IntKind.wrap_i64];omega
   have hj1:(ia:Int)<(la:Int):=by omega
   have hj2:(ib:Int)<(lb:Int):=by omega
   have hl:=N.less_is (N.lowL x) (N.lowL y)
   have hbd:=N.cmpL_bounds x y
   have hzz := @N.cmpL_zero x y
   have hcl:N.cmpB (N.lowL x) (N.lowL y)=N.cmpL x y:=rfl
   rw[hcl] at hl
   generalize hcc:N.cmpL x y=c at hn hl hbd hzz
   have HX0:=hide hx0
   have HY0:=hide hy0
   have HN:=hide hn
   have HB:=hide hB
   have HZZ:=hide hzz
   have HJ:=hide (And.intro hia hib)
   clear hx0 hy0 hn hB hzz hcl hcc hia hib
   have hc3:c = -1\/c=0\/c=1:=by omega
   rcases hc3 with rfl | rfl | rfl
   ·have hl1:Op.bytesLess (N.lowL x) (N.lowL y)=true:=by rw[hl];rfl
    clear hl
    go_wp2
    go_region_with (first
     | (go_at_call_of 98 x;refine (rLowText_any ⟨x.toArray⟩ x _ rfl (by exact hxl)).mono ?_;rintro e w3 ⟨rfl,hB3⟩;have HB3:=hide ((below_drew HB.out).trans (hB3.mono hz));have hz3:=HB3.out.size;have hy3:w3.cell? ⟨b2,o2+ib,none⟩=some (.string ⟨y.toArray⟩):=(HB3.out.cell (p:=⟨b2,o2+ib,none⟩) hb2).trans HY0.out;clear hB3)
     | (go_at_call_of 98 y;refine (rLowText_any ⟨y.toArray⟩ y _ rfl (by exact hyl)).mono ?_;rintro e w4 ⟨rfl,hB4⟩;have HB4:=hide (HB3.out.trans (hB4.mono hz3));clear hB4))
    all_goals
     go_wp2
     go_ret
     exact⟨by rw[HC.out,HN.out];rfl,HB4.out⟩
   ·have hl1:Op.bytesLess (N.lowL x) (N.lowL y)=false:=by rw[hl];rfl
    have he1:(N.lowL x == N.lowL y)=true:=beq_iff_eq.2 (HZZ.out.1 rfl)
    clear hl
    go_wp2
    go_region_with (first
     | (go_at_call_of 98 x;refine (rLowText_any ⟨x.toArray⟩ x _ rfl (by exact hxl)).mono ?_;rintro e w3 ⟨rfl,hB3⟩;have HB3:=hide ((below_drew HB.out).trans (hB3.mono hz));have hz3:=HB3.out.size;have hy3:w3.cell? ⟨b2,o2+ib,none⟩=some (.string ⟨y.toArray⟩):=(HB3.out.cell (p:=⟨b2,o2+ib,none⟩) hb2).trans HY0.out;clear hB3)
     | (go_at_call_of 98 y;refine (rLowText_any ⟨y.toArray⟩ y _ rfl (by exact hyl)).mono ?_;rintro e w4 ⟨rfl,hB4⟩;have HB4:=hide (HB3.out.trans (hB4.mono hz3));clear hB4))
    all_goals
     go_wp2
     go_roundw
     case rel=>exact⟨j+1,by go_num,by omega,by omega,(by show _=_;rw[HC.out,HN.out];simp),HB4.out⟩
     case measure=>simp[intOf];omega
   ·have hl1:Op.bytesLess (N.lowL x) (N.lowL y)=false:=by rw[hl];rfl
    have he1:(N.lowL x == N.lowL y)=false:=beq_eq_false_iff_ne.2 (fun e=>absurd (HZZ.out.2 e) (by decide))
    clear hl
    go_wp2
    go_region_with (first
     | (go_at_call_of 98 x;refine (rLowText_any ⟨x.toArray⟩ x _ rfl (by exact hxl)).mono ?_;rintro e w3 ⟨rfl,hB3⟩;have HB3:=hide ((below_drew HB.out).trans (hB3.mono hz));have hz3:=HB3.out.size;have hy3:w3.cell? ⟨b2,o2+ib,none⟩=some (.string ⟨y.toArray⟩):=(HB3.out.cell (p:=⟨b2,o2+ib,none⟩) hb2).trans HY0.out;clear hB3)
     | (go_at_call_of 98 y;refine (rLowText_any ⟨y.toArray⟩ y _ rfl (by exact hyl)).mono ?_;rintro e w4 ⟨rfl,hB4⟩;have HB4:=hide (HB3.out.trans (hB4.mono hz3));clear hB4))
    all_goals
     go_wp2
     go_ret
     exact⟨by rw[HC.out,HN.out];rfl,HB4.out⟩
  ·have hend:=N.cmpR_end a b j (by rw[hla.out];omega) (by rw[hlb.out];omega) (by rw[hla.out,hlb.out];omega)
   rw[hla.out,hlb.out] at hend
   have HE:=hide hend
   clear hend
   have hstop:j=la\/j=lb:=by omega
   rcases Nat.lt_trichotomy la lb with h | h | h
   ·have hcI:Hid (N.cmpI la lb = -1):=by show _=_;unfold N.cmpI;rw[if_pos h]
    have h1 : ¬ ((j:Int)+1<=(la:Int)):=by omega
    go_wp2
    go_ret
    exact⟨by rw[HC.out,HE.out,hcI.out];rfl,hB⟩
   ·subst h
    have hcI:Hid (N.cmpI la la=0):=N.cmpI_self la
    have h1 : ¬ ((j:Int)+1<=(la:Int)):=by omega
    go_wp2
    go_ret
    exact⟨by rw[HC.out,HE.out,hcI.out];rfl,hB⟩
   ·have hcI:Hid (N.cmpI la lb=1):=by show _=_;unfold N.cmpI;rw[if_neg (by omega),if_pos h]
    have h1:(j:Int)+1<=(la:Int):=by omega
    have h2 : ¬ ((j:Int)+1<=(lb:Int)):=by omega
    go_wp2
    go_ret
    exact⟨by rw[HC.out,HE.out,hcI.out];rfl,hB⟩
open Go.RowKit
theorem wpList_append_SN {w:World} {ops:Array Oper} {rest:List Oper} {o:Oper} {a:Act} {Q:Exit->Act->World->Prop} (hgd:o.guard=none) (s x:Operand)
 (ho:o.op = .call { callee := .builtin .append,args := #[s,x],argTypes := #[28,28] }) (base:Nat) (v:Value) (n:List (List UInt8)) (hs:a.eval s=v) (hown:OwnS w base v n)
 (ao:Option Addr) (m c:Nat) (n2:List (List UInt8)) (hx:a.eval x = .slice ao m c) (hm:n2.length=m) (hsrc:SlS w ao n2) (hnil:ao=none->c=0) (hbound:n.length+m<=1099511627776) (hbase:base<=w.heap.size)
 (h : ∀ v' w',OwnS w' base v' (n++n2)->w.grownBy w' v.ownBlock->wpList Tryz.prog ops Q rest (a.put o.dst v') w'):wpList Tryz.prog ops Q (o::rest) a w:=by
 cases ao with
 | none =>
  obtain⟨i0,hi,hz0,hz1,hz2⟩:=info_parts infoS
  have h0:n2.length=0:=by
   rcases Nat.eq_zero_or_pos n2.length with h | h
   ·exact h
   ·obtain⟨b,o,e,_⟩:=hsrc h;cases e
  obtain rfl:n2 = []:=List.eq_nil_of_length_eq_zero h0
  obtain rfl:=hnil rfl
  obtain rfl:m=0:=by rw[<- hm];rfl
  refine wpList_append_own_none hgd s x 28 ho base 9 i0 1 Tryz.underlying28 hi v n.length (vs n) hs hown hx ?_
  exact h v w (by rw[List.append_nil];exact hown) ⟨rfl,rfl,rfl,Nat.le_refl _,fun _ _ _=>rfl⟩
 | some ad=>exact wpList_append_S hgd s x ho base v n hs hown ad m c n2 hx hm hsrc hbound hbase h
theorem OwnS.lit (w:World) (l:List (List UInt8)) (A:Array Value) (base:Nat) (hb:base<=w.heap.size) (h:A=(vs l).toArray) (hl:l.length<=1000000) (n:Nat) (hn:n=l.length):OwnS (w.alloc (.cells A 9)) base (.slice (some ⟨w.heap.size,0,none⟩) n n) l:=by
 subst h;subst hn
 have hz:(vs l).length=l.length:=vs_len l
 refine⟨by rw[hz,Nat.mul_one],Or.inr ⟨w.heap.size,l.length,(vs l).toArray,rfl,hb,heap_alloc_last w _,Nat.le_refl _,by unfold maxLen;omega,by simp[hz],by simp;exact List.take_of_length_le (Nat.le_of_eq hz)⟩⟩
theorem OwnB.lit (w:World) (l:List UInt8) (A:Array Value) (base:Nat) (hb:base<=w.heap.size) (h:A=(vb l).toArray) (hl:l.length<=1000000) (n:Nat) (hn:n=l.length):OwnB (w.alloc (.cells A 5)) base (.slice (some ⟨w.heap.size,0,none⟩) n n) l:=by
 subst h;subst hn
 have hz:(vb l).length=l.length:=vb_len l
 refine⟨by rw[hz,Nat.mul_one],Or.inr ⟨w.heap.size,l.length,(vb l).toArray,rfl,hb,heap_alloc_last w _,Nat.le_refl _,by unfold maxLen;omega,by simp[hz],by simp;exact List.take_of_length_le (Nat.le_of_eq hz)⟩⟩
open Go.RowKit
open Go.RowKit
theorem setAt_datas {L:List Z.R} {C:List (List UInt8)->Nat->Option Z.St} (h:Z.Of L C) {p:List (List UInt8)} {t:Nat} {S:Z.St} (hS:C p t=some S):datas S.g ((Z.setAt L p t).map (·.c))=(Z.setAt L p t).map (·.d):=by
 unfold datas
 rw[List.map_map]
 refine List.map_congr_left fun x hx=>?_
 obtain⟨h1,rfl,rfl⟩:=Z.mem_setAt.1 hx
 show (S.g x.c).getD []=x.d
 rw[(h.at_ x h1 S hS).2];rfl
theorem infoAS:(Tryz.prog.info? 54).map (·.size)=some 4:=by kernel_rfl
theorem results_as {fn:Func} {p u:Tmp} (h:fn.results = #[.cell p 54,.tmp u]) (tmps:Array Value) (w:World) (g:Nat) (cs:Array Value) (hs:cs.size=4) (hp:tmps.getD p undef = .pointer (some ⟨g,0,none⟩)) (hg:RowAt w g 54 cs) :
 (results fn tmps).run Tryz.prog w = .ok (.tuple #[.agg cs,tmps.getD u undef]) w:=by
 rw[results_cell_tmp h,hp]
 have hl:=run_loadVar_row (P:=Tryz.prog) w g 54 54 cs (0,0) _ hg Tryz.underlying54 rfl (by rw[hs];exact infoAS)
 simp[asAddr,hl,Result.andThen]
def asetZ:Value := .agg #[.slice none 0 0,.int .u16 0,.int .u32 0,.slice none 0 0]
def SetPost (w:World) (L:List Z.R) (C:List (List UInt8)->Nat->Option Z.St) (n:List (List UInt8)) (nl t:Nat) (e:Ending) (w':World):Prop :=
 Below w.heap.size w w'/\((C (path n) t=none/\e = .returned (.tuple #[asetZ,.bool false])) \/
  ∃ (S:Z.St) (na:Option Addr) (nc:Nat) (v:Value),C (path n) t=some S/\e = .returned (.tuple #[.agg #[.slice na nl nc,.int .u16 (t:Int),.int .u32 (S.ttl:Int),v],.bool true])/\TyS w' na (N.lowN n)/\nl<=nc/\OwnL 37 1 EB w' w.heap.size v ((Z.setAt L (path n) t).map (·.d)))
theorem KB.setCell {w:World} {g:Nat} {et:TypeId} {c:Array Value} (h:RowAt w g et c) (he:et≠5/\et≠9) (j:Nat) (v:Value):KB w (w.setCell ⟨g,j,none⟩ v):=⟨by simp,fun b cs t fr hb ht=>by
 have hne:b≠g:=fun e=>by
  have h:w.heap[g]?=_:=h
  rw[e,h] at hb;injection hb with hb;injection hb with _ hb _
  rcases ht with rfl | rfl
  ·exact he.1 hb
  ·exact he.2 hb
 rw[heap_setCell_other _ _ _ _ hne];exact hb⟩
structure SOld (W:World) (g b:Nat) (T:Int) (m:Nat):Prop where
 row:RowAt W g 54 #[.slice none 0 0,.int .u16 0,.int .u32 0,.slice none 0 0]
 box:RowAt W b 102 #[.int .u32 T,.map (some m)]
theorem SOld.cells {W:World} {g b:Nat} {T:Int} {m:Nat} (h:SOld W g b T m):W.cell? ⟨b,0,none⟩=some (.int .u32 T)/\W.cell? ⟨b,1,none⟩=some (.map (some m))/\W.cell? ⟨g,0,none⟩=some (.slice none 0 0)/\W.cell? ⟨g,1,none⟩=some (.int .u16 0)/\W.cell? ⟨g,2,none⟩=some (.int .u32 0)/\W.cell? ⟨g,3,none⟩=some (.slice none 0 0) /\
 W.frozen? ⟨g,0,none⟩=false/\W.frozen? ⟨g,1,none⟩=false/\W.frozen? ⟨g,2,none⟩=false/\W.frozen? ⟨g,3,none⟩=false :=
 ⟨h.box.cell 0,h.box.cell 1,h.row.cell 0,h.row.cell 1,h.row.cell 2,h.row.cell 3,h.row.frozen 0,h.row.frozen 1,h.row.frozen 2,h.row.frozen 3⟩
theorem SOld.below {W W':World} {B g b:Nat} {T:Int} {m:Nat} (h:SOld W g b T m) (hb:Below B W W') (h1:g<B) (h2:b<B):SOld W' g b T m:=⟨h.row.below hb h1,h.box.below hb h2⟩
structure SNew (w:World) (g len t:Nat) (T:Int) (n:List (List UInt8)) (ds:List (List UInt8)) (wc:World) (na:Option Addr) (nc:Nat) (v:Value):Prop where
 row:RowAt wc g 54 #[.slice na len nc,.int .u16 (t:Int),.int .u32 T,v]
 ty:TyS wc na (N.lowN n)
 le:len<=nc
 own:OwnL 37 1 EB wc w.heap.size v ds
 bel:Below w.heap.size w wc
theorem SNew.mk' {w wz:World} {g b len t:Nat} {T:Int} {m:Nat} {n ds:List (List UInt8)} {na:Option Addr} {nc base:Nat} {v:Value} (h:SOld wz g b T m) (hg:w.heap.size<=g) (hgb:g<base) (ty:TyS wz na (N.lowN n)) (le:len<=nc) (own:OwnL 37 1 EB wz base v ds) (bel:Below w.heap.size w wz) :
 SNew w g len t T n ds ((((wz.setCell ⟨g,0,none⟩ (.slice na len nc)).setCell ⟨g,1,none⟩ (.int .u16 (t:Int))).setCell ⟨g,2,none⟩ (.int .u32 T)).setCell ⟨g,3,none⟩ v) na nc v:=by
 have r1:=h.row.set 0 (.slice na len nc)
 have r2:=r1.set 1 (.int .u16 (t:Int))
 have r3:=r2.set 2 (.int .u32 T)
 have k:=(((KB.setCell h.row (by decide) 0 (.slice na len nc)).trans (KB.setCell r1 (by decide) 1 (.int .u16 (t:Int)))).trans (KB.setCell r2 (by decide) 2 (.int .u32 T))).trans (KB.setCell r3 (by decide) 3 v)
 refine⟨r3.set 3 v,ty.kb k,le,(own.kept (fun _ _ h=>h.kb k) fun q _ _ hq _=>?_).low (by omega),(((bel.setCell (p:=⟨g,0,none⟩) hg _).setCell (p:=⟨g,1,none⟩) hg _).setCell (p:=⟨g,2,none⟩) hg _).setCell (p:=⟨g,3,none⟩) hg _⟩
 rw[heap_setCell_other _ _ _ _ (by show q≠g;omega),heap_setCell_other _ _ _ _ (by show q≠g;omega),heap_setCell_other _ _ _ _ (by show q≠g;omega),heap_setCell_other _ _ _ _ (by show q≠g;omega)]
set_option maxRecDepth 100000 in
set_option maxHeartbeats 4000000 in
theorem zset_any (w:World) (Zb:Nat) (A:List (List UInt8)) (L:List Z.R) (ρ : Nat->Role) (G:List (List UInt8)->Option Nd) (C:List (List UInt8)->Nat->Option Z.St) (K:Nat) (Zx:ZAt w Zb A L ρ G C K) (hK:K<=1000000) (n:List (List UInt8)) (ao:Option Addr) (len cap:Nat) (hl:Hid (n.length=len)) (hs:SlS w ao n) (hm:Hid (N.Small n)) (t:Nat) (ht:t<65536) :
 Calls Tryz.prog 24 #[.pointer (some ⟨Zb,0,none⟩),.slice ao len cap,.int .u16 (t:Int)] w fun e w'=>SetPost w L C n len t e w':=by
 obtain⟨w1,hw1⟩ : ∃ w1,w1=w.alloc (.cells #[.slice none 0 0,.int .u16 0,.int .u32 0,.slice none 0 0] 54):=⟨_,rfl⟩
 have hb1:Below w.heap.size w w1:=by rw[hw1];exact (Below.refl _ w).alloc (Nat.le_refl _) _
 have hr1:RowAt w1 w.heap.size 54 #[.slice none 0 0,.int .u16 0,.int .u32 0,.slice none 0 0]:=by rw[hw1];exact RowAt.new w _ _
 have hf:=(Zx.bel hb1).find n ao len cap hl (hs.below hb1 (Nat.le_refl _)) hm
 have hs1:=hs.below hb1 (Nat.le_refl _)
 have HZ:=hide Zx
 have HS1:=hide hs1
 have HB1:=hide hb1
 have HR1:=hide hr1
 have HW1:=hide hw1
 clear hs Zx hw1 hs1 hr1
 go_enter Tryz.func24,Tryz.ntmps24
 cases hC:C (path n) t with
 | none =>
  go_wp2_with (go_at_call 59;rw[<- HW1.out];refine hf.mono ?_;rintro e w2 ⟨x,rfl,hF⟩;have x0:w2.cell? ⟨x.n,0,none⟩=some (.map (some x.s)):=hF.node.row.cell 0;have hlk:=(hF.node.lookup t ht w2 rfl).1;rw[hC] at hlk;simp only[Option.map_none,Option.getD_none,Option.isSome_none] at hlk;have hr2:=HR1.out.below hF.bel HR1.out.lt;have hr3:=RowAt.alloc hr2 (.cells #[.int .u32 0,.map none] 102);have c0:=hr3.cell 0;have c1:=hr3.cell 1;have c2:=hr3.cell 2;have c3:=hr3.cell 3;have f0:=hr3.frozen 0;have f1:=hr3.frozen 1;have f2:=hr3.frozen 2;have f3:=hr3.frozen 3;have d0:=hr2.cell 0;have d1:=hr2.cell 1;have d2:=hr2.cell 2;have d3:=hr2.cell 3;have g0:=hr2.frozen 0;have g1:=hr2.frozen 1;have g2:=hr2.frozen 2;have g3:=hr2.frozen 3)
  have hr4:=(((hr3.set 0 (.slice none 0 0)).set 1 (.int .u16 0)).set 2 (.int .u32 0)).set 3 (.slice none 0 0)
  refine bodyPost_ret (v := .tuple #[asetZ,.bool false]) (results_as Tryz.results24 _ _ w.heap.size _ rfl rfl hr4) rfl ⟨?_,Or.inl ⟨hC,rfl⟩⟩
  have h2:Below w.heap.size w w2:=hb1.trans (hF.bel.mono hb1.size)
  exact ((((h2.alloc h2.size _).setCell (p:=⟨w.heap.size,0,none⟩) (Nat.le_refl _) _).setCell (p:=⟨w.heap.size,1,none⟩) (Nat.le_refl _) _).setCell (p:=⟨w.heap.size,2,none⟩) (Nat.le_refl _) _).setCell (p:=⟨w.heap.size,3,none⟩) (Nat.le_refl _) _
 | some S =>
  go_wp2_with (go_at_call 59;rw[<- HW1.out];refine hf.mono ?_;rintro e w2 ⟨x,rfl,hF⟩;have x0:w2.cell? ⟨x.n,0,none⟩=some (.map (some x.s)):=hF.node.row.cell 0;have hlk:=(hF.node.lookup t ht w2 rfl).1;rw[hC] at hlk;simp only[Option.map_some,Option.getD_some,Option.isSome_some,setV] at hlk)
  obtain⟨m,hmm⟩ : ∃ m,m=x.dm t:=⟨_,rfl⟩
  have hdm:=hF.node.data t S hC
  rw[<- hmm] at hdm ⊢
  obtain⟨w3,hw3⟩ : ∃ w3,w3=w2.alloc (.cells #[.int .u32 (S.ttl:Int),.map (some m)] 102):=⟨_,rfl⟩
  have hb23:Below w2.heap.size w2 w3:=by rw[hw3];exact (Below.refl _ w2).alloc (Nat.le_refl _) _
  have hz12:=hF.bel.size
  have hz01:=hb1.size
  have hb02:Below w.heap.size w w2:=hb1.trans (hF.bel.mono hz01)
  have hb03:Below w.heap.size w w3:=hb02.trans (hb23.mono hb02.size)
  have hg0:w.heap.size<w1.heap.size:=HR1.out.lt
  have hz3:w3.heap.size=w2.heap.size+1:=by rw[hw3];simp
  have hold:SOld w3 w.heap.size w2.heap.size (S.ttl:Int) m:=⟨(HR1.out.below hF.bel hg0).below hb23 (by omega),by rw[hw3];exact RowAt.new w2 _ _⟩
  have hDM:DM w3 (some m) S.g K:=DM.bel (mo:=some m) hdm hb23
  have hL:=HZ.out
  have hks:=Z.setAt_rise hL.rise (path n) t
  have hlow : ∀ W,Below w3.heap.size w3 W->Calls Tryz.prog 48 #[.slice ao len cap] W fun e w' => ∃ v,e = .returned v/\OwnS w' W.heap.size v (N.lowN n)/\Below W.heap.size W w':=fun W hW=>lower_any n ao len cap W hl (((HS1.out.below hF.bel (Nat.le_refl _)).below hb23 (Nat.le_refl _)).below hW (Nat.le_refl _)) hm
  have hlist : ∀ W,Below w3.heap.size w3 W->Calls Tryz.prog 60 #[.agg #[.int .u32 (S.ttl:Int),.map (some m)]] W fun e w' => ∃ v,e = .returned v/\OwnL 37 1 EB w' W.heap.size v ((Z.setAt L (path n) t).map (·.d))/\Below W.heap.size W w':=fun W hW=>by
   have:=list_any W (S.ttl:Int) m S.g K (hDM.bel hW) hK ((Z.setAt L (path n) t).map (·.c)) hks (fun c=>hL.of.mem_c hC c) (by rw[List.length_map];have:=hL.num;have:(Z.setAt L (path n) t).length<=L.length:=List.length_filter_le _ _;omega) (fun c hc=>by
    obtain⟨y,hy,rfl⟩:=List.mem_map.1 hc
    have:=hL.okk y (Z.mem_setAt.1 hy).1
    have h2:=cn_len this.2.2.1
    omega)
   rw[setAt_datas hL.of hC] at this
   exact this
  have HOLD:=hide hold
  have HB03:=hide hb03
  have HW3:=hide hw3
  have HZ3:=hide hz3
  have HG0:=hide (show w.heap.size<w3.heap.size/\w2.heap.size<w3.heap.size by omega)
  obtain⟨b8,hb8⟩ : ∃ b8,b8=w2.heap.size:=⟨_,rfl⟩
  rw[<- hw3]
  rw[<- hb8] at HOLD HG0 ⊢
  obtain⟨k0,k1,k2,k3,k4,k5,k6,k7,k8,k9⟩:=hold.cells
  rw[<- hb8] at k0 k1
  have bD:Below w3.heap.size w3 w3.drew:=below_drewN (Below.refl _ w3) 1
  clear hold hb03 hw3 hz3 hb23 hb02 hDM hL hks hdm hF hf hlk x0 hb8 hz12 hz01 hg0 hmm
  go_cut [7] from 24 (fun s7 wc=>s7 = .bool true /\ ∃ na nc v,SNew w w.heap.size len t (S.ttl:Int) n ((Z.setAt L (path n) t).map (·.d)) wc na nc v)
  case first =>
   go_region_with (first
    | (go_at_call 48;refine (hlow _ (by first | exact bD | exact bI)).mono ?_;rintro e wl ⟨vl,rfl,hOl,hBl⟩;obtain⟨al,cl,rfl,hTl,_,hcl⟩:=hOl.ty;rw[N.lowN_len,hl.out] at hcl ⊢; have bL:Below w3.heap.size w3 wl:=(by first | exact bD.trans hBl | exact bI.trans (hBl.mono bI.size));have oL:=HOLD.out.below bL HG0.out.1 HG0.out.2;obtain⟨l0,l1,l2,l3,l4,l5,l6,l7,l8,l9⟩:=oL.cells)
    | (go_at_call 60;refine (hlist _ (by first | exact bD | exact bL)).mono ?_;rintro e wi ⟨vi,rfl,hOi,hBi⟩;obtain⟨ai,ci,rfl,hni,hci⟩:=hOi.slice;rw[List.length_map] at hOi;have bI:Below w3.heap.size w3 wi:=(by first | exact bD.trans hBi | exact bL.trans (hBi.mono bL.size));have oI:=HOLD.out.below bI HG0.out.1 HG0.out.2;obtain⟨i0,i1,i2,i3,i4,i5,i6,i7,i8,i9⟩:=oI.cells)
    | fail)
   all_goals go_wp2_with fail
   all_goals go_meet
   all_goals first
    | exact⟨rfl,al,cl,_,SNew.mk' (len:=len) (base:=wl.heap.size) (wz:=wi) oI (Nat.le_refl _) (Nat.lt_of_lt_of_le HG0.out.1 bL.size) (hTl.kb (KB.of_below hBi)) hcl hOi (HB03.out.trans (bI.mono HB03.out.size))⟩
    | exact⟨rfl,al,cl,_,SNew.mk' (len:=len) (base:=w3.heap.size) (wz:=wl) oL (Nat.le_refl _) HG0.out.1 hTl hcl (hOi.bel (fun _ _ h=>h.kb (KB.of_below hBl)) hBl) (HB03.out.trans (bL.mono HB03.out.size))⟩
  case rest =>
   obtain⟨rfl,na,nc,v,hN⟩:=hcut
   go_wp2
   refine bodyPost_ret (v := .tuple #[.agg #[.slice na len nc,.int .u16 (t:Int),.int .u32 (S.ttl:Int),v],.bool true]) (results_as Tryz.results24 _ _ w.heap.size _ rfl rfl hN.row) rfl ⟨hN.bel,Or.inr ⟨S,na,nc,v,hC,rfl,hN.ty,hN.le,hN.own⟩⟩
open Go.RowKit
namespace Z
theorem flat_succ {α β : Type} (f : α -> List β) (l:List α) (k:Nat) (hk:k<l.length):(l.take (k+1)).flatMap f=(l.take k).flatMap f++f l[k]:=by
 rw[List.take_succ_eq_append_getElem hk,List.flatMap_append,List.flatMap_cons,List.flatMap_nil,List.append_nil]
end Z
def ER (w:World) (r:Z.R) (us:List Value):Prop := ∃ na nc da dc,us = [.slice na r.p.length nc,.int .u16 (r.t:Int),.int .u16 1,.int .u32 (r.ttl:Int),.slice da r.d.length dc]/\TyS w na r.p.reverse/\r.p.length<=nc/\(na=none->nc=0)/\TyL w da r.d/\(da=none->dc=0)/\r.d.length<=dc
theorem ER.kb {w w':World} {r:Z.R} {us:List Value} (h:ER w r us) (k:KB w w'):ER w' r us:=by
 obtain⟨na,nc,da,dc,h1,h2,h3,h4,h5,h6,h7⟩:=h
 exact⟨na,nc,da,dc,h1,h2.kb k,h3,h4,h5.kb k,h6,h7⟩
structure KX (et0:TypeId) (w w':World):Prop where
 size:w.heap.size<=w'.heap.size
 rows : ∀ (g:Nat) (c:Array Value) (et:TypeId) (fr:Nat × Nat),w.heap[g]?=some (Obj.cells c et fr)->et≠et0->w'.heap[g]?=some (Obj.cells c et fr)
theorem KX.trans {et0:TypeId} {a b c:World} (h:KX et0 a b) (k:KX et0 b c):KX et0 a c:=⟨Nat.le_trans h.size k.size,fun g x et fr hg he=>k.rows g x et fr (h.rows g x et fr hg he) he⟩
theorem KX.grown {w w':World} {base size k:Nat} {e:TypeId} {v:Value} {xs:List Value} (hv:w.ownsRow base e size v k xs) (hg:w.grownBy w' v.ownBlock):KX e w w':=⟨hg.size,fun g c et fr hb het=>by
 refine (hg.block g (Array.getElem?_eq_some_iff.1 hb).1 (not_own hv hb het)).trans hb⟩
theorem KX.kb {et0:TypeId} {w w':World} (h:KX et0 w w') (h1:et0≠5/\et0≠9):KB w w':=⟨h.size,fun g c et fr hg he=>h.rows g c et fr hg (fun e=>by rcases he with rfl | rfl;exact h1.1 e.symm;exact h1.2 e.symm)⟩
theorem KX.row {et0:TypeId} {w w':World} (h:KX et0 w w') {g:Nat} {t:TypeId} {c:Array Value} (hr:RowAt w g t c) (ht:t≠et0):RowAt w' g t c:=h.rows g c t _ hr ht
theorem OwnL.kx {α : Type} {et et0:TypeId} {sz:Nat} {E:World -> α -> List Value->Prop} {w w':World} {base:Nat} {v:Value} {L:List α} (h:OwnL et sz E w base v L) (k:KX et0 w w') (hE : ∀ x us,E w x us->E w' x us) (hne:et≠et0):OwnL et sz E w' base v L :=
 h.kept hE fun g c fr _ hg=>(k.rows g c et fr hg hne).trans hg.symm
theorem infoRc:(Tryz.prog.info? 39).map (fun i=>(i.zero,i.size,i.bytes))=some (some (.agg #[.slice none 0 0,.int .u16 0,.int .u16 0,.int .u32 0,.slice none 0 0]),5,56):=by kernel_rfl
end Go.Proofs.YtmbcegljmhcdeaaGreat
namespace Go.Proofs.YtmbcegljmhcdeaaGreat
set_option maxRecDepth 5000
open Go.RowKit
set_option maxRecDepth 5000 in
theorem below_drewN {B:Nat} {w w':World} (h:Below B w w') (n:Nat):Below B w (w'.drewN n):=⟨h.os,h.tape,h.output,h.size,h.block⟩
end Go.Proofs.YtmbcegljmhcdeaaGreat
namespace Go.Proofs.YtmbcegljmhcdeaaGreat
set_option maxRecDepth 5000
open Go.RowKit
set_option maxRecDepth 10000 in
set_option maxHeartbeats 12800000 in
theorem ropen_any (l:List UInt8) (ao:Option Addr) (len cap:Nat) (w:World) (hl:Hid (l.length=len)) (hs:SlL w ao l) (hlen:len<=100000) :
 Calls Tryz.prog 159 #[.slice ao len cap] w fun e w'=>Below w.heap.size w w'/\((∃ m v,T.opn 0 l=some m/\e = .returned (.tuple #[v,.int .i64 0])/\OwnH w' w.heap.size v m)\/(T.opn 0 l=none/\e = .returned (.tuple #[.slice none 0 0,.int .i64 40]))):=by
 have HS:=hide hs
 clear hs
 go_enter Tryz.func159,Tryz.ntmps159
 go_wp2
 go_loopw [4,5,6] (fun v4 v5 v6 W => ∃ (i least:Nat) (m:List UInt16),v6 = .int .i64 (i:Int)/\i<=len/\v5 = .int .i64 ((least:Int) - 1)/\least<=256/\OwnH W w.heap.size v4 m/\Below w.heap.size w W/\m.length<=8*i/\T.opn 0 l=(T.opn least (l.drop i)).map (m ++ ·)) (fun _ _ v6 _=>len - (intOf v6).toNat)
 case atStart=>exact⟨0,0, [],rfl,by omega,rfl,by omega,OwnH.nil _ _,Below.refl _ _,by simp,by rw[List.drop_zero];cases T.opn 0 l <;> simp⟩
 case round =>
  obtain⟨i,least,m,rfl,hi,rfl,hle,hO,hB,hml,hE⟩:=hrel
  have hz:=hB.size
  have HE:=hide hE
  have HO:=hide hO
  clear hE hO
  by_cases hil:i<len
  ·obtain⟨b,o,rfl,hb,hc⟩:=HS.out (by rw[hl.out];omega)
   rw[hl.out] at hc
   have hci:=fun j (hj:j<len)=>(hB.cell (p:=⟨b,o+j,none⟩) hb).trans (hc j hj)
   have HC:=hide hc
   clear hc
   by_cases h2:len<i+2
   ·have e2:(len:Int)<(i:Int)+2:=by omega
    have hone : ∃ x,l.drop i = [x]:=by
     have hdl:(l.drop i).length=1:=by rw[List.length_drop,hl.out];omega
     exact List.length_eq_one_iff.1 hdl
    obtain⟨x,hx⟩:=hone
    rw[hx,T.opn_one] at HE
    clear hci
    go_wp2
    go_ret2
    exact⟨hB,Or.inr ⟨HE.out,rfl⟩⟩
   ·have e2 : ¬ (len:Int)<(i:Int)+2:=by omega
    obtain⟨x,n,r,hrd⟩ : ∃ x n r,l.drop i=x::n::r:=by
     have hdl:(l.drop i).length=len - i:=by rw[List.length_drop,hl.out]
     match h:l.drop i with
     | []=>rw[h] at hdl;simp at hdl;omega
     | [_]=>rw[h] at hdl;simp at hdl;omega
     | x::n::r=>exact⟨x,n,r,rfl⟩
    have hrl:r.length+2=len - i:=by
     have:=congrArg List.length hrd
     rw[List.length_drop,hl.out] at this;simp at this;omega
    have hgd : ∀ j,l.getD (i+j) 0=(x::n::r).getD j 0:=fun j=>by
     rw[<- hrd,List.getD_eq_getElem?_getD,List.getD_eq_getElem?_getD,List.getElem?_drop]
    have c0:=hci i hil
    rw[show l.getD i 0=x from hgd 0] at c0
    have c1:=hci (i+1) (by omega)
    rw[hgd 1] at c1
    have c1':wr.cell? ⟨b,o+(i+1),none⟩=some (.int .u8 (n.toNat:Int)):=c1
    clear c1
    have hx0:=x.toNat_lt
    have hn0:=n.toNat_lt
    rw[hrd] at HE
    have HBD:Hid (T.bad least x n r↔(x.toNat<least\/n.toNat=0\/32<n.toNat\/r.length<n.toNat\/r.getD (n.toNat - 1) 0=0)):=Iff.rfl
    have hop : ¬ T.bad least x n r->T.opn least (x::n::r)=(T.opn (x.toNat+1) (r.drop n.toNat)).map (T.typ x.toNat (r.take n.toNat) ++ ·):=fun h=>by rw[T.opn_two,if_neg h]
    have hd2:l.drop (i+(2+n.toNat))=r.drop n.toNat:=by
     rw[<- List.drop_drop,hrd,show 2+n.toNat=n.toNat+2 by omega];rfl
    obtain⟨X,hX⟩ : ∃ X:Nat,x.toNat=X:=⟨_,rfl⟩
    obtain⟨M,hM⟩ : ∃ M:Nat,n.toNat=M:=⟨_,rfl⟩
    rw[hX] at c0 hx0 HBD hop
    rw[hM] at c1' hn0 HBD hop hd2
    have ex:IntKind.i64.wrap (X:Int)=(X:Int):=wrap_nat _ (by omega)
    have en:IntKind.i64.wrap (M:Int)=(M:Int):=wrap_nat _ (by omega)
    have HOP:=hide hop
    have HD2:=hide hd2
    have HGD:=hide hgd
    clear hop hd2 hgd hX hM hrd
    have hi1:i+1<len:=by omega
    by_cases b1:X<least
    ·have e3:(X:Int)<=(least:Int) - 1:=by omega
     clear hci
     go_wp2
     go_quiet (fail)
     have hnone:T.opn least (x::n::r)=none:=by rw[T.opn_two,if_pos (HBD.out.2 (Or.inl b1))]
     have HNO:=hide hnone
     clear hnone
     go_wp2
     go_ret2
     exact⟨below_drewN hB _,Or.inr ⟨by rw[HE.out,HNO.out];rfl,rfl⟩⟩
    ·have e3 : ¬ (X:Int)<=(least:Int) - 1:=by omega
     by_cases b2:M=0
     ·have e4:(M:Int)<1:=by omega
      clear hci
      go_wp2
      go_quiet (fail)
      have hnone:T.opn least (x::n::r)=none:=by rw[T.opn_two,if_pos (HBD.out.2 (Or.inr (Or.inl b2)))]
      have HNO:=hide hnone
      clear hnone
      go_wp2
      go_ret2
      exact⟨below_drewN hB _,Or.inr ⟨by rw[HE.out,HNO.out];rfl,rfl⟩⟩
     ·have e4 : ¬ (M:Int)<1:=by omega
      by_cases b3:32<M
      ·have e5:(32:Int)<(M:Int):=by omega
       clear hci
       go_wp2
       go_quiet (fail)
       have hnone:T.opn least (x::n::r)=none:=by rw[T.opn_two,if_pos (HBD.out.2 (Or.inr (Or.inr (Or.inl b3))))]
       have HNO:=hide hnone
       clear hnone
       go_wp2
       go_ret2
       exact⟨below_drewN hB _,Or.inr ⟨by rw[HE.out,HNO.out];rfl,rfl⟩⟩
      ·have e5 : ¬ (32:Int)<(M:Int):=by omega
       by_cases b4:r.length<M
       ·have e6:(len:Int)<(i:Int)+2+(M:Int):=by omega
        clear hci
        go_wp2
        go_quiet (fail)
        have hnone:T.opn least (x::n::r)=none:=by rw[T.opn_two,if_pos (HBD.out.2 (Or.inr (Or.inr (Or.inr (Or.inl b4)))))]
        have HNO:=hide hnone
        clear hnone
        go_wp2
        go_ret2
        exact⟨below_drewN hB _,Or.inr ⟨by rw[HE.out,HNO.out];rfl,rfl⟩⟩
       ·have e6 : ¬ (len:Int)<(i:Int)+2+(M:Int):=by omega
        have c2:=hci (i+1+M) (by omega)
        rw[show l.getD (i+1+M) 0=r.getD (M - 1) 0 by
         rw[show i+1+M=i+((M - 1)+2) by omega,HGD.out];rfl] at c2
        obtain⟨y0,hy0⟩ : ∃ y0,r.getD (M - 1) 0=y0:=⟨_,rfl⟩
        rw[hy0] at c2
        have hi2:i+1+M<len:=by omega
        by_cases b5:y0=0
        ·have e7:((y0.toNat:Int) == 0)=true:=by simp[b5]
         have HWH:Hid (r.getD (M - 1) 0=0):=by show r.getD (M - 1) 0=0;rw[hy0];exact b5
         clear hci b5 hy0
         go_wp2
         go_quiet (fail)
         have hnone:T.opn least (x::n::r)=none:=by rw[T.opn_two,if_pos (HBD.out.2 (Or.inr (Or.inr (Or.inr (Or.inr HWH.out)))))]
         have HNO:=hide hnone
         clear hnone
         go_wp2
         go_ret2
         exact⟨below_drewN hB _,Or.inr ⟨by rw[HE.out,HNO.out];rfl,rfl⟩⟩
        ·have e7:((y0.toNat:Int) == 0)=false:=by
          have:y0.toNat≠0:=fun h=>b5 (UInt8.toNat_inj.1 h)
          simp;omega
         have HGB:Hid (¬ T.bad least x n r):=fun hbd=>by
          rcases HBD.out.1 hbd with h | h | h | h | h
          ·exact b1 h
          ·exact b2 h
          ·exact b3 h
          ·exact b4 h
          ·rw[hy0] at h;exact b5 h
         clear b5 hy0 hci
         go_wp2
         go_quiet (fail)
         have HO2:Hid (OwnH (wr.drewN nq) w.heap.size u4 m):=HO.out
         have hB2:=below_drewN hB nq
         have c22:(wr.drewN nq).cell? ⟨b,o+(i+1+M),none⟩=some (.int .u8 (y0.toNat:Int)):=c2
         clear hB HO c0 c1' c2 hz
         generalize wr.drewN nq=W1 at HO2 hB2 c22 ⊢
         clear nq
         obtain⟨bs,hbs⟩ : ∃ bs,r.take M=bs:=⟨_,rfl⟩
         have hbl:bs.length=M:=by rw[<- hbs,List.length_take];omega
         have HBG:Hid (∀ k,k<M->l.getD (i+2+k) 0=bs.getD k 0):=fun k hk=>by
          rw[show i+2+k=i+(k+2) by omega,HGD.out, <- hbs]
          show r.getD k 0=_
          rw[List.getD_eq_getElem?_getD,List.getD_eq_getElem?_getD,List.getElem?_take_of_lt hk]
         rw[hbs] at HOP
         have HBL:=hide hbl
         have hx:X<256:=by omega
         clear hbs hbl
         go_wp2
         go_loopw [4,9] (fun v u W => ∃ k:Nat,u = .int .i64 (k:Int)/\k<=M/\OwnH W w.heap.size v (m++T.typUp X bs (8*k))/\Below w.heap.size w W) (fun _ u _=>M - (intOf u).toNat)
         case atStart=>exact⟨0,rfl,by omega,(by simpa [T.typUp] using HO2.out),hB2⟩
         case round =>
          clear HO2 hB2 c22
          obtain⟨k,rfl,hkM,hO,hB⟩:=hrel
          by_cases hk:k<M
          ·have ek:(k:Int)<(M:Int):=by omega
           go_wp2
           go_loopw [4,10] (fun v u W => ∃ j:Nat,u = .int .i64 (j:Int)/\j<=8/\OwnH W w.heap.size v (m++T.typUp X bs (8*k+j))/\Below w.heap.size w W) (fun _ u _=>8 - (intOf u).toNat)
           case atStart=>exact⟨0,rfl,by omega,hO,hB⟩
           case round =>
            clear hO hB
            obtain⟨j,rfl,hj8,hO,hB⟩:=hrel
            have hz:=hB.size
            by_cases hj:j<8
            ·have cy:=(hB.cell (p:=⟨b,o+(i+2+k),none⟩) hb).trans (HC.out (i+2+k) (by omega))
             rw[HBG.out k hk] at cy
             obtain⟨y,hy⟩ : ∃ y,bs.getD k 0=y:=⟨_,rfl⟩
             rw[hy] at cy
             have HY:=hide hy
             have HO:=hide hO
             have hikl:i+2+k<len:=by omega
             have hmb:m.length<=800000:=by omega
             clear hy hO
             rcases (by omega:j=0\/j=1\/j=2\/j=3\/j=4\/j=5\/j=6\/j=7) with hr | hr | hr | hr | hr | hr | hr | hr
             ·subst hr
              have hhas:=T.and_has bs (8*k+0)
              rw[show (8*k+0) / 8=k by omega,show 7 - (8*k+0) % 8=7 by omega,HY.out,show (2 ^ 7:Nat)=128 from rfl] at hhas
              have e3:bits .and .u8 (y.toNat:Int) 128=((y.toNat &&& 128:Nat):Int):=u8_and_nat y.toNat 128 y.toNat_lt (by omega)
              obtain⟨z,hzz⟩ : ∃ z:Nat,y.toNat &&& 128=z:=⟨_,rfl⟩
              rw[hzz] at hhas e3
              have HH:=hide hhas
              have e6:IntKind.u16.wrap ((X:Int)*256+(k:Int)*8+0)=((T.mk X (8*k+0)).toNat:Int):=by
               rw[T.mk_nat X (8*k+0) hx (by omega),IntKind.wrap_u16];omega
              clear hhas hzz
              by_cases hz0:z=0
              ·have hno:T.has bs (8*k+0)=false:=by
                have : ¬ T.has bs (8*k+0)=true:=fun h=>(HH.out.2 h) hz0
                simpa using this
               have e5:((z:Int) != 0)=false:=by simp[hz0]
               go_wp2
               go_quiet (fail)
               go_wp2
               go_roundw
               case rel=>exact⟨1,rfl,by omega,(by rw[show 8*k+1=(8*k+0)+1 by omega,T.typUp_no X bs _ hno];exact HO.out),below_drewN hB _⟩
               case measure=>simp[intOf]
              ·have hyes:T.has bs (8*k+0)=true:=HH.out.1 hz0
               have e5:((z:Int) != 0)=true:=by simp[hz0]
               have hml:(m++T.typUp X bs (8*k+0)).length<=1000256:=by rw[List.length_append];have:=T.typUp_len X bs (8*k+0);omega
               go_wp2
               go_quiet (fail)
               have HO2:Hid (OwnH (wr.drewN nq) w.heap.size u4 (m++T.typUp X bs (8*k+0))):=HO.out
               have hB2:=below_drewN hB nq
               have hz2:=hB2.size
               clear hB HO cy hz
               generalize wr.drewN nq=w2 at HO2 hB2 hz2 ⊢
               clear nq
               go_wp2_with (at_builtin;refine wpList_append_H rfl (.tmp 81) (.tmp 90) rfl w.heap.size _ (m++T.typUp X bs (8*k+0)) rfl (by exact HO2.out.alloc _) _ _ _ [T.mk X (8*k+0)] rfl rfl (SlH.oneI _ _ _ _ (by first | rfl | (rw[T.mk_nat X _ hx (by omega)];omega))) (by simp) (by simp at hml ⊢; omega) (by simp;omega) ?_;intro v4 w4 hO4 hG4;have hB4:=grown_belowH (HO2.out.alloc _) hG4 (hB2.alloc hz2 _) (by simp;omega);clear hG4)
               go_roundw
               case rel=>exact⟨1,rfl,by omega,(by rw[show 8*k+1=(8*k+0)+1 by omega,T.typUp_yes X bs _ hyes, <- List.append_assoc];exact hO4),hB4⟩
               case measure=>simp[intOf]
             ·subst hr
              have hhas:=T.and_has bs (8*k+1)
              rw[show (8*k+1) / 8=k by omega,show 7 - (8*k+1) % 8=6 by omega,HY.out,show (2 ^ 6:Nat)=64 from rfl] at hhas
              have e3:bits .and .u8 (y.toNat:Int) 64=((y.toNat &&& 64:Nat):Int):=u8_and_nat y.toNat 64 y.toNat_lt (by omega)
              obtain⟨z,hzz⟩ : ∃ z:Nat,y.toNat &&& 64=z:=⟨_,rfl⟩
              rw[hzz] at hhas e3
              have HH:=hide hhas
              have e6:IntKind.u16.wrap ((X:Int)*256+(k:Int)*8+1)=((T.mk X (8*k+1)).toNat:Int):=by
               rw[T.mk_nat X (8*k+1) hx (by omega),IntKind.wrap_u16];omega
              clear hhas hzz
              by_cases hz0:z=0
              ·have hno:T.has bs (8*k+1)=false:=by
                have : ¬ T.has bs (8*k+1)=true:=fun h=>(HH.out.2 h) hz0
                simpa using this
               have e5:((z:Int) != 0)=false:=by simp[hz0]
               go_wp2
               go_quiet (fail)
               go_wp2
               go_roundw
               case rel=>exact⟨2,rfl,by omega,(by rw[show 8*k+2=(8*k+1)+1 by omega,T.typUp_no X bs _ hno];exact HO.out),below_drewN hB _⟩
               case measure=>simp[intOf]
              ·have hyes:T.has bs (8*k+1)=true:=HH.out.1 hz0
               have e5:((z:Int) != 0)=true:=by simp[hz0]
               have hml:(m++T.typUp X bs (8*k+1)).length<=1000256:=by rw[List.length_append];have:=T.typUp_len X bs (8*k+1);omega
               go_wp2
               go_quiet (fail)
               have HO2:Hid (OwnH (wr.drewN nq) w.heap.size u4 (m++T.typUp X bs (8*k+1))):=HO.out
               have hB2:=below_drewN hB nq
               have hz2:=hB2.size
               clear hB HO cy hz
               generalize wr.drewN nq=w2 at HO2 hB2 hz2 ⊢
               clear nq
               go_wp2_with (at_builtin;refine wpList_append_H rfl (.tmp 81) (.tmp 90) rfl w.heap.size _ (m++T.typUp X bs (8*k+1)) rfl (by exact HO2.out.alloc _) _ _ _ [T.mk X (8*k+1)] rfl rfl (SlH.oneI _ _ _ _ (by first | rfl | (rw[T.mk_nat X _ hx (by omega)];omega))) (by simp) (by simp at hml ⊢; omega) (by simp;omega) ?_;intro v4 w4 hO4 hG4;have hB4:=grown_belowH (HO2.out.alloc _) hG4 (hB2.alloc hz2 _) (by simp;omega);clear hG4)
               go_roundw
               case rel=>exact⟨2,rfl,by omega,(by rw[show 8*k+2=(8*k+1)+1 by omega,T.typUp_yes X bs _ hyes, <- List.append_assoc];exact hO4),hB4⟩
               case measure=>simp[intOf]
             ·subst hr
              have hhas:=T.and_has bs (8*k+2)
              rw[show (8*k+2) / 8=k by omega,show 7 - (8*k+2) % 8=5 by omega,HY.out,show (2 ^ 5:Nat)=32 from rfl] at hhas
              have e3:bits .and .u8 (y.toNat:Int) 32=((y.toNat &&& 32:Nat):Int):=u8_and_nat y.toNat 32 y.toNat_lt (by omega)
              obtain⟨z,hzz⟩ : ∃ z:Nat,y.toNat &&& 32=z:=⟨_,rfl⟩
              rw[hzz] at hhas e3
              have HH:=hide hhas
              have e6:IntKind.u16.wrap ((X:Int)*256+(k:Int)*8+2)=((T.mk X (8*k+2)).toNat:Int):=by
               rw[T.mk_nat X (8*k+2) hx (by omega),IntKind.wrap_u16];omega
              clear hhas hzz
              by_cases hz0:z=0
              ·have hno:T.has bs (8*k+2)=false:=by
                have : ¬ T.has bs (8*k+2)=true:=fun h=>(HH.out.2 h) hz0
                simpa using this
               have e5:((z:Int) != 0)=false:=by simp[hz0]
               go_wp2
               go_quiet (fail)
               go_wp2
               go_roundw
               case rel=>exact⟨3,rfl,by omega,(by rw[show 8*k+3=(8*k+2)+1 by omega,T.typUp_no X bs _ hno];exact HO.out),below_drewN hB _⟩
               case measure=>simp[intOf]
              ·have hyes:T.has bs (8*k+2)=true:=HH.out.1 hz0
               have e5:((z:Int) != 0)=true:=by simp[hz0]
               have hml:(m++T.typUp X bs (8*k+2)).length<=1000256:=by rw[List.length_append];have:=T.typUp_len X bs (8*k+2);omega
               go_wp2
               go_quiet (fail)
               have HO2:Hid (OwnH (wr.drewN nq) w.heap.size u4 (m++T.typUp X bs (8*k+2))):=HO.out
               have hB2:=below_drewN hB nq
               have hz2:=hB2.size
               clear hB HO cy hz
               generalize wr.drewN nq=w2 at HO2 hB2 hz2 ⊢
               clear nq
               go_wp2_with (at_builtin;refine wpList_append_H rfl (.tmp 81) (.tmp 90) rfl w.heap.size _ (m++T.typUp X bs (8*k+2)) rfl (by exact HO2.out.alloc _) _ _ _ [T.mk X (8*k+2)] rfl rfl (SlH.oneI _ _ _ _ (by first | rfl | (rw[T.mk_nat X _ hx (by omega)];omega))) (by simp) (by simp at hml ⊢; omega) (by simp;omega) ?_;intro v4 w4 hO4 hG4;have hB4:=grown_belowH (HO2.out.alloc _) hG4 (hB2.alloc hz2 _) (by simp;omega);clear hG4)
               go_roundw
               case rel=>exact⟨3,rfl,by omega,(by rw[show 8*k+3=(8*k+2)+1 by omega,T.typUp_yes X bs _ hyes, <- List.append_assoc];exact hO4),hB4⟩
               case measure=>simp[intOf]
             ·subst hr
              have hhas:=T.and_has bs (8*k+3)
              rw[show (8*k+3) / 8=k by omega,show 7 - (8*k+3) % 8=4 by omega,HY.out,show (2 ^ 4:Nat)=16 from rfl] at hhas
              have e3:bits .and .u8 (y.toNat:Int) 16=((y.toNat &&& 16:Nat):Int):=u8_and_nat y.toNat 16 y.toNat_lt (by omega)
              obtain⟨z,hzz⟩ : ∃ z:Nat,y.toNat &&& 16=z:=⟨_,rfl⟩
              rw[hzz] at hhas e3
              have HH:=hide hhas
              have e6:IntKind.u16.wrap ((X:Int)*256+(k:Int)*8+3)=((T.mk X (8*k+3)).toNat:Int):=by
               rw[T.mk_nat X (8*k+3) hx (by omega),IntKind.wrap_u16];omega
              clear hhas hzz
              by_cases hz0:z=0
              ·have hno:T.has bs (8*k+3)=false:=by
                have : ¬ T.has bs (8*k+3)=true:=fun h=>(HH.out.2 h) hz0
                simpa using this
               have e5:((z:Int) != 0)=false:=by simp[hz0]
               go_wp2
               go_quiet (fail)
               go_wp2
               go_roundw
               case rel=>exact⟨4,rfl,by omega,(by rw[show 8*k+4=(8*k+3)+1 by omega,T.typUp_no X bs _ hno];exact HO.out),below_drewN hB _⟩
               case measure=>simp[intOf]
              ·have hyes:T.has bs (8*k+3)=true:=HH.out.1 hz0
               have e5:((z:Int) != 0)=true:=by simp[hz0]
               have hml:(m++T.typUp X bs (8*k+3)).length<=1000256:=by rw[List.length_append];have:=T.typUp_len X bs (8*k+3);omega
               go_wp2
               go_quiet (fail)
               have HO2:Hid (OwnH (wr.drewN nq) w.heap.size u4 (m++T.typUp X bs (8*k+3))):=HO.out
               have hB2:=below_drewN hB nq
               have hz2:=hB2.size
               clear hB HO cy hz
               generalize wr.drewN nq=w2 at HO2 hB2 hz2 ⊢
               clear nq
               go_wp2_with (at_builtin;refine wpList_append_H rfl (.tmp 81) (.tmp 90) rfl w.heap.size _ (m++T.typUp X bs (8*k+3)) rfl (by exact HO2.out.alloc _) _ _ _ [T.mk X (8*k+3)] rfl rfl (SlH.oneI _ _ _ _ (by first | rfl | (rw[T.mk_nat X _ hx (by omega)];omega))) (by simp) (by simp at hml ⊢; omega) (by simp;omega) ?_;intro v4 w4 hO4 hG4;have hB4:=grown_belowH (HO2.out.alloc _) hG4 (hB2.alloc hz2 _) (by simp;omega);clear hG4)
               go_roundw
               case rel=>exact⟨4,rfl,by omega,(by rw[show 8*k+4=(8*k+3)+1 by omega,T.typUp_yes X bs _ hyes, <- List.append_assoc];exact hO4),hB4⟩
               case measure=>simp[intOf]
             ·subst hr
              have hhas:=T.and_has bs (8*k+4)
              rw[show (8*k+4) / 8=k by omega,show 7 - (8*k+4) % 8=3 by omega,HY.out,show (2 ^ 3:Nat)=8 from rfl] at hhas
              have e3:bits .and .u8 (y.toNat:Int) 8=((y.toNat &&& 8:Nat):Int):=u8_and_nat y.toNat 8 y.toNat_lt (by omega)
              obtain⟨z,hzz⟩ : ∃ z:Nat,y.toNat &&& 8=z:=⟨_,rfl⟩
              rw[hzz] at hhas e3
              have HH:=hide hhas
              have e6:IntKind.u16.wrap ((X:Int)*256+(k:Int)*8+4)=((T.mk X (8*k+4)).toNat:Int):=by
               rw[T.mk_nat X (8*k+4) hx (by omega),IntKind.wrap_u16];omega
              clear hhas hzz
              by_cases hz0:z=0
              ·have hno:T.has bs (8*k+4)=false:=by
                have : ¬ T.has bs (8*k+4)=true:=fun h=>(HH.out.2 h) hz0
                simpa using this
               have e5:((z:Int) != 0)=false:=by simp[hz0]
               go_wp2
               go_quiet (fail)
               go_wp2
               go_roundw
               case rel=>exact⟨5,rfl,by omega,(by rw[show 8*k+5=(8*k+4)+1 by omega,T.typUp_no X bs _ hno];exact HO.out),below_drewN hB _⟩
               case measure=>simp[intOf]
              ·have hyes:T.has bs (8*k+4)=true:=HH.out.1 hz0
               have e5:((z:Int) != 0)=true:=by simp[hz0]
               have hml:(m++T.typUp X bs (8*k+4)).length<=1000256:=by rw[List.length_append];have:=T.typUp_len X bs (8*k+4);omega
               go_wp2
               go_quiet (fail)
               have HO2:Hid (OwnH (wr.drewN nq) w.heap.size u4 (m++T.typUp X bs (8*k+4))):=HO.out
               have hB2:=below_drewN hB nq
               have hz2:=hB2.size
               clear hB HO cy hz
               generalize wr.drewN nq=w2 at HO2 hB2 hz2 ⊢
               clear nq
               go_wp2_with (at_builtin;refine wpList_append_H rfl (.tmp 81) (.tmp 90) rfl w.heap.size _ (m++T.typUp X bs (8*k+4)) rfl (by exact HO2.out.alloc _) _ _ _ [T.mk X (8*k+4)] rfl rfl (SlH.oneI _ _ _ _ (by first | rfl | (rw[T.mk_nat X _ hx (by omega)];omega))) (by simp) (by simp at hml ⊢; omega) (by simp;omega) ?_;intro v4 w4 hO4 hG4;have hB4:=grown_belowH (HO2.out.alloc _) hG4 (hB2.alloc hz2 _) (by simp;omega);clear hG4)
               go_roundw
               case rel=>exact⟨5,rfl,by omega,(by rw[show 8*k+5=(8*k+4)+1 by omega,T.typUp_yes X bs _ hyes, <- List.append_assoc];exact hO4),hB4⟩
               case measure=>simp[intOf]
             ·subst hr
              have hhas:=T.and_has bs (8*k+5)
              rw[show (8*k+5) / 8=k by omega,show 7 - (8*k+5) % 8=2 by omega,HY.out,show (2 ^ 2:Nat)=4 from rfl] at hhas
              have e3:bits .and .u8 (y.toNat:Int) 4=((y.toNat &&& 4:Nat):Int):=u8_and_nat y.toNat 4 y.toNat_lt (by omega)
              obtain⟨z,hzz⟩ : ∃ z:Nat,y.toNat &&& 4=z:=⟨_,rfl⟩
              rw[hzz] at hhas e3
              have HH:=hide hhas
              have e6:IntKind.u16.wrap ((X:Int)*256+(k:Int)*8+5)=((T.mk X (8*k+5)).toNat:Int):=by
               rw[T.mk_nat X (8*k+5) hx (by omega),IntKind.wrap_u16];omega
              clear hhas hzz
              by_cases hz0:z=0
              ·have hno:T.has bs (8*k+5)=false:=by
                have : ¬ T.has bs (8*k+5)=true:=fun h=>(HH.out.2 h) hz0
                simpa using this
               have e5:((z:Int) != 0)=false:=by simp[hz0]
               go_wp2
               go_quiet (fail)
               go_wp2
               go_roundw
               case rel=>exact⟨6,rfl,by omega,(by rw[show 8*k+6=(8*k+5)+1 by omega,T.typUp_no X bs _ hno];exact HO.out),below_drewN hB _⟩
               case measure=>simp[intOf]
              ·have hyes:T.has bs (8*k+5)=true:=HH.out.1 hz0
               have e5:((z:Int) != 0)=true:=by simp[hz0]
               have hml:(m++T.typUp X bs (8*k+5)).length<=1000256:=by rw[List.length_append];have:=T.typUp_len X bs (8*k+5);omega
               go_wp2
               go_quiet (fail)
               have HO2:Hid (OwnH (wr.drewN nq) w.heap.size u4 (m++T.typUp X bs (8*k+5))):=HO.out
               have hB2:=below_drewN hB nq
               have hz2:=hB2.size
               clear hB HO cy hz
               generalize wr.drewN nq=w2 at HO2 hB2 hz2 ⊢
               clear nq
               go_wp2_with (at_builtin;refine wpList_append_H rfl (.tmp 81) (.tmp 90) rfl w.heap.size _ (m++T.typUp X bs (8*k+5)) rfl (by exact HO2.out.alloc _) _ _ _ [T.mk X (8*k+5)] rfl rfl (SlH.oneI _ _ _ _ (by first | rfl | (rw[T.mk_nat X _ hx (by omega)];omega))) (by simp) (by simp at hml ⊢; omega) (by simp;omega) ?_;intro v4 w4 hO4 hG4;have hB4:=grown_belowH (HO2.out.alloc _) hG4 (hB2.alloc hz2 _) (by simp;omega);clear hG4)
               go_roundw
               case rel=>exact⟨6,rfl,by omega,(by rw[show 8*k+6=(8*k+5)+1 by omega,T.typUp_yes X bs _ hyes, <- List.append_assoc];exact hO4),hB4⟩
               case measure=>simp[intOf]
             ·subst hr
              have hhas:=T.and_has bs (8*k+6)
              rw[show (8*k+6) / 8=k by omega,show 7 - (8*k+6) % 8=1 by omega,HY.out,show (2 ^ 1:Nat)=2 from rfl] at hhas
              have e3:bits .and .u8 (y.toNat:Int) 2=((y.toNat &&& 2:Nat):Int):=u8_and_nat y.toNat 2 y.toNat_lt (by omega)
              obtain⟨z,hzz⟩ : ∃ z:Nat,y.toNat &&& 2=z:=⟨_,rfl⟩
              rw[hzz] at hhas e3
              have HH:=hide hhas
              have e6:IntKind.u16.wrap ((X:Int)*256+(k:Int)*8+6)=((T.mk X (8*k+6)).toNat:Int):=by
               rw[T.mk_nat X (8*k+6) hx (by omega),IntKind.wrap_u16];omega
              clear hhas hzz
              by_cases hz0:z=0
              ·have hno:T.has bs (8*k+6)=false:=by
                have : ¬ T.has bs (8*k+6)=true:=fun h=>(HH.out.2 h) hz0
                simpa using this
               have e5:((z:Int) != 0)=false:=by simp[hz0]
               go_wp2
               go_quiet (fail)
               go_wp2
               go_roundw
               case rel=>exact⟨7,rfl,by omega,(by rw[show 8*k+7=(8*k+6)+1 by omega,T.typUp_no X bs _ hno];exact HO.out),below_drewN hB _⟩
               case measure=>simp[intOf]
              ·have hyes:T.has bs (8*k+6)=true:=HH.out.1 hz0
               have e5:((z:Int) != 0)=true:=by simp[hz0]
               have hml:(m++T.typUp X bs (8*k+6)).length<=1000256:=by rw[List.length_append];have:=T.typUp_len X bs (8*k+6);omega
               go_wp2
               go_quiet (fail)
               have HO2:Hid (OwnH (wr.drewN nq) w.heap.size u4 (m++T.typUp X bs (8*k+6))):=HO.out
               have hB2:=below_drewN hB nq
               have hz2:=hB2.size
               clear hB HO cy hz
               generalize wr.drewN nq=w2 at HO2 hB2 hz2 ⊢
               clear nq
               go_wp2_with (at_builtin;refine wpList_append_H rfl (.tmp 81) (.tmp 90) rfl w.heap.size _ (m++T.typUp X bs (8*k+6)) rfl (by exact HO2.out.alloc _) _ _ _ [T.mk X (8*k+6)] rfl rfl (SlH.oneI _ _ _ _ (by first | rfl | (rw[T.mk_nat X _ hx (by omega)];omega))) (by simp) (by simp at hml ⊢; omega) (by simp;omega) ?_;intro v4 w4 hO4 hG4;have hB4:=grown_belowH (HO2.out.alloc _) hG4 (hB2.alloc hz2 _) (by simp;omega);clear hG4)
               go_roundw
               case rel=>exact⟨7,rfl,by omega,(by rw[show 8*k+7=(8*k+6)+1 by omega,T.typUp_yes X bs _ hyes, <- List.append_assoc];exact hO4),hB4⟩
               case measure=>simp[intOf]
             ·subst hr
              have hhas:=T.and_has bs (8*k+7)
              rw[show (8*k+7) / 8=k by omega,show 7 - (8*k+7) % 8=0 by omega,HY.out,show (2 ^ 0:Nat)=1 from rfl] at hhas
              have e3:bits .and .u8 (y.toNat:Int) 1=((y.toNat &&& 1:Nat):Int):=u8_and_nat y.toNat 1 y.toNat_lt (by omega)
              obtain⟨z,hzz⟩ : ∃ z:Nat,y.toNat &&& 1=z:=⟨_,rfl⟩
              rw[hzz] at hhas e3
              have HH:=hide hhas
              have e6:IntKind.u16.wrap ((X:Int)*256+(k:Int)*8+7)=((T.mk X (8*k+7)).toNat:Int):=by
               rw[T.mk_nat X (8*k+7) hx (by omega),IntKind.wrap_u16];omega
              clear hhas hzz
              by_cases hz0:z=0
              ·have hno:T.has bs (8*k+7)=false:=by
                have : ¬ T.has bs (8*k+7)=true:=fun h=>(HH.out.2 h) hz0
                simpa using this
               have e5:((z:Int) != 0)=false:=by simp[hz0]
               go_wp2
               go_quiet (fail)
               go_wp2
               go_roundw
               case rel=>exact⟨8,rfl,by omega,(by rw[show 8*k+8=(8*k+7)+1 by omega,T.typUp_no X bs _ hno];exact HO.out),below_drewN hB _⟩
               case measure=>simp[intOf]
              ·have hyes:T.has bs (8*k+7)=true:=HH.out.1 hz0
               have e5:((z:Int) != 0)=true:=by simp[hz0]
               have hml:(m++T.typUp X bs (8*k+7)).length<=1000256:=by rw[List.length_append];have:=T.typUp_len X bs (8*k+7);omega
               go_wp2
               go_quiet (fail)
               have HO2:Hid (OwnH (wr.drewN nq) w.heap.size u4 (m++T.typUp X bs (8*k+7))):=HO.out
               have hB2:=below_drewN hB nq
               have hz2:=hB2.size
               clear hB HO cy hz
               generalize wr.drewN nq=w2 at HO2 hB2 hz2 ⊢
               clear nq
               go_wp2_with (at_builtin;refine wpList_append_H rfl (.tmp 81) (.tmp 90) rfl w.heap.size _ (m++T.typUp X bs (8*k+7)) rfl (by exact HO2.out.alloc _) _ _ _ [T.mk X (8*k+7)] rfl rfl (SlH.oneI _ _ _ _ (by first | rfl | (rw[T.mk_nat X _ hx (by omega)];omega))) (by simp) (by simp at hml ⊢; omega) (by simp;omega) ?_;intro v4 w4 hO4 hG4;have hB4:=grown_belowH (HO2.out.alloc _) hG4 (hB2.alloc hz2 _) (by simp;omega);clear hG4)
               go_roundw
               case rel=>exact⟨8,rfl,by omega,(by rw[show 8*k+8=(8*k+7)+1 by omega,T.typUp_yes X bs _ hyes, <- List.append_assoc];exact hO4),hB4⟩
               case measure=>simp[intOf]
            ·obtain rfl:j=8:=by omega
             go_wp2
             go_roundw
             case rel=>exact⟨k+1,by go_num,by omega,(by rw[show 8*(k+1)=8*k+8 by omega];exact hO),hB⟩
             case measure=>simp[intOf];omega
          ·obtain rfl:k=M:=by omega
           have ek : ¬ (k:Int)<(k:Int):=by omega
           have htl:=T.typUp_len X bs (8*k)
           rw[<- HBL.out,T.typUp_all] at hO
           rw[<- HBL.out,T.typUp_all] at htl
           have hop:=HOP.out HGB.out
           have HO:=hide hO
           have HTL:=hide htl
           have HOQ:=hide hop
           clear hO htl hop
           go_wp2
           go_roundw
           case rel =>
            refine⟨i+(2+k),X+1,m++T.typ X bs,by first | rfl | (congr 1;done) | (congr 1;omega),by omega,by first | rfl | (congr 1;done) | (congr 1;omega),by omega,HO.out,hB,?_,?_⟩
            ·rw[List.length_append]
             have h1:=HTL.out
             have h2:=HBL.out
             omega
            ·rw[HE.out,HOQ.out,HD2.out]
             cases T.opn (X+1) (r.drop k) <;> simp
           case measure=>simp[intOf];omega
  ·obtain rfl:i=len:=by omega
   go_wp2
   go_ret2
   refine⟨hB,Or.inl ⟨m,_,?_,rfl,HO.out⟩⟩
   rw[HE.out,List.drop_eq_nil_of_le (by rw[hl.out];exact Nat.le_refl _),T.opn_nil];simp
end Go.Proofs.YtmbcegljmhcdeaaGreat
namespace Go.Proofs.YtmbcegljmhcdeaaGreat
open Go.RowKit
set_option maxRecDepth 5000
end Go.Proofs.YtmbcegljmhcdeaaGreat
namespace Go.Proofs.YtmbcegljmhcdeaaGreat
set_option maxRecDepth 5000
open Go.RowKit
theorem step_fn {ops:Array Oper} {o:Oper} {a:Act} {w:World} {K:Act->World->Prop} {Q:Exit->Act->World->Prop} {E:Prop} (f:FuncId) (args:Array Operand) (tys:Array TypeId) (_ho:o.op = .call { callee := .value (.func f),args:=args,argTypes:=tys }) (hgd:o.guard=none) (vals:Array Value)
 (hx:(execOp a.eval o).run Tryz.prog w = .ok (.enter f vals) w) {R:Ending->World->Prop} (hc:Calls Tryz.prog f vals w R) (hr : ∀ e w',R e w' -> ∃ v,e = .returned v)
 (h : ∀ v w',R (.returned v) w'->K (a.put o.dst v) w'):if Region.wanted o (yielded ops a.tmps)=true then Oper.wp Tryz.prog o a w K Q else E:=step_call hgd f vals hx hc hr h
namespace D
def gv (l:List UInt8):Nat:=l.foldl (fun a b=>a*256+b.toNat) 0
theorem gv_next (l:List UInt8) (j:Nat) (h:j<l.length):gv (l.take (j+1))=gv (l.take j)*256+(l.getD j 0).toNat:=by
 rw[N.take_nextB l j h]
 unfold gv
 rw[List.foldl_append];rfl
theorem gv_lt : ∀ (l:List UInt8),gv l<256 ^ l.length:=by
 intro l
 have h : ∀ (l:List UInt8) (a:Nat),l.foldl (fun a b=>a*256+b.toNat) a<(a+1)*256 ^ l.length:=by
  intro l
  induction l with
  | nil=>intro a;simp
  | cons x l ih =>
   intro a
   rw[List.foldl_cons,List.length_cons,Nat.pow_succ]
   refine Nat.lt_of_lt_of_le (ih _) ?_
   have:=x.toNat_lt
   have h2:a*256+x.toNat+1<=(a+1)*256:=by omega
   calc (a*256+x.toNat+1)*256 ^ l.length<=((a+1)*256)*256 ^ l.length:=Nat.mul_le_mul_right _ h2
    _=(a+1)*(256 ^ l.length*256):=by rw[Nat.mul_assoc,Nat.mul_comm 256]
 have:=h l 0
 simpa [gv] using this
theorem gv_take_lt (l:List UInt8) (j:Nat) (hl:l.length<=4) (hj:j<l.length):gv (l.take j)<16777216:=by
 have h1:=gv_lt (l.take j)
 have h2:(l.take j).length<=3:=by rw[List.length_take];omega
 have h3:256 ^ (l.take j).length<=256 ^ 3:=Nat.pow_le_pow_right (by omega) h2
 omega
theorem n16_gv (x y:UInt8) (r:List UInt8):n16 (x::y::r)=some (gv [x,y],r):=by simp[n16,gv]
theorem n32_gv (x y z u:UInt8) (r:List UInt8):n32 (x::y::z::u::r)=some (gv [x,y,z,u],r):=by
 simp only[n32,n16,Option.bind_some,Option.map_some,gv,List.foldl_cons,List.foldl_nil]
 congr 2;omega
end D
theorem or_8 (x y:Nat) (hx:x<16777216) (hy:y<256):bits .or .u32 ((x:Int)*256) (y:Int)=((x*256+y:Nat):Int):=by
 have:=u32_or_nat (x*256) y (by omega) (by omega)
 rw[nat_join 8 (x*256) y (by omega) (by omega),Int.natCast_mul] at this
 exact this
theorem get_any (l:List UInt8) (ao:Option Addr) (len cap:Nat) (w:World) (hl:Hid (l.length=len)) (hs:SlL w ao l) (h4:len<=4) :
 Calls Tryz.prog 158 #[.slice ao len cap] w fun e w'=>e = .returned (.int .u32 (D.gv l:Int))/\w'=w:=by
 have HS:=hide hs
 clear hs
 go_enter Tryz.func158,Tryz.ntmps158
 go_wp2
 go_loopw [4,3] (fun i v wr => ∃ j:Nat,i = .int .i64 (j:Int)/\j<=len/\v = .int .u32 (D.gv (l.take j):Int)/\wr=w) (fun i _ _=>len - (intOf i).toNat)
 case atStart=>exact⟨0,rfl,by omega,rfl,rfl⟩
 case round =>
  obtain⟨j,rfl,hj,rfl,rfl⟩:=hrel
  by_cases hlt:j<len
  ·obtain⟨b1,o1,rfl,hb1,hc1⟩:=HS.out (by have:=hl.out;omega)
   have hx:=hc1 j (by have:=hl.out;omega)
   have hn:=D.gv_next l j (by have:=hl.out;omega)
   have hg:=D.gv_take_lt l j (by have:=hl.out;omega) (by have:=hl.out;omega)
   have hy:=(l.getD j 0).toNat_lt
   clear hc1
   generalize (l.getD j 0).toNat=y at hx hn hy
   generalize D.gv (l.take j)=x at hn hg
   have HN:=hide hn
   have hor:=or_8 x y hg hy
   clear hn
   have hjl:(j:Int)<(len:Int):=by omega
   go_wp2
   go_roundw
   case rel=>exact⟨j+1,by go_num,by omega,by rw[HN.out];simp,trivial⟩
   case measure=>simp[intOf];omega
  ·obtain rfl:j=len:=by omega
   have ht:l.take j=l:=by rw[<- hl.out];exact List.take_length
   rw[ht]
   go_wp2
   go_ret
   exact⟨rfl,rfl⟩
namespace D
def put (n k i:Nat):List UInt8:=(List.range (k - i)).map (fun j=>UInt8.ofNat (n / 2 ^ (8*(k - 1 - j))))
theorem put_next (n k i:Nat) (h:i<k):put n k i=put n k (i+1) ++ [UInt8.ofNat (n / 2 ^ (8*i))]:=by
 unfold put
 rw[show k - i=(k - (i+1))+1 by omega,List.range_succ,List.map_append,List.map_cons,List.map_nil]
 congr 3
 rw[show k - 1 - (k - (i+1))=i by omega]
theorem put_all (n k:Nat):put n k k = []:=by unfold put;rw[Nat.sub_self];rfl
theorem put_2 (n:Nat):put n 2 0=p16 n:=by
 simp[put,p16,List.range_succ]
theorem put_4 (n:Nat):put n 4 0=p32 n:=by
 have e1:UInt8.ofNat (n / 256)=UInt8.ofNat (n % 65536 / 256):=by apply UInt8.toNat_inj.1;rw[UInt8.toNat_ofNat',UInt8.toNat_ofNat'];omega
 have e2:UInt8.ofNat n=UInt8.ofNat (n % 65536):=by apply UInt8.toNat_inj.1;rw[UInt8.toNat_ofNat',UInt8.toNat_ofNat'];omega
 show [UInt8.ofNat (n / 16777216),UInt8.ofNat (n / 65536),UInt8.ofNat (n / 256),UInt8.ofNat (n / 1)] = [UInt8.ofNat (n / 65536 / 256),UInt8.ofNat (n / 65536),UInt8.ofNat (n % 65536 / 256),UInt8.ofNat (n % 65536)]
 rw[<- e1, <- e2,Nat.div_one,Nat.div_div_eq_div_mul]
end D
set_option maxHeartbeats 400000 in
theorem put_any (n k:Nat) (hk:k<=4) (base:Nat) (v:Value) (l:List UInt8) (w:World) (hO:OwnB w base v l) (hb:base<=w.heap.size) (hl:l.length<=900000) :
 Calls Tryz.prog 141 #[v,.int .u32 (n:Int),.int .i64 (k:Int)] w fun e w' => ∃ v',e = .returned v'/\OwnB w' base v' (l++D.put n k 0)/\Kp base w w':=by
 have HO:=hide hO
 clear hO
 go_enter Tryz.func141,Tryz.ntmps141
 go_wp2
 go_loopw [7,0] (fun i v wr => ∃ j:Nat,i = .int .i64 ((j:Int) - 1)/\j<=k/\OwnB wr base v (l++D.put n k j)/\Kp base w wr) (fun i _ _=>(intOf i+1).toNat)
 case atStart=>exact⟨k,rfl,by omega,(by rw[D.put_all,List.append_nil];exact HO.out),Kp.refl _ _⟩
 case round =>
  obtain⟨j,rfl,hj,hO,hK⟩:=hrel
  have HOO:=hide hO
  have hz:=hK.size hb
  have HKK:=hide hK
  clear hO hK
  by_cases h0:j=0
  ·subst h0
   go_wp2
   go_ret
   exact⟨_,rfl,HOO.out,HKK.out⟩
  ·obtain⟨i,rfl⟩ : ∃ i,j=i+1:=⟨j - 1,by omega⟩
   have hge:(0:Int)<=((i+1:Nat):Int) - 1:=by omega
   have hi:(((i+1:Nat):Int) - 1)=(i:Int):=by omega
   rw[hi]
   have h1:Hid ((n:Int) / 2 ^ (8*i) % 256=((UInt8.ofNat (n / 2 ^ (8*i))).toNat:Int)):=by
    show _=_
    rw[UInt8.toNat_ofNat']
    push_cast
    rfl
   have hpl:(D.put n k (i+1)).length<=4:=by simp[D.put];omega
   have HN:=hide (D.put_next n k i (by omega))
   go_wp2_with (at_builtin;refine wpList_append_B rfl (.tmp 14) (.tmp 20) rfl base _ (l++D.put n k (i+1)) rfl (by exact HOO.out.alloc _) _ _ _ [UInt8.ofNat (n / 2 ^ (8*i))] rfl rfl (by exact SlL.oneI _ _ _ _ h1.out) (by intro h;cases h) (by simp only[List.length_append];omega) (by simp;omega) ?_;intro v4 w4 hO4 hG4;have hK4:=Kp.app HOO.out hG4 hz;clear hG4)
   go_roundw
   case rel=>exact⟨i,rfl,by omega,(by rw[HN.out, <- List.append_assoc];exact hO4),HKK.out.trans hK4⟩
   case measure=>simp[intOf]
def wholeB (b:List UInt8):Bool:=(D.nm b).any fun p=>decide (p.2 = [])
theorem whole_any (b:List UInt8) (ao:Option Addr) (len cap:Nat) (w:World) (hl:Hid (b.length=len)) (hs:SlL w ao b) (hm:len<=1000000000) (hcap:len<=cap) :
 Calls Tryz.prog 119 #[.slice ao len cap] w fun e w'=>e = .returned (.bool (wholeB b))/\Below w.heap.size w w':=by
 have HS:=hide hs
 clear hs
 go_enter Tryz.func119,Tryz.ntmps119
 go_wp2_with fail
 refine (rOpen_any b ao len cap _ hl (by exact HS.out) hm hcap).mono ?_
 rintro e w1 ⟨⟨n,v,hn,hz,rfl,hO⟩ | ⟨hn,rfl⟩ | ⟨n,hn,hz,rfl⟩,hb1⟩
 ·obtain⟨_,_,hsz⟩:=N.opn_small b n hn
  have hR:D.nm b=some (n,b.drop (N.size n)):=by unfold D.nm;rw[hn,Option.bind_some,if_pos hz]
  have hlen:=hl.out
  by_cases he:N.size n=len
  ·have hW:wholeB b=true:=by unfold wholeB;rw[hR,List.drop_eq_nil_of_le (by omega)];rfl
   have he2:((N.size n:Int) == (len:Int))=true:=by rw[he];simp
   have HW:=hide hW
   clear hR hn hW he hlen
   go_wp2
   go_ret
   exact⟨by rw[HW.out];rfl,hb1⟩
  ·have hW:wholeB b=false:=by
    have:b.drop (N.size n) ≠ []:=fun e=>by
     have:=congrArg List.length e
     rw[List.length_drop] at this
     simp at this;omega
    unfold wholeB;rw[hR]
    simp only[Option.any_some]
    exact decide_eq_false this
   have he2:((N.size n:Int) == (len:Int))=false:=beq_eq_false_iff_ne.2 (by omega)
   have HW:=hide hW
   clear hR hn hW he hlen
   go_wp2
   go_ret
   exact⟨by rw[HW.out];rfl,hb1⟩
 ·have hW:wholeB b=false:=by unfold wholeB D.nm;rw[hn];rfl
  have HW:=hide hW
  clear hn hW
  go_wp2
  go_ret
  exact⟨by rw[HW.out];rfl,hb1⟩
 ·have hW:wholeB b=false:=by unfold wholeB D.nm;rw[hn,Option.bind_some,if_neg (by omega)];rfl
  have HW:=hide hW
  clear hn hW
  go_wp2
  go_ret
  exact⟨by rw[HW.out];rfl,hb1⟩
def wof {w:World} {g t:Nat} {c:Array Value} (_:RowAt w g t c):World:=w
open Go.RowKit
def Z.Thin (L:List Z.R):Prop := ∀ x∈L,∀ l∈x.p,l.length<=63
theorem path_rev {p:List (List UInt8)} (h:Z.Low p):path p.reverse=p:=by
 unfold path
 have e:N.lowN p.reverse=(N.lowN p).reverse:=List.map_reverse
 unfold Z.Low at h
 rw[e,h,List.reverse_reverse]
theorem one_cell (w:World) (g:Nat) (c:Array Value) (t:TypeId) (h:RowAt w g t c) : ∀ j u,c.toList[j]?=some u->w.cell? ((⟨g,0,none⟩:Addr).add j)=some u:=fun j u hu=>by
 rw[Addr.add_mid,Nat.zero_add,h.cell j]
 simpa using hu
end Go.Proofs.YtmbcegljmhcdeaaGreat
