/- Contracts of functions of the library, laid at this program by the kit's own tools. -/
import Derived.Test.YtmbcegljmhcdeaaGreatDat
import Derived.BigRegion
import Derived.Deep.RegionWith
import Derived.Laws.AppendOwnNone
import Derived.Deep.Cut
import Derived.Recover
import Derived.Laws.BitsAllLaws
import Derived.Deep.RegionLaw
import Derived.Shelf.Small.Bits
import Derived.Shelf.Small.Wraps
import Derived.Shelf.Strconv.Itoa0
import Derived.Ground.SlbCloneProg
import Derived.Shelf.Bytes.SlClone
import Derived.Ground.SlgnProg
import Derived.Shelf.SlicesE.Compact
import Derived.Ground.SlgmProg
import Derived.Shelf.SortM.Plain
import Derived.Shelf.SortM.SortNone
import Derived.Test.YtmbcegljmhcdeaaGreatChecked
namespace Go.Proofs.YtmbcegljmhcdeaaGreat
set_option maxRecDepth 5000
open Go.RowKit
namespace N
theorem same_false {a b:List (List UInt8)} (j:Nat) (ha:j<a.length) (hb:j<b.length) (h:lowL (a.getD j [])≠lowL (b.getD j [])):same a b=false:=by
 unfold same
 rw[decide_eq_false_iff_not]
 intro e
 have h1:(lowN a)[j]?=(lowN b)[j]?:=by rw[e]
 simp only[lowN,List.getElem?_map,List.getElem?_eq_getElem ha,List.getElem?_eq_getElem hb,Option.map_some,Option.some.injEq] at h1
 apply h
 have e1:a.getD j []=a[j]:=by simp[ha]
 have e2:b.getD j []=b[j]:=by simp[hb]
 rw[e1,e2];exact h1
end N
set_option maxRecDepth 3000 in
set_option maxHeartbeats 1000000 in
theorem rSame_any (a b:List (List UInt8)) (ao bo:Option Addr) (la lb ca cb:Nat) (w:World) (hla:Hid (a.length=la)) (hlb:Hid (b.length=lb)) (hsa:SlS w ao a) (hsb:SlS w bo b) (hma:la<=9223372036854775807) (ha:Hid (Sane a)) (hb:Hid (Sane b)) :
 Calls Tryz.prog 58 #[.slice ao la ca,.slice bo lb cb] w fun e w'=>e = .returned (.bool (N.same a b))/\Below w.heap.size w w':=by
 have HSA:=hide hsa
 have HSB:=hide hsb
 clear hsa hsb
 by_cases h:la=lb
 ·subst h
  go_enter Tryz.func58,Tryz.ntmps58
  go_wp2
  go_loopw [5] (fun i wr => ∃ j:Nat,i = .int .i64 (j:Int)/\j<=la/\Hid (N.lowN (a.take j)=N.lowN (b.take j))/\Below w.heap.size w wr) (fun i _=>la - (intOf i).toNat)
  case atStart=>exact⟨0,rfl,by omega,rfl,Below.refl _ _⟩
  case round =>
   obtain⟨j,rfl,hj,HE,hB⟩:=hrel
   have hz:=hB.size
   by_cases hlt:j<la
   ·obtain⟨b1,o1,rfl,hb1,hc1⟩:=HSA.out (by have:=hla.out;omega)
    obtain⟨b2,o2,rfl,hb2,hc2⟩:=HSB.out (by have:=hlb.out;omega)
    have hx0:=hc1 j (by have:=hla.out;omega)
    have hy0:=hc2 j (by have:=hlb.out;omega)
    have hx:=(hB.cell (p:=⟨b1,o1+j,none⟩) hb1).trans hx0
    have hy:=(hB.cell (p:=⟨b2,o2+j,none⟩) hb2).trans hy0
    have hta:=N.take_nextN a j (by have:=hla.out;omega)
    have htb:=N.take_nextN b j (by have:=hlb.out;omega)
    have hsf := @N.same_false a b j (by have:=hla.out;omega) (by have:=hlb.out;omega)
    have hxl:=ha.out.at j
    have hyl:=hb.out.at j
    clear hc1 hc2
    generalize a.getD j []=x at hx hx0 hta hsf hxl
    generalize b.getD j []=y at hy hy0 htb hsf hyl
    have HX0:=hide hx0
    have HY0:=hide hy0
    have HTA:=hide hta
    have HTB:=hide htb
    have HSF:=hide hsf
    have HB:=hide hB
    have hj1:(j:Int)<(la:Int):=by omega
    clear hx0 hy0 hta htb hsf hB
    by_cases hxy:N.lowL x=N.lowL y
    ·have HXY:=hide hxy
     have e1:(N.lowL x == N.lowL y)=true:=by rw[hxy];exact beq_self_eq_true _
     have e2:(N.lowL x != N.lowL y)=false:=by rw[hxy];exact bne_self_eq_false _
     clear hxy
     go_wp2
     go_region_with (first
      | (go_at_call_of 98 x;refine (rLowText_any ⟨x.toArray⟩ x _ rfl (by exact hxl)).mono ?_;rintro e w3 ⟨rfl,hB3⟩;have HB3:=hide ((below_drew HB.out).trans (hB3.mono hz));have hz3:=HB3.out.size;have hy3:w3.cell? ⟨b2,o2+j,none⟩=some (.string ⟨y.toArray⟩):=(HB3.out.cell (p:=⟨b2,o2+j,none⟩) hb2).trans HY0.out;clear hB3)
      | (go_at_call_of 98 y;refine (rLowText_any ⟨y.toArray⟩ y _ rfl (by exact hyl)).mono ?_;rintro e w4 ⟨rfl,hB4⟩;have HB4:=hide (HB3.out.trans (hB4.mono hz3));clear hB4))
     all_goals
      go_wp2
      go_roundw
      case rel=>exact⟨j+1,by go_num,by omega,(by show _=_;rw[HTA.out,HTB.out];have h1:=HE.out;have h2:=HXY.out;unfold N.lowN at h1 ⊢; rw[List.map_append,List.map_append,h1];simp[h2]),HB4.out⟩
      case measure=>simp[intOf];omega
    ·have e1:(N.lowL x == N.lowL y)=false:=beq_eq_false_iff_ne.2 hxy
     have e2:(N.lowL x != N.lowL y)=true:=bne_iff_ne.2 hxy
     go_wp2
     go_region_with (first
      | (go_at_call_of 98 x;refine (rLowText_any ⟨x.toArray⟩ x _ rfl (by exact hxl)).mono ?_;rintro e w3 ⟨rfl,hB3⟩;have HB3:=hide ((below_drew HB.out).trans (hB3.mono hz));have hz3:=HB3.out.size;have hy3:w3.cell? ⟨b2,o2+j,none⟩=some (.string ⟨y.toArray⟩):=(HB3.out.cell (p:=⟨b2,o2+j,none⟩) hb2).trans HY0.out;clear hB3)
      | (go_at_call_of 98 y;refine (rLowText_any ⟨y.toArray⟩ y _ rfl (by exact hyl)).mono ?_;rintro e w4 ⟨rfl,hB4⟩;have HB4:=hide (HB3.out.trans (hB4.mono hz3));clear hB4))
     all_goals
      go_wp2
      go_ret
      exact⟨by rw[HSF.out hxy];rfl,HB4.out⟩
   ·obtain rfl:j=la:=by omega
    have HS:Hid (N.same a b=true):=by
     show _=_
     unfold N.same
     rw[decide_eq_true_eq]
     have h1:=HE.out
     rw[List.take_of_length_le (by rw[hla.out];exact Nat.le_refl _),List.take_of_length_le (by rw[hlb.out];exact Nat.le_refl _)] at h1
     exact h1
    go_wp2
    go_ret
    exact⟨by rw[HS.out];rfl,hB⟩
 ·have hz:N.same a b=false:=by
   unfold N.same
   rw[decide_eq_false_iff_not]
   intro e
   have:=congrArg List.length e
   rw[N.lowN_len,N.lowN_len,hla.out,hlb.out] at this
   exact h this
  have hne:((la:Int) != (lb:Int))=true:=by simp;omega
  rw[hz]
  go_enter Tryz.func58,Tryz.ntmps58
  go_wp2
  go_ret
  exact⟨rfl,Below.refl _ _⟩
theorem rWithin_any (a b:List (List UInt8)) (ao bo:Option Addr) (la lb ca cb:Nat) (w:World) (hla:Hid (a.length=la)) (hlb:Hid (b.length=lb)) (hsa:SlS w ao a) (hsb:SlS w bo b) (hma:la<=9223372036854775807) (hca:la<=ca) (ha:Hid (Sane a)) (hb:Hid (Sane b)) :
 Calls Tryz.prog 64 #[.slice ao la ca,.slice bo lb cb] w fun e w'=>e = .returned (.bool (N.within a b))/\Below w.heap.size w w':=by
 have HSA:=hide hsa
 have HSB:=hide hsb
 clear hsa hsb
 by_cases h:lb<=la
 ·have hz:N.within a b=N.same (a.drop (la - lb)) b:=by
   unfold N.within;rw[hla.out,hlb.out,decide_eq_true h,Bool.true_and]
  rw[hz]
  obtain⟨ao',hsl,hs'⟩:=slice_from (k:=la - lb) (x:=(la:Int) - (lb:Int)) (by omega) HSA.out hla.out (by omega) hca
  have HS':=hide hs'
  clear hs'
  go_enter Tryz.func64,Tryz.ntmps64
  go_wp2_with (go_at_call 58;refine (rSame_any (a.drop (la - lb)) b ao' bo _ lb _ cb _ (by show _=_;rw[List.length_drop,hla.out]) hlb HS'.out HSB.out (by omega) (ha.out.drop _) hb).mono ?_;rintro e w' ⟨rfl,hm⟩)
  go_ret
  exact⟨rfl,hm⟩
 ·have hz:N.within a b=false:=by
   unfold N.within;rw[hla.out,hlb.out,decide_eq_false h,Bool.false_and]
  rw[hz]
  have hm2:lb<=la\/la<lb:=by omega
  go_enter Tryz.func64,Tryz.ntmps64
  go_wp2
  go_ret
  exact⟨rfl,Below.refl _ _⟩
open Go.RowKit
namespace N
theorem less_is : ∀ a b:List UInt8,Op.bytesLess a b=decide (cmpB a b = -1)
 | [], []=>rfl
 | [],_::_=>rfl
 | _::_, []=>rfl
 | a::x,b::y=>by
  show (decide (a<b) || (a == b && Op.bytesLess x y))=decide ((if cmpI a.toNat b.toNat=0 then cmpB x y else cmpI a.toNat b.toNat) = -1)
  rw[less_is x y]
  have hlt:(a<b)=(a.toNat<b.toNat):=propext UInt8.lt_iff_toNat_lt
  have heq:(a == b)=decide (a.toNat=b.toNat):=by
   by_cases h:a=b
   ·subst h;simp
   ·rw[beq_eq_false_iff_ne.2 h,eq_comm,decide_eq_false_iff_not]
    exact fun e=>h (UInt8.toNat_inj.1 e)
  rw[heq]
  simp only[hlt]
  unfold cmpI
  rcases Nat.lt_trichotomy a.toNat b.toNat with h | h | h
  ·simp[h]
  ·simp[h]
  ·have h1 : ¬ (a.toNat<b.toNat):=by omega
   have h2 : ¬ (a.toNat=b.toNat):=by omega
   simp[h,h1,h2]
end N
set_option maxRecDepth 3000 in
set_option maxHeartbeats 4000000 in
theorem rCompare_any (a b:List (List UInt8)) (ao bo:Option Addr) (la lb ca cb:Nat) (w:World) (hla:Hid (a.length=la)) (hlb:Hid (b.length=lb)) (hsa:SlS w ao a) (hsb:SlS w bo b) (hma:la<=1000000) (hmb:lb<=1000000) (ha:Hid (Sane a)) (hb:Hid (Sane b)) :
 Calls Tryz.prog 124 #[.slice ao la ca,.slice bo lb cb] w fun e w'=>e = .returned (.int .i64 (N.cmpN a b))/\Below w.heap.size w w':=by
 have HSA:=hide hsa
 have HSB:=hide hsb
 clear hsa hsb
 go_enter Tryz.func124,Tryz.ntmps124
 go_wp2
 go_loopw [5] (fun i wr => ∃ j:Nat,i = .int .i64 ((j:Int)+1)/\j<=la/\j<=lb/\Hid (N.cmpN a b=N.cmpR (a.reverse.drop j) (b.reverse.drop j))/\Below w.heap.size w wr) (fun i _=>la+1 - (intOf i).toNat)
 case atStart=>exact⟨0,rfl,by omega,by omega,rfl,Below.refl _ _⟩
 case round =>
  obtain⟨j,rfl,hja,hjb,HC,hB⟩:=hrel
  have hz:=hB.size
  by_cases hlt:j<la/\j<lb
  ·obtain⟨hlta,hltb⟩:=hlt
   obtain⟨b1,o1,rfl,hb1,hc1⟩:=HSA.out (by have:=hla.out;omega)
   obtain⟨b2,o2,rfl,hb2,hc2⟩:=HSB.out (by have:=hlb.out;omega)
   obtain⟨ia,hia⟩ : ∃ ia,ia=la - 1 - j:=⟨_,rfl⟩
   obtain⟨ib,hib⟩ : ∃ ib,ib=lb - 1 - j:=⟨_,rfl⟩
   have hn:=N.cmpR_next a b j (by have:=hla.out;omega) (by have:=hlb.out;omega)
   rw[hla.out,hlb.out, <- hia, <- hib] at hn
   have hx0:=hc1 ia (by have:=hla.out;omega)
   have hy0:=hc2 ib (by have:=hlb.out;omega)
   have hx:=(hB.cell (p:=⟨b1,o1+ia,none⟩) hb1).trans hx0
   have hy:=(hB.cell (p:=⟨b2,o2+ib,none⟩) hb2).trans hy0
   have hxl:=ha.out.at ia
   have hyl:=hb.out.at ib
   clear hc1 hc2
   generalize a.getD ia []=x at hx hx0 hn hxl
   generalize b.getD ib []=y at hy hy0 hn hyl
   have e3:IntKind.i64.wrap ((la:Int) - ((j:Int)+1))=(ia:Int):=by rw[IntKind.wrap_i64];omega
   have e4:IntKind.i64.wrap ((lb:Int) - ((j:Int)+1))=(ib:Int):=by rw[IntKind.wrap_i64];omega
   have hj1:(ia:Int)<(la:Int):=by omega
   have hj2:(ib:Int)<(lb:Int):=by omega
   have hl:=N.less_is (N.lowL x) (N.lowL y)
   have hbd:=N.cmpL_bounds x y
   have hzz := @N.cmpL_zero x y
   have hcl:N.cmpB (N.lowL x) (N.lowL y)=N.cmpL x y:=rfl
   rw[hcl] at hl
   generalize hcc:N.cmpL x y=c at hn hl hbd hzz
   have HX0:=hide hx0
   have HY0:=hide hy0
   have HN:=hide hn
   have HB:=hide hB
   have HZZ:=hide hzz
   have HJ:=hide (And.intro hia hib)
   clear hx0 hy0 hn hB hzz hcl hcc hia hib
   have hc3:c = -1\/c=0\/c=1:=by omega
   rcases hc3 with rfl | rfl | rfl
   ·have hl1:Op.bytesLess (N.lowL x) (N.lowL y)=true:=by rw[hl];rfl
    clear hl
    go_wp2
    go_region_with (first
     | (go_at_call_of 98 x;refine (rLowText_any ⟨x.toArray⟩ x _ rfl (by exact hxl)).mono ?_;rintro e w3 ⟨rfl,hB3⟩;have HB3:=hide ((below_drew HB.out).trans (hB3.mono hz));have hz3:=HB3.out.size;have hy3:w3.cell? ⟨b2,o2+ib,none⟩=some (.string ⟨y.toArray⟩):=(HB3.out.cell (p:=⟨b2,o2+ib,none⟩) hb2).trans HY0.out;clear hB3)
     | (go_at_call_of 98 y;refine (rLowText_any ⟨y.toArray⟩ y _ rfl (by exact hyl)).mono ?_;rintro e w4 ⟨rfl,hB4⟩;have HB4:=hide (HB3.out.trans (hB4.mono hz3));clear hB4))
    all_goals
     go_wp2
     go_ret
     exact⟨by rw[HC.out,HN.out];rfl,HB4.out⟩
   ·have hl1:Op.bytesLess (N.lowL x) (N.lowL y)=false:=by rw[hl];rfl
    have he1:(N.lowL x == N.lowL y)=true:=beq_iff_eq.2 (HZZ.out.1 rfl)
    clear hl
    go_wp2
    go_region_with (first
     | (go_at_call_of 98 x;refine (rLowText_any ⟨x.toArray⟩ x _ rfl (by exact hxl)).mono ?_;rintro e w3 ⟨rfl,hB3⟩;have HB3:=hide ((below_drew HB.out).trans (hB3.mono hz));have hz3:=HB3.out.size;have hy3:w3.cell? ⟨b2,o2+ib,none⟩=some (.string ⟨y.toArray⟩):=(HB3.out.cell (p:=⟨b2,o2+ib,none⟩) hb2).trans HY0.out;clear hB3)
     | (go_at_call_of 98 y;refine (rLowText_any ⟨y.toArray⟩ y _ rfl (by exact hyl)).mono ?_;rintro e w4 ⟨rfl,hB4⟩;have HB4:=hide (HB3.out.trans (hB4.mono hz3));clear hB4))
    all_goals
     go_wp2
     go_roundw
     case rel=>exact⟨j+1,by go_num,by omega,by omega,(by show _=_;rw[HC.out,HN.out];simp),HB4.out⟩
     case measure=>simp[intOf];omega
   ·have hl1:Op.bytesLess (N.lowL x) (N.lowL y)=false:=by rw[hl];rfl
    have he1:(N.lowL x == N.lowL y)=false:=beq_eq_false_iff_ne.2 (fun e=>absurd (HZZ.out.2 e) (by decide))
    clear hl
    go_wp2
    go_region_with (first
     | (go_at_call_of 98 x;refine (rLowText_any ⟨x.toArray⟩ x _ rfl (by exact hxl)).mono ?_;rintro e w3 ⟨rfl,hB3⟩;have HB3:=hide ((below_drew HB.out).trans (hB3.mono hz));have hz3:=HB3.out.size;have hy3:w3.cell? ⟨b2,o2+ib,none⟩=some (.string ⟨y.toArray⟩):=(HB3.out.cell (p:=⟨b2,o2+ib,none⟩) hb2).trans HY0.out;clear hB3)
     | (go_at_call_of 98 y;refine (rLowText_any ⟨y.toArray⟩ y _ rfl (by exact hyl)).mono ?_;rintro e w4 ⟨rfl,hB4⟩;have HB4:=hide (HB3.out.trans (hB4.mono hz3));clear hB4))
    all_goals
     go_wp2
     go_ret
     exact⟨by rw[HC.out,HN.out];rfl,HB4.out⟩
  ·have hend:=N.cmpR_end a b j (by rw[hla.out];omega) (by rw[hlb.out];omega) (by rw[hla.out,hlb.out];omega)
   rw[hla.out,hlb.out] at hend
   have HE:=hide hend
   clear hend
   have hstop:j=la\/j=lb:=by omega
   rcases Nat.lt_trichotomy la lb with h | h | h
   ·have hcI:Hid (N.cmpI la lb = -1):=by show _=_;unfold N.cmpI;rw[if_pos h]
    have h1 : ¬ ((j:Int)+1<=(la:Int)):=by omega
    go_wp2
    go_ret
    exact⟨by rw[HC.out,HE.out,hcI.out];rfl,hB⟩
   ·subst h
    have hcI:Hid (N.cmpI la la=0):=N.cmpI_self la
    have h1 : ¬ ((j:Int)+1<=(la:Int)):=by omega
    go_wp2
    go_ret
    exact⟨by rw[HC.out,HE.out,hcI.out];rfl,hB⟩
   ·have hcI:Hid (N.cmpI la lb=1):=by show _=_;unfold N.cmpI;rw[if_neg (by omega),if_pos h]
    have h1:(j:Int)+1<=(la:Int):=by omega
    have h2 : ¬ ((j:Int)+1<=(lb:Int)):=by omega
    go_wp2
    go_ret
    exact⟨by rw[HC.out,HE.out,hcI.out];rfl,hB⟩
open Go.RowKit
namespace Z
def exA:List (List UInt8) := [[101,120,97,109,112,108,101]]
def owns:List (List (List UInt8)) := [[], [[97]], [[98]], [[99], [98]], [[42], [119]], [[120], [119]], [[101], [102], [103]], [[115,117,98]], [[110,115], [115,117,98]], [[65]], [[100,101,101,112], [120], [119]], [[122]], [[42]]]
def owner (k:Nat):List (List UInt8):=owns.getD (k % 13) []++exA
def farN:List (List UInt8) := [[102,97,114], [110,101,116]]
def underK (k:Nat):List (List UInt8):=if k % 7=6 then farN else owner k
def kinds:List Nat := [1,1,28,15,16,2,5,43,6,99]
def typeK (k:Nat):Nat:=kinds.getD (k % 10) 0
def soaK (k:Nat):D.Soa:=⟨owner 1,owner 2,k*16777216 % 4294967296,1,2,3,10+k % 4*20⟩
def dataK (t k:Nat):List UInt8 :=
 if t=1 then [10,0,0,UInt8.ofNat (k % 4)]
 else if t=28 then List.replicate 15 0 ++ [UInt8.ofNat (k % 3)]
 else if t=15 then [0,UInt8.ofNat (k % 3)]++N.wire (underK k)
 else if t=16 then [2,104,UInt8.ofNat (97+k % 4)]
 else if t=2 then N.wire ([owner 8,owner 1,farN].getD (k % 3) [])
 else if t=5 then N.wire (underK k)
 else if t=43 then [0,UInt8.ofNat (k % 3),253,2,1,2,3]
 else if t=6 then D.soaB (soaK k)
 else [UInt8.ofNat k]
def ttlK (k:Nat):Nat := [30,30,60,5].getD (k / 16777216 % 4) 0
theorem owner_at (k:Nat) : ∃ j,j<13/\owner k=owns.getD j []++exA:=⟨k % 13,Nat.mod_lt _ (by decide),rfl⟩
theorem owner_good (k:Nat):N.chk (owner k)=0/\N.within (owner k) exA=true/\(owner k).length<=4/\N.size (owner k)<=100 /\ [] ∉ owner k:=by
 have h : ∀ j,j<13->N.chk (owns.getD j []++exA)=0/\N.within (owns.getD j []++exA) exA=true/\(owns.getD j []++exA).length<=4/\N.size (owns.getD j []++exA)<=100 /\ [] ∉ owns.getD j []++exA:=by decide +kernel
 obtain⟨j,hj,e⟩:=owner_at k
 rw[e];exact h j hj
theorem owner_small (k:Nat):N.Small (owner k):=by
 have h : ∀ j,j<13->N.Small (owns.getD j []++exA):=by
  have h2 : ∀ j,j<13->(owns.getD j []++exA).length<=1000000 /\ ∀ l∈owns.getD j []++exA,l.length<=1000000:=by decide +kernel
  exact h2
 obtain⟨j,hj,e⟩:=owner_at k
 rw[e];exact h j hj
theorem underK_or (k:Nat):Z.underK k=farN\/Z.underK k=owner k:=by
 unfold underK;split
 ·exact Or.inl rfl
 ·exact Or.inr rfl
theorem far_small:N.Small farN:=by
 have h2:farN.length<=1000000 /\ ∀ l∈farN,l.length<=1000000:=by decide
 exact h2
theorem underK_small (k:Nat):N.Small (underK k):=by
 rcases underK_or k with h | h
 ·rw[h];exact far_small
 ·rw[h];exact owner_small k
theorem owner_wire (k:Nat):(N.wire (owner k)).length<=100:=by
 have h : ∀ j,j<13->(N.wire (owns.getD j []++exA)).length<=100:=by decide +kernel
 obtain⟨j,hj,e⟩:=owner_at k
 rw[e];exact h j hj
theorem underK_wire (k:Nat):(N.wire (underK k)).length<=100:=by
 rcases underK_or k with h | h
 ·rw[h];decide +kernel
 ·rw[h];exact owner_wire k
theorem soaK_ok (k:Nat):N.size (soaK k).main<=1000/\N.size (soaK k).box<=1000/\(soaK k).a<4294967296/\(soaK k).e<4294967296:=by
 refine⟨Nat.le_trans (owner_good 1).2.2.2.1 (by decide),Nat.le_trans (owner_good 2).2.2.2.1 (by decide),Nat.mod_lt _ (by decide),?_⟩
 show 10+k % 4*20<_
 omega
theorem typeK_lt (k:Nat):typeK k<65536:=by
 have h : ∀ j,j<10->kinds.getD j 0<65536:=by decide
 exact h _ (Nat.mod_lt _ (by decide))
end Z
open Go.RowKit
theorem wpList_append_SN {w:World} {ops:Array Oper} {rest:List Oper} {o:Oper} {a:Act} {Q:Exit->Act->World->Prop} (hgd:o.guard=none) (s x:Operand)
 (ho:o.op = .call { callee := .builtin .append,args := #[s,x],argTypes := #[28,28] }) (base:Nat) (v:Value) (n:List (List UInt8)) (hs:a.eval s=v) (hown:OwnS w base v n)
 (ao:Option Addr) (m c:Nat) (n2:List (List UInt8)) (hx:a.eval x = .slice ao m c) (hm:n2.length=m) (hsrc:SlS w ao n2) (hnil:ao=none->c=0) (hbound:n.length+m<=1099511627776) (hbase:base<=w.heap.size)
 (h : ∀ v' w',OwnS w' base v' (n++n2)->w.grownBy w' v.ownBlock->wpList Tryz.prog ops Q rest (a.put o.dst v') w'):wpList Tryz.prog ops Q (o::rest) a w:=by
 cases ao with
 | none =>
  obtain⟨i0,hi,hz0,hz1,hz2⟩:=info_parts infoS
  have h0:n2.length=0:=by
   rcases Nat.eq_zero_or_pos n2.length with h | h
   ·exact h
   ·obtain⟨b,o,e,_⟩:=hsrc h;cases e
  obtain rfl:n2 = []:=List.eq_nil_of_length_eq_zero h0
  obtain rfl:=hnil rfl
  obtain rfl:m=0:=by rw[<- hm];rfl
  refine wpList_append_own_none hgd s x 28 ho base 9 i0 1 Tryz.underlying28 hi v n.length (vs n) hs hown hx ?_
  exact h v w (by rw[List.append_nil];exact hown) ⟨rfl,rfl,rfl,Nat.le_refl _,fun _ _ _=>rfl⟩
 | some ad=>exact wpList_append_S hgd s x ho base v n hs hown ad m c n2 hx hm hsrc hbound hbase h
theorem OwnS.lit (w:World) (l:List (List UInt8)) (A:Array Value) (base:Nat) (hb:base<=w.heap.size) (h:A=(vs l).toArray) (hl:l.length<=1000000) (n:Nat) (hn:n=l.length):OwnS (w.alloc (.cells A 9)) base (.slice (some ⟨w.heap.size,0,none⟩) n n) l:=by
 subst h;subst hn
 have hz:(vs l).length=l.length:=vs_len l
 refine⟨by rw[hz,Nat.mul_one],Or.inr ⟨w.heap.size,l.length,(vs l).toArray,rfl,hb,heap_alloc_last w _,Nat.le_refl _,by unfold maxLen;omega,by simp[hz],by simp;exact List.take_of_length_le (Nat.le_of_eq hz)⟩⟩
theorem OwnB.lit (w:World) (l:List UInt8) (A:Array Value) (base:Nat) (hb:base<=w.heap.size) (h:A=(vb l).toArray) (hl:l.length<=1000000) (n:Nat) (hn:n=l.length):OwnB (w.alloc (.cells A 5)) base (.slice (some ⟨w.heap.size,0,none⟩) n n) l:=by
 subst h;subst hn
 have hz:(vb l).length=l.length:=vb_len l
 refine⟨by rw[hz,Nat.mul_one],Or.inr ⟨w.heap.size,l.length,(vb l).toArray,rfl,hb,heap_alloc_last w _,Nat.le_refl _,by unfold maxLen;omega,by simp[hz],by simp;exact List.take_of_length_le (Nat.le_of_eq hz)⟩⟩
open Go.RowKit
theorem apex_any (w:World):Calls Tryz.prog 13 #[] w fun e w' => ∃ v,e = .returned v/\OwnS w' w.heap.size v Z.exA/\Below w.heap.size w w':=by
 go_enter Tryz.func13,Tryz.ntmps13
 go_wp2
 go_ret
 exact⟨_,rfl,OwnS.lit w Z.exA _ _ (Nat.le_refl _) rfl (by decide) 1 rfl,(Below.refl _ w).alloc (Nat.le_refl _) _⟩
def lay (w:World):List (List (List UInt8))->World
 | []=>w
 | l::r=>lay (w.alloc (.cells (vs l).toArray 9)) r
theorem lay_size : ∀ (r:List (List (List UInt8))) (w:World),(lay w r).heap.size=w.heap.size+r.length
 | [],w=>rfl
 | l::r,w=>by
  show (lay (w.alloc _) r).heap.size=_
  rw[lay_size r,World.size_alloc,List.length_cons];omega
theorem lay_below : ∀ (r:List (List (List UInt8))) (w:World),Below w.heap.size w (lay w r)
 | [],w=>Below.refl _ w
 | l::r,w=>by
  have h:=lay_below r (w.alloc (.cells (vs l).toArray 9))
  exact ((Below.refl _ w).alloc (Nat.le_refl _) _).trans (h.mono (by rw[World.size_alloc];omega))
theorem lay_at : ∀ (r:List (List (List UInt8))) (w:World) (j:Nat),j<r.length->SlS (lay w r) (some ⟨w.heap.size+j,0,none⟩) (r.getD j [])
 | [],w,j,h=>absurd h (Nat.not_lt_zero j)
 | l::r,w,0,h=>by
  have h1:=SlS.litm w l _ 9 (0,0) rfl
  exact h1.below (lay_below r _) (Nat.le_refl _)
 | l::r,w,j+1,h=>by
  have h1:=lay_at r (w.alloc (.cells (vs l).toArray 9)) j (by simpa using h)
  rw[World.size_alloc] at h1
  have e:w.heap.size+1+j=w.heap.size+(j+1):=by omega
  rw[e] at h1
  exact h1
def ownCells (b:Nat):Array Value := #[.slice (some ⟨b,0,none⟩) 0 0,.slice (some ⟨b+1,0,none⟩) 1 1,.slice (some ⟨b+2,0,none⟩) 1 1,.slice (some ⟨b+3,0,none⟩) 2 2,.slice (some ⟨b+4,0,none⟩) 2 2,.slice (some ⟨b+5,0,none⟩) 2 2,.slice (some ⟨b+6,0,none⟩) 3 3,.slice (some ⟨b+7,0,none⟩) 1 1,.slice (some ⟨b+8,0,none⟩) 2 2,.slice (some ⟨b+9,0,none⟩) 1 1,.slice (some ⟨b+10,0,none⟩) 3 3,.slice (some ⟨b+11,0,none⟩) 1 1,.slice (some ⟨b+12,0,none⟩) 1 1]
theorem ownCells_get (b:Nat) : ∀ j,j<13->(ownCells b)[j]?=some (.slice (some ⟨b+j,0,none⟩) (Z.owns.getD j []).length (Z.owns.getD j []).length)
 | 0,_=>rfl | 1,_=>rfl | 2,_=>rfl | 3,_=>rfl | 4,_=>rfl | 5,_=>rfl | 6,_=>rfl | 7,_=>rfl | 8,_=>rfl | 9,_=>rfl | 10,_=>rfl | 11,_=>rfl | 12,_=>rfl
 | j+13,h=>absurd h (by omega)
set_option maxHeartbeats 1000000 in
theorem owner_any (k:Nat) (hk:k<256) (w:World):Calls Tryz.prog 22 #[.int .u8 (k:Int)] w fun e w' => ∃ v,e = .returned v/\OwnS w' w.heap.size v (Z.owner k)/\Below w.heap.size w w':=by
 obtain⟨j,hj⟩ : ∃ j,j=k % 13:=⟨_,rfl⟩
 have hj13:j<13:=by rw[hj];exact Nat.mod_lt _ (by decide)
 have hmod:((k:Int) % 13)=(j:Int):=by omega
 have howner:Z.owner k=Z.owns.getD j []++Z.exA:=by unfold Z.owner;rw[hj]
 obtain⟨n,hn⟩ : ∃ n,n=Z.owns.getD j []:=⟨_,rfl⟩
 have hnl:n.length<=3:=by
  rw[hn]
  have h : ∀ j,j<13->(Z.owns.getD j []).length<=3:=by decide
  exact h j hj13
 obtain⟨nl,hnl2⟩ : ∃ nl,nl=n.length:=⟨_,rfl⟩
 obtain⟨W,hW⟩ : ∃ W,W=(lay w Z.owns).alloc (.cells (ownCells w.heap.size) 28):=⟨_,rfl⟩
 have hL:(lay w Z.owns).heap.size=w.heap.size+13:=lay_size _ _
 have hWs:W.heap.size=w.heap.size+14:=by rw[hW,World.size_alloc,hL]
 have hWb:Below w.heap.size w W:=by rw[hW];exact (lay_below _ _).alloc (by rw[hL];omega) _
 have hcell:W.cell? ⟨w.heap.size+13,j,none⟩=some (.slice (some ⟨w.heap.size+j,0,none⟩) nl nl):=by
  have h1:RowAt W (w.heap.size+13) 28 (ownCells w.heap.size):=by rw[hW, <- hL];exact RowAt.new _ _ _
  rw[h1.cell,ownCells_get _ j hj13, <- hn, <- hnl2]
 have hsl:SlS W (some ⟨w.heap.size+j,0,none⟩) n:=by
  rw[hW,hn];exact (lay_at _ w j (by show j<13;exact hj13)).alloc _
 have hnb:nl<=3:=by omega
 have HW:=hide hW
 have HN:=hide hn
 have HNL:=hide hnl2
 have HWB:=hide hWb
 have HWS:=hide hWs
 have HSL:=hide hsl
 have HO:=hide howner
 clear hW hn hnl2 hWb hWs hsl howner hj hL
 go_enter Tryz.func22,Tryz.ntmps22
 go_upto_region 1 with fail
 go_cut [3] from 4 (fun v wc=>v = .slice (some ⟨w.heap.size+13,0,none⟩) 13 13/\wc=W)
 case first =>
  go_wp2
  go_meet
  refine⟨rfl,?_⟩
  rw[HW.out];rfl
 case rest =>
  obtain⟨rfl,rfl⟩:=hcut
  have hjb:(j:Int)<13:=by omega
  have hz:wc.heap.size=w.heap.size+14:=HWS.out
  go_wp2_with (first
   | (at_builtin;refine wpList_append_S rfl (.const (.slice none 0 0)) (.tmp 27) rfl wc.heap.size (.slice none 0 0) [] rfl (OwnS.nil _ _) ⟨w.heap.size+j,0,none⟩ nl nl n rfl HNL.out.symm HSL.out (by simp;omega) (Nat.le_refl _) ?_;intro v5 w5 hO5 hG5;have HB5:=hide (grown_belowS (OwnS.nil wc wc.heap.size) hG5 (Below.refl _ _) (Nat.le_refl _)))
   | (go_at_call 13;refine (apex_any w5).mono ?_;rintro e w6 ⟨v6,rfl,hO6,hB6⟩;obtain⟨a6,c6,rfl,hS6,hn6,hc6,_⟩:=hO6.open)
   | (at_builtin;go_loud (refine wpList_append_SN rfl (.tmp 28) (.tmp 29) rfl wc.heap.size v5 n rfl (by simpa using hO5.below hB6) a6 _ c6 Z.exA rfl rfl hS6 hn6 (by simp[Z.exA];omega) (by have:=HB5.out.size;have:=hB6.size;omega) ?_);intro v7 w7 hO7 hG7)
   | fail)
  go_ret
  have b7:=grown_belowS (hO5.below hB6) hG7 (HB5.out.trans (hB6.mono HB5.out.size)) (by have:=HB5.out.size;have:=hB6.size;omega)
  refine⟨_,rfl,?_,HWB.out.trans (b7.mono HWB.out.size)⟩
  rw[HO.out, <- HN.out]
  exact hO7.lower (by omega)
theorem under_any (k:Nat) (hk:k<256) (w:World):Calls Tryz.prog 113 #[.int .u8 (k:Int)] w fun e w' => ∃ v,e = .returned v/\OwnS w' w.heap.size v (Z.underK k)/\Below w.heap.size w w':=by
 by_cases h6:k % 7=6
 ·have hm:((k:Int) % 7 == 6)=true:=by simp;omega
  have e:Z.underK k=Z.farN:=by unfold Z.underK;rw[if_pos h6]
  rw[e]
  go_enter Tryz.func113,Tryz.ntmps113
  go_wp2
  go_ret
  exact⟨_,rfl,OwnS.lit w Z.farN _ _ (Nat.le_refl _) rfl (by decide) 2 rfl,(Below.refl _ w).alloc (Nat.le_refl _) _⟩
 ·have hm:((k:Int) % 7 == 6)=false:=by simp;omega
  have e:Z.underK k=Z.owner k:=by unfold Z.underK;rw[if_neg h6]
  rw[e]
  go_enter Tryz.func113,Tryz.ntmps113
  go_wp2_with (go_at_call 22;refine (owner_any k hk w).mono ?_;rintro e w1 ⟨v,rfl,hO,hB⟩)
  go_ret
  exact⟨v,rfl,hO,hB⟩
theorem kinds_get (k:Nat):((#[.int .u16 1,.int .u16 1,.int .u16 28,.int .u16 15,.int .u16 16,.int .u16 2,.int .u16 5,.int .u16 43,.int .u16 6,.int .u16 99]:Array Value))[k % 10]?=some (.int .u16 (Z.typeK k:Int)):=by
 have h : ∀ j,j<10->((#[.int .u16 1,.int .u16 1,.int .u16 28,.int .u16 15,.int .u16 16,.int .u16 2,.int .u16 5,.int .u16 43,.int .u16 6,.int .u16 99]:Array Value))[j]?=some (.int .u16 ((Z.kinds.getD j 0:Nat):Int))
  | 0,_=>rfl | 1,_=>rfl | 2,_=>rfl | 3,_=>rfl | 4,_=>rfl | 5,_=>rfl | 6,_=>rfl | 7,_=>rfl | 8,_=>rfl | 9,_=>rfl
  | j+10,h=>absurd h (by omega)
 exact h _ (Nat.mod_lt _ (by decide))
theorem seatType_any (k:Nat) (hk:k<256) (w:World):Calls Tryz.prog 23 #[.int .u8 (k:Int)] w fun e w'=>e = .returned (.int .u16 (Z.typeK k:Int))/\Below w.heap.size w w':=by
 obtain⟨j,hj⟩ : ∃ j,j=k % 10:=⟨_,rfl⟩
 have hj10:j<10:=by rw[hj];exact Nat.mod_lt _ (by decide)
 have hmod:((k:Int) % 10)=(j:Int):=by omega
 have hjb:(j:Int)<10:=by omega
 have hc:=(RowAt.new w 36 #[.int .u16 1,.int .u16 1,.int .u16 28,.int .u16 15,.int .u16 16,.int .u16 2,.int .u16 5,.int .u16 43,.int .u16 6,.int .u16 99]).cell j
 rw[hj,kinds_get k, <- hj] at hc
 obtain⟨t,ht⟩ : ∃ t,t=Z.typeK k:=⟨_,rfl⟩
 rw[<- ht] at hc ⊢
 clear ht hj
 go_enter Tryz.func23,Tryz.ntmps23
 go_wp2
 go_ret
 exact⟨rfl,(Below.refl _ w).alloc (Nat.le_refl _) _⟩
open Go.RowKit
def fell50:Ending := .panicked [{ v := .iface 80 (.int .i64 50),recovered:=false }]
def SlB (B:Nat) (w:World) (ao:Option Addr) (l:List UInt8):Prop:=0<l.length -> ∃ b o,ao=some ⟨b,o,none⟩/\b<B /\ ∀ j,j<l.length->w.cell? ⟨b,o+j,none⟩=some (.int .u8 (l.getD j 0).toNat)
theorem SlB.sl {B:Nat} {w:World} {ao:Option Addr} {l:List UInt8} (h:SlB B w ao l) (hB:B<=w.heap.size):SlL w ao l:=fun hn=>by
 obtain⟨b,o,e,hlt,hc⟩:=h hn
 exact⟨b,o,e,Nat.lt_of_lt_of_le hlt hB,hc⟩
theorem SlL.slB {w:World} {ao:Option Addr} {l:List UInt8} (h:SlL w ao l):SlB w.heap.size w ao l:=h
theorem SlB.below {B:Nat} {w w':World} {ao:Option Addr} {l:List UInt8} (h:SlB B w ao l) (hb:Below B w w'):SlB B w' ao l:=fun hn=>by
 obtain⟨b,o,e,hlt,hc⟩:=h hn
 exact⟨b,o,e,hlt,fun j hj=>(hb.cell (p:=⟨b,o+j,none⟩) hlt).trans (hc j hj)⟩
theorem SlB.part {B:Nat} {w:World} {ao:Option Addr} {l:List UInt8} {cap k:Nat} (m:Nat) (h:SlB B w ao l) (hk:k+m<=l.length) (hc:l.length<=cap):SlB B w (if cap=k then ao else ao.map (·.add (k*1))) ((l.drop k).take m):=fun hn=>by
 rw[List.length_take,List.length_drop] at hn
 obtain⟨b,o,rfl,hlt,hc'⟩:=h (by omega)
 rw[if_neg (by omega)]
 refine⟨b,o+k,by rw[Option.map_some,Nat.mul_one,addr_add],hlt,fun j hj=>?_⟩
 rw[List.length_take,List.length_drop] at hj
 rw[show o+k+j=o+(k+j) by omega,hc' (k+j) (by omega)]
 have hjm:j<m:=by omega
 simp[List.getD_eq_getElem?_getD,List.getElem?_drop,hjm]
def Mv (T:Nat) (w w':World):Prop:=w.grownBy w' (some T)
theorem Mv.refl (T:Nat) (w:World):Mv T w w:=⟨rfl,rfl,rfl,Nat.le_refl _,fun _ _ _=>rfl⟩
theorem Mv.trans {T:Nat} {a b c:World} (h:Mv T a b) (k:Mv T b c):Mv T a c:=⟨k.os.trans h.os,k.tape.trans h.tape,k.output.trans h.output,Nat.le_trans h.size k.size,fun i hi hn=>(k.block i (Nat.lt_of_lt_of_le hi h.size) hn).trans (h.block i hi hn)⟩
theorem Mv.of {T:Nat} {w w':World} (h:Below w.heap.size w w'):Mv T w w':=⟨h.os,h.tape,h.output,h.size,fun k hk _=>h.block k hk⟩
theorem Mv.set (T j:Nat) (w:World) (v:Value):Mv T w (w.setCell ⟨T,j,none⟩ v):=⟨rfl,rfl,rfl,by simp[World.setCell],fun k _ hn=>Below.heap_setCell _ _ _ _ (fun e=>hn (by rw[e]))⟩
theorem Mv.below {T B:Nat} {w w':World} (h:Mv T w w') (hT:B<=T) (hB:B<=w.heap.size):Below B w w':=⟨h.os,h.tape,h.output,h.size,fun k hk=>h.block k (by omega) (fun e=>by cases e;omega)⟩
theorem own_mv {w w':World} {B e n T t:Nat} {v:Value} {xs:List Value} {c:Array Value} (h:w.ownsRow B e 1 v n xs) (hT:RowAt w T t c) (hne:t≠e) (hg:Mv T w w'):w'.ownsRow B e 1 v n xs:=by
 refine⟨h.1,?_⟩
 rcases h.2 with h1 | ⟨g,cap,cur,e1,hb,hg',hr⟩
 ·exact Or.inl h1
 ·refine Or.inr ⟨g,cap,cur,e1,hb,?_,hr⟩
  rw[hg.block g (Array.getElem?_eq_some_iff.1 hg').1 (fun e2=>?_)]
  ·exact hg'
  ·cases e2
   unfold RowAt at hT
   rw[hT] at hg'
   simp at hg'
   exact hne hg'.2
theorem row_mv {w w':World} {g T t:Nat} {c:Array Value} (h:RowAt w g t c) (hne:g≠T) (hg:Mv T w w'):RowAt w' g t c:=by
 unfold RowAt;rw[hg.block g h.lt (fun e=>hne (by cases e;rfl))];exact h
def Rdr (B T:Nat) (l:List UInt8) (w:World):Prop := ∃ ao c,RowAt w T 203 #[.slice ao l.length c]/\SlB B w ao l/\l.length<=c/\(ao=none->c=0)/\B<=T/\l.length<=8192/\B<=w.heap.size
theorem Rdr.below {B T:Nat} {l:List UInt8} {w w':World} (h:Rdr B T l w) (hb:Below w.heap.size w w'):Rdr B T l w':=by
 obtain⟨ao,c,h1,h2,h3,h4,h5,h6,h7⟩:=h
 have:=h1.lt
 exact⟨ao,c,h1.below hb (by omega),h2.below (hb.mono h7),h3,h4,h5,h6,Nat.le_trans h7 hb.size⟩
theorem Rdr.lt {B T:Nat} {l:List UInt8} {w:World} (h:Rdr B T l w):T<w.heap.size:=by
 obtain⟨ao,c,h1,_⟩:=h
 exact h1.lt
theorem Rdr.own {B T:Nat} {l:List UInt8} {w w':World} {b n:Nat} {v:Value} {xs:List Value} (h:Rdr B T l w) (hg:Mv T w w') (ho:w.ownsRow b 5 1 v n xs):w'.ownsRow b 5 1 v n xs:=by
 obtain⟨ao,c,h1,_⟩:=h
 exact own_mv ho h1 (by decide) hg
theorem Rdr.ownB {B T:Nat} {l:List UInt8} {w w':World} {b:Nat} {v:Value} {x:List UInt8} (h:Rdr B T l w) (hg:Mv T w w') (ho:OwnB w b v x):OwnB w' b v x:=h.own hg ho
theorem Rdr.ownS {B T:Nat} {l:List UInt8} {w w':World} {b:Nat} {v:Value} {x:List (List UInt8)} (h:Rdr B T l w) (hg:Mv T w w') (ho:OwnS w b v x):OwnS w' b v x:=by
 obtain⟨ao,c,h1,_⟩:=h
 have ho':w.ownsRow b 9 1 v x.length (vs x):=ho
 exact own_mv ho' h1 (by decide) hg
theorem OwnB.lower {w:World} {base base':Nat} {v:Value} {n:List UInt8} (h:OwnB w base v n) (hb:base'<=base):OwnB w base' v n:=by
 have h0:w.ownsRow base 5 1 v n.length (vb n):=h
 refine⟨h0.1,?_⟩
 rcases h0.2 with h1 | ⟨g,cap,cur,e,h1,h2,h3⟩
 ·exact Or.inl h1
 ·exact Or.inr ⟨g,cap,cur,e,Nat.le_trans hb h1,h2,h3⟩
theorem equalIn_nil (w:World) (d:Nat) (t e:TypeId) (a:Option Addr) (l c:Nat) (h:Tryz.prog.underlying t=some (.slice e)):(Op.equalIn (d+1) t (.slice a l c) (.slice none 0 0)).run Tryz.prog w = .ok a.isNone w:=by
 cases a <;> simp[Op.equalIn,run_underlying h]
theorem eql_nil (w:World) (t e:TypeId) (a:Option Addr) (l c:Nat) (h:Tryz.prog.underlying t=some (.slice e)):(binOp .eql t (.slice a l c) (.slice none 0 0)).run Tryz.prog w = .ok (.bool a.isNone) w:=by
 have h2:(Op.equal t (.slice a l c) (.slice none 0 0)).run Tryz.prog w = .ok a.isNone w:=equalIn_nil w 9999 t e a l c h
 simp[binOp,h2]
def Got {α : Type} (B T:Nat) (o:Option (α × List UInt8)) (R : α -> Value->World->Prop) (w:World) (e:Ending) (w':World):Prop :=
 ((∃ x r v,o=some (x,r)/\e = .returned v/\R x v w'/\Rdr B T r w')\/(o=none/\e=fell50))/\Mv T w w'
theorem clone_any (l:List UInt8) (ao:Option Addr) (len cap:Nat) (w:World) (hl:Hid (l.length=len)) (hs:SlL w ao l) (hnil:ao=none->cap=0) (hn:len<=1000000000) :
 Calls Tryz.prog 100 #[.slice ao len cap] w fun e w' => ∃ v,e = .returned v/\OwnB w' w.heap.size v l/\Below w.heap.size w w':=by
 have heq : ∀ W,(binOp .eql 37 (.slice ao len cap) (.slice none 0 0)).run Tryz.prog W = .ok (.bool ao.isNone) W:=fun W=>eql_nil W 37 5 ao len cap Tryz.underlying37
 cases ao with
 | none =>
  have h0:l = []:=by
   rcases Nat.eq_zero_or_pos l.length with h | h
   ·exact List.eq_nil_of_length_eq_zero h
   ·obtain⟨b,o,e,_⟩:=hs h;cases e
  subst h0
  clear hs
  obtain rfl:=hnil rfl
  obtain rfl:len=0:=hl.out.symm
  clear hnil
  replace heq : ∀ W,(binOp .eql 37 (.slice none 0 0) (.slice none 0 0)).run Tryz.prog W = .ok (.bool true) W:=heq
  go_enter Tryz.func100,Tryz.ntmps100
  go_wp2
  go_ret
  exact⟨_,rfl,OwnB.nil _ _,Below.refl _ _⟩
 | some a =>
  have HS:=hide hs
  clear hs
  clear hnil
  replace heq : ∀ W,(binOp .eql 37 (.slice (some a) len cap) (.slice none 0 0)).run Tryz.prog W = .ok (.bool false) W:=heq
  go_enter Tryz.func100,Tryz.ntmps100
  have hO:OwnB (w.alloc (.cells #[] 5)) w.heap.size (.slice (some ⟨w.heap.size,0,none⟩) 0 0) []:=⟨rfl,Or.inr ⟨w.heap.size,0,#[],rfl,Nat.le_refl _,heap_alloc_last w _,Nat.le_refl _,by unfold maxLen;omega,rfl,rfl⟩⟩
  have hb:=(Below.refl w.heap.size w).alloc (Nat.le_refl _) (.cells #[] 5)
  go_wp2_with (at_builtin;refine wpList_append_B rfl (.tmp 5) (.tmp 6) rfl w.heap.size _ [] rfl (by exact hO) _ _ _ l rfl hl.out (by exact HS.out.alloc _) (by intro h;cases h) (by simp;omega) (by simp) ?_;intro v4 w4 hO4 hG4;have hB4:=grown_below hO hG4 hb (by simp);clear hG4 hO hb)
  go_ret
  exact⟨_,rfl,hO4,hB4⟩
theorem slice_hd {B:Nat} {w:World} {ao:Option Addr} {l:List UInt8} {cap:Nat} (k:Nat) (hs:SlB B w ao l) (hk:k<=l.length) (hc:l.length<=cap) (hnil:ao=none->cap=0) :
 ∃ ao',(∀ W,(Instr.slice 37 (.slice ao l.length cap) none (some (.int .i64 (k:Int))) none).run Tryz.prog W = .ok (.slice ao' k cap) W)/\SlB B w ao' (l.take k)/\(ao'=none->cap=0):=by
 refine⟨if cap=0 then ao else ao.map (·.add (0*1)),fun W=>?_,?_,?_⟩
 ·rw[run_slice_h W 37 ao l.length cap Tryz.underlying37 .i64 (k:Int) (by omega) (by omega)]
  have hz:(sizeOf (Tryz.prog.elem 37)).run Tryz.prog W = .ok 1 W:=Tryz.sizeOf5 W
  rw[hz]
  simp only[Result.andThen,sliced,Int.toNat_natCast,Nat.sub_zero]
 ·have:=hs.part (k:=0) (cap:=cap) k (by omega) hc
  rwa [List.drop_zero] at this
 ·intro h
  split at h
  ·assumption
  ·rw[Option.map_eq_none_iff] at h;exact hnil h
theorem slice_tl {B:Nat} {w:World} {ao:Option Addr} {l:List UInt8} {cap:Nat} (k:Nat) (hs:SlB B w ao l) (hk:k<=l.length) (hc:l.length<=cap) (hnil:ao=none->cap=0) :
 ∃ ao',(∀ W,(Instr.slice 37 (.slice ao l.length cap) (some (.int .i64 (k:Int))) none none).run Tryz.prog W = .ok (.slice ao' (l.length - k) (cap - k)) W)/\SlB B w ao' (l.drop k)/\(ao'=none->cap - k=0):=by
 refine⟨if cap=k then ao else ao.map (·.add (k*1)),fun W=>?_,?_,?_⟩
 ·rw[run_slice_l W 37 ao l.length cap Tryz.underlying37 .i64 (k:Int) (by omega) (by omega)]
  have hz:(sizeOf (Tryz.prog.elem 37)).run Tryz.prog W = .ok 1 W:=Tryz.sizeOf5 W
  rw[hz]
  simp only[Result.andThen,sliced,Int.toNat_natCast]
 ·have:=hs.part (k:=k) (cap:=cap) (l.length - k) (by omega) hc
  rwa [List.take_of_length_le (by rw[List.length_drop];omega)] at this
 ·intro h
  split at h
  ·omega
  ·rw[Option.map_eq_none_iff] at h;have:=hnil h;omega
theorem rbytes_any (B T k:Nat) (l:List UInt8) (w:World) (hR:Rdr B T l w) (hk:k<=1000000) :
 Calls Tryz.prog 144 #[.pointer (some ⟨T,0,none⟩),.int .i64 (k:Int)] w fun e w'=>Got B T (D.by_ k l) (fun x v w'=>OwnB w' w.heap.size v x) w e w':=by
 obtain⟨ao,c,hT,hs,hc,hnil,hBT,hl,hB⟩:=hR
 have c0:w.cell? ⟨T,0,none⟩=some (.slice ao l.length c):=by rw[hT.cell 0];rfl
 rcases Nat.lt_or_ge l.length k with hlt | hge
 ·have hR:D.by_ k l=none:=by unfold D.by_;rw[if_pos hlt]
  have HR:=hide hR
  clear hT hs hR
  go_enter Tryz.func144,Tryz.ntmps144
  go_wp2
  exact⟨rfl,Or.inr ⟨HR.out,rfl⟩,Mv.refl _ _⟩
 ·have hR:D.by_ k l=some (l.take k,l.drop k):=by unfold D.by_;rw[if_neg (by omega)]
  obtain⟨a1,r1,s1,n1⟩:=slice_hd k hs hge hc hnil
  obtain⟨a2,r2,s2,n2⟩:=slice_tl k hs hge hc hnil
  have HR:=hide hR
  have HT:=hide hT
  have H1:=hide s1
  have H2:=hide s2
  clear hT hs hR s1 s2
  go_enter Tryz.func144,Tryz.ntmps144
  go_wp2_with (go_at_call 100;refine (clone_any (l.take k) a1 k c _ (by show _=_;rw[List.length_take];omega) (by exact H1.out.sl hB) n1 (by omega)).mono ?_;rintro e w1 ⟨v,rfl,hO,hb1⟩;have hT1:=HT.out.below hb1 HT.out.lt;have c1:w1.cell? ⟨T,0,none⟩=some (.slice ao l.length c):=hT1.cell 0;have f1:=hT1.frozen 0)
  go_ret
  refine⟨Or.inl ⟨_,_,v,HR.out,rfl,?_,?_⟩,(Mv.of hb1).trans (Mv.set T 0 _ _)⟩
  ·exact own_set hO hT1 (by decide) _ _
  ·refine⟨a2,c - k,?_,?_,by rw[List.length_drop];omega,n2,hBT,by rw[List.length_drop];omega,by simp[World.setCell];have:=hb1.size;omega⟩
   ·rw[List.length_drop];exact hT1.set 0 _
   ·exact (H2.out.below (hb1.mono hB)).below ((Below.refl B w1).setCell hBT _)
open Go.RowKit
theorem rdone_any (B T:Nat) (l:List UInt8) (w:World) (hR:Rdr B T l w) :
 Calls Tryz.prog 143 #[.pointer (some ⟨T,0,none⟩)] w fun e w'=>e = .returned (.bool (decide (l = [])))/\w'=w:=by
 obtain⟨ao,c,hT,hs,hc,hnil,hBT,hl,hB⟩:=hR
 have c0:w.cell? ⟨T,0,none⟩=some (.slice ao l.length c):=by rw[hT.cell 0];rfl
 have he:((l.length:Int) == 0)=decide (l = []):=by cases l <;> simp;omega
 generalize decide (l = [])=q at he
 clear hT hs
 go_enter Tryz.func143,Tryz.ntmps143
 go_wp2
 go_ret
 exact⟨rfl,rfl⟩
theorem rothers_any (B T:Nat) (l:List UInt8) (w:World) (hR:Rdr B T l w) :
 Calls Tryz.prog 149 #[.pointer (some ⟨T,0,none⟩)] w fun e w' => ∃ v,e = .returned v/\OwnB w' w.heap.size v l/\Rdr B T [] w'/\Mv T w w':=by
 have HR:=hide hR
 obtain⟨ao,c,hT,hs,hc,hnil,hBT,hl,hB⟩:=hR
 have c0:w.cell? ⟨T,0,none⟩=some (.slice ao l.length c):=by rw[hT.cell 0];rfl
 have hby:D.by_ l.length l=some (l, []):=by unfold D.by_;rw[if_neg (by omega),List.take_length,List.drop_length]
 have HY:=hide hby
 clear hT hs hby
 go_enter Tryz.func149,Tryz.ntmps149
 go_wp2_with fail
 refine (rbytes_any B T l.length l _ (by exact HR.out) (by omega)).mono ?_
 rw[HY.out]
 rintro e w1 ⟨⟨x,r,v,ho,rfl,hx,hr⟩ | ⟨ho,rfl⟩,hm⟩
 ·cases ho
  go_wp2
  go_ret
  exact⟨v,rfl,hx,hr,hm⟩
 ·cases ho
theorem rn8_any (B T:Nat) (l:List UInt8) (w:World) (hR:Rdr B T l w) :
 Calls Tryz.prog 183 #[.pointer (some ⟨T,0,none⟩)] w fun e w'=>Got B T (D.n8 l) (fun x v _=>v = .int .u8 (x:Int)) w e w':=by
 go_enter Tryz.func183,Tryz.ntmps183
 go_wp2_with fail
 refine (rbytes_any B T 1 l _ hR (by omega)).mono ?_
 rintro e w1 ⟨⟨x,r,v,ho,rfl,hx,hr⟩ | ⟨ho,rfl⟩,hm⟩
 ·obtain⟨e1,e2⟩:=D.by_back ho
  match x,e2,hx with
  | [y],_,hx =>
   obtain⟨g,cap,rfl,_,_,_,_,hc⟩:=hx.form (by simp)
   have c0:w1.cell? ⟨g,0,none⟩=some (.int .u8 (y.toNat:Int)):=hc 0 (by simp)
   clear hc
   go_wp2
   go_ret
   exact⟨Or.inl ⟨y.toNat,r,_,by rw[e1];rfl,rfl,rfl,hr⟩,hm⟩
 ·unfold fell50
  go_wp2
  refine⟨rfl,Or.inr ⟨?_,rfl⟩,hm⟩
  cases l with
  | nil=>rfl
  | cons a l=>unfold D.by_ at ho;rw[if_neg (by simp)] at ho;cases ho
theorem or_16 (x y:Nat) (hx:x<256) (hy:y<256):bits .or .u16 ((x:Int)*256) (y:Int)=((x*256+y:Nat):Int):=by
 have:=u16_or_nat (x*256) y (by omega) (by omega)
 rw[nat_join 8 (x*256) y (by omega) (by omega),Int.natCast_mul] at this
 exact this
theorem or_32 (x y:Nat) (hx:x<65536) (hy:y<65536):bits .or .u32 ((x:Int)*65536) (y:Int)=((x*65536+y:Nat):Int):=by
 have:=u32_or_nat (x*65536) y (by omega) (by omega)
 rw[nat_join 16 (x*65536) y (by omega) (by omega),Int.natCast_mul] at this
 exact this
theorem rn16_any (B T:Nat) (l:List UInt8) (w:World) (hR:Rdr B T l w) :
 Calls Tryz.prog 182 #[.pointer (some ⟨T,0,none⟩)] w fun e w'=>Got B T (D.n16 l) (fun x v _=>v = .int .u16 (x:Int)) w e w':=by
 go_enter Tryz.func182,Tryz.ntmps182
 go_wp2_with fail
 refine (rbytes_any B T 2 l _ hR (by omega)).mono ?_
 rintro e w1 ⟨⟨x,r,v,ho,rfl,hx,hr⟩ | ⟨ho,rfl⟩,hm⟩
 ·obtain⟨e1,e2⟩:=D.by_back ho
  match x,e2,hx with
  | [y,z],_,hx =>
   obtain⟨g,cap,rfl,_,_,_,_,hc⟩:=hx.form (by simp)
   have c0:w1.cell? ⟨g,0,none⟩=some (.int .u8 (y.toNat:Int)):=hc 0 (by simp)
   have c1:w1.cell? ⟨g,1,none⟩=some (.int .u8 (z.toNat:Int)):=hc 1 (by simp)
   have hy:=y.toNat_lt
   have hz:=z.toNat_lt
   have ho2:=or_16 y.toNat z.toNat hy hz
   clear hc
   go_wp2
   go_quiet (fail)
   go_wp2
   go_ret
   refine⟨Or.inl ⟨y.toNat*256+z.toNat,r,_,by rw[e1];rfl,rfl,?_,hr.below (drew_below _ ⟨_,rfl⟩)⟩,hm.trans (Mv.of (drew_below _ ⟨_,rfl⟩))⟩
   show Value.int .u16 ((y.toNat:Int)*256+(z.toNat:Int)) = .int .u16 ((y.toNat*256+z.toNat:Nat):Int)
   rw[Int.natCast_add,Int.natCast_mul];rfl
 ·unfold fell50
  go_wp2
  refine⟨rfl,Or.inr ⟨?_,rfl⟩,hm⟩
  match l with
  | []=>rfl
  | [a]=>rfl
  | a::b::l=>unfold D.by_ at ho;rw[if_neg (by simp)] at ho;cases ho
theorem rn32_any (B T:Nat) (l:List UInt8) (w:World) (hR:Rdr B T l w) :
 Calls Tryz.prog 180 #[.pointer (some ⟨T,0,none⟩)] w fun e w'=>Got B T (D.n32 l) (fun x v _=>v = .int .u32 (x:Int)) w e w':=by
 go_enter Tryz.func180,Tryz.ntmps180
 go_wp2_with fail
 refine (rn16_any B T l _ hR).mono ?_
 rintro e w1 ⟨⟨x,r,v,ho,rfl,rfl,hr⟩ | ⟨ho,rfl⟩,hm⟩
 ·obtain⟨_,hx⟩:=D.n16_back ho
  go_wp2_with fail
  refine (rn16_any B T r _ hr).mono ?_
  rintro e w2 ⟨⟨y,q,v,ho2,rfl,rfl,hq⟩ | ⟨ho2,rfl⟩,hm2⟩
  ·obtain⟨_,hy⟩:=D.n16_back ho2
   have hor:=or_32 x y hx hy
   go_wp2
   go_ret
   refine⟨Or.inl ⟨x*65536+y,q,_,by unfold D.n32;rw[ho];simp[ho2],rfl,?_,hq⟩,hm.trans hm2⟩
   show Value.int .u32 ((x:Int)*65536+(y:Int)) = .int .u32 ((x*65536+y:Nat):Int)
   rw[Int.natCast_add,Int.natCast_mul];rfl
  ·unfold fell50
   go_wp2
   exact⟨rfl,Or.inr ⟨by unfold D.n32;rw[ho];simp[ho2],rfl⟩,hm.trans hm2⟩
 ·unfold fell50
  go_wp2
  exact⟨rfl,Or.inr ⟨by unfold D.n32;rw[ho];rfl,rfl⟩,hm⟩
theorem rcounted_any (B T:Nat) (l:List UInt8) (w:World) (hR:Rdr B T l w) :
 Calls Tryz.prog 157 #[.pointer (some ⟨T,0,none⟩)] w fun e w'=>Got B T (D.cnt l) (fun x v w'=>OwnB w' w.heap.size v x) w e w':=by
 go_enter Tryz.func157,Tryz.ntmps157
 go_wp2_with fail
 refine (rn8_any B T l _ hR).mono ?_
 rintro e w1 ⟨⟨x,r,v,ho,rfl,rfl,hr⟩ | ⟨ho,rfl⟩,hm⟩
 ·obtain⟨_,hx⟩:=D.n8_back ho
  go_wp2_with fail
  refine (rbytes_any B T x r _ hr (by omega)).mono ?_
  rintro e w2 ⟨⟨y,q,v,ho2,rfl,hO,hq⟩ | ⟨ho2,rfl⟩,hm2⟩
  ·go_wp2
   go_ret
   exact⟨Or.inl ⟨y,q,_,by unfold D.cnt;rw[ho];exact ho2,rfl,hO.lower hm.size,hq⟩,hm.trans hm2⟩
  ·unfold fell50
   go_wp2
   exact⟨rfl,Or.inr ⟨by unfold D.cnt;rw[ho];exact ho2,rfl⟩,hm.trans hm2⟩
 ·unfold fell50
  go_wp2
  exact⟨rfl,Or.inr ⟨by unfold D.cnt;rw[ho];rfl,rfl⟩,hm⟩
theorem rname_any (B T:Nat) (l:List UInt8) (w:World) (hR:Rdr B T l w) :
 Calls Tryz.prog 177 #[.pointer (some ⟨T,0,none⟩)] w fun e w'=>Got B T (D.nm l) (fun x v w'=>OwnS w' w.heap.size v x) w e w':=by
 obtain⟨ao,c,hT,hs,hc,hnil,hBT,hl,hB⟩:=hR
 have c0:w.cell? ⟨T,0,none⟩=some (.slice ao l.length c):=by rw[hT.cell 0];rfl
 have HT:=hide hT
 have HS:=hide hs
 clear hT hs
 go_enter Tryz.func177,Tryz.ntmps177
 go_wp2_with fail
 refine (open_any l ao l.length c _ rfl (by exact HS.out.sl hB) (by omega) hc).mono ?_
 rintro e w1 ⟨⟨n,v,hn,hz,rfl,hO⟩ | ⟨hn,rfl⟩ | ⟨n,hn,hz,rfl⟩,hb1⟩
 ·obtain⟨_,_,hsz⟩:=N.opn_small l n hn
  have hR:D.nm l=some (n,l.drop (N.size n)):=by unfold D.nm;rw[hn,Option.bind_some,if_pos hz]
  obtain⟨a2,r2,s2,n2⟩:=slice_tl (N.size n) HS.out hsz hc hnil
  have hT1:=HT.out.below hb1 HT.out.lt
  have c1:w1.cell? ⟨T,0,none⟩=some (.slice ao l.length c):=hT1.cell 0
  have f1:=hT1.frozen 0
  have HR:=hide hR
  have H2:=hide s2
  have HO:=hide hO
  have HT1:=hide hT1
  have HB1:=hide hb1
  clear hR s2 hO hT1 hn hb1
  go_wp2
  go_ret
  refine⟨Or.inl ⟨_,_,v,HR.out,rfl,?_,?_⟩,(Mv.of HB1.out).trans (Mv.set T 0 _ _)⟩
  ·exact own_set HO.out HT1.out (by decide) _ _
  ·refine⟨a2,c - N.size n,?_,?_,by rw[List.length_drop];omega,n2,hBT,by rw[List.length_drop];omega,by simp[World.setCell];have:=HB1.out.size;omega⟩
   ·rw[List.length_drop];exact HT1.out.set 0 _
   ·exact (H2.out.below (HB1.out.mono hB)).below ((Below.refl B w1).setCell hBT _)
 ·have hR:D.nm l=none:=by unfold D.nm;rw[hn];rfl
  have HR:=hide hR
  clear hR hn
  go_wp2
  exact⟨rfl,Or.inr ⟨HR.out,rfl⟩,Mv.of hb1⟩
 ·have hR:D.nm l=none:=by unfold D.nm;rw[hn,Option.bind_some,if_neg (by omega)]
  have HR:=hide hR
  clear hR hn
  go_wp2
  exact⟨rfl,Or.inr ⟨HR.out,rfl⟩,Mv.of hb1⟩
open Go.RowKit
theorem step_call {ops:Array Oper} {o:Oper} {a:Act} {w:World} {K:Act->World->Prop} {Q:Exit->Act->World->Prop} {E:Prop} (hgd:o.guard=none) (f:FuncId) (vals:Array Value)
 (hx:(execOp a.eval o).run Tryz.prog w = .ok (.enter f vals) w) {R:Ending->World->Prop} (hc:Calls Tryz.prog f vals w R) (hr : ∀ e w',R e w' -> ∃ v,e = .returned v)
 (h : ∀ v w',R (.returned v) w'->K (a.put o.dst v) w'):if Region.wanted o (yielded ops a.tmps)=true then Oper.wp Tryz.prog o a w K Q else E:=by
 have hw:Region.wanted o (yielded ops a.tmps)=true:=by simp[Region.wanted,hgd]
 rw[if_pos hw]
 unfold Oper.wp
 rw[hx,Oper.upon_enter]
 refine hc.mono fun e w' he=>?_
 obtain⟨v,rfl⟩:=hr e w' he
 exact h v w' he
def Kp (base:Nat) (w w':World):Prop:=Below base w w' /\ ∀ g t c,RowAt w g t c->t≠5->RowAt w' g t c
theorem Kp.refl (base:Nat) (w:World):Kp base w w:=⟨Below.refl _ _,fun _ _ _ h _=>h⟩
theorem Kp.trans {base:Nat} {a b c:World} (h:Kp base a b) (k:Kp base b c):Kp base a c:=⟨h.1.trans k.1,fun g t x hx ht=>k.2 g t x (h.2 g t x hx ht) ht⟩
theorem Kp.of {base:Nat} {w w':World} (h:Below w.heap.size w w') (hb:base<=w.heap.size):Kp base w w':=⟨h.mono hb,fun _ _ _ hx _=>hx.below h hx.lt⟩
theorem Kp.grown {base:Nat} {w w':World} {v:Value} {l:List UInt8} (hO:OwnB w base v l) (hg:w.grownBy w' v.ownBlock) (hb:base<=w.heap.size):Kp base w w':=⟨grown_below hO hg (Below.refl _ _) hb,fun _ _ _ hx ht=>row_grown hO hx ht hg⟩
theorem Kp.size {base:Nat} {w w':World} (h:Kp base w w') (hb:base<=w.heap.size):base<=w'.heap.size:=Nat.le_trans hb h.1.size
theorem Kp.app {base:Nat} {w w':World} {v:Value} {l:List UInt8} {o:Obj} (hO:OwnB w base v l) (hg:(w.alloc o).grownBy w' v.ownBlock) (hb:base<=w.heap.size):Kp base w w' :=
 (Kp.of ((Below.refl w.heap.size w).alloc (Nat.le_refl _) o) hb).trans (Kp.grown (hO.alloc o) hg (by simp;omega))
theorem append16_any (n:Nat) (hn:n<65536) (base:Nat) (v:Value) (l:List UInt8) (w:World) (hO:OwnB w base v l) (hb:base<=w.heap.size) (hl:l.length<=1000000) :
 Calls Tryz.prog 184 #[v,.int .u16 (n:Int)] w fun e w' => ∃ v',e = .returned v'/\OwnB w' base v' (l++D.p16 n)/\Kp base w w':=by
 have HO:=hide hO
 clear hO
 go_enter Tryz.func184,Tryz.ntmps184
 have h1:Hid ((n:Int) / 256=((UInt8.ofNat (n / 256)).toNat:Int)):=by show _=_;rw[UInt8.toNat_ofNat'];omega
 have h2:Hid ((n:Int) % 256=((UInt8.ofNat n).toNat:Int)):=by show _=_;rw[UInt8.toNat_ofNat'];omega
 go_wp2_with (at_builtin;refine wpList_append_B rfl (.tmp 5) (.tmp 11) rfl base _ l rfl (by exact HO.out.alloc _) _ _ _ (D.p16 n) rfl rfl (by refine SlL.litm w (D.p16 n) _ 5 (0,0) ?_;show _ = #[Value.int .u8 ((UInt8.ofNat (n / 256)).toNat:Int),Value.int .u8 ((UInt8.ofNat n).toNat:Int)];rw[<- h1.out, <- h2.out]) (by intro h;cases h) (by simp;omega) (by simp;omega) ?_;intro v4 w4 hO4 hG4)
 go_ret
 exact⟨_,rfl,hO4,Kp.app HO.out hG4 hb⟩
theorem append16_nil (n:Nat) (hn:n<65536) (w:World) :
 Calls Tryz.prog 184 #[.slice none 0 0,.int .u16 (n:Int)] w fun e w' => ∃ v',e = .returned v'/\OwnB w' w.heap.size v' (D.p16 n)/\Below w.heap.size w w' :=
 (append16_any n hn w.heap.size (.slice none 0 0) [] w (OwnB.nil _ _) (Nat.le_refl _) (by simp)).mono fun _ _ ⟨v',h1,h2,h3⟩=>⟨v',h1,h2,h3.1⟩
theorem append32_any (n:Nat) (hn:n<4294967296) (base:Nat) (v:Value) (l:List UInt8) (w:World) (hO:OwnB w base v l) (hb:base<=w.heap.size) (hl:l.length<=900000) :
 Calls Tryz.prog 205 #[v,.int .u32 (n:Int)] w fun e w' => ∃ v',e = .returned v'/\OwnB w' base v' (l++D.p32 n)/\Kp base w w':=by
 have HO:=hide hO
 clear hO
 have h1:(n:Int) / 65536=((n / 65536:Nat):Int):=by omega
 have h2:IntKind.u16.wrap (n:Int)=((n % 65536:Nat):Int):=by rw[IntKind.wrap_u16];omega
 have b1:n / 65536<65536:=by omega
 have b2:n % 65536<65536:=by omega
 have e0:l++D.p32 n=l++D.p16 (n / 65536)++D.p16 (n % 65536):=by rw[D.p32,List.append_assoc]
 rw[e0]
 clear e0
 generalize n / 65536=x at h1 b1
 generalize n % 65536=y at h2 b2
 go_enter Tryz.func205,Tryz.ntmps205
 go_wp2_with fail
 refine (append16_any x b1 base v l _ (by exact HO.out) (by exact hb) (by omega)).mono ?_
 rintro e w1 ⟨v1,rfl,hO1,hK1⟩
 go_wp2_with fail
 refine (append16_any y b2 base v1 (l++D.p16 x) _ (by exact hO1) (by exact hK1.size hb) (by simp[D.p16];omega)).mono ?_
 rintro e w2 ⟨v2,rfl,hO2,hK2⟩
 go_wp2
 go_ret
 exact⟨_,rfl,hO2,hK1.trans hK2⟩
theorem SlL.grown {w w':World} {ao:Option Addr} {x:List UInt8} {row:Option Nat} (h:SlL w ao x) (hg:w.grownBy w' row) (hne:0<x.length -> ∀ b o,ao=some ⟨b,o,none⟩->some b≠row):SlL w' ao x:=fun hn=>by
 obtain⟨b,o,e,hlt,hc⟩:=h hn
 exact⟨b,o,e,Nat.lt_of_lt_of_le hlt hg.size,fun j hj=>(World.cell?_of_block (w:=w) (a:=⟨b,o+j,none⟩) (hg.block b hlt (hne hn b o e))).trans (hc j hj)⟩
theorem appendCounted_any (x:List UInt8) (ao:Option Addr) (len cap:Nat) (base:Nat) (v:Value) (l:List UInt8) (w:World) (hO:OwnB w base v l) (hb:base<=w.heap.size) (hl:l.length<=900000) (hx:Hid (x.length=len)) (hs:SlL w ao x) (hnil:ao=none->cap=0) (hlen:len<=100000) (hne:0<x.length -> ∀ b o,ao=some ⟨b,o,none⟩->some b≠v.ownBlock) :
 Calls Tryz.prog 156 #[v,.slice ao len cap] w fun e w' => ∃ v',e = .returned v'/\OwnB w' base v' (l++D.pc x)/\Kp base w w':=by
 have HO:=hide hO
 have HS:=hide hs
 have HN:=hide hne
 have HNI:=hide hnil
 clear hO hs hne hnil
 have h1:Hid ((len:Int) % 256=((UInt8.ofNat x.length).toNat:Int)):=by show _=_;rw[UInt8.toNat_ofNat',hx.out];omega
 go_enter Tryz.func156,Tryz.ntmps156
 go_wp2_with (first
  | (at_builtin;refine wpList_append_B rfl (.tmp 5) (.tmp 9) rfl base _ l rfl (by exact HO.out.alloc _) _ _ _ [UInt8.ofNat x.length] rfl rfl (by exact SlL.oneI _ _ _ _ h1.out) (by intro h;cases h) (by simp;omega) (by simp;omega) ?_;intro v4 w4 hO4 hG4;have hS4:=(HS.out.alloc _).grown hG4 HN.out;have hK4:=Kp.app HO.out hG4 hb;clear hG4)
  | (at_builtin;refine wpList_append_B rfl (.tmp 10) (.tmp 11) rfl base _ _ rfl hO4 _ _ _ x rfl hx.out hS4 HNI.out (by simp;omega) (hK4.size hb) ?_;intro v5 w5 hO5 hG5;have hK5:=Kp.grown hO4 hG5 (hK4.size hb);clear hG5))
 go_ret
 refine⟨_,rfl,?_,hK4.trans hK5⟩
 rw[List.append_assoc] at hO5
 exact hO5
theorem OwnB.blk {w:World} {base:Nat} {v:Value} {l:List UInt8} (h:OwnB w base v l) {g:Nat} (hg:some g=v.ownBlock):base<=g/\g<w.heap.size:=by
 have h0:w.ownsRow base 5 1 v l.length (vb l):=h
 rcases h0.2 with⟨rfl,_⟩ | ⟨g',cap,cur,rfl,hb,hg',_⟩
 ·simp[Value.ownBlock] at hg
 ·simp[Value.ownBlock] at hg;subst hg;exact⟨hb,(Array.getElem?_eq_some_iff.1 hg').1⟩
theorem SlL.apart {w0 w:World} {ao:Option Addr} {x:List UInt8} {base:Nat} {v:Value} {l:List UInt8} (hs:SlL w0 ao x) (hO:OwnB w base v l) (hb:w0.heap.size<=base):0<x.length -> ∀ b o,ao=some ⟨b,o,none⟩->some b≠v.ownBlock:=by
 intro hn b o e e2
 obtain⟨b',o',e',hlt,_⟩:=hs hn
 rw[e'] at e
 cases e
 have:=(hO.blk e2).1
 omega
theorem OwnB.two (w:World) (x y:UInt8) (base:Nat) (hb:base<=w.heap.size):OwnB (w.alloc (.cells #[.int .u8 x.toNat,.int .u8 y.toNat] 5)) base (.slice (some ⟨w.heap.size,0,none⟩) 2 2) [x,y] :=
 ⟨rfl,Or.inr ⟨w.heap.size,2,_,rfl,hb,heap_alloc_last w _,by simp,by unfold maxLen;omega,rfl,rfl⟩⟩
open Go.RowKit
theorem below_allocs {B:Nat} {w W:World} {o:Obj} (h:Below B w (w.alloc o)) (hB:B<=w.heap.size) (hW:W=(w.alloc o).drew \/ ∃ q,W=((w.alloc o).alloc q).drew):Below B w W:=by
 rcases hW with rfl | ⟨q,rfl⟩
 ·exact h.drew
 ·exact (h.alloc (by simp;omega) q).drew
set_option maxHeartbeats 800000 in
theorem keyBytes_any (k:D.Key) (ao:Option Addr) (len cap:Nat) (w:World) (hk:k.Ok) (hx:Hid (k.key.length=len)) (hs:SlL w ao k.key) (hnil:ao=none->cap=0) (hlen:len<=100000) :
 Calls Tryz.prog 152 #[.agg #[.int .u16 (k.flags:Int),.int .u8 (k.proto:Int),.int .u8 (k.alg:Int),.slice ao len cap]] w fun e w' => ∃ v',e = .returned v'/\OwnB w' w.heap.size v' (D.keyB k)/\Below w.heap.size w w':=by
 have HS:=hide hs
 have HNI:=hide hnil
 clear hs hnil
 obtain⟨k1,k2,k3⟩:=hk
 have q1:(k.proto:Int)=((UInt8.ofNat k.proto).toNat:Int):=by rw[D.nat_u8 _ k2]
 have q2:(k.alg:Int)=((UInt8.ofNat k.alg).toNat:Int):=by rw[D.nat_u8 _ k3]
 have hk1:=k1
 rw[q1,q2]
 clear q1 q2
 have hrow:=RowAt.new w 179 #[.int .u16 (k.flags:Int),.int .u8 ((UInt8.ofNat k.proto).toNat:Int),.int .u8 ((UInt8.ofNat k.alg).toNat:Int),.slice ao len cap]
 have HROW:=hide hrow
 clear hrow
 have HB0:=hide ((Below.refl w.heap.size w).alloc (Nat.le_refl _) (.cells #[.int .u16 (k.flags:Int),.int .u8 ((UInt8.ofNat k.proto).toNat:Int),.int .u8 ((UInt8.ofNat k.alg).toNat:Int),.slice ao len cap] 179))
 show Calls _ _ _ _ fun e w' => ∃ v',e = .returned v'/\OwnB w' w.heap.size v' (D.p16 k.flags ++ [UInt8.ofNat k.proto,UInt8.ofNat k.alg]++k.key)/\Below w.heap.size w w'
 generalize UInt8.ofNat k.proto=x at HROW HB0 ⊢
 generalize UInt8.ofNat k.alg=y at HROW HB0 ⊢
 go_enter Tryz.func152,Tryz.ntmps152
 go_wp2
 go_region_law (first
  | (refine step_call rfl 184 #[.slice none 0 0,.int .u16 (k.flags:Int)] (by go_simp) (append16_nil k.flags k1 _) (by rintro e w' ⟨v,rfl,_⟩;exact⟨v,rfl⟩) ?_;rintro v1 w1 ⟨_,he,hO1,hb1⟩;cases he;have r1:=RowAt.below (by first | exact HROW.out | exact HROW.out.alloc _) hb1 (by simp <;> omega);have p1:w1.cell? ⟨w.heap.size,1,none⟩=some (.int .u8 (x.toNat:Int)):=r1.cell 1;have p2:w1.cell? ⟨w.heap.size,2,none⟩=some (.int .u8 (y.toNat:Int)):=r1.cell 2;have R1:=hide r1;have O1:=hide (OwnB.lower (base':=w.heap.size) hO1 (by simp <;> omega));have z1:w.heap.size<=w1.heap.size:=Nat.le_trans (by simp <;> omega) hb1.size;have B1:=hide ((below_allocs HB0.out (Nat.le_refl _) (by first | exact Or.inl rfl | exact Or.inr ⟨_,rfl⟩)).trans (hb1.mono (by simp <;> omega)));(try (have S1:Hid (SlL w1 (some ⟨w.heap.size+1,0,none⟩) [x,y]):=SlL.below (by have h:=SlL.litm (w.alloc (.cells #[.int .u16 (k.flags:Int),.int .u8 (x.toNat:Int),.int .u8 (y.toNat:Int),.slice ao len cap] 179)) [x,y] _ 5 (0,0) rfl;rw[World.size_alloc] at h;exact h) hb1 (by simp <;> omega)));clear r1 hO1 hb1)
  | (refine step_append_B rfl (.tmp 6) (.tmp 11) rfl w.heap.size v1 (D.p16 k.flags) (by simp[Act.eval]) (by exact O1.out.alloc _) ⟨w1.heap.size,0,none⟩ 2 2 [x,y] (by simp[Act.eval]) rfl (by exact SlL.litm w1 [x,y] _ 5 (0,0) rfl) (by simp[D.p16]) (by simp;omega) ?_;intro v4 w4 hO4 hG4;have K4:=hide (Kp.app O1.out hG4 z1);have O4:=hide hO4;clear hG4 hO4)
  | (refine step_append_B rfl (.tmp 6) (.tmp 11) rfl w.heap.size v1 (D.p16 k.flags) (by simp[Act.eval]) (by exact O1.out) ⟨w.heap.size+1,0,none⟩ 2 2 [x,y] (by simp[Act.eval]) rfl (by exact S1.out) (by simp[D.p16]) (by exact z1) ?_;intro v4 w4 hO4 hG4;have K4:=hide (Kp.grown O1.out hG4 z1);have O4:=hide hO4;clear hG4 hO4))
 all_goals
  have p3:w4.cell? ⟨w.heap.size,3,none⟩=some (.slice ao len cap):=(K4.out.2 _ _ _ R1.out (by decide)).cell 3
  have HS4:=hide (HS.out.below (B1.out.trans K4.out.1) (Nat.le_refl _))
  go_wp2_with (at_builtin;refine wpList_append_B rfl (.tmp 13) (.tmp 15) rfl w.heap.size _ _ rfl (by exact O4.out) _ _ _ k.key rfl hx.out (by exact HS4.out) HNI.out (by simp[D.p16];omega) (by exact K4.out.size z1) ?_;intro v5 w5 hO5 hG5;have hK5:=Kp.grown O4.out hG5 (K4.out.size z1);clear hG5)
  go_ret
  exact⟨_,rfl,hO5,(B1.out.trans K4.out.1).trans hK5.1⟩
end Go.Proofs.YtmbcegljmhcdeaaGreat
namespace Go.Proofs
open Go.Shelf
def Tryz.lays125_ren:Go.Shelf.Ren:=⟨fun | 125=>134 | 128=>172 | 129=>173 | n=>n,fun | 46=>131 | 3=>3 | 51=>35 | 53=>230 | 4=>4 | 5=>5 | 9=>9 | n=>n,fun | n=>n⟩
theorem Tryz.lays125:Go.Proofs.Lays.n125 Tryz.prog Tryz.lays125_ren := {
 mixed:=by kernel_rfl
 f125:=Tryz.func134.trans (congrArg some (by kernel_rfl))
 f128:=Tryz.func172.trans (congrArg some (by kernel_rfl))
 f129:=Tryz.func173.trans (congrArg some (by kernel_rfl))
 t3:=Tryz.underlying3
 a3:=Tryz.isAgg3
 z3:=Tryz.sizeOf3
 v3:=Tryz.zeroValue3
 t4:=Tryz.underlying4
 a4:=Tryz.isAgg4
 z4:=Tryz.sizeOf4
 v4:=Tryz.zeroValue4
 t5:=Tryz.underlying5
 a5:=Tryz.isAgg5
 z5:=Tryz.sizeOf5
 v5:=Tryz.zeroValue5
 t9:=Tryz.underlying9
 a9:=Tryz.isAgg9
 z9:=Tryz.sizeOf9
 v9:=Tryz.zeroValue9
 t46:=Tryz.underlying131
 a46:=Tryz.isAgg131
 z46:=Tryz.sizeOf131
 v46:=Tryz.zeroValue131
 t51:=Tryz.underlying35
 a51:=Tryz.isAgg35
 z51:=Tryz.sizeOf35
 v51:=Tryz.zeroValue35
 t53:=Tryz.underlying230
 a53:=Tryz.isAgg230
 z53:=Tryz.sizeOf230
 v53:=Tryz.zeroValue230 }
theorem Tryz.bits_Len (x:Int) (w:World) (h0:0<=x) (h1:x<=18446744073709551615) :
 Calls Tryz.prog 134 #[.int .u64 x] w fun e w'=>e = .returned (.int .i64 (Lib.bitLen x.toNat))/\w'=w:=Any.bits_Len Tryz.lays125 x w h0 h1
def Tryz.laysSlK4_ren:Go.Shelf.Ren:=⟨fun | 4=>100 | n=>n,fun | 22=>37 | 4=>4 | 5=>5 | n=>n,fun | n=>n⟩
theorem Tryz.laysSlK4:Go.Proofs.SlLaysK.n4 Tryz.prog Tryz.laysSlK4_ren := {
 mixed:=by kernel_rfl
 f4:=Tryz.func100.trans (congrArg some (by kernel_rfl))
 t4:=Tryz.underlying4
 a4:=Tryz.isAgg4
 z4:=Tryz.sizeOf4
 v4:=Tryz.zeroValue4
 t22:=Tryz.underlying37
 a22:=Tryz.isAgg37
 z22:=Tryz.sizeOf37
 v22:=Tryz.zeroValue37
 t5:=Tryz.underlying5
 i5:=by kernel_rfl }
open Go.RowKit Go.Lib in
theorem Tryz.bytes_Clone_at (a:Addr) (n c:Nat) (xs:List Int) (w:World) (hx:xs.length=n) (hbig:n<=140737488355328) (hc : ∀ i,i<n->w.cell? (a.add i)=some (.int .u8 (xs.getD i 0))) :
 Calls Tryz.prog 100 #[.slice (some a) n c] w fun e w' => ∃ v',e = .returned v'/\w'.ownsRow w.heap.size 5 1 v' n (xs.map (Value.int .u8))/\v' ≠ .slice none 0 0/\Below w.heap.size w w':=Any.bytes_Clone_at Tryz.laysSlK4 a n c xs w hx hbig hc
open Go.RowKit Go.Lib in
theorem Tryz.bytes_Clone_nil (n c:Nat) (w:World) :
 Calls Tryz.prog 100 #[.slice none n c] w fun e w'=>e = .returned (.slice none 0 0)/\w'=w:=Any.bytes_Clone_nil Tryz.laysSlK4 n c w
def Tryz.laysSlE43_f218_ren:Go.Shelf.Ren:=⟨fun | 43=>218 | n=>n,fun | 22=>51 | 23=>36 | 3=>3 | 4=>4 | 0=>0 | n=>n,fun | n=>n⟩
theorem Tryz.laysSlE43_f218:Go.Proofs.SlLaysE.n43 Tryz.prog Tryz.laysSlE43_f218_ren := {
 mixed:=by kernel_rfl
 f43:=⟨Tryz.f218.name,by decide,Tryz.func218.trans (congrArg some (by kernel_rfl))⟩
 t0:=Tryz.underlying0
 a0:=Tryz.isAgg0
 z0:=Tryz.sizeOf0
 v0:=Tryz.zeroValue0
 t3:=Tryz.underlying3
 a3:=Tryz.isAgg3
 z3:=Tryz.sizeOf3
 v3:=Tryz.zeroValue3
 t4:=Tryz.underlying4
 a4:=Tryz.isAgg4
 z4:=Tryz.sizeOf4
 v4:=Tryz.zeroValue4
 t22:=Tryz.underlying51
 a22:=Tryz.isAgg51
 z22:=Tryz.sizeOf51
 v22:=Tryz.zeroValue51
 a23:=Tryz.isAgg36
 z23:=Tryz.sizeOf36 }
open Go.RowKit Go.Lib Go.Sort in
theorem Tryz.slices_Compact {α : Type} [Inhabited α] [DecidableEq α] (enc : α -> Value) (hO:OneCell enc) (heq:EqlAt Tryz.prog 36 enc (fun x y=>decide (x=y))) (hne:NeqAt Tryz.prog 36 enc (fun x y=>decide (x=y))) (zr : α) (v23 : ∀ w,(zeroValue 36).run Tryz.prog w = .ok (enc zr) w) (blk off cap:Nat) (d:Array α) (w:World) (hH:Holds enc w blk off d) (hsz:d.size<=9223372036854775807) (hcap:d.size<=cap) :
 Calls Tryz.prog 218 #[.slice (some ⟨blk,off,none⟩) d.size cap] w fun e w'=>e = .returned (.slice (some ⟨blk,off,none⟩) (compactUpTo d d.size).length cap) /\ ∃ q,w'=putRow enc (Sort.ahead w q) blk off (compactUpTo d d.size++List.replicate (d.size - (compactUpTo d d.size).length) zr).toArray:=AnyE.slices_Compact Tryz.laysSlE43_f218 enc hO heq hne zr v23 blk off cap d w hH hsz hcap
end Go.Proofs
