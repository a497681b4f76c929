/- Names, Records: first part (plain; lists of records in memory). -/
import Derived.Test.YtbkegikdmmnkaaaGreatMks
import Derived.BigRegion
import Derived.Deep.RegionWith
import Derived.Laws.AppendOwnNone
import Derived.Test.YtbkegikdmmnkaaaGreatZna
import Derived.Deep.Cut
import Derived.Test.YtbkegikdmmnkaaaGreatZpl2
import Derived.Laws.ResultCell
namespace Go.Proofs.YtbkegikdmmnkaaaGreat
set_option maxRecDepth 5000
open Go.RowKit
namespace N
theorem same_false {a b : List (List UInt8)} (j : Nat) (ha : j < a.length) (hb : j < b.length) (h : lowL (a.getD j []) ≠ lowL (b.getD j [])) : same a b = false := by
 unfold same
 rw [decide_eq_false_iff_not]
 intro e
 have h1 : (lowN a)[j]? = (lowN b)[j]? := by rw [e]
 simp only [lowN, List.getElem?_map, List.getElem?_eq_getElem ha, List.getElem?_eq_getElem hb, Option.map_some, Option.some.injEq] at h1
 apply h
 have e1 : a.getD j [] = a[j] := by simp [ha]
 have e2 : b.getD j [] = b[j] := by simp [hb]
 rw [e1, e2]; exact h1
end N
set_option maxRecDepth 3000 in
set_option maxHeartbeats 1000000 in
theorem rSame_any (a b : List (List UInt8)) (ao bo : Option Addr) (la lb ca cb : Nat) (w : World) (hla : Hid (a.length = la)) (hlb : Hid (b.length = lb)) (hsa : SlS w ao a) (hsb : SlS w bo b) (hma : la <= 9223372036854775807) (ha : Hid (Sane a)) (hb : Hid (Sane b)) :
 Calls Tryz.prog 57 #[.slice ao la ca, .slice bo lb cb] w fun e w' => e = .returned (.bool (N.same a b)) /\ Below w.heap.size w w' := by
 have HSA := hide hsa
 have HSB := hide hsb
 clear hsa hsb
 by_cases h : la = lb
 ·subst h
  go_enter Tryz.func57, Tryz.ntmps57
  go_wp2
  go_loopw [5] (fun i wr => ∃ j : Nat, i = .int .i64 (j : Int) /\ j <= la /\ Hid (N.lowN (a.take j) = N.lowN (b.take j)) /\ Below w.heap.size w wr) (fun i _ => la - (intOf i).toNat)
  case atStart => exact ⟨0, rfl, by omega, rfl, Below.refl _ _⟩
  case round =>
   obtain ⟨j, rfl, hj, HE, hB⟩ := hrel
   have hz := hB.size
   by_cases hlt : j < la
   ·obtain ⟨b1, o1, rfl, hb1, hc1⟩ := HSA.out (by have := hla.out; omega)
    obtain ⟨b2, o2, rfl, hb2, hc2⟩ := HSB.out (by have := hlb.out; omega)
    have hx0 := hc1 j (by have := hla.out; omega)
    have hy0 := hc2 j (by have := hlb.out; omega)
    have hx := (hB.cell (p := ⟨b1, o1 + j, none⟩) hb1).trans hx0
    have hy := (hB.cell (p := ⟨b2, o2 + j, none⟩) hb2).trans hy0
    have hta := N.take_nextN a j (by have := hla.out; omega)
    have htb := N.take_nextN b j (by have := hlb.out; omega)
    have hsf := @N.same_false a b j (by have := hla.out; omega) (by have := hlb.out; omega)
    have hxl := ha.out.at j
    have hyl := hb.out.at j
    clear hc1 hc2
    generalize a.getD j [] = x at hx hx0 hta hsf hxl
    generalize b.getD j [] = y at hy hy0 htb hsf hyl
    have HX0 := hide hx0
    have HY0 := hide hy0
    have HTA := hide hta
    have HTB := hide htb
    have HSF := hide hsf
    have HB := hide hB
    have hj1 : (j : Int) < (la : Int) := by omega
    clear hx0 hy0 hta htb hsf hB
    by_cases hxy : N.lowL x = N.lowL y
    ·have HXY := hide hxy
     have e1 : (N.lowL x == N.lowL y) = true := by rw [hxy]; exact beq_self_eq_true _
     have e2 : (N.lowL x != N.lowL y) = false := by rw [hxy]; exact bne_self_eq_false _
     clear hxy
     go_wp2
     go_region_with (first
      | (go_at_call_of 98 x; refine (rLowText_any ⟨x.toArray⟩ x _ rfl (by exact hxl)).mono ?_; rintro e w3 ⟨rfl, hB3⟩; have HB3 := hide ((below_drew HB.out).trans (hB3.mono hz)); have hz3 := HB3.out.size; have hy3 : w3.cell? ⟨b2, o2 + j, none⟩ = some (.string ⟨y.toArray⟩) := (HB3.out.cell (p := ⟨b2, o2 + j, none⟩) hb2).trans HY0.out; clear hB3)
      | (go_at_call_of 98 y; refine (rLowText_any ⟨y.toArray⟩ y _ rfl (by exact hyl)).mono ?_; rintro e w4 ⟨rfl, hB4⟩; have HB4 := hide (HB3.out.trans (hB4.mono hz3)); clear hB4))
     all_goals
      go_wp2
      go_roundw
      case rel => exact ⟨j + 1, by go_num, by omega, (by show _ = _; rw [HTA.out, HTB.out]; have h1 := HE.out; have h2 := HXY.out; unfold N.lowN at h1 ⊢; rw [List.map_append, List.map_append, h1]; simp [h2]), HB4.out⟩
      case measure => simp [intOf]; omega
    ·have e1 : (N.lowL x == N.lowL y) = false := beq_eq_false_iff_ne.2 hxy
     have e2 : (N.lowL x != N.lowL y) = true := bne_iff_ne.2 hxy
     go_wp2
     go_region_with (first
      | (go_at_call_of 98 x; refine (rLowText_any ⟨x.toArray⟩ x _ rfl (by exact hxl)).mono ?_; rintro e w3 ⟨rfl, hB3⟩; have HB3 := hide ((below_drew HB.out).trans (hB3.mono hz)); have hz3 := HB3.out.size; have hy3 : w3.cell? ⟨b2, o2 + j, none⟩ = some (.string ⟨y.toArray⟩) := (HB3.out.cell (p := ⟨b2, o2 + j, none⟩) hb2).trans HY0.out; clear hB3)
      | (go_at_call_of 98 y; refine (rLowText_any ⟨y.toArray⟩ y _ rfl (by exact hyl)).mono ?_; rintro e w4 ⟨rfl, hB4⟩; have HB4 := hide (HB3.out.trans (hB4.mono hz3)); clear hB4))
     all_goals
      go_wp2
      go_ret
      exact ⟨by rw [HSF.out hxy]; rfl, HB4.out⟩
   ·obtain rfl : j = la := by omega
    have HS : Hid (N.same a b = true) := by
     show _ = _
     unfold N.same
     rw [decide_eq_true_eq]
     have h1 := HE.out
     rw [List.take_of_length_le (by rw [hla.out]; exact Nat.le_refl _), List.take_of_length_le (by rw [hlb.out]; exact Nat.le_refl _)] at h1
     exact h1
    go_wp2
    go_ret
    exact ⟨by rw [HS.out]; rfl, hB⟩
 ·have hz : N.same a b = false := by
   unfold N.same
   rw [decide_eq_false_iff_not]
   intro e
   have := congrArg List.length e
   rw [N.lowN_len, N.lowN_len, hla.out, hlb.out] at this
   exact h this
  have hne : ((la : Int) != (lb : Int)) = true := by simp; omega
  rw [hz]
  go_enter Tryz.func57, Tryz.ntmps57
  go_wp2
  go_ret
  exact ⟨rfl, Below.refl _ _⟩
theorem rWithin_any (a b : List (List UInt8)) (ao bo : Option Addr) (la lb ca cb : Nat) (w : World) (hla : Hid (a.length = la)) (hlb : Hid (b.length = lb)) (hsa : SlS w ao a) (hsb : SlS w bo b) (hma : la <= 9223372036854775807) (hca : la <= ca) (ha : Hid (Sane a)) (hb : Hid (Sane b)) :
 Calls Tryz.prog 63 #[.slice ao la ca, .slice bo lb cb] w fun e w' => e = .returned (.bool (N.within a b)) /\ Below w.heap.size w w' := by
 have HSA := hide hsa
 have HSB := hide hsb
 clear hsa hsb
 by_cases h : lb <= la
 ·have hz : N.within a b = N.same (a.drop (la - lb)) b := by
   unfold N.within; rw [hla.out, hlb.out, decide_eq_true h, Bool.true_and]
  rw [hz]
  obtain ⟨ao', hsl, hs'⟩ := slice_from (k := la - lb) (x := (la : Int) - (lb : Int)) (by omega) HSA.out hla.out (by omega) hca
  have HS' := hide hs'
  clear hs'
  go_enter Tryz.func63, Tryz.ntmps63
  go_wp2_with (go_at_call 57; refine (rSame_any (a.drop (la - lb)) b ao' bo _ lb _ cb _ (by show _ = _; rw [List.length_drop, hla.out]) hlb HS'.out HSB.out (by omega) (ha.out.drop _) hb).mono ?_; rintro e w' ⟨rfl, hm⟩)
  go_ret
  exact ⟨rfl, hm⟩
 ·have hz : N.within a b = false := by
   unfold N.within; rw [hla.out, hlb.out, decide_eq_false h, Bool.false_and]
  rw [hz]
  have hm2 : lb <= la \/ la < lb := by omega
  go_enter Tryz.func63, Tryz.ntmps63
  go_wp2
  go_ret
  exact ⟨rfl, Below.refl _ _⟩
open Go.RowKit
namespace N
theorem less_is : ∀ a b : List UInt8, Op.bytesLess a b = decide (cmpB a b = -1)
 | [], [] => rfl
 | [], _ :: _ => rfl
 | _ :: _, [] => rfl
 | a :: x, b :: y => by
  show (decide (a < b) || (a == b && Op.bytesLess x y)) = decide ((if cmpI a.toNat b.toNat = 0 then cmpB x y else cmpI a.toNat b.toNat) = -1)
  rw [less_is x y]
  have hlt : (a < b) = (a.toNat < b.toNat) := propext UInt8.lt_iff_toNat_lt
  have heq : (a == b) = decide (a.toNat = b.toNat) := by
   by_cases h : a = b
   ·subst h; simp
   ·rw [beq_eq_false_iff_ne.2 h, eq_comm, decide_eq_false_iff_not]
    exact fun e => h (UInt8.toNat_inj.1 e)
  rw [heq]
  simp only [hlt]
  unfold cmpI
  rcases Nat.lt_trichotomy a.toNat b.toNat with h | h | h
  ·simp [h]
  ·simp [h]
  ·have h1 : ¬ (a.toNat < b.toNat) := by omega
   have h2 : ¬ (a.toNat = b.toNat) := by omega
   simp [h, h1, h2]
end N
set_option maxRecDepth 3000 in
set_option maxHeartbeats 4000000 in
theorem rCompare_any (a b : List (List UInt8)) (ao bo : Option Addr) (la lb ca cb : Nat) (w : World) (hla : Hid (a.length = la)) (hlb : Hid (b.length = lb)) (hsa : SlS w ao a) (hsb : SlS w bo b) (hma : la <= 1000000) (hmb : lb <= 1000000) (ha : Hid (Sane a)) (hb : Hid (Sane b)) :
 Calls Tryz.prog 126 #[.slice ao la ca, .slice bo lb cb] w fun e w' => e = .returned (.int .i64 (N.cmpN a b)) /\ Below w.heap.size w w' := by
 have HSA := hide hsa
 have HSB := hide hsb
 clear hsa hsb
 go_enter Tryz.func126, Tryz.ntmps126
 go_wp2
 go_loopw [5] (fun i wr => ∃ j : Nat, i = .int .i64 ((j : Int) + 1) /\ j <= la /\ j <= lb /\ Hid (N.cmpN a b = N.cmpR (a.reverse.drop j) (b.reverse.drop j)) /\ Below w.heap.size w wr) (fun i _ => la + 1 - (intOf i).toNat)
 case atStart => exact ⟨0, rfl, by omega, by omega, rfl, Below.refl _ _⟩
 case round =>
  obtain ⟨j, rfl, hja, hjb, HC, hB⟩ := hrel
  have hz := hB.size
  by_cases hlt : j < la /\ j < lb
  ·obtain ⟨hlta, hltb⟩ := hlt
   obtain ⟨b1, o1, rfl, hb1, hc1⟩ := HSA.out (by have := hla.out; omega)
   obtain ⟨b2, o2, rfl, hb2, hc2⟩ := HSB.out (by have := hlb.out; omega)
   obtain ⟨ia, hia⟩ : ∃ ia, ia = la - 1 - j := ⟨_, rfl⟩
   obtain ⟨ib, hib⟩ : ∃ ib, ib = lb - 1 - j := ⟨_, rfl⟩
   have hn := N.cmpR_next a b j (by have := hla.out; omega) (by have := hlb.out; omega)
   rw [hla.out, hlb.out, <- hia, <- hib] at hn
   have hx0 := hc1 ia (by have := hla.out; omega)
   have hy0 := hc2 ib (by have := hlb.out; omega)
   have hx := (hB.cell (p := ⟨b1, o1 + ia, none⟩) hb1).trans hx0
   have hy := (hB.cell (p := ⟨b2, o2 + ib, none⟩) hb2).trans hy0
   have hxl := ha.out.at ia
   have hyl := hb.out.at ib
   clear hc1 hc2
   generalize a.getD ia [] = x at hx hx0 hn hxl
   generalize b.getD ib [] = y at hy hy0 hn hyl
   have e3 : IntKind.i64.wrap ((la : Int) - ((j : Int) + 1)) = (ia : Int) := by rw [IntKind.wrap_i64]; omega
   have e4 : IntKind.i64.wrap ((lb : Int) - ((j : Int) + 1)) = (ib : Int) := by rw [IntKind.wrap_i64]; omega
   have hj1 : (ia : Int) < (la : Int) := by omega
   have hj2 : (ib : Int) < (lb : Int) := by omega
   have hl := N.less_is (N.lowL x) (N.lowL y)
   have hbd := N.cmpL_bounds x y
   have hzz := @N.cmpL_zero x y
   have hcl : N.cmpB (N.lowL x) (N.lowL y) = N.cmpL x y := rfl
   rw [hcl] at hl
   generalize hcc : N.cmpL x y = c at hn hl hbd hzz
   have HX0 := hide hx0
   have HY0 := hide hy0
   have HN := hide hn
   have HB := hide hB
   have HZZ := hide hzz
   have HJ := hide (And.intro hia hib)
   clear hx0 hy0 hn hB hzz hcl hcc hia hib
   have hc3 : c = -1 \/ c = 0 \/ c = 1 := by omega
   rcases hc3 with rfl | rfl | rfl
   ·have hl1 : Op.bytesLess (N.lowL x) (N.lowL y) = true := by rw [hl]; rfl
    clear hl
    go_wp2
    go_region_with (first
     | (go_at_call_of 98 x; refine (rLowText_any ⟨x.toArray⟩ x _ rfl (by exact hxl)).mono ?_; rintro e w3 ⟨rfl, hB3⟩; have HB3 := hide ((below_drew HB.out).trans (hB3.mono hz)); have hz3 := HB3.out.size; have hy3 : w3.cell? ⟨b2, o2 + ib, none⟩ = some (.string ⟨y.toArray⟩) := (HB3.out.cell (p := ⟨b2, o2 + ib, none⟩) hb2).trans HY0.out; clear hB3)
     | (go_at_call_of 98 y; refine (rLowText_any ⟨y.toArray⟩ y _ rfl (by exact hyl)).mono ?_; rintro e w4 ⟨rfl, hB4⟩; have HB4 := hide (HB3.out.trans (hB4.mono hz3)); clear hB4))
    all_goals
     go_wp2
     go_ret
     exact ⟨by rw [HC.out, HN.out]; rfl, HB4.out⟩
   ·have hl1 : Op.bytesLess (N.lowL x) (N.lowL y) = false := by rw [hl]; rfl
    have he1 : (N.lowL x == N.lowL y) = true := beq_iff_eq.2 (HZZ.out.1 rfl)
    clear hl
    go_wp2
    go_region_with (first
     | (go_at_call_of 98 x; refine (rLowText_any ⟨x.toArray⟩ x _ rfl (by exact hxl)).mono ?_; rintro e w3 ⟨rfl, hB3⟩; have HB3 := hide ((below_drew HB.out).trans (hB3.mono hz)); have hz3 := HB3.out.size; have hy3 : w3.cell? ⟨b2, o2 + ib, none⟩ = some (.string ⟨y.toArray⟩) := (HB3.out.cell (p := ⟨b2, o2 + ib, none⟩) hb2).trans HY0.out; clear hB3)
     | (go_at_call_of 98 y; refine (rLowText_any ⟨y.toArray⟩ y _ rfl (by exact hyl)).mono ?_; rintro e w4 ⟨rfl, hB4⟩; have HB4 := hide (HB3.out.trans (hB4.mono hz3)); clear hB4))
    all_goals
     go_wp2
     go_roundw
     case rel => exact ⟨j + 1, by go_num, by omega, by omega, (by show _ = _; rw [HC.out, HN.out]; simp), HB4.out⟩
     case measure => simp [intOf]; omega
   ·have hl1 : Op.bytesLess (N.lowL x) (N.lowL y) = false := by rw [hl]; rfl
    have he1 : (N.lowL x == N.lowL y) = false := beq_eq_false_iff_ne.2 (fun e => absurd (HZZ.out.2 e) (by decide))
    clear hl
    go_wp2
    go_region_with (first
     | (go_at_call_of 98 x; refine (rLowText_any ⟨x.toArray⟩ x _ rfl (by exact hxl)).mono ?_; rintro e w3 ⟨rfl, hB3⟩; have HB3 := hide ((below_drew HB.out).trans (hB3.mono hz)); have hz3 := HB3.out.size; have hy3 : w3.cell? ⟨b2, o2 + ib, none⟩ = some (.string ⟨y.toArray⟩) := (HB3.out.cell (p := ⟨b2, o2 + ib, none⟩) hb2).trans HY0.out; clear hB3)
     | (go_at_call_of 98 y; refine (rLowText_any ⟨y.toArray⟩ y _ rfl (by exact hyl)).mono ?_; rintro e w4 ⟨rfl, hB4⟩; have HB4 := hide (HB3.out.trans (hB4.mono hz3)); clear hB4))
    all_goals
     go_wp2
     go_ret
     exact ⟨by rw [HC.out, HN.out]; rfl, HB4.out⟩
  ·have hend := N.cmpR_end a b j (by rw [hla.out]; omega) (by rw [hlb.out]; omega) (by rw [hla.out, hlb.out]; omega)
   rw [hla.out, hlb.out] at hend
   have HE := hide hend
   clear hend
   have hstop : j = la \/ j = lb := by omega
   rcases Nat.lt_trichotomy la lb with h | h | h
   ·have hcI : Hid (N.cmpI la lb = -1) := by show _ = _; unfold N.cmpI; rw [if_pos h]
    have h1 : ¬ ((j : Int) + 1 <= (la : Int)) := by omega
    go_wp2
    go_ret
    exact ⟨by rw [HC.out, HE.out, hcI.out]; rfl, hB⟩
   ·subst h
    have hcI : Hid (N.cmpI la la = 0) := N.cmpI_self la
    have h1 : ¬ ((j : Int) + 1 <= (la : Int)) := by omega
    go_wp2
    go_ret
    exact ⟨by rw [HC.out, HE.out, hcI.out]; rfl, hB⟩
   ·have hcI : Hid (N.cmpI la lb = 1) := by show _ = _; unfold N.cmpI; rw [if_neg (by omega), if_pos h]
    have h1 : (j : Int) + 1 <= (la : Int) := by omega
    have h2 : ¬ ((j : Int) + 1 <= (lb : Int)) := by omega
    go_wp2
    go_ret
    exact ⟨by rw [HC.out, HE.out, hcI.out]; rfl, hB⟩
open Go.RowKit
theorem wpList_append_SN {w : World} {ops : Array Oper} {rest : List Oper} {o : Oper} {a : Act} {Q : Exit -> Act -> World -> Prop} (hgd : o.guard = none) (s x : Operand)
 (ho : o.op = .call { callee := .builtin .append, args := #[s, x], argTypes := #[28, 28] }) (base : Nat) (v : Value) (n : List (List UInt8)) (hs : a.eval s = v) (hown : OwnS w base v n)
 (ao : Option Addr) (m c : Nat) (n2 : List (List UInt8)) (hx : a.eval x = .slice ao m c) (hm : n2.length = m) (hsrc : SlS w ao n2) (hnil : ao = none -> c = 0) (hbound : n.length + m <= 1099511627776) (hbase : base <= w.heap.size)
 (h : ∀ v' w', OwnS w' base v' (n ++ n2) -> w.grownBy w' v.ownBlock -> wpList Tryz.prog ops Q rest (a.put o.dst v') w') : wpList Tryz.prog ops Q (o :: rest) a w := by
 cases ao with
 | none =>
  obtain ⟨i0, hi, hz0, hz1, hz2⟩ := info_parts infoS
  have h0 : n2.length = 0 := by
   rcases Nat.eq_zero_or_pos n2.length with h | h
   ·exact h
   ·obtain ⟨b, o, e, _⟩ := hsrc h; cases e
  obtain rfl : n2 = [] := List.eq_nil_of_length_eq_zero h0
  obtain rfl := hnil rfl
  obtain rfl : m = 0 := by rw [<- hm]; rfl
  refine wpList_append_own_none hgd s x 28 ho base 9 i0 1 Tryz.underlying28 hi v n.length (vs n) hs hown hx ?_
  exact h v w (by rw [List.append_nil]; exact hown) ⟨rfl, rfl, rfl, Nat.le_refl _, fun _ _ _ => rfl⟩
 | some ad => exact wpList_append_S hgd s x ho base v n hs hown ad m c n2 hx hm hsrc hbound hbase h
theorem OwnS.lit (w : World) (l : List (List UInt8)) (A : Array Value) (base : Nat) (hb : base <= w.heap.size) (h : A = (vs l).toArray) (hl : l.length <= 1000000) (n : Nat) (hn : n = l.length) : OwnS (w.alloc (.cells A 9)) base (.slice (some ⟨w.heap.size, 0, none⟩) n n) l := by
 subst h; subst hn
 have hz : (vs l).length = l.length := vs_len l
 refine ⟨by rw [hz, Nat.mul_one], Or.inr ⟨w.heap.size, l.length, (vs l).toArray, rfl, hb, heap_alloc_last w _, Nat.le_refl _, by unfold maxLen; omega, by simp [hz], by simp; exact List.take_of_length_le (Nat.le_of_eq hz)⟩⟩
theorem OwnB.lit (w : World) (l : List UInt8) (A : Array Value) (base : Nat) (hb : base <= w.heap.size) (h : A = (vb l).toArray) (hl : l.length <= 1000000) (n : Nat) (hn : n = l.length) : OwnB (w.alloc (.cells A 5)) base (.slice (some ⟨w.heap.size, 0, none⟩) n n) l := by
 subst h; subst hn
 have hz : (vb l).length = l.length := vb_len l
 refine ⟨by rw [hz, Nat.mul_one], Or.inr ⟨w.heap.size, l.length, (vb l).toArray, rfl, hb, heap_alloc_last w _, Nat.le_refl _, by unfold maxLen; omega, by simp [hz], by simp; exact List.take_of_length_le (Nat.le_of_eq hz)⟩⟩
open Go.RowKit
def EM (w : World) (n : List (List UInt8)) (us : List Value) : Prop := ∃ a c, us = [.slice a n.length c] /\ TyS w a n /\ (a = none -> c = 0) /\ n.length <= c /\ (n = [] -> a = none)
theorem EM.kb {w w' : World} {n : List (List UInt8)} {us : List Value} (h : EM w n us) (k : KB w w') : EM w' n us := by
 obtain ⟨a, c, h1, h2, h3⟩ := h; exact ⟨a, c, h1, h2.kb k, h3⟩
theorem setsN {w : World} {ρ : Nat -> Role} {G : List (List UInt8) -> Option Nd} {C : List (List UInt8) -> Nat -> Option Z.St} {K : Nat} {P : List (List (List UInt8))} (H : PL G C P) (T : TreeAt w ρ G C K) {p : List (List UInt8)} {x : Nd} (hx : G p = some x) :
 ∃ c0 : Nat, (Builtin.len_ #[103] 3 #[.map (some x.s)]).run Tryz.prog w = .ok (.int .i64 (c0 : Int)) w /\ (0 < c0 ↔ p ∈ P) := by
 obtain ⟨c0, h1, _, h2⟩ := (T.node p x hx).sets.none_len keyedH Tryz.underlying103 3
 refine ⟨c0, h1, ?_⟩
 rw [H.own p]
 constructor
 ·intro hc
  refine Classical.byContradiction fun hn => ?_
  have : c0 = 0 := h2.2 fun k => by
   cases hk : fU (fun t => (C p t).map fun S => setV S (x.dm t)) k with
   | none => rfl
   | some v =>
    obtain ⟨t, ht, rfl⟩ := fU_some (by rw [hk]; rfl)
    rw [fU_at _ t ht] at hk
    exact absurd ⟨t, by cases hC : C p t with
     | none => rw [hC] at hk; cases hk
     | some S => rfl⟩ hn
  omega
 ·rintro ⟨t, ht⟩
  refine Nat.pos_of_ne_zero fun h0 => ?_
  obtain ⟨S, hS⟩ := Option.isSome_iff_exists.1 ht
  have h3 := h2.1 h0 (.int .u16 (t : Int))
  rw [fU_at _ t (T.cov p t S hS).2, hS] at h3
  cases h3
theorem NodeIs.kid {w : World} {G : List (List UInt8) -> Option Nd} {C : List (List UInt8) -> Nat -> Option Z.St} {K : Nat} {p : List (List UInt8)} {x : Nd} (h : NodeIs w G C K p x) {l : List UInt8} {y : Nd} (hy : G (p ++ [l]) = some y) :
 (Instr.lookup 104 (.map (some x.b)) (.string ⟨l.toArray⟩) false).run Tryz.prog w = .ok (.pointer (some ⟨y.n, 0, none⟩)) w := by
 have h1 : fS (fun l => (G (p ++ [l])).map fun y => ptr y.n) (.string l) = some (ptr y.n) := by
  show (G (p ++ [l])).map (fun y => ptr y.n) = _
  rw [hy]; rfl
 obtain ⟨v0, hv0⟩ := MapAt.key h.below (x := .string l) (by rw [h1]; rfl)
 obtain ⟨s, _, e, hs⟩ := Maps.keyOf_str Tryz.underlying9 hv0
 injection e with e; subst e
 have hk : keyOf Tryz.prog 9 (.string ⟨l.toArray⟩) = some (.string l) := by
  have h := WideMaps.keyOf_string_mk (P := Tryz.prog) Tryz.underlying9 (s := ⟨l.toArray⟩) (by show l.toArray.size <= maxLen; simpa using hs)
  simpa using h
 have h2 := MapAt.get h.below keyedS Tryz.underlying104 (Tryz.zeroValue90 w) hk
 rw [h1] at h2
 exact h2
set_option maxRecDepth 100000 in
set_option maxHeartbeats 1500000 in
theorem names_any {P : List (List (List UInt8))} {G : List (List UInt8) -> Option Nd} {C : List (List UInt8) -> Nat -> Option Z.St} (H : PL G C P) (K : Nat) (hK : K <= 1000000) : ∀ (d : Nat) (w : World) (ρ : Nat -> Role) (_ : TreeAt w ρ G C K) (p : List (List UInt8)) (x : Nd) (_ : G p = some x) (_ : 128 < p.length + d) (n : List (List UInt8)) (_ : Hid (n = p.reverse)) (ao : Option Addr) (len cap : Nat) (_ : Hid (n.length = len)) (_ : TyS w ao n) (_ : ao = none -> cap = 0) (_ : len <= cap) (_ : n = [] -> ao = none),
 Calls Tryz.prog 56 #[.pointer (some ⟨x.n, 0, none⟩), .slice ao len cap] w fun e w' => ∃ v, e = .returned v /\ OwnL 28 1 EM w' w.heap.size v ((Z.under P p).map List.reverse) /\ Below w.heap.size w w'
 | 0, w, ρ, T, p, x, hx, hd, n, hn, ao, len, cap, hl, hs, h1, h2, h3 => by
  have := H.deep p (by rw [hx]; rfl)
  omega
 | d + 1, w, ρ, T, p, x, hx, hd, n, hn, ao, len, cap, hl, hs, h1, h2, h3 => by
  have ih := names_any H K hK d
  obtain ⟨c0, hln, hpos⟩ := setsN H T hx
  have N0 := T.node p x hx
  have x0 : w.cell? ⟨x.n, 0, none⟩ = some (.map (some x.s)) := N0.row.cell 0
  obtain ⟨hlab, hlm⟩ := Z.labs_spec H.rise H.low p
  obtain ⟨m, hm⟩ : ∃ m, m = (Z.labs P p).length := ⟨_, rfl⟩
  have hkey : ∀ l, l ∈ Z.labs P p ↔ (fS (fun l => (G (p ++ [l])).map fun y => ptr y.n) (.string l)).isSome := fun l => by
   rw [hlm l, <- H.kid p l]
   show _ ↔ ((G (p ++ [l])).map fun y => ptr y.n).isSome = true
   simp
  have hmK : m <= K := by
   have hinj : ∀ a b : List UInt8, Lit.string a = Lit.string b -> a = b := fun a b e => by injection e
   have h4 := N0.below.le keyedS ((Z.labs P p).map Lit.string) (by
    unfold List.Nodup
    rw [List.pairwise_map]
    exact (asc_nodup hlab).imp fun {a b} hab e => hab (hinj a b e)) (fun k => by
    rw [List.mem_map]
    constructor
    ·rintro ⟨l, hl, rfl⟩; exact (hkey l).1 hl
    ·intro hk
     obtain ⟨s, rfl⟩ := fS_some hk
     exact ⟨s, (hkey s).2 hk, rfl⟩)
   rw [List.length_map] at h4
   omega
  have hup0 : Z.upto P p 0 = if p ∈ P then [n] else [] := by
   unfold Z.upto
   rw [hn.out]
   by_cases hp : p ∈ P
   ·simp [hp]
   ·simp [hp]
  have hlb : len <= 128 := by
   have h4 := H.deep p (by rw [hx]; rfl)
   have h5 := hl.out
   rw [hn.out, List.length_reverse] at h5
   omega
  have HT := hide T
  have HX := hide hx
  have HS := hide hs
  have HN0 := hide N0
  have HPOS := hide hpos
  have HIH := hide ih
  have HLAB := hide hlab
  have HKEY := hide hkey
  have HM := hide hm
  have HUP := hide hup0
  have H3 := hide h3
  have HD := hide hd
  have HLM := hide hlm
  clear T hx hs N0 hpos ih hlab hkey hm hup0 h3 hd hlm
  go_enter Tryz.func56, Tryz.ntmps56
  go_upto_if 14 with fail
  go_cut [5] from 9 (fun v wc => OwnL 28 1 EM wc w.heap.size v (Z.upto P p 0) /\ Below w.heap.size w wc)
  case first =>
   by_cases hp : p ∈ P
   ·have hcb : ((0 : Int) < (c0 : Int)) := by have := HPOS.out.2 hp; omega
    go_wp2_with (at_builtin; go_loud (refine wpList_appL rfl (.tmp 15) (.tmp 17) 46 rfl Tryz.underlying46 (.slice none 0 0) 24 (info_parts infoNs) rfl (by decide) (by decide) (by decide) w.heap.size (.slice none 0 0) ([] : List (List (List UInt8))) rfl (OwnL.nil 28 1 EM _ _) ⟨w.heap.size, 0, none⟩ 1 n [.slice ao len cap] rfl (cell_one_new _ _ _) rfl (by simp [Value.oneCell']) ⟨ao, cap, by rw [hl.out], HS.out.kb (KB.alloc _ _), h1, by rw [hl.out]; exact h2, H3.out⟩ (fun _ _ _ k h => h.kb k) (by simp) (by simp) ?_); intro v5 w5 hO5 hG5 hK5 hB5)
    go_meet
    refine ⟨?_, ((Below.refl _ w).alloc (Nat.le_refl _) _).trans hB5⟩
    rw [HUP.out, if_pos hp]; exact hO5
   ·have h0 : ¬ 0 < c0 := fun h => hp (HPOS.out.1 h)
    have hcb : decide ((0 : Int) < (c0 : Int)) = false := by simp; omega
    have hcc : ¬ (0 : Int) < (c0 : Int) := by omega
    go_wp2
    go_meet
    refine ⟨?_, Below.refl _ _⟩
    rw [HUP.out, if_neg hp]; exact OwnL.nil _ _ _ _ _
  case rest =>
   obtain ⟨hO, hB⟩ := hcut
   have NC := HN0.out.keep (K' := K) (w' := wc) (fun _ _ h => h.below hB (Nat.le_refl _)) (Nat.le_refl _) (fun _ => rfl) (fun _ => rfl) (hB.block _ HN0.out.row.lt) (hB.block _ HN0.out.sets.lt) (hB.block _ HN0.out.below.lt) (fun t S hS => by obtain ⟨f, h, _⟩ := HN0.out.data t S hS; exact hB.block _ h.lt)
   have y1 : wc.cell? ⟨x.n, 1, none⟩ = some (.map (some x.b)) := NC.row.cell 1
   have HNC := hide NC
   have HO := hide hO
   have HB := hide hB
   clear NC hO hB
   go_wp2_with (first
    | (go_at_call 97; refine (keysN_any (some x.b) wc).mono ?_; rintro e w2 ⟨rfl, hw2⟩; rw [hw2]; clear hw2 w2)
    | (go_at_call 96; refine (sortedN_any wc x.b K _ HNC.out.below hK (Z.labs P p) HLAB.out HKEY.out).mono ?_; rintro e w3 ⟨v3, rfl, hv3, hb3⟩; obtain ⟨a3, c3, rfl, hs3, _, _⟩ := hv3.ty; rw [<- HM.out]; clear hv3))
   have hbc3 : Below wc.heap.size wc w3 := ((Below.refl _ wc).alloc (Nat.le_refl _) _).trans (hb3.mono (Nat.le_succ _))
   have hb03 : Below w.heap.size w w3 := HB.out.trans (hbc3.mono HB.out.size)
   have hO3 := HO.out.bel (fun _ _ h => h.kb (KB.of_below hbc3)) hbc3
   clear hb3 hbc3
   go_loopw [5, 26] (fun v i wr => ∃ j : Nat, i = .int .i64 (j : Int) /\ j <= m /\ OwnL 28 1 EM wr w.heap.size v (Z.upto P p j) /\ Below w.heap.size w wr /\ TyS wr a3 (Z.labs P p)) (fun _ i _ => m - (intOf i).toNat)
   case atStart => exact ⟨0, rfl, by omega, hO3, hb03, hs3⟩
   case round =>
    obtain ⟨j, rfl, hj, hO, hB, hT⟩ := hrel
    have hz := hB.size
    by_cases hlt : j < m
    ·have hjk : j < (Z.labs P p).length := by have := HM.out; omega
     obtain ⟨b1, o1, rfl, _, hc1⟩ := hT.1 (by omega)
     have hcx := hc1 j hjk
     have hd1 := Z.upto_succ P p j hjk
     have hmem : (Z.labs P p).getD j [] ∈ Z.labs P p := by rw [List.getD_eq_getElem?_getD, List.getElem?_eq_getElem hjk]; exact List.getElem_mem hjk
     obtain ⟨key, hkk⟩ : ∃ key, key = (Z.labs P p).getD j [] := ⟨_, rfl⟩
     rw [<- hkk] at hcx hd1 hmem
     obtain ⟨y, hy⟩ := Option.isSome_iff_exists.1 ((H.kid p key).2 ((HLM.out key).1 hmem))
     have NR : NodeIs wr G C K p x := HN0.out.keep (K' := K) (w' := wr) (fun _ _ h => h.below hB (Nat.le_refl _)) (Nat.le_refl _) (fun _ => rfl) (fun _ => rfl) (hB.block _ HN0.out.row.lt) (hB.block _ HN0.out.sets.lt) (hB.block _ HN0.out.below.lt) (fun t S hS => by obtain ⟨f, h, _⟩ := HN0.out.data t S hS; exact hB.block _ h.lt)
     have hlen1 := Z.upto_len H.rise H.low p j
     have hlen2 := Z.under_len P (p ++ [key])
     have hnum := H.num
     obtain ⟨n5, hn5⟩ : ∃ n5, n5 = [key] ++ n := ⟨_, rfl⟩
     have hn5l : n5.length = len + 1 := by rw [hn5]; simp [hl.out]
     have hn5r : n5 = (p ++ [key]).reverse := by rw [hn5, hn.out]; simp
     have HO := hide hO
     have HB1 := hide hB
     have HT1 := hide hT
     have HNR := hide NR
     have HY := hide hy
     have HD1 := hide hd1
     have HN5 := hide hn5
     have HN5R := hide hn5r
     have HN5L := hide hn5l
     clear hO hB hT NR hy hd1 hn5 hn5r hn5l hc1 hmem hkk
     go_wp2_with (first
      | (at_builtin; refine wpList_append_SN rfl (.tmp 31) (.tmp 32) rfl wr.heap.size (.slice (some ⟨wr.heap.size, 0, none⟩) 1 1) [key] rfl (OwnS.lit wr [key] _ _ (Nat.le_refl _) rfl (by simp) 1 rfl) ao len cap n rfl hl.out (((HS.out.kb (KB.of_below HB1.out)).kb (KB.alloc _ _)).1) h1 (by simp; omega) (by simp) ?_; intro v5 w5 hO5 hG5; have hb5 := grown_belowS (OwnS.lit wr [key] _ _ (Nat.le_refl _) rfl (by simp) 1 rfl) hG5 ((Below.refl _ wr).alloc (Nat.le_refl _) _) (by simp); rw [<- HN5.out] at hO5; obtain ⟨a5, c5, hv5, hs5, hn5, hc5⟩ := hO5.ty; rw [HN5L.out] at hv5 hc5; subst hv5; have hb05 := HB1.out.trans (hb5.mono HB1.out.size); have N5 := (HT.out.below_ hb05).node p x HX.out; have z1 : w5.cell? ⟨x.n, 1, none⟩ = some (.map (some x.b)) := N5.row.cell 1; have hlk := N5.kid HY.out; have HB5 := hide hb5; have HB05 := hide hb05; have HO5 := hide hO5; clear hO5 hG5 N5 hb5 hb05)
      | (go_at_call 56; refine (HIH.out w5 ρ (HT.out.below_ HB05.out) (p ++ [key]) y HY.out (by have := HD.out; simp; omega) n5 HN5R a5 (len + 1) c5 HN5L hs5 hn5 hc5 (fun h => absurd h (by rw [HN5.out]; simp))).mono ?_; rintro e w6 ⟨v6, rfl, hO6, hb6⟩; have hb56 := HB5.out.trans (hb6.mono HB5.out.size))
      | (at_builtin; go_loud (refine wpList_appLL rfl (.tmp 34) (.tmp 42) 46 rfl Tryz.underlying46 (.slice none 0 0) 24 (info_parts infoNs) rfl (by decide) (by decide) (by decide) w.heap.size _ (Z.upto P p j) rfl (HO.out.bel (fun _ _ h => h.kb (KB.of_below hb56)) hb56) w5.heap.size v6 ((Z.under P (p ++ [key])).map List.reverse) rfl hO6 (fun _ _ _ k h => h.kb k) (by rw [List.length_map]; omega) (by have := hb56.size; omega) ?_); intro v7 w7 hO7 hG7 hK7 hB7)
      | fail)
     go_roundw
     case rel =>
      refine ⟨j + 1, by go_num, by omega, by rw [HD1.out]; exact hO7, HB1.out.trans ((hb56.mono hz).trans hB7), (HT1.out.kb (KB.of_below hb56)).kb hK7⟩
     case measure => simp [intOf]; omega
    ·obtain rfl : j = m := by omega
     go_wp2
     go_ret
     refine ⟨_, rfl, ?_, hB⟩
     rw [HM.out, Z.upto_all H.rise H.low p] at hO
     exact hO
open Go.RowKit
theorem setAt_datas {L : List Z.R} {C : List (List UInt8) -> Nat -> Option Z.St} (h : Z.Of L C) {p : List (List UInt8)} {t : Nat} {S : Z.St} (hS : C p t = some S) : datas S.g ((Z.setAt L p t).map (·.c)) = (Z.setAt L p t).map (·.d) := by
 unfold datas
 rw [List.map_map]
 refine List.map_congr_left fun x hx => ?_
 obtain ⟨h1, rfl, rfl⟩ := Z.mem_setAt.1 hx
 show (S.g x.c).getD [] = x.d
 rw [(h.at_ x h1 S hS).2]; rfl
theorem infoAS : (Tryz.prog.info? 54).map (·.size) = some 4 := by kernel_rfl
theorem results_as {fn : Func} {p u : Tmp} (h : fn.results = #[.cell p 54, .tmp u]) (tmps : Array Value) (w : World) (g : Nat) (cs : Array Value) (hs : cs.size = 4) (hp : tmps.getD p undef = .pointer (some ⟨g, 0, none⟩)) (hg : RowAt w g 54 cs) :
 (results fn tmps).run Tryz.prog w = .ok (.tuple #[.agg cs, tmps.getD u undef]) w := by
 rw [results_cell_tmp h, hp]
 have hl := run_loadVar_row (P := Tryz.prog) w g 54 54 cs (0, 0) _ hg Tryz.underlying54 rfl (by rw [hs]; exact infoAS)
 simp [asAddr, hl, Result.andThen]
def asetZ : Value := .agg #[.slice none 0 0, .int .u16 0, .int .u32 0, .slice none 0 0]
def SetPost (w : World) (L : List Z.R) (C : List (List UInt8) -> Nat -> Option Z.St) (n : List (List UInt8)) (nl t : Nat) (e : Ending) (w' : World) : Prop :=
 Below w.heap.size w w' /\ ((C (path n) t = none /\ e = .returned (.tuple #[asetZ, .bool false])) \/
  ∃ (S : Z.St) (na : Option Addr) (nc : Nat) (v : Value), C (path n) t = some S /\ e = .returned (.tuple #[.agg #[.slice na nl nc, .int .u16 (t : Int), .int .u32 (S.ttl : Int), v], .bool true]) /\ TyS w' na (N.lowN n) /\ nl <= nc /\ OwnL 37 1 EB w' w.heap.size v ((Z.setAt L (path n) t).map (·.d)))
theorem KB.setCell {w : World} {g : Nat} {et : TypeId} {c : Array Value} (h : RowAt w g et c) (he : et ≠ 5 /\ et ≠ 9) (j : Nat) (v : Value) : KB w (w.setCell ⟨g, j, none⟩ v) := ⟨by simp, fun b cs t fr hb ht => by
 have hne : b ≠ g := fun e => by
  have h : w.heap[g]? = _ := h
  rw [e, h] at hb; injection hb with hb; injection hb with _ hb _
  rcases ht with rfl | rfl
  ·exact he.1 hb
  ·exact he.2 hb
 rw [heap_setCell_other _ _ _ _ hne]; exact hb⟩
structure SOld (W : World) (g b : Nat) (T : Int) (m : Nat) : Prop where
 row : RowAt W g 54 #[.slice none 0 0, .int .u16 0, .int .u32 0, .slice none 0 0]
 box : RowAt W b 101 #[.int .u32 T, .map (some m)]
theorem SOld.cells {W : World} {g b : Nat} {T : Int} {m : Nat} (h : SOld W g b T m) : W.cell? ⟨b, 0, none⟩ = some (.int .u32 T) /\ W.cell? ⟨b, 1, none⟩ = some (.map (some m)) /\ W.cell? ⟨g, 0, none⟩ = some (.slice none 0 0) /\ W.cell? ⟨g, 1, none⟩ = some (.int .u16 0) /\ W.cell? ⟨g, 2, none⟩ = some (.int .u32 0) /\ W.cell? ⟨g, 3, none⟩ = some (.slice none 0 0) /\
 W.frozen? ⟨g, 0, none⟩ = false /\ W.frozen? ⟨g, 1, none⟩ = false /\ W.frozen? ⟨g, 2, none⟩ = false /\ W.frozen? ⟨g, 3, none⟩ = false :=
 ⟨h.box.cell 0, h.box.cell 1, h.row.cell 0, h.row.cell 1, h.row.cell 2, h.row.cell 3, h.row.frozen 0, h.row.frozen 1, h.row.frozen 2, h.row.frozen 3⟩
theorem SOld.below {W W' : World} {B g b : Nat} {T : Int} {m : Nat} (h : SOld W g b T m) (hb : Below B W W') (h1 : g < B) (h2 : b < B) : SOld W' g b T m := ⟨h.row.below hb h1, h.box.below hb h2⟩
structure SNew (w : World) (g len t : Nat) (T : Int) (n : List (List UInt8)) (ds : List (List UInt8)) (wc : World) (na : Option Addr) (nc : Nat) (v : Value) : Prop where
 row : RowAt wc g 54 #[.slice na len nc, .int .u16 (t : Int), .int .u32 T, v]
 ty : TyS wc na (N.lowN n)
 le : len <= nc
 own : OwnL 37 1 EB wc w.heap.size v ds
 bel : Below w.heap.size w wc
theorem SNew.mk' {w wz : World} {g b len t : Nat} {T : Int} {m : Nat} {n ds : List (List UInt8)} {na : Option Addr} {nc base : Nat} {v : Value} (h : SOld wz g b T m) (hg : w.heap.size <= g) (hgb : g < base) (ty : TyS wz na (N.lowN n)) (le : len <= nc) (own : OwnL 37 1 EB wz base v ds) (bel : Below w.heap.size w wz) :
 SNew w g len t T n ds ((((wz.setCell ⟨g, 0, none⟩ (.slice na len nc)).setCell ⟨g, 1, none⟩ (.int .u16 (t : Int))).setCell ⟨g, 2, none⟩ (.int .u32 T)).setCell ⟨g, 3, none⟩ v) na nc v := by
 have r1 := h.row.set 0 (.slice na len nc)
 have r2 := r1.set 1 (.int .u16 (t : Int))
 have r3 := r2.set 2 (.int .u32 T)
 have k := (((KB.setCell h.row (by decide) 0 (.slice na len nc)).trans (KB.setCell r1 (by decide) 1 (.int .u16 (t : Int)))).trans (KB.setCell r2 (by decide) 2 (.int .u32 T))).trans (KB.setCell r3 (by decide) 3 v)
 refine ⟨r3.set 3 v, ty.kb k, le, (own.kept (fun _ _ h => h.kb k) fun q _ _ hq _ => ?_).low (by omega), (((bel.setCell (p := ⟨g, 0, none⟩) hg _).setCell (p := ⟨g, 1, none⟩) hg _).setCell (p := ⟨g, 2, none⟩) hg _).setCell (p := ⟨g, 3, none⟩) hg _⟩
 rw [heap_setCell_other _ _ _ _ (by show q ≠ g; omega), heap_setCell_other _ _ _ _ (by show q ≠ g; omega), heap_setCell_other _ _ _ _ (by show q ≠ g; omega), heap_setCell_other _ _ _ _ (by show q ≠ g; omega)]
set_option maxRecDepth 100000 in
set_option maxHeartbeats 4000000 in
theorem zset_any (w : World) (Zb : Nat) (A : List (List UInt8)) (L : List Z.R) (ρ : Nat -> Role) (G : List (List UInt8) -> Option Nd) (C : List (List UInt8) -> Nat -> Option Z.St) (K : Nat) (Zx : ZAt w Zb A L ρ G C K) (hK : K <= 1000000) (n : List (List UInt8)) (ao : Option Addr) (len cap : Nat) (hl : Hid (n.length = len)) (hs : SlS w ao n) (hm : Hid (N.Small n)) (t : Nat) (ht : t < 65536) :
 Calls Tryz.prog 23 #[.pointer (some ⟨Zb, 0, none⟩), .slice ao len cap, .int .u16 (t : Int)] w fun e w' => SetPost w L C n len t e w' := by
 obtain ⟨w1, hw1⟩ : ∃ w1, w1 = w.alloc (.cells #[.slice none 0 0, .int .u16 0, .int .u32 0, .slice none 0 0] 54) := ⟨_, rfl⟩
 have hb1 : Below w.heap.size w w1 := by rw [hw1]; exact (Below.refl _ w).alloc (Nat.le_refl _) _
 have hr1 : RowAt w1 w.heap.size 54 #[.slice none 0 0, .int .u16 0, .int .u32 0, .slice none 0 0] := by rw [hw1]; exact RowAt.new w _ _
 have hf := (Zx.bel hb1).find n ao len cap hl (hs.below hb1 (Nat.le_refl _)) hm
 have hs1 := hs.below hb1 (Nat.le_refl _)
 have HZ := hide Zx
 have HS1 := hide hs1
 have HB1 := hide hb1
 have HR1 := hide hr1
 have HW1 := hide hw1
 clear hs Zx hw1 hs1 hr1
 go_enter Tryz.func23, Tryz.ntmps23
 cases hC : C (path n) t with
 | none =>
  go_wp2_with (go_at_call 58; rw [<- HW1.out]; refine hf.mono ?_; rintro e w2 ⟨x, rfl, hF⟩; have x0 : w2.cell? ⟨x.n, 0, none⟩ = some (.map (some x.s)) := hF.node.row.cell 0; have hlk := (hF.node.lookup t ht w2 rfl).1; rw [hC] at hlk; simp only [Option.map_none, Option.getD_none, Option.isSome_none] at hlk; have hr2 := HR1.out.below hF.bel HR1.out.lt; have hr3 := RowAt.alloc hr2 (.cells #[.int .u32 0, .map none] 101); have c0 := hr3.cell 0; have c1 := hr3.cell 1; have c2 := hr3.cell 2; have c3 := hr3.cell 3; have f0 := hr3.frozen 0; have f1 := hr3.frozen 1; have f2 := hr3.frozen 2; have f3 := hr3.frozen 3; have d0 := hr2.cell 0; have d1 := hr2.cell 1; have d2 := hr2.cell 2; have d3 := hr2.cell 3; have g0 := hr2.frozen 0; have g1 := hr2.frozen 1; have g2 := hr2.frozen 2; have g3 := hr2.frozen 3)
  have hr4 := (((hr3.set 0 (.slice none 0 0)).set 1 (.int .u16 0)).set 2 (.int .u32 0)).set 3 (.slice none 0 0)
  refine bodyPost_ret (v := .tuple #[asetZ, .bool false]) (results_as Tryz.results23 _ _ w.heap.size _ rfl rfl hr4) rfl ⟨?_, Or.inl ⟨hC, rfl⟩⟩
  have h2 : Below w.heap.size w w2 := hb1.trans (hF.bel.mono hb1.size)
  exact ((((h2.alloc h2.size _).setCell (p := ⟨w.heap.size, 0, none⟩) (Nat.le_refl _) _).setCell (p := ⟨w.heap.size, 1, none⟩) (Nat.le_refl _) _).setCell (p := ⟨w.heap.size, 2, none⟩) (Nat.le_refl _) _).setCell (p := ⟨w.heap.size, 3, none⟩) (Nat.le_refl _) _
 | some S =>
  go_wp2_with (go_at_call 58; rw [<- HW1.out]; refine hf.mono ?_; rintro e w2 ⟨x, rfl, hF⟩; have x0 : w2.cell? ⟨x.n, 0, none⟩ = some (.map (some x.s)) := hF.node.row.cell 0; have hlk := (hF.node.lookup t ht w2 rfl).1; rw [hC] at hlk; simp only [Option.map_some, Option.getD_some, Option.isSome_some, setV] at hlk)
  obtain ⟨m, hmm⟩ : ∃ m, m = x.dm t := ⟨_, rfl⟩
  have hdm := hF.node.data t S hC
  rw [<- hmm] at hdm ⊢
  obtain ⟨w3, hw3⟩ : ∃ w3, w3 = w2.alloc (.cells #[.int .u32 (S.ttl : Int), .map (some m)] 101) := ⟨_, rfl⟩
  have hb23 : Below w2.heap.size w2 w3 := by rw [hw3]; exact (Below.refl _ w2).alloc (Nat.le_refl _) _
  have hz12 := hF.bel.size
  have hz01 := hb1.size
  have hb02 : Below w.heap.size w w2 := hb1.trans (hF.bel.mono hz01)
  have hb03 : Below w.heap.size w w3 := hb02.trans (hb23.mono hb02.size)
  have hg0 : w.heap.size < w1.heap.size := HR1.out.lt
  have hz3 : w3.heap.size = w2.heap.size + 1 := by rw [hw3]; simp
  have hold : SOld w3 w.heap.size w2.heap.size (S.ttl : Int) m := ⟨(HR1.out.below hF.bel hg0).below hb23 (by omega), by rw [hw3]; exact RowAt.new w2 _ _⟩
  have hDM : DM w3 (some m) S.g K := DM.bel (mo := some m) hdm hb23
  have hL := HZ.out
  have hks := Z.setAt_rise hL.rise (path n) t
  have hlow : ∀ W, Below w3.heap.size w3 W -> Calls Tryz.prog 47 #[.slice ao len cap] W fun e w' => ∃ v, e = .returned v /\ OwnS w' W.heap.size v (N.lowN n) /\ Below W.heap.size W w' := fun W hW => lower_any n ao len cap W hl (((HS1.out.below hF.bel (Nat.le_refl _)).below hb23 (Nat.le_refl _)).below hW (Nat.le_refl _)) hm
  have hlist : ∀ W, Below w3.heap.size w3 W -> Calls Tryz.prog 59 #[.agg #[.int .u32 (S.ttl : Int), .map (some m)]] W fun e w' => ∃ v, e = .returned v /\ OwnL 37 1 EB w' W.heap.size v ((Z.setAt L (path n) t).map (·.d)) /\ Below W.heap.size W w' := fun W hW => by
   have := list_any W (S.ttl : Int) m S.g K (hDM.bel hW) hK ((Z.setAt L (path n) t).map (·.c)) hks (fun c => hL.of.mem_c hC c) (by rw [List.length_map]; have := hL.num; have : (Z.setAt L (path n) t).length <= L.length := List.length_filter_le _ _; omega) (fun c hc => by
    obtain ⟨y, hy, rfl⟩ := List.mem_map.1 hc
    have := hL.okk y (Z.mem_setAt.1 hy).1
    have h2 := cn_len this.2.2.1
    omega)
   rw [setAt_datas hL.of hC] at this
   exact this
  have HOLD := hide hold
  have HB03 := hide hb03
  have HW3 := hide hw3
  have HZ3 := hide hz3
  have HG0 := hide (show w.heap.size < w3.heap.size /\ w2.heap.size < w3.heap.size by omega)
  obtain ⟨b8, hb8⟩ : ∃ b8, b8 = w2.heap.size := ⟨_, rfl⟩
  rw [<- hw3]
  rw [<- hb8] at HOLD HG0 ⊢
  obtain ⟨k0, k1, k2, k3, k4, k5, k6, k7, k8, k9⟩ := hold.cells
  rw [<- hb8] at k0 k1
  have bD : Below w3.heap.size w3 w3.drew := below_drewN (Below.refl _ w3) 1
  clear hold hb03 hw3 hz3 hb23 hb02 hDM hL hks hdm hF hf hlk x0 hb8 hz12 hz01 hg0 hmm
  go_cut [7] from 24 (fun s7 wc => s7 = .bool true /\ ∃ na nc v, SNew w w.heap.size len t (S.ttl : Int) n ((Z.setAt L (path n) t).map (·.d)) wc na nc v)
  case first =>
   go_region_with (first
    | (go_at_call 47; refine (hlow _ (by first | exact bD | exact bI)).mono ?_; rintro e wl ⟨vl, rfl, hOl, hBl⟩; obtain ⟨al, cl, rfl, hTl, _, hcl⟩ := hOl.ty; rw [N.lowN_len, hl.out] at hcl ⊢; have bL : Below w3.heap.size w3 wl := (by first | exact bD.trans hBl | exact bI.trans (hBl.mono bI.size)); have oL := HOLD.out.below bL HG0.out.1 HG0.out.2; obtain ⟨l0, l1, l2, l3, l4, l5, l6, l7, l8, l9⟩ := oL.cells)
    | (go_at_call 59; refine (hlist _ (by first | exact bD | exact bL)).mono ?_; rintro e wi ⟨vi, rfl, hOi, hBi⟩; obtain ⟨ai, ci, rfl, hni, hci⟩ := hOi.slice; rw [List.length_map] at hOi; have bI : Below w3.heap.size w3 wi := (by first | exact bD.trans hBi | exact bL.trans (hBi.mono bL.size)); have oI := HOLD.out.below bI HG0.out.1 HG0.out.2; obtain ⟨i0, i1, i2, i3, i4, i5, i6, i7, i8, i9⟩ := oI.cells)
    | fail)
   all_goals go_wp2_with fail
   all_goals go_meet
   all_goals first
    | exact ⟨rfl, al, cl, _, SNew.mk' (len := len) (base := wl.heap.size) (wz := wi) oI (Nat.le_refl _) (Nat.lt_of_lt_of_le HG0.out.1 bL.size) (hTl.kb (KB.of_below hBi)) hcl hOi (HB03.out.trans (bI.mono HB03.out.size))⟩
    | exact ⟨rfl, al, cl, _, SNew.mk' (len := len) (base := w3.heap.size) (wz := wl) oL (Nat.le_refl _) HG0.out.1 hTl hcl (hOi.bel (fun _ _ h => h.kb (KB.of_below hBl)) hBl) (HB03.out.trans (bL.mono HB03.out.size))⟩
  case rest =>
   obtain ⟨rfl, na, nc, v, hN⟩ := hcut
   go_wp2
   refine bodyPost_ret (v := .tuple #[.agg #[.slice na len nc, .int .u16 (t : Int), .int .u32 (S.ttl : Int), v], .bool true]) (results_as Tryz.results23 _ _ w.heap.size _ rfl rfl hN.row) rfl ⟨hN.bel, Or.inr ⟨S, na, nc, v, hC, rfl, hN.ty, hN.le, hN.own⟩⟩
open Go.RowKit
namespace Z
theorem flat_pre {α β : Type} (f : α -> List β) (l : List α) (k : Nat) (hk : k < l.length) {X : List β} (hX : X <+: f l[k]) : (l.take k).flatMap f ++ X <+: l.flatMap f := by
 have e : l.flatMap f = (l.take k).flatMap f ++ (f l[k] ++ (l.drop (k + 1)).flatMap f) := by
  rw [<- List.flatMap_cons, <- List.drop_eq_getElem_cons hk, <- List.flatMap_append, List.take_append_drop]
 rw [e, List.prefix_append_right_inj]
 exact hX.trans (List.prefix_append _ _)
theorem flat_succ {α β : Type} (f : α -> List β) (l : List α) (k : Nat) (hk : k < l.length) : (l.take (k + 1)).flatMap f = (l.take k).flatMap f ++ f l[k] := by
 rw [List.take_succ_eq_append_getElem hk, List.flatMap_append, List.flatMap_cons, List.flatMap_nil, List.append_nil]
def recsAt (L : List R) (p : List (List UInt8)) : List R := (typesAt L p).flatMap (fun t => setAt L p t)
end Z
def ER (w : World) (r : Z.R) (us : List Value) : Prop := ∃ na nc da dc, us = [.slice na r.p.length nc, .int .u16 (r.t : Int), .int .u16 1, .int .u32 (r.ttl : Int), .slice da r.d.length dc] /\ TyS w na r.p.reverse /\ r.p.length <= nc /\ (na = none -> nc = 0) /\ TyL w da r.d /\ (da = none -> dc = 0) /\ r.d.length <= dc
theorem ER.kb {w w' : World} {r : Z.R} {us : List Value} (h : ER w r us) (k : KB w w') : ER w' r us := by
 obtain ⟨na, nc, da, dc, h1, h2, h3, h4, h5, h6, h7⟩ := h
 exact ⟨na, nc, da, dc, h1, h2.kb k, h3, h4, h5.kb k, h6, h7⟩
structure KX (et0 : TypeId) (w w' : World) : Prop where
 size : w.heap.size <= w'.heap.size
 rows : ∀ (g : Nat) (c : Array Value) (et : TypeId) (fr : Nat × Nat), w.heap[g]? = some (Obj.cells c et fr) -> et ≠ et0 -> w'.heap[g]? = some (Obj.cells c et fr)
theorem KX.trans {et0 : TypeId} {a b c : World} (h : KX et0 a b) (k : KX et0 b c) : KX et0 a c := ⟨Nat.le_trans h.size k.size, fun g x et fr hg he => k.rows g x et fr (h.rows g x et fr hg he) he⟩
theorem KX.of_below {et0 : TypeId} {w w' : World} (h : Below w.heap.size w w') : KX et0 w w' := ⟨h.size, fun g _ _ _ hg _ => (h.block g (Array.getElem?_eq_some_iff.1 hg).1).trans hg⟩
theorem KX.grown {w w' : World} {base size k : Nat} {e : TypeId} {v : Value} {xs : List Value} (hv : w.ownsRow base e size v k xs) (hg : w.grownBy w' v.ownBlock) : KX e w w' := ⟨hg.size, fun g c et fr hb het => by
 refine (hg.block g (Array.getElem?_eq_some_iff.1 hb).1 (not_own hv hb het)).trans hb⟩
theorem KX.kb {et0 : TypeId} {w w' : World} (h : KX et0 w w') (h1 : et0 ≠ 5 /\ et0 ≠ 9) : KB w w' := ⟨h.size, fun g c et fr hg he => h.rows g c et fr hg (fun e => by rcases he with rfl | rfl; exact h1.1 e.symm; exact h1.2 e.symm)⟩
theorem KX.row {et0 : TypeId} {w w' : World} (h : KX et0 w w') {g : Nat} {t : TypeId} {c : Array Value} (hr : RowAt w g t c) (ht : t ≠ et0) : RowAt w' g t c := h.rows g c t _ hr ht
theorem OwnL.kx {α : Type} {et et0 : TypeId} {sz : Nat} {E : World -> α -> List Value -> Prop} {w w' : World} {base : Nat} {v : Value} {L : List α} (h : OwnL et sz E w base v L) (k : KX et0 w w') (hE : ∀ x us, E w x us -> E w' x us) (hne : et ≠ et0) : OwnL et sz E w' base v L :=
 h.kept hE fun g c fr _ hg => (k.rows g c et fr hg hne).trans hg.symm
theorem OwnH.kx {et0 : TypeId} {w w' : World} {base : Nat} {v : Value} {l : List UInt16} (h : OwnH w base v l) (k : KX et0 w w') (hne : 36 ≠ et0) : OwnH w' base v l := by
 have h0 : w.ownsRow base 36 1 v l.length (vh l) := h
 refine ⟨h0.1, ?_⟩
 rcases h0.2 with h1 | ⟨g, cap, cur, e, h1, h2, h3⟩
 ·exact Or.inl h1
 ·exact Or.inr ⟨g, cap, cur, e, h1, k.rows _ _ _ _ h2 hne, h3⟩
theorem infoRc : (Tryz.prog.info? 39).map (fun i => (i.zero, i.size, i.bytes)) = some (some (.agg #[.slice none 0 0, .int .u16 0, .int .u16 0, .int .u32 0, .slice none 0 0]), 5, 56) := by kernel_rfl
theorem step_appL {α : Type} {et : TypeId} {sz : Nat} {E : World -> α -> List Value -> Prop} {w : World} {ops : Array Oper} {o : Oper} {a : Act} {J : Act -> World -> Prop} {Q : Exit -> Act -> World -> Prop} {F : Prop} (hgd : o.guard = none) (s x : Operand) (st : TypeId)
 (ho : o.op = .call { callee := .builtin .append, args := #[s, x], argTypes := #[st, st] }) (hu : Tryz.prog.underlying st = some (.slice et)) (z : Value) (bytes : Nat) (hie : ∃ i, Tryz.prog.info? et = some i /\ i.zero = some z /\ i.size = sz /\ i.bytes = bytes) (hzc : z.cells.size = sz) (hsz : 0 < sz) (hby : bytes <= 200) (hne : et ≠ 5 /\ et ≠ 9)
 (base : Nat) (v : Value) (L : List α) (hs : a.eval s = v) (hown : OwnL et sz E w base v L) (ad : Addr) (c : Nat) (y : α) (us : List Value) (hx : a.eval x = .slice (some ad) 1 c) (hr : ∀ j u, us[j]? = some u -> w.cell? (ad.add j) = some u) (hlen : us.length = sz) (hone : ∀ u ∈ us, u.oneCell' = true) (hEy : E w y us)
 (hEk : ∀ w' x us, KB w w' -> E w x us -> E w' x us) (hbound : L.length <= 1000000) (hbase : base <= w.heap.size)
 (h : ∀ v' w', OwnL et sz E w' base v' (L ++ [y]) -> KX et w w' -> Below base w w' -> J (a.put o.dst v') w') : if Region.wanted o (yielded ops a.tmps) = true then Oper.wp Tryz.prog o a w J Q else F := by
 have hw : Region.wanted o (yielded ops a.tmps) = true := by simp [Region.wanted, hgd]
 rw [if_pos hw]
 obtain ⟨i0, hi, hz0, hz1, hz2⟩ := hie
 obtain ⟨vss, hv, hE⟩ := hown
 have hmul : (L.length + 1) * bytes <= 1000001 * 200 := Nat.mul_le_mul (by omega) hby
 obtain ⟨v', w', h1, h2, h3, _⟩ := run_append_own (P := Tryz.prog) w base st o.type et i0 z sz bytes hu hi hz0 hz1 hz2 hzc hsz v L.length vss.flatten hv ad 1 c us (by omega) hr hone (by unfold maxLen; omega) (by omega) hbase
 have hk := KB.grown hv hne h3
 unfold Oper.wp execOp
 simp only [ho, resolve, invoke, builtin, Sem.run_bind, Sem.run_pure, Result.andThen_ok, List.map_toArray, List.map_cons, List.map_nil, hs, hx, h1]
 refine h v' w' ⟨vss ++ [us], ?_, (hE.kb fun x us => hEk w' x us hk).app (Els.one hlen hone (hEk w' y us hk hEy))⟩ (KX.grown hv h3) (owns_below hv h3 hbase)
 rw [List.length_append, List.length_singleton, List.flatten_append, List.flatten_cons, List.flatten_nil, List.append_nil]
 exact h2
theorem znames_any (w : World) (Zb : Nat) (A : List (List UInt8)) (L : List Z.R) (ρ : Nat -> Role) (G : List (List UInt8) -> Option Nd) (C : List (List UInt8) -> Nat -> Option Z.St) (K : Nat) (Zx : ZAt w Zb A L ρ G C K) (hK : K <= 1000000) :
 Calls Tryz.prog 18 #[.pointer (some ⟨Zb, 0, none⟩)] w fun e w' => ∃ v, e = .returned v /\ OwnL 28 1 EM w' w.heap.size v ((Z.paths L).map List.reverse) /\ Below w.heap.size w w' := by
 obtain ⟨aa, ac, hz, _, _⟩ := Zx.row
 obtain ⟨x, hx⟩ := Option.isSome_iff_exists.1 Zx.tree.root
 have hnn : nodeN G [] = x.n := nodeN_of hx
 rw [hnn] at hz
 have z1 : w.cell? ⟨Zb, 1, none⟩ = some (.pointer (some ⟨x.n, 0, none⟩)) := hz.cell 1
 have hcall := names_any Zx.pl K hK 129 w ρ Zx.tree [] x hx (by omega) [] rfl none 0 0 rfl ⟨fun h => absurd h (by simp), fun a e => (by cases e)⟩ (fun _ => rfl) (Nat.le_refl _) (fun _ => rfl)
 rw [Z.under_nil] at hcall
 clear hz hnn hx Zx
 go_enter Tryz.func18, Tryz.ntmps18
 go_wp2_with (go_at_call 56; refine hcall.mono ?_; rintro e w1 ⟨v, rfl, hO, hB⟩)
 go_ret
 exact ⟨v, rfl, hO, hB⟩
end Go.Proofs.YtbkegikdmmnkaaaGreat
