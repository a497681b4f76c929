/- The reference's Same, Within, Compare (texts of stage 3, at this seat). -/
import Derived.Test.YtdldaphkiphpnaaGreatNmB
import Derived.BigRegion
import Derived.Deep.RegionWith
/- stage3/RefC -/
/- signetref3's Same, Within, Compare. -/
namespace Go.Proofs.YtdldaphkiphpnaaGreat
open Go.RowKit
namespace N
set_option maxRecDepth 5000 in
theorem same_false {a b : List (List UInt8)} (j : Nat) (ha : j < a.length) (hb : j < b.length) (h : lowL (a.getD j []) ≠ lowL (b.getD j [])) : same a b = false := by
  unfold same
  rw [decide_eq_false_iff_not]
  intro e
  have h1 : (lowN a)[j]? = (lowN b)[j]? := by rw [e]
  simp only [lowN, List.getElem?_map, List.getElem?_eq_getElem ha, List.getElem?_eq_getElem hb, Option.map_some, Option.some.injEq] at h1
  apply h
  have e1 : a.getD j [] = a[j] := by simp [ha]
  have e2 : b.getD j [] = b[j] := by simp [hb]
  rw [e1, e2]; exact h1
end N
set_option maxRecDepth 3000 in
set_option maxHeartbeats 1000000 in
theorem rSame_any (a b : List (List UInt8)) (ao bo : Option Addr) (la lb ca cb : Nat) (w : World) (hla : Hid (a.length = la)) (hlb : Hid (b.length = lb)) (hsa : SlS w ao a) (hsb : SlS w bo b) (hma : la ≤ 9223372036854775807) (ha : Hid (Sane a)) (hb : Hid (Sane b)) :
    Calls Tryz.prog 50 #[.slice ao la ca, .slice bo lb cb] w fun e w' => e = .returned (.bool (N.same a b)) ∧ Below w.heap.size w w' := by
  have HSA := hide hsa
  have HSB := hide hsb
  clear hsa hsb
  by_cases h : la = lb
  · subst h
    go_enter Tryz.func50, Tryz.ntmps50
    go_wp2
    go_loopw [5] (fun i wr => ∃ j : Nat, i = .int .i64 (j : Int) ∧ j ≤ la ∧ Hid (N.lowN (a.take j) = N.lowN (b.take j)) ∧ Below w.heap.size w wr) (fun i _ => la - (intOf i).toNat)
    case atStart => exact ⟨0, rfl, by omega, rfl, Below.refl _ _⟩
    case round =>
      obtain ⟨j, rfl, hj, HE, hB⟩ := hrel
      have hz := hB.size
      by_cases hlt : j < la
      · obtain ⟨b1, o1, rfl, hb1, hc1⟩ := HSA.out (by have := hla.out; omega)
        obtain ⟨b2, o2, rfl, hb2, hc2⟩ := HSB.out (by have := hlb.out; omega)
        have hx0 := hc1 j (by have := hla.out; omega)
        have hy0 := hc2 j (by have := hlb.out; omega)
        have hx := (hB.cell (p := ⟨b1, o1 + j, none⟩) hb1).trans hx0
        have hy := (hB.cell (p := ⟨b2, o2 + j, none⟩) hb2).trans hy0
        have hta := N.take_nextN a j (by have := hla.out; omega)
        have htb := N.take_nextN b j (by have := hlb.out; omega)
        have hsf := @N.same_false a b j (by have := hla.out; omega) (by have := hlb.out; omega)
        have hxl := ha.out.at j
        have hyl := hb.out.at j
        clear hc1 hc2
        generalize a.getD j [] = x at hx hx0 hta hsf hxl
        generalize b.getD j [] = y at hy hy0 htb hsf hyl
        have HX0 := hide hx0
        have HY0 := hide hy0
        have HTA := hide hta
        have HTB := hide htb
        have HSF := hide hsf
        have HB := hide hB
        have hj1 : (j : Int) < (la : Int) := by omega
        clear hx0 hy0 hta htb hsf hB
        by_cases hxy : N.lowL x = N.lowL y
        · have HXY := hide hxy
          have e1 : (N.lowL x == N.lowL y) = true := by rw [hxy]; exact beq_self_eq_true _
          have e2 : (N.lowL x != N.lowL y) = false := by rw [hxy]; exact bne_self_eq_false _
          clear hxy
          go_wp2
          go_region_with (first
            | (go_at_call_of 78 x; refine (rLowText_any ⟨x.toArray⟩ x _ rfl (by exact hxl)).mono ?_; rintro e w3 ⟨rfl, hB3⟩; have HB3 := hide ((below_drew HB.out).trans (hB3.mono hz)); have hz3 := HB3.out.size; have hy3 : w3.cell? ⟨b2, o2 + j, none⟩ = some (.string ⟨y.toArray⟩) := (HB3.out.cell (p := ⟨b2, o2 + j, none⟩) hb2).trans HY0.out; clear hB3)
            | (go_at_call_of 78 y; refine (rLowText_any ⟨y.toArray⟩ y _ rfl (by exact hyl)).mono ?_; rintro e w4 ⟨rfl, hB4⟩; have HB4 := hide (HB3.out.trans (hB4.mono hz3)); clear hB4))
          all_goals
            go_wp2
            go_roundw
            case rel => exact ⟨j + 1, by go_num, by omega, (by show _ = _; rw [HTA.out, HTB.out]; have h1 := HE.out; have h2 := HXY.out; unfold N.lowN at h1 ⊢; rw [List.map_append, List.map_append, h1]; simp [h2]), HB4.out⟩
            case measure => simp [intOf]; omega
        · have e1 : (N.lowL x == N.lowL y) = false := beq_eq_false_iff_ne.2 hxy
          have e2 : (N.lowL x != N.lowL y) = true := bne_iff_ne.2 hxy
          go_wp2
          go_region_with (first
            | (go_at_call_of 78 x; refine (rLowText_any ⟨x.toArray⟩ x _ rfl (by exact hxl)).mono ?_; rintro e w3 ⟨rfl, hB3⟩; have HB3 := hide ((below_drew HB.out).trans (hB3.mono hz)); have hz3 := HB3.out.size; have hy3 : w3.cell? ⟨b2, o2 + j, none⟩ = some (.string ⟨y.toArray⟩) := (HB3.out.cell (p := ⟨b2, o2 + j, none⟩) hb2).trans HY0.out; clear hB3)
            | (go_at_call_of 78 y; refine (rLowText_any ⟨y.toArray⟩ y _ rfl (by exact hyl)).mono ?_; rintro e w4 ⟨rfl, hB4⟩; have HB4 := hide (HB3.out.trans (hB4.mono hz3)); clear hB4))
          all_goals
            go_wp2
            go_ret
            exact ⟨by rw [HSF.out hxy]; rfl, HB4.out⟩
      · obtain rfl : j = la := by omega
        have HS : Hid (N.same a b = true) := by
          show _ = _
          unfold N.same
          rw [decide_eq_true_eq]
          have h1 := HE.out
          rw [List.take_of_length_le (by rw [hla.out]; exact Nat.le_refl _), List.take_of_length_le (by rw [hlb.out]; exact Nat.le_refl _)] at h1
          exact h1
        go_wp2
        go_ret
        exact ⟨by rw [HS.out]; rfl, hB⟩
  · have hz : N.same a b = false := by
      unfold N.same
      rw [decide_eq_false_iff_not]
      intro e
      have := congrArg List.length e
      rw [N.lowN_len, N.lowN_len, hla.out, hlb.out] at this
      exact h this
    have hne : ((la : Int) != (lb : Int)) = true := by simp; omega
    rw [hz]
    go_enter Tryz.func50, Tryz.ntmps50
    go_wp2
    go_ret
    exact ⟨rfl, Below.refl _ _⟩
set_option maxRecDepth 5000 in
theorem rWithin_any (a b : List (List UInt8)) (ao bo : Option Addr) (la lb ca cb : Nat) (w : World) (hla : Hid (a.length = la)) (hlb : Hid (b.length = lb)) (hsa : SlS w ao a) (hsb : SlS w bo b) (hma : la ≤ 9223372036854775807) (hca : la ≤ ca) (ha : Hid (Sane a)) (hb : Hid (Sane b)) :
    Calls Tryz.prog 56 #[.slice ao la ca, .slice bo lb cb] w fun e w' => e = .returned (.bool (N.within a b)) ∧ Below w.heap.size w w' := by
  have HSA := hide hsa
  have HSB := hide hsb
  clear hsa hsb
  by_cases h : lb ≤ la
  · have hz : N.within a b = N.same (a.drop (la - lb)) b := by
      unfold N.within; rw [hla.out, hlb.out, decide_eq_true h, Bool.true_and]
    rw [hz]
    obtain ⟨ao', hsl, hs'⟩ := slice_from (k := la - lb) (x := (la : Int) - (lb : Int)) (by omega) HSA.out hla.out (by omega) hca
    have HS' := hide hs'
    clear hs'
    go_enter Tryz.func56, Tryz.ntmps56
    go_wp2_with (go_at_call 50; refine (rSame_any (a.drop (la - lb)) b ao' bo _ lb _ cb _ (by show _ = _; rw [List.length_drop, hla.out]) hlb HS'.out HSB.out (by omega) (ha.out.drop _) hb).mono ?_; rintro e w' ⟨rfl, hm⟩)
    go_ret
    exact ⟨rfl, hm⟩
  · have hz : N.within a b = false := by
      unfold N.within; rw [hla.out, hlb.out, decide_eq_false h, Bool.false_and]
    rw [hz]
    have hm2 : lb ≤ la ∨ la < lb := by omega
    go_enter Tryz.func56, Tryz.ntmps56
    go_wp2
    go_ret
    exact ⟨rfl, Below.refl _ _⟩
end Go.Proofs.YtdldaphkiphpnaaGreat

/- stage3/RefD -/
/- signetref3's Compare. -/
namespace Go.Proofs.YtdldaphkiphpnaaGreat
open Go.RowKit
namespace N
set_option maxRecDepth 5000 in
theorem less_is : ∀ a b : List UInt8, Op.bytesLess a b = decide (cmpB a b = -1)
  | [], [] => rfl
  | [], _ :: _ => rfl
  | _ :: _, [] => rfl
  | a :: x, b :: y => by
    show (decide (a < b) || (a == b && Op.bytesLess x y)) = decide ((if cmpI a.toNat b.toNat = 0 then cmpB x y else cmpI a.toNat b.toNat) = -1)
    rw [less_is x y]
    have hlt : (a < b) = (a.toNat < b.toNat) := propext UInt8.lt_iff_toNat_lt
    have heq : (a == b) = decide (a.toNat = b.toNat) := by
      by_cases h : a = b
      · subst h; simp
      · rw [beq_eq_false_iff_ne.2 h, eq_comm, decide_eq_false_iff_not]
        exact fun e => h (UInt8.toNat_inj.1 e)
    rw [heq]
    simp only [hlt]
    unfold cmpI
    rcases Nat.lt_trichotomy a.toNat b.toNat with h | h | h
    · simp [h]
    · simp [h]
    · have h1 : ¬ (a.toNat < b.toNat) := by omega
      have h2 : ¬ (a.toNat = b.toNat) := by omega
      simp [h, h1, h2]
end N
set_option maxRecDepth 3000 in
set_option maxHeartbeats 4000000 in
theorem rCompare_any (a b : List (List UInt8)) (ao bo : Option Addr) (la lb ca cb : Nat) (w : World) (hla : Hid (a.length = la)) (hlb : Hid (b.length = lb)) (hsa : SlS w ao a) (hsb : SlS w bo b) (hma : la ≤ 1000000) (hmb : lb ≤ 1000000) (ha : Hid (Sane a)) (hb : Hid (Sane b)) :
    Calls Tryz.prog 99 #[.slice ao la ca, .slice bo lb cb] w fun e w' => e = .returned (.int .i64 (N.cmpN a b)) ∧ Below w.heap.size w w' := by
  have HSA := hide hsa
  have HSB := hide hsb
  clear hsa hsb
  go_enter Tryz.func99, Tryz.ntmps99
  go_wp2
  go_loopw [5] (fun i wr => ∃ j : Nat, i = .int .i64 ((j : Int) + 1) ∧ j ≤ la ∧ j ≤ lb ∧ Hid (N.cmpN a b = N.cmpR (a.reverse.drop j) (b.reverse.drop j)) ∧ Below w.heap.size w wr) (fun i _ => la + 1 - (intOf i).toNat)
  case atStart => exact ⟨0, rfl, by omega, by omega, rfl, Below.refl _ _⟩
  case round =>
    obtain ⟨j, rfl, hja, hjb, HC, hB⟩ := hrel
    have hz := hB.size
    by_cases hlt : j < la ∧ j < lb
    · obtain ⟨hlta, hltb⟩ := hlt
      obtain ⟨b1, o1, rfl, hb1, hc1⟩ := HSA.out (by have := hla.out; omega)
      obtain ⟨b2, o2, rfl, hb2, hc2⟩ := HSB.out (by have := hlb.out; omega)
      obtain ⟨ia, hia⟩ : ∃ ia, ia = la - 1 - j := ⟨_, rfl⟩
      obtain ⟨ib, hib⟩ : ∃ ib, ib = lb - 1 - j := ⟨_, rfl⟩
      have hn := N.cmpR_next a b j (by have := hla.out; omega) (by have := hlb.out; omega)
      rw [hla.out, hlb.out, ← hia, ← hib] at hn
      have hx0 := hc1 ia (by have := hla.out; omega)
      have hy0 := hc2 ib (by have := hlb.out; omega)
      have hx := (hB.cell (p := ⟨b1, o1 + ia, none⟩) hb1).trans hx0
      have hy := (hB.cell (p := ⟨b2, o2 + ib, none⟩) hb2).trans hy0
      have hxl := ha.out.at ia
      have hyl := hb.out.at ib
      clear hc1 hc2
      generalize a.getD ia [] = x at hx hx0 hn hxl
      generalize b.getD ib [] = y at hy hy0 hn hyl
      have e3 : IntKind.i64.wrap ((la : Int) - ((j : Int) + 1)) = (ia : Int) := by rw [IntKind.wrap_i64]; omega
      have e4 : IntKind.i64.wrap ((lb : Int) - ((j : Int) + 1)) = (ib : Int) := by rw [IntKind.wrap_i64]; omega
      have hj1 : (ia : Int) < (la : Int) := by omega
      have hj2 : (ib : Int) < (lb : Int) := by omega
      have hl := N.less_is (N.lowL x) (N.lowL y)
      have hbd := N.cmpL_bounds x y
      have hzz := @N.cmpL_zero x y
      have hcl : N.cmpB (N.lowL x) (N.lowL y) = N.cmpL x y := rfl
      rw [hcl] at hl
      generalize hcc : N.cmpL x y = c at hn hl hbd hzz
      have HX0 := hide hx0
      have HY0 := hide hy0
      have HN := hide hn
      have HB := hide hB
      have HZZ := hide hzz
      have HJ := hide (And.intro hia hib)
      clear hx0 hy0 hn hB hzz hcl hcc hia hib
      have hc3 : c = -1 ∨ c = 0 ∨ c = 1 := by omega
      rcases hc3 with rfl | rfl | rfl
      · have hl1 : Op.bytesLess (N.lowL x) (N.lowL y) = true := by rw [hl]; rfl
        clear hl
        go_wp2
        go_region_with (first
          | (go_at_call_of 78 x; refine (rLowText_any ⟨x.toArray⟩ x _ rfl (by exact hxl)).mono ?_; rintro e w3 ⟨rfl, hB3⟩; have HB3 := hide ((below_drew HB.out).trans (hB3.mono hz)); have hz3 := HB3.out.size; have hy3 : w3.cell? ⟨b2, o2 + ib, none⟩ = some (.string ⟨y.toArray⟩) := (HB3.out.cell (p := ⟨b2, o2 + ib, none⟩) hb2).trans HY0.out; clear hB3)
          | (go_at_call_of 78 y; refine (rLowText_any ⟨y.toArray⟩ y _ rfl (by exact hyl)).mono ?_; rintro e w4 ⟨rfl, hB4⟩; have HB4 := hide (HB3.out.trans (hB4.mono hz3)); clear hB4))
        all_goals
          go_wp2
          go_ret
          exact ⟨by rw [HC.out, HN.out]; rfl, HB4.out⟩
      · have hl1 : Op.bytesLess (N.lowL x) (N.lowL y) = false := by rw [hl]; rfl
        have he1 : (N.lowL x == N.lowL y) = true := beq_iff_eq.2 (HZZ.out.1 rfl)
        clear hl
        go_wp2
        go_region_with (first
          | (go_at_call_of 78 x; refine (rLowText_any ⟨x.toArray⟩ x _ rfl (by exact hxl)).mono ?_; rintro e w3 ⟨rfl, hB3⟩; have HB3 := hide ((below_drew HB.out).trans (hB3.mono hz)); have hz3 := HB3.out.size; have hy3 : w3.cell? ⟨b2, o2 + ib, none⟩ = some (.string ⟨y.toArray⟩) := (HB3.out.cell (p := ⟨b2, o2 + ib, none⟩) hb2).trans HY0.out; clear hB3)
          | (go_at_call_of 78 y; refine (rLowText_any ⟨y.toArray⟩ y _ rfl (by exact hyl)).mono ?_; rintro e w4 ⟨rfl, hB4⟩; have HB4 := hide (HB3.out.trans (hB4.mono hz3)); clear hB4))
        all_goals
          go_wp2
          go_roundw
          case rel => exact ⟨j + 1, by go_num, by omega, by omega, (by show _ = _; rw [HC.out, HN.out]; simp), HB4.out⟩
          case measure => simp [intOf]; omega
      · have hl1 : Op.bytesLess (N.lowL x) (N.lowL y) = false := by rw [hl]; rfl
        have he1 : (N.lowL x == N.lowL y) = false := beq_eq_false_iff_ne.2 (fun e => absurd (HZZ.out.2 e) (by decide))
        clear hl
        go_wp2
        go_region_with (first
          | (go_at_call_of 78 x; refine (rLowText_any ⟨x.toArray⟩ x _ rfl (by exact hxl)).mono ?_; rintro e w3 ⟨rfl, hB3⟩; have HB3 := hide ((below_drew HB.out).trans (hB3.mono hz)); have hz3 := HB3.out.size; have hy3 : w3.cell? ⟨b2, o2 + ib, none⟩ = some (.string ⟨y.toArray⟩) := (HB3.out.cell (p := ⟨b2, o2 + ib, none⟩) hb2).trans HY0.out; clear hB3)
          | (go_at_call_of 78 y; refine (rLowText_any ⟨y.toArray⟩ y _ rfl (by exact hyl)).mono ?_; rintro e w4 ⟨rfl, hB4⟩; have HB4 := hide (HB3.out.trans (hB4.mono hz3)); clear hB4))
        all_goals
          go_wp2
          go_ret
          exact ⟨by rw [HC.out, HN.out]; rfl, HB4.out⟩
    · have hend := N.cmpR_end a b j (by rw [hla.out]; omega) (by rw [hlb.out]; omega) (by rw [hla.out, hlb.out]; omega)
      rw [hla.out, hlb.out] at hend
      have HE := hide hend
      clear hend
      have hstop : j = la ∨ j = lb := by omega
      rcases Nat.lt_trichotomy la lb with h | h | h
      · have hcI : Hid (N.cmpI la lb = -1) := by show _ = _; unfold N.cmpI; rw [if_pos h]
        have h1 : ¬ ((j : Int) + 1 ≤ (la : Int)) := by omega
        go_wp2
        go_ret
        exact ⟨by rw [HC.out, HE.out, hcI.out]; rfl, hB⟩
      · subst h
        have hcI : Hid (N.cmpI la la = 0) := N.cmpI_self la
        have h1 : ¬ ((j : Int) + 1 ≤ (la : Int)) := by omega
        go_wp2
        go_ret
        exact ⟨by rw [HC.out, HE.out, hcI.out]; rfl, hB⟩
      · have hcI : Hid (N.cmpI la lb = 1) := by show _ = _; unfold N.cmpI; rw [if_neg (by omega), if_pos h]
        have h1 : (j : Int) + 1 ≤ (la : Int) := by omega
        have h2 : ¬ ((j : Int) + 1 ≤ (lb : Int)) := by omega
        go_wp2
        go_ret
        exact ⟨by rw [HC.out, HE.out, hcI.out]; rfl, hB⟩
end Go.Proofs.YtdldaphkiphpnaaGreat

