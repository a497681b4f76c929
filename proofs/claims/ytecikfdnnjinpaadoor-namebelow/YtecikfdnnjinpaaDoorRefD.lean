/- signetref3's Compare. -/
import Derived.Test.YtecikfdnnjinpaaDoorRefC
namespace Go.Proofs.YtecikfdnnjinpaaDoor
open Go.RowKit
namespace N
theorem less_is : ∀ a b : List UInt8, Op.bytesLess a b = decide (cmpB a b = -1)
  | [], [] => rfl
  | [], _ :: _ => rfl
  | _ :: _, [] => rfl
  | a :: x, b :: y => by
    show (decide (a < b) || (a == b && Op.bytesLess x y)) = decide ((if cmpI a.toNat b.toNat = 0 then cmpB x y else cmpI a.toNat b.toNat) = -1)
    rw [less_is x y]
    have hlt : (a < b) = (a.toNat < b.toNat) := propext UInt8.lt_iff_toNat_lt
    have heq : (a == b) = decide (a.toNat = b.toNat) := by
      by_cases h : a = b
      · subst h; simp
      · rw [beq_eq_false_iff_ne.2 h, eq_comm, decide_eq_false_iff_not]
        exact fun e => h (UInt8.toNat_inj.1 e)
    rw [heq]
    simp only [hlt]
    unfold cmpI
    rcases Nat.lt_trichotomy a.toNat b.toNat with h | h | h
    · simp [h]
    · simp [h]
    · have h1 : ¬ (a.toNat < b.toNat) := by omega
      have h2 : ¬ (a.toNat = b.toNat) := by omega
      simp [h, h1, h2]
end N
set_option maxRecDepth 3000 in
set_option maxHeartbeats 4000000 in
theorem rCompare_any (a b : List (List UInt8)) (ao bo : Option Addr) (la lb ca cb : Nat) (w : World) (hla : Hid (a.length = la)) (hlb : Hid (b.length = lb)) (hsa : SlS w ao a) (hsb : SlS w bo b) (hma : la ≤ 1000000) (hmb : lb ≤ 1000000) (ha : Hid (Sane a)) (hb : Hid (Sane b)) :
    Calls Tryd.prog 29 #[.slice ao la ca, .slice bo lb cb] w fun e w' => e = .returned (.int .i64 (N.cmpN a b)) ∧ Below w.heap.size w w' := by
  have HSA := hide hsa
  have HSB := hide hsb
  clear hsa hsb
  go_enter Tryd.func29, Tryd.ntmps29
  go_wp2
  go_loopw [5] (fun i wr => ∃ j : Nat, i = .int .i64 ((j : Int) + 1) ∧ j ≤ la ∧ j ≤ lb ∧ Hid (N.cmpN a b = N.cmpR (a.reverse.drop j) (b.reverse.drop j)) ∧ Below w.heap.size w wr) (fun i _ => la + 1 - (intOf i).toNat)
  case atStart => exact ⟨0, rfl, by omega, by omega, rfl, Below.refl _ _⟩
  case round =>
    obtain ⟨j, rfl, hja, hjb, HC, hB⟩ := hrel
    have hz := hB.size
    by_cases hlt : j < la ∧ j < lb
    · obtain ⟨hlta, hltb⟩ := hlt
      obtain ⟨b1, o1, rfl, hb1, hc1⟩ := HSA.out (by have := hla.out; omega)
      obtain ⟨b2, o2, rfl, hb2, hc2⟩ := HSB.out (by have := hlb.out; omega)
      obtain ⟨ia, hia⟩ : ∃ ia, ia = la - 1 - j := ⟨_, rfl⟩
      obtain ⟨ib, hib⟩ : ∃ ib, ib = lb - 1 - j := ⟨_, rfl⟩
      have hn := N.cmpR_next a b j (by have := hla.out; omega) (by have := hlb.out; omega)
      rw [hla.out, hlb.out, ← hia, ← hib] at hn
      have hx0 := hc1 ia (by have := hla.out; omega)
      have hy0 := hc2 ib (by have := hlb.out; omega)
      have hx := (hB.cell (p := ⟨b1, o1 + ia, none⟩) hb1).trans hx0
      have hy := (hB.cell (p := ⟨b2, o2 + ib, none⟩) hb2).trans hy0
      have hxl := ha.out.at ia
      have hyl := hb.out.at ib
      clear hc1 hc2
      generalize a.getD ia [] = x at hx hx0 hn hxl
      generalize b.getD ib [] = y at hy hy0 hn hyl
      have e3 : IntKind.i64.wrap ((la : Int) - ((j : Int) + 1)) = (ia : Int) := by rw [IntKind.wrap_i64]; omega
      have e4 : IntKind.i64.wrap ((lb : Int) - ((j : Int) + 1)) = (ib : Int) := by rw [IntKind.wrap_i64]; omega
      have hj1 : (ia : Int) < (la : Int) := by omega
      have hj2 : (ib : Int) < (lb : Int) := by omega
      have hl := N.less_is (N.lowL x) (N.lowL y)
      have hbd := N.cmpL_bounds x y
      have hzz := @N.cmpL_zero x y
      have hcl : N.cmpB (N.lowL x) (N.lowL y) = N.cmpL x y := rfl
      rw [hcl] at hl
      generalize hcc : N.cmpL x y = c at hn hl hbd hzz
      have HX0 := hide hx0
      have HY0 := hide hy0
      have HN := hide hn
      have HB := hide hB
      have HZZ := hide hzz
      have HJ := hide (And.intro hia hib)
      clear hx0 hy0 hn hB hzz hcl hcc hia hib
      have hc3 : c = -1 ∨ c = 0 ∨ c = 1 := by omega
      rcases hc3 with rfl | rfl | rfl
      · have hl1 : Op.bytesLess (N.lowL x) (N.lowL y) = true := by rw [hl]; rfl
        clear hl
        go_wp2
        go_region_with (first
          | (go_at_call_of 43 x; refine (rLowText_any ⟨x.toArray⟩ x _ rfl (by exact hxl)).mono ?_; rintro e w3 ⟨rfl, hB3⟩; have HB3 := hide ((below_drew HB.out).trans (hB3.mono hz)); have hz3 := HB3.out.size; have hy3 : w3.cell? ⟨b2, o2 + ib, none⟩ = some (.string ⟨y.toArray⟩) := (HB3.out.cell (p := ⟨b2, o2 + ib, none⟩) hb2).trans HY0.out; clear hB3)
          | (go_at_call_of 43 y; refine (rLowText_any ⟨y.toArray⟩ y _ rfl (by exact hyl)).mono ?_; rintro e w4 ⟨rfl, hB4⟩; have HB4 := hide (HB3.out.trans (hB4.mono hz3)); clear hB4))
        all_goals
          go_wp2
          go_ret
          exact ⟨by rw [HC.out, HN.out]; rfl, HB4.out⟩
      · have hl1 : Op.bytesLess (N.lowL x) (N.lowL y) = false := by rw [hl]; rfl
        have he1 : (N.lowL x == N.lowL y) = true := beq_iff_eq.2 (HZZ.out.1 rfl)
        clear hl
        go_wp2
        go_region_with (first
          | (go_at_call_of 43 x; refine (rLowText_any ⟨x.toArray⟩ x _ rfl (by exact hxl)).mono ?_; rintro e w3 ⟨rfl, hB3⟩; have HB3 := hide ((below_drew HB.out).trans (hB3.mono hz)); have hz3 := HB3.out.size; have hy3 : w3.cell? ⟨b2, o2 + ib, none⟩ = some (.string ⟨y.toArray⟩) := (HB3.out.cell (p := ⟨b2, o2 + ib, none⟩) hb2).trans HY0.out; clear hB3)
          | (go_at_call_of 43 y; refine (rLowText_any ⟨y.toArray⟩ y _ rfl (by exact hyl)).mono ?_; rintro e w4 ⟨rfl, hB4⟩; have HB4 := hide (HB3.out.trans (hB4.mono hz3)); clear hB4))
        all_goals
          go_wp2
          go_roundw
          case rel => exact ⟨j + 1, by go_num, by omega, by omega, (by show _ = _; rw [HC.out, HN.out]; simp), HB4.out⟩
          case measure => simp [intOf]; omega
      · have hl1 : Op.bytesLess (N.lowL x) (N.lowL y) = false := by rw [hl]; rfl
        have he1 : (N.lowL x == N.lowL y) = false := beq_eq_false_iff_ne.2 (fun e => absurd (HZZ.out.2 e) (by decide))
        clear hl
        go_wp2
        go_region_with (first
          | (go_at_call_of 43 x; refine (rLowText_any ⟨x.toArray⟩ x _ rfl (by exact hxl)).mono ?_; rintro e w3 ⟨rfl, hB3⟩; have HB3 := hide ((below_drew HB.out).trans (hB3.mono hz)); have hz3 := HB3.out.size; have hy3 : w3.cell? ⟨b2, o2 + ib, none⟩ = some (.string ⟨y.toArray⟩) := (HB3.out.cell (p := ⟨b2, o2 + ib, none⟩) hb2).trans HY0.out; clear hB3)
          | (go_at_call_of 43 y; refine (rLowText_any ⟨y.toArray⟩ y _ rfl (by exact hyl)).mono ?_; rintro e w4 ⟨rfl, hB4⟩; have HB4 := hide (HB3.out.trans (hB4.mono hz3)); clear hB4))
        all_goals
          go_wp2
          go_ret
          exact ⟨by rw [HC.out, HN.out]; rfl, HB4.out⟩
    · have hend := N.cmpR_end a b j (by rw [hla.out]; omega) (by rw [hlb.out]; omega) (by rw [hla.out, hlb.out]; omega)
      rw [hla.out, hlb.out] at hend
      have HE := hide hend
      clear hend
      have hstop : j = la ∨ j = lb := by omega
      rcases Nat.lt_trichotomy la lb with h | h | h
      · have hcI : Hid (N.cmpI la lb = -1) := by show _ = _; unfold N.cmpI; rw [if_pos h]
        have h1 : ¬ ((j : Int) + 1 ≤ (la : Int)) := by omega
        go_wp2
        go_ret
        exact ⟨by rw [HC.out, HE.out, hcI.out]; rfl, hB⟩
      · subst h
        have hcI : Hid (N.cmpI la la = 0) := N.cmpI_self la
        have h1 : ¬ ((j : Int) + 1 ≤ (la : Int)) := by omega
        go_wp2
        go_ret
        exact ⟨by rw [HC.out, HE.out, hcI.out]; rfl, hB⟩
      · have hcI : Hid (N.cmpI la lb = 1) := by show _ = _; unfold N.cmpI; rw [if_neg (by omega), if_pos h]
        have h1 : (j : Int) + 1 ≤ (la : Int) := by omega
        have h2 : ¬ ((j : Int) + 1 ≤ (lb : Int)) := by omega
        go_wp2
        go_ret
        exact ⟨by rw [HC.out, HE.out, hcI.out]; rfl, hB⟩
end Go.Proofs.YtecikfdnnjinpaaDoor
