/- The law NameOrder returns true, for every three names. -/
import Derived.Test.YtecikfdnnjinpaaDoorRefD
namespace Go.Proofs.YtecikfdnnjinpaaDoor
open Go.RowKit
theorem same_cmp (a b : List (List UInt8)) : N.same a b = (N.cmpN a b == 0) := by
  unfold N.same
  by_cases h : N.lowN a = N.lowN b
  · rw [decide_eq_true h, N.cmpN_zero.2 h]; rfl
  · rw [decide_eq_false h, eq_comm, beq_eq_false_iff_ne]
    exact fun e => h (N.cmpN_zero.1 e)
set_option maxRecDepth 3000 in
set_option maxHeartbeats 2000000 in
theorem nameOrder_walk (a b c : List (List UInt8)) (ao bo co : Option Addr) (la lb lc ca cb cc : Nat) (w : World) (hla : Hid (a.length = la)) (hlb : Hid (b.length = lb)) (hlc : Hid (c.length = lc)) (hsa : SlS w ao a) (hsb : SlS w bo b) (hsc : SlS w co c) (hma : la ≤ 9223372036854775807) (hmb : lb ≤ 9223372036854775807) (hmc : lc ≤ 9223372036854775807) (hTab : Tabs w) :
    Calls Tryd.prog 6 #[.slice ao la ca, .slice bo lb cb, .slice co lc cc] w fun e w' => e = .returned (.bool true) ∧ Below w.heap.size w w' := by
  have HT := hide hTab
  have HSA := hide hsa
  have HSB := hide hsb
  have HSC := hide hsc
  clear hTab hsa hsb hsc
  have hnot : ∀ (x : Bool) (w : World), (Op.unary .not (.bool x)).run Tryd.prog w = .ok (.bool (!x)) w := fun _ _ => rfl
  go_enter Tryd.func6, Tryd.ntmps6
  go_wp2_with (go_at_call 9; refine (known_any _ (by exact HT.out)).mono ?_; rintro e w1 ⟨rfl, hb1⟩)
  refine (light_any a ao la ca _ hla (by exact HSA.out.below hb1 (Nat.le_refl _)) hma).mono ?_
  rintro e w2 ⟨t, rfl, hta, rfl⟩
  cases t with
  | false =>
    go_wp2
    go_ret
    exact ⟨rfl, hb1⟩
  | true =>
    have HLA := hide (hta rfl)
    clear hta
    go_wp2_with fail
    refine (light_any b bo lb cb _ hlb (by exact HSB.out.below hb1 (Nat.le_refl _)) hmb).mono ?_
    rintro e w2 ⟨t, rfl, htb, rfl⟩
    cases t with
    | false =>
      go_wp2
      go_ret
      exact ⟨rfl, hb1⟩
    | true =>
      have HLB := hide (htb rfl)
      clear htb
      go_wp2_with fail
      refine (light_any c co lc cc _ hlc (by exact HSC.out.below hb1 (Nat.le_refl _)) hmc).mono ?_
      rintro e w2 ⟨t, rfl, htc, rfl⟩
      cases t with
      | false =>
        go_wp2
        go_ret
        exact ⟨rfl, hb1⟩
      | true =>
        have HLC := hide (htc rfl)
        have HAs : Hid (Sane a) := (HLA.out.small).sane
        have HBs : Hid (Sane b) := (HLB.out.small).sane
        have HCs : Hid (Sane c) := (HLC.out.small).sane
        have hla2 : la ≤ 200 := by rw [← hla.out]; exact HLA.out.1
        have hlb2 : lb ≤ 200 := by rw [← hlb.out]; exact HLB.out.1
        clear htc hma hmb
        have hneg := N.cmpN_neg a b
        have htr := @N.cmpN_trans a b c
        have hsm := same_cmp a b
        have hlow := N.cmpN_low a b
        have hx := N.cmpN_bounds a b
        have hy := N.cmpN_bounds b c
        have hz := N.cmpN_bounds a c
        obtain ⟨x, hxe⟩ : ∃ x, N.cmpN a b = x := ⟨_, rfl⟩
        obtain ⟨y, hye⟩ : ∃ y, N.cmpN b c = y := ⟨_, rfl⟩
        obtain ⟨z, hze⟩ : ∃ z, N.cmpN a c = z := ⟨_, rfl⟩
        rw [hxe] at hneg htr hsm hlow hx
        rw [hye] at htr hy
        rw [hze] at htr hz
        have HX := hide hxe
        have HY := hide hye
        have HZ := hide hze
        have HN := hide hneg
        have HTR := hide htr
        have HSM := hide hsm
        have HLW := hide hlow
        clear hxe hye hze hneg htr hsm hlow
        go_wp2_with fail
        refine (compare_any a b ao bo la lb ca cb _ hla hlb (by exact HSA.out.below hb1 (Nat.le_refl _)) (by exact HSB.out.below hb1 (Nat.le_refl _)) (by omega) (by omega) HAs HBs).mono ?_
        rw [HX.out]
        rintro e w3 ⟨rfl, hm3⟩
        have hb3 := hb1.trans (drew_below _ hm3)
        clear hb1 hm3
        go_wp2_with fail
        refine (compare_any b c bo co lb lc cb cc _ hlb hlc (by exact HSB.out.below hb3 (Nat.le_refl _)) (by exact HSC.out.below hb3 (Nat.le_refl _)) (by omega) (by omega) HBs HCs).mono ?_
        rw [HY.out]
        rintro e w4 ⟨rfl, hm4⟩
        have hb4 := hb3.trans (drew_below _ hm4)
        clear hb3 hm4
        go_wp2_with fail
        refine (compare_any a c ao co la lc ca cc _ hla hlc (by exact HSA.out.below hb4 (Nat.le_refl _)) (by exact HSC.out.below hb4 (Nat.le_refl _)) (by omega) (by omega) HAs HCs).mono ?_
        rw [HZ.out]
        rintro e w5 ⟨rfl, hm5⟩
        have hb5 := hb4.trans (drew_below _ hm5)
        have hz5 := hb5.size
        clear hb4 hm5
        go_wp2_with fail
        refine (rCompare_any a b ao bo la lb ca cb _ hla hlb (by exact HSA.out.below hb5 (Nat.le_refl _)) (by exact HSB.out.below hb5 (Nat.le_refl _)) (by omega) (by omega) HAs HBs).mono ?_
        rw [HX.out]
        rintro e w6 ⟨rfl, hB6⟩
        have hb6 := hb5.trans (hB6.mono hz5)
        clear hb5 hB6 hz5
        go_wp2_with fail
        refine (compare_any b a bo ao lb la cb ca _ hlb hla (by exact HSB.out.below hb6 (Nat.le_refl _)) (by exact HSA.out.below hb6 (Nat.le_refl _)) (by omega) (by omega) HBs HAs).mono ?_
        rw [HN.out]
        rintro e w7 ⟨rfl, hm7⟩
        have hb7 := hb6.trans (drew_below _ hm7)
        clear hb6 hm7
        go_wp2_with fail
        refine (same_any a b ao bo la lb ca cb _ hla hlb (by exact HSA.out.below hb7 (Nat.le_refl _)) (by exact HSB.out.below hb7 (Nat.le_refl _)) (by omega) (by omega) HAs HBs).mono ?_
        rw [HSM.out]
        rintro e w8 ⟨rfl, hm8⟩
        have hb8 := hb7.trans (drew_below _ hm8)
        clear hb7 hm8
        go_wp2_with fail
        refine (same_any a b ao bo la lb ca cb _ hla hlb (by exact HSA.out.below hb8 (Nat.le_refl _)) (by exact HSB.out.below hb8 (Nat.le_refl _)) (by omega) (by omega) HAs HBs).mono ?_
        rw [HSM.out]
        rintro e w9 ⟨rfl, hm9⟩
        have hb9 := hb8.trans (drew_below _ hm9)
        have hz9 := hb9.size
        clear hb8 hm9
        go_wp2_with fail
        refine (rSame_any a b ao bo la lb ca cb _ hla hlb (by exact HSA.out.below hb9 (Nat.le_refl _)) (by exact HSB.out.below hb9 (Nat.le_refl _)) (by omega) HAs HBs).mono ?_
        rw [HSM.out]
        rintro e wa ⟨rfl, hBa⟩
        have hba := hb9.trans (hBa.mono hz9)
        have hza := hba.size
        clear hb9 hBa hz9
        go_wp2_with fail
        refine (lower_any a ao la ca _ hla (by exact HSA.out.below hba (Nat.le_refl _)) HLA.out.small).mono ?_
        rintro e wb ⟨vb, rfl, hOb, hBb⟩
        obtain ⟨ab, cb', rfl, hSb, _⟩ := hOb.open
        have hbb := hba.trans (hBb.mono hza)
        have HSb := hide hSb
        clear hba hBb hOb hSb
        go_wp2_with fail
        refine (compare_any (N.lowN a) b ab bo _ lb cb' cb _ rfl hlb (by exact HSb.out) (by exact HSB.out.below hbb (Nat.le_refl _)) (by rw [N.lowN_len, hla.out]; omega) (by omega) (by intro l hl; simp only [N.lowN, List.mem_map] at hl; obtain ⟨l', hl', rfl⟩ := hl; rw [N.lowL_len]; exact HAs.out l' hl') HBs).mono ?_
        rw [HLW.out]
        rintro e wc ⟨rfl, hmc⟩
        have hbc := hbb.trans (drew_below _ hmc)
        clear hbb hmc
        have hT2 := HTR.out
        go_wp2
        all_goals
          go_ret
          exact ⟨rfl, hbc⟩
end Go.Proofs.YtecikfdnnjinpaaDoor
