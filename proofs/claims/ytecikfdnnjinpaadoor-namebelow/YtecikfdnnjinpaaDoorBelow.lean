/- The law NameBelow returns true, for every three names. -/
import Derived.Test.YtecikfdnnjinpaaDoorRefD
namespace Go.Proofs.YtecikfdnnjinpaaDoor
open Go.RowKit
theorem wpList_append_SN {w : World} {ops : Array Oper} {rest : List Oper} {o : Oper} {a : Act} {Q : Exit → Act → World → Prop} (hgd : o.guard = none) (s x : Operand)
    (ho : o.op = .call { callee := .builtin .append, args := #[s, x], argTypes := #[25, 25] }) (base : Nat) (v : Value) (n : List (List UInt8)) (hs : a.eval s = v) (hown : OwnS w base v n)
    (ao : Option Addr) (m c : Nat) (n2 : List (List UInt8)) (hx : a.eval x = .slice ao m c) (hm : n2.length = m) (hsrc : SlS w ao n2) (hnil : ao = none → c = 0) (hbound : n.length + m ≤ 1099511627776) (hbase : base ≤ w.heap.size)
    (h : ∀ v' w', OwnS w' base v' (n ++ n2) → w.grownBy w' v.ownBlock → wpList Tryd.prog ops Q rest (a.put o.dst v') w') : wpList Tryd.prog ops Q (o :: rest) a w := by
  cases ao with
  | none =>
    obtain ⟨i0, hi, hz0, hz1, hz2⟩ := info_parts infoS
    have h0 : n2.length = 0 := by
      rcases Nat.eq_zero_or_pos n2.length with h | h
      · exact h
      · obtain ⟨b, o, e, _⟩ := hsrc h; cases e
    obtain rfl : n2 = [] := List.eq_nil_of_length_eq_zero h0
    obtain rfl := hnil rfl
    obtain rfl : m = 0 := by rw [← hm]; rfl
    refine wpList_append_own_none hgd s x 25 ho base 9 i0 1 Tryd.underlying25 hi v n.length (vs n) hs hown hx ?_
    exact h v w (by rw [List.append_nil]; exact hown) ⟨rfl, rfl, rfl, Nat.le_refl _, fun _ _ _ => rfl⟩
  | some ad => exact wpList_append_S hgd s x ho base v n hs hown ad m c n2 hx hm hsrc hbound hbase h
set_option maxRecDepth 3000 in
set_option maxHeartbeats 2000000 in
theorem nameBelow_walk (a b c : List (List UInt8)) (ao bo co : Option Addr) (la lb lc ca cb cc : Nat) (w : World) (hla : Hid (a.length = la)) (hlb : Hid (b.length = lb)) (hlc : Hid (c.length = lc)) (hsa : SlS w ao a) (hsb : SlS w bo b) (hsc : SlS w co c) (hma : la ≤ 9223372036854775807) (hmb : lb ≤ 9223372036854775807) (hmc : lc ≤ 9223372036854775807) (hna : ao = none → ca = 0) (hnb : bo = none → cb = 0) (hcc : lc ≤ cc) (hTab : Tabs w) :
    Calls Tryd.prog 7 #[.slice ao la ca, .slice bo lb cb, .slice co lc cc] w fun e w' => e = .returned (.bool true) ∧ Below w.heap.size w w' := by
  have HT := hide hTab
  have HSA := hide hsa
  have HSB := hide hsb
  have HSC := hide hsc
  have HNA := hide hna
  have HNB := hide hnb
  clear hTab hsa hsb hsc hna hnb
  have hnot : ∀ (x : Bool) (w : World), (Op.unary .not (.bool x)).run Tryd.prog w = .ok (.bool (!x)) w := fun _ _ => rfl
  go_enter Tryd.func7, Tryd.ntmps7
  go_wp2_with (go_at_call 9; refine (known_any _ (by exact HT.out)).mono ?_; rintro e w1 ⟨rfl, hb1⟩)
  refine (light_any a ao la ca _ hla (by exact HSA.out.below hb1 (Nat.le_refl _)) hma).mono ?_
  rintro e w2 ⟨t, rfl, hta, rfl⟩
  cases t with
  | false =>
    go_wp2
    go_ret
    exact ⟨rfl, hb1⟩
  | true =>
    have HLA := hide (hta rfl)
    clear hta
    go_wp2_with fail
    refine (light_any b bo lb cb _ hlb (by exact HSB.out.below hb1 (Nat.le_refl _)) hmb).mono ?_
    rintro e w2 ⟨t, rfl, htb, rfl⟩
    cases t with
    | false =>
      go_wp2
      go_ret
      exact ⟨rfl, hb1⟩
    | true =>
      have HLB := hide (htb rfl)
      clear htb
      go_wp2_with fail
      refine (light_any c co lc cc _ hlc (by exact HSC.out.below hb1 (Nat.le_refl _)) hmc).mono ?_
      rintro e w2 ⟨t, rfl, htc, rfl⟩
      cases t with
      | false =>
        go_wp2
        go_ret
        exact ⟨rfl, hb1⟩
      | true =>
        have HLC := hide (htc rfl)
        have HAs : Hid (Sane a) := (HLA.out.small).sane
        have HBs : Hid (Sane b) := (HLB.out.small).sane
        have HCs : Hid (Sane c) := (HLC.out.small).sane
        have HABs : Hid (Sane (a ++ b)) := fun l hl => (List.mem_append.1 hl).elim (HAs.out l) (HBs.out l)
        have hla2 : la ≤ 200 := by rw [← hla.out]; exact HLA.out.1
        have hlb2 : lb ≤ 200 := by rw [← hlb.out]; exact HLB.out.1
        have hz1 := hb1.size
        clear htc hma hmb
        go_wp2_with (first
          | (at_builtin; refine wpList_append_SN rfl (.const (.slice none 0 0)) (.tmp 23) rfl w.heap.size (.slice none 0 0) [] rfl (OwnS.nil _ _) ao la ca a rfl hla.out (by exact HSA.out.below hb1 (Nat.le_refl _)) HNA.out (by simp; omega) hz1 ?_; intro v4 w4 hO4 hG4; have hb4 := grown_belowS (OwnS.nil _ _) hG4 hb1 hz1; rw [List.nil_append] at hO4; have HO4 := hide hO4; have hz4 := hb4.size; clear hG4 hO4)
          | (at_builtin; refine wpList_append_SN rfl (.tmp 24) (.tmp 25) rfl w.heap.size v4 a rfl (by exact HO4.out) bo lb cb b rfl hlb.out (by exact HSB.out.below hb4 (Nat.le_refl _)) HNB.out (by rw [hla.out]; omega) hz4 ?_; intro v5 w5 hO5 hG5; have hb5 := grown_belowS HO4.out hG5 hb4 hz4; have HO5 := hide hO5; clear hG5 hO5))
        clear hb1 hb4 hz4 hz1 HO4
        obtain ⟨an, cn, rfl, hSn, _, hcn, _⟩ := HO5.out.open
        have hab : (a ++ b).length = la + lb := by rw [List.length_append, hla.out, hlb.out]
        have HAB := hide hab
        rw [hab] at hcn
        rw [hab]
        have HSn := hide hSn
        clear hSn HO5 hab
        have hw1 := N.within_app a b
        have HW1 := hide hw1
        have hlow := fun h => N.cmpN_below a b h
        have HLOW := hide hlow
        have hbes := N.cmpN_beside a b c
        have hcb := N.cmpN_bounds b c
        clear hw1 hlow
        obtain ⟨t, ht⟩ : ∃ t, N.within c b = t := ⟨_, rfl⟩
        rw [ht] at hbes
        have HBES := hide hbes
        have HTT := hide ht
        clear ht hbes
        go_wp2_with fail
        refine (within_any (a ++ b) b an bo (la + lb) lb cn cb _ HAB hlb (by exact HSn.out) (by exact HSB.out.below hb5 (Nat.le_refl _)) (by omega) (by omega) hcn HABs HBs).mono ?_
        rw [HW1.out]
        rintro e w6 ⟨rfl, hm6⟩
        have hb6 := hb5.trans (drew_below _ hm6)
        have HSn6 := hide (HSn.out.below (drew_below _ hm6) (Nat.le_refl _))
        clear hb5 hm6 HSn
        go_wp2_with fail
        refine (within_any c b co bo lc lb cc cb _ hlc hlb (by exact HSC.out.below hb6 (Nat.le_refl _)) (by exact HSB.out.below hb6 (Nat.le_refl _)) (by omega) (by omega) hcc HCs HBs).mono ?_
        rw [HTT.out]
        rintro e w7 ⟨rfl, hm7⟩
        have hb7 := hb6.trans (drew_below _ hm7)
        have hz7 := hb7.size
        have HSn7 := hide (HSn6.out.below (drew_below _ hm7) (Nat.le_refl _))
        clear hb6 hm7 HSn6
        go_wp2_with fail
        refine (rWithin_any c b co bo lc lb cc cb _ hlc hlb (by exact HSC.out.below hb7 (Nat.le_refl _)) (by exact HSB.out.below hb7 (Nat.le_refl _)) (by omega) hcc HCs HBs).mono ?_
        rw [HTT.out]
        rintro e w8 ⟨rfl, hB8⟩
        have hb8 := hb7.trans (hB8.mono hz7)
        have HSn8 := hide (HSn7.out.below hB8 (Nat.le_refl _))
        clear hb7 hB8 HSn7 hz7
        rcases Nat.lt_or_ge 0 la with h0 | h0
        rotate_left
        · have hp : ¬ ((0 : Int) < (la : Int)) := by omega
          have hb9 := hb8
          have HSn9 := HSn8
          clear hb8 HSn8
          go_wp2_with fail
          refine (within_any c b co bo lc lb cc cb _ hlc hlb (by exact HSC.out.below hb9 (Nat.le_refl _)) (by exact HSB.out.below hb9 (Nat.le_refl _)) (by omega) (by omega) hcc HCs HBs).mono ?_
          rw [HTT.out]
          rintro e wa ⟨rfl, hma⟩
          have hba := hb9.trans (drew_below _ hma)
          have HSna := hide (HSn9.out.below (drew_below _ hma) (Nat.le_refl _))
          clear hb9 hma HSn9
          cases t with
          | true =>
            go_wp2
            go_ret
            exact ⟨rfl, hba⟩
          | false =>
            have HEQ := hide (HBES.out rfl)
            clear HBES
            go_wp2_with fail
            refine (compare_any b c bo co lb lc cb cc _ hlb hlc (by exact HSB.out.below hba (Nat.le_refl _)) (by exact HSC.out.below hba (Nat.le_refl _)) (by omega) (by omega) HBs HCs).mono ?_
            rintro e wb ⟨rfl, hmb⟩
            have hbb := hba.trans (drew_below _ hmb)
            have HSnb := hide (HSna.out.below (drew_below _ hmb) (Nat.le_refl _))
            clear hba hmb HSna
            go_wp2_with fail
            refine (compare_any (a ++ b) c an co (la + lb) lc cn cc _ HAB hlc (by exact HSnb.out) (by exact HSC.out.below hbb (Nat.le_refl _)) (by omega) (by omega) HABs HCs).mono ?_
            rw [HEQ.out]
            rintro e wc ⟨rfl, hmc⟩
            have hbc := hbb.trans (drew_below _ hmc)
            go_wp2
            go_ret
            exact ⟨by simp, hbc⟩
        · have hp : (0 : Int) < (la : Int) := by omega
          go_wp2_with fail
          refine (compare_any b (a ++ b) bo an lb (la + lb) cb cn _ hlb HAB (by exact HSB.out.below hb8 (Nat.le_refl _)) (by exact HSn8.out) (by omega) (by omega) HBs HABs).mono ?_
          rw [HLOW.out (by intro e; have := hla.out; rw [e] at this; simp at this; omega)]
          rintro e w9 ⟨rfl, hm9⟩
          have hb9 := hb8.trans (drew_below _ hm9)
          have HSn9 := hide (HSn8.out.below (drew_below _ hm9) (Nat.le_refl _))
          clear hb8 hm9 HSn8
          go_wp2_with fail
          refine (within_any c b co bo lc lb cc cb _ hlc hlb (by exact HSC.out.below hb9 (Nat.le_refl _)) (by exact HSB.out.below hb9 (Nat.le_refl _)) (by omega) (by omega) hcc HCs HBs).mono ?_
          rw [HTT.out]
          rintro e wa ⟨rfl, hma⟩
          have hba := hb9.trans (drew_below _ hma)
          have HSna := hide (HSn9.out.below (drew_below _ hma) (Nat.le_refl _))
          clear hb9 hma HSn9
          cases t with
          | true =>
            go_wp2
            go_ret
            exact ⟨rfl, hba⟩
          | false =>
            have HEQ := hide (HBES.out rfl)
            clear HBES
            go_wp2_with fail
            refine (compare_any b c bo co lb lc cb cc _ hlb hlc (by exact HSB.out.below hba (Nat.le_refl _)) (by exact HSC.out.below hba (Nat.le_refl _)) (by omega) (by omega) HBs HCs).mono ?_
            rintro e wb ⟨rfl, hmb⟩
            have hbb := hba.trans (drew_below _ hmb)
            have HSnb := hide (HSna.out.below (drew_below _ hmb) (Nat.le_refl _))
            clear hba hmb HSna
            go_wp2_with fail
            refine (compare_any (a ++ b) c an co (la + lb) lc cn cc _ HAB hlc (by exact HSnb.out) (by exact HSC.out.below hbb (Nat.le_refl _)) (by omega) (by omega) HABs HCs).mono ?_
            rw [HEQ.out]
            rintro e wc ⟨rfl, hmc⟩
            have hbc := hbb.trans (drew_below _ hmc)
            go_wp2
            go_ret
            exact ⟨by simp, hbc⟩
end Go.Proofs.YtecikfdnnjinpaaDoor
