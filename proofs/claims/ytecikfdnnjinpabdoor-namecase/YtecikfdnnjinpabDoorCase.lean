/- The law NameCase returns true, for every name and all turns. -/
import Derived.Test.YtecikfdnnjinpabDoorCase0
namespace Go.Proofs.YtecikfdnnjinpabDoor
open Go.RowKit
set_option maxRecDepth 3000 in
set_option maxHeartbeats 1000000 in
theorem nameCase_walk (n : List (List UInt8)) (ao bo : Option Addr) (len cap lb cb : Nat) (B : Nat → Bool) (w : World) (hl : Hid (n.length = len)) (hs : SlS w ao n) (hb : SlT w bo lb B) (hm : len ≤ 9223372036854775807) (hmb : lb ≤ 9223372036854775807) (hTab : Tabs w) :
    Calls Tryd.prog 4 #[.slice ao len cap, .slice bo lb cb] w fun e w' => e = .returned (.bool true) ∧ Below w.heap.size w w' := by
  have HT := hide hTab
  have HS := hide hs
  have HB := hide hb
  have hT2 := hTab.2
  clear hTab hs hb
  have hnot : ∀ (x : Bool) (w : World), (Op.unary .not (.bool x)).run Tryd.prog w = .ok (.bool (!x)) w := fun _ _ => rfl
  go_enter Tryd.func4, Tryd.ntmps4
  go_wp2_with (go_at_call 5; refine (known_any _ (by exact HT.out)).mono ?_; rintro e w1 ⟨rfl, hb1⟩)
  refine (right_any n ao len cap _ hl (by exact HS.out.below hb1 (Nat.le_refl _)) hm).mono ?_
  rintro e wA ⟨t, rfl, ht, rfl⟩
  cases t with
  | false =>
    go_wp2
    go_ret
    exact ⟨rfl, hb1⟩
  | true =>
    have HR := hide (ht rfl)
    clear ht
    rcases Nat.lt_or_ge 300 lb with h300 | h300
    · go_wp2
      go_ret
      exact ⟨rfl, hb1⟩
    · have hz1 := hb1.size
      have hlen : len ≤ 127 := by rw [← hl.out]; exact HR.out.1
      go_wp2
      go_loopw [7, 6, 5] (fun i k m wr => ∃ (j kk : Nat) (q : List (List UInt8)), i = .int .i64 (j : Int) ∧ j ≤ len ∧ k = .int .i64 (kk : Int) ∧ kk ≤ 63 * j ∧ OwnS wr wA.heap.size m q ∧ Hid (N.lowN q = N.lowN (n.take j)) ∧ Below wA.heap.size wA wr) (fun i _ _ _ => len - (intOf i).toNat)
      case atStart => exact ⟨0, 0, [], rfl, by omega, rfl, by omega, OwnS.nil _ _, (by show _ = _; rfl), Below.refl _ _⟩
      case round =>
        obtain ⟨j, kk, q, rfl, hj, rfl, hkk, hO, HQ, hB⟩ := hrel
        have hz := hB.size
        by_cases hlt : j < len
        · obtain ⟨b1, o1, rfl, hlb1, hc1⟩ := HS.out (by have := hl.out; omega)
          have hx := (hB.cell (p := ⟨b1, o1 + j, none⟩) (Nat.lt_of_lt_of_le hlb1 hz1)).trans ((hb1.cell (p := ⟨b1, o1 + j, none⟩) hlb1).trans (hc1 j (by have := hl.out; omega)))
          have hxl : (n.getD j []).length ≤ 63 := by
            have h1 : j < n.length := by have := hl.out; omega
            rw [List.getD_eq_getElem?_getD, List.getElem?_eq_getElem h1]
            exact (HR.out.2.1 _ (List.getElem_mem h1)).2
          have hnx := N.take_nextN n j (by have := hl.out; omega)
          clear hc1
          generalize n.getD j [] = x at hx hxl hnx
          have HNX := hide hnx
          clear hnx
          obtain ⟨s, hs, hsd⟩ : ∃ s : ByteArray, (⟨x.toArray⟩ : ByteArray) = s ∧ Hid (s.data.toList = x) := ⟨_, rfl, rfl⟩
          have hsz : s.size ≤ x.length := by rw [← hs]; exact Nat.le_refl _
          have hsz' : x.length ≤ s.size := by rw [← hs]; exact Nat.le_refl _
          rw [hs] at hx
          clear hs
          obtain ⟨c, w2, hcv, hW2, hB2, hz2⟩ := conv_own wr s x hsd.out
          have hO2 := hO.below hB2
          have hb2 := hB.trans (hB2.mono hz)
          generalize hG : wr.heap.size = g at hcv hW2 hz2
          have hgB : wA.heap.size ≤ g := by omega
          go_wp2
          clear hcv hO hB hB2 hx
          go_loopw [9, 6] (fun i k wr => ∃ (t k2 : Nat) (y : List UInt8), i = .int .i64 (t : Int) ∧ t ≤ s.size ∧ k = .int .i64 (k2 : Int) ∧ k2 ≤ 63 * j + t ∧ WrB wr g y ∧ Hid (N.lowL y = N.lowL x) ∧ OwnS wr wA.heap.size u5 q ∧ Below wA.heap.size wA wr) (fun i _ _ => s.size - (intOf i).toNat)
          case atStart => exact ⟨0, kk, x, rfl, by omega, rfl, by omega, hW2, (by show _ = _; rfl), hO2, hb2⟩
          case round =>
            clear hW2 hO2 hb2 hz2
            obtain ⟨t, k2, y, rfl, ht, rfl, hk2, hW, HY, hO, hB⟩ := hrel
            have hyl : y.length ≤ x.length := Nat.le_of_eq (N.lenL_alike HY.out)
            have hyl' : x.length ≤ y.length := Nat.le_of_eq (N.lenL_alike HY.out).symm
            have HW := hide hW
            by_cases htl : t < s.size
            · have c0 := hW.cell t (by omega)
              have f0 := hW.frozen t (by omega)
              clear hW
              obtain ⟨z, hz⟩ : ∃ z, y.getD t 0 = z := ⟨_, rfl⟩
              rw [hz] at c0
              have HZ := hide hz
              clear hz
              have hzl := z.toNat_lt
              by_cases hk : k2 < lb
              · obtain ⟨b2, o2, rfl, hlb2, hc2⟩ := HB.out (by omega)
                have ht0 := (hB.cell (p := ⟨b2, o2 + k2, none⟩) (Nat.lt_of_lt_of_le hlb2 hz1)).trans ((hb1.cell (p := ⟨b2, o2 + k2, none⟩) hlb2).trans (hc2 k2 hk))
                clear hc2
                rcases Bool.eq_false_or_eq_true (B k2) with hBk | hBk <;> rw [hBk] at ht0 <;> clear hBk
                · by_cases h65 : z.toNat < 65
                  · go_wp2
                    go_roundw
                    case rel => exact ⟨t + 1, k2 + 1, y, by go_num, by omega, by go_num, by omega, HW.out, HY, hO, hB⟩
                    case measure => simp [intOf]; omega
                  · by_cases h90 : z.toNat ≤ 90
                    · have hlw := N.xor_low z (by omega)
                      have hxor := xor_is z
                      generalize z ^^^ 32 = z2 at hlw hxor
                      rw [← HZ.out] at hlw
                      have HLW := hide hlw
                      clear hlw
                      go_wp2
                      go_roundw
                      case rel => exact ⟨t + 1, k2 + 1, y.set t z2, by go_num, by omega, by go_num, by omega, HW.out.set t (by omega) z2, (by show _ = _; rw [N.lowL_set y t z2 (by omega) HLW.out]; exact HY.out), OwnS.wr hO HW.out _ _, hB.setCell hgB _⟩
                      case measure => simp [intOf]; omega
                    · by_cases h97 : z.toNat < 97
                      · go_wp2
                        go_roundw
                        case rel => exact ⟨t + 1, k2 + 1, y, by go_num, by omega, by go_num, by omega, HW.out, HY, hO, hB⟩
                        case measure => simp [intOf]; omega
                      · by_cases h122 : z.toNat ≤ 122
                        · have hlw := N.xor_low z (by omega)
                          have hxor := xor_is z
                          generalize z ^^^ 32 = z2 at hlw hxor
                          rw [← HZ.out] at hlw
                          have HLW := hide hlw
                          clear hlw
                          go_wp2
                          go_roundw
                          case rel => exact ⟨t + 1, k2 + 1, y.set t z2, by go_num, by omega, by go_num, by omega, HW.out.set t (by omega) z2, (by show _ = _; rw [N.lowL_set y t z2 (by omega) HLW.out]; exact HY.out), OwnS.wr hO HW.out _ _, hB.setCell hgB _⟩
                          case measure => simp [intOf]; omega
                        · go_wp2
                          go_roundw
                          case rel => exact ⟨t + 1, k2 + 1, y, by go_num, by omega, by go_num, by omega, HW.out, HY, hO, hB⟩
                          case measure => simp [intOf]; omega
                · go_wp2
                  go_roundw
                  case rel => exact ⟨t + 1, k2 + 1, y, by go_num, by omega, by go_num, by omega, HW.out, HY, hO, hB⟩
                  case measure => simp [intOf]; omega
              · go_wp2
                go_roundw
                case rel => exact ⟨t + 1, k2 + 1, y, by go_num, by omega, by go_num, by omega, HW.out, HY, hO, hB⟩
                case measure => simp [intOf]; omega
            · obtain rfl : t = s.size := by omega
              have hst := run_str s.size c hW.sl (by omega)
              have hzi := hB.size
              have hql : q.length ≤ 127 := by
                rw [len_alike HQ.out, List.length_take]; omega
              go_wp2_with (at_builtin; refine wpList_append_S rfl (.tmp 85) (.tmp 88) rfl wA.heap.size _ _ rfl (by exact hO.alloc _) _ _ _ [y] rfl rfl (SlS.one _ _ _) (by simp; omega) (by simp; omega) ?_; intro v4 w4 hO4 hG4; have hB4 := grown_belowS (hO.alloc _) hG4 (hB.alloc hzi _) (by simp; omega); clear hG4 hO)
              go_roundw
              case rel => exact ⟨j + 1, k2, q ++ [y], by go_num, by omega, rfl, by omega, hO4, (by show _ = _; rw [HNX.out]; simp only [N.lowN, List.map_append, List.map_cons, List.map_nil]; rw [HY.out]; have := HQ.out; unfold N.lowN at this; rw [this]), hB4⟩
              case measure => simp [intOf]; omega
        · obtain rfl : j = len := by omega
          have hq : N.lowN q = N.lowN n := by
            have h1 := HQ.out
            rwa [← hl.out, List.take_length] at h1
          have HLQ := hide hq
          have HRQ := hide (right_alike HR.out hq)
          have hlq : Hid (q.length = j) := by rw [len_alike hq]; exact hl
          have HSAME : Hid (N.same n q = true) := by unfold N.same; exact decide_eq_true hq.symm
          have HCMP : Hid (N.cmpN n q = 0) := N.cmpN_zero.2 hq.symm
          have HWI : Hid (N.within q n = true) := within_alike hq
          have HTX : Hid (N.rd (N.text q) = some q) := N.rd_text q HRQ.out.nonil
          have htl := N.text_len q
          have hsz := HRQ.out.2.2
          have HLN : Hid ((N.lowN n).length = j) := by rw [N.lowN_len]; exact hl
          clear hq HQ
          obtain ⟨aq, cq, rfl, hSq, _, hlcq, _⟩ := hO.open
          rw [hlq.out] at hlcq ⊢
          have HSQ := hide hSq
          have hb0 := hb1.trans (hB.mono hz1)
          have hz0 := hb0.size
          clear hO hSq hB hz hb1 hz1
          go_wp2_with fail
          refine (text_any q aq j cq _ hlq (by exact HSQ.out) HRQ.out.small).mono ?_
          rintro e w3 ⟨rfl, hB3⟩
          have hb3 := hb0.trans (hB3.mono hz0)
          have hz3 := hb3.size
          have HSQ3 := hide (HSQ.out.below hB3 (Nat.le_refl _))
          clear hb0 hB3 hz0 HSQ
          go_wp2_with fail
          refine (parse_good ⟨(N.text q).toArray⟩ (N.text q) q j _ rfl (by show (N.text q).length ≤ _; omega) (by exact HT.out.below hb3 hT2) HTX HRQ.out.chk hlq).mono ?_
          rintro e w4 ⟨a4, c4, rfl, hS4, _, hB4⟩
          have hb4 := hb3.trans (hB4.mono hz3)
          have HSQ4 := hide (HSQ3.out.below hB4 (Nat.le_refl _))
          have HS4 := hide hS4
          clear hb3 hB4 hz3 hS4 HSQ3
          go_wp2_with fail
          refine (same_any n q ao aq j j cap cq _ hl hlq (by exact HS.out.below hb4 (Nat.le_refl _)) (by exact HSQ4.out) hm hm HR.out.sane HRQ.out.sane).mono ?_
          rw [HSAME.out]
          rintro e w5 ⟨rfl, hm5⟩
          have hb5 := hb4.trans (drew_below _ hm5)
          have HSQ5 := hide (HSQ4.out.below (drew_below _ hm5) (Nat.le_refl _))
          have HS5 := hide (HS4.out.below (drew_below _ hm5) (Nat.le_refl _))
          clear hb4 hm5 HSQ4 HS4
          go_wp2_with fail
          refine (compare_any n q ao aq j j cap cq _ hl hlq (by exact HS.out.below hb5 (Nat.le_refl _)) (by exact HSQ5.out) hm hm HR.out.sane HRQ.out.sane).mono ?_
          rw [HCMP.out]
          rintro e w6 ⟨rfl, hm6⟩
          have hb6 := hb5.trans (drew_below _ hm6)
          have hz6 := hb6.size
          have HSQ6 := hide (HSQ5.out.below (drew_below _ hm6) (Nat.le_refl _))
          have HS6 := hide (HS5.out.below (drew_below _ hm6) (Nat.le_refl _))
          clear hb5 hm6 HSQ5 HS5
          go_wp2_with fail
          refine (lower_any n ao j cap _ hl (by exact HS.out.below hb6 (Nat.le_refl _)) HR.out.small).mono ?_
          rintro e w7 ⟨v7, rfl, hO7, hB7⟩
          obtain ⟨a7, c7, rfl, hS7, _, _⟩ := hO7.open
          rw [HLN.out]
          have hb7 := hb6.trans (hB7.mono hz6)
          have hz7 := hb7.size
          have HSQ7 := hide (HSQ6.out.below hB7 (Nat.le_refl _))
          have HS7 := hide (HS6.out.below hB7 (Nat.le_refl _))
          have HL7 := hide hS7
          clear hb6 hz6 hB7 HSQ6 HS6 hO7 hS7
          go_wp2_with fail
          refine (lower_any q aq j cq _ hlq (by exact HSQ7.out) HRQ.out.small).mono ?_
          rw [HLQ.out]
          rintro e w8 ⟨v8, rfl, hO8, hB8⟩
          obtain ⟨a8, c8, rfl, hS8, _, _⟩ := hO8.open
          rw [HLN.out]
          have hb8 := hb7.trans (hB8.mono hz7)
          have HSQ8 := hide (HSQ7.out.below hB8 (Nat.le_refl _))
          have HS8 := hide (HS7.out.below hB8 (Nat.le_refl _))
          have HL78 := hide (HL7.out.below hB8 (Nat.le_refl _))
          have HL8 := hide hS8
          clear hb7 hz7 hB8 HSQ7 HS7 HL7 hO8 hS8
          go_wp2_with fail
          refine (name_same (N.lowN n) a7 a8 j j c7 c8 _ HLN HLN (by exact HL78.out) (by exact HL8.out) hm).mono ?_
          rintro e w9 ⟨rfl, hm9⟩
          have hb9 := hb8.trans (drew_below _ hm9)
          have HSQ9 := hide (HSQ8.out.below (drew_below _ hm9) (Nat.le_refl _))
          have HS9 := hide (HS8.out.below (drew_below _ hm9) (Nat.le_refl _))
          clear hb8 hm9 HSQ8 HS8 HL78 HL8
          go_wp2_with fail
          refine (name_same q a4 aq j j c4 cq _ hlq hlq (by exact HS9.out) (by exact HSQ9.out) hm).mono ?_
          rintro e wB ⟨rfl, hmB⟩
          have hbB := hb9.trans (drew_below _ hmB)
          have HSQB := hide (HSQ9.out.below (drew_below _ hmB) (Nat.le_refl _))
          clear hb9 hmB HSQ9 HS9
          go_wp2_with fail
          refine (within_any q n aq ao j j cq cap _ hlq hl (by exact HSQB.out) (by exact HS.out.below hbB (Nat.le_refl _)) hm hm hlcq HRQ.out.sane HR.out.sane).mono ?_
          rw [HWI.out]
          rintro e wC ⟨rfl, hmC⟩
          have hbC := hbB.trans (drew_below _ hmC)
          go_wp2
          go_ret
          exact ⟨by simp, hbC⟩
end Go.Proofs.YtecikfdnnjinpabDoor
