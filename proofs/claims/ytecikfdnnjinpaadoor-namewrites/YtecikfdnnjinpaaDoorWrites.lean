/- The law NameWrites returns true, for every name. -/
import Derived.Test.YtecikfdnnjinpaaDoorRef3
namespace Go.Proofs.YtecikfdnnjinpaaDoor
open Go.RowKit
set_option maxRecDepth 3000 in
set_option maxHeartbeats 1000000 in
theorem nameWrites_walk (n : List (List UInt8)) (ao : Option Addr) (len cap : Nat) (w : World) (hl : Hid (n.length = len)) (hs : SlS w ao n) (hm : len ≤ 9223372036854775807) (hTab : Tabs w) :
    Calls Tryd.prog 4 #[.slice ao len cap] w fun e w' => e = .returned (.bool true) ∧ Below w.heap.size w w' := by
  have HT := hide hTab
  have HS := hide hs
  clear hTab hs
  have hnot : ∀ (x : Bool) (w : World), (Op.unary .not (.bool x)).run Tryd.prog w = .ok (.bool (!x)) w := fun _ _ => rfl
  go_enter Tryd.func4, Tryd.ntmps4
  go_wp2_with (go_at_call 9; refine (known_any _ (by exact HT.out)).mono ?_; rintro e w1 ⟨rfl, hB1⟩)
  have hz1 := hB1.size
  have HS1 := hide (HS.out.below hB1 (Nat.le_refl _))
  refine (light_any n ao len cap _ hl (by exact HS1.out) hm).mono ?_
  rintro e w2 ⟨t, rfl, ht, rfl⟩
  cases t with
  | false =>
    go_wp2
    go_ret
    exact ⟨rfl, hB1⟩
  | true =>
    have HL := hide (ht rfl)
    have HSm := hide (HL.out.small)
    clear ht
    have hbd := N.chk_cases n
    go_wp2_with (first
      | (go_at_call 16; refine (check_any n ao len cap _ hl (by exact HS1.out) HSm).mono ?_; rintro e w3 ⟨rfl, rfl⟩)
      | (go_at_call 17; refine (rCheck_any n ao len cap _ hl (by exact HS1.out) HSm).mono ?_; rintro e w3 ⟨rfl, rfl⟩))
    refine (text_any n ao len cap _ hl (by exact HS1.out) HSm).mono ?_
    rintro e w4 ⟨rfl, hB4⟩
    have hb4 := hB1.trans (hB4.mono hz1)
    have hz4 := hb4.size
    have HS4 := hide (HS1.out.below hB4 (Nat.le_refl _))
    clear HS1 hB1 hB4
    go_wp2_with fail
    refine (rText_any n ao len cap _ hl (by exact HS4.out) HL).mono ?_
    rintro e w5 ⟨rfl, hB5⟩
    have hb5 := hb4.trans (hB5.mono hz4)
    have hz5 := hb5.size
    have HS5 := hide (HS4.out.below hB5 (Nat.le_refl _))
    clear HS4 hb4 hB5
    go_wp2_with fail
    refine (wire_any n ao len cap _ hl (by exact HS5.out) HSm).mono ?_
    rintro e w6 ⟨v6, rfl, hO6, hB6⟩
    obtain ⟨a6, c6, rfl, hS6, _⟩ := hO6.open
    have hb6 := hb5.trans (hB6.mono hz5)
    have hz6 := hb6.size
    have HS6 := hide (HS5.out.below hB6 (Nat.le_refl _))
    have HW6 := hide hS6
    clear HS5 hb5 hB6 hO6 hS6
    go_wp2_with fail
    refine (rWire_any n ao len cap _ hl (by exact HS6.out) HSm).mono ?_
    rintro e w7 ⟨v7, rfl, hO7, hB7⟩
    obtain ⟨a7, c7, rfl, hS7, _⟩ := hO7.open
    have hb7 := hb6.trans (hB7.mono hz6)
    have hz7 := hb7.size
    have HS7 := hide (HS6.out.below hB7 (Nat.le_refl _))
    have HW67 := hide (HW6.out.below hB7 (Nat.le_refl _))
    have HW7 := hide hS7
    clear HS6 hb6 hB7 hO7 hS7 HW6
    go_wp2_with fail
    refine (bytes_same (N.wire n) a6 a7 _ _ c6 c7 _ (by exact HW67.out) (by exact HW7.out) rfl rfl).mono ?_
    rintro e w8 ⟨rfl, rfl⟩
    clear HW67 HW7
    go_wp2_with fail
    refine (lower_any n ao len cap _ hl (by exact HS7.out) HSm).mono ?_
    rintro e w9 ⟨v9, rfl, hO9, hB9⟩
    obtain ⟨a9, c9, rfl, hS9, _⟩ := hO9.open
    have hb9 := hb7.trans (hB9.mono hz7)
    have hz9 := hb9.size
    have HS9 := hide (HS7.out.below hB9 (Nat.le_refl _))
    have HL9 := hide hS9
    clear HS7 hb7 hB9 hO9 hS9
    go_wp2_with fail
    refine (rLower_any n ao len cap _ hl (by exact HS9.out) HSm).mono ?_
    rintro e wa ⟨va, rfl, hOa, hBa⟩
    obtain ⟨aa, ca, rfl, hSa, _⟩ := hOa.open
    have hba := hb9.trans (hBa.mono hz9)
    have hza := hba.size
    have HSa := hide (HS9.out.below hBa (Nat.le_refl _))
    have HL9a := hide (HL9.out.below hBa (Nat.le_refl _))
    have HLa := hide hSa
    clear HS9 hb9 hBa hOa hSa HL9
    go_wp2_with fail
    refine (name_same (N.lowN n) a9 aa _ _ c9 ca _ rfl rfl (by exact HL9a.out) (by exact HLa.out) (by rw [N.lowN_len, hl.out]; exact hm)).mono ?_
    rintro e wb ⟨rfl, hmb⟩
    have hbb := hba.trans (drew_below _ hmb)
    have HSb := hide (HSa.out.below (drew_below _ hmb) (Nat.le_refl _))
    clear HL9a HLa HSa hba hmb
    go_wp2_with (first
      | (go_at_call 25; refine (wild_any n ao len cap _ hl (by exact HSb.out)).mono ?_; rintro e w3 ⟨rfl, rfl⟩)
      | (go_at_call 26; refine (rWild_any n ao len cap _ hl (by exact HSb.out)).mono ?_; rintro e w3 ⟨rfl, rfl⟩))
    go_ret
    exact ⟨by simp, hbb⟩
end Go.Proofs.YtecikfdnnjinpaaDoor
