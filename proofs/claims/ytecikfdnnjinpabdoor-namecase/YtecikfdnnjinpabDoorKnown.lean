/- signetlaw3.known: the chapter's examples. -/
import Derived.Test.YtecikfdnnjinpabDoorParse
namespace Go.Proofs.YtecikfdnnjinpabDoor
open Go.RowKit
theorem parse_good (s : ByteArray) (bs : List UInt8) (n : List (List UInt8)) (len : Nat) (w : World) (hs : Hid (s.data.toList = bs)) (hn : s.size ≤ 100000) (hTab : Tabs w) (hr : Hid (N.rd bs = some n)) (hc : Hid (N.chk n = 0)) (hl : Hid (n.length = len)) :
    Calls Tryd.prog 7 #[.string s] w fun e w' => ∃ ao c, e = .returned (.tuple #[.slice ao len c, .int .i64 0]) ∧ SlS w' ao n ∧ len ≤ c ∧ Below w.heap.size w w' := by
  have h0 := hl.out
  subst h0
  refine (parse_any s bs w hs hn hTab).mono ?_
  rintro e w' ⟨⟨n', v, h1, _, rfl, hO⟩ | ⟨c, h1, h2, _⟩, hB⟩
  · rw [hr.out] at h1
    cases h1
    obtain ⟨ao, c, rfl, hS, _, hlc, _⟩ := hO.open
    exact ⟨ao, c, rfl, hS, hlc, hB⟩
  · exfalso
    rcases h1 with ⟨h1, _⟩ | ⟨n', h1, h3⟩
    · rw [hr.out] at h1; cases h1
    · rw [hr.out] at h1; cases h1
      exact h2 (h3.symm.trans hc.out)
theorem parse_bad (s : ByteArray) (bs : List UInt8) (c : Int) (w : World) (hs : Hid (s.data.toList = bs)) (hn : s.size ≤ 100000) (hTab : Tabs w) (hr : Hid (N.perr bs c)) (hc : c ≠ 0) :
    Calls Tryd.prog 7 #[.string s] w fun e w' => e = .returned (.tuple #[.slice none 0 0, .int .i64 c]) ∧ Below w.heap.size w w' := by
  refine (parse_any s bs w hs hn hTab).mono ?_
  rintro e w' ⟨⟨n', v, h1, h3, rfl, hO⟩ | ⟨c', h1, h2, rfl⟩, hB⟩
  · exfalso
    rcases hr.out with ⟨h4, _⟩ | ⟨n', h4, h5⟩
    · rw [h4] at h1; cases h1
    · rw [h4] at h1; cases h1
      exact hc (h5.symm.trans h3)
  · have e : c' = c := by
      rcases hr.out with ⟨h4, h5⟩ | ⟨n', h4, h5⟩ <;> rcases h1 with ⟨h6, h7⟩ | ⟨n'', h6, h7⟩
      · rw [h5, h7]
      · rw [h4] at h6; cases h6
      · rw [h4] at h6; cases h6
      · rw [h4] at h6; cases h6; rw [← h5, ← h7]
    subst e
    exact ⟨rfl, hB⟩
theorem open_good (b : List UInt8) (n : List (List UInt8)) (ln : Nat) (sz : Int) (ao : Option Addr) (len cap : Nat) (w : World) (hl : Hid (b.length = len)) (hs : SlL w ao b) (hm : len ≤ 1000000000) (hcap : len ≤ cap) (hr : Hid (N.opn b = some n)) (h255 : Hid (N.size n ≤ 255)) (hln : Hid (n.length = ln)) (hsz : Hid ((N.size n : Int) = sz)) :
    Calls Tryd.prog 14 #[.slice ao len cap] w fun e w' => ∃ ao' c, e = .returned (.tuple #[.slice ao' ln c, .int .i64 sz, .int .i64 0]) ∧ SlS w' ao' n ∧ Below w.heap.size w w' := by
  have h0 := hln.out
  have h1 := hsz.out
  subst h0 h1
  refine (open_any b ao len cap w hl hs hm hcap).mono ?_
  rintro e w' ⟨⟨n', v, h1, _, rfl, hO⟩ | ⟨h1, _⟩ | ⟨n', h1, h2, _⟩, hB⟩
  · rw [hr.out] at h1
    cases h1
    obtain ⟨ao', c, rfl, hS, _⟩ := hO.open
    exact ⟨ao', c, rfl, hS, hB⟩
  · rw [hr.out] at h1; cases h1
  · rw [hr.out] at h1; cases h1
    exact absurd h255.out (by omega)
def nEx : List (List UInt8) := [[97], [69, 120, 97, 109, 112, 108, 101]]
theorem kn_rd : N.rd [97, 46, 69, 120, 97, 109, 112, 108, 101, 46] = some nEx := by decide +kernel
theorem kn_bad : N.rd [97, 46, 46, 98] = none := by decide +kernel
theorem kn_chk : N.chk nEx = 0 := by decide +kernel
theorem kn_opn : N.opn [1, 97, 0, 9] = some [[97]] := N.opn_wire [[97]] [9] (by decide) (by decide)
theorem kn_text : N.text nEx = [97, 46, 69, 120, 97, 109, 112, 108, 101, 46] := by decide +kernel
theorem kn_cmp : N.cmpN [[101, 120, 97, 109, 112, 108, 101]] nEx = -1 := by decide +kernel
theorem kn_within : N.within nEx [[69, 88, 65, 77, 80, 76, 69]] = true := by decide +kernel
theorem kn_wire : (N.wire nEx).length = 11 := by decide +kernel
theorem kn_small : N.Small nEx := ⟨by decide, by decide⟩
theorem kn_sane : Sane nEx := fun l hl => Nat.le_trans (kn_small.2 l hl) (by decide)
theorem kn_wild : wild [[42]] = true := by decide +kernel
theorem sane_one (l : List UInt8) (h : l.length ≤ 100) : Sane [l] := fun x hx => by rw [List.mem_singleton.1 hx]; omega
set_option maxRecDepth 3000 in
set_option maxHeartbeats 1000000 in
theorem known_any (w : World) (hTab : Tabs w) : Calls Tryd.prog 5 #[] w fun e w' => e = .returned (.bool true) ∧ Below w.heap.size w w' := by
  have HT0 := hide hTab
  have hT2 := hTab.2
  clear hTab
  go_enter Tryd.func5, Tryd.ntmps5
  go_wp2_with fail
  refine (parse_good ⟨#[97, 46, 69, 120, 97, 109, 112, 108, 101, 46]⟩ [97, 46, 69, 120, 97, 109, 112, 108, 101, 46] nEx 2 _ rfl (by decide) (by exact HT0.out) kn_rd kn_chk rfl).mono ?_
  rintro e w1 ⟨a1, c1, rfl, hS1, hc1, hB1⟩
  have HT1 := hide (HT0.out.below hB1 hT2)
  have hz1 := hB1.size
  have HS1 := hide hS1
  clear hS1
  go_wp2_with fail
  refine (parse_bad ⟨#[97, 46, 46, 98]⟩ [97, 46, 46, 98] 30 _ rfl (by decide) (by exact HT1.out) (Or.inl ⟨kn_bad, rfl⟩) (by decide)).mono ?_
  rintro e w2 ⟨rfl, hB2⟩
  have hb2 := hB1.trans (hB2.mono hz1)
  have hz2 := hb2.size
  have HS2 := hide (HS1.out.below hB2 (Nat.le_refl _))
  clear HS1 hB1 hB2 HT0 HT1
  go_wp2_with fail
  refine (open_good [1, 97, 0, 9] [[97]] 1 3 _ 4 4 _ rfl (by exact SlL.litm w2 [1, 97, 0, 9] _ 5 (0, 0) rfl) (by decide) (by decide) kn_opn (hide (by decide)) rfl rfl).mono ?_
  rintro e w3 ⟨a3, c3, rfl, _, hB3⟩
  have hb23 : Below w2.heap.size w2 w3 := ((Below.refl _ _).alloc (Nat.le_refl _) _).trans (hB3.mono (by simp))
  have hb3 := hb2.trans (hb23.mono hz2)
  have hz3 := hb3.size
  have HS3 := hide (HS2.out.below hb23 (Nat.le_refl _))
  clear HS2 hb2 hB3 hb23
  go_wp2_with fail
  refine (text_any nEx a1 2 c1 _ rfl (by exact HS3.out) kn_small).mono ?_
  rw [kn_text]
  rintro e w4 ⟨rfl, hB4⟩
  have hb4 := hb3.trans (hB4.mono hz3)
  have hz4 := hb4.size
  have HS4 := hide (HS3.out.below hB4 (Nat.le_refl _))
  clear HS3 hb3 hB4
  go_wp2_with fail
  refine (compare_any [[101, 120, 97, 109, 112, 108, 101]] nEx _ a1 1 2 1 c1 _ rfl rfl (by exact SlS.one w4 _ 9) (by exact HS4.out.alloc _) (by decide) (by decide) (sane_one _ (by decide)) kn_sane).mono ?_
  rw [kn_cmp]
  rintro e w5 ⟨rfl, hm5⟩
  have hb45 : Below w4.heap.size w4 w5 := ((Below.refl _ _).alloc (Nat.le_refl _) _).trans (drew_below _ hm5)
  have hb5 := hb4.trans (hb45.mono hz4)
  have hz5 := hb5.size
  have HS5 := hide (HS4.out.below hb45 (Nat.le_refl _))
  clear HS4 hb4 hb45 hm5
  go_wp2_with fail
  refine (within_any nEx [[69, 88, 65, 77, 80, 76, 69]] a1 _ 2 1 c1 1 _ rfl rfl (by exact HS5.out.alloc _) (by exact SlS.one w5 _ 9) (by decide) (by decide) hc1 kn_sane (sane_one _ (by decide))).mono ?_
  rw [kn_within]
  rintro e w6 ⟨rfl, hm6⟩
  have hb56 : Below w5.heap.size w5 w6 := ((Below.refl _ _).alloc (Nat.le_refl _) _).trans (drew_below _ hm6)
  have hb6 := hb5.trans (hb56.mono hz5)
  have hz6 := hb6.size
  have HS6 := hide (HS5.out.below hb56 (Nat.le_refl _))
  clear HS5 hb5 hb56 hm6
  go_wp2_with fail
  refine (wire_any nEx a1 2 c1 _ rfl (by exact HS6.out) kn_small).mono ?_
  rintro e w7 ⟨v7, rfl, hO7, hB7⟩
  obtain ⟨a7, c7, rfl, _⟩ := hO7.open
  rw [kn_wire]
  have hb7 := hb6.trans (hB7.mono hz6)
  have hz7 := hb7.size
  clear HS6 hb6 hB7 hO7
  go_wp2_with fail
  refine (wild_any [[42]] _ 1 1 _ rfl (by exact SlS.one w7 _ 9)).mono ?_
  rw [kn_wild]
  rintro e w8 ⟨rfl, rfl⟩
  go_wp2
  go_ret
  exact ⟨rfl, hb7.alloc hz7 _⟩
end Go.Proofs.YtecikfdnnjinpabDoor
