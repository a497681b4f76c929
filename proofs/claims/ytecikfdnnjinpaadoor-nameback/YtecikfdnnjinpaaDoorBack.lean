/- The law NameBack returns true, for every name and all bytes behind it. -/
import Derived.Test.YtecikfdnnjinpaaDoorBack0
import Derived.Test.YtecikfdnnjinpaaDoorHelp
namespace Go.Proofs.YtecikfdnnjinpaaDoor
open Go.RowKit
theorem Right.small {n : List (List UInt8)} (h : Right n) : N.Small n := ⟨by have := h.1; omega, fun l hl => by have := (h.2.1 l hl).2; omega⟩
theorem Right.nonil {n : List (List UInt8)} (h : Right n) : [] ∉ n := fun e => (h.2.1 [] e).1 rfl
theorem Right.chk {n : List (List UInt8)} (h : Right n) : N.chk n = 0 := N.chk_ok h.nonil h.2.2 fun l hl => (h.2.1 l hl).2
set_option maxRecDepth 3000 in
set_option maxHeartbeats 1000000 in
theorem nameBack_walk (n : List (List UInt8)) (b : List UInt8) (ao bo : Option Addr) (len cap lb cb : Nat) (w : World) (hl : Hid (n.length = len)) (hlb : Hid (b.length = lb)) (hs : SlS w ao n) (hb : SlL w bo b) (hm : len ≤ 9223372036854775807) (hmb : lb ≤ 9223372036854775807) (hnil : bo = none → cb = 0) (hTab : Tabs w) :
    Calls Tryd.prog 5 #[.slice ao len cap, .slice bo lb cb] w fun e w' => e = .returned (.bool true) ∧ Below w.heap.size w w' := by
  have HT := hide hTab
  have HS := hide hs
  have HSB := hide hb
  have HNIL := hide hnil
  have hT2 := hTab.2
  clear hTab hs hb hnil
  have hnot : ∀ (x : Bool) (w : World), (Op.unary .not (.bool x)).run Tryd.prog w = .ok (.bool (!x)) w := fun _ _ => rfl
  go_enter Tryd.func5, Tryd.ntmps5
  go_wp2_with (go_at_call 9; refine (known_any _ (by exact HT.out)).mono ?_; rintro e w1 ⟨rfl, hb1⟩)
  refine (right_any n ao len cap _ hl (by exact HS.out.below hb1 (Nat.le_refl _)) hm).mono ?_
  rintro e w2 ⟨t, rfl, ht, rfl⟩
  cases t with
  | false =>
    go_wp2
    go_ret
    exact ⟨rfl, hb1⟩
  | true =>
    have HR := hide (ht rfl)
    clear ht
    rcases Nat.lt_or_ge 100 lb with h100 | h100
    · go_wp2
      go_ret
      exact ⟨rfl, hb1⟩
    · have hz1 := hb1.size
      have HTX : Hid (N.rd (N.text n) = some n) := N.rd_text n HR.out.nonil
      have htl := N.text_len n
      have hsz := HR.out.2.2
      have HSZ := hide hsz
      have HOP : Hid (N.opn (N.wire n ++ b) = some n) := N.opn_wire n b HR.out.nonil (fun l hl => (HR.out.2.1 l hl).2)
      have hwl := N.wire_len n
      have HWL := hide hwl
      clear hwl
      go_wp2_with fail
      refine (text_any n ao len cap _ hl (by exact HS.out.below hb1 (Nat.le_refl _)) HR.out.small).mono ?_
      rintro e w3 ⟨rfl, hB3⟩
      have hb3 := hb1.trans (hB3.mono hz1)
      have hz3 := hb3.size
      clear hb1 hB3 hz1
      go_wp2_with fail
      refine (parse_good ⟨(N.text n).toArray⟩ (N.text n) n len _ rfl (by show (N.text n).length ≤ _; omega) (by exact HT.out.below hb3 hT2) HTX HR.out.chk hl).mono ?_
      rintro e w4 ⟨a4, c4, rfl, hS4, _, hB4⟩
      have hb4 := hb3.trans (hB4.mono hz3)
      have hz4 := hb4.size
      have HS4 := hide hS4
      clear hb3 hB4 hz3 hS4
      go_wp2_with fail
      refine (wire_any n ao len cap _ hl (by exact HS.out.below hb4 (Nat.le_refl _)) HR.out.small).mono ?_
      rintro e w5 ⟨v5, rfl, hO5, hB5⟩
      obtain ⟨a5, c5, rfl, hS5, hn5, _⟩ := hO5.open
      have hb5 := hb4.trans (hB5.mono hz4)
      have hz5 := hb5.size
      have HS45 := hide (HS4.out.below hB5 (Nat.le_refl _))
      have HW5 := hide hS5
      have HN5 := hide hn5
      rw [HWL.out]
      clear hb4 hB5 hz4 HS4 hO5 hS5 hn5
      go_wp2_with (first
        | (at_builtin; refine wpList_append_B rfl (.const (.slice none 0 0)) (.tmp 30) rfl w5.heap.size (.slice none 0 0) [] rfl (OwnB.nil _ _) a5 _ c5 (N.wire n) rfl HWL.out (by exact HW5.out) HN5.out (by simp; omega) (Nat.le_refl _) ?_; intro v6 w6 hO6 hG6; have hB6 := grown_below (OwnB.nil w5 w5.heap.size) hG6 (Below.refl w5.heap.size w5) (Nat.le_refl _); rw [List.nil_append] at hO6; have HO6 := hide hO6; have hz6 := hB6.size; clear hG6 hO6)
        | (at_builtin; refine wpList_append_B rfl (.tmp 31) (.tmp 32) rfl w5.heap.size v6 (N.wire n) rfl (by exact HO6.out) bo lb cb b rfl hlb.out (by exact (HSB.out.below hb5 (Nat.le_refl _)).below hB6 (Nat.le_refl _)) HNIL.out (by rw [HWL.out]; omega) hz6 ?_; intro v7 w7 hO7 hG7; have hB7 := grown_below HO6.out hG7 hB6 hz6; obtain ⟨a7, c7, rfl, hS7, _, hlc7, _⟩ := hO7.open; have HS7 := hide hS7; clear hG7 hO7 hS7))
      have hlen7 : (N.wire n ++ b).length = N.size n + lb := by rw [List.length_append, HWL.out, hlb.out]
      have HLEN7 := hide hlen7
      rw [hlen7] at hlc7
      have hb7 := hb5.trans (hB7.mono hz5)
      have hz7 := hb7.size
      have HS47 := hide (HS45.out.below hB7 (Nat.le_refl _))
      clear hlen7 hb5 hB6 hz6 HO6 HS45
      have hl1 : (N.wire n).length + b.length ≤ c7 := by rw [HWL.out, hlb.out]; exact hlc7
      have hl2 : (N.wire n).length + b.length ≤ 1000000000 := by rw [HWL.out, hlb.out]; omega
      refine (open_good (N.wire n ++ b) n len (N.size n : Int) a7 ((N.wire n).length + b.length) c7 _ (by show _ = _; rw [List.length_append]) (by exact HS7.out) hl2 hl1 HOP HSZ hl rfl).mono ?_
      rintro e w8 ⟨a8, c8, rfl, hS8, hB8⟩
      have hb8 := hb7.trans (hB8.mono hz7)
      have HS48 := hide (HS47.out.below hB8 (Nat.le_refl _))
      have HS8 := hide hS8
      clear hb7 hB8 hz7 HS47 hS8 hl1 hl2
      go_wp2_with fail
      refine (name_same n a4 ao len len c4 cap _ hl hl (by exact HS48.out) (by exact HS.out.below hb8 (Nat.le_refl _)) hm).mono ?_
      rintro e w9 ⟨rfl, hm9⟩
      have hb9 := hb8.trans (drew_below _ hm9)
      have HS89 := hide (HS8.out.below (drew_below _ hm9) (Nat.le_refl _))
      clear hb8 hm9 HS48 HS8
      go_wp2_with fail
      refine (name_same n a8 ao len len c8 cap _ hl hl (by exact HS89.out) (by exact HS.out.below hb9 (Nat.le_refl _)) hm).mono ?_
      rintro e wa ⟨rfl, hma⟩
      have hba := hb9.trans (drew_below _ hma)
      go_wp2
      go_ret
      exact ⟨by simp, hba⟩
end Go.Proofs.YtecikfdnnjinpaaDoor
