/- The statement on bitmaps, walked. -/
import Derived.Test.YtikjhacgihohiaaDoorKnown
import Derived.Test.YtikjhacgihohiaaDoorRefB2
namespace Go.Proofs.YtikjhacgihohiaaDoor
open Go.RowKit
set_option maxRecDepth 10000 in
set_option maxHeartbeats 3200000 in
theorem bitmaps_any (l : List UInt16) (ao : Option Addr) (len cap : Nat) (w : World) (hl : Hid (l.length = len)) (hs : SlH w ao l) (hnil : ao = none → cap = 0) (hcap : len ≤ 9223372036854775807) (G : Glob w) :
    Calls Tryd.prog 4 #[.slice ao len cap] w fun e w' => e = .returned (.bool true) ∧ Below w.heap.size w w' := by
  have ck := known_any w G
  have HS := hide hs
  clear hs
  go_enter Tryd.func4, Tryd.ntmps4
  go_wp2_with (go_at_call 7; refine ck.mono ?_; rintro e w1 ⟨rfl, hB1⟩)
  · go_ret
    exact ⟨rfl, hB1⟩
  · have hL300 : (len : Int) ≤ 300 := by assumption
    have cb := bitmap_any l ao len cap w1 hl (HS.out.below hB1 (Nat.le_refl _)) hnil (by omega)
    refine cb.mono ?_
    rintro e w2 ⟨v2, c, rfl, hcl, hclen, hO2, hB2⟩
    obtain ⟨a2, c2, rfl, hS2, _, hc2, hm2⟩ := hO2.open
    have hbl := T.bmp_len _ c (Nat.le_refl _)
    have hop := T.opn_bmp c.length c 0 (Nat.le_refl _) hcl.1 (fun _ _ => Nat.zero_le _)
    have HC := hide hcl
    obtain ⟨nb, hnb⟩ : ∃ nb, (T.bmp c).length = nb := ⟨_, rfl⟩
    rw [hnb] at hc2 hbl
    have co := open_any (T.bmp c) a2 nb c2 w2 hnb hS2 hc2 (by unfold maxLen at hm2; omega) (by omega)
    rw [hop] at co
    have b2 := hB1.trans (hB2.mono hB1.size)
    have HS2 := hide hS2
    rw [hnb]
    clear hS2 hO2 cb ck hB2 hB1 hop hcl
    go_wp2_with fail
    go_at_call 13
    refine co.mono ?_
    rintro e w3 ⟨hB3, h3⟩
    obtain ⟨m, v3, hm, rfl, hO3⟩ | ⟨h, _⟩ := h3
    · obtain rfl := (Option.some.inj hm)
      clear hm co
      obtain ⟨a3, c3, rfl, hS3, _, _, _⟩ := hO3.open
      have HS3 := hide hS3
      have b3 := b2.trans (hB3.mono b2.size)
      have z3 := hB3.size
      have cc := rclean_any l ao len cap w3 hl (HS.out.below b3 (Nat.le_refl _)) (by omega)
      obtain ⟨nc, hnc⟩ : ∃ nc, c.length = nc := ⟨_, rfl⟩
      rw [hnc]
      clear hS3 hO3
      go_wp2_with fail
      go_at_call 14
      refine cc.mono ?_
      rintro e w4 ⟨v4, c', rfl, hcl4, _, hO4, hB4⟩
      obtain rfl := hcl4.unique HC.out
      obtain ⟨a4, c4, rfl, hS4, _, _, _⟩ := hO4.open
      have HS4 := hide hS4
      have b4 := b3.trans (hB4.mono b3.size)
      have z4 := hB4.size
      have hB24 := hB3.trans (hB4.mono z3)
      have cr := rbitmap_any l ao len cap w4 hl (HS.out.below b4 (Nat.le_refl _)) (by omega)
      rw [hnc]
      clear hS4 hO4 cc hcl4 b2 b3
      go_wp2_with fail
      go_at_call 16
      refine cr.mono ?_
      rintro e w5 ⟨v5, c'', rfl, hcl5, hO5, hB5⟩
      obtain rfl := hcl5.unique HC.out
      obtain ⟨a5, c5, rfl, hS5, _, _, _⟩ := hO5.open
      have b5 := b4.trans (hB5.mono b4.size)
      have hB25 := hB24.trans (hB5.mono hB24.size)
      have hB35 := hB4.trans (hB5.mono z4)
      have ch := hbytes_any _ _ a2 a5 nb c2 nb c5 w5 (HS2.out.below hB25 (Nat.le_refl _)) hS5 hnb hnb
      rw [beq_self_eq_true] at ch
      have ct := htypes_any _ _ a3 a4 nc c3 nc c4 w5 (HS3.out.below hB35 (Nat.le_refl _)) (HS4.out.below hB5 (Nat.le_refl _)) hnc hnc (by omega)
      rw [decide_eq_true rfl] at ct
      have cl := fun W (hb : Below w.heap.size w W) => clean_any l ao len cap W hl (HS.out.below hb (Nat.le_refl _)) hnil (by omega)
      rw [hnb]
      have HS4' := hide (HS4.out.below hB5 (Nat.le_refl _))
      clear hS5 hO5 cr hcl5 HS2 HS3 HS4 hB25 hB35 hB24 hB3 hB4 hB5 z3 z4 b4 G
      go_wp2_with fail
      go_at_call 15
      refine ch.mono ?_
      rintro e w6 ⟨rfl, rfl⟩
      clear ch
      go_wp2_with fail
      go_at_call 17
      refine ct.mono ?_
      rintro e w7 ⟨rfl, hB7⟩
      clear ct
      have b7 := b5.trans (hB7.mono b5.size)
      have cl7 := cl w7 b7
      have HS7 := hide (HS4'.out.below hB7 (Nat.le_refl _))
      clear cl HS4' hB7
      go_wp2_with fail
      go_at_call 18
      refine cl7.mono ?_
      rintro e w8 ⟨v8, c', rfl, hcl8, _, hO8, hB8⟩
      obtain rfl := hcl8.unique HC.out
      obtain ⟨a8, c8, rfl, hS8, _, _, _⟩ := hO8.open
      have b8 := b7.trans (hB8.mono b7.size)
      have ct := htypes_any _ _ a8 a4 nc c8 nc c4 w8 hS8 (HS7.out.below hB8 (Nat.le_refl _)) hnc hnc (by omega)
      rw [decide_eq_true rfl] at ct
      rw [hnc]
      clear cl7 HS7 hS8 hO8 hcl8 hB8 b7
      go_wp2_with fail
      go_at_call 17
      refine ct.mono ?_
      rintro e w9 ⟨rfl, hB9⟩
      have b9 := b8.trans (hB9.mono b8.size)
      clear ct hB9 b8
      go_wp2
      go_ret
      exact ⟨rfl, b9⟩
    · cases h
end Go.Proofs.YtikjhacgihohiaaDoor
