/- The law DataChecks. -/
import Derived.Test.YtagopkmehlpjpaaRefW
import Derived.Test.YtagopkmehlpjpaaKnown
import Derived.Test.YtagopkmehlpjpaaHelpD
namespace Go.Proofs.Ytagopkmehlpjpaa
open Go.RowKit
set_option maxRecDepth 5000 in
theorem Ans.oneB {o : Option (List UInt8)} {w w' : World} {e : Ending} (h : Ans o BytesV (.slice none 0 0) w e w') : ∃ a c, e = .returned (.tuple #[.slice a (o.getD []).length c, .int .i64 (codeOf o)]) ∧ OwnB w' w.heap.size (.slice a (o.getD []).length c) (o.getD []) ∧ Below w.heap.size w w' := by
  obtain ⟨⟨x, v, rfl, rfl, hx⟩ | ⟨rfl, rfl⟩, hb⟩ := h
  · obtain ⟨a, c, rfl, _⟩ := OwnB.open hx
    exact ⟨a, c, rfl, hx, hb⟩
  · exact ⟨none, 0, rfl, OwnB.nil _ _, hb⟩
set_option maxRecDepth 5000 in
theorem Ans.oneS {o : Option (List (List UInt8))} {w w' : World} {e : Ending} (h : Ans o NameV (.slice none 0 0) w e w') : ∃ a c, e = .returned (.tuple #[.slice a (o.getD []).length c, .int .i64 (codeOf o)]) ∧ OwnS w' w.heap.size (.slice a (o.getD []).length c) (o.getD []) ∧ Below w.heap.size w w' := by
  obtain ⟨⟨x, v, rfl, rfl, hx⟩ | ⟨rfl, rfl⟩, hb⟩ := h
  · obtain ⟨a, c, rfl, _⟩ := OwnS.open hx
    exact ⟨a, c, rfl, hx, hb⟩
  · exact ⟨none, 0, rfl, OwnS.nil _ _, hb⟩
set_option maxHeartbeats 1600000 in
set_option maxRecDepth 5000 in
theorem checks_walk (t : Nat) (b : List UInt8) (ao : Option Addr) (len cap : Nat) (w : World) (hl : Hid (b.length = len)) (hs : SlL w ao b) (hc : len ≤ cap) (hnil : ao = none → cap = 0) :
    Calls Try.prog 3 #[.int .u16 (t : Int), .slice ao len cap] w fun e w' => e = .returned (.bool true) ∧ Below w.heap.size w w' := by
  have HS := hide hs
  have NI := hide hnil
  clear hs hnil
  go_enter Try.func3, Try.ntmps3
  go_wp2_with fail
  refine (known_any _).mono ?_
  rintro e w1 ⟨rfl, hb1⟩
  have B1 := hide hb1
  clear hb1
  rcases Nat.lt_or_ge 3000 len with hlt | hge
  · have hlt' : (3000 : Int) < (len : Int) := by omega
    go_wp2
    go_ret
    exact ⟨rfl, B1.out⟩
  · have hlt' : ¬ (3000 : Int) < (len : Int) := by omega
    go_wp2_with fail
    refine (Canon_any t b ao len cap _ hl (by exact HS.out.below B1.out (Nat.le_refl _)) hc NI.out).mono ?_
    rintro e w2 h2
    obtain ⟨a2, c2, rfl, hO2, hb2⟩ := h2.oneB
    have B2 := hide (B1.out.trans (hb2.mono B1.out.size))
    have O2 := hide hO2
    clear h2 hO2 hb2 B1
    go_wp2_with fail
    refine (sCanon_any t b ao len cap _ hl (by exact HS.out.below B2.out (Nat.le_refl _)) hc NI.out (by omega)).mono ?_
    rintro e w3 h3
    obtain ⟨a3, c3, rfl, hO3, hb3⟩ := h3.oneB
    have B3 := hide (B2.out.trans (hb3.mono B2.out.size))
    replace O2 := hide (O2.out.below hb3)
    have O3 := hide hO3
    clear h3 hO3 hb3 B2
    go_wp2_with fail
    refine (Target_any t b ao len cap _ hl (by exact HS.out.below B3.out (Nat.le_refl _)) hc NI.out).mono ?_
    rintro e w4 h4
    obtain ⟨a4, c4, rfl, hO4, hb4⟩ := h4.oneS
    have B4 := hide (B3.out.trans (hb4.mono B3.out.size))
    replace O2 := hide (O2.out.below hb4)
    replace O3 := hide (O3.out.below hb4)
    have O4 := hide hO4
    clear h4 hO4 hb4 B3
    go_wp2_with fail
    refine (sTarget_any t b ao len cap _ hl (by exact HS.out.below B4.out (Nat.le_refl _)) hc NI.out (by omega)).mono ?_
    rintro e w5 h5
    obtain ⟨a5, c5, rfl, hO5, hb5⟩ := h5.oneS
    have B5 := hide (B4.out.trans (hb5.mono B4.out.size))
    replace O2 := hide (O2.out.below hb5)
    replace O3 := hide (O3.out.below hb5)
    replace O4 := hide (O4.out.below hb5)
    have O5 := hide hO5
    clear h5 hO5 hb5 B4
    go_wp2_with fail
    refine (dCheck_any t b ao len cap _ hl (by exact HS.out.below B5.out (Nat.le_refl _)) hc NI.out).mono ?_
    rintro e w6 ⟨rfl, hb6⟩
    have B6 := hide (B5.out.trans (hb6.mono B5.out.size))
    replace O2 := hide (O2.out.below hb6)
    replace O3 := hide (O3.out.below hb6)
    replace O4 := hide (O4.out.below hb6)
    replace O5 := hide (O5.out.below hb6)
    clear hb6 B5
    go_wp2_with fail
    refine (sCheck_any t b ao len cap _ hl (by exact HS.out.below B6.out (Nat.le_refl _)) hc NI.out (by omega)).mono ?_
    rintro e w7 ⟨rfl, hb7⟩
    have B7 := hide (B6.out.trans (hb7.mono B6.out.size))
    have S2 := hide (O2.out.below hb7).slOf.1
    have S3 := hide (O3.out.below hb7).slOf.1
    have S4 := hide (O4.out.below hb7).sl
    have S5 := hide (O5.out.below hb7).sl
    have hnl : (((D.full b (D.tgt t b)).getD []).length : Nat) ≤ 9223372036854775807 := by
      obtain ⟨_, _, e, _, _, hle, hmx⟩ := O4.out.open
      cases e
      unfold maxLen at hmx
      omega
    clear hb7 B6 O2 O3 O4 O5
    generalize codeOf (D.full b (D.can t b)) = k1
    generalize codeOf (D.full b (D.tgt t b)) = k2
    generalize (D.full b (D.can t b)).getD [] = x at S2 S3 ⊢
    generalize (D.full b (D.tgt t b)).getD [] = n at S4 S5 hnl ⊢
    go_wp2_with fail
    refine (bytes_same x a2 a3 x.length x.length c2 c3 _ (by exact S2.out) (by exact S3.out) rfl rfl).mono ?_
    rintro e w8 ⟨rfl, rfl⟩
    go_wp2_with fail
    refine (name_same n a4 a5 n.length n.length c4 c5 _ rfl rfl (by exact S4.out) (by exact S5.out) hnl).mono ?_
    rintro e w9 ⟨rfl, m, rfl⟩
    go_wp2
    go_ret
    exact ⟨rfl, below_drewN B7.out m⟩
end Go.Proofs.Ytagopkmehlpjpaa
