/- (*name.reading).take, end: one more rune; the text's end. -/
import Derived.Test.YtecikfdnnjinpabDoorTake2
namespace Go.Proofs.YtecikfdnnjinpabDoor
open Go.RowKit
theorem takeDigit_any (B T : Nat) (st : N.St) (r : Nat) (w : World) (hr : r ≤ 2147483647) (hR : Rd B T st w) (hW : N.WF st) (hB : B ≤ w.heap.size) (hll : st.l.length ≤ 1000000000) :
    Calls Tryd.prog 37 #[.pointer (some ⟨T, 0, none⟩), .int .i32 (r : Int)] w fun e w' => Took B T (N.stpD st r) w e w' := by
  obtain ⟨h1, h2⟩ := hW.bounds
  cases hd : N.dig r with
  | false =>
    have e : N.stpD st r = none := by unfold N.stpD; rw [if_pos hd]
    rw [e]
    exact (takeDigit_no B T r w hr hd).mono fun _ _ h => ⟨Or.inr ⟨rfl, h.1⟩, h.2⟩
  | true =>
    obtain ⟨h3, h4⟩ := N.dig_true hd
    by_cases h5 : st.d + 1 < 3
    · have e : N.stpD st r = some ⟨st.n, st.l, st.esc, st.d + 1, st.num * 10 + (r - 48)⟩ := by unfold N.stpD; rw [if_neg (by simp [hd]), if_pos h5]
      rw [e]
      exact (takeDigit_more B T st r w h3 h4 hR (by omega) h2).mono fun _ _ h => ⟨Or.inl ⟨_, rfl, h.1, h.2.1⟩, h.2.2⟩
    · by_cases h6 : 255 < st.num * 10 + (r - 48)
      · have e : N.stpD st r = none := by unfold N.stpD; rw [if_neg (by simp [hd]), if_neg h5, if_pos h6]
        rw [e]
        exact (takeDigit_great B T st r w h3 h4 hR (by omega) h2 h6).mono fun _ _ h => ⟨Or.inr ⟨rfl, h.1⟩, h.2⟩
      · have e : N.stpD st r = some ⟨st.n, st.l ++ [UInt8.ofNat (st.num * 10 + (r - 48))], false, 0, 0⟩ := by unfold N.stpD; rw [if_neg (by simp [hd]), if_neg h5, if_neg h6]
        rw [e]
        exact (takeDigit_last B T st r w h3 h4 hR (by omega) h2 (by omega) hB hll).mono fun _ _ h => ⟨Or.inl ⟨_, rfl, h.1, h.2.1⟩, h.2.2⟩
theorem endLabel_any (B T : Nat) (st : N.St) (w : World) (hR : Rd B T st w) (hB : B ≤ w.heap.size) (hn : st.n.length ≤ 1000000000) :
    Calls Tryd.prog 38 #[.pointer (some ⟨T, 0, none⟩)] w fun e w' => Took B T (N.endL st) w e w' := by
  by_cases h0 : st.l = []
  · have e : N.endL st = none := by unfold N.endL; rw [if_pos h0]
    rw [e]
    exact (endLabel_bad B T st w hR h0).mono fun _ _ h => ⟨Or.inr ⟨rfl, h.1⟩, by rw [h.2]; exact ⟨Below.refl _ _, Keeps.refl _⟩⟩
  · have e : N.endL st = some ⟨st.n ++ [st.l], [], st.esc, st.d, st.num⟩ := by unfold N.endL; rw [if_neg h0]
    rw [e]
    exact (endLabel_ok B T st w hR h0 hB hn).mono fun _ _ h => ⟨Or.inl ⟨_, rfl, h.1, h.2.1⟩, h.2.2⟩
set_option maxRecDepth 3000 in
set_option maxHeartbeats 800000 in
theorem take_any (B T : Nat) (st : N.St) (r : Nat) (s : ByteArray) (p : List UInt8) (w : World) (hs : Hid (s = ⟨p.toArray⟩)) (hr : r ≤ 2147483647) (hR : Rd B T st w) (hW : N.WF st) (hB : B ≤ w.heap.size) (hll : st.l.length ≤ 1000000000) (hnl : st.n.length ≤ 1000000000) (hpl : p.length ≤ 1000000000) :
    Calls Tryd.prog 30 #[.pointer (some ⟨T, 0, none⟩), .int .i32 (r : Int), .string s] w fun e w' => Took B T (N.stpR st r p) w e w' := by
  have HR := hide hR
  have HW := hide hW
  obtain ⟨an, cn, al, cl, hT, hOS, hOB, hBT, hnil, hcl⟩ := hR
  have c1 : w.cell? ⟨T, 1, none⟩ = some (.slice al st.l.length cl) := by rw [hT.cell 1]; rfl
  have c2 : w.cell? ⟨T, 2, none⟩ = some (.bool st.esc) := by rw [hT.cell 2]; rfl
  have c3 : w.cell? ⟨T, 3, none⟩ = some (.int .i64 (st.d : Int)) := by rw [hT.cell 3]; rfl
  have f1 := hT.frozen 1
  have f2 := hT.frozen 2
  have HT := hide hT
  have HOS := hide hOS
  have HOB := hide hOB
  clear hT hOS hOB hW
  by_cases he : st.esc = true
  · rw [he] at c2
    by_cases hd : 0 < st.d
    · have e : N.stpR st r p = N.stpD st r := by unfold N.stpR; rw [if_pos he, if_pos (Or.inl hd)]
      rw [e]
      go_enter Tryd.func30, Tryd.ntmps30
      go_wp2_with fail
      refine (takeDigit_any B T st r _ hr (by exact HR.out) HW.out hB hll).mono ?_
      rintro e w1 ⟨⟨st', ho, rfl, hR1⟩ | ⟨ho, rfl⟩, hB1, hK1⟩
      · go_wp2
        go_end0
        exact ⟨Or.inl ⟨st', ho, rfl, hR1⟩, hB1, hK1⟩
      · unfold fell
        go_wp2
        exact ⟨rfl, Or.inr ⟨ho, rfl⟩, hB1, hK1⟩
    · have hd0 : st.d = 0 := by omega
      rw [hd0] at c3
      cases hdg : N.dig r with
      | true =>
        have e : N.stpR st r p = N.stpD st r := by unfold N.stpR; rw [if_pos he, if_pos (Or.inr hdg)]
        rw [e]
        have HDG := hide hdg
        go_enter Tryd.func30, Tryd.ntmps30
        go_wp2_with (go_at_call 36; refine (isDigit_any r _ hr).mono ?_; rw [HDG.out]; rintro e w1 ⟨rfl, rfl⟩)
        refine (takeDigit_any B T st r _ hr (by exact HR.out) HW.out hB hll).mono ?_
        rintro e w1 ⟨⟨st', ho, rfl, hR1⟩ | ⟨ho, rfl⟩, hB1, hK1⟩
        · go_wp2
          go_end0
          exact ⟨Or.inl ⟨st', ho, rfl, hR1⟩, hB1, hK1⟩
        · unfold fell
          go_wp2
          exact ⟨rfl, Or.inr ⟨ho, rfl⟩, hB1, hK1⟩
      | false =>
        have e : N.stpR st r p = some ⟨st.n, st.l ++ p, false, st.d, st.num⟩ := by unfold N.stpR; rw [if_pos he, if_neg (by simp [hdg, hd0])]
        rw [e]
        have HDG := hide hdg
        have e2 := hs.out
        subst e2
        go_enter Tryd.func30, Tryd.ntmps30
        go_wp2_with (first
          | (go_at_call 36; refine (isDigit_any r _ hr).mono ?_; rw [HDG.out]; rintro e w1 ⟨rfl, rfl⟩)
          | (at_builtin; refine wpList_append_BS rfl (.tmp 46) (.tmp 47) rfl B (.slice al st.l.length cl) st.l rfl (by exact own_set HOB.out HT.out (by decide) _ _) p rfl (by omega) (by simpa using hB) ?_; intro v4 w4 hO4 hG4; obtain ⟨a4, c4, rfl, _, hn4, hl4, _⟩ := hO4.open; obtain ⟨hT4, hOS4, hB4, hK4⟩ := grewBS (own_set HOB.out HT.out (by decide) _ _) (HT.out.set 2 _) (own_set HOS.out HT.out (by decide) _ _) (by simpa using hB) hG4; have k1 : w4.cell? ⟨T, 1, none⟩ = some (.slice al st.l.length cl) := hT4.cell 1; have g1 := hT4.frozen 1; have HT4 := hide hT4; have HOS4 := hide hOS4; have HB4 := hide hB4; have HK4 := hide hK4; have HO4 := hide hO4; clear hG4 hO4 hT4 hOS4 hB4 hK4))
        go_end0
        refine ⟨Or.inl ⟨_, rfl, rfl, ?_⟩, ((((Below.refl B _).setCell hBT _).trans HB4.out).setCell hBT _), (((Keeps.set HT.out _ _).trans HK4.out).trans (Keeps.set HT4.out _ _))⟩
        exact Rd.of st.n.length (st.l.length + p.length) rfl (by simp) (HT4.out.set 1 _) rfl (own_set HOS4.out HT4.out (by decide) _ _) (own_set HO4.out HT4.out (by decide) _ _) hBT hn4 hl4
  · have he2 : st.esc = false := by simpa using he
    rw [he2] at c2
    by_cases h92 : r = 92
    · have e : N.stpR st r p = some ⟨st.n, st.l, true, st.d, st.num⟩ := by unfold N.stpR; rw [if_neg he, if_pos h92]
      rw [e]
      subst h92
      go_enter Tryd.func30, Tryd.ntmps30
      go_wp2
      go_end0
      refine ⟨Or.inl ⟨_, rfl, rfl, ?_⟩, (Below.refl B _).setCell hBT _, Keeps.set HT.out _ _⟩
      exact Rd.of st.n.length st.l.length rfl rfl (HT.out.set 2 _) rfl (own_set HOS.out HT.out (by decide) _ _) (own_set HOB.out HT.out (by decide) _ _) hBT hnil hcl
    · have r92 : ((r : Int) == 92) = false := by simp; omega
      by_cases h46 : r = 46
      · have e : N.stpR st r p = N.endL st := by unfold N.stpR; rw [if_neg he, if_neg h92, if_pos h46]
        rw [e]
        subst h46
        go_enter Tryd.func30, Tryd.ntmps30
        go_wp2_with fail
        refine (endLabel_any B T st _ (by exact HR.out) hB hnl).mono ?_
        rintro e w1 ⟨⟨st', ho, rfl, hR1⟩ | ⟨ho, rfl⟩, hB1, hK1⟩
        · go_wp2
          go_end0
          exact ⟨Or.inl ⟨st', ho, rfl, hR1⟩, hB1, hK1⟩
        · unfold fell
          go_wp2
          exact ⟨rfl, Or.inr ⟨ho, rfl⟩, hB1, hK1⟩
      · have r46 : ((r : Int) == 46) = false := by simp; omega
        have e : N.stpR st r p = some ⟨st.n, st.l ++ p, st.esc, st.d, st.num⟩ := by unfold N.stpR; rw [if_neg he, if_neg h92, if_neg h46]
        rw [e]
        have e2 := hs.out
        subst e2
        go_enter Tryd.func30, Tryd.ntmps30
        go_wp2_with (at_builtin; refine wpList_append_BS rfl (.tmp 10) (.tmp 11) rfl B (.slice al st.l.length cl) st.l rfl (by exact HOB.out) p rfl (by omega) hB ?_; intro v4 w4 hO4 hG4; obtain ⟨a4, c4, rfl, _, hn4, hl4, _⟩ := hO4.open; obtain ⟨hT4, hOS4, hB4, hK4⟩ := grewBS HOB.out HT.out HOS.out hB hG4; have k1 : w4.cell? ⟨T, 1, none⟩ = some (.slice al st.l.length cl) := hT4.cell 1; have g1 := hT4.frozen 1; have HT4 := hide hT4; have HOS4 := hide hOS4; have HB4 := hide hB4; have HK4 := hide hK4; have HO4 := hide hO4; clear hG4 hO4 hT4 hOS4 hB4 hK4)
        go_end0
        refine ⟨Or.inl ⟨_, rfl, rfl, ?_⟩, HB4.out.setCell hBT _, HK4.out.trans (Keeps.set HT4.out _ _)⟩
        exact Rd.of st.n.length (st.l.length + p.length) rfl (by simp) (HT4.out.set 1 _) (by first | rfl | (rw [he2]; rfl)) (own_set HOS4.out HT4.out (by decide) _ _) (own_set HO4.out HT4.out (by decide) _ _) hBT hn4 hl4
/- the end -/
def Ended (B : Nat) (o : Option (List (List UInt8))) (w : World) (e : Ending) (w' : World) : Prop :=
  ((∃ n v, o = some n ∧ e = .returned v ∧ OwnS w' B v n) ∨ (o = none ∧ e = fell)) ∧ Below B w w'
set_option maxRecDepth 3000 in
set_option maxHeartbeats 800000 in
theorem end_any (B T : Nat) (st : N.St) (w : World) (hR : Rd B T st w) (hB : B ≤ w.heap.size) (hnl : st.n.length ≤ 1000000000) :
    Calls Tryd.prog 31 #[.pointer (some ⟨T, 0, none⟩)] w fun e w' => Ended B (N.fin st) w e w' := by
  have HR := hide hR
  obtain ⟨an, cn, al, cl, hT, hOS, hOB, hBT, hnil, hcl⟩ := hR
  have c0 : w.cell? ⟨T, 0, none⟩ = some (.slice an st.n.length cn) := by rw [hT.cell 0]; rfl
  have c1 : w.cell? ⟨T, 1, none⟩ = some (.slice al st.l.length cl) := by rw [hT.cell 1]; rfl
  have c2 : w.cell? ⟨T, 2, none⟩ = some (.bool st.esc) := by rw [hT.cell 2]; rfl
  have HOS := hide hOS
  clear hT hOS hOB
  by_cases he : st.esc = true
  · have e : N.fin st = none := by unfold N.fin; rw [if_pos he]
    rw [he] at c2
    rw [e]
    go_enter Tryd.func31, Tryd.ntmps31
    go_wp2
    exact ⟨rfl, Or.inr ⟨rfl, rfl⟩, Below.refl _ _⟩
  · have he2 : st.esc = false := by simpa using he
    rw [he2] at c2
    by_cases h1 : st.l ≠ [] ∨ st.n = []
    · have e : N.fin st = (N.endL st).map (·.n) := by unfold N.fin; rw [if_neg he, if_pos h1]
      rw [e]
      rcases Nat.eq_zero_or_pos st.l.length with hl0 | hl0
      · have hn0 : st.n.length = 0 := by
          rcases h1 with h | h
          · exact absurd (List.eq_nil_of_length_eq_zero hl0) h
          · rw [h]; rfl
        rw [hl0] at c1
        rw [hn0] at c0
        go_enter Tryd.func31, Tryd.ntmps31
        go_wp2_with fail
        refine (endLabel_any B T st _ (by exact HR.out) hB hnl).mono ?_
        rintro e w1 ⟨⟨st', ho, rfl, hR1⟩ | ⟨ho, rfl⟩, hB1, _⟩
        · exfalso
          unfold N.endL at ho
          rw [if_pos (List.eq_nil_of_length_eq_zero hl0)] at ho
          cases ho
        · unfold fell
          go_wp2
          exact ⟨rfl, Or.inr ⟨by rw [ho]; rfl, rfl⟩, hB1⟩
      · have hlp : (0 : Int) < (st.l.length : Int) := by omega
        go_enter Tryd.func31, Tryd.ntmps31
        go_wp2_with fail
        refine (endLabel_any B T st _ (by exact HR.out) hB hnl).mono ?_
        rintro e w1 ⟨⟨st', ho, rfl, hR1⟩ | ⟨ho, rfl⟩, hB1, _⟩
        · obtain ⟨an', cn', al', cl', hT1, hOS1, _, _, _, _⟩ := hR1
          have k0 : w1.cell? ⟨T, 0, none⟩ = some (.slice an' st'.n.length cn') := by rw [hT1.cell 0]; rfl
          have HOS1 := hide hOS1
          clear hT1 hOS1 c0 c1 c2
          go_wp2
          go_ret
          exact ⟨Or.inl ⟨st'.n, _, by rw [ho]; rfl, rfl, HOS1.out⟩, hB1⟩
        · unfold fell
          go_wp2
          exact ⟨rfl, Or.inr ⟨by rw [ho]; rfl, rfl⟩, hB1⟩
    · have e : N.fin st = some st.n := by unfold N.fin; rw [if_neg he, if_neg h1]
      rw [e]
      have hl0 : st.l = [] := Classical.byContradiction fun h => h1 (Or.inl h)
      have hn0 : 0 < st.n.length := List.length_pos_iff.2 fun h => h1 (Or.inr h)
      have hl1 : st.l.length = 0 := by rw [hl0]; rfl
      rw [hl1] at c1
      have hne : ((st.n.length : Int) == 0) = false := by rw [beq_eq_false_iff_ne]; omega
      go_enter Tryd.func31, Tryd.ntmps31
      go_wp2
      go_ret
      exact ⟨Or.inl ⟨st.n, _, rfl, rfl, HOS.out⟩, Below.refl _ _⟩
end Go.Proofs.YtecikfdnnjinpabDoor
