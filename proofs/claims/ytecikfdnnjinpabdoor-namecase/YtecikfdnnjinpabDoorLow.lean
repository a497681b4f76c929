/- name.lower, cmp.Compare, name.compareLabels: a byte's small letter; two labels' order. -/
import Derived.Test.YtecikfdnnjinpabDoorStrs
import Derived.WalkLawsBesides
namespace Go.Proofs.YtecikfdnnjinpabDoor
open Go.RowKit
namespace N
theorem drop_at (l : List UInt8) (j : Nat) (h : j < l.length) : l.drop j = l.getD j 0 :: l.drop (j + 1) := by
  rw [List.drop_eq_getElem_cons h]; simp [h]
theorem dropN_at (l : List (List UInt8)) (j : Nat) (h : j < l.length) : l.drop j = l.getD j [] :: l.drop (j + 1) := by
  rw [List.drop_eq_getElem_cons h]; simp [h]
theorem cmpL_next (a b : List UInt8) (j : Nat) (ha : j < a.length) (hb : j < b.length) :
    cmpL (a.drop j) (b.drop j) = if cmpI (low (a.getD j 0)).toNat (low (b.getD j 0)).toNat = 0 then cmpL (a.drop (j + 1)) (b.drop (j + 1)) else cmpI (low (a.getD j 0)).toNat (low (b.getD j 0)).toNat := by
  rw [drop_at a j ha, drop_at b j hb]; rfl
theorem cmpL_end (a b : List UInt8) (j : Nat) (ha : j ≤ a.length) (hb : j ≤ b.length) (h : j = a.length ∨ j = b.length) : cmpL (a.drop j) (b.drop j) = cmpI a.length b.length := by
  rcases Nat.lt_or_ge j a.length with h1 | h1
  · have h2 : j = b.length := by omega
    rw [drop_at a j h1, List.drop_eq_nil_of_le (by omega : b.length ≤ j)]
    show (1 : Int) = _
    unfold cmpI; rw [if_neg (by omega), if_pos (by omega)]
  · rw [List.drop_eq_nil_of_le h1]
    rcases Nat.lt_or_ge j b.length with h2 | h2
    · rw [drop_at b j h2]
      show (-1 : Int) = _
      unfold cmpI; rw [if_pos (by omega)]
    · rw [List.drop_eq_nil_of_le h2]
      show (0 : Int) = _
      unfold cmpI; rw [if_neg (by omega), if_neg (by omega)]
end N
theorem str_at (s : ByteArray) (pos : Nat) (h : pos < s.size) : s[pos]'h = s.data.toList.getD pos 0 := by
  have h1 : pos < s.data.toList.length := h
  rw [List.getD_eq_getElem?_getD, List.getElem?_eq_getElem h1]; rfl
theorem drew_more {w wr : World} (n : Nat) (h : ∃ m, wr = w.drewN m) : ∃ m, wr.drewN n = w.drewN m := by
  obtain ⟨m, rfl⟩ := h
  exact ⟨m + n, World.drewN_drewN _ _ _⟩
theorem drew_trans {w w' w'' : World} (h : ∃ m, w' = w.drewN m) (h' : ∃ m, w'' = w'.drewN m) : ∃ m, w'' = w.drewN m := by
  obtain ⟨n, rfl⟩ := h'
  exact drew_more n h
theorem drew_below {w w' : World} (B : Nat) (h : ∃ m, w' = w.drewN m) : Below B w w' := by
  obtain ⟨n, rfl⟩ := h
  exact ⟨rfl, rfl, rfl, Nat.le_refl _, fun _ _ => rfl⟩
theorem lower_c (c : UInt8) (w : World) : Calls Tryd.prog 25 #[.int .u8 (c.toNat : Int)] w fun e w' => e = .returned (.int .u8 ((N.low c).toNat : Int)) ∧ w' = w := by
  have hc := c.toNat_lt
  rcases Nat.lt_or_ge c.toNat 65 with h1 | h1
  · rw [N.low_other (Or.inl h1)]
    go_enter Tryd.func25, Tryd.ntmps25
    go_wp2
    go_ret
    exact ⟨rfl, rfl⟩
  · rcases Nat.lt_or_ge 90 c.toNat with h2 | h2
    · rw [N.low_other (Or.inr h2)]
      go_enter Tryd.func25, Tryd.ntmps25
      go_wp2
      go_ret
      exact ⟨rfl, rfl⟩
    · rw [N.low_cap h1 h2]
      go_enter Tryd.func25, Tryd.ntmps25
      go_wp2
      go_ret
      exact ⟨by rw [show ((c.toNat + 32 : Nat) : Int) = (c.toNat : Int) + 97 - 65 by omega] <;> rfl, rfl⟩
theorem nanInt_any (x : Int) (w : World) : Calls Tryd.prog 33 #[.int .i64 x] w fun e w' => e = .returned (.bool false) ∧ w' = w := by
  go_enter Tryd.func33, Tryd.ntmps33
  go_wp2
  go_ret
  exact ⟨by simp, rfl⟩
theorem nanByte_any (x : Int) (w : World) : Calls Tryd.prog 39 #[.int .u8 x] w fun e w' => e = .returned (.bool false) ∧ w' = w := by
  go_enter Tryd.func39, Tryd.ntmps39
  go_wp2
  go_ret
  exact ⟨by simp, rfl⟩
theorem cmpInt_any (x y : Nat) (w : World) : Calls Tryd.prog 24 #[.int .i64 (x : Int), .int .i64 (y : Int)] w fun e w' => e = .returned (.int .i64 (N.cmpI x y)) ∧ w' = w := by
  rcases Nat.lt_trichotomy x y with h | h | h
  · have hc : N.cmpI x y = -1 := by unfold N.cmpI; rw [if_pos h]
    rw [hc]
    go_enter Tryd.func24, Tryd.ntmps24
    go_wp2_with (go_at_call 33; refine (nanInt_any _ _).mono ?_; rintro e w' ⟨rfl, rfl⟩)
    go_ret
    exact ⟨rfl, rfl⟩
  · subst h
    rw [N.cmpI_self]
    go_enter Tryd.func24, Tryd.ntmps24
    go_wp2_with (go_at_call 33; refine (nanInt_any _ _).mono ?_; rintro e w' ⟨rfl, rfl⟩)
    go_ret
    exact ⟨rfl, rfl⟩
  · have hc : N.cmpI x y = 1 := by unfold N.cmpI; rw [if_neg (by omega), if_pos h]
    rw [hc]
    go_enter Tryd.func24, Tryd.ntmps24
    go_wp2_with (go_at_call 33; refine (nanInt_any _ _).mono ?_; rintro e w' ⟨rfl, rfl⟩)
    go_ret
    exact ⟨rfl, rfl⟩
theorem cmpByte_any (x y : Nat) (w : World) : Calls Tryd.prog 32 #[.int .u8 (x : Int), .int .u8 (y : Int)] w fun e w' => e = .returned (.int .i64 (N.cmpI x y)) ∧ w' = w := by
  rcases Nat.lt_trichotomy x y with h | h | h
  · have hc : N.cmpI x y = -1 := by unfold N.cmpI; rw [if_pos h]
    rw [hc]
    go_enter Tryd.func32, Tryd.ntmps32
    go_wp2_with (go_at_call 39; refine (nanByte_any _ _).mono ?_; rintro e w' ⟨rfl, rfl⟩)
    go_ret
    exact ⟨rfl, rfl⟩
  · subst h
    rw [N.cmpI_self]
    go_enter Tryd.func32, Tryd.ntmps32
    go_wp2_with (go_at_call 39; refine (nanByte_any _ _).mono ?_; rintro e w' ⟨rfl, rfl⟩)
    go_ret
    exact ⟨rfl, rfl⟩
  · have hc : N.cmpI x y = 1 := by unfold N.cmpI; rw [if_neg (by omega), if_pos h]
    rw [hc]
    go_enter Tryd.func32, Tryd.ntmps32
    go_wp2_with (go_at_call 39; refine (nanByte_any _ _).mono ?_; rintro e w' ⟨rfl, rfl⟩)
    go_ret
    exact ⟨rfl, rfl⟩
set_option maxRecDepth 3000 in
set_option maxHeartbeats 400000 in
theorem compareLabels_any (sa sb : ByteArray) (a b : List UInt8) (w : World) (ha : Hid (sa.data.toList = a)) (hb : Hid (sb.data.toList = b)) (hsa : sa.size ≤ 9223372036854775807) (hsb : sb.size ≤ 9223372036854775807) :
    Calls Tryd.prog 23 #[.string sa, .string sb] w fun e w' => e = .returned (.int .i64 (N.cmpL a b)) ∧ ∃ m, w' = w.drewN m := by
  have hla : Hid (a.length = sa.size) := by rw [← ha.out]; exact rfl
  have hlb : Hid (b.length = sb.size) := by rw [← hb.out]; exact rfl
  obtain ⟨M, hMa, hMb, hMe⟩ : ∃ M : Nat, M ≤ sa.size ∧ M ≤ sb.size ∧ (M = sa.size ∨ M = sb.size) := ⟨min sa.size sb.size, by omega, by omega, by omega⟩
  have hME := hide hMe
  clear hMe
  go_enter Tryd.func23, Tryd.ntmps23
  go_wp2
  all_goals
    go_loopw [12] (fun i wr => ∃ j : Nat, i = .int .i64 (j : Int) ∧ j ≤ M ∧ Hid (N.cmpL a b = N.cmpL (a.drop j) (b.drop j)) ∧ ∃ m, wr = w.drewN m) (fun i _ => M - (intOf i).toNat)
    case atStart => exact ⟨0, rfl, by omega, rfl, 0, rfl⟩
    case round =>
      obtain ⟨j, rfl, hj, HC, hm⟩ := hrel
      have HM := hide hm
      clear hm
      by_cases hlt : j < M
      · have hxa : sa[j]'(by omega) = a.getD j 0 := by rw [← ha.out]; exact str_at sa j (by omega)
        have hxb : sb[j]'(by omega) = b.getD j 0 := by rw [← hb.out]; exact str_at sb j (by omega)
        have hn := N.cmpL_next a b j (by rw [hla.out]; omega) (by rw [hlb.out]; omega)
        generalize a.getD j 0 = x at hxa hn
        generalize b.getD j 0 = y at hxb hn
        have hbd := N.cmpI_bounds (N.low x).toNat (N.low y).toNat
        obtain ⟨c, hcc⟩ : ∃ c, N.cmpI (N.low x).toNat (N.low y).toNat = c := ⟨_, rfl⟩
        rw [hcc] at hn hbd
        have hj1 : (j : Int) < (sa.size : Int) := by omega
        have hj2 : (j : Int) < (sb.size : Int) := by omega
        have HN := hide hn
        clear hn
        go_wp2
        go_quiet (first | ((go_at_call 25; exact Calls.quiet_of_same (lower_c _ _))) | ((go_at_call 32; exact Calls.quiet_of_same (cmpByte_any _ _ _))))
        by_cases h0 : c = 0
        · subst h0
          go_wp2
          go_roundw
          case rel => exact ⟨j + 1, by go_num, by omega, (by have := HN.out; rw [if_pos rfl] at this; rw [HC.out]; exact this), drew_more _ HM.out⟩
          case measure => simp [intOf]; omega
        · have hne : (c != 0) = true := by simp [h0]
          go_wp2
          go_ret
          refine ⟨?_, drew_more _ HM.out⟩
          have := HN.out
          rw [if_neg h0] at this
          rw [HC.out, this, ← hcc]
          rfl
      · obtain rfl : j = M := by omega
        try have hz1 : ¬ (j < sa.size) := by (have := hME.out; omega)
        try have hz2 : ¬ (j < sb.size) := by (have := hME.out; omega)
        have hend := N.cmpL_end a b j (by rw [hla.out]; omega) (by rw [hlb.out]; omega) (by rw [hla.out, hlb.out]; exact hME.out)
        rw [hla.out, hlb.out] at hend
        have HE := hide hend
        clear hend
        go_wp2_with (go_at_call 24; refine (cmpInt_any _ _ _).mono ?_; rintro e w' ⟨rfl, rfl⟩)
        go_ret
        exact ⟨by rw [HC.out, HE.out]; rfl, HM.out⟩
end Go.Proofs.YtecikfdnnjinpabDoor
