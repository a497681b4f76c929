/- name.Compare, Same, Within, Wild: two names' order. -/
import Derived.Test.YtecikfdnnjinpabDoorLow
namespace Go.Proofs.YtecikfdnnjinpabDoor
open Go.RowKit
namespace N
theorem rev_at (a : List (List UInt8)) (j : Nat) (h : j < a.length) : a.reverse.getD j [] = a.getD (a.length - 1 - j) [] := by
  have h1 : j < a.reverse.length := by simpa using h
  have h2 : a.length - 1 - j < a.length := by omega
  rw [List.getD_eq_getElem?_getD, List.getD_eq_getElem?_getD, List.getElem?_eq_getElem h1, List.getElem?_eq_getElem h2, List.getElem_reverse]
theorem cmpR_next (a b : List (List UInt8)) (j : Nat) (ha : j < a.length) (hb : j < b.length) :
    cmpR (a.reverse.drop j) (b.reverse.drop j) = if cmpL (a.getD (a.length - 1 - j) []) (b.getD (b.length - 1 - j) []) = 0 then cmpR (a.reverse.drop (j + 1)) (b.reverse.drop (j + 1)) else cmpL (a.getD (a.length - 1 - j) []) (b.getD (b.length - 1 - j) []) := by
  rw [dropN_at a.reverse j (by simpa using ha), dropN_at b.reverse j (by simpa using hb), rev_at a j ha, rev_at b j hb]; rfl
theorem cmpR_end (a b : List (List UInt8)) (j : Nat) (ha : j ≤ a.length) (hb : j ≤ b.length) (h : j = a.length ∨ j = b.length) : cmpR (a.reverse.drop j) (b.reverse.drop j) = cmpI a.length b.length := by
  have la : a.reverse.length = a.length := by simp
  have lb : b.reverse.length = b.length := by simp
  rcases Nat.lt_or_ge j a.length with h1 | h1
  · have h2 : j = b.length := by omega
    rw [dropN_at a.reverse j (by omega), List.drop_eq_nil_of_le (by omega : b.reverse.length ≤ j)]
    show (1 : Int) = _
    unfold cmpI; rw [if_neg (by omega), if_pos (by omega)]
  · rw [List.drop_eq_nil_of_le (by omega : a.reverse.length ≤ j)]
    rcases Nat.lt_or_ge j b.length with h2 | h2
    · rw [dropN_at b.reverse j (by omega)]
      show (-1 : Int) = _
      unfold cmpI; rw [if_pos (by omega)]
    · rw [List.drop_eq_nil_of_le (by omega : b.reverse.length ≤ j)]
      show (0 : Int) = _
      unfold cmpI; rw [if_neg (by omega), if_neg (by omega)]
end N
/- strings of a sane length -/
def Sane (n : List (List UInt8)) : Prop := ∀ l ∈ n, l.length ≤ 9223372036854775807
theorem Sane.at {n : List (List UInt8)} (h : Sane n) (j : Nat) : (n.getD j []).length ≤ 9223372036854775807 := by
  rcases Nat.lt_or_ge j n.length with h1 | h1
  · have : n.getD j [] = n[j] := by simp [h1]
    rw [this]; exact h _ (List.getElem_mem h1)
  · have : n.getD j [] = [] := by simp [h1]
    rw [this]; simp
theorem Sane.drop {n : List (List UInt8)} (h : Sane n) (k : Nat) : Sane (n.drop k) := fun l hl => h l (List.mem_of_mem_drop hl)
set_option maxRecDepth 3000 in
set_option maxHeartbeats 400000 in
theorem compare_any (a b : List (List UInt8)) (ao bo : Option Addr) (la lb ca cb : Nat) (w : World) (hla : Hid (a.length = la)) (hlb : Hid (b.length = lb)) (hsa : SlS w ao a) (hsb : SlS w bo b) (hma : la ≤ 9223372036854775807) (hmb : lb ≤ 9223372036854775807) (ha : Hid (Sane a)) (hb : Hid (Sane b)) :
    Calls Tryd.prog 11 #[.slice ao la ca, .slice bo lb cb] w fun e w' => e = .returned (.int .i64 (N.cmpN a b)) ∧ ∃ m, w' = w.drewN m := by
  obtain ⟨M, hMa, hMb, hMe⟩ : ∃ M : Nat, M ≤ la ∧ M ≤ lb ∧ (M = la ∨ M = lb) := ⟨min la lb, by omega, by omega, by omega⟩
  have hME := hide hMe
  have HSA := hide hsa
  have HSB := hide hsb
  clear hMe hsa hsb
  go_enter Tryd.func11, Tryd.ntmps11
  go_wp2
  all_goals
    go_loopw [12] (fun i wr => ∃ j : Nat, i = .int .i64 (j : Int) ∧ j ≤ M ∧ Hid (N.cmpN a b = N.cmpR (a.reverse.drop j) (b.reverse.drop j)) ∧ ∃ m, wr = w.drewN m) (fun i _ => M - (intOf i).toNat)
    case atStart => exact ⟨0, rfl, by omega, rfl, 0, rfl⟩
    case round =>
      obtain ⟨j, rfl, hj, HC, hm⟩ := hrel
      have HM := hide hm
      clear hm
      by_cases hlt : j < M
      · obtain ⟨b1, o1, rfl, _, hc1⟩ := HSA.out (by have := hla.out; omega)
        obtain ⟨b2, o2, rfl, _, hc2⟩ := HSB.out (by have := hlb.out; omega)
        obtain ⟨ja, hja⟩ : ∃ ja, ja = la - 1 - j := ⟨_, rfl⟩
        obtain ⟨jb, hjb⟩ : ∃ jb, jb = lb - 1 - j := ⟨_, rfl⟩
        have hn := N.cmpR_next a b j (by have := hla.out; omega) (by have := hlb.out; omega)
        rw [hla.out, hlb.out, ← hja, ← hjb] at hn
        have hx1 : wr.cell? ⟨b1, o1 + ja, none⟩ = some (.string ⟨(a.getD ja []).toArray⟩) := by
          obtain ⟨m, rfl⟩ := HM.out
          exact hc1 ja (by have := hla.out; omega)
        have hx2 : wr.cell? ⟨b2, o2 + jb, none⟩ = some (.string ⟨(b.getD jb []).toArray⟩) := by
          obtain ⟨m, rfl⟩ := HM.out
          exact hc2 jb (by have := hlb.out; omega)
        have hxl := ha.out.at ja
        have hyl := hb.out.at jb
        clear hc1 hc2
        generalize a.getD ja [] = x at hx1 hn hxl
        generalize b.getD jb [] = y at hx2 hn hyl
        have hbd := N.cmpL_bounds x y
        obtain ⟨c, hcc⟩ : ∃ c, N.cmpL x y = c := ⟨_, rfl⟩
        rw [hcc] at hn hbd
        have e1 : IntKind.i64.wrap ((la : Int) - 1) = (la : Int) - 1 := by rw [IntKind.wrap_i64]; omega
        have e2 : IntKind.i64.wrap ((lb : Int) - 1) = (lb : Int) - 1 := by rw [IntKind.wrap_i64]; omega
        have e3 : IntKind.i64.wrap ((la : Int) - 1 - (j : Int)) = (ja : Int) := by rw [IntKind.wrap_i64]; omega
        have e4 : IntKind.i64.wrap ((lb : Int) - 1 - (j : Int)) = (jb : Int) := by rw [IntKind.wrap_i64]; omega
        have hj1 : (ja : Int) < (la : Int) := by omega
        have hj2 : (jb : Int) < (lb : Int) := by omega
        have HN := hide hn
        have HJ := hide (And.intro hja hjb)
        clear hn hja hjb
        go_wp2
        go_quiet ((go_at_call 23; exact Calls.quiet_of (compareLabels_any _ _ x y _ rfl rfl (by exact hxl) (by exact hyl))))
        rw [hcc]
        by_cases h0 : c = 0
        · subst h0
          go_wp2
          go_roundw
          case rel => exact ⟨j + 1, by go_num, by omega, (by have := HN.out; rw [if_pos rfl] at this; rw [HC.out]; exact this), drew_more _ HM.out⟩
          case measure => simp [intOf]; omega
        · have hne : (c != 0) = true := by simp [h0]
          go_wp2
          go_ret
          refine ⟨?_, drew_more _ HM.out⟩
          have := HN.out
          rw [if_neg h0] at this
          rw [HC.out, this]
          rfl
      · obtain rfl : j = M := by omega
        try have hz1 : ¬ (j < la) := by (have := hME.out; omega)
        try have hz2 : ¬ (j < lb) := by (have := hME.out; omega)
        have hend := N.cmpR_end a b j (by rw [hla.out]; omega) (by rw [hlb.out]; omega) (by rw [hla.out, hlb.out]; exact hME.out)
        rw [hla.out, hlb.out] at hend
        have HE := hide hend
        clear hend
        go_wp2_with (go_at_call 24; refine (cmpInt_any _ _ _).mono ?_; rintro e w' ⟨rfl, rfl⟩)
        go_ret
        exact ⟨by rw [HC.out, HE.out]; rfl, HM.out⟩
theorem same_any (a b : List (List UInt8)) (ao bo : Option Addr) (la lb ca cb : Nat) (w : World) (hla : Hid (a.length = la)) (hlb : Hid (b.length = lb)) (hsa : SlS w ao a) (hsb : SlS w bo b) (hma : la ≤ 9223372036854775807) (hmb : lb ≤ 9223372036854775807) (ha : Hid (Sane a)) (hb : Hid (Sane b)) :
    Calls Tryd.prog 10 #[.slice ao la ca, .slice bo lb cb] w fun e w' => e = .returned (.bool (N.same a b)) ∧ ∃ m, w' = w.drewN m := by
  have HSA := hide hsa
  have HSB := hide hsb
  clear hsa hsb
  by_cases h : la = lb
  · have hz : N.same a b = decide (N.cmpN a b = 0) := by unfold N.same; rw [decide_eq_decide]; exact N.cmpN_zero.symm
    have hbd := N.cmpN_bounds a b
    rw [hz]
    subst h
    go_enter Tryd.func10, Tryd.ntmps10
    go_wp2_with (go_at_call 11; refine (compare_any a b ao bo la la ca cb _ hla hlb HSA.out HSB.out hma hmb ha hb).mono ?_; rintro e w' ⟨rfl, hm⟩)
    go_ret
    exact ⟨rfl, hm⟩
  · have hz : N.same a b = false := by
      unfold N.same
      rw [decide_eq_false_iff_not]
      intro e
      have := congrArg List.length e
      rw [N.lowN_len, N.lowN_len, hla.out, hlb.out] at this
      exact h this
    have hne : ((la : Int) == (lb : Int)) = false := by simp; omega
    rw [hz]
    go_enter Tryd.func10, Tryd.ntmps10
    go_wp2
    go_ret
    exact ⟨rfl, 0, rfl⟩
end Go.Proofs.YtecikfdnnjinpabDoor
