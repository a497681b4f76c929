/- The law NameReads returns true, for every text and all bytes. -/
import Derived.Test.YtecikfdnnjinpaaDoorRefP2
import Derived.Test.YtecikfdnnjinpaaDoorRefO
namespace Go.Proofs.YtecikfdnnjinpaaDoor
open Go.RowKit
/- what a text is read as: labels and an error's number -/
def PIs (bs : List UInt8) (n : List (List UInt8)) (c : Int) : Prop := (N.rd bs = some n ∧ N.chk n = 0 ∧ c = 0) ∨ (n = [] ∧ N.perr bs c ∧ c ≠ 0)
theorem pis_any (bs : List UInt8) : ∃ n c, PIs bs n c := by
  cases h : N.rd bs with
  | none => exact ⟨[], 30, Or.inr ⟨rfl, Or.inl ⟨h, rfl⟩, by omega⟩⟩
  | some n =>
    by_cases hc : N.chk n = 0
    · exact ⟨n, 0, Or.inl ⟨h, hc, rfl⟩⟩
    · exact ⟨[], N.chk n, Or.inr ⟨rfl, Or.inr ⟨n, h, rfl⟩, hc⟩⟩
theorem perr_one {bs : List UInt8} {c c' : Int} (h1 : N.perr bs c) (h2 : N.perr bs c') : c = c' := by
  rcases h1 with ⟨h4, h5⟩ | ⟨n', h4, h5⟩ <;> rcases h2 with ⟨h6, h7⟩ | ⟨n'', h6, h7⟩
  · rw [h5, h7]
  · rw [h4] at h6; cases h6
  · rw [h4] at h6; cases h6
  · rw [h4] at h6; cases h6; rw [← h5, ← h7]
theorem Parsed.is {bs : List UInt8} {B : Nat} {w w' : World} {e : Ending} {n : List (List UInt8)} {c : Int} (h : Parsed bs B w e w') (hp : PIs bs n c) : ∃ ao k, e = .returned (.tuple #[.slice ao n.length k, .int .i64 c]) ∧ SlS w' ao n ∧ Below B w w' := by
  obtain ⟨⟨n', v, h1, h3, rfl, hO⟩ | ⟨c', h1, h2, rfl⟩, hB⟩ := h
  · rcases hp with ⟨h4, _, rfl⟩ | ⟨_, h4, h5⟩
    · rw [h4] at h1; cases h1
      obtain ⟨ao, k, rfl, hS, _⟩ := hO.open
      exact ⟨ao, k, rfl, hS, hB⟩
    · exfalso
      rcases h4 with ⟨h6, _⟩ | ⟨n'', h6, h7⟩
      · rw [h6] at h1; cases h1
      · rw [h6] at h1; cases h1
        exact h5 (h7.symm.trans h3)
  · rcases hp with ⟨h4, h5, rfl⟩ | ⟨rfl, h4, h5⟩
    · exfalso
      rcases h1 with ⟨h6, _⟩ | ⟨n'', h6, h7⟩
      · rw [h6] at h4; cases h4
      · rw [h6] at h4; cases h4
        exact h2 (h7.symm.trans h5)
    · obtain rfl := perr_one h4 h1
      exact ⟨none, 0, rfl, SlS.nil _ _, hB⟩
def OIs (b : List UInt8) (n : List (List UInt8)) (k c : Int) : Prop := (N.opn b = some n ∧ N.size n ≤ 255 ∧ k = (N.size n : Int) ∧ c = 0) ∨ (N.opn b = none ∧ n = [] ∧ k = 0 ∧ c = 30) ∨ (∃ m, N.opn b = some m ∧ 255 < N.size m ∧ n = [] ∧ k = 0 ∧ c = 31)
theorem ois_any (b : List UInt8) : ∃ n k c, OIs b n k c := by
  cases h : N.opn b with
  | none => exact ⟨[], 0, 30, Or.inr (Or.inl ⟨h, rfl, rfl, rfl⟩)⟩
  | some n =>
    rcases Nat.lt_or_ge 255 (N.size n) with hs | hs
    · exact ⟨[], 0, 31, Or.inr (Or.inr ⟨n, h, hs, rfl, rfl, rfl⟩)⟩
    · exact ⟨n, _, 0, Or.inl ⟨h, hs, rfl, rfl⟩⟩
theorem Opened.is {b : List UInt8} {B : Nat} {w w' : World} {e : Ending} {n : List (List UInt8)} {k c : Int} (h : Opened b B w e w') (hp : OIs b n k c) : ∃ ao cp, e = .returned (.tuple #[.slice ao n.length cp, .int .i64 k, .int .i64 c]) ∧ SlS w' ao n ∧ Below B w w' := by
  obtain ⟨⟨n', v, h1, h2, rfl, hO⟩ | ⟨h1, rfl⟩ | ⟨n', h1, h2, rfl⟩, hB⟩ := h
  · rcases hp with ⟨h3, _, rfl, rfl⟩ | ⟨h3, _⟩ | ⟨m, h3, h4, _⟩
    · rw [h3] at h1; cases h1
      obtain ⟨ao, cp, rfl, hS, _⟩ := hO.open
      exact ⟨ao, cp, rfl, hS, hB⟩
    · rw [h3] at h1; cases h1
    · rw [h3] at h1; cases h1; omega
  · rcases hp with ⟨h3, _⟩ | ⟨_, rfl, rfl, rfl⟩ | ⟨m, h3, _⟩
    · rw [h3] at h1; cases h1
    · exact ⟨none, 0, rfl, SlS.nil _ _, hB⟩
    · rw [h3] at h1; cases h1
  · rcases hp with ⟨h3, h4, _⟩ | ⟨h3, _⟩ | ⟨m, _, _, rfl, rfl, rfl⟩
    · rw [h3] at h1; cases h1; omega
    · rw [h3] at h1; cases h1
    · exact ⟨none, 0, rfl, SlS.nil _ _, hB⟩
theorem pis_bounds {bs : List UInt8} {n : List (List UInt8)} {c : Int} (h : PIs bs n c) : 0 ≤ c ∧ c ≤ 31 := by
  rcases h with ⟨_, _, rfl⟩ | ⟨_, ⟨_, rfl⟩ | ⟨m, _, h⟩, _⟩
  · omega
  · omega
  · rcases N.chk_cases m with h1 | h1 | h1 <;> omega
theorem pis_len {bs : List UInt8} {n : List (List UInt8)} {c : Int} (h : PIs bs n c) : n.length ≤ bs.length + 1 := by
  rcases h with ⟨h, _⟩ | ⟨rfl, _⟩
  · exact (N.rd_bounds h).1
  · simp
theorem len_size (n : List (List UInt8)) : n.length ≤ N.size n := by
  induction n with
  | nil => simp
  | cons l n ih =>
    have e2 : N.size (l :: n) = (l.length + 1) + N.size n := by simp only [N.size, List.map_cons, List.sum_cons]; omega
    rw [e2, List.length_cons]; omega
theorem ois_bounds {b : List UInt8} {n : List (List UInt8)} {k c : Int} (h : OIs b n k c) : 0 ≤ c ∧ c ≤ 31 ∧ 0 ≤ k ∧ k ≤ 255 ∧ n.length ≤ 255 := by
  rcases h with ⟨_, h, rfl, rfl⟩ | ⟨_, rfl, rfl, rfl⟩ | ⟨_, _, _, rfl, rfl, rfl⟩
  · have := len_size n; omega
  · simp
  · simp
set_option maxRecDepth 3000 in
set_option maxHeartbeats 1000000 in
theorem nameReads_walk (s : ByteArray) (b : List UInt8) (ao : Option Addr) (len cap : Nat) (w : World) (hl : Hid (b.length = len)) (hb : SlL w ao b) (hcap : len ≤ cap) (hs : s.size ≤ 1000) (hm : len ≤ 1000) (hTab : Tabs w) :
    Calls Tryd.prog 3 #[.string s, .slice ao len cap] w fun e w' => e = .returned (.bool true) ∧ Below w.heap.size w w' := by
  have HT := hide hTab
  have HSB := hide hb
  have hT2 := hTab.2
  clear hTab hb
  obtain ⟨n, c, hp⟩ := pis_any s.data.toList
  obtain ⟨m, k, d, ho⟩ := ois_any b
  obtain ⟨hc1, hc2⟩ := pis_bounds hp
  obtain ⟨hd1, hd2, hk1, hk2, hml⟩ := ois_bounds ho
  have hnl : n.length ≤ 1001 := by
    have h1 := pis_len hp
    have h2 : s.data.toList.length = s.size := rfl
    omega
  have HP := hide hp
  have HO := hide ho
  clear hp ho
  have hnot : ∀ (x : Bool) (w : World), (Op.unary .not (.bool x)).run Tryd.prog w = .ok (.bool (!x)) w := fun _ _ => rfl
  go_enter Tryd.func3, Tryd.ntmps3
  go_wp2_with (go_at_call 9; refine (known_any _ (by exact HT.out)).mono ?_; rintro e w1 ⟨rfl, hb1⟩)
  have hz1 := hb1.size
  refine (parse_any s s.data.toList _ rfl (by omega) (by exact HT.out.below hb1 hT2)).mono ?_
  intro e w2 hP2
  obtain ⟨a2, k2, rfl, hS2, hB2⟩ := hP2.is HP.out
  have hb2 := hb1.trans (hB2.mono hz1)
  have hz2 := hb2.size
  have HS2 := hide hS2
  clear hb1 hB2 hP2 hS2 hz1
  go_wp2_with fail
  refine (rParse_any s s.data.toList _ rfl (by omega)).mono ?_
  intro e w3 hP3
  obtain ⟨a3, k3, rfl, hS3, hB3⟩ := hP3.is HP.out
  have hb3 := hb2.trans (hB3.mono hz2)
  have hz3 := hb3.size
  have HS23 := hide (HS2.out.below hB3 (Nat.le_refl _))
  have HS3 := hide hS3
  clear hb2 hB3 hP3 hS3 hz2 HS2
  go_wp2_with fail
  refine (open_any b ao len cap _ hl (by exact HSB.out.below hb3 (Nat.le_refl _)) (by omega) hcap).mono ?_
  intro e w4 hO4
  obtain ⟨a4, k4, rfl, hS4, hB4⟩ := hO4.is HO.out
  have hb4 := hb3.trans (hB4.mono hz3)
  have hz4 := hb4.size
  have HS24 := hide (HS23.out.below hB4 (Nat.le_refl _))
  have HS34 := hide (HS3.out.below hB4 (Nat.le_refl _))
  have HS4 := hide hS4
  clear hb3 hB4 hO4 hS4 hz3 HS23 HS3
  go_wp2_with fail
  refine (rOpen_any b ao len cap _ hl (by exact HSB.out.below hb4 (Nat.le_refl _)) (by omega) hcap).mono ?_
  intro e w5 hO5
  obtain ⟨a5, k5, rfl, hS5, hB5⟩ := hO5.is HO.out
  have hb5 := hb4.trans (hB5.mono hz4)
  have HS25 := hide (HS24.out.below hB5 (Nat.le_refl _))
  have HS35 := hide (HS34.out.below hB5 (Nat.le_refl _))
  have HS45 := hide (HS4.out.below hB5 (Nat.le_refl _))
  have HS5 := hide hS5
  clear hb4 hB5 hO5 hS5 hz4 HS24 HS34 HS4
  go_wp2_with fail
  refine (name_same n a2 a3 _ _ k2 k3 _ rfl rfl (by exact HS25.out) (by exact HS35.out) (by omega)).mono ?_
  rintro e w6 ⟨rfl, hm6⟩
  have hb6 := hb5.trans (drew_below _ hm6)
  have HS46 := hide (HS45.out.below (drew_below _ hm6) (Nat.le_refl _))
  have HS56 := hide (HS5.out.below (drew_below _ hm6) (Nat.le_refl _))
  clear hb5 hm6 HS25 HS35 HS45 HS5
  go_wp2_with fail
  refine (name_same m a4 a5 _ _ k4 k5 _ rfl rfl (by exact HS46.out) (by exact HS56.out) (by omega)).mono ?_
  rintro e w7 ⟨rfl, hm7⟩
  have hb7 := hb6.trans (drew_below _ hm7)
  go_wp2
  go_ret
  exact ⟨rfl, hb7⟩
theorem nameReads_long (s : ByteArray) (ao : Option Addr) (len cap : Nat) (w : World) (hs : s.size ≤ 9223372036854775807) (hm : len ≤ 9223372036854775807) (h : 1000 < s.size ∨ 1000 < len) (hTab : Tabs w) :
    Calls Tryd.prog 3 #[.string s, .slice ao len cap] w fun e w' => e = .returned (.bool true) ∧ Below w.heap.size w w' := by
  have HT := hide hTab
  clear hTab
  have hnot : ∀ (x : Bool) (w : World), (Op.unary .not (.bool x)).run Tryd.prog w = .ok (.bool (!x)) w := fun _ _ => rfl
  rcases Nat.lt_or_ge 1000 s.size with h1 | h1
  · go_enter Tryd.func3, Tryd.ntmps3
    go_wp2_with (go_at_call 9; refine (known_any _ (by exact HT.out)).mono ?_; rintro e w1 ⟨rfl, hb1⟩)
    go_ret
    exact ⟨rfl, hb1⟩
  · have h2 : 1000 < len := by omega
    go_enter Tryd.func3, Tryd.ntmps3
    go_wp2_with (go_at_call 9; refine (known_any _ (by exact HT.out)).mono ?_; rintro e w1 ⟨rfl, hb1⟩)
    go_ret
    exact ⟨rfl, hb1⟩
end Go.Proofs.YtecikfdnnjinpaaDoor
