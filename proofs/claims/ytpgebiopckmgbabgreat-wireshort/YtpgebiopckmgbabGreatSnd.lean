/- wire.sound: sections of none, questions whose names are right. -/
import Derived.Test.YtpgebiopckmgbabGreatHlm
namespace Go.Proofs.YtpgebiopckmgbabGreat
open Go.RowKit
set_option maxRecDepth 5000 in
theorem idxR_nil (f : Value) (w : World) : Calls Tryz.prog 54 #[.slice none 0 0, f] w fun e w' => e = .returned (.int .i64 (-1)) ∧ w = w' := by
  go_enter Tryz.func54, Tryz.ntmps54
  go_wp2
  go_loopw [8] (fun i wr => i = .int .i64 0 ∧ w = wr) (fun _ _ => 0)
  case atStart => exact ⟨rfl, rfl⟩
  case round =>
    obtain ⟨rfl, rfl⟩ := hrel
    go_wp2
    go_ret
    exact ⟨rfl, rfl⟩
set_option maxRecDepth 5000 in
theorem conR_nil (f : Value) (w : World) : Calls Tryz.prog 45 #[.slice none 0 0, f] w fun e w' => e = .returned (.bool false) ∧ w = w' := by
  go_enter Tryz.func45, Tryz.ntmps45
  go_wp2_with fail
  refine (idxR_nil _ _).mono ?_
  rintro e w1 ⟨rfl, rfl⟩
  go_wp2
  go_ret
  exact ⟨rfl, rfl⟩
set_option maxRecDepth 5000 in
theorem soundR_nil (w : World) : Calls Tryz.prog 26 #[.slice none 0 0] w fun e w' => e = .returned (.bool true) ∧ w = w' := by
  go_enter Tryz.func26, Tryz.ntmps26
  go_wp2_with fail
  refine (conR_nil _ _).mono ?_
  rintro e w1 ⟨rfl, rfl⟩
  go_wp2
  go_ret
  exact ⟨rfl, rfl⟩
set_option maxRecDepth 5000 in
theorem len_le_size2 (n : List (List UInt8)) : n.length ≤ N.size n := by
  unfold N.size
  induction n with
  | nil => simp
  | cons a r ih => simp only [List.map_cons, List.sum_cons, List.length_cons]; omega
set_option maxRecDepth 5000 in
theorem good_chk {n : List (List UInt8)} (h : M.Good n) : N.chk n = 0 := by
  unfold N.chk
  rw [if_neg h.1, if_neg]
  rintro (h1 | ⟨l, hl, h1⟩)
  · have := h.2.2; omega
  · have := h.2.1 l hl; omega
set_option maxRecDepth 5000 in
theorem good_small2 {n : List (List UInt8)} (h : M.Good n) : N.Small n := by
  refine ⟨?_, ?_⟩
  · have h1 := len_le_size2 n; have := h.2.2; omega
  · intro l hl; have := h.2.1 l hl; omega
set_option maxRecDepth 5000 in
theorem soundQ1_good (n : List (List UInt8)) (a : Option Addr) (c t k : Nat) (w : World) (hs : SlS w a n) (hg : M.Good n) :
    Calls Tryz.prog 41 #[.agg #[.slice a n.length c, .int .u16 (t : Int), .int .u16 (k : Int)]] w fun e w' => e = .returned (.bool false) ∧ Below w.heap.size w w' := by
  have HS := hide hs
  have HC := hide (good_chk hg)
  have HM := hide (good_small2 hg)
  have B0 := hide ((Below.refl w.heap.size w).alloc (Nat.le_refl _) (.cells #[.slice a n.length c, .int .u16 (t : Int), .int .u16 (k : Int)] 28))
  clear hs hg
  go_enter Tryz.func41, Tryz.ntmps41
  go_wp2_with fail
  refine (check_any n a n.length c _ rfl (by exact HS.out.below B0.out (Nat.le_refl _)) HM).mono ?_
  rw [HC.out]
  rintro e w1 ⟨rfl, rfl⟩
  go_wp2
  go_ret
  exact ⟨rfl, B0.out⟩
set_option maxRecDepth 5000 in
theorem idxQ_good (l : List (Option Addr × Nat × M.Q)) (a : Option Addr) (c : Nat) (w : World) (hs : SlQ w a l) (hl : l.length ≤ 100000) (hg : ∀ x ∈ l, M.Good x.2.2.name) :
    Calls Tryz.prog 53 #[.slice a l.length c, .func (.func 41) #[] #[]] w fun e w' => e = .returned (.int .i64 (-1)) ∧ Below w.heap.size w w' := by
  have HS := hide hs
  have HG := hide hg
  clear hs hg
  go_enter Tryz.func53, Tryz.ntmps53
  go_wp2
  go_loopw [8] (fun i wr => ∃ j : Nat, i = .int .i64 (j : Int) ∧ j ≤ l.length ∧ Below w.heap.size w wr) (fun i _ => l.length - (intOf i).toNat)
  case atStart => exact ⟨0, rfl, by omega, Below.refl _ _⟩
  case round =>
    obtain ⟨j, rfl, hj, hB⟩ := hrel
    by_cases hlt : j < l.length
    · obtain ⟨g, rfl, hgl, hcell⟩ := (HS.out.below hB) (by omega)
      obtain ⟨x, hx⟩ : ∃ x, l[j]? = some x := ⟨_, List.getElem?_eq_getElem hlt⟩
      obtain ⟨m3, m4, m5, sx⟩ := hcell j x hx
      have hgx := HG.out x (List.mem_of_getElem? hx)
      have q1 : (j : Int) < (l.length : Int) := by omega
      have SX := hide sx
      have BB := hide hB
      clear hcell sx hB hx
      go_wp2_with fail
      refine (soundQ1_good x.2.2.name x.1 x.2.1 x.2.2.type x.2.2.cls _ (by exact SX.out) hgx).mono ?_
      rintro e w1 ⟨rfl, hb1⟩
      have B1 := hide (BB.out.trans (hb1.mono BB.out.size))
      clear hb1
      go_wp2
      go_roundw
      case rel => exact ⟨j + 1, by go_num, by omega, B1.out⟩
      case measure => simp [intOf]; omega
    · obtain rfl : j = l.length := by omega
      go_wp2
      go_ret
      exact ⟨rfl, hB⟩
set_option maxRecDepth 5000 in
theorem conQ_good (l : List (Option Addr × Nat × M.Q)) (a : Option Addr) (c : Nat) (w : World) (hs : SlQ w a l) (hl : l.length ≤ 100000) (hg : ∀ x ∈ l, M.Good x.2.2.name) :
    Calls Tryz.prog 43 #[.slice a l.length c, .func (.func 41) #[] #[]] w fun e w' => e = .returned (.bool false) ∧ Below w.heap.size w w' := by
  have HS := hide hs
  clear hs
  go_enter Tryz.func43, Tryz.ntmps43
  go_wp2_with fail
  refine (idxQ_good l a c _ (by exact HS.out) hl hg).mono ?_
  rintro e w1 ⟨rfl, hb⟩
  go_wp2
  go_ret
  exact ⟨rfl, hb⟩
set_option maxRecDepth 5000 in
theorem soundQ_good (l : List (Option Addr × Nat × M.Q)) (a : Option Addr) (c : Nat) (w : World) (hs : SlQ w a l) (hl : l.length ≤ 65535) (hg : ∀ x ∈ l, M.Good x.2.2.name) :
    Calls Tryz.prog 25 #[.slice a l.length c] w fun e w' => e = .returned (.bool true) ∧ Below w.heap.size w w' := by
  have HS := hide hs
  have q1 : (l.length : Int) ≤ 65535 := by omega
  clear hs
  go_enter Tryz.func25, Tryz.ntmps25
  go_wp2_with fail
  refine (conQ_good l a c _ (by exact HS.out) (by omega) hg).mono ?_
  rintro e w1 ⟨rfl, hb⟩
  go_wp2
  go_ret
  exact ⟨rfl, hb⟩
end Go.Proofs.YtpgebiopckmgbabGreat
