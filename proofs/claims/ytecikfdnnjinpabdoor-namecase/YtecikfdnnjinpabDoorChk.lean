/- name.wireSize, name.Check: how long a name is, and whether it may be one. -/
import Derived.Test.YtecikfdnnjinpabDoorCmp2
namespace Go.Proofs.YtecikfdnnjinpabDoor
open Go.RowKit
namespace N
def size (n : List (List UInt8)) : Nat := 1 + (n.map (fun l => l.length + 1)).sum
theorem take_nextN (n : List (List UInt8)) (j : Nat) (h : j < n.length) : n.take (j + 1) = n.take j ++ [n.getD j []] := by
  rw [List.take_succ_eq_append_getElem h]; simp [h]
theorem take_nextB (n : List UInt8) (j : Nat) (h : j < n.length) : n.take (j + 1) = n.take j ++ [n.getD j 0] := by
  rw [List.take_succ_eq_append_getElem h]; simp [h]
theorem size_app (a b : List (List UInt8)) : size (a ++ b) = size a + (b.map (fun l => l.length + 1)).sum := by
  simp only [size, List.map_append, List.sum_append]; omega
theorem size_next (n : List (List UInt8)) (j : Nat) (h : j < n.length) : size (n.take (j + 1)) = size (n.take j) + ((n.getD j []).length + 1) := by
  rw [take_nextN n j h, size_app]; simp
/- of a sane size -/
def Small (n : List (List UInt8)) : Prop := n.length ≤ 1000000 ∧ ∀ l ∈ n, l.length ≤ 1000000
theorem Small.at {n : List (List UInt8)} (h : Small n) (j : Nat) : (n.getD j []).length ≤ 1000000 := by
  rcases Nat.lt_or_ge j n.length with h1 | h1
  · have : n.getD j [] = n[j] := by simp [h1]
    rw [this]; exact h.2 _ (List.getElem_mem h1)
  · have : n.getD j [] = [] := by simp [h1]
    rw [this]; simp
theorem Small.size {n : List (List UInt8)} (h : Small n) : ∀ j, j ≤ n.length → size (n.take j) ≤ 1 + j * 1000001
  | 0, _ => by simp [N.size]
  | j + 1, hj => by
    rw [size_next n j (by omega)]
    have h1 := h.size j (by omega)
    have h2 := h.at j
    omega
/- Check -/
def chk (n : List (List UInt8)) : Int := if [] ∈ n then 30 else if 255 < size n ∨ ∃ l ∈ n, 63 < l.length then 31 else 0
def lng (n : List (List UInt8)) (j : Nat) : Bool := decide (255 < size n) || (n.take j).any (fun l => decide (63 < l.length))
theorem lng_next (n : List (List UInt8)) (j : Nat) (h : j < n.length) : lng n (j + 1) = (lng n j || decide (63 < (n.getD j []).length)) := by
  unfold lng; rw [take_nextN n j h, List.any_append, Bool.or_assoc]; simp
theorem chk_bad {n : List (List UInt8)} (j : Nat) (h : j < n.length) (he : n.getD j [] = []) : chk n = 30 := by
  unfold chk; rw [if_pos]
  have : n[j] = [] := by simpa [h] using he
  rw [← this]; exact List.getElem_mem h
theorem chk_end {n : List (List UInt8)} (h : ∀ l ∈ n.take n.length, l ≠ []) : chk n = if lng n n.length = true then 31 else 0 := by
  rw [List.take_length] at h
  unfold chk lng
  rw [if_neg (fun e => h [] e rfl), List.take_length]
  simp only [Bool.or_eq_true, decide_eq_true_eq, List.any_eq_true]
theorem chk_small {n : List (List UInt8)} (h : chk n = 0) : [] ∉ n ∧ size n ≤ 255 ∧ ∀ l ∈ n, l.length ≤ 63 := by
  unfold chk at h
  split at h
  · cases h
  · rename_i h1
    split at h
    · cases h
    · rename_i h2
      exact ⟨h1, Nat.le_of_not_lt fun e => h2 (Or.inl e), fun l hl => Nat.le_of_not_lt fun e => h2 (Or.inr ⟨l, hl, e⟩)⟩
theorem chk_ok {n : List (List UInt8)} (h1 : [] ∉ n) (h2 : size n ≤ 255) (h3 : ∀ l ∈ n, l.length ≤ 63) : chk n = 0 := by
  unfold chk
  rw [if_neg h1, if_neg]
  rintro (h | ⟨l, hl, h⟩)
  · omega
  · have := h3 l hl; omega
theorem chk_cases (n : List (List UInt8)) : chk n = 0 ∨ chk n = 30 ∨ chk n = 31 := by
  unfold chk; split
  · exact Or.inr (Or.inl rfl)
  · split
    · exact Or.inr (Or.inr rfl)
    · exact Or.inl rfl
end N
set_option maxRecDepth 3000 in
theorem wireSize_any (n : List (List UInt8)) (ao : Option Addr) (len cap : Nat) (w : World) (hl : Hid (n.length = len)) (hs : SlS w ao n) (hm : Hid (N.Small n)) :
    Calls Tryd.prog 27 #[.slice ao len cap] w fun e w' => e = .returned (.int .i64 (N.size n : Int)) ∧ w' = w := by
  have HS := hide hs
  have hlen : len ≤ 1000000 := by rw [← hl.out]; exact hm.out.1
  clear hs
  go_enter Tryd.func27, Tryd.ntmps27
  go_wp2
  go_loopw [8, 3] (fun i s wr => ∃ j sz : Nat, i = .int .i64 (j : Int) ∧ s = .int .i64 (sz : Int) ∧ j ≤ len ∧ Hid (sz = N.size (n.take j)) ∧ wr = w) (fun i _ _ => len - (intOf i).toNat)
  case atStart => exact ⟨0, 1, rfl, rfl, by omega, rfl, rfl⟩
  case round =>
    obtain ⟨j, sz, rfl, rfl, hj, HZ, rfl⟩ := hrel
    have hsz : sz ≤ 1 + j * 1000001 := by rw [HZ.out]; exact hm.out.size j (by have := hl.out; omega)
    by_cases hlt : j < len
    · obtain ⟨b1, o1, rfl, _, hc1⟩ := HS.out (by have := hl.out; omega)
      have hx := hc1 j (by have := hl.out; omega)
      have hn := N.size_next n j (by have := hl.out; omega)
      have hxl := hm.out.at j
      clear hc1
      generalize n.getD j [] = x at hx hn hxl
      have HN := hide hn
      clear hn
      go_wp2
      go_roundw
      case rel => exact ⟨j + 1, sz + (x.length + 1), by go_num, by go_num, by omega, (by rw [HZ.out]; exact HN.out.symm), trivial⟩
      case measure => simp [intOf]; omega
    · obtain rfl : j = len := by omega
      go_wp2
      go_ret
      refine ⟨?_, rfl⟩
      have h1 := HZ.out
      rw [← hl.out, List.take_length] at h1
      rw [← h1]; rfl
set_option maxRecDepth 3000 in
theorem check_any (n : List (List UInt8)) (ao : Option Addr) (len cap : Nat) (w : World) (hl : Hid (n.length = len)) (hs : SlS w ao n) (hm : Hid (N.Small n)) :
    Calls Tryd.prog 22 #[.slice ao len cap] w fun e w' => e = .returned (.int .i64 (N.chk n)) ∧ w' = w := by
  have HS := hide hs
  have hlen : len ≤ 1000000 := by rw [← hl.out]; exact hm.out.1
  have hsz : N.size n ≤ 1 + len * 1000001 := by
    have := hm.out.size n.length (Nat.le_refl _)
    rw [List.take_length, hl.out] at this; exact this
  clear hs
  go_enter Tryd.func22, Tryd.ntmps22
  go_wp2_with (go_at_call 27; refine (wireSize_any n ao len cap _ hl HS.out hm).mono ?_; rintro e w' ⟨rfl, rfl⟩)
  go_loopw [11, 3] (fun i s wr => ∃ (j : Nat) (g : Bool), i = .int .i64 (j : Int) ∧ s = .bool g ∧ j ≤ len ∧ Hid (g = N.lng n j) ∧ Hid (∀ l ∈ n.take j, l ≠ []) ∧ wr = w') (fun i _ _ => len - (intOf i).toNat)
  case atStart => exact ⟨0, _, rfl, rfl, by omega, (by show _ = _; unfold N.lng; rw [List.take_zero, List.any_nil, Bool.or_false, decide_eq_decide]; omega), (fun l hl => by simp at hl), rfl⟩
  case round =>
    obtain ⟨j, g, rfl, rfl, hj, HG, HE, rfl⟩ := hrel
    by_cases hlt : j < len
    · obtain ⟨b1, o1, rfl, _, hc1⟩ := HS.out (by have := hl.out; omega)
      have hx := hc1 j (by have := hl.out; omega)
      have hn := N.lng_next n j (by have := hl.out; omega)
      have hxl := hm.out.at j
      have hbad := @N.chk_bad n j (by have := hl.out; omega)
      have ht := N.take_nextN n j (by have := hl.out; omega)
      clear hc1
      generalize n.getD j [] = x at hx hn hxl hbad ht
      have HN := hide hn
      have HB := hide hbad
      have HT := hide ht
      clear hn hbad ht
      by_cases hx0 : x = []
      · have HB0 := hide (HB.out hx0)
        clear HB
        subst hx0
        go_wp2
        go_ret
        exact ⟨by rw [HB0.out]; rfl, rfl⟩
      · have hx1 : x.isEmpty = false := by cases x <;> simp_all
        have hx2 : (x == []) = false := by cases x <;> simp_all
        cases g
        · go_wp2
          go_roundw
          case rel => exact ⟨j + 1, _, by go_num, rfl, by omega, (by show _ = _; rw [HN.out, ← HG.out, Bool.false_or, decide_eq_decide]; omega), (by rw [HT.out]; intro l hl; rcases List.mem_append.1 hl with h | h; exact HE.out l h; rw [List.mem_singleton.1 h]; exact hx0), trivial⟩
          case measure => simp [intOf]; omega
        · go_wp2
          go_roundw
          case rel => exact ⟨j + 1, _, by go_num, rfl, by omega, (by show _ = _; rw [HN.out, ← HG.out, Bool.true_or]), (by rw [HT.out]; intro l hl; rcases List.mem_append.1 hl with h | h; exact HE.out l h; rw [List.mem_singleton.1 h]; exact hx0), trivial⟩
          case measure => simp [intOf]; omega
    · obtain rfl : j = len := by omega
      have he := @N.chk_end n (by rw [hl.out]; exact HE.out)
      rw [hl.out, ← HG.out] at he
      have HC := hide he
      clear he
      cases g
      · go_wp2
        go_ret
        exact ⟨by rw [HC.out]; rfl, rfl⟩
      · go_wp2
        go_ret
        exact ⟨by rw [HC.out]; rfl, rfl⟩
end Go.Proofs.YtecikfdnnjinpabDoor
