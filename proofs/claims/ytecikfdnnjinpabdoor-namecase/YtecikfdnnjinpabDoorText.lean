/- name.writeByte, name.Text: a name's text. -/
import Derived.Test.YtecikfdnnjinpabDoorShelf
namespace Go.Proofs.YtecikfdnnjinpabDoor
open Go.RowKit
namespace N
def esc (c : UInt8) : List UInt8 :=
  if c.toNat = 46 ∨ c.toNat = 92 then [92, c] else if c.toNat < 33 ∨ 126 < c.toNat then [92, UInt8.ofNat (48 + c.toNat / 100), UInt8.ofNat (48 + c.toNat / 10 % 10), UInt8.ofNat (48 + c.toNat % 10)] else [c]
theorem esc_dot {c : UInt8} (h : c.toNat = 46 ∨ c.toNat = 92) : esc c = [92, c] := by unfold esc; rw [if_pos h]
theorem esc_num {c : UInt8} (h : c.toNat < 33 ∨ 126 < c.toNat) : esc c = [92, UInt8.ofNat (48 + c.toNat / 100), UInt8.ofNat (48 + c.toNat / 10 % 10), UInt8.ofNat (48 + c.toNat % 10)] := by
  unfold esc; rw [if_neg (by omega), if_pos h]
theorem esc_own {c : UInt8} (h1 : c.toNat ≠ 46) (h2 : c.toNat ≠ 92) (h3 : 33 ≤ c.toNat) (h4 : c.toNat ≤ 126) : esc c = [c] := by
  unfold esc; rw [if_neg (by omega), if_neg (by omega)]
theorem esc_len (c : UInt8) : (esc c).length ≤ 4 := by
  unfold esc; split
  · simp
  · split <;> simp
def textL (l : List UInt8) : List UInt8 := l.flatMap esc
def textN (n : List (List UInt8)) : List UInt8 := n.flatMap (fun l => textL l ++ [46])
def text (n : List (List UInt8)) : List UInt8 := if n = [] then [46] else textN n
theorem textL_next (l : List UInt8) (j : Nat) (h : j < l.length) : textL (l.take (j + 1)) = textL (l.take j) ++ esc (l.getD j 0) := by
  rw [take_nextB l j h]; simp [textL]
theorem textN_next (n : List (List UInt8)) (j : Nat) (h : j < n.length) : textN (n.take (j + 1)) = textN (n.take j) ++ (textL (n.getD j []) ++ [46]) := by
  rw [take_nextN n j h]; simp [textN]
theorem textL_len : ∀ l : List UInt8, (textL l).length ≤ 4 * l.length
  | [] => by simp [textL]
  | c :: l => by
    have h := textL_len l
    have h1 := esc_len c
    have e : textL (c :: l) = esc c ++ textL l := by simp [textL]
    rw [e, List.length_append, List.length_cons]; omega
theorem textN_len : ∀ n : List (List UInt8), (textN n).length ≤ 4 * size n
  | [] => by simp [textN]
  | l :: n => by
    have h := textN_len n
    have h1 := textL_len l
    have e : textN (l :: n) = (textL l ++ [46]) ++ textN n := by simp [textN]
    have e2 : size (l :: n) = (l.length + 1) + size n := by simp only [size, List.map_cons, List.sum_cons]; omega
    rw [e, List.length_append, List.length_append, e2]; simp; omega
end N
set_option maxRecDepth 3000 in
set_option maxHeartbeats 400000 in
theorem writeByte_any (B b : Nat) (l : List UInt8) (c : UInt8) (v : Int) (w : World) (hv : v = (c.toNat : Int)) (h : Bld B b l w) (hlen : l.length ≤ 140737488355320) (hBw : B ≤ w.heap.size) :
    Calls Tryd.prog 17 #[.pointer (some ⟨b, 0, none⟩), .int .u8 v] w fun e w' => e = .returned (.tuple #[]) ∧ Bld B b (l ++ N.esc c) w' ∧ Below B w w' := by
  subst hv
  have hc := c.toNat_lt
  by_cases h1 : c.toNat = 46 ∨ c.toNat = 92
  · rw [N.esc_dot h1]
    rcases h1 with h1 | h1
    · go_enter Tryd.func17, Tryd.ntmps17
      go_wp2_with fail
      refine (write_at B b l 92 _ _ rfl (by exact h) (by omega) hBw).mono ?_
      rintro e w1 ⟨rfl, hI1, hB1⟩
      go_wp2_with fail
      refine (write_at B b (l ++ [92]) c _ _ (by omega) (by exact hI1) (by simp; omega) (Nat.le_trans hBw hB1.size)).mono ?_
      rintro e w2 ⟨rfl, hI2, hB2⟩
      go_wp2
      go_end0
      exact ⟨rfl, by simpa using hI2, hB1.trans hB2⟩
    · go_enter Tryd.func17, Tryd.ntmps17
      go_wp2_with fail
      refine (write_at B b l 92 _ _ rfl (by exact h) (by omega) hBw).mono ?_
      rintro e w1 ⟨rfl, hI1, hB1⟩
      go_wp2_with fail
      refine (write_at B b (l ++ [92]) c _ _ (by omega) (by exact hI1) (by simp; omega) (Nat.le_trans hBw hB1.size)).mono ?_
      rintro e w2 ⟨rfl, hI2, hB2⟩
      go_wp2
      go_end0
      exact ⟨rfl, by simpa using hI2, hB1.trans hB2⟩
  · have e1 : ((c.toNat : Int) == 46) = false := by simp; omega
    have e2 : ((c.toNat : Int) == 92) = false := by simp; omega
    by_cases h2 : c.toNat < 33 ∨ 126 < c.toNat
    · rw [N.esc_num h2]
      rcases h2 with h2 | h2
      all_goals
        go_enter Tryd.func17, Tryd.ntmps17
        go_wp2_with fail
        refine (write_at B b l 92 _ _ rfl (by exact h) (by omega) hBw).mono ?_
        rintro e w1 ⟨rfl, hI1, hB1⟩
        go_wp2_with fail
        refine (write_at B b (l ++ [92]) (UInt8.ofNat (48 + c.toNat / 100)) _ _ (by rw [UInt8.toNat_ofNat']; omega) (by exact hI1) (by simp; omega) (Nat.le_trans hBw hB1.size)).mono ?_
        rintro e w2 ⟨rfl, hI2, hB2⟩
        go_wp2_with fail
        refine (write_at B b _ (UInt8.ofNat (48 + c.toNat / 10 % 10)) _ _ (by rw [UInt8.toNat_ofNat']; omega) (by exact hI2) (by simp; omega) (Nat.le_trans hBw (hB1.trans hB2).size)).mono ?_
        rintro e w3 ⟨rfl, hI3, hB3⟩
        go_wp2_with fail
        refine (write_at B b _ (UInt8.ofNat (48 + c.toNat % 10)) _ _ (by rw [UInt8.toNat_ofNat']; omega) (by exact hI3) (by simp; omega) (Nat.le_trans hBw ((hB1.trans hB2).trans hB3).size)).mono ?_
        rintro e w4 ⟨rfl, hI4, hB4⟩
        go_wp2
        go_end0
        exact ⟨rfl, by simpa using hI4, ((hB1.trans hB2).trans hB3).trans hB4⟩
    · rw [N.esc_own (by omega) (by omega) (by omega) (by omega)]
      go_enter Tryd.func17, Tryd.ntmps17
      go_wp2_with fail
      refine (write_at B b l c _ _ rfl (by exact h) (by omega) hBw).mono ?_
      rintro e w1 ⟨rfl, hI1, hB1⟩
      go_wp2
      go_end0
      exact ⟨rfl, hI1, hB1⟩
set_option maxRecDepth 3000 in
set_option maxHeartbeats 400000 in
theorem text_any (n : List (List UInt8)) (ao : Option Addr) (len cap : Nat) (w : World) (hl : Hid (n.length = len)) (hs : SlS w ao n) (hm : Hid (N.Small n)) :
    Calls Tryd.prog 6 #[.slice ao len cap] w fun e w' => e = .returned (.string ⟨(N.text n).toArray⟩) ∧ Below w.heap.size w w' := by
  have HS := hide hs
  have hlen : len ≤ 1000000 := by rw [← hl.out]; exact hm.out.1
  clear hs
  by_cases h0 : len = 0
  · have hn : n = [] := List.eq_nil_of_length_eq_zero (by have := hl.out; omega)
    have ht : N.text n = [46] := by rw [hn]; rfl
    rw [ht]
    subst h0
    go_enter Tryd.func6, Tryd.ntmps6
    go_wp2
    go_ret
    exact ⟨rfl, Below.refl _ _⟩
  · have hn : n ≠ [] := fun e => h0 (by rw [← hl.out, e]; rfl)
    have ht : N.text n = N.textN n := by unfold N.text; rw [if_neg hn]
    rw [ht]
    have he : ((len : Int) == 0) = false := by simp; omega
    go_enter Tryd.func6, Tryd.ntmps6
    go_wp2
    have hI0 := Bld.fresh w
    have hB0 : Below w.heap.size w (w.alloc (.cells #[.pointer none, .slice none 0 0] 42)) := (Below.refl _ _).alloc (Nat.le_refl _) _
    go_loopw [12] (fun i wr => ∃ j : Nat, i = .int .i64 (j : Int) ∧ j ≤ len ∧ Bld w.heap.size w.heap.size (N.textN (n.take j)) wr ∧ Below w.heap.size w wr) (fun i _ => len - (intOf i).toNat)
    case atStart => exact ⟨0, rfl, by omega, hI0, hB0⟩
    case round =>
      clear hI0 hB0
      obtain ⟨j, rfl, hj, hI, hB⟩ := hrel
      have hz := hB.size
      by_cases hlt : j < len
      · obtain ⟨b1, o1, rfl, hb1, hc1⟩ := HS.out (by have := hl.out; omega)
        have hx := (hB.cell (p := ⟨b1, o1 + j, none⟩) hb1).trans (hc1 j (by have := hl.out; omega))
        have hn1 := N.textN_next n j (by have := hl.out; omega)
        have hxl := hm.out.at j
        have hsl := N.textN_len (n.take j)
        have hsj := hm.out.size j (by have := hl.out; omega)
        clear hc1
        generalize n.getD j [] = x at hx hn1 hxl
        have HN := hide hn1
        clear hn1
        obtain ⟨s, hs, hsd⟩ : ∃ s : ByteArray, (⟨x.toArray⟩ : ByteArray) = s ∧ Hid (s.data.toList = x) := ⟨_, rfl, rfl⟩
        have hsz : s.size = x.length := by rw [← hs]; rfl
        rw [hs] at hx
        clear hs
        go_wp2
        go_loopw [18] (fun i wr => ∃ k : Nat, i = .int .i64 (k : Int) ∧ k ≤ s.size ∧ Bld w.heap.size w.heap.size (N.textN (n.take j) ++ N.textL (x.take k)) wr ∧ Below w.heap.size w wr) (fun i _ => s.size - (intOf i).toNat)
        case atStart => exact ⟨0, rfl, by omega, (by simpa [N.textL] using hI), hB⟩
        case round =>
          clear hI hB hz hx
          obtain ⟨k, rfl, hk, hI, hB⟩ := hrel
          have hz := hB.size
          have htl := N.textL_len (x.take k)
          have htk : (x.take k).length ≤ 1000000 := by rw [List.length_take]; omega
          by_cases hkl : k < s.size
          · have hxs : s[k]'hkl = x.getD k 0 := by rw [← hsd.out]; exact str_at s k hkl
            have hn2 := N.textL_next x k (by omega)
            generalize x.getD k 0 = c at hxs hn2
            have HN2 := hide hn2
            clear hn2
            go_wp2_with (go_at_call 17; refine (writeByte_any w.heap.size w.heap.size _ c _ _ rfl (by exact hI) (by rw [List.length_append]; omega) hz).mono ?_; rintro e w2 ⟨rfl, hI2, hB2⟩)
            go_roundw
            case rel => exact ⟨k + 1, by go_num, by omega, (by rw [HN2.out, ← List.append_assoc]; exact hI2), hB.trans hB2⟩
            case measure => simp [intOf]; omega
          · obtain rfl : k = s.size := by omega
            go_wp2_with (go_at_call 18; refine (write_at w.heap.size w.heap.size _ 46 _ _ rfl (by exact hI) (by rw [List.length_append]; omega) hz).mono ?_; rintro e w2 ⟨rfl, hI2, hB2⟩)
            go_roundw
            case rel => exact ⟨j + 1, by go_num, by omega, (by rw [HN.out, ← List.append_assoc]; have e : x.take s.size = x := List.take_of_length_le (by omega); rw [e] at hI2; exact hI2), hB.trans hB2⟩
            case measure => simp [intOf]; omega
      · obtain rfl : j = len := by omega
        go_wp2_with (go_at_call 19; refine (string_at w.heap.size w.heap.size _ _ (by exact hI) hz).mono ?_; rintro e w2 ⟨rfl, hB2⟩)
        go_ret
        refine ⟨?_, hB.trans hB2⟩
        have ht2 : n.take j = n := by rw [← hl.out]; exact List.take_length
        rw [ht2]; rfl
end Go.Proofs.YtecikfdnnjinpabDoor
