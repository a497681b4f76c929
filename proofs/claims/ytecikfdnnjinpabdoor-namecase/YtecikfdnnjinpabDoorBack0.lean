/- Each right name's text is read as that name. Plain. -/
import Derived.Test.YtecikfdnnjinpabDoorRefP
import Derived.Test.YtecikfdnnjinpabDoorText
namespace Go.Proofs.YtecikfdnnjinpabDoor
open Go.RowKit
namespace N
theorem dig_of (k : Nat) (hk : k ≤ 9) : dig (UInt8.ofNat (48 + k)).toNat = true ∧ (UInt8.ofNat (48 + k)).toNat - 48 = k := by
  have h : (UInt8.ofNat (48 + k)).toNat = 48 + k := by rw [UInt8.toNat_ofNat']; omega
  rw [h]
  exact ⟨decide_eq_true (by omega), by omega⟩
theorem run_esc (n : List (List UInt8)) (l : List UInt8) (c : UInt8) : run (st0 n l) (esc c) = some (st0 n (l ++ [c])) := by
  have hc := c.toNat_lt
  by_cases h1 : c.toNat = 46 ∨ c.toNat = 92
  · rw [esc_dot h1, run_cons, stp_back n l 92 rfl]
    show run _ [c] = _
    rw [run_one, stp_esc n l c (decide_eq_false (by omega))]
  · by_cases h2 : c.toNat < 33 ∨ 126 < c.toNat
    · obtain ⟨a1, a2⟩ := dig_of (c.toNat / 100) (by omega)
      obtain ⟨b1, b2⟩ := dig_of (c.toNat / 10 % 10) (by omega)
      obtain ⟨c1, c2⟩ := dig_of (c.toNat % 10) (by omega)
      rw [esc_num h2, run_cons, stp_back n l 92 rfl]
      show run _ [UInt8.ofNat (48 + c.toNat / 100), UInt8.ofNat (48 + c.toNat / 10 % 10), UInt8.ofNat (48 + c.toNat % 10)] = _
      rw [run_cons, stp_dig n l _ 0 0 (by omega) a1]
      show run _ [UInt8.ofNat (48 + c.toNat / 10 % 10), UInt8.ofNat (48 + c.toNat % 10)] = _
      rw [run_cons, stp_dig n l _ _ _ (by omega) b1]
      show run _ [UInt8.ofNat (48 + c.toNat % 10)] = _
      rw [run_one, stp_last n l _ _ c1, a2, b2, c2]
      have e : ((0 * 10 + c.toNat / 100) * 10 + c.toNat / 10 % 10) * 10 + c.toNat % 10 = c.toNat := by omega
      rw [e, if_neg (by omega), UInt8.ofNat_toNat]
    · rw [esc_own (by omega) (by omega) (by omega) (by omega), run_one, stp_plain n l c (by omega) (by omega)]
theorem run_textL (n : List (List UInt8)) : ∀ (x l : List UInt8), run (st0 n l) (textL x) = some (st0 n (l ++ x))
  | [], l => by simp [textL, run]
  | c :: x, l => by
    have e : textL (c :: x) = esc c ++ textL x := by simp [textL]
    rw [e, run_app, run_esc]
    show run (st0 n (l ++ [c])) (textL x) = _
    rw [run_textL n x (l ++ [c])]
    simp
theorem run_label (n : List (List UInt8)) (x : List UInt8) (hx : x ≠ []) : run (st0 n []) (textL x ++ [46]) = some (st0 (n ++ [x]) []) := by
  rw [run_app, run_textL]
  show run (st0 n ([] ++ x)) [46] = _
  rw [run_one, stp_dot n _ 46 rfl, List.nil_append]
  unfold endL st0; rw [if_neg hx]
theorem run_textN : ∀ (m n : List (List UInt8)), [] ∉ m → run (st0 n []) (textN m) = some (st0 (n ++ m) [])
  | [], n, _ => by simp [textN, run]
  | x :: m, n, h => by
    have e : textN (x :: m) = (textL x ++ [46]) ++ textN m := by simp [textN]
    rw [e, run_app, run_label n x (fun e1 => h (by rw [e1]; simp))]
    show run (st0 (n ++ [x]) []) (textN m) = _
    rw [run_textN m (n ++ [x]) (fun e1 => h (by simp [e1]))]
    simp
theorem textN_not_dot (n : List (List UInt8)) (h : [] ∉ n) : textN n ≠ [46] := by
  intro e
  have h1 := run_textN n [] h
  have h2 : run (st0 [] []) [46] = none := by
    rw [run_one, stp_dot [] [] 46 rfl]; rfl
  rw [e, h2] at h1
  cases h1
theorem rd_text (n : List (List UInt8)) (h : [] ∉ n) : rd (text n) = some n := by
  unfold text
  by_cases hn : n = []
  · subst hn; rfl
  · rw [if_neg hn, rd_run (textN_not_dot n h)]
    have h1 := run_textN n [] h
    rw [List.nil_append] at h1
    show (run (st0 [] []) (textN n)).bind fin = _
    rw [h1]
    exact fin_same n hn
/- without the last dot -/
theorem rd_bare (n : List (List UInt8)) (x : List UInt8) (h : [] ∉ n) (hx : x ≠ []) (hb : textN n ++ textL x ≠ [46]) : rd (textN n ++ textL x) = some (n ++ [x]) := by
  rw [rd_run hb]
  have h1 := run_textN n [] h
  rw [List.nil_append] at h1
  have h2 : run St.zero (textN n ++ textL x) = some (st0 n x) := by
    rw [run_app]
    show (run (st0 [] []) (textN n)).bind _ = _
    rw [h1]
    show run (st0 n []) (textL x) = _
    rw [run_textL]; rfl
  rw [h2]
  exact fin_more n x hx
theorem text_len (n : List (List UInt8)) : (text n).length ≤ 4 * size n := by
  unfold text
  split
  · rename_i h; subst h; simp [size]
  · exact textN_len n
end N
end Go.Proofs.YtecikfdnnjinpabDoor
