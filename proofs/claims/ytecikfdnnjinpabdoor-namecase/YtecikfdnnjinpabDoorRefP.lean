/- signetref3's Parse: what the steps of reading come to, byte by byte. -/
import Derived.Test.YtecikfdnnjinpabDoorRead
namespace Go.Proofs.YtecikfdnnjinpabDoor
open Go.RowKit
namespace N
def st0 (n : List (List UInt8)) (l : List UInt8) : St := ⟨n, l, false, 0, 0⟩
theorem stp_dot (n : List (List UInt8)) (l : List UInt8) (c : UInt8) (hc : c.toNat = 46) : stp (st0 n l) c = endL (st0 n l) := by
  unfold stp stpR st0
  rw [if_neg (by simp), if_neg (by omega), if_pos hc]
theorem stp_plain (n : List (List UInt8)) (l : List UInt8) (c : UInt8) (h1 : c.toNat ≠ 46) (h2 : c.toNat ≠ 92) : stp (st0 n l) c = some (st0 n (l ++ [c])) := by
  unfold stp stpR st0
  rw [if_neg (by simp), if_neg h2, if_neg h1]
theorem stp_back (n : List (List UInt8)) (l : List UInt8) (c : UInt8) (hc : c.toNat = 92) : stp (st0 n l) c = some ⟨n, l, true, 0, 0⟩ := by
  unfold stp stpR st0
  rw [if_neg (by simp), if_pos hc]
theorem stp_esc (n : List (List UInt8)) (l : List UInt8) (c : UInt8) (hc : dig c.toNat = false) : stp ⟨n, l, true, 0, 0⟩ c = some (st0 n (l ++ [c])) := by
  unfold stp stpR st0
  rw [if_pos rfl, if_neg (by simp [hc])]
theorem stp_dig (n : List (List UInt8)) (l : List UInt8) (c : UInt8) (d num : Nat) (hd : d ≤ 1) (hc : dig c.toNat = true) : stp ⟨n, l, true, d, num⟩ c = some ⟨n, l, true, d + 1, num * 10 + (c.toNat - 48)⟩ := by
  unfold stp stpR
  rw [if_pos rfl, if_pos (Or.inr hc)]
  unfold stpD
  rw [if_neg (by simp [hc]), if_pos (by show d + 1 < 3; omega)]
theorem stp_nodig (n : List (List UInt8)) (l : List UInt8) (c : UInt8) (d num : Nat) (hd : 0 < d) (hc : dig c.toNat = false) : stp ⟨n, l, true, d, num⟩ c = none := by
  unfold stp stpR
  rw [if_pos rfl, if_pos (Or.inl hd)]
  unfold stpD
  rw [if_pos hc]
theorem stp_last (n : List (List UInt8)) (l : List UInt8) (c : UInt8) (num : Nat) (hc : dig c.toNat = true) : stp ⟨n, l, true, 2, num⟩ c = if 255 < num * 10 + (c.toNat - 48) then none else some (st0 n (l ++ [UInt8.ofNat (num * 10 + (c.toNat - 48))])) := by
  unfold stp stpR
  rw [if_pos rfl, if_pos (Or.inr hc)]
  unfold stpD
  rw [if_neg (by simp [hc]), if_neg (by show ¬ (2 + 1 < 3); omega)]
  rfl
theorem run_cons (st : St) (c : UInt8) (r : List UInt8) : run st (c :: r) = (stp st c).bind (run · r) := rfl
theorem rd_run {bs : List UInt8} (h : bs ≠ [46]) : rd bs = (run St.zero bs).bind fin := by unfold rd; rw [if_neg h]
theorem rd_fell {bs : List UInt8} (h : bs ≠ [46]) (k : Nat) (h1 : run St.zero (bs.take k) = none) : rd bs = none := by
  rw [rd_run h, run_none _ bs k h1]; rfl
theorem rd_open {bs : List UInt8} (h : bs ≠ [46]) (h1 : ∀ st, run St.zero bs = some st → st.esc = true) : rd bs = none := by
  rw [rd_run h]
  cases hr : run St.zero bs with
  | none => rfl
  | some st =>
    show fin st = none
    unfold fin; rw [if_pos (h1 st hr)]
theorem take_more (bs : List UInt8) (i k : Nat) (n : List (List UInt8)) (l : List UInt8) (h : run St.zero (bs.take i) = some (st0 n l)) : run St.zero (bs.take (i + k)) = run (st0 n l) ((bs.drop i).take k) := by
  rw [take_add, run_app, h]; rfl
theorem drop2 (l : List UInt8) (j : Nat) (h : j + 1 < l.length) : l.drop j = l.getD j 0 :: l.getD (j + 1) 0 :: l.drop (j + 2) := by
  rw [drop_at l j (by omega), drop_at l (j + 1) h]
theorem drop4 (l : List UInt8) (j : Nat) (h : j + 3 < l.length) : l.drop j = l.getD j 0 :: l.getD (j + 1) 0 :: l.getD (j + 2) 0 :: l.getD (j + 3) 0 :: l.drop (j + 4) := by
  rw [drop2 l j (by omega), drop2 l (j + 2) h]
/- the steps of the reference's loop -/
theorem go_dot {bs : List UInt8} {i : Nat} {n : List (List UInt8)} {l : List UInt8} (h : run St.zero (bs.take i) = some (st0 n l)) (hi : i < bs.length) (hc : (bs.getD i 0).toNat = 46) (hl : l ≠ []) : run St.zero (bs.take (i + 1)) = some (st0 (n ++ [l]) []) := by
  rw [take_more bs i 1 n l h, drop_at bs i hi]
  show run (st0 n l) [bs.getD i 0] = _
  rw [run_one, stp_dot n l _ hc]
  unfold endL st0; rw [if_neg hl]
theorem no_dot {bs : List UInt8} {i : Nat} {n : List (List UInt8)} (h : run St.zero (bs.take i) = some (st0 n [])) (hi : i < bs.length) (hc : (bs.getD i 0).toNat = 46) : run St.zero (bs.take (i + 1)) = none := by
  rw [take_more bs i 1 n [] h, drop_at bs i hi]
  show run (st0 n []) [bs.getD i 0] = _
  rw [run_one, stp_dot n [] _ hc]
  unfold endL st0; rw [if_pos rfl]
theorem go_plain {bs : List UInt8} {i : Nat} {n : List (List UInt8)} {l : List UInt8} (h : run St.zero (bs.take i) = some (st0 n l)) (hi : i < bs.length) (h1 : (bs.getD i 0).toNat ≠ 46) (h2 : (bs.getD i 0).toNat ≠ 92) : run St.zero (bs.take (i + 1)) = some (st0 n (l ++ [bs.getD i 0])) := by
  rw [take_more bs i 1 n l h, drop_at bs i hi]
  show run (st0 n l) [bs.getD i 0] = _
  rw [run_one, stp_plain n l _ h1 h2]
theorem no_end {bs : List UInt8} (hb : bs ≠ [46]) {i : Nat} {n : List (List UInt8)} {l : List UInt8} (h : run St.zero (bs.take i) = some (st0 n l)) (hi : i + 1 = bs.length) (hc : (bs.getD i 0).toNat = 92) : rd bs = none := by
  refine rd_open hb fun st hst => ?_
  have h1 := take_more bs i 1 n l h
  rw [List.take_of_length_le (by omega), hst, drop_at bs i (by omega)] at h1
  have h2 : run (st0 n l) ((bs.getD i 0 :: bs.drop (i + 1)).take 1) = run (st0 n l) [bs.getD i 0] := rfl
  rw [h2, run_one, stp_back n l _ hc] at h1
  cases h1; rfl
theorem go_esc {bs : List UInt8} {i : Nat} {n : List (List UInt8)} {l : List UInt8} (h : run St.zero (bs.take i) = some (st0 n l)) (hi : i + 1 < bs.length) (hc : (bs.getD i 0).toNat = 92) (hd : dig (bs.getD (i + 1) 0).toNat = false) : run St.zero (bs.take (i + 2)) = some (st0 n (l ++ [bs.getD (i + 1) 0])) := by
  rw [take_more bs i 2 n l h, drop2 bs i hi]
  show run (st0 n l) [bs.getD i 0, bs.getD (i + 1) 0] = _
  rw [run_cons, stp_back n l _ hc]
  show run _ [bs.getD (i + 1) 0] = _
  rw [run_one, stp_esc n l _ hd]
/- a number that is cut off, or isn't one -/
theorem no_num {bs : List UInt8} (hb : bs ≠ [46]) {i : Nat} {n : List (List UInt8)} {l : List UInt8} (h : run St.zero (bs.take i) = some (st0 n l)) (hi : i + 1 < bs.length) (hc : (bs.getD i 0).toNat = 92) (hd : dig (bs.getD (i + 1) 0).toNat = true) (hs : bs.length ≤ i + 3) : rd bs = none := by
  refine rd_open hb fun st hst => ?_
  have h1 := take_more bs i (bs.length - i) n l h
  rw [show i + (bs.length - i) = bs.length by omega, List.take_length, hst, List.take_of_length_le (by rw [List.length_drop]; exact Nat.le_refl _), drop2 bs i hi, run_cons, stp_back n l _ hc] at h1
  have h2 : run ⟨n, l, true, 0, 0⟩ (bs.getD (i + 1) 0 :: bs.drop (i + 2)) = some st := h1.symm
  rw [run_cons, stp_dig n l _ 0 0 (by omega) hd] at h2
  have h3 : run ⟨n, l, true, 0 + 1, 0 * 10 + ((bs.getD (i + 1) 0).toNat - 48)⟩ (bs.drop (i + 2)) = some st := h2
  rcases Nat.lt_or_ge (i + 2) bs.length with h4 | h4
  · rw [drop_at bs (i + 2) h4, List.drop_eq_nil_of_le (by omega : bs.length ≤ i + 2 + 1), run_one] at h3
    cases hd2 : dig (bs.getD (i + 2) 0).toNat with
    | false => rw [stp_nodig n l _ _ _ (by omega) hd2] at h3; cases h3
    | true => rw [stp_dig n l _ _ _ (by omega) hd2] at h3; cases h3; rfl
  · rw [List.drop_eq_nil_of_le h4] at h3
    cases h3; rfl
theorem num_is {bs : List UInt8} {i : Nat} {n : List (List UInt8)} {l : List UInt8} (h : run St.zero (bs.take i) = some (st0 n l)) (hi : i + 3 < bs.length) (hc : (bs.getD i 0).toNat = 92) (hd : dig (bs.getD (i + 1) 0).toNat = true) :
    run St.zero (bs.take (i + 4)) = if dig (bs.getD (i + 2) 0).toNat = true ∧ dig (bs.getD (i + 3) 0).toNat = true then (if 255 < 100 * ((bs.getD (i + 1) 0).toNat - 48) + 10 * ((bs.getD (i + 2) 0).toNat - 48) + ((bs.getD (i + 3) 0).toNat - 48) then none else some (st0 n (l ++ [UInt8.ofNat (100 * ((bs.getD (i + 1) 0).toNat - 48) + 10 * ((bs.getD (i + 2) 0).toNat - 48) + ((bs.getD (i + 3) 0).toNat - 48))]))) else none := by
  rw [take_more bs i 4 n l h, drop4 bs i hi]
  show run (st0 n l) [bs.getD i 0, bs.getD (i + 1) 0, bs.getD (i + 2) 0, bs.getD (i + 3) 0] = _
  rw [run_cons, stp_back n l _ hc]
  show run _ [bs.getD (i + 1) 0, bs.getD (i + 2) 0, bs.getD (i + 3) 0] = _
  rw [run_cons, stp_dig n l _ 0 0 (by omega) hd]
  show run _ [bs.getD (i + 2) 0, bs.getD (i + 3) 0] = _
  cases hd2 : dig (bs.getD (i + 2) 0).toNat with
  | false => rw [run_cons, stp_nodig n l _ _ _ (by omega) hd2, if_neg (by simp)]; rfl
  | true =>
    rw [run_cons, stp_dig n l _ _ _ (by omega) hd2]
    show run _ [bs.getD (i + 3) 0] = _
    rw [run_one]
    cases hd3 : dig (bs.getD (i + 3) 0).toNat with
    | false => rw [stp_nodig n l _ _ _ (by omega) hd3, if_neg (by simp)]
    | true =>
      rw [stp_last n l _ _ hd3]
      have e : ((0 * 10 + ((bs.getD (i + 1) 0).toNat - 48)) * 10 + ((bs.getD (i + 2) 0).toNat - 48)) * 10 + ((bs.getD (i + 3) 0).toNat - 48) = 100 * ((bs.getD (i + 1) 0).toNat - 48) + 10 * ((bs.getD (i + 2) 0).toNat - 48) + ((bs.getD (i + 3) 0).toNat - 48) := by omega
      rw [e, if_pos (⟨rfl, rfl⟩ : true = true ∧ true = true)]
theorem fin_more (n : List (List UInt8)) (l : List UInt8) (h : l ≠ []) : fin (st0 n l) = some (n ++ [l]) := by
  unfold fin st0
  rw [if_neg (by simp), if_pos (Or.inl h)]
  unfold endL; rw [if_neg h]; rfl
theorem fin_same (n : List (List UInt8)) (h : n ≠ []) : fin (st0 n []) = some n := by
  unfold fin st0
  rw [if_neg (by simp), if_neg (by simp [h])]
end N
end Go.Proofs.YtecikfdnnjinpabDoor
