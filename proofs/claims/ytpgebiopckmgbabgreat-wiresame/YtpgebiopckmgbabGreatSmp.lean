/- A name that was written, written again, plain. -/
import Derived.Test.YtpgebiopckmgbabGreatBya
import Derived.Test.YtpgebiopckmgbabGreatKnw
namespace Go.Proofs.YtpgebiopckmgbabGreat
open Go.RowKit
namespace M
set_option maxRecDepth 5000 in
theorem wire_cons_len (l : List UInt8) (r : List (List UInt8)) : (N.wire (l :: r)).length = l.length + 1 + (N.wire r).length := by
  rw [N.wire_cons]; simp; omega
set_option maxRecDepth 5000 in
theorem wname_keep : ∀ (r : List (List UInt8)) (mp : List UInt8 → Option Nat) (out k : List UInt8), (N.wire r).length < k.length → (wname r mp out).1 k = mp k
  | [], mp, out, k, _ => rfl
  | l :: r, mp, out, k, h => by
    unfold wname
    split
    · rfl
    · rw [wname_keep r _ _ k (by rw [wire_cons_len] at h; omega)]
      split
      · unfold wput
        rw [if_neg (fun e => by rw [e] at h; omega)]
      · rfl
set_option maxRecDepth 5000 in
theorem wname_new : ∀ (n : List (List UInt8)) (mp : List UInt8 → Option Nat) (out : List UInt8), (∀ k, k.length ≤ (N.wire n).length → mp k = none) → (wname n mp out).2 = out ++ N.wire n
  | [], mp, out, _ => rfl
  | l :: r, mp, out, h => by
    unfold wname
    rw [h _ (Nat.le_refl _)]
    show (wname r (if out.length < 16384 then wput mp (N.wire (l :: r)) out.length else mp) (out ++ UInt8.ofNat l.length :: l)).2 = _
    rw [wname_new r _ _ (fun k hk => by
      have hl := wire_cons_len l r
      split
      · unfold wput
        rw [if_neg (fun e => by rw [e] at hk; omega)]
        exact h k (by omega)
      · exact h k (by omega)), N.wire_cons]
    simp
set_option maxRecDepth 5000 in
theorem wname_first (n : List (List UInt8)) (out : List UInt8) (hn : n ≠ []) (ho : out.length = 12) : (wname n (fun _ => none) out).1 (N.wire n) = some 12 := by
  cases n with
  | nil => exact absurd rfl hn
  | cons l r =>
    show (wname r (if out.length < 16384 then wput (fun _ => none) (N.wire (l :: r)) out.length else fun _ => none) (out ++ UInt8.ofNat l.length :: l)).1 (N.wire (l :: r)) = _
    rw [wname_keep r _ _ _ (by rw [wire_cons_len]; omega), if_pos (by omega), ho]
    simp [wput]
set_option maxRecDepth 5000 in
theorem wname_again (n : List (List UInt8)) (mp : List UInt8 → Option Nat) (out : List UInt8) (hn : n ≠ []) (h : mp (N.wire n) = some 12) : wname n mp out = (mp, out ++ [192, 12]) := by
  cases n with
  | nil => exact absurd rfl hn
  | cons l r => unfold wname; rw [h]; rfl
def again (n : List (List UInt8)) (j : UInt8) : R := ⟨n, 99, 1, 0, [j]⟩
set_option maxRecDepth 5000 in
theorem same_rs (n : List (List UInt8)) (mp : List UInt8 → Option Nat) (hn : n ≠ []) (h : mp (N.wire n) = some 12) : ∀ (js : List UInt8) (out : List UInt8), out.length + 13 * js.length ≤ 65535 →
    (wrs 65535 (js.map (again n)) mp out).2.1 = out ++ js.flatMap (fun j => [192, 12, 0, 99, 0, 1, 0, 0, 0, 0, 0, 1, j])
  | [], out, _ => by simp [wrs]
  | j :: js, out, hl => by
    have e : wrec (again n j) mp out = (mp, out ++ [192, 12, 0, 99, 0, 1, 0, 0, 0, 0, 0, 1, j]) := by
      unfold wrec
      rw [show (again n j).name = n from rfl, wname_again n mp out hn h]
      simp [again, D.p16]
    have h13 : (out ++ [192, 12, 0, 99, 0, 1, 0, 0, 0, 0, 0, 1, j]).length = out.length + 13 := by simp
    rw [List.length_cons] at hl
    simp only [List.map_cons, wrs, e]
    rw [if_neg (by rw [h13]; omega)]
    show (wrs 65535 (js.map (again n)) mp (out ++ [192, 12, 0, 99, 0, 1, 0, 0, 0, 0, 0, 1, j])).2.1 = _
    rw [same_rs n mp hn h js _ (by rw [h13]; omega)]
    simp
/- the bytes of the questions, and of as many records behind them -/
def ones (k : Nat) : List UInt8 := (List.range k).map UInt8.ofNat
def pre (n : List (List UInt8)) (k : Nat) : List UInt8 := _root_.Go.Proofs.YtpgebiopckmgbabGreat.hdr 0 0 1 k 0 0 ++ N.wire n ++ [0, 1, 0, 1]
set_option maxRecDepth 5000 in
theorem pre_wqs (n : List (List UInt8)) (k : Nat) : wqs [⟨n, 1, 1⟩] (fun _ => none) (_root_.Go.Proofs.YtpgebiopckmgbabGreat.hdr 0 0 1 k 0 0) = ((wname n (fun _ => none) (_root_.Go.Proofs.YtpgebiopckmgbabGreat.hdr 0 0 1 k 0 0)).1, pre n k) := by
  simp only [wqs, pre]
  rw [wname_new n _ _ (fun _ _ => rfl)]
  simp [D.p16]
set_option maxRecDepth 5000 in
theorem pre_len (n : List (List UInt8)) (k : Nat) : (pre n k).length = 16 + (N.wire n).length := by
  simp [pre, _root_.Go.Proofs.YtpgebiopckmgbabGreat.hdr, p16_len]; omega
set_option maxRecDepth 5000 in
theorem pre_rs (n : List (List UInt8)) (k : Nat) (hn : n ≠ []) (hl : (N.wire n).length ≤ 255) (hk : k ≤ 5) : (wrs 65535 ((ones k).map (again n)) (wname n (fun _ => none) (_root_.Go.Proofs.YtpgebiopckmgbabGreat.hdr 0 0 1 k 0 0)).1 (pre n k)).2.1 = pre n k ++ (ones k).flatMap (fun j => [192, 12, 0, 99, 0, 1, 0, 0, 0, 0, 0, 1, j]) :=
  same_rs n _ hn (wname_first n _ hn (by simp [_root_.Go.Proofs.YtpgebiopckmgbabGreat.hdr, p16_len])) _ _ (by rw [pre_len]; simp [ones]; omega)
set_option maxRecDepth 5000 in
theorem flat_len (js : List UInt8) : (js.flatMap (fun j => [192, 12, 0, 99, 0, 1, 0, 0, 0, 0, 0, 1, j])).length = 13 * js.length := by
  induction js with
  | nil => rfl
  | cons j js ih => simp only [List.flatMap_cons, List.length_append, ih, List.length_cons, List.length_nil]; omega
set_option maxRecDepth 5000 in
theorem flat_get (js : List UInt8) : ∀ i, i < js.length → (js.flatMap (fun j => ([192, 12, 0, 99, 0, 1, 0, 0, 0, 0, 0, 1, j] : List UInt8))).getD (13 * i) 0 = 192 ∧ (js.flatMap (fun j => ([192, 12, 0, 99, 0, 1, 0, 0, 0, 0, 0, 1, j] : List UInt8))).getD (13 * i + 1) 0 = 12 := by
  induction js with
  | nil => intro i h; simp at h
  | cons j js ih =>
    intro i h
    cases i with
    | zero => exact ⟨rfl, rfl⟩
    | succ i =>
      obtain ⟨h1, h2⟩ := ih i (by simpa using h)
      simp only [List.getD_eq_getElem?_getD, List.flatMap_cons] at h1 h2 ⊢
      refine ⟨?_, ?_⟩
      · rw [List.getElem?_append_right (by simp; omega)]
        rw [show 13 * (i + 1) - ([192, 12, 0, 99, 0, 1, 0, 0, 0, 0, 0, 1, j] : List UInt8).length = 13 * i by simp; omega]; exact h1
      · rw [List.getElem?_append_right (by simp; omega)]
        rw [show 13 * (i + 1) + 1 - ([192, 12, 0, 99, 0, 1, 0, 0, 0, 0, 0, 1, j] : List UInt8).length = 13 * i + 1 by simp; omega]; exact h2
end M
end Go.Proofs.YtpgebiopckmgbabGreat
