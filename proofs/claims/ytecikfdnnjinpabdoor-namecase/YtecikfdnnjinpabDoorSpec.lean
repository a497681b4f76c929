/- Names, as the document has them: labels of bytes; small letters, order, lengths, bytes, texts. Plain: of no program. -/
import Derived.Test.YtecikfdnnjinpabDoorChecked
namespace Go.Proofs.YtecikfdnnjinpabDoor
namespace N
/- small letters -/
def low (c : UInt8) : UInt8 := if 65 ≤ c.toNat ∧ c.toNat ≤ 90 then c + 32 else c
theorem low_cap {c : UInt8} (h1 : 65 ≤ c.toNat) (h2 : c.toNat ≤ 90) : (low c).toNat = c.toNat + 32 := by
  unfold low; rw [if_pos ⟨h1, h2⟩, UInt8.toNat_add]
  have : (32 : UInt8).toNat = 32 := rfl
  rw [this]; omega
theorem low_other {c : UInt8} (h : c.toNat < 65 ∨ 90 < c.toNat) : low c = c := by
  unfold low; rw [if_neg (by omega)]
theorem low_low (c : UInt8) : low (low c) = low c := by
  by_cases h : 65 ≤ c.toNat ∧ c.toNat ≤ 90
  · exact low_other (Or.inr (by rw [low_cap h.1 h.2]; omega))
  · have : low c = c := low_other (by omega)
    rw [this, this]
def lowL (l : List UInt8) : List UInt8 := l.map low
theorem lowL_len (l : List UInt8) : (lowL l).length = l.length := by simp [lowL]
theorem lowL_low (l : List UInt8) : lowL (lowL l) = lowL l := by
  simp only [lowL, List.map_map]; exact List.map_congr_left fun x _ => low_low x
def lowN (n : List (List UInt8)) : List (List UInt8) := n.map lowL
/- the order of two bytes, of two numbers -/
def cmpI (a b : Nat) : Int := if a < b then -1 else if b < a then 1 else 0
theorem cmpI_self (a : Nat) : cmpI a a = 0 := by simp [cmpI]
theorem cmpI_zero {a b : Nat} : cmpI a b = 0 ↔ a = b := by unfold cmpI; split <;> (try split) <;> omega
theorem cmpI_neg (a b : Nat) : cmpI b a = - cmpI a b := by unfold cmpI; split <;> split <;> (try split) <;> omega
theorem cmpI_bounds (a b : Nat) : -1 ≤ cmpI a b ∧ cmpI a b ≤ 1 := by unfold cmpI; split <;> (try split) <;> omega
theorem cmpI_le {a b : Nat} : cmpI a b ≤ 0 ↔ a ≤ b := by unfold cmpI; split <;> (try split) <;> omega
/- the order of two labels of bytes, as they stand -/
def cmpB : List UInt8 → List UInt8 → Int
  | [], [] => 0
  | [], _ :: _ => -1
  | _ :: _, [] => 1
  | a :: x, b :: y => if cmpI a.toNat b.toNat = 0 then cmpB x y else cmpI a.toNat b.toNat
theorem cmpB_bounds : ∀ a b, -1 ≤ cmpB a b ∧ cmpB a b ≤ 1
  | [], [] => by simp [cmpB]
  | [], _ :: _ => by simp [cmpB]
  | _ :: _, [] => by simp [cmpB]
  | a :: x, b :: y => by
    unfold cmpB; split
    · exact cmpB_bounds x y
    · exact cmpI_bounds _ _
theorem cmpB_zero : ∀ {a b}, cmpB a b = 0 ↔ a = b
  | [], [] => by simp [cmpB]
  | [], _ :: _ => by simp [cmpB]
  | _ :: _, [] => by simp [cmpB]
  | a :: x, b :: y => by
    unfold cmpB
    by_cases h : cmpI a.toNat b.toNat = 0
    · rw [if_pos h, cmpB_zero, List.cons.injEq]
      have h1 : a = b := UInt8.toNat_inj.1 (cmpI_zero.1 h)
      exact ⟨fun e => ⟨h1, e⟩, fun e => e.2⟩
    · rw [if_neg h]
      refine ⟨fun e => absurd e h, fun e => ?_⟩
      obtain ⟨rfl, _⟩ := List.cons.inj e
      exact cmpI_self _
theorem cmpB_neg : ∀ a b, cmpB b a = - cmpB a b
  | [], [] => by simp [cmpB]
  | [], _ :: _ => by simp [cmpB]
  | _ :: _, [] => by simp [cmpB]
  | a :: x, b :: y => by
    unfold cmpB
    have h := cmpI_neg a.toNat b.toNat
    by_cases h0 : cmpI a.toNat b.toNat = 0
    · rw [if_pos h0, if_pos (by omega), cmpB_neg]
    · rw [if_neg h0, if_neg (by omega), h]
theorem cmpB_trans : ∀ {a b c}, cmpB a b ≤ 0 → cmpB b c ≤ 0 → cmpB a c ≤ 0
  | [], _, [] => fun _ _ => by simp [cmpB]
  | [], _, _ :: _ => fun _ _ => by simp [cmpB]
  | _ :: _, [], _ => fun h _ => by simp [cmpB] at h
  | _ :: _, _ :: _, [] => fun _ h => by simp [cmpB] at h
  | a :: x, b :: y, c :: z => fun h1 h2 => by
    unfold cmpB at h1 h2 ⊢
    have hab := @cmpI_le a.toNat b.toNat
    have hbc := @cmpI_le b.toNat c.toNat
    have hac := @cmpI_le a.toNat c.toNat
    have zab := @cmpI_zero a.toNat b.toNat
    have zbc := @cmpI_zero b.toNat c.toNat
    have zac := @cmpI_zero a.toNat c.toNat
    by_cases e1 : cmpI a.toNat b.toNat = 0
    · rw [if_pos e1] at h1
      by_cases e2 : cmpI b.toNat c.toNat = 0
      · rw [if_pos e2] at h2
        rw [if_pos (by omega)]
        exact cmpB_trans h1 h2
      · rw [if_neg e2] at h2
        rw [if_neg (by omega)]; omega
    · rw [if_neg e1] at h1
      by_cases e2 : cmpI b.toNat c.toNat = 0
      · rw [if_neg (by omega)]; omega
      · rw [if_neg e2] at h2
        rw [if_neg (by omega)]; omega
/- the order of two labels -/
def cmpL (a b : List UInt8) : Int := cmpB (lowL a) (lowL b)
/- the order of two lists of labels, the greatest label first -/
def cmpR : List (List UInt8) → List (List UInt8) → Int
  | [], [] => 0
  | [], _ :: _ => -1
  | _ :: _, [] => 1
  | a :: x, b :: y => if cmpL a b = 0 then cmpR x y else cmpL a b
def cmpN (a b : List (List UInt8)) : Int := cmpR a.reverse b.reverse
theorem cmpL_bounds (a b : List UInt8) : -1 ≤ cmpL a b ∧ cmpL a b ≤ 1 := cmpB_bounds _ _
theorem cmpL_zero {a b : List UInt8} : cmpL a b = 0 ↔ lowL a = lowL b := cmpB_zero
theorem cmpL_neg (a b : List UInt8) : cmpL b a = - cmpL a b := cmpB_neg _ _
theorem cmpL_low (a b : List UInt8) : cmpL (lowL a) b = cmpL a b := by unfold cmpL; rw [lowL_low]
theorem cmpR_bounds : ∀ a b, -1 ≤ cmpR a b ∧ cmpR a b ≤ 1
  | [], [] => by simp [cmpR]
  | [], _ :: _ => by simp [cmpR]
  | _ :: _, [] => by simp [cmpR]
  | a :: x, b :: y => by
    unfold cmpR; split
    · exact cmpR_bounds x y
    · exact cmpL_bounds _ _
theorem cmpR_zero : ∀ {a b}, cmpR a b = 0 ↔ lowN a = lowN b
  | [], [] => by simp [cmpR, lowN]
  | [], _ :: _ => by simp [cmpR, lowN]
  | _ :: _, [] => by simp [cmpR, lowN]
  | a :: x, b :: y => by
    unfold cmpR
    have hl : lowN (a :: x) = lowN (b :: y) ↔ lowL a = lowL b ∧ lowN x = lowN y := by simp [lowN]
    by_cases h : cmpL a b = 0
    · rw [if_pos h, cmpR_zero, hl]
      exact ⟨fun e => ⟨cmpL_zero.1 h, e⟩, fun e => e.2⟩
    · rw [if_neg h, hl]
      exact ⟨fun e => absurd e h, fun e => absurd (cmpL_zero.2 e.1) h⟩
theorem cmpR_neg : ∀ a b, cmpR b a = - cmpR a b
  | [], [] => by simp [cmpR]
  | [], _ :: _ => by simp [cmpR]
  | _ :: _, [] => by simp [cmpR]
  | a :: x, b :: y => by
    unfold cmpR
    have h := cmpL_neg a b
    by_cases h0 : cmpL a b = 0
    · rw [if_pos h0, if_pos (by omega), cmpR_neg]
    · rw [if_neg h0, if_neg (by omega), h]
theorem cmpR_trans : ∀ {a b c}, cmpR a b ≤ 0 → cmpR b c ≤ 0 → cmpR a c ≤ 0
  | [], _, [] => fun _ _ => by simp [cmpR]
  | [], _, _ :: _ => fun _ _ => by simp [cmpR]
  | _ :: _, [], _ => fun h _ => by simp [cmpR] at h
  | _ :: _, _ :: _, [] => fun _ h => by simp [cmpR] at h
  | a :: x, b :: y, c :: z => fun h1 h2 => by
    unfold cmpR at h1 h2 ⊢
    have zab := @cmpL_zero a b
    have zbc := @cmpL_zero b c
    have zac := @cmpL_zero a c
    by_cases e1 : cmpL a b = 0
    · rw [if_pos e1] at h1
      have hl := zab.1 e1
      have hac : cmpL a c = cmpL b c := by unfold cmpL; rw [hl]
      rw [hac]
      by_cases e2 : cmpL b c = 0
      · rw [if_pos e2] at h2 ⊢
        exact cmpR_trans h1 h2
      · rw [if_neg e2] at h2 ⊢; exact h2
    · rw [if_neg e1] at h1
      by_cases e2 : cmpL b c = 0
      · have hac : cmpL a c = cmpL a b := by unfold cmpL; rw [zbc.1 e2]
        rw [hac, if_neg e1]; exact h1
      · rw [if_neg e2] at h2
        have h3 : cmpL a c ≤ 0 := cmpB_trans h1 h2
        by_cases e3 : cmpL a c = 0
        · exfalso
          have hl := zac.1 e3
          have h4 : cmpL b c = cmpL b a := by unfold cmpL; rw [hl]
          have h5 := cmpL_neg a b
          omega
        · rw [if_neg e3]; exact h3
theorem cmpR_lowN : ∀ a b, cmpR (lowN a) b = cmpR a b
  | [], [] => rfl
  | [], _ :: _ => rfl
  | _ :: _, [] => rfl
  | a :: x, b :: y => by
    show (if cmpL (lowL a) b = 0 then cmpR (lowN x) y else cmpL (lowL a) b) = _
    rw [cmpL_low, cmpR_lowN]; rfl
theorem lowN_rev (a : List (List UInt8)) : lowN a.reverse = (lowN a).reverse := by simp [lowN]
theorem lowN_len (a : List (List UInt8)) : (lowN a).length = a.length := by simp [lowN]
theorem cmpN_bounds (a b : List (List UInt8)) : -1 ≤ cmpN a b ∧ cmpN a b ≤ 1 := cmpR_bounds _ _
theorem cmpN_zero {a b : List (List UInt8)} : cmpN a b = 0 ↔ lowN a = lowN b := by
  unfold cmpN; rw [cmpR_zero, lowN_rev, lowN_rev, List.reverse_inj]
theorem cmpN_neg (a b : List (List UInt8)) : cmpN b a = - cmpN a b := cmpR_neg _ _
theorem cmpN_trans {a b c : List (List UInt8)} : cmpN a b ≤ 0 → cmpN b c ≤ 0 → cmpN a c ≤ 0 := cmpR_trans
theorem cmpN_low (a b : List (List UInt8)) : cmpN (lowN a) b = cmpN a b := by
  unfold cmpN; rw [← lowN_rev, cmpR_lowN]
def same (a b : List (List UInt8)) : Bool := decide (lowN a = lowN b)
/- apex's labels are n's last ones -/
def within (n apex : List (List UInt8)) : Bool := decide (apex.length ≤ n.length) && same (n.drop (n.length - apex.length)) apex
/- below a name -/
theorem cmpR_app (a x b : List (List UInt8)) (h : cmpR a b ≠ 0) (hp : ¬ (lowN a <+: lowN b)) : cmpR (a ++ x) b = cmpR a b := by
  induction a generalizing b with
  | nil => exact absurd (by simp [lowN]) hp
  | cons u a ih =>
    cases b with
    | nil => rfl
    | cons v b =>
      show (if cmpL u v = 0 then cmpR (a ++ x) b else cmpL u v) = (if cmpL u v = 0 then cmpR a b else cmpL u v)
      by_cases h0 : cmpL u v = 0
      · rw [if_pos h0, if_pos h0]
        refine ih b ?_ ?_
        · intro e
          refine h ?_
          show (if cmpL u v = 0 then cmpR a b else cmpL u v) = 0
          rw [if_pos h0]; exact e
        · intro e
          refine hp ?_
          show (lowL u :: lowN a) <+: (lowL v :: lowN b)
          rw [cmpL_zero.1 h0]
          exact (List.prefix_cons_inj _).2 e
      · rw [if_neg h0, if_neg h0]
theorem cmpR_below (a x : List (List UInt8)) (h : x ≠ []) : cmpR a (a ++ x) = -1 := by
  induction a with
  | nil => cases x with
    | nil => exact absurd rfl h
    | cons _ _ => rfl
  | cons u a ih =>
    show (if cmpL u u = 0 then cmpR a (a ++ x) else cmpL u u) = -1
    rw [if_pos (cmpL_zero.2 rfl)]; exact ih
theorem within_iff (n apex : List (List UInt8)) : within n apex = true ↔ lowN apex.reverse <+: lowN n.reverse := by
  unfold within same
  rw [lowN_rev, lowN_rev, List.reverse_prefix]
  simp only [Bool.and_eq_true, decide_eq_true_eq]
  constructor
  · rintro ⟨h1, h2⟩
    rw [← h2]
    have h3 : lowN (n.drop (n.length - apex.length)) = (lowN n).drop (n.length - apex.length) := by simp [lowN, List.map_drop]
    rw [h3]; exact List.drop_suffix _ _
  · intro h
    have h1 := h.length_le
    rw [lowN_len, lowN_len] at h1
    refine ⟨h1, ?_⟩
    have h3 : lowN (n.drop (n.length - apex.length)) = (lowN n).drop (n.length - apex.length) := by simp [lowN, List.map_drop]
    rw [h3]
    obtain ⟨t, ht⟩ := h
    have h4 : t.length = n.length - apex.length := by
      have := congrArg List.length ht
      rw [List.length_append, lowN_len, lowN_len] at this; omega
    rw [← ht, ← h4, List.drop_left]
theorem within_app (l apex : List (List UInt8)) : within (l ++ apex) apex = true := by
  rw [within_iff, List.reverse_append, lowN]
  simp only [lowN, List.map_append]
  exact List.prefix_append _ _
theorem cmpN_below (l apex : List (List UInt8)) (h : l ≠ []) : cmpN apex (l ++ apex) = -1 := by
  unfold cmpN; rw [List.reverse_append]; exact cmpR_below _ _ (by simpa using h)
theorem cmpN_beside (l apex other : List (List UInt8)) (h : within other apex = false) : cmpN (l ++ apex) other = cmpN apex other := by
  have h1 : ¬ (lowN apex.reverse <+: lowN other.reverse) := fun e => by
    rw [(within_iff other apex).2 e] at h; cases h
  unfold cmpN
  rw [List.reverse_append]
  refine cmpR_app _ _ _ ?_ h1
  intro e
  exact h1 (by rw [cmpR_zero.1 e]; exact List.prefix_refl _)
end N
end Go.Proofs.YtecikfdnnjinpabDoor
