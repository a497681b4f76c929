/- Messages, plain: names with pointers, questions. -/
import Derived.Test.YtpgebiopckmgbabGreatNmA
namespace Go.Proofs.YtpgebiopckmgbabGreat
namespace M
def by_ (b : List UInt8) (p : Nat) : Nat := (b.getD p 0).toNat
def lab (b : List UInt8) (p : Nat) : List UInt8 := (b.drop (p + 1)).take (by_ b p)
def plc (b : List UInt8) (p : Nat) : Nat := (by_ b p % 64) * 256 + by_ b (p + 1)
set_option maxRecDepth 5000 in
theorem meas_jump {begin q n p : Nat} (h : q < begin) : Prod.Lex (· < ·) (· < ·) (q, n - q) (begin, n - p) := Prod.Lex.left _ _ h
/- a name from the place p on; begin: where the part begins; acc: the labels ahead of it -/
def wn (b : List UInt8) (begin p : Nat) (acc : List (List UInt8)) : Option (List (List UInt8) × Nat) :=
  if _h1 : b.length ≤ p then none
  else if by_ b p = 0 then some (acc, p + 1)
  else if 192 ≤ by_ b p then
    if b.length < p + 2 then none
    else if _h2 : begin ≤ plc b p then none
    else (wn b (plc b p) (plc b p) acc).map fun r => (r.1, p + 2)
  else if _h3 : 63 < by_ b p ∨ b.length < p + 1 + by_ b p then none
  else if 255 < N.size (acc ++ [lab b p]) then none
  else wn b begin (p + 1 + by_ b p) (acc ++ [lab b p])
termination_by (begin, b.length - p)
decreasing_by
  · exact Prod.Lex.left _ _ (by omega)
  · exact Prod.Lex.right _ (by omega)
/- as the program asks: how long it is, is asked of the bytes that there are -/
def wq (b : List UInt8) (begin p : Nat) (acc : List (List UInt8)) : Option (List (List UInt8) × Nat) :=
  if _h1 : b.length ≤ p then none
  else if by_ b p = 0 then (if 255 < N.size acc then none else some (acc, p + 1))
  else if 192 ≤ by_ b p then
    if b.length < p + 2 then none
    else if _h2 : begin ≤ plc b p then none
    else (wq b (plc b p) (plc b p) acc).map fun r => (r.1, p + 2)
  else if _h3 : 63 < by_ b p ∨ b.length < p + 1 + by_ b p then none
  else if 256 < N.size (acc ++ [lab b p]) then none
  else wq b begin (p + 1 + by_ b p) (acc ++ [lab b p])
termination_by (begin, b.length - p)
decreasing_by
  · exact Prod.Lex.left _ _ (by omega)
  · exact Prod.Lex.right _ (by omega)
set_option maxRecDepth 5000 in
theorem size_more (acc : List (List UInt8)) (l : List UInt8) : N.size (acc ++ [l]) = N.size acc + l.length + 1 := by
  unfold N.size
  simp
  omega
set_option maxRecDepth 5000 in
theorem wq_dead (b : List UInt8) (begin p : Nat) (acc : List (List UInt8)) : 255 < N.size acc → wq b begin p acc = none := by
  induction begin, p, acc using wq.induct b with
  | case1 begin p acc h1 => intro _; rw [wq, dif_pos h1]
  | case2 begin p acc h1 h0 h => intro _; rw [wq, dif_neg h1, if_pos h0, if_pos h]
  | case3 begin p acc h1 h0 h => intro h'; exact absurd h' h
  | case4 begin p acc h1 h0 h2 h3 => intro _; rw [wq, dif_neg h1, if_neg h0, if_pos h2, if_pos h3]
  | case5 begin p acc h1 h0 h2 h3 h4 => intro _; rw [wq, dif_neg h1, if_neg h0, if_pos h2, if_neg h3, dif_pos h4]
  | case6 begin p acc h1 h0 h2 h3 h4 ih => intro h; rw [wq, dif_neg h1, if_neg h0, if_pos h2, if_neg h3, dif_neg h4, ih h]; rfl
  | case7 begin p acc h1 h0 h2 h3 => intro _; rw [wq, dif_neg h1, if_neg h0, if_neg h2, dif_pos h3]
  | case8 begin p acc h1 h0 h2 h3 h4 => intro _; rw [wq, dif_neg h1, if_neg h0, if_neg h2, dif_neg h3, if_pos h4]
  | case9 begin p acc h1 h0 h2 h3 h4 ih => intro h; rw [wq, dif_neg h1, if_neg h0, if_neg h2, dif_neg h3, if_neg h4]; exact ih (by rw [size_more]; omega)
set_option maxRecDepth 5000 in
theorem wq_wn (b : List UInt8) (begin p : Nat) (acc : List (List UInt8)) : N.size acc ≤ 255 → wq b begin p acc = wn b begin p acc := by
  induction begin, p, acc using wn.induct b with
  | case1 begin p acc h1 => intro _; rw [wq, dif_pos h1, wn, dif_pos h1]
  | case2 begin p acc h1 h0 => intro h; rw [wq, dif_neg h1, if_pos h0, if_neg (by omega), wn, dif_neg h1, if_pos h0]
  | case3 begin p acc h1 h0 h2 h3 => intro _; rw [wq, dif_neg h1, if_neg h0, if_pos h2, if_pos h3, wn, dif_neg h1, if_neg h0, if_pos h2, if_pos h3]
  | case4 begin p acc h1 h0 h2 h3 h4 => intro _; rw [wq, dif_neg h1, if_neg h0, if_pos h2, if_neg h3, dif_pos h4, wn, dif_neg h1, if_neg h0, if_pos h2, if_neg h3, dif_pos h4]
  | case5 begin p acc h1 h0 h2 h3 h4 ih => intro h; rw [wq, dif_neg h1, if_neg h0, if_pos h2, if_neg h3, dif_neg h4, wn, dif_neg h1, if_neg h0, if_pos h2, if_neg h3, dif_neg h4, ih h]
  | case6 begin p acc h1 h0 h2 h3 => intro _; rw [wq, dif_neg h1, if_neg h0, if_neg h2, dif_pos h3, wn, dif_neg h1, if_neg h0, if_neg h2, dif_pos h3]
  | case7 begin p acc h1 h0 h2 h3 h4 =>
    intro _
    rw [wq, dif_neg h1, if_neg h0, if_neg h2, dif_neg h3, wn, dif_neg h1, if_neg h0, if_neg h2, dif_neg h3, if_pos h4]
    split
    · rfl
    · exact wq_dead _ _ _ _ h4
  | case8 begin p acc h1 h0 h2 h3 h4 ih => intro _; rw [wq, dif_neg h1, if_neg h0, if_neg h2, dif_neg h3, if_neg (by omega), wn, dif_neg h1, if_neg h0, if_neg h2, dif_neg h3, if_neg h4]; exact ih (by omega)
def Good (n : List (List UInt8)) : Prop := [] ∉ n ∧ (∀ l ∈ n, l.length ≤ 63) ∧ N.size n ≤ 255
set_option maxRecDepth 5000 in
theorem lab_len {b : List UInt8} {p : Nat} (h : p + 1 + by_ b p ≤ b.length) : (lab b p).length = by_ b p := by
  unfold lab
  rw [List.length_take, List.length_drop]
  omega
set_option maxRecDepth 5000 in
theorem wn_good (b : List UInt8) (begin p : Nat) (acc : List (List UInt8)) : Good acc → ∀ n q, wn b begin p acc = some (n, q) → Good n ∧ q ≤ b.length := by
  induction begin, p, acc using wn.induct b with
  | case1 begin p acc h1 => intro _ n q h; rw [wn, dif_pos h1] at h; cases h
  | case2 begin p acc h1 h0 => intro hg n q h; rw [wn, dif_neg h1, if_pos h0] at h; cases h; exact ⟨hg, by omega⟩
  | case3 begin p acc h1 h0 h2 h3 => intro _ n q h; rw [wn, dif_neg h1, if_neg h0, if_pos h2, if_pos h3] at h; cases h
  | case4 begin p acc h1 h0 h2 h3 h4 => intro _ n q h; rw [wn, dif_neg h1, if_neg h0, if_pos h2, if_neg h3, dif_pos h4] at h; cases h
  | case5 begin p acc h1 h0 h2 h3 h4 ih =>
    intro hg n q h
    rw [wn, dif_neg h1, if_neg h0, if_pos h2, if_neg h3, dif_neg h4, Option.map_eq_some_iff] at h
    obtain ⟨⟨n', q'⟩, g1, g2⟩ := h
    cases g2
    exact ⟨(ih hg _ _ g1).1, by omega⟩
  | case6 begin p acc h1 h0 h2 h3 => intro _ n q h; rw [wn, dif_neg h1, if_neg h0, if_neg h2, dif_pos h3] at h; cases h
  | case7 begin p acc h1 h0 h2 h3 h4 => intro _ n q h; rw [wn, dif_neg h1, if_neg h0, if_neg h2, dif_neg h3, if_pos h4] at h; cases h
  | case8 begin p acc h1 h0 h2 h3 h4 ih =>
    intro hg n q h
    rw [wn, dif_neg h1, if_neg h0, if_neg h2, dif_neg h3, if_neg h4] at h
    have hl := lab_len (b := b) (p := p) (by omega)
    refine ih ⟨?_, ?_, by omega⟩ n q h
    · intro hm
      rcases List.mem_append.1 hm with hm | hm
      · exact hg.1 hm
      · simp at hm; rw [hm] at hl; simp at hl; omega
    · intro l hm
      rcases List.mem_append.1 hm with hm | hm
      · exact hg.2.1 l hm
      · simp at hm; rw [hm]; omega
set_option maxRecDepth 5000 in
theorem good_nil : Good [] := ⟨by simp, by simp, by simp [N.size]⟩
structure Q where
  name : List (List UInt8)
  type : Nat
  cls : Nat
def n8 (b : List UInt8) (p : Nat) : Option (Nat × Nat) := if b.length ≤ p then none else some (by_ b p, p + 1)
def n16 (b : List UInt8) (p : Nat) : Option (Nat × Nat) := if b.length < p + 2 then none else some (by_ b p * 256 + by_ b (p + 1), p + 2)
def qn (b : List UInt8) (p : Nat) : Option (Q × Nat) := (wn b p p []).bind fun r => (n16 b r.2).bind fun t => (n16 b t.2).map fun c => (⟨r.1, t.1, c.1⟩, c.2)
def qs (b : List UInt8) : Nat → Nat → Option (List Q × Nat)
  | 0, p => some ([], p)
  | n + 1, p => (qn b p).bind fun r => (qs b n r.2).map fun s => (r.1 :: s.1, s.2)
end M
end Go.Proofs.YtpgebiopckmgbabGreat
