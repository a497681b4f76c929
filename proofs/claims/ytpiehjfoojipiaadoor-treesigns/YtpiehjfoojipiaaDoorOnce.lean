/- One-time keys, plain: secrets, locks, what a public key is the sum of, signatures, what they open to; what was signed opens to its public key. -/
import Derived.Test.YtpiehjfoojipiaaDoorShort
namespace Go.Proofs.YtpiehjfoojipiaaDoor
namespace O
def lst (f : Nat → BitVec 8) : List (BitVec 8) := (List.range 8).map f
def sec (f : Nat → BitVec 8) (leaf i v : Nat) : Nat → BitVec 8 := sumF (1 :: ptext [lst f, Sha.len4 leaf, [BitVec.ofNat 8 i], [BitVec.ofNat 8 v]])
def lock (p : List (BitVec 8)) : Nat → BitVec 8 := sumF (2 :: ptext [p])
def lockOf (f : Nat → BitVec 8) (leaf i v : Nat) : Nat → BitVec 8 := lock (lst (sec f leaf i v))
def pair (f : Nat → BitVec 8) (leaf i : Nat) : List (BitVec 8) := lst (lockOf f leaf i 0) ++ lst (lockOf f leaf i 1)
def pubL (f : Nat → BitVec 8) (leaf n : Nat) : List (BitVec 8) := (List.range n).flatMap (pair f leaf)
def pub (f : Nat → BitVec 8) (leaf : Nat) : Nat → BitVec 8 := sumF (3 :: ptext [pubL f leaf 32])
def dig (m : List (BitVec 8)) : Nat := (Sha.be (sumF m 0) (sumF m 1) (sumF m 2) (sumF m 3)).toNat
def bit (d i : Nat) : Nat := d / 2 ^ (31 - i) % 2
def sgn (f : Nat → BitVec 8) (leaf d i : Nat) : List (BitVec 8) := lst (sec f leaf i (bit d i)) ++ lst (lockOf f leaf i (1 - bit d i))
def sigL (f : Nat → BitVec 8) (leaf d n : Nat) : List (BitVec 8) := (List.range n).flatMap (sgn f leaf d)
def own (s : List (BitVec 8)) (i : Nat) : List (BitVec 8) := (s.drop (16 * i)).take 8
def oth (s : List (BitVec 8)) (i : Nat) : List (BitVec 8) := (s.drop (16 * i + 8)).take 8
def opn (d : Nat) (s : List (BitVec 8)) (i : Nat) : List (BitVec 8) := if bit d i = 0 then lst (lock (own s i)) ++ oth s i else oth s i ++ lst (lock (own s i))
def openL (d : Nat) (s : List (BitVec 8)) (n : Nat) : List (BitVec 8) := (List.range n).flatMap (opn d s)
def opened (d : Nat) (s : List (BitVec 8)) : Nat → BitVec 8 := sumF (3 :: ptext [openL d s 32])
set_option maxRecDepth 5000 in
theorem lst_len (f : Nat → BitVec 8) : (lst f).length = 8 := by simp [lst]
set_option maxRecDepth 5000 in
theorem bit_le (d i : Nat) : bit d i ≤ 1 := by unfold bit; omega
set_option maxRecDepth 5000 in
theorem dig_lt (m : List (BitVec 8)) : dig m < 4294967296 := by unfold dig; exact BitVec.isLt _
set_option maxRecDepth 5000 in
theorem flat_len (g : Nat → List (BitVec 8)) (k : Nat) (h : ∀ i, (g i).length = k) : ∀ n, ((List.range n).flatMap g).length = k * n
  | 0 => by simp
  | n + 1 => by
    have ih := flat_len g k h n
    rw [List.range_succ, List.flatMap_append, List.length_append, ih]
    simp [h, Nat.mul_add]
set_option maxRecDepth 5000 in
theorem flat_drop (g : Nat → List (BitVec 8)) (h : ∀ i, (g i).length = 16) : ∀ (n i : Nat), i < n → ∃ r, ((List.range n).flatMap g).drop (16 * i) = g i ++ r
  | 0, i, hi => by omega
  | n + 1, i, hi => by
    rw [List.range_succ, List.flatMap_append]
    have hl := flat_len g 16 h n
    by_cases e : i < n
    · obtain ⟨r, hr⟩ := flat_drop g h n i e
      refine ⟨r ++ [n].flatMap g, ?_⟩
      rw [List.drop_append_of_le_length (by omega), hr, List.append_assoc]
    · obtain rfl : i = n := by omega
      refine ⟨[], ?_⟩
      rw [List.drop_append, hl, List.drop_of_length_le (by omega)]
      simp
set_option maxRecDepth 5000 in
theorem sgn_len (f : Nat → BitVec 8) (leaf d i : Nat) : (sgn f leaf d i).length = 16 := by simp [sgn, lst]
set_option maxRecDepth 5000 in
theorem pair_len (f : Nat → BitVec 8) (leaf i : Nat) : (pair f leaf i).length = 16 := by simp [pair, lst]
set_option maxRecDepth 5000 in
theorem sigL_len (f : Nat → BitVec 8) (leaf d n : Nat) : (sigL f leaf d n).length = 16 * n := flat_len _ _ (sgn_len f leaf d) n
set_option maxRecDepth 5000 in
theorem pubL_len (f : Nat → BitVec 8) (leaf n : Nat) : (pubL f leaf n).length = 16 * n := flat_len _ _ (pair_len f leaf) n
set_option maxRecDepth 5000 in
theorem own_len (s : List (BitVec 8)) (i : Nat) (h : 16 * i + 16 ≤ s.length) : (own s i).length = 8 := by simp [own]; omega
set_option maxRecDepth 5000 in
theorem oth_len (s : List (BitVec 8)) (i : Nat) (h : 16 * i + 16 ≤ s.length) : (oth s i).length = 8 := by simp [oth]; omega
set_option maxRecDepth 5000 in
theorem opn_len (d : Nat) (s : List (BitVec 8)) (i : Nat) (h : 16 * i + 16 ≤ s.length) : (opn d s i).length = 16 := by
  have h1 := oth_len s i h
  unfold opn
  split <;> simp [lst_len, h1]
set_option maxRecDepth 5000 in
theorem openL_len (d : Nat) (s : List (BitVec 8)) : ∀ n, 16 * n ≤ s.length → (openL d s n).length = 16 * n
  | 0, _ => by simp [openL]
  | n + 1, h => by
    have ih := openL_len d s n (by omega)
    have h1 := opn_len d s n (by omega)
    unfold openL at *
    rw [List.range_succ, List.flatMap_append, List.length_append, ih]
    simp [h1]; omega
set_option maxRecDepth 5000 in
theorem pubL_succ (f : Nat → BitVec 8) (leaf n : Nat) : pubL f leaf (n + 1) = pubL f leaf n ++ pair f leaf n := by simp [pubL, List.range_succ]
set_option maxRecDepth 5000 in
theorem sigL_succ (f : Nat → BitVec 8) (leaf d n : Nat) : sigL f leaf d (n + 1) = sigL f leaf d n ++ sgn f leaf d n := by simp [sigL, List.range_succ]
set_option maxRecDepth 5000 in
theorem openL_succ (d : Nat) (s : List (BitVec 8)) (n : Nat) : openL d s (n + 1) = openL d s n ++ opn d s n := by simp [openL, List.range_succ]
set_option maxRecDepth 5000 in
theorem opn_sig (f : Nat → BitVec 8) (leaf d i : Nat) (h : i < 32) : opn d (sigL f leaf d 32) i = pair f leaf i := by
  obtain ⟨r, hr⟩ := flat_drop (sgn f leaf d) (sgn_len f leaf d) 32 i h
  have h1 : own (sigL f leaf d 32) i = lst (sec f leaf i (bit d i)) := by
    unfold own sigL
    rw [hr]; unfold sgn
    rw [List.append_assoc, List.take_append_of_le_length (by simp [lst]), List.take_of_length_le (by simp [lst])]
  have h2 : oth (sigL f leaf d 32) i = lst (lockOf f leaf i (1 - bit d i)) := by
    unfold oth sigL
    rw [← List.drop_drop, hr]; unfold sgn
    rw [List.append_assoc, List.drop_append, List.drop_of_length_le (by simp [lst]), lst_len]
    simp [lst]
  unfold opn
  rw [h1, h2]
  have hb := bit_le d i
  rcases (show bit d i = 0 ∨ bit d i = 1 by omega) with e | e
  · rw [if_pos e, e]; rfl
  · rw [if_neg (by omega), e]; rfl
set_option maxRecDepth 5000 in
theorem open_sig (f : Nat → BitVec 8) (leaf d : Nat) : ∀ n, n ≤ 32 → openL d (sigL f leaf d 32) n = pubL f leaf n
  | 0, _ => rfl
  | n + 1, h => by rw [openL_succ, pubL_succ, open_sig f leaf d n (by omega), opn_sig f leaf d n (by omega)]
set_option maxRecDepth 5000 in
theorem opened_sig (f : Nat → BitVec 8) (leaf d : Nat) : opened d (sigL f leaf d 32) = pub f leaf := by
  unfold opened pub; rw [open_sig f leaf d 32 (by omega)]
end O
end Go.Proofs.YtpiehjfoojipiaaDoor
