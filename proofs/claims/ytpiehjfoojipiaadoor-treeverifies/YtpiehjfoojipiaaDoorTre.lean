/- Trees of one-time keys, plain: nodes, sisters on the way up, signatures, what verifies; what a leaf signed verifies. -/
import Derived.Test.YtpiehjfoojipiaaDoorOnce
namespace Go.Proofs.YtpiehjfoojipiaaDoor
namespace T
def upl (a b : List (BitVec 8)) : Nat → BitVec 8 := sumF (4 :: ptext [a, b])
def nd (f : Nat → BitVec 8) : Nat → Nat → Nat → BitVec 8
  | 0, i => O.pub f i
  | k + 1, i => upl (O.lst (nd f k (2 * i))) (O.lst (nd f k (2 * i + 1)))
def sib (p : Nat) : Nat := if p % 2 = 0 then p + 1 else p - 1
def sis (f : Nat → BitVec 8) (leaf : Nat) : Nat → Nat → List (BitVec 8)
  | _, 0 => []
  | k, n + 1 => O.lst (nd f k (sib (leaf / 2 ^ k))) ++ sis f leaf (k + 1) n
def clb : Nat → (Nat → BitVec 8) → Nat → List (BitVec 8) → Nat → BitVec 8
  | 0, x, _, _ => x
  | n + 1, x, p, s => clb n (if p % 2 = 0 then upl (O.lst x) (s.take 8) else upl (s.take 8) (O.lst x)) (p / 2) (s.drop 8)
def sig (f : Nat → BitVec 8) (h leaf : Nat) (m : List (BitVec 8)) : List (BitVec 8) := Sha.len4 leaf ++ O.sigL f leaf (O.dig m) 32 ++ sis f leaf 0 h
def num (s : List (BitVec 8)) : Nat := (Sha.be (s.getD 0 0) (s.getD 1 0) (s.getD 2 0) (s.getD 3 0)).toNat
def top (h : Nat) (m s : List (BitVec 8)) : Nat → BitVec 8 := clb h (O.opened (O.dig m) ((s.drop 4).take 512)) (num s) (s.drop 516)
def ver (root : List (BitVec 8)) (h : Int) (m s : List (BitVec 8)) : Bool := decide (root.length = 8 ∧ 0 ≤ h ∧ h ≤ 10 ∧ (s.length : Int) = 516 + 8 * h ∧ num s < 2 ^ h.toNat ∧ O.lst (top h.toNat m s) = root)
set_option maxRecDepth 5000 in
theorem num_lt (s : List (BitVec 8)) : num s < 4294967296 := by unfold num; exact BitVec.isLt _
set_option maxRecDepth 5000 in
theorem sis_len (f : Nat → BitVec 8) (leaf : Nat) : ∀ (n k : Nat), (sis f leaf k n).length = 8 * n
  | 0, _ => rfl
  | n + 1, k => by rw [sis, List.length_append, O.lst_len, sis_len f leaf n (k + 1)]; omega
set_option maxRecDepth 5000 in
theorem sis_succ (f : Nat → BitVec 8) (leaf : Nat) : ∀ (n k : Nat), sis f leaf k (n + 1) = sis f leaf k n ++ O.lst (nd f (k + n) (sib (leaf / 2 ^ (k + n))))
  | 0, k => by simp [sis]
  | n + 1, k => by rw [sis, sis_succ f leaf n (k + 1), sis, List.append_assoc, show k + 1 + n = k + (n + 1) by omega]
set_option maxRecDepth 5000 in
theorem len4_len (n : Nat) : (Sha.len4 n).length = 4 := rfl
set_option maxRecDepth 5000 in
theorem sig_len (f : Nat → BitVec 8) (h leaf : Nat) (m : List (BitVec 8)) : (sig f h leaf m).length = 516 + 8 * h := by
  unfold sig; rw [List.length_append, List.length_append, len4_len, O.sigL_len, sis_len]
set_option maxRecDepth 5000 in
theorem clb_sis (f : Nat → BitVec 8) (leaf : Nat) : ∀ (n k : Nat) (r : List (BitVec 8)), clb n (nd f k (leaf / 2 ^ k)) (leaf / 2 ^ k) (sis f leaf k n ++ r) = nd f (k + n) (leaf / 2 ^ (k + n))
  | 0, _, _ => rfl
  | n + 1, k, r => by
    have hd : leaf / 2 ^ k / 2 = leaf / 2 ^ (k + 1) := by rw [Nat.div_div_eq_div_mul, Nat.pow_succ]
    have h1 : (sis f leaf k (n + 1) ++ r).take 8 = O.lst (nd f k (sib (leaf / 2 ^ k))) := by
      rw [sis, List.append_assoc, List.take_append_of_le_length (by rw [O.lst_len]; omega), List.take_of_length_le (by rw [O.lst_len]; omega)]
    have h2 : (sis f leaf k (n + 1) ++ r).drop 8 = sis f leaf (k + 1) n ++ r := by
      rw [sis, List.append_assoc, List.drop_append, List.drop_of_length_le (by rw [O.lst_len]; omega), O.lst_len]; simp
    have h3 : (if leaf / 2 ^ k % 2 = 0 then upl (O.lst (nd f k (leaf / 2 ^ k))) (O.lst (nd f k (sib (leaf / 2 ^ k)))) else upl (O.lst (nd f k (sib (leaf / 2 ^ k)))) (O.lst (nd f k (leaf / 2 ^ k)))) = nd f (k + 1) (leaf / 2 ^ (k + 1)) := by
      rw [← hd]
      generalize leaf / 2 ^ k = p
      show _ = upl (O.lst (nd f k (2 * (p / 2)))) (O.lst (nd f k (2 * (p / 2) + 1)))
      by_cases e : p % 2 = 0
      · rw [if_pos e]; unfold sib; rw [if_pos e, show 2 * (p / 2) = p by omega]
      · rw [if_neg e]; unfold sib; rw [if_neg e, show 2 * (p / 2) = p - 1 by omega, show p - 1 + 1 = p by omega]
    rw [clb, h1, h2, h3, hd, clb_sis f leaf n (k + 1) r, show k + 1 + n = k + (n + 1) by omega]
set_option maxRecDepth 5000 in
theorem be_len4 (n : Nat) : Sha.be (BitVec.ofNat 8 (n / 16777216)) (BitVec.ofNat 8 (n / 65536)) (BitVec.ofNat 8 (n / 256)) (BitVec.ofNat 8 n) = BitVec.ofNat 32 n := by
  apply BitVec.eq_of_getLsbD_eq
  intro i hi
  have e1 : n / 16777216 = n / 2 ^ 24 := rfl
  have e2 : n / 65536 = n / 2 ^ 16 := rfl
  have e3 : n / 256 = n / 2 ^ 8 := rfl
  rw [e1, e2, e3]
  simp only [Sha.be, BitVec.getLsbD_or, BitVec.getLsbD_shiftLeft, BitVec.getLsbD_setWidth, BitVec.getLsbD_ofNat, Nat.testBit_div_two_pow]
  rcases (show i < 8 ∨ (8 ≤ i ∧ i < 16) ∨ (16 ≤ i ∧ i < 24) ∨ (24 ≤ i ∧ i < 32) by omega) with h | ⟨h, h'⟩ | ⟨h, h'⟩ | ⟨h, h'⟩
  · simp [h, show i < 16 by omega, show i < 24 by omega, show i < 32 by omega]
  · simp [h', show ¬ i < 8 by omega, show i < 24 by omega, show i < 32 by omega, show i - 8 < 32 by omega, show i - 8 < 8 by omega, show i - 8 + 8 = i by omega]
  · simp [h', show ¬ i < 8 by omega, show ¬ i < 16 by omega, show i < 32 by omega, show ¬ i - 8 < 8 by omega, show i - 16 < 32 by omega, show i - 16 < 8 by omega, show i - 16 + 16 = i by omega]
  · simp [h', show ¬ i < 8 by omega, show ¬ i < 16 by omega, show ¬ i < 24 by omega, show ¬ i - 8 < 8 by omega, show ¬ i - 16 < 8 by omega, show i - 24 < 32 by omega, show i - 24 < 8 by omega, show i - 24 + 24 = i by omega]
set_option maxRecDepth 5000 in
theorem num_len4 (n : Nat) (hn : n < 4294967296) (r : List (BitVec 8)) : num (Sha.len4 n ++ r) = n := by
  show (Sha.be (BitVec.ofNat 8 (n / 16777216)) (BitVec.ofNat 8 (n / 65536)) (BitVec.ofNat 8 (n / 256)) (BitVec.ofNat 8 n)).toNat = n
  rw [be_len4, BitVec.toNat_ofNat, Nat.mod_eq_of_lt hn]
set_option maxRecDepth 5000 in
theorem top_sig (f : Nat → BitVec 8) (h leaf : Nat) (m : List (BitVec 8)) (hl : leaf < 2 ^ h) (hh : leaf < 4294967296) : top h m (sig f h leaf m) = nd f h 0 := by
  unfold top sig
  have h4 : ((Sha.len4 leaf ++ O.sigL f leaf (O.dig m) 32 ++ sis f leaf 0 h).drop 4).take 512 = O.sigL f leaf (O.dig m) 32 := by
    rw [List.append_assoc, List.drop_append, List.drop_of_length_le (by rw [len4_len]; omega), len4_len, List.nil_append, Nat.sub_self, List.drop_zero, List.take_append_of_le_length (by rw [O.sigL_len]; omega), List.take_of_length_le (by rw [O.sigL_len]; omega)]
  have h5 : (Sha.len4 leaf ++ O.sigL f leaf (O.dig m) 32 ++ sis f leaf 0 h).drop 516 = sis f leaf 0 h := by
    have hl5 : (Sha.len4 leaf ++ O.sigL f leaf (O.dig m) 32).length = 516 := by rw [List.length_append, len4_len, O.sigL_len]
    rw [List.drop_append, List.drop_of_length_le (by omega), hl5]; simp
  rw [h4, h5, List.append_assoc, num_len4 leaf hh, O.opened_sig]
  have := clb_sis f leaf h 0 []
  rw [List.append_nil, Nat.pow_zero, Nat.div_one, Nat.zero_add, Nat.div_eq_of_lt hl] at this
  exact this
set_option maxRecDepth 5000 in
theorem ver_sig (f : Nat → BitVec 8) (h leaf : Nat) (m : List (BitVec 8)) (hh : h ≤ 10) (hl : leaf < 2 ^ h) : ver (O.lst (nd f h 0)) h m (sig f h leaf m) = true := by
  have h32 : leaf < 4294967296 := by
    have : 2 ^ h ≤ 2 ^ 10 := Nat.pow_le_pow_right (by omega) hh
    omega
  unfold ver
  rw [decide_eq_true_iff]
  refine ⟨O.lst_len _, by omega, by omega, by rw [sig_len]; omega, ?_, ?_⟩
  · unfold sig; rw [List.append_assoc, num_len4 leaf h32]; simpa using hl
  · rw [Int.toNat_natCast, top_sig f h leaf m hl h32]
end T
end Go.Proofs.YtpiehjfoojipiaaDoor
