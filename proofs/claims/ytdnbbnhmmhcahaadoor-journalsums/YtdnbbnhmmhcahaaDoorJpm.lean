/- Numbers of bytes, heads, frames: plain. -/
import Derived.Test.YtdnbbnhmmhcahaaDoorJpl
namespace Go.Proofs.YtdnbbnhmmhcahaaDoor
namespace J
def nm (n : Nat) (l : List UInt8) : Nat := l.foldl (fun a x => a * 256 + x.toNat) n
def num (l : List UInt8) : Nat := nm 0 l
def byt (n i : Nat) : UInt8 := UInt8.ofNat (n / 2 ^ (8 * i))
/- n in k bytes, the greatest first -/
def be : Nat → Nat → List UInt8
  | 0, _ => []
  | k + 1, n => byt n k :: be k n
set_option maxRecDepth 5000 in
theorem be_len : ∀ k n, (be k n).length = k
  | 0, _ => rfl
  | k + 1, n => by simp [be, be_len k n]
set_option maxRecDepth 5000 in
theorem nm_app (n : Nat) (l m : List UInt8) : nm n (l ++ m) = nm (nm n l) m := by simp [nm]
set_option maxRecDepth 5000 in
theorem nm_lin : ∀ (l : List UInt8) (n : Nat), nm n l = n * 256 ^ l.length + nm 0 l
  | [], n => by simp [nm]
  | x :: l, n => by
    show nm (n * 256 + x.toNat) l = n * 256 ^ (l.length + 1) + nm (0 * 256 + x.toNat) l
    rw [nm_lin l (n * 256 + x.toNat), nm_lin l (0 * 256 + x.toNat), Nat.pow_succ, Nat.add_mul, Nat.mul_assoc n 256, Nat.mul_comm 256, Nat.zero_mul, Nat.zero_add]
    omega
set_option maxRecDepth 5000 in
theorem num_lt : ∀ l : List UInt8, num l < 256 ^ l.length
  | [] => by simp [num, nm]
  | x :: l => by
    have h := num_lt l
    have hx : x.toNat < 256 := x.toNat_lt
    show nm (0 * 256 + x.toNat) l < 256 ^ (l.length + 1)
    rw [nm_lin, Nat.pow_succ]
    unfold num at h
    have : (0 * 256 + x.toNat) * 256 ^ l.length ≤ 255 * 256 ^ l.length := Nat.mul_le_mul_right _ (by omega)
    omega
set_option maxRecDepth 5000 in
theorem num_be : ∀ k n, num (be k n) = n % 256 ^ k
  | 0, n => by simp [be, num, nm, Nat.mod_one]
  | k + 1, n => by
    show nm (0 * 256 + (byt n k).toNat) (be k n) = _
    rw [nm_lin, be_len]
    have h := num_be k n
    unfold num at h
    rw [h, Nat.pow_succ]
    have e : (byt n k).toNat = n / 256 ^ k % 256 := by
      unfold byt
      rw [show (2 : Nat) ^ (8 * k) = 256 ^ k by rw [Nat.pow_mul]]
      simp
    rw [e, Nat.mod_mul]
    rw [Nat.zero_mul, Nat.zero_add, Nat.mul_comm (256 ^ k), Nat.add_comm]
/- a head -/
structure H where
  c : Nat
  a : Nat
  u : Nat
  b : Nat
def mark : List UInt8 := [115, 105, 103, 110, 101, 116, 49, 50]
def hpre (h : H) (sz : Nat) : List UInt8 := mark ++ be 8 h.c ++ be 4 h.a ++ be 4 h.u ++ be 4 h.b ++ List.replicate (sz - 32) 0
def hb (h : H) (sz : Nat) : List UInt8 := hpre h sz ++ be 4 (crc (hpre h sz))
set_option maxRecDepth 5000 in
theorem mark_len : mark.length = 8 := rfl
set_option maxRecDepth 5000 in
theorem hpre_len (h : H) (sz : Nat) (hs : 32 ≤ sz) : (hpre h sz).length = sz - 4 := by
  simp only [hpre, List.length_append, mark_len, be_len, List.length_replicate]; omega
set_option maxRecDepth 5000 in
theorem hb_len (h : H) (sz : Nat) (hs : 32 ≤ sz) : (hb h sz).length = sz := by
  rw [hb, List.length_append, hpre_len h sz hs, be_len]; omega
/- a frame: k empty records ahead of the record r -/
def fpre (k : Nat) (r : List UInt8) : List UInt8 := be 4 k ++ be 4 r.length ++ r
def fr (k : Nat) (r : List UInt8) : List UInt8 := fpre k r ++ be 4 (crc (fpre k r))
def enc (fs : List (Nat × List UInt8)) : List UInt8 := fs.flatMap fun x => fr x.1 x.2
def dec (fs : List (Nat × List UInt8)) (b : Nat) : List (List UInt8) := (fs.flatMap fun x => List.replicate x.1 [] ++ [x.2]) ++ List.replicate b []
def frl : Nat → List (List UInt8) → List (Nat × List UInt8) × Nat
  | k, [] => ([], k)
  | k, r :: l => if r = [] then frl (k + 1) l else ((k, r) :: (frl 0 l).1, (frl 0 l).2)
def fsz (l : List (List UInt8)) : Nat := (l.map fun r => if r = [] then 0 else r.length + 12).sum
set_option maxRecDepth 5000 in
theorem fr_len (k : Nat) (r : List UInt8) : (fr k r).length = r.length + 12 := by
  simp only [fr, fpre, List.length_append, be_len]; omega
set_option maxRecDepth 5000 in
theorem frl_len : ∀ k l, (enc (frl k l).1).length = fsz l
  | k, [] => by simp [frl, enc, fsz]
  | k, r :: l => by
    by_cases h : r = []
    · rw [frl, if_pos h, frl_len (k + 1) l]; simp [fsz, h]
    · have := frl_len 0 l
      rw [frl, if_neg h]
      simp only [enc, List.flatMap_cons, List.length_append, fr_len] at *
      rw [this]; simp [fsz, h]
set_option maxRecDepth 5000 in
theorem dec_frl : ∀ k l, dec (frl k l).1 (frl k l).2 = List.replicate k [] ++ l
  | k, [] => by simp [frl, dec]
  | k, r :: l => by
    by_cases h : r = []
    · rw [frl, if_pos h, dec_frl (k + 1) l, h, List.replicate_succ', List.append_assoc]; rfl
    · have := dec_frl 0 l
      rw [frl, if_neg h]
      simp only [dec, List.flatMap_cons, List.append_assoc, List.replicate_zero, List.nil_append] at *
      rw [this]; simp
set_option maxRecDepth 5000 in
theorem dec_more (fs : List (Nat × List UInt8)) (b : Nat) (l : List (List UInt8)) : dec (fs ++ (frl b l).1) (frl b l).2 = dec fs b ++ l := by
  have := dec_frl b l
  simp only [dec, List.flatMap_append, List.append_assoc] at *
  rw [this]
set_option maxRecDepth 5000 in
theorem enc_app (fs gs : List (Nat × List UInt8)) : enc (fs ++ gs) = enc fs ++ enc gs := by simp [enc]
end J
end Go.Proofs.YtdnbbnhmmhcahaaDoor
