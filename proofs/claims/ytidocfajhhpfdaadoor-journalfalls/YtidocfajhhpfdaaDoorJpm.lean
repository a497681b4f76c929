/- Numbers of bytes, heads, frames: plain. -/
import Derived.Test.YtidocfajhhpfdaaDoorJpl
namespace Go.Proofs.YtidocfajhhpfdaaDoor
namespace J
def nm (n : Nat) (l : List UInt8) : Nat := l.foldl (fun a x => a * 256 + x.toNat) n
def num (l : List UInt8) : Nat := nm 0 l
def byt (n i : Nat) : UInt8 := UInt8.ofNat (n / 2 ^ (8 * i))
/- n in k bytes, the greatest first -/
def be : Nat → Nat → List UInt8
  | 0, _ => []
  | k + 1, n => byt n k :: be k n
set_option maxRecDepth 5000 in
theorem be_len : ∀ k n, (be k n).length = k
  | 0, _ => rfl
  | k + 1, n => by simp [be, be_len k n]
set_option maxRecDepth 5000 in
theorem nm_app (n : Nat) (l m : List UInt8) : nm n (l ++ m) = nm (nm n l) m := by simp [nm]
set_option maxRecDepth 5000 in
theorem nm_lin : ∀ (l : List UInt8) (n : Nat), nm n l = n * 256 ^ l.length + nm 0 l
  | [], n => by simp [nm]
  | x :: l, n => by
    show nm (n * 256 + x.toNat) l = n * 256 ^ (l.length + 1) + nm (0 * 256 + x.toNat) l
    rw [nm_lin l (n * 256 + x.toNat), nm_lin l (0 * 256 + x.toNat), Nat.pow_succ, Nat.add_mul, Nat.mul_assoc n 256, Nat.mul_comm 256, Nat.zero_mul, Nat.zero_add]
    omega
set_option maxRecDepth 5000 in
theorem num_lt : ∀ l : List UInt8, num l < 256 ^ l.length
  | [] => by simp [num, nm]
  | x :: l => by
    have h := num_lt l
    have hx : x.toNat < 256 := x.toNat_lt
    show nm (0 * 256 + x.toNat) l < 256 ^ (l.length + 1)
    rw [nm_lin, Nat.pow_succ]
    unfold num at h
    have : (0 * 256 + x.toNat) * 256 ^ l.length ≤ 255 * 256 ^ l.length := Nat.mul_le_mul_right _ (by omega)
    omega
set_option maxRecDepth 5000 in
theorem num_be : ∀ k n, num (be k n) = n % 256 ^ k
  | 0, n => by simp [be, num, nm, Nat.mod_one]
  | k + 1, n => by
    show nm (0 * 256 + (byt n k).toNat) (be k n) = _
    rw [nm_lin, be_len]
    have h := num_be k n
    unfold num at h
    rw [h, Nat.pow_succ]
    have e : (byt n k).toNat = n / 256 ^ k % 256 := by
      unfold byt
      rw [show (2 : Nat) ^ (8 * k) = 256 ^ k by rw [Nat.pow_mul]]
      simp
    rw [e, Nat.mod_mul]
    rw [Nat.zero_mul, Nat.zero_add, Nat.mul_comm (256 ^ k), Nat.add_comm]
/- a head -/
structure H where
  c : Nat
  a : Nat
  u : Nat
  b : Nat
def mark : List UInt8 := [106, 111, 117, 114, 110, 97, 108, 50]
def hpre (h : H) (sz : Nat) : List UInt8 := mark ++ be 8 h.c ++ be 4 h.a ++ be 4 h.u ++ be 4 h.b ++ List.replicate (sz - 32) 0
def hb (h : H) (sz : Nat) : List UInt8 := hpre h sz ++ be 4 (crc (hpre h sz))
set_option maxRecDepth 5000 in
theorem mark_len : mark.length = 8 := rfl
set_option maxRecDepth 5000 in
theorem hpre_len (h : H) (sz : Nat) (hs : 32 ≤ sz) : (hpre h sz).length = sz - 4 := by
  simp only [hpre, List.length_append, mark_len, be_len, List.length_replicate]; omega
set_option maxRecDepth 5000 in
theorem hb_len (h : H) (sz : Nat) (hs : 32 ≤ sz) : (hb h sz).length = sz := by
  rw [hb, List.length_append, hpre_len h sz hs, be_len]; omega
/- a frame: the record r, whose number is k -/
def fpre (k : Nat) (r : List UInt8) : List UInt8 := be 4 k ++ be 4 r.length ++ r
def fr (k : Nat) (r : List UInt8) : List UInt8 := fpre k r ++ be 4 (crc (fpre k r))
def enc (fs : List (Nat × List UInt8)) : List UInt8 := fs.flatMap fun x => fr x.1 x.2
/- what frames put into records -/
def lay (A : List (List UInt8)) (fs : List (Nat × List UInt8)) : List (List UInt8) := fs.foldl (fun l x => l.set x.1 x.2) A
def dec (fs : List (Nat × List UInt8)) (n : Nat) : List (List UInt8) := lay (List.replicate n []) fs
/- the frames of records, of which the first has the number k -/
def frl : Nat → List (List UInt8) → List (Nat × List UInt8)
  | _, [] => []
  | k, r :: l => if r = [] then frl (k + 1) l else (k, r) :: frl (k + 1) l
/- frames whose numbers rise, from k on, all below n -/
def Ri : Nat → List (Nat × List UInt8) → Nat → Prop
  | _, [], _ => True
  | k, x :: fs, n => k ≤ x.1 ∧ x.1 < n ∧ x.2 ≠ [] ∧ Ri (x.1 + 1) fs n
def fsz (l : List (List UInt8)) : Nat := (l.map fun r => if r = [] then 0 else r.length + 12).sum
set_option maxRecDepth 5000 in
theorem fr_len (k : Nat) (r : List UInt8) : (fr k r).length = r.length + 12 := by
  simp only [fr, fpre, List.length_append, be_len]; omega
set_option maxRecDepth 5000 in
theorem frl_len : ∀ k l, (enc (frl k l)).length = fsz l
  | k, [] => by simp [frl, enc, fsz]
  | k, r :: l => by
    have := frl_len (k + 1) l
    by_cases h : r = []
    · rw [frl, if_pos h, this]; simp [fsz, h]
    · rw [frl, if_neg h]
      simp only [enc, List.flatMap_cons, List.length_append, fr_len] at *
      rw [this]; simp [fsz, h]
set_option maxRecDepth 5000 in
theorem lay_len : ∀ (fs : List (Nat × List UInt8)) (A : List (List UInt8)), (lay A fs).length = A.length
  | [], _ => rfl
  | x :: fs, A => by show (lay (A.set x.1 x.2) fs).length = _; rw [lay_len fs, List.length_set]
set_option maxRecDepth 5000 in
theorem dec_len (fs : List (Nat × List UInt8)) (n : Nat) : (dec fs n).length = n := by rw [dec, lay_len, List.length_replicate]
set_option maxRecDepth 5000 in
theorem lay_app (A : List (List UInt8)) (fs gs : List (Nat × List UInt8)) : lay A (fs ++ gs) = lay (lay A fs) gs := by simp [lay]
/- what lies behind is left alone -/
set_option maxRecDepth 5000 in
theorem lay_left : ∀ (fs : List (Nat × List UInt8)) (A B : List (List UInt8)) (k : Nat), Ri k fs A.length → lay (A ++ B) fs = lay A fs ++ B
  | [], _, _, _, _ => rfl
  | x :: fs, A, B, k, h => by
    show lay ((A ++ B).set x.1 x.2) fs = lay (A.set x.1 x.2) fs ++ B
    rw [List.set_append_left _ _ h.2.1]
    exact lay_left fs _ B (x.1 + 1) (by rw [List.length_set]; exact h.2.2.2)
set_option maxRecDepth 5000 in
theorem lay_frl : ∀ (l A : List (List UInt8)), lay (A ++ List.replicate l.length []) (frl A.length l) = A ++ l
  | [], A => by simp [frl, lay]
  | r :: l, A => by
    have ih := lay_frl l (A ++ [r])
    rw [List.length_append, List.length_singleton, List.append_assoc, List.append_assoc] at ih
    rw [List.length_cons, List.replicate_succ, frl]
    by_cases h : r = []
    · rw [if_pos h]; subst h; exact ih
    · rw [if_neg h]
      show lay ((A ++ [] :: List.replicate l.length []).set A.length r) (frl (A.length + 1) l) = _
      rw [List.set_append_right _ _ (Nat.le_refl _), Nat.sub_self, List.set_cons_zero]; exact ih
set_option maxRecDepth 5000 in
theorem dec_more (fs : List (Nat × List UInt8)) (b : Nat) (l : List (List UInt8)) (h : Ri 0 fs b) : dec (fs ++ frl b l) (b + l.length) = dec fs b ++ l := by
  unfold dec
  rw [lay_app, ← List.replicate_append_replicate, lay_left fs _ _ 0 (by rw [List.length_replicate]; exact h)]
  have := lay_frl l (lay (List.replicate b []) fs)
  rwa [lay_len, List.length_replicate] at this
set_option maxRecDepth 5000 in
theorem dec_frl (l : List (List UInt8)) : dec (frl 0 l) l.length = l := by
  have := dec_more [] 0 l trivial
  simpa [dec, lay] using this
set_option maxRecDepth 5000 in
theorem Ri.mono : ∀ {fs : List (Nat × List UInt8)} {k n k' n' : Nat}, Ri k fs n → k' ≤ k → n ≤ n' → Ri k' fs n'
  | [], _, _, _, _, _, _, _ => trivial
  | _ :: _, _, _, _, _, h, h1, h2 => ⟨Nat.le_trans h1 h.1, Nat.lt_of_lt_of_le h.2.1 h2, h.2.2.1, h.2.2.2.mono (Nat.le_refl _) h2⟩
set_option maxRecDepth 5000 in
theorem ri_frl : ∀ (l : List (List UInt8)) (k : Nat), Ri k (frl k l) (k + l.length)
  | [], _ => trivial
  | r :: l, k => by
    have ih := ri_frl l (k + 1)
    rw [frl, List.length_cons]
    by_cases h : r = []
    · rw [if_pos h]; exact ih.mono (by omega) (by omega)
    · rw [if_neg h]; exact ⟨Nat.le_refl _, by show k < _; omega, h, ih.mono (Nat.le_refl _) (by omega)⟩
set_option maxRecDepth 5000 in
theorem Ri.app : ∀ {fs gs : List (Nat × List UInt8)} {k m n : Nat}, Ri k fs m → Ri m gs n → m ≤ n → k ≤ m → Ri k (fs ++ gs) n
  | [], _, _, _, _, _, h2, _, h4 => h2.mono h4 (Nat.le_refl _)
  | _ :: _, _, _, _, _, h, h2, h3, _ => ⟨h.1, Nat.lt_of_lt_of_le h.2.1 h3, h.2.2.1, h.2.2.2.app h2 h3 h.2.1⟩
set_option maxRecDepth 5000 in
theorem ri_more (fs : List (Nat × List UInt8)) (b : Nat) (l : List (List UInt8)) (h : Ri 0 fs b) : Ri 0 (fs ++ frl b l) (b + l.length) := h.app (ri_frl l b) (by omega) (by omega)
set_option maxRecDepth 5000 in
theorem enc_app (fs gs : List (Nat × List UInt8)) : enc (fs ++ gs) = enc fs ++ enc gs := by simp [enc]
end J
end Go.Proofs.YtidocfajhhpfdaaDoor
