/- A message of addresses and an OPT, plain: its bytes, and how they are read. -/
import Derived.Test.YtpgebiopckmgbabGreatRca
import Derived.Test.YtpgebiopckmgbabGreatWrs
import Derived.Test.YtpgebiopckmgbabGreatBgn
namespace Go.Proofs.YtpgebiopckmgbabGreat
namespace M
def aRec (i : Nat) : R := ⟨[[97]], 1, 1, 5, [1, 2, 3, UInt8.ofNat i]⟩
def optB (sz ttl : Nat) : List UInt8 := [0, 0, 41, UInt8.ofNat (sz / 256), UInt8.ofNat sz, UInt8.ofNat (ttl / 65536 / 256), UInt8.ofNat (ttl / 65536), UInt8.ofNat (ttl % 65536 / 256), UInt8.ofNat (ttl % 65536), 0, 0]
def fstB (i : Nat) : List UInt8 := [1, 97, 0, 0, 1, 0, 1, 0, 0, 0, 5, 0, 4, 1, 2, 3, UInt8.ofNat i]
def agnB (i : Nat) : List UInt8 := [192, 12, 0, 1, 0, 1, 0, 0, 0, 5, 0, 4, 1, 2, 3, UInt8.ofNat i]
def bdyB : Nat → List UInt8
  | 0 => []
  | 1 => fstB 0
  | 2 => fstB 0 ++ agnB 1
  | _ => fstB 0 ++ agnB 1 ++ agnB 2
def mpa : List UInt8 → Option Nat := wput (fun _ => none) [1, 97, 0] 12
set_option maxRecDepth 5000 in
theorem p16_small (n : Nat) (h : n < 256) : D.p16 n = [0, UInt8.ofNat n] := by
  unfold D.p16; rw [show n / 256 = 0 by omega]; rfl
set_option maxRecDepth 5000 in
theorem wrec_fst (i : Nat) (out : List UInt8) (h : out.length = 12) : wrec (aRec i) (fun _ => none) out = (mpa, out ++ fstB i) := by
  have h1 : wname [[97]] (fun _ => none) out = (mpa, out ++ [1, 97] ++ [0]) := by
    simp only [wname, h]
    rfl
  unfold wrec
  rw [show (aRec i).name = [[97]] from rfl, h1]
  simp [aRec, fstB, p16_small]
set_option maxRecDepth 5000 in
theorem wrec_agn (i : Nat) (out : List UInt8) : wrec (aRec i) mpa out = (mpa, out ++ agnB i) := by
  have h1 : wname [[97]] mpa out = (mpa, out ++ D.p16 (49152 + 12)) := rfl
  unfold wrec
  rw [show (aRec i).name = [[97]] from rfl, h1]
  simp [aRec, agnB, D.p16]
set_option maxRecDepth 5000 in
theorem wrec_opt (sz ttl : Nat) (mp : List UInt8 → Option Nat) (out : List UInt8) : wrec ⟨[], 41, sz, ttl, []⟩ mp out = (mp, out ++ optB sz ttl) := by
  simp [wrec, wname, optB, D.p16]
set_option maxRecDepth 5000 in
theorem wrs_a (k : Nat) (hk : k ≤ 3) (out : List UInt8) (h : out.length = 12) : ∃ mp n, wrs 65535 ((List.range k).map aRec) (fun _ => none) out = (mp, out ++ bdyB k, n) := by
  have e0 : (out ++ fstB 0).length = 29 := by simp [h, fstB]
  have e1 : (out ++ fstB 0 ++ agnB 1).length = 45 := by simp [h, fstB, agnB]
  have e2 : (out ++ fstB 0 ++ agnB 1 ++ agnB 2).length = 61 := by simp [h, fstB, agnB]
  have r : k = 0 ∨ k = 1 ∨ k = 2 ∨ k = 3 := by omega
  rcases r with rfl | rfl | rfl | rfl
  · exact ⟨fun _ => none, 0, by simp [wrs, bdyB]⟩
  · refine ⟨mpa, 1, ?_⟩
    show wrs 65535 [aRec 0] _ _ = _
    simp only [wrs, wrec_fst 0 out h, e0, bdyB]
    rw [if_neg (by omega)]
  · refine ⟨mpa, 2, ?_⟩
    show wrs 65535 [aRec 0, aRec 1] _ _ = _
    simp only [wrs, wrec_fst 0 out h, wrec_agn, e0, e1, bdyB]
    rw [if_neg (by omega), if_neg (by omega)]
    simp
  · refine ⟨mpa, 3, ?_⟩
    show wrs 65535 [aRec 0, aRec 1, aRec 2] _ _ = _
    simp only [wrs, wrec_fst 0 out h, wrec_agn, e0, e1, e2, bdyB]
    rw [if_neg (by omega), if_neg (by omega), if_neg (by omega)]
    simp
set_option maxRecDepth 5000 in
theorem hdr_len (i fl a b c d : Nat) : (hdr i fl a b c d).length = 12 := rfl
def outB (fl k sz ttl : Nat) : List UInt8 := hdr 0 fl 0 0 0 (k + 1) ++ bdyB k ++ optB sz ttl
set_option maxRecDepth 5000 in
theorem outB_wrote (fl k sz ttl : Nat) (hk : k ≤ 3) : (wrec ⟨[], 41, sz, ttl, []⟩ (wrs 65535 ((List.range k).map aRec) (fun _ => none) (hdr 0 fl 0 0 0 (k + 1))).1 (wrs 65535 ((List.range k).map aRec) (fun _ => none) (hdr 0 fl 0 0 0 (k + 1))).2.1).2 = outB fl k sz ttl := by
  obtain ⟨mp, n, e⟩ := wrs_a k hk (hdr 0 fl 0 0 0 (k + 1)) rfl
  rw [wrec_opt, e]; rfl
set_option maxRecDepth 5000 in
theorem plain_wrote (fl k : Nat) (hk : k ≤ 3) : (wrs 65535 ((List.range k).map aRec) (fun _ => none) (hdr 0 fl 0 0 0 k)).2.1 = hdr 0 fl 0 0 0 k ++ bdyB k := by
  obtain ⟨mp, n, e⟩ := wrs_a k hk (hdr 0 fl 0 0 0 k) rfl
  rw [e]
set_option maxRecDepth 5000 in
theorem bdy_len (k : Nat) (hk : k ≤ 3) : (bdyB k).length ≤ 49 := by
  have r : k = 0 ∨ k = 1 ∨ k = 2 ∨ k = 3 := by omega
  rcases r with rfl | rfl | rfl | rfl <;> simp [bdyB, fstB, agnB]
set_option maxRecDepth 5000 in
theorem outB_len (fl k sz ttl : Nat) (hk : k ≤ 3) : (outB fl k sz ttl).length ≤ 72 ∧ 12 ≤ (outB fl k sz ttl).length := by
  have h := bdy_len k hk
  simp only [outB, List.length_append, hdr_len, show (optB sz ttl).length = 11 from rfl]; omega
set_option maxRecDepth 5000 in
theorem wn_root {b : List UInt8} {p : Nat} (hp : p < b.length) (h : by_ b p = 0) : wn b p p [] = some ([], p + 1) := by
  rw [wn, dif_neg (by omega), if_pos h]
set_option maxRecDepth 5000 in
theorem wn_one {b : List UInt8} {p : Nat} (hp : p + 3 ≤ b.length) (h : by_ b p = 1) (h2 : by_ b (p + 2) = 0) : wn b p p [] = some ([lab b p], p + 3) := by
  have hl : (lab b p).length = 1 := by rw [lab_len (by omega), h]
  rw [wn, dif_neg (by omega), if_neg (by omega), if_neg (by omega), dif_neg (by omega), if_neg (by rw [size_more]; simp [N.size, hl]), h]
  rw [wn, dif_neg (by omega), if_pos (by rw [show p + 1 + 1 = p + 2 by omega]; exact h2)]
  rfl
set_option maxRecDepth 5000 in
theorem wn_ptr {b : List UInt8} {p q : Nat} {nm : List (List UInt8)} (hp : p + 2 ≤ b.length) (h : by_ b p = 192) (h2 : by_ b (p + 1) = 12) (h12 : 12 < p) (hn : wn b 12 12 [] = some (nm, q)) : wn b p p [] = some (nm, p + 2) := by
  have hpl : plc b p = 12 := by unfold plc; rw [h, h2]
  rw [wn, dif_neg (by omega), if_neg (by omega), if_pos (by omega), if_neg (by omega), dif_neg (by omega), hpl, hn]
  rfl
def plA : Nat → Nat
  | 0 => 12
  | j + 1 => 29 + 16 * j
set_option maxRecDepth 5000 in
theorem two_toNat (n : Nat) (h : n < 65536) : (UInt8.ofNat (n / 256)).toNat * 256 + (UInt8.ofNat n).toNat = n := by
  rw [UInt8.toNat_ofNat', UInt8.toNat_ofNat']; omega
set_option maxRecDepth 5000 in
theorem outB_nums (fl k sz ttl : Nat) (hf : fl < 65536) (hk : k ≤ 3) : v16 (outB fl k sz ttl) 0 = 0 ∧ v16 (outB fl k sz ttl) 2 = fl ∧ v16 (outB fl k sz ttl) 4 = 0 ∧ v16 (outB fl k sz ttl) 6 = 0 ∧ v16 (outB fl k sz ttl) 8 = 0 ∧ v16 (outB fl k sz ttl) 10 = k + 1 := by
  have e2 : v16 (outB fl k sz ttl) 2 = (UInt8.ofNat (fl / 256)).toNat * 256 + (UInt8.ofNat fl).toNat := by kernel_rfl
  have e10 : v16 (outB fl k sz ttl) 10 = (UInt8.ofNat ((k + 1) / 256)).toNat * 256 + (UInt8.ofNat (k + 1)).toNat := by kernel_rfl
  refine ⟨by kernel_rfl, e2.trans (two_toNat fl hf), by kernel_rfl, by kernel_rfl, by kernel_rfl, e10.trans (two_toNat (k + 1) (by omega))⟩
set_option maxRecDepth 5000 in
theorem outB_opt (fl k sz ttl : Nat) (hk : k ≤ 3) (hs : sz < 65536) (ht : ttl < 4294967296) : OptAt (outB fl k sz ttl) (plA k) (outB fl k sz ttl).length sz ttl := by
  have t1 := two_toNat (ttl / 65536) (by omega)
  have t2 := two_toNat (ttl % 65536) (by omega)
  have t3 := two_toNat sz hs
  have r : k = 0 ∨ k = 1 ∨ k = 2 ∨ k = 3 := by omega
  rcases r with rfl | rfl | rfl | rfl
  · have hl : (outB fl 0 sz ttl).length = 23 := by kernel_rfl
    have e1 : v16 (outB fl 0 sz ttl) 15 = (UInt8.ofNat (sz / 256)).toNat * 256 + (UInt8.ofNat sz).toNat := by kernel_rfl
    have e2 : v32 (outB fl 0 sz ttl) 17 = ((UInt8.ofNat (ttl / 65536 / 256)).toNat * 256 + (UInt8.ofNat (ttl / 65536)).toNat) * 65536 + ((UInt8.ofNat (ttl % 65536 / 256)).toNat * 256 + (UInt8.ofNat (ttl % 65536)).toNat) := by kernel_rfl
    rw [t3] at e1
    rw [t1, t2] at e2
    have e3 : by_ (outB fl 0 sz ttl) 12 = 0 := by kernel_rfl
    have e4 : v16 (outB fl 0 sz ttl) 13 = 41 := by kernel_rfl
    have e5 : v16 (outB fl 0 sz ttl) 21 = 0 := by kernel_rfl
    exact ⟨13, wn_root (p := 12) (by omega) e3, e4, e1, by rw [e2]; omega, e5, by rw [hl], by omega⟩
  · have hl : (outB fl 1 sz ttl).length = 40 := by kernel_rfl
    have e1 : v16 (outB fl 1 sz ttl) 32 = (UInt8.ofNat (sz / 256)).toNat * 256 + (UInt8.ofNat sz).toNat := by kernel_rfl
    have e2 : v32 (outB fl 1 sz ttl) 34 = ((UInt8.ofNat (ttl / 65536 / 256)).toNat * 256 + (UInt8.ofNat (ttl / 65536)).toNat) * 65536 + ((UInt8.ofNat (ttl % 65536 / 256)).toNat * 256 + (UInt8.ofNat (ttl % 65536)).toNat) := by kernel_rfl
    rw [t3] at e1
    rw [t1, t2] at e2
    have e3 : by_ (outB fl 1 sz ttl) 29 = 0 := by kernel_rfl
    have e4 : v16 (outB fl 1 sz ttl) 30 = 41 := by kernel_rfl
    have e5 : v16 (outB fl 1 sz ttl) 38 = 0 := by kernel_rfl
    exact ⟨30, wn_root (p := 29) (by omega) e3, e4, e1, by rw [e2]; omega, e5, by rw [hl], by omega⟩
  · have hl : (outB fl 2 sz ttl).length = 56 := by kernel_rfl
    have e1 : v16 (outB fl 2 sz ttl) 48 = (UInt8.ofNat (sz / 256)).toNat * 256 + (UInt8.ofNat sz).toNat := by kernel_rfl
    have e2 : v32 (outB fl 2 sz ttl) 50 = ((UInt8.ofNat (ttl / 65536 / 256)).toNat * 256 + (UInt8.ofNat (ttl / 65536)).toNat) * 65536 + ((UInt8.ofNat (ttl % 65536 / 256)).toNat * 256 + (UInt8.ofNat (ttl % 65536)).toNat) := by kernel_rfl
    rw [t3] at e1
    rw [t1, t2] at e2
    have e3 : by_ (outB fl 2 sz ttl) 45 = 0 := by kernel_rfl
    have e4 : v16 (outB fl 2 sz ttl) 46 = 41 := by kernel_rfl
    have e5 : v16 (outB fl 2 sz ttl) 54 = 0 := by kernel_rfl
    exact ⟨46, wn_root (p := 45) (by omega) e3, e4, e1, by rw [e2]; omega, e5, by rw [hl], by omega⟩
  · have hl : (outB fl 3 sz ttl).length = 72 := by kernel_rfl
    have e1 : v16 (outB fl 3 sz ttl) 64 = (UInt8.ofNat (sz / 256)).toNat * 256 + (UInt8.ofNat sz).toNat := by kernel_rfl
    have e2 : v32 (outB fl 3 sz ttl) 66 = ((UInt8.ofNat (ttl / 65536 / 256)).toNat * 256 + (UInt8.ofNat (ttl / 65536)).toNat) * 65536 + ((UInt8.ofNat (ttl % 65536 / 256)).toNat * 256 + (UInt8.ofNat (ttl % 65536)).toNat) := by kernel_rfl
    rw [t3] at e1
    rw [t1, t2] at e2
    have e3 : by_ (outB fl 3 sz ttl) 61 = 0 := by kernel_rfl
    have e4 : v16 (outB fl 3 sz ttl) 62 = 41 := by kernel_rfl
    have e5 : v16 (outB fl 3 sz ttl) 70 = 0 := by kernel_rfl
    exact ⟨62, wn_root (p := 61) (by omega) e3, e4, e1, by rw [e2]; omega, e5, by rw [hl], by omega⟩
set_option maxRecDepth 5000 in
theorem outB_addr (fl k sz ttl : Nat) (hk : k ≤ 3) : ∀ j, j < k → Addr4 (outB fl k sz ttl) (plA j) (plA (j + 1)) := by
  intro j hj
  have r : k = 1 ∨ k = 2 ∨ k = 3 := by omega
  rcases r with rfl | rfl | rfl
  · have hl : (outB fl 1 sz ttl).length = 40 := by kernel_rfl
    have n1 : by_ (outB fl 1 sz ttl) 12 = 1 := by kernel_rfl
    have n2 : by_ (outB fl 1 sz ttl) 14 = 0 := by kernel_rfl
    have h0 := wn_one (b := (outB fl 1 sz ttl)) (p := 12) (by omega) n1 n2
    obtain rfl : j = 0 := by omega
    have a1 : v16 (outB fl 1 sz ttl) 15 = 1 := by kernel_rfl
    have a2 : v16 (outB fl 1 sz ttl) 17 = 1 := by kernel_rfl
    have a3 : v32 (outB fl 1 sz ttl) 19 = 5 := by kernel_rfl
    have a4 : v16 (outB fl 1 sz ttl) 23 = 4 := by kernel_rfl
    exact ⟨_, 15, 5, h0, a1, a2, a3, by omega, a4, rfl, by rw [hl]; show 29 ≤ _; omega⟩
  · have hl : (outB fl 2 sz ttl).length = 56 := by kernel_rfl
    have n1 : by_ (outB fl 2 sz ttl) 12 = 1 := by kernel_rfl
    have n2 : by_ (outB fl 2 sz ttl) 14 = 0 := by kernel_rfl
    have h0 := wn_one (b := (outB fl 2 sz ttl)) (p := 12) (by omega) n1 n2
    have s : j = 0 ∨ j = 1 := by omega
    rcases s with rfl | rfl
    · have a1 : v16 (outB fl 2 sz ttl) 15 = 1 := by kernel_rfl
      have a2 : v16 (outB fl 2 sz ttl) 17 = 1 := by kernel_rfl
      have a3 : v32 (outB fl 2 sz ttl) 19 = 5 := by kernel_rfl
      have a4 : v16 (outB fl 2 sz ttl) 23 = 4 := by kernel_rfl
      exact ⟨_, 15, 5, h0, a1, a2, a3, by omega, a4, rfl, by rw [hl]; show 29 ≤ _; omega⟩
    · have a1 : v16 (outB fl 2 sz ttl) 31 = 1 := by kernel_rfl
      have a2 : v16 (outB fl 2 sz ttl) 33 = 1 := by kernel_rfl
      have a3 : v32 (outB fl 2 sz ttl) 35 = 5 := by kernel_rfl
      have a4 : v16 (outB fl 2 sz ttl) 39 = 4 := by kernel_rfl
      have m1 : by_ (outB fl 2 sz ttl) 29 = 192 := by kernel_rfl
      have m2 : by_ (outB fl 2 sz ttl) 30 = 12 := by kernel_rfl
      exact ⟨_, 31, 5, wn_ptr (p := 29) (by omega) m1 m2 (by omega) h0, a1, a2, a3, by omega, a4, rfl, by rw [hl]; show 45 ≤ _; omega⟩
  · have hl : (outB fl 3 sz ttl).length = 72 := by kernel_rfl
    have n1 : by_ (outB fl 3 sz ttl) 12 = 1 := by kernel_rfl
    have n2 : by_ (outB fl 3 sz ttl) 14 = 0 := by kernel_rfl
    have h0 := wn_one (b := (outB fl 3 sz ttl)) (p := 12) (by omega) n1 n2
    have s : j = 0 ∨ j = 1 ∨ j = 2 := by omega
    rcases s with rfl | rfl | rfl
    · have a1 : v16 (outB fl 3 sz ttl) 15 = 1 := by kernel_rfl
      have a2 : v16 (outB fl 3 sz ttl) 17 = 1 := by kernel_rfl
      have a3 : v32 (outB fl 3 sz ttl) 19 = 5 := by kernel_rfl
      have a4 : v16 (outB fl 3 sz ttl) 23 = 4 := by kernel_rfl
      exact ⟨_, 15, 5, h0, a1, a2, a3, by omega, a4, rfl, by rw [hl]; show 29 ≤ _; omega⟩
    · have a1 : v16 (outB fl 3 sz ttl) 31 = 1 := by kernel_rfl
      have a2 : v16 (outB fl 3 sz ttl) 33 = 1 := by kernel_rfl
      have a3 : v32 (outB fl 3 sz ttl) 35 = 5 := by kernel_rfl
      have a4 : v16 (outB fl 3 sz ttl) 39 = 4 := by kernel_rfl
      have m1 : by_ (outB fl 3 sz ttl) 29 = 192 := by kernel_rfl
      have m2 : by_ (outB fl 3 sz ttl) 30 = 12 := by kernel_rfl
      exact ⟨_, 31, 5, wn_ptr (p := 29) (by omega) m1 m2 (by omega) h0, a1, a2, a3, by omega, a4, rfl, by rw [hl]; show 45 ≤ _; omega⟩
    · have a1 : v16 (outB fl 3 sz ttl) 47 = 1 := by kernel_rfl
      have a2 : v16 (outB fl 3 sz ttl) 49 = 1 := by kernel_rfl
      have a3 : v32 (outB fl 3 sz ttl) 51 = 5 := by kernel_rfl
      have a4 : v16 (outB fl 3 sz ttl) 55 = 4 := by kernel_rfl
      have m1 : by_ (outB fl 3 sz ttl) 45 = 192 := by kernel_rfl
      have m2 : by_ (outB fl 3 sz ttl) 46 = 12 := by kernel_rfl
      exact ⟨_, 47, 5, wn_ptr (p := 45) (by omega) m1 m2 (by omega) h0, a1, a2, a3, by omega, a4, rfl, by rw [hl]; show 61 ≤ _; omega⟩
end M
end Go.Proofs.YtpgebiopckmgbabGreat
