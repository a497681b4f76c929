/- Types' texts: the table, decimal numbers: plain, of no program. -/
import Derived.Test.YtikjhacgihohiaaDoorSpec
import Derived.Lib.ItoaNum
import Derived.Lib.ParseIntB
import Derived.Lib.Strings
namespace Go.Proofs.YtikjhacgihohiaaDoor
namespace T
open Go.Lib
def tab : List (Nat × List UInt8) := [(1, [65]), (2, [78, 83]), (5, [67, 78, 65, 77, 69]), (6, [83, 79, 65]), (15, [77, 88]), (16, [84, 88, 84]), (28, [65, 65, 65, 65]), (41, [79, 80, 84]), (43, [68, 83]), (46, [82, 82, 83, 73, 71]), (48, [68, 78, 83, 75, 69, 89]), (50, [78, 83, 69, 67, 51]), (51, [78, 83, 69, 67, 51, 80, 65, 82, 65, 77]), (255, [65, 78, 89])]
def typeW : List UInt8 := [84, 89, 80, 69]
def textOf (t : Nat) : List UInt8 := match tab.find? (fun p => p.1 == t) with
  | some p => p.2
  | none => typeW ++ decDigits t
/- the number that a text behind TYPE tells -/
def num (d : List UInt8) : Option Nat := match parseUintB 16 d with
  | .ok n => if decDigits n = d then some n else none
  | _ => none
def parseOf (s : List UInt8) : Option Nat := match tab.find? (fun p => p.2 == s) with
  | some p => some p.1
  | none => if hasPrefix s typeW then num (s.drop 4) else none
/- decimal numbers -/
def dig (c : UInt8) : Prop := 48 ≤ c.toNat ∧ c.toNat ≤ 57
def val (acc : Nat) (d : List UInt8) : Nat := d.foldl (fun a c => a * 10 + (c.toNat - 48)) acc
theorem val_nil (acc : Nat) : val acc [] = acc := by unfold val; exact List.foldl_nil
theorem val_cons (acc : Nat) (c : UInt8) (r : List UInt8) : val acc (c :: r) = val (acc * 10 + (c.toNat - 48)) r := by unfold val; exact List.foldl_cons
theorem val_app (a : List UInt8) (acc : Nat) (b : List UInt8) : val acc (a ++ b) = val (val acc a) b := by unfold val; rw [List.foldl_append]
theorem val_mono (d : List UInt8) : ∀ acc, acc ≤ val acc d := by
  induction d with
  | nil => intro acc; exact Nat.le_refl _
  | cons c d ih => intro acc; rw [val_cons]; have := ih (acc * 10 + (c.toNat - 48)); omega
theorem parse_of_val (d : List UInt8) : ∀ acc, (∀ c ∈ d, dig c) → val acc d ≤ 65535 → parseUintM 65535 acc d = .ok (val acc d) := by
  induction d with
  | nil => intro acc _ _; rfl
  | cons c d ih =>
    intro acc hd hv
    have hc := hd c (by simp)
    rw [val_cons] at hv
    have hm := val_mono d (acc * 10 + (c.toNat - 48))
    rw [parseUintM, if_pos (by exact hc), if_neg (by omega), if_neg (by omega), ih _ (fun x hx => hd x (List.mem_cons_of_mem _ hx)) hv, val_cons]
theorem dec_small (u : Nat) (h : u < 10) : decDigits u = [UInt8.ofNat (48 + u)] := by rw [decDigits]; simp [h]
theorem dec_big (u : Nat) (h : ¬ u < 10) : decDigits u = decDigits (u / 10) ++ [UInt8.ofNat (48 + u % 10)] := by rw [decDigits]; simp [h]
theorem dec_facts (k : Nat) : ∀ n, n < k → (∀ c ∈ decDigits n, dig c) ∧ val 0 (decDigits n) = n ∧ decDigits n ≠ [] ∧ (1 < (decDigits n).length → (decDigits n).head? ≠ some 48) ∧ (0 < n → (decDigits n).head? ≠ some 48) := by
  induction k with
  | zero => intro n h; omega
  | succ k ih =>
    intro n hn
    by_cases h : n < 10
    · rw [dec_small n h]
      have e : (UInt8.ofNat (48 + n)).toNat = 48 + n := nat8 _ (by omega)
      refine ⟨fun c hc => ?_, ?_, by simp, by simp, fun h0 hh => ?_⟩
      · obtain rfl : c = UInt8.ofNat (48 + n) := by simpa using hc
        unfold dig; rw [e]; omega
      · rw [val_cons, val_nil, e]; omega
      · have : UInt8.ofNat (48 + n) = 48 := by simpa using hh
        have := congrArg UInt8.toNat this
        rw [e] at this
        have e48 : (48 : UInt8).toNat = 48 := rfl
        omega
    · obtain ⟨i1, i2, i3, i4, i5⟩ := ih (n / 10) (by omega)
      rw [dec_big n h]
      have e : (UInt8.ofNat (48 + n % 10)).toNat = 48 + n % 10 := nat8 _ (by omega)
      have hh : (decDigits (n / 10) ++ [UInt8.ofNat (48 + n % 10)]).head? = (decDigits (n / 10)).head? := by
        cases hq : decDigits (n / 10) with
        | nil => exact absurd hq i3
        | cons x r => rfl
      refine ⟨fun c hc => ?_, ?_, by simp, fun _ => ?_, fun _ => ?_⟩
      · rcases List.mem_append.1 hc with hc | hc
        · exact i1 c hc
        · obtain rfl : c = UInt8.ofNat (48 + n % 10) := by simpa using hc
          unfold dig; rw [e]; omega
      · rw [val_app, i2, val_cons, val_nil, e]; omega
      · rw [hh]; exact i5 (by omega)
      · rw [hh]; exact i5 (by omega)
/- digits without a nought ahead are just a number's -/
theorem dec_of_val (k : Nat) : ∀ d : List UInt8, d.length ≤ k → (∀ c ∈ d, dig c) → d ≠ [] → (1 < d.length → d.head? ≠ some 48) → decDigits (val 0 d) = d ∧ (d.head? ≠ some 48 → 0 < val 0 d) := by
  induction k with
  | zero => intro d hl _ hne; exact absurd (List.eq_nil_of_length_eq_zero (by omega)) hne
  | succ k ih =>
    intro d hl hd hne hh
    rcases List.eq_nil_or_concat d with rfl | ⟨e, c, rfl⟩
    · exact absurd rfl hne
    · have hc : dig c := hd c (by simp)
      have hcn : c = UInt8.ofNat (48 + (c.toNat - 48)) := UInt8.toNat_inj.1 (by rw [nat8 _ (by have := hc.2; omega)]; have := hc.1; omega)
      have hc1 := hc.1
      have hc2 := hc.2
      rw [List.concat_eq_append] at *
      rw [val_app, val_cons, val_nil]
      by_cases he : e = []
      · subst he
        have ev : val 0 [] * 10 + (c.toNat - 48) = c.toNat - 48 := by rw [val_nil]; omega
        rw [ev, dec_small _ (by omega), ← hcn]
        refine ⟨rfl, fun h48 => ?_⟩
        have : c ≠ 48 := by simpa using h48
        have : c.toNat ≠ (48 : UInt8).toNat := fun h => this (UInt8.toNat_inj.1 h)
        have e48 : (48 : UInt8).toNat = 48 := rfl
        omega
      · have hel : 0 < e.length := List.length_pos_iff.2 he
        have hhd : (e ++ [c]).head? = e.head? := by
          cases e with
          | nil => exact absurd rfl he
          | cons x r => rfl
        have hh2 := hh (by simp; omega)
        rw [hhd] at hh2
        obtain ⟨i1, i2⟩ := ih e (by simp at hl; omega) (fun x hx => hd x (List.mem_append_left _ hx)) he (fun _ => hh2)
        have hpos := i2 hh2
        rw [dec_big _ (by omega), show (val 0 e * 10 + (c.toNat - 48)) / 10 = val 0 e by omega, show (val 0 e * 10 + (c.toNat - 48)) % 10 = c.toNat - 48 by omega, i1, ← hcn]
        exact ⟨rfl, fun _ => by omega⟩
theorem parse_ok_le (d : List UInt8) : ∀ acc n, acc ≤ 65535 → parseUintM 65535 acc d = .ok n → n ≤ 65535 := by
  induction d with
  | nil => intro acc n ha h; rw [parseUintM] at h; cases h; exact ha
  | cons c d ih =>
    intro acc n ha h
    rw [parseUintM] at h
    split at h
    · split at h
      · cases h
      · split at h
        · cases h
        · exact ih _ _ (by omega) h
    · cases h
theorem num_iff (d : List UInt8) (n : Nat) : num d = some n ↔ n < 65536 ∧ d = decDigits n := by
  constructor
  · intro h
    unfold num parseUintB at h
    split at h
    · rename_i m hm
      split at h
      · rename_i hd
        cases h
        split at hm
        · cases hm
        · exact ⟨by have := parse_ok_le d 0 n (by omega) hm; omega, hd.symm⟩
      · cases h
    · cases h
  · rintro ⟨hn, rfl⟩
    obtain ⟨f1, f2, f3, _⟩ := dec_facts (n + 1) n (by omega)
    unfold num parseUintB
    rw [if_neg f3, show 2 ^ 16 - 1 = 65535 from rfl, parse_of_val _ 0 f1 (by omega), f2]
    simp
theorem dec_len (n : Nat) (h : n < 65536) : (decDigits n).length ≤ 5 := by
  have one : ∀ m, m < 10 → (decDigits m).length = 1 := fun m hm => by rw [dec_small m hm]; rfl
  have step : ∀ m k, ¬ m < 10 → (decDigits (m / 10)).length ≤ k → (decDigits m).length ≤ k + 1 := fun m k hm hk => by rw [dec_big m hm]; simp; exact hk
  have up : ∀ m k, (decDigits (m / 10)).length ≤ k → 1 ≤ k + 1 → (decDigits m).length ≤ k + 1 := fun m k hk _ => by
    by_cases hm : m < 10
    · rw [one m hm]; omega
    · exact step m k hm hk
  refine up n 4 (up _ 3 (up _ 2 (up _ 1 (Nat.le_of_eq (one _ (by omega))) (by omega)) (by omega)) (by omega)) (by omega)
theorem num_none (d : List UInt8) (h : ∀ n, n < 65536 → d ≠ decDigits n) : num d = none := by
  cases hn : num d with
  | none => rfl
  | some n => obtain ⟨a, b⟩ := (num_iff d n).1 hn; exact absurd b (h n a)
end T
end Go.Proofs.YtikjhacgihohiaaDoor
