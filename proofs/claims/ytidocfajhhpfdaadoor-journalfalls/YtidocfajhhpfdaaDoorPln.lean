/- Disks, plain: what is sure and what is not, the power, the places in their order. -/
import Derived.Test.YtidocfajhhpfdaaDoorChecked
import Derived.Lib.SlKeysI
namespace Go.Proofs.YtidocfajhhpfdaaDoor
open Go.RowKit
namespace K
/- a disk: sz bytes a sector, n sectors; what is sure (none: noughts), what was written since; the power -/
structure St where
  sz : Nat
  n : Nat
  su : Nat → Option (List UInt8)
  un : Nat → Option (List UInt8)
  dead : Bool
  cut : Bool
  left : Nat
def upd (f : Nat → Option (List UInt8)) (i : Nat) (l : List UInt8) : Nat → Option (List UInt8) := fun j => if j = i then some l else f j
def St.new (n sz : Nat) : St := ⟨sz, n, fun _ => none, fun _ => none, false, false, 0⟩
def St.old (s : St) (i : Nat) : List UInt8 := (s.su i).getD (List.replicate s.sz 0)
def St.rd (s : St) (i : Nat) : List UInt8 := (s.un i).getD (s.old i)
/- is there power for one more? -/
def St.can (s : St) : Bool := !(s.cut && s.left == 0)
def St.spent (s : St) : St := if s.can then { s with left := if s.cut then s.left - 1 else s.left } else { s with dead := true }
def St.put (s : St) (i : Nat) (l : List UInt8) : St := { s.spent with un := upd s.un i l }
def St.synced (s : St) : St := { s.spent with su := fun i => (s.un i).orElse fun _ => s.su i, un := fun _ => none }
def St.cutAt (s : St) (k : Nat) : St := { s with cut := true, left := k }
/- how many places below i -/
def cnt (p : Nat → Bool) : Nat → Nat
  | 0 => 0
  | i + 1 => cnt p i + (if p i then 1 else 0)
def ks (p : Nat → Bool) : Nat → List Nat
  | 0 => []
  | i + 1 => ks p i ++ (if p i then [i] else [])
def bit (keep k : Nat) : Bool := keep.testBit (k % 64)
def fr (s : St) : Nat → Bool := fun i => (s.un i).isSome
/- what is sure behind a crash, as far as number k -/
def crAt (s : St) (keep k : Nat) : Nat → Option (List UInt8) := fun i => if fr s i && decide (cnt (fr s) i < k) && bit keep (cnt (fr s) i) then s.un i else s.su i
def St.crashed (s : St) (keep : Nat) : St := { s with su := fun i => if fr s i && bit keep (cnt (fr s) i) then s.un i else s.su i, un := fun _ => none, dead := false, cut := false, left := 0 }
set_option maxRecDepth 5000 in
theorem cnt_le (p : Nat → Bool) : ∀ {i j : Nat}, i ≤ j → cnt p i ≤ cnt p j := by
  intro i j h
  induction h with
  | refl => exact Nat.le_refl _
  | step _ ih => simp only [cnt]; omega
set_option maxRecDepth 5000 in
theorem cnt_lt (p : Nat → Bool) {i j : Nat} (hp : p i = true) (h : i < j) : cnt p i < cnt p j := by
  have h1 : cnt p (i + 1) ≤ cnt p j := cnt_le p h
  simp only [cnt, hp, if_true] at h1
  omega
set_option maxRecDepth 5000 in
theorem ks_len (p : Nat → Bool) : ∀ n, (ks p n).length = cnt p n
  | 0 => rfl
  | n + 1 => by simp only [ks, cnt, List.length_append, ks_len p n]; split <;> rfl
set_option maxRecDepth 5000 in
theorem cnt_self (p : Nat → Bool) : ∀ n, cnt p n ≤ n
  | 0 => Nat.le_refl _
  | n + 1 => by have := cnt_self p n; simp only [cnt]; split <;> omega
set_option maxRecDepth 5000 in
theorem mem_ks (p : Nat → Bool) : ∀ n i, i ∈ ks p n ↔ i < n ∧ p i = true
  | 0, i => by simp [ks]
  | n + 1, i => by
    rw [ks, List.mem_append, mem_ks p n i]
    cases hp : p n
    · simp
      intro h2
      constructor
      · intro h1; omega
      · intro h1
        rcases Nat.lt_or_eq_of_le (Nat.le_of_lt_succ h1) with h | h
        · exact h
        · subst h; rw [hp] at h2; cases h2
    · simp
      constructor
      · rintro (⟨h1, h2⟩ | h)
        · exact ⟨by omega, h2⟩
        · subst h; exact ⟨by omega, hp⟩
      · rintro ⟨h1, h2⟩
        by_cases h : i = n
        · exact Or.inr h
        · exact Or.inl ⟨by omega, h2⟩
set_option maxRecDepth 5000 in
theorem ks_get (p : Nat → Bool) : ∀ n k i, (ks p n)[k]? = some i → i < n ∧ p i = true ∧ cnt p i = k
  | 0, k, i, h => by simp [ks] at h
  | n + 1, k, i, h => by
    rw [ks] at h
    by_cases hk : k < (ks p n).length
    · rw [List.getElem?_append_left hk] at h
      obtain ⟨h1, h2, h3⟩ := ks_get p n k i h
      exact ⟨by omega, h2, h3⟩
    · rw [List.getElem?_append_right (by omega)] at h
      cases hp : p n
      · rw [hp] at h; simp at h
      · rw [hp] at h
        simp only [if_true] at h
        have hk0 : k - (ks p n).length = 0 := by
          by_cases h0 : k - (ks p n).length = 0
          · exact h0
          · obtain ⟨q, hq⟩ := Nat.exists_eq_succ_of_ne_zero h0
            rw [hq] at h; simp at h
        rw [hk0] at h
        simp at h
        subst h
        rw [ks_len] at hk hk0
        exact ⟨by omega, hp, by omega⟩
set_option maxRecDepth 5000 in
theorem ks_asc (p : Nat → Bool) : ∀ n, ((ks p n).map (fun i : Nat => (i : Int))).Pairwise (· < ·)
  | 0 => List.Pairwise.nil
  | n + 1 => by
    rw [ks, List.map_append, List.pairwise_append]
    refine ⟨ks_asc p n, ?_, fun a ha b hb => ?_⟩
    · split <;> simp
    · obtain ⟨i, hi, rfl⟩ := List.mem_map.1 ha
      have := ((mem_ks p n i).1 hi).1
      cases hp : p n
      · rw [hp] at hb; simp at hb
      · rw [hp] at hb; simp at hb; omega
set_option maxRecDepth 5000 in
theorem crAt_zero (s : St) (keep : Nat) : crAt s keep 0 = s.su := by
  funext i; simp [crAt]
set_option maxRecDepth 5000 in
theorem crAt_full (s : St) (keep : Nat) (h : ∀ i, fr s i = true → i < s.n) : { s with su := crAt s keep (cnt (fr s) s.n), un := fun _ => none, dead := false, cut := false, left := 0 } = s.crashed keep := by
  have : crAt s keep (cnt (fr s) s.n) = fun i => if fr s i && bit keep (cnt (fr s) i) then s.un i else s.su i := by
    funext i
    unfold crAt
    cases hf : fr s i
    · simp
    · have := cnt_lt (fr s) hf (h i hf)
      simp [this]
  rw [this]; rfl
set_option maxRecDepth 5000 in
theorem crAt_succ (s : St) (keep k i : Nat) (h1 : fr s i = true) (h2 : cnt (fr s) i = k) : crAt s keep (k + 1) = fun j => if j = i then (if bit keep k then s.un i else s.su i) else crAt s keep k j := by
  funext j
  by_cases e : j = i
  · subst e; simp [crAt, h1, h2]
  · rw [if_neg e]
    unfold crAt
    cases hf : fr s j
    · simp
    · have hne : cnt (fr s) j ≠ k := by
        rcases Nat.lt_or_gt_of_ne e with h | h
        · have := cnt_lt (fr s) hf h; omega
        · have := cnt_lt (fr s) h1 h; omega
      have : decide (cnt (fr s) j < k + 1) = decide (cnt (fr s) j < k) := by
        by_cases h : cnt (fr s) j < k
        · simp [h]; omega
        · simp [h]; omega
      rw [this]
end K
set_option maxRecDepth 5000 in
theorem asc_sorted (l : List Int) (h : l.Pairwise (· < ·)) : l.mergeSort (fun x y => decide (x ≤ y)) = l := by
  refine List.mergeSort_of_pairwise (h.imp fun {a b} hab => ?_)
  simp; omega
end Go.Proofs.YtidocfajhhpfdaaDoor
