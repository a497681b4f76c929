/- The law DiskSure, plain: the disk behind each of its steps. -/
import Derived.Test.YtmjdlejomohbdaaKnw
namespace Go.Proofs.Ytmjdlejomohbdaa
open Go.RowKit
namespace K
def wr (f : Nat → UInt8) (i : Nat) : Nat → Option (List UInt8) := fun j => if j < i then some (lz (f j)) else none
def s1 (f : Nat → UInt8) (i : Nat) : St := { St.new 40 64 with un := wr f i }
def s2 (f g : Nat → UInt8) (n i : Nat) : St := { St.new 40 64 with su := wr f n, un := wr g i }
set_option maxRecDepth 5000 in
theorem s1_zero (f : Nat → UInt8) : s1 f 0 = St.new 40 64 := by
  unfold s1 St.new wr; simp
set_option maxRecDepth 5000 in
theorem wr_succ (f : Nat → UInt8) (i : Nat) : upd (wr f i) i (lz (f i)) = wr f (i + 1) := by
  funext j
  unfold upd wr
  by_cases e : j = i
  · subst e; simp
  · rw [if_neg e]
    by_cases h : j < i
    · rw [if_pos h, if_pos (by omega)]
    · rw [if_neg h, if_neg (by omega)]
set_option maxRecDepth 5000 in
theorem s1_put (f : Nat → UInt8) (i : Nat) : (s1 f i).put i (lz (f i)) = s1 f (i + 1) := by
  show ({ s1 f i with un := upd (wr f i) i (lz (f i)) } : St) = _
  rw [wr_succ]; rfl
set_option maxRecDepth 5000 in
theorem s1_sync (f g : Nat → UInt8) (n : Nat) : (s1 f n).synced = s2 f g n 0 := by
  show ({ St.new 40 64 with su := fun i => (wr f n i).orElse fun _ => none, un := fun _ => none } : St) = _
  unfold s2
  have h1 : (fun i => (wr f n i).orElse fun _ => none) = wr f n := by funext i; cases wr f n i <;> rfl
  have h2 : wr g 0 = fun _ => none := by funext i; simp [wr]
  rw [h1, h2]
set_option maxRecDepth 5000 in
theorem s2_put (f g : Nat → UInt8) (n i : Nat) : (s2 f g n i).put i (lz (g i)) = s2 f g n (i + 1) := by
  show ({ s2 f g n i with un := upd (wr g i) i (lz (g i)) } : St) = _
  rw [wr_succ]; rfl
set_option maxRecDepth 5000 in
theorem s2_cnt (f g : Nat → UInt8) (n m : Nat) : ∀ j, j ≤ m → cnt (fr (s2 f g n m)) j = j
  | 0, _ => rfl
  | j + 1, h => by
    have h1 : fr (s2 f g n m) j = true := by
      show (wr g m j).isSome = true
      unfold wr; rw [if_pos (by omega)]; rfl
    simp only [cnt, s2_cnt f g n m j (by omega), h1, if_true]
/- what is read at last -/
def want (f g : Nat → UInt8) (n m kp i : Nat) : UInt8 := if i < m ∧ kp.testBit i = true then g i else if i < n then f i else 0
set_option maxRecDepth 5000 in
theorem s2_read (f g : Nat → UInt8) (n m kp i : Nat) (hi : i < 40) : ((s2 f g n m).crashed kp).rd i = lz (want f g n m kp i) := by
  show (if fr (s2 f g n m) i && bit kp (cnt (fr (s2 f g n m)) i) then wr g m i else wr f n i).getD (List.replicate 64 0) = _
  unfold want
  by_cases hm : i < m
  · have h1 : fr (s2 f g n m) i = true := by
      show (wr g m i).isSome = true
      unfold wr; rw [if_pos hm]; rfl
    rw [h1, s2_cnt f g n m i (by omega)]
    unfold bit
    rw [Nat.mod_eq_of_lt (by omega)]
    cases hb : kp.testBit i
    · simp only [Bool.and_false, Bool.false_eq_true, if_false, and_false]
      unfold wr
      by_cases h : i < n
      · rw [if_pos h, if_pos h]; rfl
      · rw [if_neg h, if_neg h]; rfl
    · simp only [Bool.and_self, if_true, and_true, hm]
      unfold wr; rw [if_pos hm]; rfl
  · have h1 : fr (s2 f g n m) i = false := by
      show (wr g m i).isSome = false
      unfold wr; rw [if_neg hm]; rfl
    rw [h1]
    simp only [Bool.false_and, Bool.false_eq_true, if_false, hm, false_and]
    unfold wr
    by_cases h : i < n
    · rw [if_pos h, if_pos h]; rfl
    · rw [if_neg h, if_neg h]; rfl
end K
end Go.Proofs.Ytmjdlejomohbdaa
