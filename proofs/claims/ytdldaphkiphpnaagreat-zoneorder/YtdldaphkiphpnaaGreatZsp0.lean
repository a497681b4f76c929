/- The seat's names, types, data, plain, first part. -/
import Derived.Test.YtdldaphkiphpnaaGreatDat
import Derived.Test.YtdldaphkiphpnaaGreatNmC
namespace Go.Proofs.YtdldaphkiphpnaaGreat
open Go.RowKit
namespace Z
def exA : List (List UInt8) := [[101, 120, 97, 109, 112, 108, 101]]
def owns : List (List (List UInt8)) := [[], [[97]], [[98]], [[99], [98]], [[42], [119]], [[120], [119]], [[101], [102], [103]], [[115, 117, 98]], [[110, 115], [115, 117, 98]], [[65]], [[100, 101, 101, 112], [120], [119]], [[122]], [[42]]]
def owner (k : Nat) : List (List UInt8) := owns.getD (k % 13) [] ++ exA
def farN : List (List UInt8) := [[102, 97, 114], [110, 101, 116]]
def underK (k : Nat) : List (List UInt8) := if k % 7 = 6 then farN else owner k
def kinds : List Nat := [1, 1, 28, 15, 16, 2, 5, 43, 6, 99]
def typeK (k : Nat) : Nat := kinds.getD (k % 10) 0
def soaK (k : Nat) : D.Soa := ⟨owner 1, owner 2, k * 16777216 % 4294967296, 1, 2, 3, 10 + k % 4 * 20⟩
def dataK (t k : Nat) : List UInt8 :=
  if t = 1 then [10, 0, 0, UInt8.ofNat (k % 4)]
  else if t = 28 then List.replicate 15 0 ++ [UInt8.ofNat (k % 3)]
  else if t = 15 then [0, UInt8.ofNat (k % 3)] ++ N.wire (underK k)
  else if t = 16 then [2, 104, UInt8.ofNat (97 + k % 4)]
  else if t = 2 then N.wire ([owner 8, owner 1, farN].getD (k % 3) [])
  else if t = 5 then N.wire (underK k)
  else if t = 43 then [0, UInt8.ofNat (k % 3), 253, 2, 1, 2, 3]
  else if t = 6 then D.soaB (soaK k)
  else [UInt8.ofNat k]
def ttlK (k : Nat) : Nat := [30, 30, 60, 5].getD (k / 16777216 % 4) 0
set_option maxRecDepth 5000 in
theorem owner_at (k : Nat) : ∃ j, j < 13 ∧ owner k = owns.getD j [] ++ exA := ⟨k % 13, Nat.mod_lt _ (by decide), rfl⟩
set_option maxRecDepth 5000 in
theorem owner_good (k : Nat) : N.chk (owner k) = 0 ∧ N.within (owner k) exA = true ∧ (owner k).length ≤ 4 ∧ N.size (owner k) ≤ 100 ∧ [] ∉ owner k := by
  have h : ∀ j, j < 13 → N.chk (owns.getD j [] ++ exA) = 0 ∧ N.within (owns.getD j [] ++ exA) exA = true ∧ (owns.getD j [] ++ exA).length ≤ 4 ∧ N.size (owns.getD j [] ++ exA) ≤ 100 ∧ [] ∉ owns.getD j [] ++ exA := by decide +kernel
  obtain ⟨j, hj, e⟩ := owner_at k
  rw [e]; exact h j hj
set_option maxRecDepth 5000 in
theorem owner_small (k : Nat) : N.Small (owner k) := by
  have h : ∀ j, j < 13 → N.Small (owns.getD j [] ++ exA) := by
    have h2 : ∀ j, j < 13 → (owns.getD j [] ++ exA).length ≤ 1000000 ∧ ∀ l ∈ owns.getD j [] ++ exA, l.length ≤ 1000000 := by decide +kernel
    exact h2
  obtain ⟨j, hj, e⟩ := owner_at k
  rw [e]; exact h j hj
set_option maxRecDepth 5000 in
theorem underK_or (k : Nat) : Z.underK k = farN ∨ Z.underK k = owner k := by
  unfold underK; split
  · exact Or.inl rfl
  · exact Or.inr rfl
set_option maxRecDepth 5000 in
theorem far_small : N.Small farN := by
  have h2 : farN.length ≤ 1000000 ∧ ∀ l ∈ farN, l.length ≤ 1000000 := by decide
  exact h2
set_option maxRecDepth 5000 in
theorem underK_small (k : Nat) : N.Small (underK k) := by
  rcases underK_or k with h | h
  · rw [h]; exact far_small
  · rw [h]; exact owner_small k
set_option maxRecDepth 5000 in
theorem owner_wire (k : Nat) : (N.wire (owner k)).length ≤ 100 := by
  have h : ∀ j, j < 13 → (N.wire (owns.getD j [] ++ exA)).length ≤ 100 := by decide +kernel
  obtain ⟨j, hj, e⟩ := owner_at k
  rw [e]; exact h j hj
set_option maxRecDepth 5000 in
theorem underK_wire (k : Nat) : (N.wire (underK k)).length ≤ 100 := by
  rcases underK_or k with h | h
  · rw [h]; decide +kernel
  · rw [h]; exact owner_wire k
set_option maxRecDepth 5000 in
theorem soaK_ok (k : Nat) : N.size (soaK k).main ≤ 1000 ∧ N.size (soaK k).box ≤ 1000 ∧ (soaK k).a < 4294967296 ∧ (soaK k).e < 4294967296 := by
  refine ⟨Nat.le_trans (owner_good 1).2.2.2.1 (by decide), Nat.le_trans (owner_good 2).2.2.2.1 (by decide), Nat.mod_lt _ (by decide), ?_⟩
  show 10 + k % 4 * 20 < _
  omega
set_option maxRecDepth 5000 in
theorem typeK_lt (k : Nat) : typeK k < 65536 := by
  have h : ∀ j, j < 10 → kinds.getD j 0 < 65536 := by decide
  exact h _ (Nat.mod_lt _ (by decide))
end Z
end Go.Proofs.YtdldaphkiphpnaaGreat
