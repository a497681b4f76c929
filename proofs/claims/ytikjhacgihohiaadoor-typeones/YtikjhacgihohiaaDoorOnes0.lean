/- A bitmap of one number. -/
import Derived.Test.YtikjhacgihohiaaDoorKnown
import Derived.Test.YtikjhacgihohiaaDoorRefB
namespace Go.Proofs.YtikjhacgihohiaaDoor
open Go.RowKit
namespace T
def oneB (H P r : Nat) : List UInt8 := UInt8.ofNat H :: UInt8.ofNat (P + 1) :: (List.replicate P 0 ++ [UInt8.ofNat (2 ^ (7 - r))])
theorem oneB_len (H P r : Nat) : (oneB H P r).length = P + 3 := by simp [oneB]
theorem row_one (p : Nat) : row (p / 8 + 1) [p] = List.replicate (p / 8) 0 ++ [UInt8.ofNat (2 ^ (7 - p % 8))] := by
  unfold row
  rw [List.foldl_cons, List.foldl_nil]
  unfold setb
  rw [show (List.replicate (p / 8 + 1) (0 : UInt8)).getD (p / 8) 0 = 0 by simp]
  rw [List.replicate_succ', List.set_append_right _ _ (by simp)]
  simp
theorem bmp_one (t : UInt16) : bmp [t] = oneB (hi t) (lo t / 8) (lo t % 8) := by
  rw [bmp_cons]
  simp only [List.takeWhile_nil, List.dropWhile_nil, bmp_nil, List.append_nil, List.map_cons, List.map_nil]
  unfold win oneB
  rw [show size [lo t] = lo t / 8 + 1 from rfl, row_one]
theorem clean_one (t : UInt16) : IsClean [t] [t] := ⟨List.pairwise_singleton _ _, fun _ => Iff.rfl⟩
theorem opn_more (H P r : Nat) (hP : P < 32) (x : UInt8) : opn 0 (oneB H P r ++ [x]) = none := by
  unfold oneB
  rw [List.cons_append, List.cons_append, opn_two]
  split
  · rfl
  · rw [show (UInt8.ofNat (P + 1)).toNat = P + 1 from nat8 _ (by omega), List.drop_append_of_le_length (by simp), List.drop_of_length_le (by simp), List.nil_append, opn_one]
    rfl
theorem opn_less (H P r : Nat) (hP : P < 32) : opn 0 ((oneB H P r).take (P + 2)) = none := by
  unfold oneB
  rw [show P + 2 = P + 1 + 1 from rfl, List.take_succ_cons, List.take_succ_cons, opn_two, if_pos]
  refine Or.inr (Or.inr (Or.inr (Or.inl ?_)))
  rw [show (UInt8.ofNat (P + 1)).toNat = P + 1 from nat8 _ (by omega)]
  simp
theorem opn_one_back (t : UInt16) : opn 0 (oneB (hi t) (lo t / 8) (lo t % 8)) = some [t] := by
  rw [← bmp_one]
  exact opn_bmp 1 [t] 0 (Nat.le_refl _) (clean_one t).1 (fun _ _ => Nat.zero_le _)
theorem oneB_0 (H P r : Nat) : (oneB H P r).getD 0 0 = UInt8.ofNat H := rfl
theorem oneB_1 (H P r : Nat) : (oneB H P r).getD 1 0 = UInt8.ofNat (P + 1) := rfl
theorem oneB_2 (H P r : Nat) : (oneB H P r).getD (P + 2) 0 = UInt8.ofNat (2 ^ (7 - r)) := by simp [oneB, List.getD_eq_getElem?_getD]
end T
end Go.Proofs.YtikjhacgihohiaaDoor
