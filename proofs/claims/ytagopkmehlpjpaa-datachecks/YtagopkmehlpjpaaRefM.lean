/- A chain's parts by their places, plain. -/
import Derived.Test.YtagopkmehlpjpaaRefL
namespace Go.Proofs.Ytagopkmehlpjpaa
open Go.RowKit
set_option maxRecDepth 5000 in
theorem nil_grown0 {w w' : World} (h : w.grownBy w' (Value.slice none 0 0).ownBlock) : Below w.heap.size w w' := ⟨h.os, h.tape, h.output, h.size, fun k hk => h.block k hk (by simp [Value.ownBlock])⟩
namespace D
set_option maxRecDepth 5000 in
theorem cnt_take {l : List UInt8} (h : 1 ≤ l.length) : cnt l = by_ (l.getD 0 0).toNat (l.drop 1) := by
  unfold cnt
  rw [n8_take h]; rfl
set_option maxRecDepth 5000 in
theorem getD_drop (l : List UInt8) (i j : Nat) : (l.drop i).getD j 0 = l.getD (i + j) 0 := by
  simp [List.getD_eq_getElem?_getD, List.getElem?_drop]
/- what a chain's reading comes to -/
set_option maxRecDepth 5000 in
theorem chain_eq {l : List UInt8} (h : 5 ≤ l.length) :
    chain l = (by_ (l.getD 4 0).toNat (l.drop 5)).bind fun s => (cnt s.2).bind fun n => if n.1.length = 0 then none else (T.opn 0 n.2).map fun t => ((⟨(l.getD 0 0).toNat, (l.getD 1 0).toNat, gv ((l.drop 2).take 2), s.1, n.1, t⟩ : Chain), ([] : List UInt8)) := by
  unfold chain
  rw [n8_take (by omega)]; simp only [Option.bind_some]
  rw [n8_take (by rw [List.length_drop]; omega)]; simp only [Option.bind_some, List.drop_drop]
  rw [n16_take (by rw [List.length_drop]; omega)]; simp only [Option.bind_some, List.drop_drop]
  rw [cnt_take (by rw [List.length_drop]; omega), List.drop_drop, getD_drop, getD_drop]
set_option maxRecDepth 5000 in
theorem chain_no1 {l : List UInt8} (h : l.length < 5) : full l (chain l) = none := by
  refine full_none ?_
  match l with
  | [] => rfl
  | [x] => rfl
  | [x, y] => rfl
  | [x, y, z] => rfl
  | [x, y, z, u] => rfl
  | x :: y :: z :: u :: v :: r => simp at h; omega
set_option maxRecDepth 5000 in
theorem chain_no2 {l : List UInt8} (h : 5 ≤ l.length) (h2 : l.length < 5 + (l.getD 4 0).toNat + 1) : full l (chain l) = none := by
  refine full_none ?_
  rw [chain_eq h]
  unfold by_
  split
  · rfl
  · rename_i h3
    rw [List.length_drop] at h3
    simp only [Option.bind_some, List.drop_drop]
    have : l.drop (5 + (l.getD 4 0).toNat) = [] := List.drop_eq_nil_of_le (by omega)
    rw [this]; rfl
set_option maxRecDepth 5000 in
theorem chain_next {l : List UInt8} {i : Nat} (h : 5 ≤ l.length) (hi : 5 + (l.getD 4 0).toNat = i) (h2 : i + 1 ≤ l.length) :
    chain l = (by_ (l.getD i 0).toNat (l.drop (i + 1))).bind fun n => if n.1.length = 0 then none else (T.opn 0 n.2).map fun t => ((⟨(l.getD 0 0).toNat, (l.getD 1 0).toNat, gv ((l.drop 2).take 2), (l.drop 5).take (l.getD 4 0).toNat, n.1, t⟩ : Chain), ([] : List UInt8)) := by
  rw [chain_eq h]
  have e : by_ (l.getD 4 0).toNat (l.drop 5) = some ((l.drop 5).take (l.getD 4 0).toNat, l.drop i) := by
    unfold by_
    rw [if_neg (by rw [List.length_drop]; omega), List.drop_drop, hi]
  rw [e]
  simp only [Option.bind_some]
  rw [cnt_take (by rw [List.length_drop]; omega), List.drop_drop, getD_drop, Nat.add_zero]
set_option maxRecDepth 5000 in
theorem chain_no3 {l : List UInt8} {i : Nat} (h : 5 ≤ l.length) (hi : 5 + (l.getD 4 0).toNat = i) (h2 : i + 1 ≤ l.length) (h3 : (l.getD i 0).toNat = 0 ∨ l.length < i + 1 + (l.getD i 0).toNat) : full l (chain l) = none := by
  refine full_none ?_
  rw [chain_next h hi h2]
  unfold by_
  split
  · rfl
  · rename_i h4
    rw [List.length_drop] at h4
    simp only [Option.bind_some]
    rw [if_pos]
    rw [List.length_take]; omega
set_option maxRecDepth 5000 in
theorem chain_last {l : List UInt8} {i k : Nat} (h : 5 ≤ l.length) (hi : 5 + (l.getD 4 0).toNat = i) (h2 : i + 1 ≤ l.length) (h0 : (l.getD i 0).toNat ≠ 0) (hk : i + 1 + (l.getD i 0).toNat = k) (h3 : k ≤ l.length) :
    chain l = (T.opn 0 (l.drop k)).map fun t => ((⟨(l.getD 0 0).toNat, (l.getD 1 0).toNat, gv ((l.drop 2).take 2), (l.drop 5).take (l.getD 4 0).toNat, (l.drop (i + 1)).take (l.getD i 0).toNat, t⟩ : Chain), ([] : List UInt8)) := by
  rw [chain_next h hi h2]
  unfold by_
  rw [if_neg (by rw [List.length_drop]; omega)]
  simp only [Option.bind_some, List.drop_drop]
  rw [if_neg (by rw [List.length_take, List.length_drop]; omega), hk]
set_option maxRecDepth 5000 in
theorem chain_no4 {l : List UInt8} {i k : Nat} (h : 5 ≤ l.length) (hi : 5 + (l.getD 4 0).toNat = i) (h2 : i + 1 ≤ l.length) (h0 : (l.getD i 0).toNat ≠ 0) (hk : i + 1 + (l.getD i 0).toNat = k) (h3 : k ≤ l.length) (ho : T.opn 0 (l.drop k) = none) : full l (chain l) = none :=
  full_none (by rw [chain_last h hi h2 h0 hk h3, ho]; rfl)
end D
end Go.Proofs.Ytagopkmehlpjpaa
