/- What a journal's disk holds, plain: written behind, written anew. -/
import Derived.Test.YtidocfajhhpfdaaDoorJrm
namespace Go.Proofs.YtidocfajhhpfdaaDoor
open Go.RowKit
set_option maxRecDepth 5000 in
theorem rd_synced {s : K.St} (h : Pw s) (i : Nat) : s.synced.rd i = s.rd i := by
  unfold K.St.synced
  rw [h.spent]
  unfold K.St.rd K.St.old
  cases h1 : s.un i <;> simp [h1]
set_option maxRecDepth 5000 in
theorem rd_put {s : K.St} (h : Pw s) (i j : Nat) (l : List UInt8) : (s.put i l).rd j = if j = i then l else s.rd j := by
  unfold K.St.put
  rw [h.spent]
  unfold K.St.rd K.St.old K.upd
  by_cases e : j = i <;> simp [e]
set_option maxRecDepth 5000 in
theorem rd_puts (f : Nat → List UInt8) {s : K.St} (h : Pw s) (p i : Nat) : ∀ k, (J.puts s p f (List.range k)).rd i = if p ≤ i ∧ i < p + k then f (i - p) else s.rd i
  | 0 => by rw [if_neg (by omega)]; rfl
  | k + 1 => by
    rw [List.range_succ, J.puts_snoc, rd_put (puts_keep f _ h p).1, List.length_range, rd_puts f h p i k]
    by_cases e : i = p + k
    · rw [if_pos e, if_pos (by omega)]; congr 1; omega
    · rw [if_neg e]
      by_cases e2 : p ≤ i ∧ i < p + k
      · rw [if_pos e2, if_pos (by omega)]
      · rw [if_neg e2, if_neg (by omega)]
set_option maxRecDepth 5000 in
theorem cat_get (s : K.St) (P : Nat) (hz : 0 < s.sz) (j : Nat) : ∀ m, (∀ i, i < m → (s.rd (P + i)).length = s.sz) → j < m * s.sz → (J.cat s P m)[j]? = (s.rd (P + j / s.sz))[j % s.sz]?
  | 0, _, hj => by omega
  | m + 1, hl, hj => by
    have hc := J.cat_len s P m (fun i hi => hl i (by omega))
    rw [J.cat_succ]
    by_cases h : j < m * s.sz
    · rw [List.getElem?_append_left (by omega)]
      exact cat_get s P hz j m (fun i hi => hl i (by omega)) h
    · rw [List.getElem?_append_right (by omega), hc]
      rw [Nat.succ_mul] at hj
      have e1 : j / s.sz = m := by
        rw [Nat.div_eq_iff hz]; omega
      have e2 : j % s.sz = j - m * s.sz := by
        have := Nat.div_add_mod' j s.sz
        rw [e1] at this; omega
      rw [e1, e2]
set_option maxRecDepth 5000 in
theorem pad_get (Z : Nat) (B : List UInt8) (x t : Nat) (ht : t < Z) (hx : x * Z + t < B.length) : (J.pad Z ((B.drop (x * Z)).take Z))[t]? = B[x * Z + t]? := by
  unfold J.pad
  rw [List.getElem?_append_left (by rw [List.length_take, List.length_drop]; omega), List.getElem?_take_of_lt ht, List.getElem?_drop]
set_option maxRecDepth 5000 in
theorem pad_len2 (Z : Nat) (B : List UInt8) (x : Nat) : (J.pad Z ((B.drop (x * Z)).take Z)).length = Z := J.pad_len Z _ (by rw [List.length_take]; omega)
set_option maxRecDepth 5000 in
theorem laid_rd {s : K.St} (h : Pw s) (P u : Nat) (b : List UInt8) (k i : Nat) : (J.laid s P u b k).rd i = if P + u / s.sz ≤ i ∧ i < P + u / s.sz + k then J.pad s.sz (((J.bef s P u b).drop ((i - (P + u / s.sz)) * s.sz)).take s.sz) else s.rd i := rd_puts _ h _ i k
/- what an area holds behind a writing -/
set_option maxRecDepth 5000 in
theorem cat_laid {s : K.St} (h : Pw s) (hz : 0 < s.sz) (P m u : Nat) (b : List UInt8) (k : Nat) (hl : ∀ i, i < m → (s.rd (P + i)).length = s.sz) (hroom : u + b.length ≤ m * s.sz) (hk : (J.bef s P u b).length ≤ k * s.sz) :
    (J.cat (J.laid s P u b k) P m).take (u + b.length) = (J.cat s P m).take u ++ b := by
  obtain ⟨_, hsz, _⟩ := laid_keep P u b k h
  have hl2 : ∀ i, i < m → ((J.laid s P u b k).rd (P + i)).length = (J.laid s P u b k).sz := fun i hi => by
    rw [hsz, laid_rd h]
    split
    · exact pad_len2 _ _ _
    · exact hl i hi
  have hc := J.cat_len s P m hl
  have hc2 := J.cat_len _ P m hl2
  rw [hsz] at hc2
  have hdm := Nat.div_add_mod' u s.sz
  have hml := Nat.mod_lt u hz
  have hbl : u = 0 ∨ u / s.sz < m ∨ u % s.sz = 0 := by
    by_cases h1 : u / s.sz < m
    · exact Or.inr (Or.inl h1)
    · have : m * s.sz ≤ u / s.sz * s.sz := Nat.mul_le_mul_right _ (by omega)
      exact Or.inr (Or.inr (by omega))
  have hbef : (J.bef s P u b).length = u % s.sz + b.length := by
    unfold J.bef
    rw [List.length_append, List.length_take]
    rcases hbl with h0 | h0 | h0
    · subst h0; simp
    · rw [hl _ h0]; omega
    · rw [h0]; omega
  apply List.ext_getElem?
  intro j
  by_cases hj : j < u + b.length
  · rw [List.getElem?_take_of_lt hj, cat_get _ P (by rw [hsz]; exact hz) j m hl2 (by rw [hsz]; omega), hsz, laid_rd h]
    have hjm := Nat.div_add_mod' j s.sz
    have hjl := Nat.mod_lt j hz
    by_cases hju : j / s.sz < u / s.sz
    · rw [if_neg (by omega)]
      have : j < u := by
        have : (j / s.sz + 1) * s.sz ≤ u / s.sz * s.sz := Nat.mul_le_mul_right _ hju
        rw [Nat.succ_mul] at this; omega
      rw [List.getElem?_append_left (by rw [List.length_take]; omega), List.getElem?_take_of_lt this, cat_get s P hz j m hl (by omega)]
    · obtain ⟨x, hx⟩ : ∃ x, j / s.sz = u / s.sz + x := ⟨j / s.sz - u / s.sz, by omega⟩
      have hxs : j = u / s.sz * s.sz + x * s.sz + j % s.sz := by rw [← Nat.add_mul, ← hx]; omega
      have hxk : x < k := by
        have : x * s.sz < k * s.sz := by omega
        exact Nat.lt_of_mul_lt_mul_right this
      rw [if_pos (by omega), show P + j / s.sz - (P + u / s.sz) = x by omega, pad_get _ _ _ _ hjl (by omega)]
      unfold J.bef
      by_cases hlt : j < u
      · have hx0 : x = 0 := by
          cases x with
          | zero => rfl
          | succ y => rw [Nat.succ_mul] at hxs; omega
        subst hx0
        rw [Nat.zero_mul, Nat.zero_add]
        have hum : u / s.sz < m := by
          rcases hbl with h0 | h0 | h0
          · omega
          · exact h0
          · omega
        rw [List.getElem?_append_left (by rw [List.length_take, hl _ hum]; omega), List.getElem?_take_of_lt (by omega), List.getElem?_append_left (by rw [List.length_take]; omega), List.getElem?_take_of_lt hlt, cat_get s P hz j m hl (by omega), hx, Nat.add_zero]
      · have htk : ((s.rd (P + u / s.sz)).take (u % s.sz)).length = u % s.sz := by
          unfold J.bef at hbef
          rw [List.length_append] at hbef; omega
        rw [List.getElem?_append_right (by omega), htk, List.getElem?_append_right (by rw [List.length_take]; omega), List.length_take, hc]
        congr 1; omega
  · rw [List.getElem?_eq_none (by rw [List.length_take]; omega), List.getElem?_eq_none (by rw [List.length_append, List.length_take]; omega)]
end Go.Proofs.YtidocfajhhpfdaaDoor
