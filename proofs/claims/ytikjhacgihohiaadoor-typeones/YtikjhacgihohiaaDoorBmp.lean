/- rtype.Bitmap: its parts. -/
import Derived.Test.YtikjhacgihohiaaDoorClean
import Derived.Deep.RegionWith
namespace Go.Proofs.YtikjhacgihohiaaDoor
open Go.RowKit
namespace T
theorem takeWhile_len (p : UInt16 → Bool) : ∀ (l : List UInt16) (i : Nat), (∀ j, j < i → p (l.getD j 0) = true) → (i = l.length ∨ (i < l.length ∧ p (l.getD i 0) = false)) → (l.takeWhile p).length = i
  | [], i, _, h => by simp at h ⊢; omega
  | x :: l, 0, _, h => by
    have : p x = false := by simpa using h
    simp [this]
  | x :: l, i + 1, h1, h2 => by
    have hx : p x = true := by simpa using h1 0 (by omega)
    rw [List.takeWhile_cons, if_pos hx, List.length_cons, takeWhile_len p l i (fun j hj => by simpa using h1 (j + 1) (by omega)) (by simpa using h2)]
theorem same_hi (t x : UInt16) : same t x = decide (x.toNat / 256 = t.toNat / 256) := rfl
end T
theorem wrap_hi (x : UInt16) : IntKind.u16.wrap ((x.toNat : Int) / 256) = ((T.hi x : Nat) : Int) := by
  have := x.toNat_lt
  rw [IntKind.wrap_u16]; unfold T.hi; omega
theorem bitOf_any (p : Nat) (hp : p < 1000000) (w : World) : Calls Tryd.prog 36 #[.int .i64 (p : Int)] w fun e w' => e = .returned (.int .u8 ((2 ^ (7 - p % 8) : Nat) : Int)) ∧ w' = w := by
  obtain ⟨r, hr⟩ : ∃ r, p % 8 = r := ⟨_, rfl⟩
  have h8 : r < 8 := by omega
  have e1 : Int.tmod (p : Int) 8 = (r : Int) := by rw [Int.tmod_eq_emod_of_nonneg (by omega)]; omega
  have e2 : (p : Int) % 8 = (r : Int) := by omega
  rw [hr]
  clear hr
  go_enter Tryd.func36, Tryd.ntmps36
  rcases (by omega : r = 0 ∨ r = 1 ∨ r = 2 ∨ r = 3 ∨ r = 4 ∨ r = 5 ∨ r = 6 ∨ r = 7) with rfl | rfl | rfl | rfl | rfl | rfl | rfl | rfl
  all_goals
    go_wp2
    go_ret
    exact ⟨rfl, rfl⟩
set_option maxHeartbeats 1600000 in
theorem firstWindow_any (t : UInt16) (r : List UInt16) (b o cap : Nat) (w : World) (hs : SlH w (some ⟨b, o, none⟩) (t :: r)) (hlen : r.length < 1000000) :
    Calls Tryd.prog 26 #[.slice (some ⟨b, o, none⟩) (r.length + 1) cap] w fun e w' => e = .returned (.int .i64 (((t :: r).takeWhile (T.same t)).length : Nat)) ∧ w' = w := by
  obtain ⟨b', o', e, hb, hc⟩ := hs (by simp)
  cases e
  obtain ⟨N, hN⟩ : ∃ N, r.length + 1 = N := ⟨_, rfl⟩
  have hl : (t :: r).length = N := by simpa using hN
  have hlN : N ≤ 1000000 := by omega
  have hN0 : 0 < N := by omega
  rw [hl] at hc
  have ht : (t :: r).getD 0 0 = t := rfl
  have c0 := hc 0 hN0
  rw [ht] at c0
  have hf := T.takeWhile_len (T.same t) (t :: r)
  rw [hl] at hf
  rw [hN]
  obtain ⟨G, hG⟩ : ∃ G : Nat → UInt16, ∀ j, (t :: r).getD j 0 = G j := ⟨fun j => (t :: r).getD j 0, fun _ => rfl⟩
  have HG0 : Hid (G 0 = t) := (hG 0).symm.trans ht
  have e0 := wrap_hi (G 0)
  simp only [hG] at hc hf
  have HF := hide hf
  generalize ((t :: r).takeWhile (T.same t)).length = K at HF
  clear hf hs hG ht hl hN
  go_enter Tryd.func26, Tryd.ntmps26
  go_wp2
  go_loopw [7] (fun v W => ∃ i : Nat, v = .int .i64 (i : Int) ∧ i ≤ N ∧ W = w ∧ ∀ j, j < i → T.same t (G j) = true) (fun v _ => N - (intOf v).toNat)
  case atStart => exact ⟨0, rfl, by omega, rfl, fun j hj => by omega⟩
  case round =>
    obtain ⟨i, rfl, hi, rfl, hall⟩ := hrel
    have HA := hide hall
    clear hall
    by_cases hiN : i < N
    · have c1 := hc i hiN
      have e1 := wrap_hi (G i)
      go_wp2
      · have hne : (((T.hi (G i) : Nat) : Int) != ((T.hi (G 0) : Nat) : Int)) = true := by assumption
        have hne2 : T.same t (G i) = false := by
          rw [← HG0.out]
          simp only [T.same, decide_eq_false_iff_not]
          intro e
          rw [e] at hne; simp at hne
        go_ret
        exact ⟨by rw [HF.out i HA.out (Or.inr ⟨hiN, hne2⟩)]; rfl, rfl⟩
      · have heq : (((T.hi (G i) : Nat) : Int) != ((T.hi (G 0) : Nat) : Int)) = false := by assumption
        have heq2 : T.same t (G i) = true := by
          rw [← HG0.out]
          simp only [T.same, decide_eq_true_eq]
          simp at heq; omega
        go_roundw
        case rel => exact ⟨i + 1, by go_num, by omega, by trivial, fun j hj => by
          rcases Nat.lt_or_ge j i with h | h
          · exact HA.out j h
          · obtain rfl : j = i := by omega
            exact heq2⟩
        case measure => simp [intOf]; omega
    · obtain rfl : i = N := by omega
      go_wp2
      go_ret
      exact ⟨by rw [HF.out i HA.out (Or.inl rfl)]; rfl, rfl⟩
/- an array of bytes of one's own -/
def ArB (w : World) (g : Nat) (q : List UInt8) : Prop := w.heap[g]? = some (.cells (vb q).toArray 65 (0, 0))
theorem ArB.cell {w : World} {g : Nat} {q : List UInt8} (h : ArB w g q) (j : Nat) (hj : j < q.length) : w.cell? ⟨g, j, none⟩ = some (.int .u8 (q.getD j 0).toNat) := by
  rw [cell_of_row w g j _ 65 (0, 0) h]
  simp only [List.getElem?_toArray]
  exact vb_get q j hj
theorem ArB.frozen {w : World} {g : Nat} {q : List UInt8} (h : ArB w g q) (j : Nat) : w.frozen? ⟨g, j, none⟩ = false := frozen_of_row w g j _ 65 h
theorem ArB.lt {w : World} {g : Nat} {q : List UInt8} (h : ArB w g q) : g < w.heap.size := (Array.getElem?_eq_some_iff.1 h).1
theorem ArB.set {w : World} {g : Nat} {q : List UInt8} (h : ArB w g q) (j : Nat) (c : UInt8) : ArB (w.setCell ⟨g, j, none⟩ (.int .u8 (c.toNat : Int))) g (q.set j c) := by
  unfold ArB
  rw [heap_setCell_same w g j _ 65 _ h]
  simp [vb, List.map_set]
theorem ArB.sl {w : World} {g : Nat} {q : List UInt8} (h : ArB w g q) (n : Nat) : SlL w (some ⟨g, 0, none⟩) (q.take n) := fun _ =>
  ⟨g, 0, rfl, h.lt, fun j hj => by
    rw [List.length_take] at hj
    rw [Nat.zero_add, h.cell j (by omega), List.getD_eq_getElem?_getD, List.getD_eq_getElem?_getD, List.getElem?_take_of_lt (by omega)]⟩
theorem ArB.drewN {w : World} {g : Nat} {q : List UInt8} (h : ArB w g q) (n : Nat) : ArB (w.drewN n) g q := h
end Go.Proofs.YtikjhacgihohiaaDoor
