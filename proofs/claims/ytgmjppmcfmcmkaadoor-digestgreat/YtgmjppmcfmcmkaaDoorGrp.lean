/- A tag does not hang on the order of the pairs, plain; bytes of the call's own that are written. -/
import Derived.Test.YtgmjppmcfmcmkaaDoorKn9
namespace Go.Proofs.YtgmjppmcfmcmkaaDoor
open Go.RowKit
namespace G
set_option maxRecDepth 5000 in
theorem ts_out (l : List UInt8) (i : Nat) (c : UInt8) : ∀ n, n ≤ i → ts (l.set i c) n = ts l n
  | 0, _ => rfl
  | n + 1, h => by
    have e : (l.set i c).getD n 0 = l.getD n 0 := by simp [List.getD_eq_getElem?_getD, show i ≠ n by omega]
    simp only [ts, ts_out l i c n (by omega), e]
set_option maxRecDepth 5000 in
theorem ts_set (l : List UInt8) (i : Nat) (c : UInt8) (hi : i < l.length) : ∀ n, i < n → ts (l.set i c) n + (if i % 2 = 0 then (l.getD i 0).toNat * 256 else (l.getD i 0).toNat) = ts l n + (if i % 2 = 0 then c.toNat * 256 else c.toNat)
  | 0, h => by omega
  | n + 1, h => by
    by_cases e : i = n
    · subst e
      have e1 : (l.set i c).getD i 0 = c := by simp [List.getD_eq_getElem?_getD, hi]
      simp only [ts, ts_out l i c i (Nat.le_refl _), e1]
      omega
    · have e1 : (l.set i c).getD n 0 = l.getD n 0 := by simp [List.getD_eq_getElem?_getD, e]
      have ih := ts_set l i c hi n (by omega)
      simp only [ts, e1]
      omega
set_option maxRecDepth 5000 in
theorem get_set (l : List UInt8) (i j : Nat) (c : UInt8) (hi : i < l.length) : (l.set i c).getD j 0 = if i = j then c else l.getD j 0 := by
  by_cases e : i = j
  · subst e; simp [List.getD_eq_getElem?_getD, hi]
  · simp [List.getD_eq_getElem?_getD, e]
def swp (l : List UInt8) (P R : Nat) : List UInt8 := (((l.set P (l.getD R 0)).set (P + 1) (l.getD (R + 1) 0)).set R (l.getD P 0)).set (R + 1) (l.getD (P + 1) 0)
set_option maxRecDepth 5000 in
theorem swp_len (l : List UInt8) (P R : Nat) : (swp l P R).length = l.length := by simp [swp]
set_option maxRecDepth 5000 in
theorem swp_tag (l : List UInt8) (P R : Nat) (h1 : P % 2 = 0) (h2 : R % 2 = 0) (h3 : P + 1 < l.length) (h4 : R + 1 < l.length) : tag (swp l P R) = tag l := by
  have e : ts (swp l P R) l.length = ts l l.length := by
    have a1 := ts_set l P (l.getD R 0) (by omega) l.length (by omega)
    have a2 := ts_set (l.set P (l.getD R 0)) (P + 1) (l.getD (R + 1) 0) (by simp; omega) l.length (by omega)
    have a3 := ts_set ((l.set P (l.getD R 0)).set (P + 1) (l.getD (R + 1) 0)) R (l.getD P 0) (by simp; omega) l.length (by omega)
    have a4 := ts_set (((l.set P (l.getD R 0)).set (P + 1) (l.getD (R + 1) 0)).set R (l.getD P 0)) (R + 1) (l.getD (P + 1) 0) (by simp; omega) l.length (by omega)
    have g2 : (l.set P (l.getD R 0)).getD (P + 1) 0 = l.getD (P + 1) 0 := by rw [get_set _ _ _ _ (by omega), if_neg (by omega)]
    have g3 : ((l.set P (l.getD R 0)).set (P + 1) (l.getD (R + 1) 0)).getD R 0 = l.getD R 0 := by
      rw [get_set _ _ _ _ (by simp; omega), if_neg (by omega), get_set _ _ _ _ (by omega)]
      split <;> rfl
    have g4 : (((l.set P (l.getD R 0)).set (P + 1) (l.getD (R + 1) 0)).set R (l.getD P 0)).getD (R + 1) 0 = l.getD (R + 1) 0 := by
      rw [get_set _ _ _ _ (by simp; omega), if_neg (by omega), get_set _ _ _ _ (by simp; omega)]
      split
      · rfl
      · rw [get_set _ _ _ _ (by omega), if_neg (by omega)]
    rw [g2, if_neg (show ¬ ((P + 1) % 2 = 0) by omega), if_neg (show ¬ ((P + 1) % 2 = 0) by omega)] at a2
    rw [g3, if_pos h2, if_pos h2] at a3
    rw [g4, if_neg (show ¬ ((R + 1) % 2 = 0) by omega), if_neg (show ¬ ((R + 1) % 2 = 0) by omega)] at a4
    rw [if_pos h1, if_pos h1] at a1
    unfold swp
    omega
  unfold tag
  rw [swp_len, e]
end G
structure CB (B : Nat) (w0 : World) (g : Nat) (q : List UInt8) (w' : World) : Prop where
  below : Below B w0 w'
  row : ∃ cur, w'.heap[g]? = some (.cells cur 5 (0, 0)) ∧ ∀ j, j < q.length → cur[j]? = some (.int .u8 (q.getD j 0).toNat)
  ge : B ≤ g
set_option maxRecDepth 5000 in
theorem CB.cell {B : Nat} {w0 w : World} {g : Nat} {q : List UInt8} (h : CB B w0 g q w) (j : Nat) (hj : j < q.length) : w.cell? ⟨g, j, none⟩ = some (.int .u8 (q.getD j 0).toNat) := by
  obtain ⟨cur, h1, h3⟩ := h.row
  rw [cell_of_row w g j cur 5 (0, 0) h1]; exact h3 j hj
set_option maxRecDepth 5000 in
theorem CB.frozen {B : Nat} {w0 w : World} {g : Nat} {q : List UInt8} (h : CB B w0 g q w) (j : Nat) : w.frozen? ⟨g, j, none⟩ = false := by
  obtain ⟨cur, h1, _⟩ := h.row
  exact frozen_of_row w g j cur 5 h1
set_option maxRecDepth 5000 in
theorem CB.sl {B : Nat} {w0 w : World} {g : Nat} {q : List UInt8} (h : CB B w0 g q w) : SlL w (some ⟨g, 0, none⟩) q := fun _ => by
  obtain ⟨cur, h1, _⟩ := h.row
  exact ⟨g, 0, rfl, (Array.getElem?_eq_some_iff.1 h1).1, fun j hj => by rw [Nat.zero_add]; exact h.cell j hj⟩
set_option maxRecDepth 5000 in
theorem CB.set {B : Nat} {w0 w : World} {g : Nat} {q : List UInt8} (h : CB B w0 g q w) (j : Nat) (hj : j < q.length) (c : UInt8) : CB B w0 g (q.set j c) (w.setCell ⟨g, j, none⟩ (.int .u8 (c.toNat : Int))) := by
  obtain ⟨cur, h1, h3⟩ := h.row
  refine ⟨h.below.setCell h.ge _, ⟨cur.setIfInBounds j (.int .u8 (c.toNat : Int)), ?_, fun i hi => ?_⟩, h.ge⟩
  · rw [setCell_eq_setRow w g j cur 5 (0, 0) _ h1]
    exact setRow_heap w g cur _ 5 (0, 0) h1
  · rw [List.length_set] at hi
    have hlt : j < cur.size := (Array.getElem?_eq_some_iff.1 (h3 j hj)).1
    rw [Array.getElem?_setIfInBounds]
    by_cases e : j = i
    · subst e
      rw [if_pos rfl, if_pos hlt]
      simp [hj]
    · rw [if_neg e, h3 i hi]
      simp [List.getD_eq_getElem?_getD, e]
set_option maxRecDepth 5000 in
theorem CB.drew {B : Nat} {w0 w : World} {g : Nat} {q : List UInt8} (h : CB B w0 g q w) : CB B w0 g q w.drew := ⟨h.below.drew, h.row, h.ge⟩
set_option maxRecDepth 5000 in
theorem CB.of {B : Nat} {w0 w : World} {l : List UInt8} {v : Value} (h : OwnB w B v l) (hb : Below B w0 w) (h0 : 0 < l.length) : ∃ g c, v = .slice (some ⟨g, 0, none⟩) l.length c ∧ l.length ≤ c ∧ CB B w0 g l w := by
  have h1 : w.ownsRow B 5 1 v l.length (vb l) := h
  rcases h1.2 with ⟨rfl, h2⟩ | ⟨g, cap, cur, rfl, h2, h3, h4, h5, h6, h7⟩
  · omega
  · refine ⟨g, cap, rfl, h4, hb, ⟨cur, h3, fun j hj => ?_⟩, h2⟩
    have hc := World.ownsRow.cellAt h1 j (by omega)
    rw [cell_of_row w g j cur 5 (0, 0) h3] at hc
    rw [hc, vb_get l j hj]
end Go.Proofs.YtgmjppmcfmcmkaaDoor
