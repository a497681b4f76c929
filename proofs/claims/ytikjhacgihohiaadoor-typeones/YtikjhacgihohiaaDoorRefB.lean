/- The reference: Bitmap. -/
import Derived.Test.YtikjhacgihohiaaDoorRefC
namespace Go.Proofs.YtikjhacgihohiaaDoor
open Go.RowKit
theorem OwnB.put {w : World} {B g len cap : Nat} {n : List UInt8} (h : OwnB w B (.slice (some ⟨g, 0, none⟩) len cap) n) (j : Nat) (c : UInt8) : OwnB (w.setCell ⟨g, j, none⟩ (.int .u8 (c.toNat : Int))) B (.slice (some ⟨g, 0, none⟩) len cap) (n.set j c) := by
  have h0 : w.ownsRow B 5 1 (.slice (some ⟨g, 0, none⟩) len cap) n.length (vb n) := h
  refine ⟨by rw [vb_len, List.length_set, Nat.mul_one], ?_⟩
  rcases h0.2 with ⟨e, _⟩ | ⟨g', cap', cur, e, h1, h2, h3, h4, h5, h6⟩
  · cases e
  · cases e
    refine Or.inr ⟨g, cap, cur.setIfInBounds j (.int .u8 (c.toNat : Int)), by rw [List.length_set], h1, heap_setCell_same w g j cur 5 _ h2, by rw [List.length_set]; exact h3, h4, by simpa using h5, ?_⟩
    rw [Array.toList_setIfInBounds, List.length_set, List.take_set, h6]
    simp [vb, List.map_set]
theorem OwnB.cellf {w : World} {B g len cap : Nat} {n : List UInt8} (h : OwnB w B (.slice (some ⟨g, 0, none⟩) len cap) n) (j : Nat) (hj : j < n.length) : w.cell? ⟨g, j, none⟩ = some (.int .u8 (n.getD j 0).toNat) ∧ w.frozen? ⟨g, j, none⟩ = false ∧ B ≤ g := by
  have h0 : w.ownsRow B 5 1 (.slice (some ⟨g, 0, none⟩) len cap) n.length (vb n) := h
  rcases h0.2 with ⟨e, _⟩ | ⟨g', cap', cur, e, h1, h2, h3, h4, h5, h6⟩
  · cases e
  · cases e
    exact ⟨by rw [World.ownsRow.cellAt h0 j (by omega), vb_get n j hj], frozen_of_row w g j cur 5 h2, h1⟩
theorem hi_div (x : UInt16) : (x.toNat : Int) / 256 = ((T.hi x : Nat) : Int) := by unfold T.hi; omega
theorem lo_and (x : UInt16) : bits .and .u16 (x.toNat : Int) 255 = ((T.lo x : Nat) : Int) := by
  have h := u16_and_nat x.toNat 255 x.toNat_lt (by omega)
  rw [show (255 : Nat) = 2 ^ 8 - 1 from rfl, Nat.and_two_pow_sub_one_eq_mod] at h
  exact h
namespace T
/- the bytes of a window's first m numbers -/
def wb (l : List UInt16) (m : Nat) : List UInt8 := row (if m = 0 then 0 else lo (l.getD (m - 1) 0) / 8 + 1) ((l.take m).map lo)
theorem wb_len (l : List UInt16) (m : Nat) : (wb l m).length = if m = 0 then 0 else lo (l.getD (m - 1) 0) / 8 + 1 := row_len _ _
theorem wb_zero (l : List UInt16) : wb l 0 = [] := by unfold wb row; simp
theorem rise_take (l : List UInt16) (m : Nat) (h : Rise (l.map lo)) : Rise ((l.take m).map lo) := by
  unfold Rise at *; rw [List.map_take]; exact h.sublist (List.take_sublist _ _)
theorem wb_bound (l : List UInt16) (m : Nat) (hm : m ≤ l.length) (hr : Rise ((l.take m).map lo)) : ∀ p ∈ (l.take m).map lo, p < 8 * (wb l m).length := by
  intro p hp
  rw [wb_len]
  by_cases h0 : m = 0
  · subst h0; simp at hp
  · rw [if_neg h0]
    have h1 := last_max _ hr p hp
    have h2 := last_lo (l.take m) (by rw [List.length_take]; omega)
    rw [h2, List.length_take, show min m l.length = m by omega, List.getD_eq_getElem?_getD, List.getElem?_take_of_lt (by omega), ← List.getD_eq_getElem?_getD] at h1
    omega
theorem wb_next (l : List UInt16) (m : Nat) (hm : m < l.length) (hr : Rise ((l.take m).map lo)) (zc : Nat) (hz : (wb l m).length + zc = lo (l.getD m 0) / 8 + 1) : setb (wb l m ++ List.replicate zc 0) (lo (l.getD m 0)) = wb l (m + 1) := by
  have hb := wb_bound l m (by omega) hr
  have e : wb l m = row (wb l m).length ((l.take m).map lo) := by rw [wb_len]; rfl
  rw [e, row_grow _ _ _ hb, hz]
  show _ = row (if m + 1 = 0 then 0 else lo (l.getD (m + 1 - 1) 0) / 8 + 1) ((l.take (m + 1)).map lo)
  rw [if_neg (by omega), Nat.add_sub_cancel, map_take_next l m hm, row_snoc]
theorem wb_all (l : List UInt16) (m : Nat) (hm : m ≤ l.length) (h0 : 0 < m) : wb l m = row (size ((l.take m).map lo)) ((l.take m).map lo) ∧ (wb l m).length = size ((l.take m).map lo) := by
  have h2 := last_lo (l.take m) (by rw [List.length_take]; omega)
  rw [List.length_take, show min m l.length = m by omega, List.getD_eq_getElem?_getD, List.getElem?_take_of_lt (by omega), ← List.getD_eq_getElem?_getD] at h2
  have e : size ((l.take m).map lo) = if m = 0 then 0 else lo (l.getD (m - 1) 0) / 8 + 1 := by unfold size; rw [h2, if_neg (by omega)]
  constructor
  · unfold wb; rw [e]
  · rw [wb_len, e]
theorem wb_mono (l : List UInt16) (m : Nat) (hm : m < l.length) (hr : Rise ((l.take (m + 1)).map lo)) : (wb l m).length ≤ lo (l.getD m 0) / 8 + 1 := by
  rw [wb_len]
  by_cases h0 : m = 0
  · rw [if_pos h0]; omega
  · rw [if_neg h0, ]
    rw [map_take_next l m hm] at hr
    have h1 := (List.pairwise_append.1 hr).2.2 (lo (l.getD (m - 1) 0)) (by
      rw [List.mem_map]
      refine ⟨l.getD (m - 1) 0, ?_, rfl⟩
      rw [List.getD_eq_getElem?_getD, List.getElem?_eq_getElem (by omega), Option.getD_some]
      rw [List.mem_iff_getElem]
      exact ⟨m - 1, by rw [List.length_take]; omega, by rw [List.getElem_take]⟩) (lo (l.getD m 0)) (by simp)
    omega
end T
end Go.Proofs.YtikjhacgihohiaaDoor
