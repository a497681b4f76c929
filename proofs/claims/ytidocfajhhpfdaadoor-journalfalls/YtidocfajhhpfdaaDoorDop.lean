/- spend, Cut, New, last. -/
import Derived.Test.YtidocfajhhpfdaaDoorDsk
namespace Go.Proofs.YtidocfajhhpfdaaDoor
open Go.RowKit
/- a disk whose first block alone is written anew -/
set_option maxRecDepth 5000 in
theorem Dk.turn {A : Nat → Prop} {w : World} {D S M : Nat} {s s' : K.St} {sv : Nat → Value} {uv : Nat → Option Value} {w' : World} (h : Dk A w D S M s sv uv) (hz : w.heap.size ≤ w'.heap.size) (hm : ∀ g, g ≠ D → w'.heap[g]? = w.heap[g]?)
    (hr : RowAt w' D 63 (dkRow s.sz S s.n M s'.dead s'.cut s'.left)) (e1 : s'.sz = s.sz) (e2 : s'.n = s.n) (e3 : s'.su = s.su) (e4 : s'.un = s.un) (hb : s'.left ≤ 9223372036854775807) : Dk A w' D S M s' sv uv := by
  have hk : Rows w w' := fun g c hg => (hm g (fun e => (h.row.ne hg tne1) e.symm)).trans hg
  refine ⟨by rw [e1, e2]; exact hr, by rw [e2]; exact (hm S h.DS.symm).trans h.sure, by rw [e2]; exact h.un.heap (hm M h.DM.symm), ?_, by rw [e4]; exact h.hun, ?_, by rw [e4, e2]; exact h.hlt, by rw [e1]; exact h.b1, by rw [e1]; exact h.b2, by rw [e2]; exact h.b3, by rw [e2]; exact h.b4, hb, fun g hg => Nat.lt_of_lt_of_le (h.hA g hg) hz⟩
  · intro i hi; rw [e1, e3]; rw [e2] at hi; exact (h.hsu i hi).heap hk
  · intro i v l h1 h2; rw [e1]; rw [e4] at h2; exact (h.huv i v l h1 h2).heap hk
set_option maxRecDepth 5000 in
theorem spend_any {A : Nat → Prop} (w : World) (D S M : Nat) (s : K.St) (h : DiskAt A w D S M s) : Calls Tryd.prog 42 #[.pointer (some ⟨D, 0, none⟩)] w fun e w' => e = .returned (.bool s.can) ∧ DiskAt A w' D S M s.spent ∧ Mv D S M w w' ∧ w'.heap.size = w.heap.size := by
  obtain ⟨sv, uv, h⟩ := h
  have c4 : w.cell? ⟨D, 4, none⟩ = some (.bool s.cut) := h.cell 4
  have c5 : w.cell? ⟨D, 5, none⟩ = some (.int .i64 (s.left : Int)) := h.cell 5
  have c3 : w.cell? ⟨D, 3, none⟩ = some (.bool s.dead) := h.cell 3
  have f3 := h.row.frozen 3
  have f5 := h.row.frozen 5
  have H := hide h
  have hb := h.b5
  clear h
  cases hc : s.cut
  · rw [hc] at c4
    go_enter Tryd.func42, Tryd.ntmps42
    go_wp2
    go_ret
    have e : s.spent = s := by cases s; simp_all [K.St.spent, K.St.can]
    refine ⟨by simp [K.St.can, hc], ⟨sv, uv, by rw [e]; exact H.out⟩, Mv.refl _ _ _ _, rfl⟩
  · rw [hc] at c4
    by_cases h0 : s.left = 0
    · rw [h0] at c5
      go_enter Tryd.func42, Tryd.ntmps42
      go_wp2
      go_ret
      refine ⟨by simp [K.St.can, hc, h0], ⟨sv, uv, ?_⟩, Mv.setD _ _ _, by simp [World.setCell]⟩
      have e : s.spent = { s with dead := true } := by simp [K.St.spent, K.St.can, hc, h0]
      rw [e]
      exact H.out.turn (by simp [World.setCell]) (fun g hg => heap_setCell_other _ _ _ _ hg) (H.out.row.set 3 (.bool true)) rfl rfl rfl rfl hb
    · have h1 : ((s.left : Int) == 0) = false := by simp; omega
      have h2 : IntKind.i64.wrap ((s.left : Int) - 1) = ((s.left - 1 : Nat) : Int) := by rw [IntKind.wrap_i64]; omega
      go_enter Tryd.func42, Tryd.ntmps42
      go_wp2
      go_ret
      refine ⟨by simp [K.St.can, hc, h0], ⟨sv, uv, ?_⟩, Mv.setD _ _ _, by simp [World.setCell]⟩
      have e : s.spent = { s with left := s.left - 1 } := by simp [K.St.spent, K.St.can, hc, h0]
      rw [e]
      exact H.out.turn (by simp [World.setCell]) (fun g hg => heap_setCell_other _ _ _ _ hg) (H.out.row.set 5 (.int .i64 ((s.left - 1 : Nat) : Int))) rfl rfl rfl rfl (by show s.left - 1 ≤ _; omega)
set_option maxRecDepth 5000 in
theorem cut_any {A : Nat → Prop} (w : World) (D S M : Nat) (s : K.St) (h : DiskAt A w D S M s) (n : Int) (hn : n ≤ 9223372036854775807) : Calls Tryd.prog 22 #[.pointer (some ⟨D, 0, none⟩), .int .i64 n] w fun e w' => e = .returned (.tuple #[]) ∧ DiskAt A w' D S M (s.cutAt n.toNat) ∧ Mv D S M w w' ∧ w'.heap.size = w.heap.size := by
  obtain ⟨sv, uv, h⟩ := h
  have c4 : w.cell? ⟨D, 4, none⟩ = some (.bool s.cut) := h.cell 4
  have c5 : w.cell? ⟨D, 5, none⟩ = some (.int .i64 (s.left : Int)) := h.cell 5
  have f4 := h.row.frozen 4
  have f5 := h.row.frozen 5
  have H := hide h
  clear h
  have fin : ∀ x : Int, x = (n.toNat : Int) → DiskAt A ((w.setCell ⟨D, 4, none⟩ (.bool true)).setCell ⟨D, 5, none⟩ (.int .i64 x)) D S M (s.cutAt n.toNat) ∧ Mv D S M w ((w.setCell ⟨D, 4, none⟩ (.bool true)).setCell ⟨D, 5, none⟩ (.int .i64 x)) ∧ ((w.setCell ⟨D, 4, none⟩ (.bool true)).setCell ⟨D, 5, none⟩ (.int .i64 x)).heap.size = w.heap.size := by
    rintro x rfl
    refine ⟨⟨sv, uv, ?_⟩, (Mv.setD _ _ _).trans (Mv.setD _ _ _) (Or.inl rfl), by simp [World.setCell]⟩
    exact H.out.turn (by simp [World.setCell]) (fun g hg => by rw [heap_setCell_other _ _ _ _ hg, heap_setCell_other _ _ _ _ hg]) ((H.out.row.set 4 (.bool true)).set 5 (.int .i64 (n.toNat : Int))) rfl rfl rfl rfl (by show n.toNat ≤ _; omega)
  have F := hide (fin (max n 0) (by omega))
  clear fin
  go_enter Tryd.func22, Tryd.ntmps22
  go_wp2
  go_end0
  exact ⟨rfl, F.out⟩
end Go.Proofs.YtidocfajhhpfdaaDoor
