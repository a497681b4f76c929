/- The state of eight words as a row, the table of the rounds as it lies in memory, a whole store that leaves the world under a new name. -/
import Derived.Test.YtgmjppmcfmcmkaaDoorInv
namespace Go.Proofs.YtgmjppmcfmcmkaaDoor
namespace H
open Go.RowKit
def rowS (s : Sha.St) : Array Value := #[.int .u32 s.a.toNat, .int .u32 s.b.toNat, .int .u32 s.c.toNat, .int .u32 s.d.toNat, .int .u32 s.e.toNat, .int .u32 s.f.toNat, .int .u32 s.g.toNat, .int .u32 s.h.toNat]
set_option maxRecDepth 5000 in
theorem rowS_size (s : Sha.St) : (rowS s).size = 8 := rfl
set_option maxRecDepth 5000 in
theorem rowS_one (s : Sha.St) : (rowS s).all (·.oneCell') = true := by kernel_rfl
def Tab (w : World) : Prop := 0 < w.heap.size ∧ ∀ i, i < 64 → w.cell? ⟨0, i, none⟩ = some (.int .u32 (Sha.kt i).toNat)
set_option maxRecDepth 5000 in
theorem Tab.below {B : Nat} {w w' : World} (h : Tab w) (hb : Below B w w') (hB : 0 < B) : Tab w' :=
  ⟨Nat.lt_of_lt_of_le h.1 hb.size, fun i hi => (hb.cell (p := ⟨0, i, none⟩) hB).trans (h.2 i hi)⟩
set_option maxRecDepth 5000 in
theorem Tab.alloc {w : World} (h : Tab w) (o : Obj) : Tab (w.alloc o) := h.below ((Below.refl w.heap.size w).alloc (Nat.le_refl _) o) h.1
set_option maxRecDepth 5000 in
theorem wpList_store_abs {P : Program} {ops : Array Oper} {rest : List Oper} {o : Oper} {a : Act} {w : World} {Q : Exit → Act → World → Prop} (hgd : o.guard = none) (ty : TypeId) (x y : Operand) (ho : o.op = .store ty x y)
    (g : Nat) (cells : Array Value) (hx : a.eval x = .pointer (some ⟨g, 0, none⟩)) (hy : a.eval y = .agg cells) (t : TypeId) (old : Array Value) (hg : RowAt w g t old)
    (hi : (P.info? ty).map (·.size) = some cells.size) (ho2 : old.size = cells.size) (h1 : cells.all (·.oneCell') = true) (B : Nat) (hB : B ≤ g)
    (h : ∀ w', RowAt w' g t cells → (∀ g' t' c, g' ≠ g → RowAt w g' t' c → RowAt w' g' t' c) → w'.heap.size = w.heap.size → Below B w w' → wpList P ops Q rest (a.put o.dst undef) w') : wpList P ops Q (o :: rest) a w :=
  wpList_store_rowAt hgd ty x y ho g cells hx hy t old hg hi ho2 h1 (h _ (setRow_same hg _) (fun _ _ _ hne hr => setRow_other hr _ hne) (by simp) (below_setRow (Below.refl _ _) hB _))
end H
end Go.Proofs.YtgmjppmcfmcmkaaDoor
