/- The region in which the law DiskPlays makes its model grow: its operations, each by itself. -/
import Derived.Test.YtmjdlejomohbdaaPjn
import Derived.Deep.RegionHeld3
namespace Go.Proofs.Ytmjdlejomohbdaa
open Go.RowKit
noncomputable def cR11 : Code := cB (cL (cR (cB (cB (cR cInit)))))
def opsOf : Code → Array Oper
  | .region _ o _ => o
  | _ => #[]
noncomputable def ops11 : Array Oper := opsOf cR11
set_option maxRecDepth 5000 in
theorem ev_same (a : Act) (d : Nat) (v : Value) (h : d < a.tmps.size) : (a.put (some d) v).eval (.tmp d) = v := by
  simp [Act.put, Act.eval, h]
set_option maxRecDepth 5000 in
theorem ev_other (a : Act) (d k : Nat) (v : Value) (h : k ≠ d) : (a.put (some d) v).eval (.tmp k) = a.eval (.tmp k) := by
  have h' : ¬ d = k := fun e => h e.symm
  simp [Act.put, Act.eval, Array.getD_eq_getD_getElem?, h']
set_option maxRecDepth 5000 in
theorem put_size (a : Act) (d : Option Nat) (v : Value) : (a.put d v).tmps.size = a.tmps.size := by
  cases d <;> simp [Act.put]
set_option maxRecDepth 5000 in
theorem put_defers (a : Act) (d : Option Nat) (v : Value) : (a.put d v).defers = a.defers := by
  cases d <;> rfl
set_option maxRecDepth 5000 in
theorem x_move (a : Act) (o : Oper) (x : Operand) (ho : o.op = .move x) (W : World) : (execOp a.eval o).run Try.prog W = .ok (.value (a.eval x)) W := by
  simp [execOp, ho]
set_option maxRecDepth 5000 in
theorem x_nil (a : Act) (o : Oper) (x : Operand) (g : Nat) (ho : o.op = .nilCheck x) (hx : a.eval x = .pointer (some ⟨g, 0, none⟩)) (W : World) : (execOp a.eval o).run Try.prog W = .ok (.value (.pointer (some ⟨g, 0, none⟩))) W := by
  simp only [execOp, ho, hx]
  go_simp
set_option maxRecDepth 5000 in
theorem x_field (a : Act) (o : Oper) (x : Operand) (g k : Nat) (hk : k < 6) (ho : o.op = .fieldAddr 31 x k) (hx : a.eval x = .pointer (some ⟨g, 0, none⟩)) (W : World) : (execOp a.eval o).run Try.prog W = .ok (.value (.pointer (some ⟨g, k, none⟩))) W := by
  simp only [execOp, ho, hx]
  have : k = 0 ∨ k = 1 ∨ k = 2 ∨ k = 3 ∨ k = 4 ∨ k = 5 := by omega
  rcases this with rfl | rfl | rfl | rfl | rfl | rfl <;> go_simp
set_option maxRecDepth 5000 in
theorem x_max (a : Act) (o : Oper) (x : Operand) (z : Int) (ho : o.op = .call { callee := .builtin .max, args := #[x, .const (.int .i64 64)], argTypes := #[3, 3] }) (hx : a.eval x = .int .i64 z) (W : World) : (execOp a.eval o).run Try.prog W = .ok (.value (.int .i64 (max z 64))) W := by
  have hc : a.eval (.const (.int .i64 64)) = .int .i64 64 := rfl
  simp only [execOp, ho, resolve, invoke, builtin, Sem.run_bind, Sem.run_pure, Result.andThen_ok, List.map_toArray, List.map_cons, List.map_nil, hx, hc]
  go_simp
set_option maxRecDepth 5000 in
theorem x_load (a : Act) (o : Oper) (x : Operand) (g k : Nat) (t : TypeId) (ht : t = 28 ∨ t = 29) (v : Value) (hf : ∃ p n c, v = .slice p n c) (ho : o.op = .load t x) (hx : a.eval x = .pointer (some ⟨g, k, none⟩)) (W : World) (hc : W.cell? ⟨g, k, none⟩ = some v) : (execOp a.eval o).run Try.prog W = .ok (.value v) W := by
  simp only [execOp, ho, hx]
  obtain ⟨p, n, c, rfl⟩ := hf
  rcases ht with rfl | rfl <;> go_simp
set_option maxRecDepth 5000 in
theorem x_store (a : Act) (o : Oper) (x y : Operand) (g k : Nat) (t : TypeId) (ht : t = 28 ∨ t = 29) (v u : Value) (hf : ∃ p n c, v = .slice p n c) (ho : o.op = .store t x y) (hx : a.eval x = .pointer (some ⟨g, k, none⟩)) (hy : a.eval y = v) (W : World) (hc : W.cell? ⟨g, k, none⟩ = some u) (hfz : W.frozen? ⟨g, k, none⟩ = false) : (execOp a.eval o).run Try.prog W = .ok .skip (W.setCell ⟨g, k, none⟩ v) := by
  simp only [execOp, ho, hx, hy]
  obtain ⟨p, n, c, rfl⟩ := hf
  rcases ht with rfl | rfl <;> go_simp
set_option maxRecDepth 5000 in
theorem x_make (a : Act) (o : Oper) (x : Operand) (Z : Nat) (hZ : Z ≤ 1000000) (ho : o.op = .makeSlice 32 x x) (hx : a.eval x = .int .i64 (Z : Int)) (W : World) : (execOp a.eval o).run Try.prog W = .ok (.value (.slice (some ⟨W.heap.size, 0, none⟩) Z Z)) (W.alloc (.cells (vb (List.replicate Z 0)).toArray 5)) := by
  have := make_zeros Z hZ W
  simp only [execOp, ho, hx]
  go_simp
set_option maxRecDepth 5000 in
theorem x_build (a : Act) (o : Oper) (x : Operand) (v : Value) (hf : ∃ p n c, v = .slice p n c) (ho : o.op = .buildSlice 28 1 #[(0, x)]) (hx : a.eval x = v) (W : World) : (execOp a.eval o).run Try.prog W = .ok (.value (.slice (some ⟨W.heap.size, 0, none⟩) 1 1)) (W.alloc (.cells #[v] 32)) := by
  obtain ⟨p, n, c, rfl⟩ := hf
  simp only [execOp, ho, List.map_toArray, List.map_cons, List.map_nil, hx]
  go_simp
set_option maxRecDepth 5000 in
theorem x_buildb (a : Act) (o : Oper) (ho : o.op = .buildSlice 29 1 #[(0, .const (.bool false))]) (W : World) : (execOp a.eval o).run Try.prog W = .ok (.value (.slice (some ⟨W.heap.size, 0, none⟩) 1 1)) (W.alloc (.cells #[.bool false] 4)) := by
  simp only [execOp, ho]
  go_simp
end Go.Proofs.Ytmjdlejomohbdaa
