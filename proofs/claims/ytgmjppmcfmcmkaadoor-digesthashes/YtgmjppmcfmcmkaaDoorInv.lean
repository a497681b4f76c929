/- Rows of memory that a call made itself, as the loops of the sums leave them: a block whose first cells are known. -/
import Derived.Test.YtgmjppmcfmcmkaaDoorWords
import Derived.Deep.MidRow
import Derived.Deep.WholeRow
namespace Go.Proofs.YtgmjppmcfmcmkaaDoor
namespace H
open Go.RowKit

/- block g of wr is a row of the type t, whose cells are c, none of them frozen -/
def RowAt (wr : World) (g : Nat) (t : TypeId) (c : Array Value) : Prop := wr.heap[g]? = some (.cells c t (0, 0))
set_option maxRecDepth 5000 in
theorem RowAt.cell {wr : World} {g : Nat} {t : TypeId} {c : Array Value} (h : RowAt wr g t c) (j : Nat) : wr.cell? ⟨g, j, none⟩ = c[j]? := cell_of_row wr g j c t (0, 0) h
set_option maxRecDepth 5000 in
theorem RowAt.frozen {wr : World} {g : Nat} {t : TypeId} {c : Array Value} (h : RowAt wr g t c) (j : Nat) : wr.frozen? ⟨g, j, none⟩ = false := frozen_of_row wr g j c t h
set_option maxRecDepth 5000 in
theorem RowAt.set {wr : World} {g : Nat} {t : TypeId} {c : Array Value} (h : RowAt wr g t c) (j : Nat) (v : Value) : RowAt (wr.setCell ⟨g, j, none⟩ v) g t (c.setIfInBounds j v) := heap_setCell_same wr g j c t v h
set_option maxRecDepth 5000 in
theorem RowAt.other {wr : World} {g : Nat} {t : TypeId} {c : Array Value} (h : RowAt wr g t c) (a : Addr) (v : Value) (hne : g ≠ a.block) : RowAt (wr.setCell a v) g t c := by
  unfold RowAt; rw [heap_setCell_other _ _ _ _ hne]; exact h
set_option maxRecDepth 5000 in
theorem heap_drewN (w : World) (n : Nat) : (w.drewN n).heap = w.heap := rfl
set_option maxRecDepth 5000 in
theorem RowAt.drewN {wr : World} {g : Nat} {t : TypeId} {c : Array Value} (h : RowAt wr g t c) (n : Nat) : RowAt (wr.drewN n) g t c := by
  exact h
set_option maxRecDepth 5000 in
theorem RowAt.drew {wr : World} {g : Nat} {t : TypeId} {c : Array Value} (h : RowAt wr g t c) : RowAt wr.drew g t c := h
set_option maxRecDepth 5000 in
theorem RowAt.below {w w' : World} {B g : Nat} {t : TypeId} {c : Array Value} (h : RowAt w g t c) (hb : Below B w w') (hg : g < B) : RowAt w' g t c := by
  unfold RowAt; rw [hb.block g hg]; exact h
set_option maxRecDepth 5000 in
theorem RowAt.new (w : World) (t : TypeId) (c : Array Value) : RowAt (w.alloc (.cells c t)) w.heap.size t c := heap_alloc_last w _
set_option maxRecDepth 5000 in
theorem RowAt.alloc {w : World} {g : Nat} {t : TypeId} {c : Array Value} (h : RowAt w g t c) (o : Obj) : RowAt (w.alloc o) g t c := by
  have hlt : g < w.heap.size := (Array.getElem?_eq_some_iff.1 h).1
  unfold RowAt; rw [Below.heap_alloc _ _ _ hlt]; exact h
set_option maxRecDepth 5000 in
theorem RowAt.lt {w : World} {g : Nat} {t : TypeId} {c : Array Value} (h : RowAt w g t c) : g < w.heap.size := (Array.getElem?_eq_some_iff.1 h).1
set_option maxRecDepth 5000 in
theorem below_drewN {B : Nat} {w wr : World} (h : Below B w wr) (n : Nat) : Below B w (wr.drewN n) := ⟨h.os, h.tape, h.output, h.size, h.block⟩

/- the first k cells of c are the words f 0, f 1 .. -/
def First (k : Nat) (f : Nat → Value) (c : Array Value) : Prop := ∀ j, j < k → c[j]? = some (f j)
set_option maxRecDepth 5000 in
theorem First.step {k : Nat} {f : Nat → Value} {c : Array Value} (h : First k f c) (hk : k < c.size) : First (k + 1) f (c.setIfInBounds k (f k)) := fun j hj => by
  rw [Array.getElem?_setIfInBounds]
  by_cases e : k = j
  · subst e; simp [hk]
  · rw [if_neg e]; exact h j (by omega)
set_option maxRecDepth 5000 in
theorem First.whole {k : Nat} {f : Nat → Value} {c : Array Value} (h : First k f c) (hk : c.size = k) : c = ((List.range k).map f).toArray := by
  apply Array.ext_getElem?
  intro j
  by_cases e : j < k
  · rw [h j e]; simp [e]
  · rw [Array.getElem?_eq_none (by omega)]; simp [e]

/- a call's own row at the block g (the first free number was B), its first k cells known -/
structure Own (B : Nat) (w wr : World) (g : Nat) (t : TypeId) (n k : Nat) (f : Nat → Value) : Prop where
  below : Below B w wr
  size : g < wr.heap.size
  row : ∃ c, RowAt wr g t c ∧ c.size = n ∧ First k f c
set_option maxRecDepth 5000 in
theorem Own.cell {B : Nat} {w wr : World} {g : Nat} {t : TypeId} {n k : Nat} {f : Nat → Value} (h : Own B w wr g t n k f) (j : Nat) (hj : j < k) : wr.cell? ⟨g, j, none⟩ = some (f j) := by
  obtain ⟨c, hr, _, hf⟩ := h.row
  rw [hr.cell, hf j hj]
set_option maxRecDepth 5000 in
theorem Own.some {B : Nat} {w wr : World} {g : Nat} {t : TypeId} {n k : Nat} {f : Nat → Value} (h : Own B w wr g t n k f) (j : Nat) (hj : j < n) : ∃ v, wr.cell? ⟨g, j, none⟩ = some v := by
  obtain ⟨c, hr, hs, _⟩ := h.row
  exact ⟨c[j]'(by omega), by rw [hr.cell]; simp [hs, hj]⟩
set_option maxRecDepth 5000 in
theorem Own.frozen {B : Nat} {w wr : World} {g : Nat} {t : TypeId} {n k : Nat} {f : Nat → Value} (h : Own B w wr g t n k f) (j : Nat) : wr.frozen? ⟨g, j, none⟩ = false := by
  obtain ⟨c, hr, _, _⟩ := h.row
  exact hr.frozen j
set_option maxRecDepth 5000 in
theorem Own.step {B : Nat} {w wr : World} {g : Nat} {t : TypeId} {n k : Nat} {f : Nat → Value} (h : Own B w wr g t n k f) (hB : B ≤ g) (hk : k < n) : Own B w (wr.setCell ⟨g, k, none⟩ (f k)) g t n (k + 1) f := by
  obtain ⟨c, hr, hs, hf⟩ := h.row
  exact ⟨h.below.setCell hB _, by simp [World.setCell]; exact h.size, _, hr.set k (f k), by simp [hs], hf.step (by omega)⟩
set_option maxRecDepth 5000 in
theorem Own.drewN {B : Nat} {w wr : World} {g : Nat} {t : TypeId} {n k : Nat} {f : Nat → Value} (h : Own B w wr g t n k f) (m : Nat) : Own B w (wr.drewN m) g t n k f := by
  obtain ⟨c, hr, hs, hf⟩ := h.row
  exact ⟨below_drewN h.below m, h.size, c, hr.drewN m, hs, hf⟩
set_option maxRecDepth 5000 in
theorem Own.drew {B : Nat} {w wr : World} {g : Nat} {t : TypeId} {n k : Nat} {f : Nat → Value} (h : Own B w wr g t n k f) : Own B w wr.drew g t n k f := h.drewN 1
set_option maxRecDepth 5000 in
theorem own_fst (w : World) (A : Array Value) (t : TypeId) (o : Obj) (f : Nat → Value) : Own w.heap.size w ((w.alloc (.cells A t)).alloc o) w.heap.size t A.size 0 f :=
  ⟨((Below.refl _ _).alloc (Nat.le_refl _) _).alloc (by simp) _, by simp; omega, A, (RowAt.new _ _ _).alloc _, rfl, fun j hj => by omega⟩
set_option maxRecDepth 5000 in
theorem own_snd (w : World) (A : Array Value) (t : TypeId) (o : Obj) (f : Nat → Value) : Own w.heap.size w ((w.alloc o).alloc (.cells A t)) (w.heap.size + 1) t A.size 0 f :=
  ⟨((Below.refl _ _).alloc (Nat.le_refl _) _).alloc (by simp) _, by simp, A, by have := RowAt.new (w.alloc o) t A; simpa using this, rfl, fun j hj => by omega⟩
set_option maxRecDepth 5000 in
theorem Own.set {B : Nat} {w wr : World} {g : Nat} {t : TypeId} {n k : Nat} {f : Nat → Value} (h : Own B w wr g t n k f) (a : Addr) (v : Value) (hB : B ≤ a.block) (hne : g ≠ a.block) : Own B w (wr.setCell a v) g t n k f := by
  obtain ⟨c, hr, hs, hf⟩ := h.row
  exact ⟨h.below.setCell hB _, by simp [World.setCell]; exact h.size, c, hr.other a v hne, hs, hf⟩
/- a whole row, by value, out of and into a block -/
set_option maxRecDepth 5000 in
theorem setRow_same {w : World} {g : Nat} {t : TypeId} {c : Array Value} (h : RowAt w g t c) (c' : Array Value) : RowAt (w.setRow g c') g t c' := by
  unfold RowAt at *
  simp only [World.setRow, Array.getElem?_modify]
  rw [if_pos trivial, h]; rfl
set_option maxRecDepth 5000 in
theorem setRow_other {w : World} {g g' : Nat} {t : TypeId} {c : Array Value} (h : RowAt w g t c) (c' : Array Value) (hne : g ≠ g') : RowAt (w.setRow g' c') g t c := by
  unfold RowAt at *
  simp only [World.setRow, Array.getElem?_modify]
  rw [if_neg (fun e => hne e.symm)]; exact h
set_option maxRecDepth 5000 in
theorem below_setRow {B g : Nat} {w0 w : World} (hb : Below B w0 w) (hBg : B ≤ g) (cs : Array Value) : Below B w0 (w.setRow g cs) :=
  hb.trans ⟨rfl, rfl, rfl, by simp, fun k hk => by simp only [World.setRow, Array.getElem?_modify]; rw [if_neg (by omega)]⟩
set_option maxRecDepth 5000 in
theorem wpList_load_rowAt {P : Program} {ops : Array Oper} {rest : List Oper} {o : Oper} {a : Act} {w : World} {Q : Exit → Act → World → Prop} (hgd : o.guard = none) (ty : TypeId) (x : Operand) (ho : o.op = .load ty x)
    (g : Nat) (hx : a.eval x = .pointer (some ⟨g, 0, none⟩)) (t : TypeId) (cs : Array Value) (d : TypeDesc) (hg : RowAt w g t cs)
    (hu : P.underlying ty = some d) (hd : (match d with | .struct _ | .array _ _ => true | _ => false) = true) (hi : (P.info? ty).map (·.size) = some cs.size)
    (h : wpList P ops Q rest (a.put o.dst (.agg cs)) w) : wpList P ops Q (o :: rest) a w :=
  wpList_load_row hgd ty x ho g hx t cs (0, 0) d hg hu hd hi h
set_option maxRecDepth 5000 in
theorem wpList_store_rowAt {P : Program} {ops : Array Oper} {rest : List Oper} {o : Oper} {a : Act} {w : World} {Q : Exit → Act → World → Prop} (hgd : o.guard = none) (ty : TypeId) (x y : Operand) (ho : o.op = .store ty x y)
    (g : Nat) (cells : Array Value) (hx : a.eval x = .pointer (some ⟨g, 0, none⟩)) (hy : a.eval y = .agg cells) (t : TypeId) (old : Array Value) (hg : RowAt w g t old)
    (hi : (P.info? ty).map (·.size) = some cells.size) (ho2 : old.size = cells.size) (h1 : cells.all (·.oneCell') = true)
    (h : wpList P ops Q rest (a.put o.dst undef) (w.setRow g cells)) : wpList P ops Q (o :: rest) a w :=
  wpList_plain hgd fun _ hK => by
    unfold Oper.wp execOp
    simp only [ho, hx, hy, Instr.storeAt, Instr.sureAddr, Sem.run_bind, Sem.run_pure, Result.andThen_ok, run_storeVar_row w g t ty old cells hg hi ho2 h1]
    exact hK _ _ h
set_option maxRecDepth 5000 in
theorem results_rowAt {P : Program} {fn : Func} {p : Tmp} {ty : TypeId} (h : fn.results = #[.cell p ty]) (tmps : Array Value) (w : World) (g : Nat) (t : TypeId) (cs : Array Value) (d : TypeDesc)
    (hp : tmps.getD p undef = .pointer (some ⟨g, 0, none⟩)) (hg : RowAt w g t cs)
    (hu : P.underlying ty = some d) (hd : (match d with | .struct _ | .array _ _ => true | _ => false) = true) (hi : (P.info? ty).map (·.size) = some cs.size) :
    (results fn tmps).run P w = .ok (.agg cs) w := results_cell_row h tmps w g t cs (0, 0) d hp hg hu hd hi
/- words and bytes as rows -/
def fw (f : Nat → BitVec 32) (j : Nat) : Value := .int .u32 (f j).toNat
def fb (f : Nat → BitVec 8) (j : Nat) : Value := .int .u8 (f j).toNat
def rowW (n : Nat) (f : Nat → BitVec 32) : Array Value := ((List.range n).map (fw f)).toArray
def rowB (n : Nat) (f : Nat → BitVec 8) : Array Value := ((List.range n).map (fb f)).toArray
set_option maxRecDepth 5000 in
theorem rowW_size (n : Nat) (f : Nat → BitVec 32) : (rowW n f).size = n := by simp [rowW]
set_option maxRecDepth 5000 in
theorem rowB_size (n : Nat) (f : Nat → BitVec 8) : (rowB n f).size = n := by simp [rowB]
set_option maxRecDepth 5000 in
theorem rowW_one (n : Nat) (f : Nat → BitVec 32) : (rowW n f).all (·.oneCell') = true := all_oneCell_toArray (fun v hv => by
  simp only [List.mem_map] at hv; obtain ⟨j, _, rfl⟩ := hv; rfl)
set_option maxRecDepth 5000 in
theorem rowB_one (n : Nat) (f : Nat → BitVec 8) : (rowB n f).all (·.oneCell') = true := all_oneCell_toArray (fun v hv => by
  simp only [List.mem_map] at hv; obtain ⟨j, _, rfl⟩ := hv; rfl)
set_option maxRecDepth 5000 in
theorem rowW_get (n : Nat) (f : Nat → BitVec 32) (j : Nat) (h : j < n) : (rowW n f)[j]? = some (.int .u32 (f j).toNat) := by simp [rowW, fw, h]
set_option maxRecDepth 5000 in
theorem rowB_get (n : Nat) (f : Nat → BitVec 8) (j : Nat) (h : j < n) : (rowB n f)[j]? = some (.int .u8 (f j).toNat) := by simp [rowB, fb, h]
set_option maxRecDepth 5000 in
theorem Own.wholeW {B : Nat} {w wr : World} {g : Nat} {t : TypeId} {n : Nat} {f : Nat → BitVec 32} (h : Own B w wr g t n n (fw f)) : RowAt wr g t (rowW n f) := by
  obtain ⟨c, hr, hs, hf⟩ := h.row
  have := hf.whole hs
  subst this; exact hr
set_option maxRecDepth 5000 in
theorem Own.wholeB {B : Nat} {w wr : World} {g : Nat} {t : TypeId} {n : Nat} {f : Nat → BitVec 8} (h : Own B w wr g t n n (fb f)) : RowAt wr g t (rowB n f) := by
  obtain ⟨c, hr, hs, hf⟩ := h.row
  have := hf.whole hs
  subst this; exact hr
set_option maxRecDepth 5000 in
theorem w_sum4 (a b c d : BitVec 32) : ((a.toNat : Int) + (b.toNat : Int) + (c.toNat : Int) + (d.toNat : Int)) % 4294967296 = ((Sha.add (Sha.add (Sha.add a b) c) d).toNat : Int) := by
  rw [← w_add, ← w_add, ← w_add]; omega
set_option maxRecDepth 5000 in
theorem w_sum5 (a b c d e : BitVec 32) : ((a.toNat : Int) + (b.toNat : Int) + (c.toNat : Int) + (d.toNat : Int) + (e.toNat : Int)) % 4294967296 = ((Sha.add (Sha.add (Sha.add (Sha.add a b) c) d) e).toNat : Int) := by
  rw [← w_add, ← w_add, ← w_add, ← w_add]; omega
set_option maxRecDepth 5000 in
theorem w_sum3 (a b c : BitVec 32) : ((a.toNat : Int) + (b.toNat : Int) + (c.toNat : Int)) % 4294967296 = ((Sha.add (Sha.add a b) c).toNat : Int) := by
  rw [← w_add, ← w_add]; omega
end H
end Go.Proofs.YtgmjppmcfmcmkaaDoor
