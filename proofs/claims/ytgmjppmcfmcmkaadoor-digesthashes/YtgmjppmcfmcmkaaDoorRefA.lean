/- What the loops of signetref1.Sum keep: old memory, the state's row, the words' row. -/
import Derived.Test.YtgmjppmcfmcmkaaDoorRefT
namespace Go.Proofs.YtgmjppmcfmcmkaaDoor
namespace H
open Go.RowKit
/- wr is w3, but for the state's block g and for what is new -/
structure RefInv (w3 wr : World) (g : Nat) (s : Sha.St) : Prop where
  os : wr.os = w3.os
  tape : wr.tape = w3.tape
  output : wr.output = w3.output
  size : w3.heap.size ≤ wr.heap.size
  other : ∀ b, b < w3.heap.size → b ≠ g → wr.heap[b]? = w3.heap[b]?
  st : RowAt wr g 52 (rowS s)
set_option maxRecDepth 5000 in
theorem RefInv.cell {w3 wr : World} {g : Nat} {s : Sha.St} (h : RefInv w3 wr g s) {b o : Nat} (hb : b < w3.heap.size) (hne : b ≠ g) : wr.cell? ⟨b, o, none⟩ = w3.cell? ⟨b, o, none⟩ := World.cell?_of_block (w := w3) (h.other b hb hne)
set_option maxRecDepth 5000 in
theorem RefInv.row {w3 wr : World} {g : Nat} {s : Sha.St} (h : RefInv w3 wr g s) {b : Nat} {t : TypeId} {c : Array Value} (hr : RowAt w3 b t c) (hne : b ≠ g) : RowAt wr b t c := by
  unfold RowAt; rw [h.other b hr.lt hne]; exact hr
set_option maxRecDepth 5000 in
theorem RefInv.below {w w3 wr : World} {g B : Nat} {s : Sha.St} (h : RefInv w3 wr g s) (hb : Below B w w3) (hg : B ≤ g) (hB : B ≤ w3.heap.size) : Below B w wr :=
  hb.trans ⟨h.os, h.tape, h.output, h.size, fun k hk => h.other k (by omega) (by omega)⟩
set_option maxRecDepth 5000 in
theorem RefInv.drewN {w3 wr : World} {g : Nat} {s : Sha.St} (h : RefInv w3 wr g s) (n : Nat) : RefInv w3 (wr.drewN n) g s := ⟨h.os, h.tape, h.output, h.size, h.other, h.st⟩
set_option maxRecDepth 5000 in
theorem RefInv.drew {w3 wr : World} {g : Nat} {s : Sha.St} (h : RefInv w3 wr g s) : RefInv w3 wr.drew g s := ⟨h.os, h.tape, h.output, h.size, h.other, h.st⟩
set_option maxRecDepth 5000 in
theorem RefInv.alloc {w3 wr : World} {g : Nat} {s : Sha.St} (h : RefInv w3 wr g s) (o : Obj) : RefInv w3 (wr.alloc o) g s :=
  ⟨h.os, h.tape, h.output, by simp; exact Nat.le_succ_of_le h.size, fun b hb hne => by rw [Below.heap_alloc _ _ _ (Nat.lt_of_lt_of_le hb h.size)]; exact h.other b hb hne, h.st.alloc o⟩
set_option maxRecDepth 5000 in
theorem RefInv.set {w3 wr : World} {g : Nat} {s : Sha.St} (h : RefInv w3 wr g s) (a : Addr) (v : Value) (ha : w3.heap.size ≤ a.block) (hg : g < w3.heap.size) : RefInv w3 (wr.setCell a v) g s :=
  ⟨h.os, h.tape, h.output, by simp [World.setCell]; exact h.size, fun b hb hne => by rw [heap_setCell_other _ _ _ _ (by omega)]; exact h.other b hb hne, h.st.other a v (by omega)⟩
structure RefKeep (w3 wr : World) (g : Nat) : Prop where
  os : wr.os = w3.os
  tape : wr.tape = w3.tape
  output : wr.output = w3.output
  size : w3.heap.size ≤ wr.heap.size
  other : ∀ b, b < w3.heap.size → b ≠ g → wr.heap[b]? = w3.heap[b]?
set_option maxRecDepth 5000 in
theorem RefKeep.set {w3 wr : World} {g : Nat} (h : RefKeep w3 wr g) (i : Nat) (v : Value) : RefKeep w3 (wr.setCell ⟨g, i, none⟩ v) g :=
  ⟨h.os, h.tape, h.output, by simp [World.setCell]; exact h.size, fun b hb hne => by rw [heap_setCell_other _ _ _ _ hne]; exact h.other b hb hne⟩
set_option maxRecDepth 5000 in
theorem RefInv.keep {w3 wr : World} {g : Nat} {s : Sha.St} (h : RefInv w3 wr g s) : RefKeep w3 wr g := ⟨h.os, h.tape, h.output, h.size, h.other⟩
set_option maxRecDepth 5000 in
theorem RefKeep.inv {w3 wr : World} {g : Nat} {s : Sha.St} (h : RefKeep w3 wr g) (hs : RowAt wr g 52 (rowS s)) : RefInv w3 wr g s := ⟨h.os, h.tape, h.output, h.size, h.other, hs⟩
set_option maxRecDepth 5000 in
theorem RefInv.put {w3 wr : World} {g : Nat} {s : Sha.St} (h : RefInv w3 wr g s) (q : Sha.St) : RefInv w3 ((((((((wr.setCell ⟨g, 0, none⟩ (.int .u32 (((s.a.toNat : Int) + (q.a.toNat : Int)) % 4294967296))).setCell ⟨g, 1, none⟩ (.int .u32 (((s.b.toNat : Int) + (q.b.toNat : Int)) % 4294967296))).setCell ⟨g, 2, none⟩ (.int .u32 (((s.c.toNat : Int) + (q.c.toNat : Int)) % 4294967296))).setCell ⟨g, 3, none⟩ (.int .u32 (((s.d.toNat : Int) + (q.d.toNat : Int)) % 4294967296))).setCell ⟨g, 4, none⟩ (.int .u32 (((s.e.toNat : Int) + (q.e.toNat : Int)) % 4294967296))).setCell ⟨g, 5, none⟩ (.int .u32 (((s.f.toNat : Int) + (q.f.toNat : Int)) % 4294967296))).setCell ⟨g, 6, none⟩ (.int .u32 (((s.g.toNat : Int) + (q.g.toNat : Int)) % 4294967296))).setCell ⟨g, 7, none⟩ (.int .u32 (((s.h.toNat : Int) + (q.h.toNat : Int)) % 4294967296))) g (Sha.plus s q) := by
  simp only [w_add]
  exact ((((((((h.keep.set 0 _).set 1 _).set 2 _).set 3 _).set 4 _).set 5 _).set 6 _).set 7 _).inv (st_set h.st (Sha.plus s q))
set_option maxRecDepth 5000 in
theorem run_ixA {P : Program} {t e : TypeId} {n : Nat} (hu : P.underlying t = some (.array n e)) (he : (P.info? e).map (·.size) = some 1) (g : Nat) (i : Int) (m : Nat) (hi : i = (m : Int)) (hm : m < n) (w : World) :
    (Instr.indexAt t (.pointer (some ⟨g, 0, none⟩)) (.int .i64 i)).run P w = .ok (.pointer (some ⟨g, m, none⟩)) w := by
  subst hi
  have h1 := run_size he w
  simp [Instr.indexAt, Instr.sureAddr, run_underlying hu, asIntOf, h1, hm, Addr.add]
  intro h; exact h.symm
set_option maxRecDepth 5000 in
theorem keep2 {wr : World} {g a b i : Nat} {va vb v : Value} (h1 : wr.cell? ⟨g, a, none⟩ = some va) (h2 : wr.cell? ⟨g, b, none⟩ = some vb) (ha : a ≠ i) (hb : b ≠ i) : (wr.setCell ⟨g, i, none⟩ v).cell? ⟨g, a, none⟩ = some va ∧ (wr.setCell ⟨g, i, none⟩ v).cell? ⟨g, b, none⟩ = some vb :=
  ⟨(World.cell?_setCell_other _ _ _ _ (fun e => by first | (simp at e; done) | (simp at e; omega))).trans h1, (World.cell?_setCell_other _ _ _ _ (fun e => by first | (simp at e; done) | (simp at e; omega))).trans h2⟩
/- the words' row beside it -/
structure RefW (w3 wr : World) (g : Nat) (s : Sha.St) (gw : Nat) (k : Nat) (f : Nat → BitVec 32) : Prop where
  inv : RefInv w3 wr g s
  row : ∃ c, RowAt wr gw 61 c ∧ c.size = 64 ∧ First k (fw f) c
set_option maxRecDepth 5000 in
theorem RefW.cell {w3 wr : World} {g : Nat} {s : Sha.St} {gw k : Nat} {f : Nat → BitVec 32} (h : RefW w3 wr g s gw k f) (j : Nat) (hj : j < k) : wr.cell? ⟨gw, j, none⟩ = some (.int .u32 (f j).toNat) := by
  obtain ⟨c, hr, _, hf⟩ := h.row
  rw [hr.cell, hf j hj]; rfl
set_option maxRecDepth 5000 in
theorem RefW.some {w3 wr : World} {g : Nat} {s : Sha.St} {gw k : Nat} {f : Nat → BitVec 32} (h : RefW w3 wr g s gw k f) (j : Nat) (hj : j < 64) : ∃ v, wr.cell? ⟨gw, j, none⟩ = some v := by
  obtain ⟨c, hr, hs, _⟩ := h.row
  exact rowAt_some hr j (by omega)
set_option maxRecDepth 5000 in
theorem RefW.frozen {w3 wr : World} {g : Nat} {s : Sha.St} {gw k : Nat} {f : Nat → BitVec 32} (h : RefW w3 wr g s gw k f) (j : Nat) : wr.frozen? ⟨gw, j, none⟩ = false := by
  obtain ⟨c, hr, _, _⟩ := h.row
  exact hr.frozen j
set_option maxRecDepth 5000 in
theorem RefW.drewN {w3 wr : World} {g : Nat} {s : Sha.St} {gw k : Nat} {f : Nat → BitVec 32} (h : RefW w3 wr g s gw k f) (n : Nat) : RefW w3 (wr.drewN n) g s gw k f := ⟨h.inv.drewN n, h.row⟩
set_option maxRecDepth 5000 in
theorem RefW.drew {w3 wr : World} {g : Nat} {s : Sha.St} {gw k : Nat} {f : Nat → BitVec 32} (h : RefW w3 wr g s gw k f) : RefW w3 wr.drew g s gw k f := ⟨h.inv.drew, h.row⟩
set_option maxRecDepth 5000 in
theorem RefW.step {w3 wr : World} {g : Nat} {s : Sha.St} {gw k : Nat} {f : Nat → BitVec 32} (h : RefW w3 wr g s gw k f) (hk : k < 64) (hgw : w3.heap.size ≤ gw) (hg : g < w3.heap.size) : RefW w3 (wr.setCell ⟨gw, k, none⟩ (.int .u32 (f k).toNat)) g s gw (k + 1) f := by
  obtain ⟨c, hr, hs, hf⟩ := h.row
  exact ⟨h.inv.set _ _ hgw hg, _, hr.set k (fw f k), by simp [hs], hf.step (by omega)⟩
end H
end Go.Proofs.YtgmjppmcfmcmkaaDoor
