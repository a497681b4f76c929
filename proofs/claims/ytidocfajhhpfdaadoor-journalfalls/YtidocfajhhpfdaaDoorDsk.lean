/- A disk in memory; New, Sectors, Size, Dead, has, spend, Cut. -/
import Derived.Test.YtidocfajhhpfdaaDoorMpi
namespace Go.Proofs.YtidocfajhhpfdaaDoor
open Go.RowKit
/- rows of bytes are kept -/
def Rows (w w' : World) : Prop := ∀ g c, RowAt w g 5 c → RowAt w' g 5 c
set_option maxRecDepth 5000 in
theorem Rows.trans {w w' w'' : World} (h : Rows w w') (h' : Rows w' w'') : Rows w w'' := fun g c hg => h' g c (h g c hg)
set_option maxRecDepth 5000 in
theorem Rows.refl (w : World) : Rows w w := fun _ _ h => h
/- the value v is the list of bytes of a sector (none: nil) -/
def Sec (A : Nat → Prop) (w : World) (sz : Nat) (v : Value) : Option (List UInt8) → Prop
  | none => v = .slice none 0 0
  | some l => l.length = sz ∧ OwnB w 0 v l ∧ ∀ g, v.ownBlock = some g → ¬ A g
/- rows of bytes are kept, but for those of A -/
def RowsA (A : Nat → Prop) (w w' : World) : Prop := ∀ g c, ¬ A g → RowAt w g 5 c → RowAt w' g 5 c
set_option maxRecDepth 5000 in
theorem Rows.any {A : Nat → Prop} {w w' : World} (h : Rows w w') : RowsA A w w' := fun g c _ hg => h g c hg
def dkRow (sz S n M : Nat) (dead cut : Bool) (left : Nat) : Array Value := #[.int .i64 (sz : Int), .slice (some ⟨S, 0, none⟩) n n, .map (some M), .bool dead, .bool cut, .int .i64 (left : Int)]
/- block D is a disk s, none of whose sectors lies in a block of A; block S its list of what is sure (the values sv), block M its map of what is not (the values uv) -/
structure Dk (A : Nat → Prop) (w : World) (D S M : Nat) (s : K.St) (sv : Nat → Value) (uv : Nat → Option Value) : Prop where
  row : RowAt w D 63 (dkRow s.sz S s.n M s.dead s.cut s.left)
  sure : RowAt w S 22 ((List.range s.n).map sv).toArray
  un : MapAt w M uv s.n
  hsu : ∀ i, i < s.n → Sec A w s.sz (sv i) (s.su i)
  hun : ∀ i, (uv i).isSome = (s.un i).isSome
  huv : ∀ i v l, uv i = some v → s.un i = some l → Sec A w s.sz v (some l)
  hlt : ∀ i, (s.un i).isSome = true → i < s.n
  b1 : 64 ≤ s.sz
  b2 : s.sz ≤ 4096
  b3 : 1 ≤ s.n
  b4 : s.n ≤ 4096
  b5 : s.left ≤ 9223372036854775807
  hA : ∀ g, A g → g < w.heap.size
def DiskAt (A : Nat → Prop) (w : World) (D S M : Nat) (s : K.St) : Prop := ∃ sv uv, Dk A w D S M s sv uv
/- all blocks but these are as they were -/
structure Mv (D S M : Nat) (w w' : World) : Prop where
  os : w'.os = w.os
  tape : w'.tape = w.tape
  output : w'.output = w.output
  size : w.heap.size ≤ w'.heap.size
  block : ∀ g, g < w.heap.size → g ≠ D → g ≠ S → g ≠ M → w'.heap[g]? = w.heap[g]?
set_option maxRecDepth 5000 in
theorem Mv.refl (D S M : Nat) (w : World) : Mv D S M w w := ⟨rfl, rfl, rfl, Nat.le_refl _, fun _ _ _ _ _ => rfl⟩
set_option maxRecDepth 5000 in
theorem Mv.trans {D S M M' : Nat} {w w' w'' : World} (h : Mv D S M w w') (h' : Mv D S M' w' w'') (hM : M' = M ∨ w.heap.size ≤ M') : Mv D S M w w'' := by
  refine ⟨h'.os.trans h.os, h'.tape.trans h.tape, h'.output.trans h.output, Nat.le_trans h.size h'.size, fun g hg h1 h2 h3 => ?_⟩
  rw [h'.block g (Nat.lt_of_lt_of_le hg h.size) h1 h2 (by rcases hM with rfl | hM; exact h3; omega), h.block g hg h1 h2 h3]
set_option maxRecDepth 5000 in
theorem Mv.of_below {D S M : Nat} {w w' : World} (h : Below w.heap.size w w') : Mv D S M w w' := ⟨h.os, h.tape, h.output, h.size, fun g hg _ _ _ => h.block g hg⟩
set_option maxRecDepth 5000 in
theorem Mv.below {D S M B : Nat} {w0 w w' : World} (h : Mv D S M w w') (hb : Below B w0 w) (hB : B ≤ w.heap.size) (hD : B ≤ D) (hS : B ≤ S) (hM : B ≤ M) : Below B w0 w' :=
  ⟨h.os.trans hb.os, h.tape.trans hb.tape, h.output.trans hb.output, Nat.le_trans hb.size h.size, fun g hg => by rw [h.block g (by omega) (by omega) (by omega) (by omega), hb.block g hg]⟩
set_option maxRecDepth 5000 in
theorem Mv.setD {D S M : Nat} (w : World) (j : Nat) (v : Value) : Mv D S M w (w.setCell ⟨D, j, none⟩ v) :=
  ⟨by unfold World.setCell; split <;> rfl, by unfold World.setCell; split <;> rfl, by unfold World.setCell; split <;> rfl, by simp, fun g _ h _ _ => heap_setCell_other _ _ _ _ h⟩
set_option maxRecDepth 5000 in
theorem OwnB.heap {w w' : World} {base : Nat} {v : Value} {l : List UInt8} (h : OwnB w base v l) (hk : Rows w w') : OwnB w' base v l := by
  have h0 : w.ownsRow base 5 1 v l.length (vb l) := h
  refine ⟨h0.1, ?_⟩
  rcases h0.2 with h1 | ⟨g, cap, cur, e, h1, h2, h3⟩
  · exact Or.inl h1
  · exact Or.inr ⟨g, cap, cur, e, h1, hk g cur h2, h3⟩
set_option maxRecDepth 5000 in
theorem OwnB.heapA {A : Nat → Prop} {w w' : World} {base : Nat} {v : Value} {l : List UInt8} (h : OwnB w base v l) (hv : ∀ g, v.ownBlock = some g → ¬ A g) (hk : RowsA A w w') : OwnB w' base v l := by
  have h0 : w.ownsRow base 5 1 v l.length (vb l) := h
  refine ⟨h0.1, ?_⟩
  rcases h0.2 with h1 | ⟨g, cap, cur, e, h1, h2, h3⟩
  · exact Or.inl h1
  · exact Or.inr ⟨g, cap, cur, e, h1, hk g cur (hv g (by rw [e]; rfl)) h2, h3⟩
set_option maxRecDepth 5000 in
theorem Sec.heapA {A : Nat → Prop} {w w' : World} {sz : Nat} {v : Value} {o : Option (List UInt8)} (h : Sec A w sz v o) (hk : RowsA A w w') : Sec A w' sz v o := by
  cases o with
  | none => exact h
  | some l => exact ⟨h.1, h.2.1.heapA h.2.2 hk, h.2.2⟩
set_option maxRecDepth 5000 in
theorem Sec.heap {A : Nat → Prop} {w w' : World} {sz : Nat} {v : Value} {o : Option (List UInt8)} (h : Sec A w sz v o) (hk : Rows w w') : Sec A w' sz v o := h.heapA hk.any
set_option maxRecDepth 5000 in
theorem tne1 : 63 ≠ 5 := by decide
set_option maxRecDepth 5000 in
theorem tne2 : 22 ≠ 5 := by decide
set_option maxRecDepth 5000 in
theorem tne3 : 63 ≠ 22 := by decide
set_option maxRecDepth 5000 in
theorem RowAt.ne {w : World} {g g' : Nat} {t t' : TypeId} {c c' : Array Value} (h : RowAt w g t c) (h' : RowAt w g' t' c') (ht : t ≠ t') : g ≠ g' := fun e => by
  unfold RowAt at h h'; rw [e, h'] at h; injection h with h; injection h with _ h; exact ht h.symm
set_option maxRecDepth 5000 in
theorem Dk.DS {A : Nat → Prop} {w : World} {D S M : Nat} {s : K.St} {sv : Nat → Value} {uv : Nat → Option Value} (h : Dk A w D S M s sv uv) : D ≠ S := h.row.ne h.sure tne3
set_option maxRecDepth 5000 in
theorem Dk.DM {A : Nat → Prop} {w : World} {D S M : Nat} {s : K.St} {sv : Nat → Value} {uv : Nat → Option Value} (h : Dk A w D S M s sv uv) : D ≠ M := h.un.row_ne h.row
set_option maxRecDepth 5000 in
theorem Dk.SM {A : Nat → Prop} {w : World} {D S M : Nat} {s : K.St} {sv : Nat → Value} {uv : Nat → Option Value} (h : Dk A w D S M s sv uv) : S ≠ M := h.un.row_ne h.sure
/- rows of bytes are kept by what moves a disk alone -/
set_option maxRecDepth 5000 in
theorem Mv.rows {A : Nat → Prop} {w w' : World} {D S M : Nat} {s : K.St} {sv : Nat → Value} {uv : Nat → Option Value} (h : Dk A w D S M s sv uv) (hm : Mv D S M w w') : Rows w w' := fun g c hg => by
  have e := hm.block g hg.lt (fun e => (h.row.ne hg tne1) e.symm) (fun e => (h.sure.ne hg tne2) e.symm) (h.un.row_ne hg)
  exact e.trans hg
/- a disk is kept where its three blocks are, and rows of bytes -/
set_option maxRecDepth 5000 in
theorem Dk.keepA {A : Nat → Prop} {w w' : World} {D S M : Nat} {s : K.St} {sv : Nat → Value} {uv : Nat → Option Value} (h : Dk A w D S M s sv uv) (hz : w.heap.size ≤ w'.heap.size) (hD : w'.heap[D]? = w.heap[D]?) (hS : w'.heap[S]? = w.heap[S]?) (hM : w'.heap[M]? = w.heap[M]?)
    (hk : RowsA A w w') : Dk A w' D S M s sv uv :=
  ⟨hD.trans h.row, hS.trans h.sure, h.un.heap hM, fun i hi => (h.hsu i hi).heapA hk, h.hun, fun i v l h1 h2 => (h.huv i v l h1 h2).heapA hk, h.hlt, h.b1, h.b2, h.b3, h.b4, h.b5, fun g hg => Nat.lt_of_lt_of_le (h.hA g hg) hz⟩
set_option maxRecDepth 5000 in
theorem Dk.below {A : Nat → Prop} {w w' : World} {B D S M : Nat} {s : K.St} {sv : Nat → Value} {uv : Nat → Option Value} (h : Dk A w D S M s sv uv) (hb : Below B w w') (hB : w.heap.size ≤ B) : Dk A w' D S M s sv uv :=
  h.keepA hb.size (hb.block _ (Nat.lt_of_lt_of_le h.row.lt hB)) (hb.block _ (Nat.lt_of_lt_of_le h.sure.lt hB)) (hb.block _ (Nat.lt_of_lt_of_le h.un.lt hB)) fun _ _ _ hg => hg.below hb (Nat.lt_of_lt_of_le hg.lt hB)
/- a new block is none of the disk's -/
set_option maxRecDepth 5000 in
theorem Sec.lt {A : Nat → Prop} {w : World} {sz : Nat} {v : Value} {o : Option (List UInt8)} (h : Sec A w sz v o) (g : Nat) (hg : v.ownBlock = some g) : g < w.heap.size := by
  cases o with
  | none => rw [show v = _ from h] at hg; cases hg
  | some l =>
    have h0 : w.ownsRow 0 5 1 v l.length (vb l) := h.2.1
    rcases h0.2 with ⟨e, _⟩ | ⟨g', cap, cur, e, _, h2, _⟩
    · rw [e] at hg; cases hg
    · rw [e] at hg; injection hg with hg; subst hg; exact (Array.getElem?_eq_some_iff.1 h2).1
set_option maxRecDepth 5000 in
theorem Sec.more {A A' : Nat → Prop} {w : World} {sz : Nat} {v : Value} {o : Option (List UInt8)} (h : Sec A w sz v o) (hA : ∀ g, A' g → A g ∨ w.heap.size ≤ g) : Sec A' w sz v o := by
  cases o with
  | none => exact h
  | some l => exact ⟨h.1, h.2.1, fun g hg hA' => by
      rcases hA g hA' with h1 | h1
      · exact h.2.2 g hg h1
      · have := h.lt g hg; omega⟩
set_option maxRecDepth 5000 in
theorem DiskAt.avoid {A A' : Nat → Prop} {w w' : World} {D S M : Nat} {s : K.St} (h : DiskAt A w D S M s) (hb : Below w.heap.size w w') (hA : ∀ g, A' g → A g ∨ (w.heap.size ≤ g ∧ g < w'.heap.size)) : DiskAt A' w' D S M s := by
  obtain ⟨sv, uv, h⟩ := h
  have h' := h.below hb (Nat.le_refl _)
  have hk : RowsA A' w w' := fun _ _ _ hg => hg.below hb hg.lt
  refine ⟨sv, uv, h'.row, h'.sure, h'.un, fun i hi => ((h.hsu i hi).more fun g hg => ?_).heapA hk, h.hun, fun i v l h1 h2 => ((h.huv i v l h1 h2).more fun g hg => ?_).heapA hk, h.hlt, h.b1, h.b2, h.b3, h.b4, h.b5, fun g hg => ?_⟩
  · rcases hA g hg with h1 | h1
    · exact Or.inl h1
    · exact Or.inr h1.1
  · rcases hA g hg with h1 | h1
    · exact Or.inl h1
    · exact Or.inr h1.1
  · rcases hA g hg with h1 | h1
    · exact h'.hA g h1
    · exact h1.2
set_option maxRecDepth 5000 in
theorem DiskAt.below {A : Nat → Prop} {w w' : World} {B D S M : Nat} {s : K.St} (h : DiskAt A w D S M s) (hb : Below B w w') (hB : w.heap.size ≤ B) : DiskAt A w' D S M s := by
  obtain ⟨sv, uv, h⟩ := h; exact ⟨sv, uv, h.below hb hB⟩
set_option maxRecDepth 5000 in
theorem DiskAt.alloc {A : Nat → Prop} {w : World} {D S M : Nat} {s : K.St} (h : DiskAt A w D S M s) (o : Obj) : DiskAt A (w.alloc o) D S M s := h.below ((Below.refl w.heap.size w).alloc (Nat.le_refl _) o) (Nat.le_refl _)
set_option maxRecDepth 5000 in
theorem Dk.cell {A : Nat → Prop} {w : World} {D S M : Nat} {s : K.St} {sv : Nat → Value} {uv : Nat → Option Value} (h : Dk A w D S M s sv uv) (j : Nat) : w.cell? ⟨D, j, none⟩ = (dkRow s.sz S s.n M s.dead s.cut s.left)[j]? := h.row.cell j
set_option maxRecDepth 5000 in
theorem sectors_any {A : Nat → Prop} (w : World) (D S M : Nat) (s : K.St) (h : DiskAt A w D S M s) : Calls Tryd.prog 28 #[.pointer (some ⟨D, 0, none⟩)] w fun e w' => e = .returned (.int .i64 (s.n : Int)) ∧ w' = w := by
  obtain ⟨sv, uv, h⟩ := h
  have c1 : w.cell? ⟨D, 1, none⟩ = some (.slice (some ⟨S, 0, none⟩) s.n s.n) := h.cell 1
  clear h
  go_enter Tryd.func28, Tryd.ntmps28
  go_wp2
  go_ret
  exact ⟨rfl, rfl⟩
set_option maxRecDepth 5000 in
theorem size_any {A : Nat → Prop} (w : World) (D S M : Nat) (s : K.St) (h : DiskAt A w D S M s) : Calls Tryd.prog 55 #[.pointer (some ⟨D, 0, none⟩)] w fun e w' => e = .returned (.int .i64 (s.sz : Int)) ∧ w' = w := by
  obtain ⟨sv, uv, h⟩ := h
  have c1 : w.cell? ⟨D, 0, none⟩ = some (.int .i64 (s.sz : Int)) := h.cell 0
  clear h
  go_enter Tryd.func55, Tryd.ntmps55
  go_wp2
  go_ret
  exact ⟨rfl, rfl⟩
set_option maxRecDepth 5000 in
theorem dead_any {A : Nat → Prop} (w : World) (D S M : Nat) (s : K.St) (h : DiskAt A w D S M s) : Calls Tryd.prog 23 #[.pointer (some ⟨D, 0, none⟩)] w fun e w' => e = .returned (.bool s.dead) ∧ w' = w := by
  obtain ⟨sv, uv, h⟩ := h
  have c1 : w.cell? ⟨D, 3, none⟩ = some (.bool s.dead) := h.cell 3
  clear h
  go_enter Tryd.func23, Tryd.ntmps23
  go_wp2
  go_ret
  exact ⟨rfl, rfl⟩
set_option maxRecDepth 5000 in
theorem has_any {A : Nat → Prop} (w : World) (D S M : Nat) (s : K.St) (h : DiskAt A w D S M s) (i : Int) : Calls Tryd.prog 40 #[.pointer (some ⟨D, 0, none⟩), .int .i64 i] w fun e w' => e = .returned (.bool (decide (0 ≤ i) && decide (i < (s.n : Int)))) ∧ w' = w := by
  obtain ⟨sv, uv, h⟩ := h
  have c1 : w.cell? ⟨D, 1, none⟩ = some (.slice (some ⟨S, 0, none⟩) s.n s.n) := h.cell 1
  clear h
  cases h0 : decide (0 ≤ i)
  · go_enter Tryd.func40, Tryd.ntmps40
    go_wp2
    go_ret
    exact ⟨rfl, rfl⟩
  · go_enter Tryd.func40, Tryd.ntmps40
    go_wp2
    go_ret
    refine ⟨?_, rfl⟩
    simp
end Go.Proofs.YtidocfajhhpfdaaDoor
