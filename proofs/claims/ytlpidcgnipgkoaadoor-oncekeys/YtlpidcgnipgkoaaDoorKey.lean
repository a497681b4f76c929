/- The law OnceKeys, first part: two public keys are made, in whatever order Go takes. -/
import Derived.Test.YtlpidcgnipgkoaaDoorSns
import Derived.Deep.CutRange
namespace Go.Proofs.YtlpidcgnipgkoaaDoor
open Go.RowKit
def row8 : Option Obj → Bool
  | some (.cells c t (0, 0)) => t == 22 && c.size == 8
  | _ => false
def Row8 (w : World) (g : Nat) : Bool := row8 w.heap[g]?
set_option maxRecDepth 5000 in
theorem Row8.of {w : World} {g : Nat} {c : Array Value} (h : RowAt w g 22 c) (hs : c.size = 8) : Row8 w g = true := by
  unfold Row8; rw [show w.heap[g]? = _ from h]; simp [row8, hs]
set_option maxRecDepth 5000 in
theorem Row8.get {w : World} {g : Nat} (h : Row8 w g = true) : ∃ c, RowAt w g 22 c ∧ c.size = 8 := by
  unfold Row8 row8 at h
  split at h
  · next c t e =>
    simp only [Bool.and_eq_true, beq_iff_eq] at h
    obtain ⟨rfl, h2⟩ := h
    exact ⟨c, e, h2⟩
  · cases h
set_option maxRecDepth 5000 in
theorem row8_new (w : World) (k : Nat) (h : k = w.heap.size) : Row8 (w.alloc (.cells #[.int .u8 0, .int .u8 0, .int .u8 0, .int .u8 0, .int .u8 0, .int .u8 0, .int .u8 0, .int .u8 0] 22)) k = true := by
  subst h; exact Row8.of (RowAt.new w 22 _) rfl
set_option maxRecDepth 5000 in
theorem row8_alloc (w : World) (o : Obj) (k : Nat) (h : k < w.heap.size) : Row8 (w.alloc o) k = Row8 w k := by
  unfold Row8; rw [Below.heap_alloc _ _ _ h]
set_option maxRecDepth 5000 in
theorem row8_drew (w : World) (k : Nat) : Row8 w.drew k = Row8 w k := rfl
set_option maxRecDepth 5000 in
theorem row8_call {w w' : World} (hb : Below w.heap.size w w') : ∀ k, k < w.heap.size → Row8 w' k = Row8 w k := fun k h => by
  unfold Row8; rw [hb.block k h]
set_option maxRecDepth 5000 in
theorem row8_set (w : World) (g : Nat) (F : Nat → BitVec 8) (k : Nat) (h : Row8 w g = true) : Row8 (w.setRow g (rowB 8 F)) k = Row8 w k := by
  obtain ⟨c, hr, hs⟩ := Row8.get h
  by_cases e : k = g
  · subst e
    rw [Row8.of (setRow_same hr (rowB 8 F)) (rowB_size _ _), h]
  · unfold Row8
    simp only [World.setRow, Array.getElem?_modify]
    rw [if_neg (fun h => e h.symm)]
set_option maxRecDepth 5000 in
theorem row8_store (w : World) (g : Nat) (F : Nat → BitVec 8) (h : Row8 w g = true) : (storeCells ⟨g, 0, none⟩ (rowB 8 F).toList).run Tryd.prog w = .ok () (w.setRow g (rowB 8 F)) := by
  obtain ⟨c, hr, hs⟩ := Row8.get h
  exact run_store8 hr hs F
set_option maxRecDepth 5000 in
theorem row8_store2 (w : World) (g g' : Nat) (F F' : Nat → BitVec 8) (h : Row8 w g = true) (h' : Row8 w g' = true) : (storeCells ⟨g', 0, none⟩ (rowB 8 F').toList).run Tryd.prog (w.setRow g (rowB 8 F)) = .ok () ((w.setRow g (rowB 8 F)).setRow g' (rowB 8 F')) :=
  row8_store _ g' F' (by rw [row8_set w g F g' h]; exact h')
set_option maxRecDepth 5000 in
theorem szA (w : World) (o : Obj) : w.heap.size + 1 = (w.alloc o).heap.size := by simp
set_option maxRecDepth 5000 in
theorem row8_lt {w : World} {k : Nat} (h : Row8 w k = true) : k < w.heap.size := by
  obtain ⟨c, hr, _⟩ := Row8.get h
  exact hr.lt
set_option maxRecDepth 5000 in
theorem row8_keep {w : World} {k : Nat} (h : Row8 w k = true) (o : Obj) : Row8 (w.alloc o) k = true := by rw [row8_alloc w o k (row8_lt h)]; exact h
set_option maxRecDepth 5000 in
theorem row8_gone {w w' : World} {k : Nat} (h : Row8 w k = true) (hb : Below w.heap.size w w') : Row8 w' k = true := by rw [row8_call hb k (row8_lt h)]; exact h
set_option maxRecDepth 5000 in
theorem QInv.allocd {f : Nat → BitVec 8} {w wr : World} (h : QInv f w wr) (o : Obj) : QInv f w (wr.alloc o) := h.next ((Below.refl _ _).alloc h.lt _)
set_option maxRecDepth 5000 in
theorem QInv.called {f : Nat → BitVec 8} {w wr w' : World} (h : QInv f w wr) (hb : Below wr.heap.size wr w') : QInv f w w' := h.next (hb.mono h.lt)
set_option maxRecDepth 5000 in
theorem QInv.stored {f : Nat → BitVec 8} {w wr : World} (h : QInv f w wr) (g : Nat) (c : Array Value) (hg : w.heap.size < g) : QInv f w (wr.setRow g c) := h.next (below_setRow (Below.refl _ _) hg _)
set_option maxRecDepth 5000 in
theorem QInv.loads {f : Nat → BitVec 8} {w w' : World} (h : QInv f w w') : QInv f w w' ∧ w'.cell? ⟨w.heap.size, 0, none⟩ = some (.int .u8 (f 0).toNat) ∧ w'.cell? ⟨w.heap.size, 1, none⟩ = some (.int .u8 (f 1).toNat) ∧ w'.cell? ⟨w.heap.size, 2, none⟩ = some (.int .u8 (f 2).toNat) ∧ w'.cell? ⟨w.heap.size, 3, none⟩ = some (.int .u8 (f 3).toNat) ∧ w'.cell? ⟨w.heap.size, 4, none⟩ = some (.int .u8 (f 4).toNat) ∧ w'.cell? ⟨w.heap.size, 5, none⟩ = some (.int .u8 (f 5).toNat) ∧ w'.cell? ⟨w.heap.size, 6, none⟩ = some (.int .u8 (f 6).toNat) ∧ w'.cell? ⟨w.heap.size, 7, none⟩ = some (.int .u8 (f 7).toNat) := ⟨h, cells8 h.seed⟩
/- the seed's row and two more -/
structure K3 (f A B : Nat → BitVec 8) (a b : Nat) (w w' : World) : Prop where
  q : QInv f w w'
  fst : RowAt w' a 22 (rowB 8 A)
  snd : RowAt w' b 22 (rowB 8 B)
  la : w.heap.size < a
  lb : w.heap.size < b
set_option maxRecDepth 5000 in
theorem K3.of {f A B : Nat → BitVec 8} {a b : Nat} {w X : World} (hq : QInv f w ((X.setRow a (rowB 8 A)).setRow b (rowB 8 B))) (ha : Row8 X a = true) (hb : Row8 X b = true) (hne : a ≠ b) (h1 : w.heap.size < a) (h2 : w.heap.size < b) : K3 f A B a b w ((X.setRow a (rowB 8 A)).setRow b (rowB 8 B)) := by
  obtain ⟨ca, hra, hsa⟩ := Row8.get ha
  obtain ⟨cb, hrb, hsb⟩ := Row8.get hb
  exact ⟨hq, setRow_other (setRow_same hra _) _ hne, setRow_same (setRow_other hrb _ hne.symm) _, h1, h2⟩
set_option maxRecDepth 5000 in
theorem xor_byte (x y : Int) : ∃ b : BitVec 8, bits .xor .u8 x y = (b.toNat : Int) := by
  refine ⟨BitVec.ofInt 8 x ^^^ BitVec.ofInt 8 y, ?_⟩
  show IntKind.u8.wrap ((BitVec.ofInt 8 x ^^^ BitVec.ofInt 8 y).toNat : Int) = _
  rw [IntKind.wrap_u8]
  have := (BitVec.ofInt 8 x ^^^ BitVec.ofInt 8 y).isLt
  omega
def turned (f : Nat → BitVec 8) (k : Nat) (b : BitVec 8) (j : Nat) : BitVec 8 := if j = k then b else f j
set_option maxRecDepth 5000 in
theorem turned_row (f : Nat → BitVec 8) (k : Nat) (b : BitVec 8) (h : k < 8) : (rowB 8 f).setIfInBounds k (.int .u8 (b.toNat : Int)) = rowB 8 (turned f k b) := by
  apply Array.ext_getElem?
  intro j
  rw [Array.getElem?_setIfInBounds]
  by_cases e : k = j
  · subst e
    rw [if_pos rfl, if_pos (by rw [rowB_size]; exact h), rowB_get _ _ _ h]
    simp [turned]
  · rw [if_neg e]
    by_cases hj : j < 8
    · rw [rowB_get _ _ _ hj, rowB_get _ _ _ hj]
      simp [turned, Ne.symm e]
    · rw [Array.getElem?_eq_none (by rw [rowB_size]; omega), Array.getElem?_eq_none (by rw [rowB_size]; omega)]
/- five rows of eight bytes that are kept -/
structure K5 (f A B C D : Nat → BitVec 8) (a b c d : Nat) (w w' : World) : Prop where
  q : QInv f w w'
  ra : RowAt w' a 22 (rowB 8 A)
  rb : RowAt w' b 22 (rowB 8 B)
  rc : RowAt w' c 22 (rowB 8 C)
  rd : RowAt w' d 22 (rowB 8 D)
set_option maxRecDepth 5000 in
theorem K5.drew {f A B C D : Nat → BitVec 8} {a b c d : Nat} {w w' : World} (h : K5 f A B C D a b c d w w') : K5 f A B C D a b c d w w'.drew := ⟨h.q.drew, h.ra, h.rb, h.rc, h.rd⟩
set_option maxRecDepth 5000 in
theorem K5.called {f A B C D : Nat → BitVec 8} {a b c d : Nat} {w w' w2 : World} (h : K5 f A B C D a b c d w w') (hb : Below w'.heap.size w' w2) : K5 f A B C D a b c d w w2 := ⟨h.q.called hb, h.ra.below hb h.ra.lt, h.rb.below hb h.rb.lt, h.rc.below hb h.rc.lt, h.rd.below hb h.rd.lt⟩
set_option maxRecDepth 5000 in
theorem K5.loads {f A B C D : Nat → BitVec 8} {a b c d : Nat} {w w' : World} (h : K5 f A B C D a b c d w w') : K5 f A B C D a b c d w w' ∧ (w'.cell? ⟨w.heap.size, 0, none⟩ = some (.int .u8 (f 0).toNat) ∧ w'.cell? ⟨w.heap.size, 1, none⟩ = some (.int .u8 (f 1).toNat) ∧ w'.cell? ⟨w.heap.size, 2, none⟩ = some (.int .u8 (f 2).toNat) ∧ w'.cell? ⟨w.heap.size, 3, none⟩ = some (.int .u8 (f 3).toNat) ∧ w'.cell? ⟨w.heap.size, 4, none⟩ = some (.int .u8 (f 4).toNat) ∧ w'.cell? ⟨w.heap.size, 5, none⟩ = some (.int .u8 (f 5).toNat) ∧ w'.cell? ⟨w.heap.size, 6, none⟩ = some (.int .u8 (f 6).toNat) ∧ w'.cell? ⟨w.heap.size, 7, none⟩ = some (.int .u8 (f 7).toNat)) ∧ (w'.cell? ⟨a, 0, none⟩ = some (.int .u8 (A 0).toNat) ∧ w'.cell? ⟨a, 1, none⟩ = some (.int .u8 (A 1).toNat) ∧ w'.cell? ⟨a, 2, none⟩ = some (.int .u8 (A 2).toNat) ∧ w'.cell? ⟨a, 3, none⟩ = some (.int .u8 (A 3).toNat) ∧ w'.cell? ⟨a, 4, none⟩ = some (.int .u8 (A 4).toNat) ∧ w'.cell? ⟨a, 5, none⟩ = some (.int .u8 (A 5).toNat) ∧ w'.cell? ⟨a, 6, none⟩ = some (.int .u8 (A 6).toNat) ∧ w'.cell? ⟨a, 7, none⟩ = some (.int .u8 (A 7).toNat)) ∧ (w'.cell? ⟨b, 0, none⟩ = some (.int .u8 (B 0).toNat) ∧ w'.cell? ⟨b, 1, none⟩ = some (.int .u8 (B 1).toNat) ∧ w'.cell? ⟨b, 2, none⟩ = some (.int .u8 (B 2).toNat) ∧ w'.cell? ⟨b, 3, none⟩ = some (.int .u8 (B 3).toNat) ∧ w'.cell? ⟨b, 4, none⟩ = some (.int .u8 (B 4).toNat) ∧ w'.cell? ⟨b, 5, none⟩ = some (.int .u8 (B 5).toNat) ∧ w'.cell? ⟨b, 6, none⟩ = some (.int .u8 (B 6).toNat) ∧ w'.cell? ⟨b, 7, none⟩ = some (.int .u8 (B 7).toNat)) ∧ (w'.cell? ⟨c, 0, none⟩ = some (.int .u8 (C 0).toNat) ∧ w'.cell? ⟨c, 1, none⟩ = some (.int .u8 (C 1).toNat) ∧ w'.cell? ⟨c, 2, none⟩ = some (.int .u8 (C 2).toNat) ∧ w'.cell? ⟨c, 3, none⟩ = some (.int .u8 (C 3).toNat) ∧ w'.cell? ⟨c, 4, none⟩ = some (.int .u8 (C 4).toNat) ∧ w'.cell? ⟨c, 5, none⟩ = some (.int .u8 (C 5).toNat) ∧ w'.cell? ⟨c, 6, none⟩ = some (.int .u8 (C 6).toNat) ∧ w'.cell? ⟨c, 7, none⟩ = some (.int .u8 (C 7).toNat)) ∧ w'.cell? ⟨d, 0, none⟩ = some (.int .u8 (D 0).toNat) ∧ w'.cell? ⟨d, 1, none⟩ = some (.int .u8 (D 1).toNat) ∧ w'.cell? ⟨d, 2, none⟩ = some (.int .u8 (D 2).toNat) ∧ w'.cell? ⟨d, 3, none⟩ = some (.int .u8 (D 3).toNat) ∧ w'.cell? ⟨d, 4, none⟩ = some (.int .u8 (D 4).toNat) ∧ w'.cell? ⟨d, 5, none⟩ = some (.int .u8 (D 5).toNat) ∧ w'.cell? ⟨d, 6, none⟩ = some (.int .u8 (D 6).toNat) ∧ w'.cell? ⟨d, 7, none⟩ = some (.int .u8 (D 7).toNat) := ⟨h, cells8 h.q.seed, cells8 h.ra, cells8 h.rb, cells8 h.rc, cells8 h.rd⟩
set_option maxRecDepth 5000 in
theorem run_cmpl (F G : Nat → BitVec 8) (w : World) : (Op.equalIn 10000 22 (.agg #[.int .u8 (F 0).toNat, .int .u8 (F 1).toNat, .int .u8 (F 2).toNat, .int .u8 (F 3).toNat, .int .u8 (F 4).toNat, .int .u8 (F 5).toNat, .int .u8 (F 6).toNat, .int .u8 (F 7).toNat]) (.agg #[.int .u8 (G 0).toNat, .int .u8 (G 1).toNat, .int .u8 (G 2).toNat, .int .u8 (G 3).toNat, .int .u8 (G 4).toNat, .int .u8 (G 5).toNat, .int .u8 (G 6).toNat, .int .u8 (G 7).toNat])).run Tryd.prog w = .ok (decide (∀ j ∈ List.range 8, F j = G j)) w := by rw [lit8 F, lit8 G]; exact run_cmp8 F G w
set_option maxRecDepth 5000 in
theorem get0 {α : Type} (x0 : α) (l : List α) : (List.toArray (x0 :: l))[0]? = some x0 := rfl
set_option maxRecDepth 5000 in
theorem get1 {α : Type} (x0 x1 : α) (l : List α) : (List.toArray (x0 :: x1 :: l))[1]? = some x1 := rfl
set_option maxRecDepth 5000 in
theorem get2 {α : Type} (x0 x1 x2 : α) (l : List α) : (List.toArray (x0 :: x1 :: x2 :: l))[2]? = some x2 := rfl
set_option maxRecDepth 5000 in
theorem get3 {α : Type} (x0 x1 x2 x3 : α) (l : List α) : (List.toArray (x0 :: x1 :: x2 :: x3 :: l))[3]? = some x3 := rfl
set_option maxRecDepth 5000 in
theorem get4 {α : Type} (x0 x1 x2 x3 x4 : α) (l : List α) : (List.toArray (x0 :: x1 :: x2 :: x3 :: x4 :: l))[4]? = some x4 := rfl
set_option maxRecDepth 5000 in
theorem get5 {α : Type} (x0 x1 x2 x3 x4 x5 : α) (l : List α) : (List.toArray (x0 :: x1 :: x2 :: x3 :: x4 :: x5 :: l))[5]? = some x5 := rfl
set_option maxRecDepth 5000 in
theorem get6 {α : Type} (x0 x1 x2 x3 x4 x5 x6 : α) (l : List α) : (List.toArray (x0 :: x1 :: x2 :: x3 :: x4 :: x5 :: x6 :: l))[6]? = some x6 := rfl
set_option maxRecDepth 5000 in
theorem get7 {α : Type} (x0 x1 x2 x3 x4 x5 x6 x7 : α) (l : List α) : (List.toArray (x0 :: x1 :: x2 :: x3 :: x4 :: x5 :: x6 :: x7 :: l))[7]? = some x7 := rfl
set_option maxRecDepth 5000 in
theorem get8 {α : Type} (x0 x1 x2 x3 x4 x5 x6 x7 x8 : α) (l : List α) : (List.toArray (x0 :: x1 :: x2 :: x3 :: x4 :: x5 :: x6 :: x7 :: x8 :: l))[8]? = some x8 := rfl
set_option maxRecDepth 5000 in
theorem get9 {α : Type} (x0 x1 x2 x3 x4 x5 x6 x7 x8 x9 : α) (l : List α) : (List.toArray (x0 :: x1 :: x2 :: x3 :: x4 :: x5 :: x6 :: x7 :: x8 :: x9 :: l))[9]? = some x9 := rfl
set_option maxRecDepth 5000 in
theorem get10 {α : Type} (x0 x1 x2 x3 x4 x5 x6 x7 x8 x9 x10 : α) (l : List α) : (List.toArray (x0 :: x1 :: x2 :: x3 :: x4 :: x5 :: x6 :: x7 :: x8 :: x9 :: x10 :: l))[10]? = some x10 := rfl
set_option maxRecDepth 5000 in
theorem get11 {α : Type} (x0 x1 x2 x3 x4 x5 x6 x7 x8 x9 x10 x11 : α) (l : List α) : (List.toArray (x0 :: x1 :: x2 :: x3 :: x4 :: x5 :: x6 :: x7 :: x8 :: x9 :: x10 :: x11 :: l))[11]? = some x11 := rfl
set_option maxRecDepth 5000 in
theorem get12 {α : Type} (x0 x1 x2 x3 x4 x5 x6 x7 x8 x9 x10 x11 x12 : α) (l : List α) : (List.toArray (x0 :: x1 :: x2 :: x3 :: x4 :: x5 :: x6 :: x7 :: x8 :: x9 :: x10 :: x11 :: x12 :: l))[12]? = some x12 := rfl
set_option maxRecDepth 5000 in
theorem get13 {α : Type} (x0 x1 x2 x3 x4 x5 x6 x7 x8 x9 x10 x11 x12 x13 : α) (l : List α) : (List.toArray (x0 :: x1 :: x2 :: x3 :: x4 :: x5 :: x6 :: x7 :: x8 :: x9 :: x10 :: x11 :: x12 :: x13 :: l))[13]? = some x13 := rfl
set_option maxRecDepth 5000 in
theorem get14 {α : Type} (x0 x1 x2 x3 x4 x5 x6 x7 x8 x9 x10 x11 x12 x13 x14 : α) (l : List α) : (List.toArray (x0 :: x1 :: x2 :: x3 :: x4 :: x5 :: x6 :: x7 :: x8 :: x9 :: x10 :: x11 :: x12 :: x13 :: x14 :: l))[14]? = some x14 := rfl
set_option maxRecDepth 5000 in
theorem get15 {α : Type} (x0 x1 x2 x3 x4 x5 x6 x7 x8 x9 x10 x11 x12 x13 x14 x15 : α) (l : List α) : (List.toArray (x0 :: x1 :: x2 :: x3 :: x4 :: x5 :: x6 :: x7 :: x8 :: x9 :: x10 :: x11 :: x12 :: x13 :: x14 :: x15 :: l))[15]? = some x15 := rfl
set_option maxRecDepth 5000 in
theorem get16 {α : Type} (x0 x1 x2 x3 x4 x5 x6 x7 x8 x9 x10 x11 x12 x13 x14 x15 x16 : α) (l : List α) : (List.toArray (x0 :: x1 :: x2 :: x3 :: x4 :: x5 :: x6 :: x7 :: x8 :: x9 :: x10 :: x11 :: x12 :: x13 :: x14 :: x15 :: x16 :: l))[16]? = some x16 := rfl
set_option maxRecDepth 5000 in
theorem get17 {α : Type} (x0 x1 x2 x3 x4 x5 x6 x7 x8 x9 x10 x11 x12 x13 x14 x15 x16 x17 : α) (l : List α) : (List.toArray (x0 :: x1 :: x2 :: x3 :: x4 :: x5 :: x6 :: x7 :: x8 :: x9 :: x10 :: x11 :: x12 :: x13 :: x14 :: x15 :: x16 :: x17 :: l))[17]? = some x17 := rfl
set_option maxRecDepth 5000 in
theorem get18 {α : Type} (x0 x1 x2 x3 x4 x5 x6 x7 x8 x9 x10 x11 x12 x13 x14 x15 x16 x17 x18 : α) (l : List α) : (List.toArray (x0 :: x1 :: x2 :: x3 :: x4 :: x5 :: x6 :: x7 :: x8 :: x9 :: x10 :: x11 :: x12 :: x13 :: x14 :: x15 :: x16 :: x17 :: x18 :: l))[18]? = some x18 := rfl
set_option maxRecDepth 5000 in
theorem get19 {α : Type} (x0 x1 x2 x3 x4 x5 x6 x7 x8 x9 x10 x11 x12 x13 x14 x15 x16 x17 x18 x19 : α) (l : List α) : (List.toArray (x0 :: x1 :: x2 :: x3 :: x4 :: x5 :: x6 :: x7 :: x8 :: x9 :: x10 :: x11 :: x12 :: x13 :: x14 :: x15 :: x16 :: x17 :: x18 :: x19 :: l))[19]? = some x19 := rfl
set_option maxRecDepth 5000 in
theorem get20 {α : Type} (x0 x1 x2 x3 x4 x5 x6 x7 x8 x9 x10 x11 x12 x13 x14 x15 x16 x17 x18 x19 x20 : α) (l : List α) : (List.toArray (x0 :: x1 :: x2 :: x3 :: x4 :: x5 :: x6 :: x7 :: x8 :: x9 :: x10 :: x11 :: x12 :: x13 :: x14 :: x15 :: x16 :: x17 :: x18 :: x19 :: x20 :: l))[20]? = some x20 := rfl
set_option maxRecDepth 5000 in
theorem get21 {α : Type} (x0 x1 x2 x3 x4 x5 x6 x7 x8 x9 x10 x11 x12 x13 x14 x15 x16 x17 x18 x19 x20 x21 : α) (l : List α) : (List.toArray (x0 :: x1 :: x2 :: x3 :: x4 :: x5 :: x6 :: x7 :: x8 :: x9 :: x10 :: x11 :: x12 :: x13 :: x14 :: x15 :: x16 :: x17 :: x18 :: x19 :: x20 :: x21 :: l))[21]? = some x21 := rfl
set_option maxRecDepth 5000 in
theorem get22 {α : Type} (x0 x1 x2 x3 x4 x5 x6 x7 x8 x9 x10 x11 x12 x13 x14 x15 x16 x17 x18 x19 x20 x21 x22 : α) (l : List α) : (List.toArray (x0 :: x1 :: x2 :: x3 :: x4 :: x5 :: x6 :: x7 :: x8 :: x9 :: x10 :: x11 :: x12 :: x13 :: x14 :: x15 :: x16 :: x17 :: x18 :: x19 :: x20 :: x21 :: x22 :: l))[22]? = some x22 := rfl
set_option maxRecDepth 5000 in
theorem get23 {α : Type} (x0 x1 x2 x3 x4 x5 x6 x7 x8 x9 x10 x11 x12 x13 x14 x15 x16 x17 x18 x19 x20 x21 x22 x23 : α) (l : List α) : (List.toArray (x0 :: x1 :: x2 :: x3 :: x4 :: x5 :: x6 :: x7 :: x8 :: x9 :: x10 :: x11 :: x12 :: x13 :: x14 :: x15 :: x16 :: x17 :: x18 :: x19 :: x20 :: x21 :: x22 :: x23 :: l))[23]? = some x23 := rfl
set_option maxRecDepth 5000 in
theorem get24 {α : Type} (x0 x1 x2 x3 x4 x5 x6 x7 x8 x9 x10 x11 x12 x13 x14 x15 x16 x17 x18 x19 x20 x21 x22 x23 x24 : α) (l : List α) : (List.toArray (x0 :: x1 :: x2 :: x3 :: x4 :: x5 :: x6 :: x7 :: x8 :: x9 :: x10 :: x11 :: x12 :: x13 :: x14 :: x15 :: x16 :: x17 :: x18 :: x19 :: x20 :: x21 :: x22 :: x23 :: x24 :: l))[24]? = some x24 := rfl
set_option maxRecDepth 5000 in
theorem get25 {α : Type} (x0 x1 x2 x3 x4 x5 x6 x7 x8 x9 x10 x11 x12 x13 x14 x15 x16 x17 x18 x19 x20 x21 x22 x23 x24 x25 : α) (l : List α) : (List.toArray (x0 :: x1 :: x2 :: x3 :: x4 :: x5 :: x6 :: x7 :: x8 :: x9 :: x10 :: x11 :: x12 :: x13 :: x14 :: x15 :: x16 :: x17 :: x18 :: x19 :: x20 :: x21 :: x22 :: x23 :: x24 :: x25 :: l))[25]? = some x25 := rfl
set_option maxRecDepth 5000 in
theorem get26 {α : Type} (x0 x1 x2 x3 x4 x5 x6 x7 x8 x9 x10 x11 x12 x13 x14 x15 x16 x17 x18 x19 x20 x21 x22 x23 x24 x25 x26 : α) (l : List α) : (List.toArray (x0 :: x1 :: x2 :: x3 :: x4 :: x5 :: x6 :: x7 :: x8 :: x9 :: x10 :: x11 :: x12 :: x13 :: x14 :: x15 :: x16 :: x17 :: x18 :: x19 :: x20 :: x21 :: x22 :: x23 :: x24 :: x25 :: x26 :: l))[26]? = some x26 := rfl
set_option maxRecDepth 5000 in
theorem get27 {α : Type} (x0 x1 x2 x3 x4 x5 x6 x7 x8 x9 x10 x11 x12 x13 x14 x15 x16 x17 x18 x19 x20 x21 x22 x23 x24 x25 x26 x27 : α) (l : List α) : (List.toArray (x0 :: x1 :: x2 :: x3 :: x4 :: x5 :: x6 :: x7 :: x8 :: x9 :: x10 :: x11 :: x12 :: x13 :: x14 :: x15 :: x16 :: x17 :: x18 :: x19 :: x20 :: x21 :: x22 :: x23 :: x24 :: x25 :: x26 :: x27 :: l))[27]? = some x27 := rfl
set_option maxRecDepth 5000 in
theorem get28 {α : Type} (x0 x1 x2 x3 x4 x5 x6 x7 x8 x9 x10 x11 x12 x13 x14 x15 x16 x17 x18 x19 x20 x21 x22 x23 x24 x25 x26 x27 x28 : α) (l : List α) : (List.toArray (x0 :: x1 :: x2 :: x3 :: x4 :: x5 :: x6 :: x7 :: x8 :: x9 :: x10 :: x11 :: x12 :: x13 :: x14 :: x15 :: x16 :: x17 :: x18 :: x19 :: x20 :: x21 :: x22 :: x23 :: x24 :: x25 :: x26 :: x27 :: x28 :: l))[28]? = some x28 := rfl
set_option maxRecDepth 3000 in
set_option maxHeartbeats 4000000 in
theorem keys_walk (hKn : Kn) (f : Nat → BitVec 8) (la lb bt : Nat) (w : World) (hla : la < 4294967296) (hlb : lb < 4294967296) (hbt : bt < 256) (hT : Tab w) :
    Calls Tryd.prog 6 #[.agg (rowB 8 f), .int .u32 (la : Int), .int .u32 (lb : Int), .int .u8 (bt : Int)] w fun e w' => e = .returned (.bool true) ∧ Below w.heap.size w w' := by
  have hT0 := hT.1
  have hI0 := QInv.first f w
  have hTa := hT.alloc (.cells (rowB 8 f) 22)
  have HT := hide hT
  obtain ⟨Pa, HPa⟩ : ∃ P, Hid (O.pub f la = P) := ⟨_, rfl⟩
  obtain ⟨Pb, HPb⟩ : ∃ P, Hid (O.pub f lb = P) := ⟨_, rfl⟩
  clear hT
  go_enter Tryd.func6, Tryd.ntmps6
  go_wp2_with (go_at_call 7; refine (hKn _ (by exact hTa)).mono ?_; rintro e wr ⟨rfl, hB1⟩; have hI1 := hI0.called hB1; have hlt1 := hI1.lt; clear hB1 hTa hI0)
  go_cut [9, 10] from 15 to 20 (fun s9 s10 wc => ∃ g9 g10, s9 = .pointer (some ⟨g9, 0, none⟩) ∧ s10 = .pointer (some ⟨g10, 0, none⟩) ∧ K3 f Pa Pb g9 g10 w wc)
  case first =>
    have hst := row8_store
    have hrn := row8_new
    have hra := row8_alloc
    have hrd := row8_drew
    have hst2 := row8_store2
    go_region_held3 (fun w' => QInv f w w' ∧ w'.cell? ⟨w.heap.size, 0, none⟩ = some (.int .u8 (f 0).toNat) ∧ w'.cell? ⟨w.heap.size, 1, none⟩ = some (.int .u8 (f 1).toNat) ∧ w'.cell? ⟨w.heap.size, 2, none⟩ = some (.int .u8 (f 2).toNat) ∧ w'.cell? ⟨w.heap.size, 3, none⟩ = some (.int .u8 (f 3).toNat) ∧ w'.cell? ⟨w.heap.size, 4, none⟩ = some (.int .u8 (f 4).toNat) ∧ w'.cell? ⟨w.heap.size, 5, none⟩ = some (.int .u8 (f 5).toNat) ∧ w'.cell? ⟨w.heap.size, 6, none⟩ = some (.int .u8 (f 6).toNat) ∧ w'.cell? ⟨w.heap.size, 7, none⟩ = some (.int .u8 (f 7).toNat))
      (first | exact hI1.loads | exact hI1.drew.loads | exact (QInv.allocd (And.left (by assumption)) _).loads | exact hIw2.loads | exact hIw3.loads | exact (QInv.stored (And.left (by assumption)) _ _ (by omega)).loads | fail)
      (first
        | ((go_at_call_of 12 la; refine (public_lit f la _ hla (by exact HT.out.below (QInv.below (And.left (by assumption))) hT0)).mono ?_; rintro e w2 ⟨rfl, hBw2⟩; rw [HPa.out]; have hIw2 := QInv.called (And.left (by assumption)) hBw2; have hlw2 := hIw2.lt; (try (have e0 : Row8 w2 wr.heap.size = true := row8_gone (by first | exact row8_new _ _ rfl | exact row8_keep (row8_new _ _ rfl) _) hBw2)); (try (have e1 : Row8 w2 (wr.heap.size + 1) = true := row8_gone (by exact row8_new _ _ (szA _ _)) hBw2)); clear hBw2))
        | ((go_at_call_of 12 lb; refine (public_lit f lb _ hlb (by exact HT.out.below (QInv.below (And.left (by assumption))) hT0)).mono ?_; rintro e w3 ⟨rfl, hBw3⟩; rw [HPb.out]; have hIw3 := QInv.called (And.left (by assumption)) hBw3; have hlw3 := hIw3.lt; (try (have f0 : Row8 w3 wr.heap.size = true := row8_gone (by first | exact e0 | exact row8_keep e0 _) hBw3)); (try (have f1 : Row8 w3 (wr.heap.size + 1) = true := row8_gone (by exact e1) hBw3)); (try (have f2 : Row8 w3 w2.heap.size = true := row8_gone (by first | exact row8_new _ _ rfl | exact row8_keep (row8_new _ _ rfl) _) hBw3)); (try (have f3 : Row8 w3 (w2.heap.size + 1) = true := row8_gone (by exact row8_new _ _ (szA _ _)) hBw3)); (try (have hs0a := row8_store w3 (wr.heap.size) Pa f0; have hs0b := row8_store2 w3 (wr.heap.size) (wr.heap.size + 1) Pa Pb f0 f1)); (try (have hs1a := row8_store w3 (wr.heap.size + 1) Pa f1; have hs1b := row8_store2 w3 (wr.heap.size + 1) (wr.heap.size) Pa Pb f1 f0)); (try (have hs2a := row8_store w3 (wr.heap.size) Pa f0; have hs2b := row8_store2 w3 (wr.heap.size) (w2.heap.size) Pa Pb f0 f2)); (try (have hs3a := row8_store w3 (w2.heap.size) Pa f2; have hs3b := row8_store2 w3 (w2.heap.size) (wr.heap.size) Pa Pb f2 f0)); (try (have hs4a := row8_store w3 (w2.heap.size) Pa f2; have hs4b := row8_store2 w3 (w2.heap.size) (w2.heap.size + 1) Pa Pb f2 f3)); (try (have hs5a := row8_store w3 (w2.heap.size + 1) Pa f3; have hs5b := row8_store2 w3 (w2.heap.size + 1) (w2.heap.size) Pa Pb f3 f2)); (try (have ht0a := row8_store (w3.alloc (.cells #[.int .u8 0, .int .u8 0, .int .u8 0, .int .u8 0, .int .u8 0, .int .u8 0, .int .u8 0, .int .u8 0] 22)) (wr.heap.size) Pa (row8_keep f0 _); have ht0b := row8_store2 (w3.alloc (.cells #[.int .u8 0, .int .u8 0, .int .u8 0, .int .u8 0, .int .u8 0, .int .u8 0, .int .u8 0, .int .u8 0] 22)) (wr.heap.size) (w3.heap.size) Pa Pb (row8_keep f0 _) (row8_new _ _ rfl); have ht0c := row8_store (w3.alloc (.cells #[.int .u8 0, .int .u8 0, .int .u8 0, .int .u8 0, .int .u8 0, .int .u8 0, .int .u8 0, .int .u8 0] 22)) (w3.heap.size) Pa (row8_new _ _ rfl); have ht0d := row8_store2 (w3.alloc (.cells #[.int .u8 0, .int .u8 0, .int .u8 0, .int .u8 0, .int .u8 0, .int .u8 0, .int .u8 0, .int .u8 0] 22)) (w3.heap.size) (wr.heap.size) Pa Pb (row8_new _ _ rfl) (row8_keep f0 _))); (try (have ht1a := row8_store (w3.alloc (.cells #[.int .u8 0, .int .u8 0, .int .u8 0, .int .u8 0, .int .u8 0, .int .u8 0, .int .u8 0, .int .u8 0] 22)) (w2.heap.size) Pa (row8_keep f2 _); have ht1b := row8_store2 (w3.alloc (.cells #[.int .u8 0, .int .u8 0, .int .u8 0, .int .u8 0, .int .u8 0, .int .u8 0, .int .u8 0, .int .u8 0] 22)) (w2.heap.size) (w3.heap.size) Pa Pb (row8_keep f2 _) (row8_new _ _ rfl); have ht1c := row8_store (w3.alloc (.cells #[.int .u8 0, .int .u8 0, .int .u8 0, .int .u8 0, .int .u8 0, .int .u8 0, .int .u8 0, .int .u8 0] 22)) (w3.heap.size) Pa (row8_new _ _ rfl); have ht1d := row8_store2 (w3.alloc (.cells #[.int .u8 0, .int .u8 0, .int .u8 0, .int .u8 0, .int .u8 0, .int .u8 0, .int .u8 0, .int .u8 0] 22)) (w3.heap.size) (w2.heap.size) Pa Pb (row8_new _ _ rfl) (row8_keep f2 _))); clear hBw3)))
    all_goals go_wp2_with fail
    all_goals go_meet
    all_goals (try have l0 := row8_lt f0)
    all_goals (try have l1 := row8_lt f1)
    all_goals (try have l2 := row8_lt f2)
    all_goals (try have l3 := row8_lt f3)
    all_goals (try have l4 := row8_lt e0)
    all_goals (try have l5 := row8_lt e1)
    all_goals exact ⟨_, _, rfl, rfl, K3.of (And.left (by assumption)) (by first | exact row8_new _ _ rfl | exact row8_new _ _ (szA _ _) | exact row8_keep (row8_new _ _ rfl) _ | exact f0 | exact f1 | exact f2 | exact f3 | exact row8_keep f0 _ | exact row8_keep f2 _) (by first | exact row8_new _ _ rfl | exact row8_new _ _ (szA _ _) | exact row8_keep (row8_new _ _ rfl) _ | exact f0 | exact f1 | exact f2 | exact f3 | exact row8_keep f0 _ | exact row8_keep f2 _) (by omega) (by omega) (by omega)⟩
  case rest =>
    obtain ⟨g9, g10, rfl, rfl, hK⟩ := hcut
    have hz := hK.q.below.size
    have l9 := hK.fst.lt
    have l10 := hK.snd.lt
    have l4 := hK.q.lt
    obtain ⟨k, HKk⟩ : ∃ k : Nat, Hid (k = bt / 8 % 8) := ⟨_, rfl⟩
    obtain ⟨r, HKr⟩ : ∃ r : Nat, Hid (r = bt % 8) := ⟨_, rfl⟩
    have hk8 : k < 8 := by have := HKk.out; omega
    have hr8 : r < 8 := by have := HKr.out; omega
    have hk : (bt : Int) / 8 % 8 = (k : Int) := by have := HKk.out; omega
    have hr : (bt : Int) % 8 = (r : Int) := by have := HKr.out; omega
    obtain ⟨bb, hbb⟩ := xor_byte ((f k).toNat : Int) (2 ^ r % 256)
    obtain ⟨f', HF'⟩ : ∃ g, Hid (turned f k bb = g) := ⟨_, rfl⟩
    obtain ⟨Pr, HPr⟩ : ∃ P, Hid (O.pub f' la = P) := ⟨_, rfl⟩
    go_wp2_with (first
      | (refine wpList_load_rowAt rfl 22 (.tmp 4) rfl w.heap.size rfl 22 _ _ (by exact hK.q.seed) Tryd.underlying22 rfl (by rw [rowB_size]; exact info28) ?_)
      | (refine wpList_store_abs rfl 22 (.tmp 11) (.tmp 21) rfl wc.heap.size (rowB 8 f) rfl rfl 22 _ (RowAt.new wc 22 _) (by rw [rowB_size]; exact info28) (by rw [rowB_size]; rfl) (rowB_one _ _) wc.heap.size (Nat.le_refl _) ?_; intro w4 hR4 hO4 hz4 hB4; have hbb4 : Below wc.heap.size wc w4 := ((Below.refl _ _).alloc (Nat.le_refl _) _).trans hB4; have hc4 : w4.cell? ⟨wc.heap.size, k, none⟩ = some (.int .u8 (f k).toNat) := (by rw [hR4.cell, rowB_get _ _ _ hk8]); have hf4 := hR4.frozen k; have hR5 := hR4.set k (.int .u8 (bb.toNat : Int)); rw [turned_row f k bb hk8, HF'.out] at hR5; have hb5 : Below wc.heap.size wc (w4.setCell ⟨wc.heap.size, k, none⟩ (.int .u8 (bb.toNat : Int))) := hbb4.setCell (Nat.le_refl _) _; have hI5 := hK.q.called hb5; have hT5 := HT.out.below hI5.below hT0; clear hO4 hz4 hB4 hbb4)
      | (refine wpList_load_rowAt rfl 22 (.tmp 11) rfl wc.heap.size rfl 22 _ _ (by exact hR5) Tryd.underlying22 rfl (by rw [rowB_size]; exact info28) ?_))
    refine (public_any f' la _ hla (by exact hT5)).mono ?_
    rintro e w5 ⟨rfl, hB5⟩
    rw [HPr.out]
    have hK5 : RowAt w5 wc.heap.size 22 (rowB 8 f') := hR5.below hB5 hR5.lt
    have hI6 := hI5.called hB5
    have hra6 : RowAt w5 g9 22 (rowB 8 Pa) := (hK.fst.below hb5 l9).below hB5 (hK.fst.below hb5 l9).lt
    have hrb6 : RowAt w5 g10 22 (rowB 8 Pb) := (hK.snd.below hb5 l10).below hB5 (hK.snd.below hb5 l10).lt
    clear hB5 hb5 hR5 hI5 hT5 hR4 hc4 hf4 hbb hk hr
    go_wp2_with (refine wpList_store_abs rfl 22 (.tmp 12) (.tmp 34) rfl w5.heap.size (rowB 8 Pr) rfl rfl 22 _ (RowAt.new w5 22 _) (by rw [rowB_size]; exact info28) (by rw [rowB_size]; rfl) (rowB_one _ _) w5.heap.size (Nat.le_refl _) ?_; intro w6 hR6 hO6 hz6 hB6; have hbb6 : Below w5.heap.size w5 w6 := ((Below.refl _ _).alloc (Nat.le_refl _) _).trans hB6; have hK6 : K5 f Pa Pb f' Pr g9 g10 wc.heap.size w5.heap.size w w6 := ⟨hI6.called hbb6, hra6.below hbb6 hra6.lt, hrb6.below hbb6 hrb6.lt, hK5.below hbb6 hK5.lt, hR6⟩; clear hO6 hz6 hB6 hbb6 hra6 hrb6 hK5 hR6)
    clear hK hz l9 l10 l4
    have heqr := run_eq8 Pr
    by_cases hab : la = lb
    · subst hab
      obtain rfl : Pb = Pa := HPb.out.symm.trans HPa.out
      have hel := run_eq8l Pb
      have heb : ∀ w, (Op.equalIn 10000 22 (.agg (rowB 8 Pb)) (.agg (rowB 8 Pb))).run Tryd.prog w = .ok true w := fun w => run_eqB_same Tryd.underlying22 Pb w
      go_region_held3 (fun w' => K5 f Pb Pb f' Pr g9 g10 wc.heap.size w5.heap.size w w' ∧ (w'.cell? ⟨w.heap.size, 0, none⟩ = some (.int .u8 (f 0).toNat) ∧ w'.cell? ⟨w.heap.size, 1, none⟩ = some (.int .u8 (f 1).toNat) ∧ w'.cell? ⟨w.heap.size, 2, none⟩ = some (.int .u8 (f 2).toNat) ∧ w'.cell? ⟨w.heap.size, 3, none⟩ = some (.int .u8 (f 3).toNat) ∧ w'.cell? ⟨w.heap.size, 4, none⟩ = some (.int .u8 (f 4).toNat) ∧ w'.cell? ⟨w.heap.size, 5, none⟩ = some (.int .u8 (f 5).toNat) ∧ w'.cell? ⟨w.heap.size, 6, none⟩ = some (.int .u8 (f 6).toNat) ∧ w'.cell? ⟨w.heap.size, 7, none⟩ = some (.int .u8 (f 7).toNat)) ∧ (w'.cell? ⟨g9, 0, none⟩ = some (.int .u8 (Pb 0).toNat) ∧ w'.cell? ⟨g9, 1, none⟩ = some (.int .u8 (Pb 1).toNat) ∧ w'.cell? ⟨g9, 2, none⟩ = some (.int .u8 (Pb 2).toNat) ∧ w'.cell? ⟨g9, 3, none⟩ = some (.int .u8 (Pb 3).toNat) ∧ w'.cell? ⟨g9, 4, none⟩ = some (.int .u8 (Pb 4).toNat) ∧ w'.cell? ⟨g9, 5, none⟩ = some (.int .u8 (Pb 5).toNat) ∧ w'.cell? ⟨g9, 6, none⟩ = some (.int .u8 (Pb 6).toNat) ∧ w'.cell? ⟨g9, 7, none⟩ = some (.int .u8 (Pb 7).toNat)) ∧ (w'.cell? ⟨g10, 0, none⟩ = some (.int .u8 (Pb 0).toNat) ∧ w'.cell? ⟨g10, 1, none⟩ = some (.int .u8 (Pb 1).toNat) ∧ w'.cell? ⟨g10, 2, none⟩ = some (.int .u8 (Pb 2).toNat) ∧ w'.cell? ⟨g10, 3, none⟩ = some (.int .u8 (Pb 3).toNat) ∧ w'.cell? ⟨g10, 4, none⟩ = some (.int .u8 (Pb 4).toNat) ∧ w'.cell? ⟨g10, 5, none⟩ = some (.int .u8 (Pb 5).toNat) ∧ w'.cell? ⟨g10, 6, none⟩ = some (.int .u8 (Pb 6).toNat) ∧ w'.cell? ⟨g10, 7, none⟩ = some (.int .u8 (Pb 7).toNat)) ∧ (w'.cell? ⟨wc.heap.size, 0, none⟩ = some (.int .u8 (f' 0).toNat) ∧ w'.cell? ⟨wc.heap.size, 1, none⟩ = some (.int .u8 (f' 1).toNat) ∧ w'.cell? ⟨wc.heap.size, 2, none⟩ = some (.int .u8 (f' 2).toNat) ∧ w'.cell? ⟨wc.heap.size, 3, none⟩ = some (.int .u8 (f' 3).toNat) ∧ w'.cell? ⟨wc.heap.size, 4, none⟩ = some (.int .u8 (f' 4).toNat) ∧ w'.cell? ⟨wc.heap.size, 5, none⟩ = some (.int .u8 (f' 5).toNat) ∧ w'.cell? ⟨wc.heap.size, 6, none⟩ = some (.int .u8 (f' 6).toNat) ∧ w'.cell? ⟨wc.heap.size, 7, none⟩ = some (.int .u8 (f' 7).toNat)) ∧ w'.cell? ⟨w5.heap.size, 0, none⟩ = some (.int .u8 (Pr 0).toNat) ∧ w'.cell? ⟨w5.heap.size, 1, none⟩ = some (.int .u8 (Pr 1).toNat) ∧ w'.cell? ⟨w5.heap.size, 2, none⟩ = some (.int .u8 (Pr 2).toNat) ∧ w'.cell? ⟨w5.heap.size, 3, none⟩ = some (.int .u8 (Pr 3).toNat) ∧ w'.cell? ⟨w5.heap.size, 4, none⟩ = some (.int .u8 (Pr 4).toNat) ∧ w'.cell? ⟨w5.heap.size, 5, none⟩ = some (.int .u8 (Pr 5).toNat) ∧ w'.cell? ⟨w5.heap.size, 6, none⟩ = some (.int .u8 (Pr 6).toNat) ∧ w'.cell? ⟨w5.heap.size, 7, none⟩ = some (.int .u8 (Pr 7).toNat))
        (first | exact hK6.loads | exact hK6.drew.loads | exact hK7.loads | exact hK8.loads | exact hK9.loads | fail)
        (first
          | ((go_at_call_of 13 f; refine (rpublic_lit f la _ hla).mono ?_; rintro e w8 ⟨rfl, hB8⟩; rw [HPa.out]; have hK8 := hK7.called hB8; clear hB8))
          | ((go_at_call_of 13 f; refine (rpublic_lit f la _ hla).mono ?_; rintro e w7 ⟨rfl, hB7⟩; rw [HPa.out]; have hK7 := hK6.drew.called hB7; clear hB7))
          | ((go_at_call_of 13 f'; refine (rpublic_lit f' la _ hla).mono ?_; rintro e w9 ⟨rfl, hB9⟩; rw [HPr.out]; have hK9 := hK8.called hB9; clear hB9)))
      all_goals go_wp2
      all_goals go_ret
      all_goals exact ⟨rfl, hK9.q.below⟩
    · obtain ⟨t, Ht⟩ : ∃ t, Hid (decide (∀ j ∈ List.range 8, Pa j = Pb j) = t) := ⟨_, rfl⟩
      have hel : ∀ w, (Op.equalIn 10000 22 (.agg #[.int .u8 (Pa 0).toNat, .int .u8 (Pa 1).toNat, .int .u8 (Pa 2).toNat, .int .u8 (Pa 3).toNat, .int .u8 (Pa 4).toNat, .int .u8 (Pa 5).toNat, .int .u8 (Pa 6).toNat, .int .u8 (Pa 7).toNat]) (.agg #[.int .u8 (Pb 0).toNat, .int .u8 (Pb 1).toNat, .int .u8 (Pb 2).toNat, .int .u8 (Pb 3).toNat, .int .u8 (Pb 4).toNat, .int .u8 (Pb 5).toNat, .int .u8 (Pb 6).toNat, .int .u8 (Pb 7).toNat])).run Tryd.prog w = .ok t w := fun w => by rw [← Ht.out]; exact run_cmpl Pa Pb w
      have heb : ∀ w, (Op.equalIn 10000 22 (.agg (rowB 8 Pa)) (.agg (rowB 8 Pb))).run Tryd.prog w = .ok t w := fun w => by rw [← Ht.out]; exact run_cmp8 Pa Pb w
      have htt : (t == t) = true := by simp
      have hnn : ((la : Int) != (lb : Int)) = true := by simp; omega
      refine wp_region_held_drew (S := (fun w' => K5 f Pa Pb f' Pr g9 g10 wc.heap.size w5.heap.size w w' ∧ (w'.cell? ⟨w.heap.size, 0, none⟩ = some (.int .u8 (f 0).toNat) ∧ w'.cell? ⟨w.heap.size, 1, none⟩ = some (.int .u8 (f 1).toNat) ∧ w'.cell? ⟨w.heap.size, 2, none⟩ = some (.int .u8 (f 2).toNat) ∧ w'.cell? ⟨w.heap.size, 3, none⟩ = some (.int .u8 (f 3).toNat) ∧ w'.cell? ⟨w.heap.size, 4, none⟩ = some (.int .u8 (f 4).toNat) ∧ w'.cell? ⟨w.heap.size, 5, none⟩ = some (.int .u8 (f 5).toNat) ∧ w'.cell? ⟨w.heap.size, 6, none⟩ = some (.int .u8 (f 6).toNat) ∧ w'.cell? ⟨w.heap.size, 7, none⟩ = some (.int .u8 (f 7).toNat)) ∧ (w'.cell? ⟨g9, 0, none⟩ = some (.int .u8 (Pa 0).toNat) ∧ w'.cell? ⟨g9, 1, none⟩ = some (.int .u8 (Pa 1).toNat) ∧ w'.cell? ⟨g9, 2, none⟩ = some (.int .u8 (Pa 2).toNat) ∧ w'.cell? ⟨g9, 3, none⟩ = some (.int .u8 (Pa 3).toNat) ∧ w'.cell? ⟨g9, 4, none⟩ = some (.int .u8 (Pa 4).toNat) ∧ w'.cell? ⟨g9, 5, none⟩ = some (.int .u8 (Pa 5).toNat) ∧ w'.cell? ⟨g9, 6, none⟩ = some (.int .u8 (Pa 6).toNat) ∧ w'.cell? ⟨g9, 7, none⟩ = some (.int .u8 (Pa 7).toNat)) ∧ (w'.cell? ⟨g10, 0, none⟩ = some (.int .u8 (Pb 0).toNat) ∧ w'.cell? ⟨g10, 1, none⟩ = some (.int .u8 (Pb 1).toNat) ∧ w'.cell? ⟨g10, 2, none⟩ = some (.int .u8 (Pb 2).toNat) ∧ w'.cell? ⟨g10, 3, none⟩ = some (.int .u8 (Pb 3).toNat) ∧ w'.cell? ⟨g10, 4, none⟩ = some (.int .u8 (Pb 4).toNat) ∧ w'.cell? ⟨g10, 5, none⟩ = some (.int .u8 (Pb 5).toNat) ∧ w'.cell? ⟨g10, 6, none⟩ = some (.int .u8 (Pb 6).toNat) ∧ w'.cell? ⟨g10, 7, none⟩ = some (.int .u8 (Pb 7).toNat)) ∧ (w'.cell? ⟨wc.heap.size, 0, none⟩ = some (.int .u8 (f' 0).toNat) ∧ w'.cell? ⟨wc.heap.size, 1, none⟩ = some (.int .u8 (f' 1).toNat) ∧ w'.cell? ⟨wc.heap.size, 2, none⟩ = some (.int .u8 (f' 2).toNat) ∧ w'.cell? ⟨wc.heap.size, 3, none⟩ = some (.int .u8 (f' 3).toNat) ∧ w'.cell? ⟨wc.heap.size, 4, none⟩ = some (.int .u8 (f' 4).toNat) ∧ w'.cell? ⟨wc.heap.size, 5, none⟩ = some (.int .u8 (f' 5).toNat) ∧ w'.cell? ⟨wc.heap.size, 6, none⟩ = some (.int .u8 (f' 6).toNat) ∧ w'.cell? ⟨wc.heap.size, 7, none⟩ = some (.int .u8 (f' 7).toNat)) ∧ w'.cell? ⟨w5.heap.size, 0, none⟩ = some (.int .u8 (Pr 0).toNat) ∧ w'.cell? ⟨w5.heap.size, 1, none⟩ = some (.int .u8 (Pr 1).toNat) ∧ w'.cell? ⟨w5.heap.size, 2, none⟩ = some (.int .u8 (Pr 2).toNat) ∧ w'.cell? ⟨w5.heap.size, 3, none⟩ = some (.int .u8 (Pr 3).toNat) ∧ w'.cell? ⟨w5.heap.size, 4, none⟩ = some (.int .u8 (Pr 4).toNat) ∧ w'.cell? ⟨w5.heap.size, 5, none⟩ = some (.int .u8 (Pr 5).toNat) ∧ w'.cell? ⟨w5.heap.size, 6, none⟩ = some (.int .u8 (Pr 6).toNat) ∧ w'.cell? ⟨w5.heap.size, 7, none⟩ = some (.int .u8 (Pr 7).toNat))) (by kernel_rfl) hK6.drew.loads (fun hHeld => ?_)
      refine wpAnyH_take (i := 0) (v := ?v0) (get0 _ _) (by kernel_rfl) (by kernel_rfl) (by kernel_rfl) (fun _ _ _ h => h) (Or.inl ⟨by rfl, ?hy0⟩) (by assumption) ?rest0
      case hy0 => (intro w0 hSw; (try dsimp only at hSw); go_simp; try (with_reducible rfl))
      case' rest0 => try simp only [Act.put, List.setIfInBounds_toArray, List.set_cons_zero, List.set_cons_succ]
      refine wpAnyH_take (i := 1) (v := ?v1) (get1 _ _ _) (by kernel_rfl) (by kernel_rfl) (by kernel_rfl) (fun _ _ _ h => h) (Or.inl ⟨by rfl, ?hy1⟩) (by assumption) ?rest1
      case hy1 => (intro w0 hSw; (try dsimp only at hSw); go_simp; try (with_reducible rfl))
      case' rest1 => try simp only [Act.put, List.setIfInBounds_toArray, List.set_cons_zero, List.set_cons_succ]
      refine wpAnyH_take (i := 2) (v := ?v2) (get2 _ _ _ _) (by kernel_rfl) (by kernel_rfl) (by kernel_rfl) (fun _ _ _ h => h) (Or.inl ⟨by rfl, ?hy2⟩) (by assumption) ?rest2
      case hy2 => (intro w0 hSw; (try dsimp only at hSw); go_simp; try (with_reducible rfl))
      case' rest2 => try simp only [Act.put, List.setIfInBounds_toArray, List.set_cons_zero, List.set_cons_succ]
      refine wpAnyH_take (i := 3) (v := ?v3) (get3 _ _ _ _ _) (by kernel_rfl) (by kernel_rfl) (by kernel_rfl) (fun _ _ _ h => h) (Or.inl ⟨by rfl, ?hy3⟩) (by assumption) ?rest3
      case hy3 => (intro w0 hSw; (try dsimp only at hSw); go_simp; try (with_reducible rfl))
      case' rest3 => try simp only [Act.put, List.setIfInBounds_toArray, List.set_cons_zero, List.set_cons_succ]
      refine wpAnyH_take (i := 4) (v := ?v4) (get4 _ _ _ _ _ _) (by kernel_rfl) (by kernel_rfl) (by kernel_rfl) (fun _ _ _ h => h) (Or.inl ⟨by rfl, ?hy4⟩) (by assumption) ?rest4
      case hy4 => (intro w0 hSw; (try dsimp only at hSw); go_simp; try (with_reducible rfl))
      case' rest4 => try simp only [Act.put, List.setIfInBounds_toArray, List.set_cons_zero, List.set_cons_succ]
      refine wpAnyH_take (i := 6) (v := ?v6) (get6 _ _ _ _ _ _ _ _) (by kernel_rfl) (by kernel_rfl) (by kernel_rfl) (fun _ _ _ h => h) (Or.inl ⟨by rfl, ?hy6⟩) (by assumption) ?rest6
      case hy6 => (intro w0 hSw; (try dsimp only at hSw); go_simp; try (with_reducible rfl))
      case' rest6 => try simp only [Act.put, List.setIfInBounds_toArray, List.set_cons_zero, List.set_cons_succ]
      refine wpAnyH_take (i := 7) (v := ?v7) (get7 _ _ _ _ _ _ _ _ _) (by kernel_rfl) (by kernel_rfl) (by kernel_rfl) (fun _ _ _ h => h) (Or.inl ⟨by rfl, ?hy7⟩) (by assumption) ?rest7
      case hy7 => (intro w0 hSw; (try dsimp only at hSw); go_simp; try (with_reducible rfl))
      case' rest7 => try simp only [Act.put, List.setIfInBounds_toArray, List.set_cons_zero, List.set_cons_succ]
      refine wpAnyH_ready (rs := [5]) (by kernel_rfl) (by simp) ?_
      refine AllReadyH.cons (get5 _ _ _ _ _ _ _) (fun K hKK => ?_) AllReadyH.nil
      go_simp
      (go_at_call 13; refine (rpublic_lit f la _ hla).mono ?_; rintro e w7 ⟨rfl, hB7⟩; rw [HPa.out]; have hK7 := hK6.drew.called hB7; clear hB7)
      refine hKK.out _ _ ?keep5 (fun hHeld => ?rest5)
      case keep5 => exact hK7.loads
      case' rest5 => clear hKK; try simp only [Act.put, List.setIfInBounds_toArray, List.set_cons_zero, List.set_cons_succ]
      refine wpAnyH_ready (rs := [8]) (by kernel_rfl) (by simp) ?_
      refine AllReadyH.cons (get8 _ _ _ _ _ _ _ _ _ _) (fun K hKK => ?_) AllReadyH.nil
      go_simp
      (go_at_call 13; refine (rpublic_lit f lb _ hlb).mono ?_; rintro e w8 ⟨rfl, hB8⟩; rw [HPb.out]; have hK8 := hK7.called hB8; clear hB8)
      refine hKK.out _ _ ?keep8 (fun hHeld => ?rest8)
      case keep8 => exact hK8.loads
      case' rest8 => clear hKK; try simp only [Act.put, List.setIfInBounds_toArray, List.set_cons_zero, List.set_cons_succ]
      refine wpAnyH_take (i := 9) (v := ?v9) (get9 _ _ _ _ _ _ _ _ _ _ _) (by kernel_rfl) (by kernel_rfl) (by kernel_rfl) (fun _ _ _ h => h) (Or.inl ⟨by rfl, ?hy9⟩) (by assumption) ?rest9
      case hy9 => (intro w0 hSw; (try dsimp only at hSw); go_simp; try (with_reducible rfl))
      case' rest9 => try simp only [Act.put, List.setIfInBounds_toArray, List.set_cons_zero, List.set_cons_succ]
      refine wpAnyH_take (i := 10) (v := ?v10) (get10 _ _ _ _ _ _ _ _ _ _ _ _) (by kernel_rfl) (by kernel_rfl) (by kernel_rfl) (fun _ _ _ h => h) (Or.inl ⟨by rfl, ?hy10⟩) (by assumption) ?rest10
      case hy10 => (intro w0 hSw; (try dsimp only at hSw); go_simp; try (with_reducible rfl))
      case' rest10 => try simp only [Act.put, List.setIfInBounds_toArray, List.set_cons_zero, List.set_cons_succ]
      refine wpAnyH_take (i := 11) (v := ?v11) (get11 _ _ _ _ _ _ _ _ _ _ _ _ _) (by kernel_rfl) (by kernel_rfl) (by kernel_rfl) (fun _ _ _ h => h) (Or.inl ⟨by rfl, ?hy11⟩) (by assumption) ?rest11
      case hy11 => (intro w0 hSw; (try dsimp only at hSw); go_simp; try (with_reducible rfl))
      case' rest11 => try simp only [Act.put, List.setIfInBounds_toArray, List.set_cons_zero, List.set_cons_succ]
      refine wpAnyH_take (i := 12) (v := ?v12) (get12 _ _ _ _ _ _ _ _ _ _ _ _ _ _) (by kernel_rfl) (by kernel_rfl) (by kernel_rfl) (fun _ _ _ h => h) (Or.inl ⟨by rfl, ?hy12⟩) (by assumption) ?rest12
      case hy12 => (intro w0 hSw; (try dsimp only at hSw); go_simp; try (with_reducible rfl))
      case' rest12 => try simp only [Act.put, List.setIfInBounds_toArray, List.set_cons_zero, List.set_cons_succ]
      refine wpAnyH_take (i := 13) (v := ?v13) (get13 _ _ _ _ _ _ _ _ _ _ _ _ _ _ _) (by kernel_rfl) (by kernel_rfl) (by kernel_rfl) (fun _ _ _ h => h) (Or.inl ⟨by rfl, ?hy13⟩) (by assumption) ?rest13
      case hy13 => (intro w0 hSw; (try dsimp only at hSw); go_simp; try (with_reducible rfl))
      case' rest13 => try simp only [Act.put, List.setIfInBounds_toArray, List.set_cons_zero, List.set_cons_succ]
      refine wpAnyH_take (i := 14) (v := ?v14) (get14 _ _ _ _ _ _ _ _ _ _ _ _ _ _ _ _) (by kernel_rfl) (by kernel_rfl) (by kernel_rfl) (fun _ _ _ h => h) (Or.inl ⟨by rfl, ?hy14⟩) (by assumption) ?rest14
      case hy14 => (intro w0 hSw; (try dsimp only at hSw); go_simp; try (with_reducible rfl))
      case' rest14 => try simp only [Act.put, List.setIfInBounds_toArray, List.set_cons_zero, List.set_cons_succ]
      refine wpAnyH_ready (rs := [15]) (by kernel_rfl) (by simp) ?_
      refine AllReadyH.cons (get15 _ _ _ _ _ _ _ _ _ _ _ _ _ _ _ _ _) (fun K hKK => ?_) AllReadyH.nil
      go_simp
      (go_at_call 13; refine (rpublic_lit f' la _ hla).mono ?_; rintro e w9 ⟨rfl, hB9⟩; rw [HPr.out]; have hK9 := hK8.called hB9; clear hB9)
      refine hKK.out _ _ ?keep15 (fun hHeld => ?rest15)
      case keep15 => exact hK9.loads
      case' rest15 => clear hKK; try simp only [Act.put, List.setIfInBounds_toArray, List.set_cons_zero, List.set_cons_succ]
      refine wpAnyH_take (i := 16) (v := ?v16) (get16 _ _ _ _ _ _ _ _ _ _ _ _ _ _ _ _ _ _) (by kernel_rfl) (by kernel_rfl) (by kernel_rfl) (fun _ _ _ h => h) (Or.inl ⟨by rfl, ?hy16⟩) (by assumption) ?rest16
      case hy16 => (intro w0 hSw; (try dsimp only at hSw); go_simp; try (with_reducible rfl))
      case' rest16 => try simp only [Act.put, List.setIfInBounds_toArray, List.set_cons_zero, List.set_cons_succ]
      refine wpAnyH_take (i := 17) (v := ?v17) (get17 _ _ _ _ _ _ _ _ _ _ _ _ _ _ _ _ _ _ _) (by kernel_rfl) (by kernel_rfl) (by kernel_rfl) (fun _ _ _ h => h) (Or.inl ⟨by rfl, ?hy17⟩) (by assumption) ?rest17
      case hy17 => (intro w0 hSw; (try dsimp only at hSw); go_simp; try (with_reducible rfl))
      case' rest17 => try simp only [Act.put, List.setIfInBounds_toArray, List.set_cons_zero, List.set_cons_succ]
      refine wpAnyH_take (i := 18) (v := ?v18) (get18 _ _ _ _ _ _ _ _ _ _ _ _ _ _ _ _ _ _ _ _) (by kernel_rfl) (by kernel_rfl) (by kernel_rfl) (fun _ _ _ h => h) (Or.inl ⟨by rfl, ?hy18⟩) (by assumption) ?rest18
      case hy18 => (intro w0 hSw; (try dsimp only at hSw); go_simp; try (with_reducible rfl))
      case' rest18 => try simp only [Act.put, List.setIfInBounds_toArray, List.set_cons_zero, List.set_cons_succ]
      refine wpAnyH_take (i := 19) (v := ?v19) (get19 _ _ _ _ _ _ _ _ _ _ _ _ _ _ _ _ _ _ _ _ _) (by kernel_rfl) (by kernel_rfl) (by kernel_rfl) (fun _ _ _ h => h) (Or.inl ⟨by rfl, ?hy19⟩) (by assumption) ?rest19
      case hy19 => (intro w0 hSw; (try dsimp only at hSw); go_simp; try (with_reducible rfl))
      case' rest19 => try simp only [Act.put, List.setIfInBounds_toArray, List.set_cons_zero, List.set_cons_succ]
      refine wpAnyH_take (i := 20) (v := ?v20) (get20 _ _ _ _ _ _ _ _ _ _ _ _ _ _ _ _ _ _ _ _ _ _) (by kernel_rfl) (by kernel_rfl) (by kernel_rfl) (fun _ _ _ h => h) (Or.inl ⟨by rfl, ?hy20⟩) (by assumption) ?rest20
      case hy20 => (intro w0 hSw; (try dsimp only at hSw); go_simp; try (with_reducible rfl))
      case' rest20 => try simp only [Act.put, List.setIfInBounds_toArray, List.set_cons_zero, List.set_cons_succ]
      refine wpAnyH_take (i := 21) (v := ?v21) (get21 _ _ _ _ _ _ _ _ _ _ _ _ _ _ _ _ _ _ _ _ _ _ _) (by kernel_rfl) (by kernel_rfl) (by kernel_rfl) (fun _ _ _ h => h) (Or.inl ⟨by rfl, ?hy21⟩) (by assumption) ?rest21
      case hy21 => (intro w0 hSw; (try dsimp only at hSw); go_simp; try (with_reducible rfl))
      case' rest21 => try simp only [Act.put, List.setIfInBounds_toArray, List.set_cons_zero, List.set_cons_succ]
      refine wpAnyH_take (i := 22) (v := ?v22) (get22 _ _ _ _ _ _ _ _ _ _ _ _ _ _ _ _ _ _ _ _ _ _ _ _) (by kernel_rfl) (by kernel_rfl) (by kernel_rfl) (fun _ _ _ h => h) (Or.inl ⟨by rfl, ?hy22⟩) (by assumption) ?rest22
      case hy22 => (intro w0 hSw; (try dsimp only at hSw); go_simp; try (with_reducible rfl))
      case' rest22 => try simp only [Act.put, List.setIfInBounds_toArray, List.set_cons_zero, List.set_cons_succ]
      refine wpAnyH_take (i := 23) (v := undef) (get23 _ _ _ _ _ _ _ _ _ _ _ _ _ _ _ _ _ _ _ _ _ _ _ _ _) (by kernel_rfl) (by kernel_rfl) (by kernel_rfl) (fun _ _ _ h => h) (Or.inr ⟨by rfl, rfl⟩) (by assumption) ?rest23
      case' rest23 => try simp only [Act.put, List.setIfInBounds_toArray, List.set_cons_zero, List.set_cons_succ]
      refine wpAnyH_take (i := 24) (v := undef) (get24 _ _ _ _ _ _ _ _ _ _ _ _ _ _ _ _ _ _ _ _ _ _ _ _ _ _) (by kernel_rfl) (by kernel_rfl) (by kernel_rfl) (fun _ _ _ h => h) (Or.inr ⟨by rfl, rfl⟩) (by assumption) ?rest24
      case' rest24 => try simp only [Act.put, List.setIfInBounds_toArray, List.set_cons_zero, List.set_cons_succ]
      refine wpAnyH_take (i := 25) (v := undef) (get25 _ _ _ _ _ _ _ _ _ _ _ _ _ _ _ _ _ _ _ _ _ _ _ _ _ _ _) (by kernel_rfl) (by kernel_rfl) (by kernel_rfl) (fun _ _ _ h => h) (Or.inr ⟨by rfl, rfl⟩) (by assumption) ?rest25
      case' rest25 => try simp only [Act.put, List.setIfInBounds_toArray, List.set_cons_zero, List.set_cons_succ]
      refine wpAnyH_take (i := 26) (v := ?v26) (get26 _ _ _ _ _ _ _ _ _ _ _ _ _ _ _ _ _ _ _ _ _ _ _ _ _ _ _ _) (by kernel_rfl) (by kernel_rfl) (by kernel_rfl) (fun _ _ _ h => h) (Or.inl ⟨by rfl, ?hy26⟩) (by assumption) ?rest26
      case hy26 => (intro w0 hSw; (try dsimp only at hSw); go_simp; try (with_reducible rfl))
      case' rest26 => try simp only [Act.put, List.setIfInBounds_toArray, List.set_cons_zero, List.set_cons_succ]
      refine wpAnyH_take (i := 27) (v := ?v27) (get27 _ _ _ _ _ _ _ _ _ _ _ _ _ _ _ _ _ _ _ _ _ _ _ _ _ _ _ _ _) (by kernel_rfl) (by kernel_rfl) (by kernel_rfl) (fun _ _ _ h => h) (Or.inl ⟨by rfl, ?hy27⟩) (by assumption) ?rest27
      case hy27 => (intro w0 hSw; (try dsimp only at hSw); go_simp; try (with_reducible rfl))
      case' rest27 => try simp only [Act.put, List.setIfInBounds_toArray, List.set_cons_zero, List.set_cons_succ]
      refine wpAnyH_take (i := 28) (v := ?v28) (get28 _ _ _ _ _ _ _ _ _ _ _ _ _ _ _ _ _ _ _ _ _ _ _ _ _ _ _ _ _ _) (by kernel_rfl) (by kernel_rfl) (by kernel_rfl) (fun _ _ _ h => h) (Or.inl ⟨by rfl, ?hy28⟩) (by assumption) ?rest28
      case hy28 => (intro w0 hSw; (try dsimp only at hSw); go_simp; try (with_reducible rfl))
      case' rest28 => try simp only [Act.put, List.setIfInBounds_toArray, List.set_cons_zero, List.set_cons_succ]
      refine wpAnyH_done (by kernel_rfl) ?_ _
      go_wp2
      go_ret
      exact ⟨rfl, hK9.q.below⟩
end Go.Proofs.YtlpidcgnipgkoaaDoor
