/- Rows of memory; slices of bytes: those that came in, those that a call makes. Made by gmem.py. -/
import Derived.Test.YtidocfajhhpfdaaDoorPln
import Derived.Test.YtidocfajhhpfdaaDoorSh
import Derived.Laws.AppendOwnNone
import Derived.WalkKit
import Derived.BigCall
import Derived.BigQuiet
import Derived.Deep.RegionWith
import Derived.Deep.RegionLaw
import Derived.Deep.RegionHeld3
import Derived.Laws.CopyOwn
import Derived.Lib.SlBytesConst
import Derived.Deep.MidRow
import Derived.Deep.WholeRow
import Derived.Maps.OwnSet
import Derived.Maps.Views
import Derived.Maps.RangeWalk
namespace Go.Proofs.YtidocfajhhpfdaaDoor
open Go.RowKit
set_option maxRecDepth 5000 in
theorem hide {p : Prop} (h : p) : Hid p := h
set_option maxRecDepth 5000 in
theorem unhide {p : Prop} (h : Hid p) : p := h
set_option maxRecDepth 5000 in
theorem wrap_nat (n : Nat) (h : n ≤ 9223372036854775807) : IntKind.i64.wrap (n : Int) = (n : Int) := by rw [IntKind.wrap_i64]; omega
/- block g of wr is a row of the type t, whose cells are c, none of them frozen -/
def RowAt (wr : World) (g : Nat) (t : TypeId) (c : Array Value) : Prop := wr.heap[g]? = some (.cells c t (0, 0))
set_option maxRecDepth 5000 in
theorem RowAt.cell {wr : World} {g : Nat} {t : TypeId} {c : Array Value} (h : RowAt wr g t c) (j : Nat) : wr.cell? ⟨g, j, none⟩ = c[j]? := cell_of_row wr g j c t (0, 0) h
set_option maxRecDepth 5000 in
theorem RowAt.frozen {wr : World} {g : Nat} {t : TypeId} {c : Array Value} (h : RowAt wr g t c) (j : Nat) : wr.frozen? ⟨g, j, none⟩ = false := frozen_of_row wr g j c t h
set_option maxRecDepth 5000 in
theorem RowAt.set {wr : World} {g : Nat} {t : TypeId} {c : Array Value} (h : RowAt wr g t c) (j : Nat) (v : Value) : RowAt (wr.setCell ⟨g, j, none⟩ v) g t (c.setIfInBounds j v) := heap_setCell_same wr g j c t v h
set_option maxRecDepth 5000 in
theorem RowAt.other {wr : World} {g : Nat} {t : TypeId} {c : Array Value} (h : RowAt wr g t c) (a : Addr) (v : Value) (hne : g ≠ a.block) : RowAt (wr.setCell a v) g t c := by
  unfold RowAt; rw [heap_setCell_other _ _ _ _ hne]; exact h
set_option maxRecDepth 5000 in
theorem heap_drewN (w : World) (n : Nat) : (w.drewN n).heap = w.heap := rfl
set_option maxRecDepth 5000 in
theorem RowAt.drewN {wr : World} {g : Nat} {t : TypeId} {c : Array Value} (h : RowAt wr g t c) (n : Nat) : RowAt (wr.drewN n) g t c := by
  exact h
set_option maxRecDepth 5000 in
theorem RowAt.drew {wr : World} {g : Nat} {t : TypeId} {c : Array Value} (h : RowAt wr g t c) : RowAt wr.drew g t c := h
set_option maxRecDepth 5000 in
theorem RowAt.below {w w' : World} {B g : Nat} {t : TypeId} {c : Array Value} (h : RowAt w g t c) (hb : Below B w w') (hg : g < B) : RowAt w' g t c := by
  unfold RowAt; rw [hb.block g hg]; exact h
set_option maxRecDepth 5000 in
theorem RowAt.new (w : World) (t : TypeId) (c : Array Value) : RowAt (w.alloc (.cells c t)) w.heap.size t c := heap_alloc_last w _
set_option maxRecDepth 5000 in
theorem RowAt.alloc {w : World} {g : Nat} {t : TypeId} {c : Array Value} (h : RowAt w g t c) (o : Obj) : RowAt (w.alloc o) g t c := by
  have hlt : g < w.heap.size := (Array.getElem?_eq_some_iff.1 h).1
  unfold RowAt; rw [Below.heap_alloc _ _ _ hlt]; exact h
set_option maxRecDepth 5000 in
theorem RowAt.lt {w : World} {g : Nat} {t : TypeId} {c : Array Value} (h : RowAt w g t c) : g < w.heap.size := (Array.getElem?_eq_some_iff.1 h).1
set_option maxRecDepth 5000 in
theorem below_drewN {B : Nat} {w wr : World} (h : Below B w wr) (n : Nat) : Below B w (wr.drewN n) := ⟨h.os, h.tape, h.output, h.size, h.block⟩

def vb (l : List (UInt8)) : List Value := l.map (fun b => .int .u8 b.toNat)
set_option maxRecDepth 5000 in
theorem vb_len (l : List (UInt8)) : (vb l).length = l.length := by simp [vb]
set_option maxRecDepth 5000 in
theorem vb_app (l m : List (UInt8)) : vb (l ++ m) = vb l ++ vb m := by simp [vb]
set_option maxRecDepth 5000 in
theorem vb_one (l : List (UInt8)) : ∀ v ∈ vb l, v.oneCell' = true := fun v hv => by
  simp only [vb, List.mem_map] at hv; obtain ⟨j, _, rfl⟩ := hv; rfl
set_option maxRecDepth 5000 in
theorem vb_get (l : List (UInt8)) (j : Nat) (h : j < l.length) : (vb l)[j]? = some (.int .u8 (l.getD j 0).toNat) := by simp [vb, h]
/- the address ao of a slice that holds the bytes l -/
def SlL (w : World) (ao : Option Addr) (l : List (UInt8)) : Prop := 0 < l.length → ∃ b o, ao = some ⟨b, o, none⟩ ∧ b < w.heap.size ∧ ∀ j, j < l.length → w.cell? ⟨b, o + j, none⟩ = some (.int .u8 (l.getD j 0).toNat)
set_option maxRecDepth 5000 in
theorem SlL.below {B : Nat} {w w' : World} {ao : Option Addr} {l : List (UInt8)} (h : SlL w ao l) (hb : Below B w w') (hB : w.heap.size ≤ B) : SlL w' ao l := fun hn => by
  obtain ⟨b, o, e, hlt, hc⟩ := h hn
  exact ⟨b, o, e, Nat.lt_of_lt_of_le hlt hb.size, fun j hj => (hb.cell (p := ⟨b, o + j, none⟩) (Nat.lt_of_lt_of_le hlt hB)).trans (hc j hj)⟩
set_option maxRecDepth 5000 in
theorem SlL.alloc {w : World} {ao : Option Addr} {l : List (UInt8)} (h : SlL w ao l) (o : Obj) : SlL (w.alloc o) ao l := h.below ((Below.refl w.heap.size w).alloc (Nat.le_refl _) o) (Nat.le_refl _)
set_option maxRecDepth 5000 in
theorem SlL.nil (w : World) (ao : Option Addr) : SlL w ao [] := fun h => by simp at h
set_option maxRecDepth 5000 in
theorem SlL.one (w : World) (b : UInt8) (t : TypeId) : SlL (w.alloc (.cells #[.int .u8 b.toNat] t)) (some ⟨w.heap.size, 0, none⟩) [b] := fun _ => by
  refine ⟨w.heap.size, 0, rfl, by simp, fun j hj => ?_⟩
  have : j = 0 := by simpa using hj
  subst this
  rw [cell_of_row _ _ _ _ t (0, 0) (heap_alloc_last w _)]; rfl
set_option maxRecDepth 5000 in
theorem SlL.oneI (w : World) (x : Int) (b : UInt8) (t : TypeId) (h : x = (b.toNat : Int)) : SlL (w.alloc (.cells #[.int .u8 x] t)) (some ⟨w.heap.size, 0, none⟩) [b] := by
  subst h; exact SlL.one w b t
/- the slice v is the call's own, from block 'base' on, and holds the bytes l -/
def OwnB (w : World) (base : Nat) (v : Value) (l : List (UInt8)) : Prop := w.ownsRow base 5 1 v l.length (vb l)
set_option maxRecDepth 5000 in
theorem OwnB.nil (w : World) (base : Nat) : OwnB w base (.slice none 0 0) [] := World.ownsRow_nil _ _ _ _
set_option maxRecDepth 5000 in
theorem OwnB.alloc {w : World} {base : Nat} {v : Value} {l : List (UInt8)} (h : OwnB w base v l) (o : Obj) : OwnB (w.alloc o) base v l := World.ownsRow.alloc h o
set_option maxRecDepth 5000 in
theorem OwnB.form {w : World} {base : Nat} {v : Value} {l : List (UInt8)} (h : OwnB w base v l) (hl : 0 < l.length) : ∃ g cap, v = .slice (some ⟨g, 0, none⟩) l.length cap ∧ base ≤ g ∧ l.length ≤ cap ∧ cap ≤ maxLen ∧ g < w.heap.size ∧ ∀ j, j < l.length → w.cell? ⟨g, j, none⟩ = some (.int .u8 (l.getD j 0).toNat) := by
  have h0 : w.ownsRow base 5 1 v l.length (vb l) := h
  rcases h0.2 with ⟨_, h'⟩ | ⟨g, cap, cur, rfl, hb, hg, hc, hm, _, _⟩
  · omega
  · exact ⟨g, cap, rfl, hb, hc, hm, (Array.getElem?_eq_some_iff.1 hg).1, fun j hj => by rw [World.ownsRow.cellAt h0 j (by omega), vb_get l j hj]⟩
set_option maxRecDepth 5000 in
theorem OwnB.sl {w : World} {base g cap : Nat} {l : List (UInt8)} (h : OwnB w base (.slice (some ⟨g, 0, none⟩) l.length cap) l) : SlL w (some ⟨g, 0, none⟩) l := fun hl => by
  obtain ⟨g', cap', e, _, _, _, hlt, hc⟩ := h.form hl
  simp only [Value.slice.injEq, Option.some.injEq, Addr.mk.injEq, and_true, true_and] at e
  obtain ⟨rfl, rfl⟩ := e
  exact ⟨g, 0, rfl, hlt, fun j hj => by rw [Nat.zero_add]; exact hc j hj⟩
set_option maxRecDepth 5000 in
theorem infoB : (Tryd.prog.info? 5).map (fun i => (i.zero, i.size, i.bytes)) = some (some (.int .u8 0), 1, 1) := by kernel_rfl
set_option maxRecDepth 5000 in
theorem wpList_append_B {w : World} {ops : Array Oper} {rest : List Oper} {o : Oper} {a : Act} {Q : Exit → Act → World → Prop} (hgd : o.guard = none) (s x : Operand)
    (ho : o.op = .call { callee := .builtin .append, args := #[s, x], argTypes := #[22, 22] }) (base : Nat) (v : Value) (l : List (UInt8)) (hs : a.eval s = v) (hown : OwnB w base v l)
    (ao : Option Addr) (m c : Nat) (l2 : List (UInt8)) (hx : a.eval x = .slice ao m c) (hm : l2.length = m) (hsrc : SlL w ao l2) (hnil : ao = none → c = 0) (hbound : l.length + m ≤ 1099511627776) (hbase : base ≤ w.heap.size)
    (h : ∀ v' w', OwnB w' base v' (l ++ l2) → w.grownBy w' v.ownBlock → wpList Tryd.prog ops Q rest (a.put o.dst v') w') : wpList Tryd.prog ops Q (o :: rest) a w := by
  obtain ⟨i0, hi, hz0, hz1, hz2⟩ := info_parts infoB
  subst hm
  cases ao with
  | none =>
    have h0 : l2.length = 0 := by
      rcases Nat.eq_zero_or_pos l2.length with h | h
      · exact h
      · obtain ⟨b, o, e, _⟩ := hsrc h; cases e
    obtain rfl : l2 = [] := List.eq_nil_of_length_eq_zero h0
    obtain rfl := hnil rfl
    refine wpList_append_own_none hgd s x 22 ho base 5 i0 1 Tryd.underlying22 hi v l.length (vb l) hs hown hx ?_
    exact h v w (by rw [List.append_nil]; exact hown) ⟨rfl, rfl, rfl, Nat.le_refl _, fun _ _ _ => rfl⟩
  | some ad =>
    refine wpList_append_own w hgd s x 22 ho base 5 i0 (.int .u8 0) 1 1 Tryd.underlying22 hi hz0 hz1 hz2 rfl (by decide) v l.length (vb l) hs hown ad l2.length c (vb l2) hx (by rw [vb_len, Nat.mul_one]) ?_ (vb_one l2) (by unfold maxLen; omega) (by omega) hbase ?_
    · intro j u hu
      have hj : j < l2.length := by have := (List.getElem?_eq_some_iff.1 hu).1; rwa [vb_len] at this
      obtain ⟨b, o', e, _, hc⟩ := hsrc (by omega)
      cases e
      rw [Addr.add_mid, hc j hj, ← vb_get l2 j hj, hu]
    · intro v' w' h1 h2 _
      exact h v' w' (by unfold OwnB; rw [List.length_append, vb_app]; exact h1) h2
/- what the base's own blocks do to the rest -/
set_option maxRecDepth 5000 in
theorem grown_below {w w' w0 : World} {base : Nat} {v : Value} {l : List (UInt8)} (hown : OwnB w base v l) (hg : w.grownBy w' v.ownBlock) (hb : Below base w0 w) (hB : base ≤ w.heap.size) : Below base w0 w' := by
  refine hb.grown hg hB fun k hk => ?_
  have h0 : w.ownsRow base 5 1 v l.length (vb l) := hown
  rcases h0.2 with ⟨rfl, _⟩ | ⟨g, cap, cur, rfl, hg', _⟩
  · simp [Value.ownBlock] at hk
  · simp [Value.ownBlock] at hk; omega
set_option maxRecDepth 5000 in
theorem OwnB.below {w w' : World} {base : Nat} {v : Value} {l : List (UInt8)} (h : OwnB w base v l) (hb : Below w.heap.size w w') : OwnB w' base v l := by
  have h0 : w.ownsRow base 5 1 v l.length (vb l) := h
  refine ⟨h0.1, ?_⟩
  rcases h0.2 with h1 | ⟨g, cap, cur, e, h1, h2, h3⟩
  · exact Or.inl h1
  · exact Or.inr ⟨g, cap, cur, e, h1, by rw [hb.block g (Array.getElem?_eq_some_iff.1 h2).1]; exact h2, h3⟩
set_option maxRecDepth 5000 in
theorem OwnB.build (w : World) (b : UInt8) (base : Nat) (hb : base ≤ w.heap.size) : OwnB (w.alloc (.cells #[.int .u8 b.toNat] 5)) base (.slice (some ⟨w.heap.size, 0, none⟩) 1 1) [b] :=
  ⟨rfl, Or.inr ⟨w.heap.size, 1, _, rfl, hb, heap_alloc_last w _, by simp, by unfold maxLen; omega, rfl, rfl⟩⟩
set_option maxRecDepth 5000 in
theorem SlL.litm (w : World) (l : List (UInt8)) (A : Array Value) (t : TypeId) (fr : Nat × Nat) (h : A = (vb l).toArray) : SlL (w.alloc (.cells A t fr)) (some ⟨w.heap.size, 0, none⟩) l := fun _ => by
  subst h
  refine ⟨w.heap.size, 0, rfl, by simp, fun j hj => ?_⟩
  rw [cell_of_row _ _ _ _ t fr (heap_alloc_last w _), Nat.zero_add]
  simp only [List.getElem?_toArray]
  exact vb_get l j hj
set_option maxRecDepth 5000 in
theorem run_conv (w : World) (C : Array Value) (g n c : Nat) (hg : g = w.heap.size) : (convert 22 22 (.slice (some ⟨g, 0, none⟩) n c)).run Tryd.prog (w.alloc (.cells C 5)) = .ok (.slice (some ⟨g, 0, none⟩) n c) (w.alloc (.cells C 5 (C.size, C.size + 1))) := by
  subst hg; exact Lib.run_convert_bytes_const w 22 5 C n c Tryd.underlying22 Tryd.underlying5
end Go.Proofs.YtidocfajhhpfdaaDoor
