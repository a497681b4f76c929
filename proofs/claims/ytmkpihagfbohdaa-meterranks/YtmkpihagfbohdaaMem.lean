/- Slices of floats: those that came in, those that a call makes and appends to; rows of memory. Made by gmem.py. -/
import Derived.Test.YtmkpihagfbohdaaSml
import Derived.Laws.AppendOwnNone
import Derived.BigCall
import Derived.BigQuiet
import Derived.Deep.RegionWith
import Derived.Deep.RegionLaw
import Derived.Deep.RegionHeld3
import Derived.Laws.CopyOwn
import Derived.Lib.AppendStr
import Derived.Lib.SlBytesConst
import Derived.Deep.MidRow
import Derived.Deep.WholeRow
namespace Go.Proofs.Ytmkpihagfbohdaa
open Go.RowKit
set_option maxRecDepth 5000 in
theorem hide {p : Prop} (h : p) : Hid p := h
set_option maxRecDepth 5000 in
theorem unhide {p : Prop} (h : Hid p) : p := h
set_option maxRecDepth 5000 in
theorem wrap_nat (n : Nat) (h : n ≤ 9223372036854775807) : IntKind.i64.wrap (n : Int) = (n : Int) := by rw [IntKind.wrap_i64]; omega
/- block g of wr is a row of the type t, whose cells are c, none of them frozen -/
def RowAt (wr : World) (g : Nat) (t : TypeId) (c : Array Value) : Prop := wr.heap[g]? = some (.cells c t (0, 0))
set_option maxRecDepth 5000 in
theorem RowAt.cell {wr : World} {g : Nat} {t : TypeId} {c : Array Value} (h : RowAt wr g t c) (j : Nat) : wr.cell? ⟨g, j, none⟩ = c[j]? := cell_of_row wr g j c t (0, 0) h
set_option maxRecDepth 5000 in
theorem RowAt.frozen {wr : World} {g : Nat} {t : TypeId} {c : Array Value} (h : RowAt wr g t c) (j : Nat) : wr.frozen? ⟨g, j, none⟩ = false := frozen_of_row wr g j c t h
set_option maxRecDepth 5000 in
theorem RowAt.set {wr : World} {g : Nat} {t : TypeId} {c : Array Value} (h : RowAt wr g t c) (j : Nat) (v : Value) : RowAt (wr.setCell ⟨g, j, none⟩ v) g t (c.setIfInBounds j v) := heap_setCell_same wr g j c t v h
set_option maxRecDepth 5000 in
theorem RowAt.other {wr : World} {g : Nat} {t : TypeId} {c : Array Value} (h : RowAt wr g t c) (a : Addr) (v : Value) (hne : g ≠ a.block) : RowAt (wr.setCell a v) g t c := by
  unfold RowAt; rw [heap_setCell_other _ _ _ _ hne]; exact h
set_option maxRecDepth 5000 in
theorem heap_drewN (w : World) (n : Nat) : (w.drewN n).heap = w.heap := rfl
set_option maxRecDepth 5000 in
theorem RowAt.drewN {wr : World} {g : Nat} {t : TypeId} {c : Array Value} (h : RowAt wr g t c) (n : Nat) : RowAt (wr.drewN n) g t c := by
  exact h
set_option maxRecDepth 5000 in
theorem RowAt.drew {wr : World} {g : Nat} {t : TypeId} {c : Array Value} (h : RowAt wr g t c) : RowAt wr.drew g t c := h
set_option maxRecDepth 5000 in
theorem RowAt.below {w w' : World} {B g : Nat} {t : TypeId} {c : Array Value} (h : RowAt w g t c) (hb : Below B w w') (hg : g < B) : RowAt w' g t c := by
  unfold RowAt; rw [hb.block g hg]; exact h
set_option maxRecDepth 5000 in
theorem RowAt.new (w : World) (t : TypeId) (c : Array Value) : RowAt (w.alloc (.cells c t)) w.heap.size t c := heap_alloc_last w _
set_option maxRecDepth 5000 in
theorem RowAt.alloc {w : World} {g : Nat} {t : TypeId} {c : Array Value} (h : RowAt w g t c) (o : Obj) : RowAt (w.alloc o) g t c := by
  have hlt : g < w.heap.size := (Array.getElem?_eq_some_iff.1 h).1
  unfold RowAt; rw [Below.heap_alloc _ _ _ hlt]; exact h
set_option maxRecDepth 5000 in
theorem RowAt.lt {w : World} {g : Nat} {t : TypeId} {c : Array Value} (h : RowAt w g t c) : g < w.heap.size := (Array.getElem?_eq_some_iff.1 h).1
set_option maxRecDepth 5000 in
theorem below_drewN {B : Nat} {w wr : World} (h : Below B w wr) (n : Nat) : Below B w (wr.drewN n) := ⟨h.os, h.tape, h.output, h.size, h.block⟩

def vf (l : List Nat) : List Value := l.map (fun b => .float .f64 b)
set_option maxRecDepth 5000 in
theorem vf_len (l : List Nat) : (vf l).length = l.length := by simp [vf]
set_option maxRecDepth 5000 in
theorem vf_app (l m : List Nat) : vf (l ++ m) = vf l ++ vf m := by simp [vf]
set_option maxRecDepth 5000 in
theorem vf_one (l : List Nat) : ∀ v ∈ vf l, v.oneCell' = true := fun v hv => by
  simp only [vf, List.mem_map] at hv; obtain ⟨j, _, rfl⟩ := hv; rfl
set_option maxRecDepth 5000 in
theorem vf_get (l : List Nat) (j : Nat) (h : j < l.length) : (vf l)[j]? = some (.float .f64 (l.getD j 0)) := by simp [vf, h]
/- the address ao of a slice that holds the bytes l -/
def SlF (w : World) (ao : Option Addr) (l : List Nat) : Prop := 0 < l.length → ∃ b o, ao = some ⟨b, o, none⟩ ∧ b < w.heap.size ∧ ∀ j, j < l.length → w.cell? ⟨b, o + j, none⟩ = some (.float .f64 (l.getD j 0))
set_option maxRecDepth 5000 in
theorem SlF.below {B : Nat} {w w' : World} {ao : Option Addr} {l : List Nat} (h : SlF w ao l) (hb : Below B w w') (hB : w.heap.size ≤ B) : SlF w' ao l := fun hn => by
  obtain ⟨b, o, e, hlt, hc⟩ := h hn
  exact ⟨b, o, e, Nat.lt_of_lt_of_le hlt hb.size, fun j hj => (hb.cell (p := ⟨b, o + j, none⟩) (Nat.lt_of_lt_of_le hlt hB)).trans (hc j hj)⟩
set_option maxRecDepth 5000 in
theorem SlF.alloc {w : World} {ao : Option Addr} {l : List Nat} (h : SlF w ao l) (o : Obj) : SlF (w.alloc o) ao l := h.below ((Below.refl w.heap.size w).alloc (Nat.le_refl _) o) (Nat.le_refl _)
set_option maxRecDepth 5000 in
theorem SlF.nil (w : World) (ao : Option Addr) : SlF w ao [] := fun h => by simp at h
set_option maxRecDepth 5000 in
theorem SlF.one (w : World) (b : Nat) (t : TypeId) : SlF (w.alloc (.cells #[.float .f64 b] t)) (some ⟨w.heap.size, 0, none⟩) [b] := fun _ => by
  refine ⟨w.heap.size, 0, rfl, by simp, fun j hj => ?_⟩
  have : j = 0 := by simpa using hj
  subst this
  rw [cell_of_row _ _ _ _ t (0, 0) (heap_alloc_last w _)]; rfl
/- the slice v is the call's own, from block 'base' on, and holds the bytes l -/
def OwnF (w : World) (base : Nat) (v : Value) (l : List Nat) : Prop := w.ownsRow base 25 1 v l.length (vf l)
set_option maxRecDepth 5000 in
theorem OwnF.nil (w : World) (base : Nat) : OwnF w base (.slice none 0 0) [] := World.ownsRow_nil _ _ _ _
set_option maxRecDepth 5000 in
theorem OwnF.alloc {w : World} {base : Nat} {v : Value} {l : List Nat} (h : OwnF w base v l) (o : Obj) : OwnF (w.alloc o) base v l := World.ownsRow.alloc h o
set_option maxRecDepth 5000 in
theorem OwnF.form {w : World} {base : Nat} {v : Value} {l : List Nat} (h : OwnF w base v l) (hl : 0 < l.length) : ∃ g cap, v = .slice (some ⟨g, 0, none⟩) l.length cap ∧ base ≤ g ∧ l.length ≤ cap ∧ cap ≤ maxLen ∧ g < w.heap.size ∧ ∀ j, j < l.length → w.cell? ⟨g, j, none⟩ = some (.float .f64 (l.getD j 0)) := by
  have h0 : w.ownsRow base 25 1 v l.length (vf l) := h
  rcases h0.2 with ⟨_, h'⟩ | ⟨g, cap, cur, rfl, hb, hg, hc, hm, _, _⟩
  · omega
  · exact ⟨g, cap, rfl, hb, hc, hm, (Array.getElem?_eq_some_iff.1 hg).1, fun j hj => by rw [World.ownsRow.cellAt h0 j (by omega), vf_get l j hj]⟩
set_option maxRecDepth 5000 in
theorem OwnF.sl {w : World} {base g cap : Nat} {l : List Nat} (h : OwnF w base (.slice (some ⟨g, 0, none⟩) l.length cap) l) : SlF w (some ⟨g, 0, none⟩) l := fun hl => by
  obtain ⟨g', cap', e, _, _, _, hlt, hc⟩ := h.form hl
  simp only [Value.slice.injEq, Option.some.injEq, Addr.mk.injEq, and_true, true_and] at e
  obtain ⟨rfl, rfl⟩ := e
  exact ⟨g, 0, rfl, hlt, fun j hj => by rw [Nat.zero_add]; exact hc j hj⟩
set_option maxRecDepth 5000 in
theorem infoF : (Try.prog.info? 25).map (fun i => (i.zero, i.size, i.bytes)) = some (some (.float .f64 0), 1, 8) := by kernel_rfl
set_option maxRecDepth 5000 in
theorem wpList_append_F {w : World} {ops : Array Oper} {rest : List Oper} {o : Oper} {a : Act} {Q : Exit → Act → World → Prop} (hgd : o.guard = none) (s x : Operand)
    (ho : o.op = .call { callee := .builtin .append, args := #[s, x], argTypes := #[30, 30] }) (base : Nat) (v : Value) (l : List Nat) (hs : a.eval s = v) (hown : OwnF w base v l)
    (ao : Option Addr) (m c : Nat) (l2 : List Nat) (hx : a.eval x = .slice ao m c) (hm : l2.length = m) (hsrc : SlF w ao l2) (hnil : ao = none → c = 0) (hbound : l.length + m ≤ 1099511627776) (hbase : base ≤ w.heap.size)
    (h : ∀ v' w', OwnF w' base v' (l ++ l2) → w.grownBy w' v.ownBlock → wpList Try.prog ops Q rest (a.put o.dst v') w') : wpList Try.prog ops Q (o :: rest) a w := by
  obtain ⟨i0, hi, hz0, hz1, hz2⟩ := info_parts infoF
  subst hm
  cases ao with
  | none =>
    have h0 : l2.length = 0 := by
      rcases Nat.eq_zero_or_pos l2.length with h | h
      · exact h
      · obtain ⟨b, o, e, _⟩ := hsrc h; cases e
    obtain rfl : l2 = [] := List.eq_nil_of_length_eq_zero h0
    obtain rfl := hnil rfl
    refine wpList_append_own_none hgd s x 30 ho base 25 i0 1 Try.underlying30 hi v l.length (vf l) hs hown hx ?_
    exact h v w (by rw [List.append_nil]; exact hown) ⟨rfl, rfl, rfl, Nat.le_refl _, fun _ _ _ => rfl⟩
  | some ad =>
    refine wpList_append_own w hgd s x 30 ho base 25 i0 (.float .f64 0) 1 8 Try.underlying30 hi hz0 hz1 hz2 rfl (by decide) v l.length (vf l) hs hown ad l2.length c (vf l2) hx (by rw [vf_len, Nat.mul_one]) ?_ (vf_one l2) (by unfold maxLen; omega) (by omega) hbase ?_
    · intro j u hu
      have hj : j < l2.length := by have := (List.getElem?_eq_some_iff.1 hu).1; rwa [vf_len] at this
      obtain ⟨b, o', e, _, hc⟩ := hsrc (by omega)
      cases e
      rw [Addr.add_mid, hc j hj, ← vf_get l2 j hj, hu]
    · intro v' w' h1 h2 _
      exact h v' w' (by unfold OwnF; rw [List.length_append, vf_app]; exact h1) h2
/- what the base's own blocks do to the rest -/
set_option maxRecDepth 5000 in
theorem grown_belowF {w w' w0 : World} {base : Nat} {v : Value} {l : List Nat} (hown : OwnF w base v l) (hg : w.grownBy w' v.ownBlock) (hb : Below base w0 w) (hB : base ≤ w.heap.size) : Below base w0 w' := by
  refine hb.grown hg hB fun k hk => ?_
  have h0 : w.ownsRow base 25 1 v l.length (vf l) := hown
  rcases h0.2 with ⟨rfl, _⟩ | ⟨g, cap, cur, rfl, hg', _⟩
  · simp [Value.ownBlock] at hk
  · simp [Value.ownBlock] at hk; omega
set_option maxRecDepth 5000 in
theorem OwnF.below {w w' : World} {base : Nat} {v : Value} {l : List Nat} (h : OwnF w base v l) (hb : Below w.heap.size w w') : OwnF w' base v l := by
  have h0 : w.ownsRow base 25 1 v l.length (vf l) := h
  refine ⟨h0.1, ?_⟩
  rcases h0.2 with h1 | ⟨g, cap, cur, e, h1, h2, h3⟩
  · exact Or.inl h1
  · exact Or.inr ⟨g, cap, cur, e, h1, by rw [hb.block g (Array.getElem?_eq_some_iff.1 h2).1]; exact h2, h3⟩
set_option maxRecDepth 5000 in
theorem OwnF.build (w : World) (b : Nat) (base : Nat) (hb : base ≤ w.heap.size) : OwnF (w.alloc (.cells #[.float .f64 b] 25)) base (.slice (some ⟨w.heap.size, 0, none⟩) 1 1) [b] :=
  ⟨rfl, Or.inr ⟨w.heap.size, 1, _, rfl, hb, heap_alloc_last w _, by simp, by unfold maxLen; omega, rfl, rfl⟩⟩
set_option maxRecDepth 5000 in
theorem SlF.litm (w : World) (l : List Nat) (A : Array Value) (t : TypeId) (fr : Nat × Nat) (h : A = (vf l).toArray) : SlF (w.alloc (.cells A t fr)) (some ⟨w.heap.size, 0, none⟩) l := fun _ => by
  subst h
  refine ⟨w.heap.size, 0, rfl, by simp, fun j hj => ?_⟩
  rw [cell_of_row _ _ _ _ t fr (heap_alloc_last w _), Nat.zero_add]
  simp only [List.getElem?_toArray]
  exact vf_get l j hj
set_option maxRecDepth 5000 in
theorem OwnF.open {w : World} {base : Nat} {v : Value} {l : List Nat} (h : OwnF w base v l) : ∃ ao c, v = .slice ao l.length c ∧ SlF w ao l ∧ (ao = none → c = 0) ∧ l.length ≤ c ∧ c ≤ maxLen := by
  have h0 : w.ownsRow base 25 1 v l.length (vf l) := h
  rcases h0.2 with ⟨rfl, hn⟩ | ⟨g, cap, cur, rfl, hb, hg, hc, hm, _, _⟩
  · exact ⟨none, 0, by rw [hn], fun hh => by omega, fun _ => rfl, by omega, by unfold maxLen; omega⟩
  · exact ⟨_, cap, rfl, fun hl => ⟨g, 0, rfl, (Array.getElem?_eq_some_iff.1 hg).1, fun j hj => by rw [Nat.zero_add, World.ownsRow.cellAt h0 j (by omega), vf_get l j hj]⟩, fun hh => (by cases hh), hc, hm⟩
set_option maxRecDepth 5000 in
theorem OwnF.lower {w : World} {base base' : Nat} {v : Value} {n : List Nat} (h : OwnF w base v n) (hb : base' ≤ base) : OwnF w base' v n := by
  have h0 : w.ownsRow base 25 1 v n.length (vf n) := h
  refine ⟨h0.1, ?_⟩
  rcases h0.2 with h1 | ⟨g, cap, cur, e, h1, h2, h3⟩
  · exact Or.inl h1
  · exact Or.inr ⟨g, cap, cur, e, Nat.le_trans hb h1, h2, h3⟩
set_option maxRecDepth 5000 in
theorem run_append_F {w : World} {base : Nat} {v : Value} {l : List Nat} (ty : TypeId) (hown : OwnF w base v l) (ad : Addr) (m c : Nat) (l2 : List Nat) (hm : l2.length = m) (hsrc : SlF w (some ad) l2) (hbound : l.length + m ≤ 1099511627776) (hbase : base ≤ w.heap.size) :
    ∃ v' w', (Builtin.append_ #[30, 30] ty #[v, .slice (some ad) m c]).run Try.prog w = .ok v' w' ∧ OwnF w' base v' (l ++ l2) ∧ w.grownBy w' v.ownBlock := by
  obtain ⟨i0, hi, hz0, hz1, hz2⟩ := info_parts infoF
  subst hm
  obtain ⟨v', w', h1, h2, h3, _⟩ := run_append_own (P := Try.prog) w base 30 ty 25 i0 (.float .f64 0) 1 8 Try.underlying30 hi hz0 hz1 hz2 rfl (by decide) v l.length (vf l) hown ad l2.length c (vf l2) (by rw [vf_len, Nat.mul_one]) (by
    intro j u hu
    have hj : j < l2.length := by have := (List.getElem?_eq_some_iff.1 hu).1; rwa [vf_len] at this
    obtain ⟨b, o', e, _, hc⟩ := hsrc (by omega)
    cases e
    rw [Addr.add_mid, hc j hj, ← vf_get l2 j hj, hu]) (vf_one l2) (by unfold maxLen; omega) (by omega) hbase
  exact ⟨v', w', h1, by unfold OwnF; rw [List.length_append, vf_app]; exact h2, h3⟩
set_option maxRecDepth 5000 in
theorem step_append_F {ops : Array Oper} {o : Oper} {a : Act} {w : World} {K : Act → World → Prop} {Q : Exit → Act → World → Prop} {E : Prop} (hgd : o.guard = none) (s x : Operand)
    (ho : o.op = .call { callee := .builtin .append, args := #[s, x], argTypes := #[30, 30] }) (base : Nat) (v : Value) (l : List Nat) (hs : a.eval s = v) (hown : OwnF w base v l)
    (ad : Addr) (m c : Nat) (l2 : List Nat) (hx : a.eval x = .slice (some ad) m c) (hm : l2.length = m) (hsrc : SlF w (some ad) l2) (hbound : l.length + m ≤ 1099511627776) (hbase : base ≤ w.heap.size)
    (h : ∀ v' w', OwnF w' base v' (l ++ l2) → w.grownBy w' v.ownBlock → K (a.put o.dst v') w') : if Region.wanted o (yielded ops a.tmps) = true then Oper.wp Try.prog o a w K Q else E := by
  have hw : Region.wanted o (yielded ops a.tmps) = true := by simp [Region.wanted, hgd]
  rw [if_pos hw]
  obtain ⟨v', w', hr, h2, h3⟩ := run_append_F o.type hown ad m c l2 hm hsrc hbound hbase
  unfold Oper.wp execOp
  simp only [ho, resolve, invoke, builtin, Sem.run_bind, Sem.run_pure, Result.andThen_ok, List.map_toArray, List.map_cons, List.map_nil, hs, hx, hr]
  exact h v' w' h2 h3
set_option maxRecDepth 5000 in
theorem SlF.drop {w : World} {b o k : Nat} {n : List Nat} (h : SlF w (some ⟨b, o, none⟩) n) (hk : k ≤ n.length) : SlF w (some ⟨b, o + k, none⟩) (n.drop k) := fun hn => by
  rw [List.length_drop] at hn
  obtain ⟨b', o', e, hlt, hc⟩ := h (by omega)
  cases e
  refine ⟨b, o + k, rfl, hlt, fun j hj => ?_⟩
  rw [List.length_drop] at hj
  rw [show o + k + j = o + (k + j) by omega, hc (k + j) (by omega)]
  simp [List.getD_eq_getElem?_getD, List.getElem?_drop]
end Go.Proofs.Ytmkpihagfbohdaa
