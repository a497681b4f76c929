/- Slices of bytes: those that came in, those that a call makes and appends to; the law of append for both. -/
import Derived.Test.YtgmjppmcfmcmkaaDoorSum
import Derived.Laws.AppendOwnNone
namespace Go.Proofs.YtgmjppmcfmcmkaaDoor
namespace H
open Go.RowKit
def vb (l : List (BitVec 8)) : List Value := l.map (fun b => .int .u8 b.toNat)
set_option maxRecDepth 5000 in
theorem vb_len (l : List (BitVec 8)) : (vb l).length = l.length := by simp [vb]
set_option maxRecDepth 5000 in
theorem vb_app (l m : List (BitVec 8)) : vb (l ++ m) = vb l ++ vb m := by simp [vb]
set_option maxRecDepth 5000 in
theorem vb_one (l : List (BitVec 8)) : ∀ v ∈ vb l, v.oneCell' = true := fun v hv => by
  simp only [vb, List.mem_map] at hv; obtain ⟨j, _, rfl⟩ := hv; rfl
set_option maxRecDepth 5000 in
theorem vb_get (l : List (BitVec 8)) (j : Nat) (h : j < l.length) : (vb l)[j]? = some (.int .u8 (l.getD j 0).toNat) := by simp [vb, h]
/- the address ao of a slice that holds the bytes l -/
def SlL (w : World) (ao : Option Addr) (l : List (BitVec 8)) : Prop := 0 < l.length → ∃ b o, ao = some ⟨b, o, none⟩ ∧ b < w.heap.size ∧ ∀ j, j < l.length → w.cell? ⟨b, o + j, none⟩ = some (.int .u8 (l.getD j 0).toNat)
set_option maxRecDepth 5000 in
theorem SlL.below {B : Nat} {w w' : World} {ao : Option Addr} {l : List (BitVec 8)} (h : SlL w ao l) (hb : Below B w w') (hB : w.heap.size ≤ B) : SlL w' ao l := fun hn => by
  obtain ⟨b, o, e, hlt, hc⟩ := h hn
  exact ⟨b, o, e, Nat.lt_of_lt_of_le hlt hb.size, fun j hj => (hb.cell (p := ⟨b, o + j, none⟩) (Nat.lt_of_lt_of_le hlt hB)).trans (hc j hj)⟩
set_option maxRecDepth 5000 in
theorem SlL.alloc {w : World} {ao : Option Addr} {l : List (BitVec 8)} (h : SlL w ao l) (o : Obj) : SlL (w.alloc o) ao l := h.below ((Below.refl w.heap.size w).alloc (Nat.le_refl _) o) (Nat.le_refl _)
set_option maxRecDepth 5000 in
theorem SlL.nil (w : World) (ao : Option Addr) : SlL w ao [] := fun h => by simp at h
set_option maxRecDepth 5000 in
theorem SlL.one (w : World) (b : BitVec 8) (t : TypeId) : SlL (w.alloc (.cells #[.int .u8 b.toNat] t)) (some ⟨w.heap.size, 0, none⟩) [b] := fun _ => by
  refine ⟨w.heap.size, 0, rfl, by simp, fun j hj => ?_⟩
  have : j = 0 := by simpa using hj
  subst this
  rw [(RowAt.new w t _).cell]; rfl
set_option maxRecDepth 5000 in
theorem SlL.oneI (w : World) (x : Int) (b : BitVec 8) (t : TypeId) (h : x = (b.toNat : Int)) : SlL (w.alloc (.cells #[.int .u8 x] t)) (some ⟨w.heap.size, 0, none⟩) [b] := by
  subst h; exact SlL.one w b t
set_option maxRecDepth 5000 in
theorem SlL.pad {w : World} {ao : Option Addr} {l : List (BitVec 8)} (h : SlL w ao l) : SlAt w ao l.length (Sha.padF l) := fun hn => by
  obtain ⟨b, o, e, hlt, hc⟩ := h hn
  exact ⟨b, o, e, hlt, fun j hj => by rw [hc j hj]; unfold Sha.padF; rw [if_pos hj]⟩
/- the slice v is the call's own, from block 'base' on, and holds the bytes l -/
def OwnB (w : World) (base : Nat) (v : Value) (l : List (BitVec 8)) : Prop := w.ownsRow base 5 1 v l.length (vb l)
set_option maxRecDepth 5000 in
theorem OwnB.nil (w : World) (base : Nat) : OwnB w base (.slice none 0 0) [] := World.ownsRow_nil _ _ _ _
set_option maxRecDepth 5000 in
theorem OwnB.alloc {w : World} {base : Nat} {v : Value} {l : List (BitVec 8)} (h : OwnB w base v l) (o : Obj) : OwnB (w.alloc o) base v l := World.ownsRow.alloc h o
set_option maxRecDepth 5000 in
theorem OwnB.form {w : World} {base : Nat} {v : Value} {l : List (BitVec 8)} (h : OwnB w base v l) (hl : 0 < l.length) : ∃ g cap, v = .slice (some ⟨g, 0, none⟩) l.length cap ∧ base ≤ g ∧ l.length ≤ cap ∧ cap ≤ maxLen ∧ g < w.heap.size ∧ ∀ j, j < l.length → w.cell? ⟨g, j, none⟩ = some (.int .u8 (l.getD j 0).toNat) := by
  have h0 : w.ownsRow base 5 1 v l.length (vb l) := h
  rcases h0.2 with ⟨_, h'⟩ | ⟨g, cap, cur, rfl, hb, hg, hc, hm, _, _⟩
  · omega
  · exact ⟨g, cap, rfl, hb, hc, hm, (Array.getElem?_eq_some_iff.1 hg).1, fun j hj => by rw [World.ownsRow.cellAt h0 j (by omega), vb_get l j hj]⟩
set_option maxRecDepth 5000 in
theorem OwnB.sl {w : World} {base g cap : Nat} {l : List (BitVec 8)} (h : OwnB w base (.slice (some ⟨g, 0, none⟩) l.length cap) l) : SlL w (some ⟨g, 0, none⟩) l := fun hl => by
  obtain ⟨g', cap', e, _, _, _, hlt, hc⟩ := h.form hl
  simp only [Value.slice.injEq, Option.some.injEq, Addr.mk.injEq, and_true, true_and] at e
  obtain ⟨rfl, rfl⟩ := e
  exact ⟨g, 0, rfl, hlt, fun j hj => by rw [Nat.zero_add]; exact hc j hj⟩
set_option maxRecDepth 5000 in
theorem info5 : (Tryd.prog.info? 5).map (fun i => (i.zero, i.size, i.bytes)) = some (some (.int .u8 0), 1, 1) := by kernel_rfl
set_option maxRecDepth 5000 in
theorem wpList_append_B {w : World} {ops : Array Oper} {rest : List Oper} {o : Oper} {a : Act} {Q : Exit → Act → World → Prop} (hgd : o.guard = none) (s x : Operand)
    (ho : o.op = .call { callee := .builtin .append, args := #[s, x], argTypes := #[24, 24] }) (base : Nat) (v : Value) (l : List (BitVec 8)) (hs : a.eval s = v) (hown : OwnB w base v l)
    (ao : Option Addr) (m c : Nat) (l2 : List (BitVec 8)) (hx : a.eval x = .slice ao m c) (hm : l2.length = m) (hsrc : SlL w ao l2) (hnil : ao = none → c = 0) (hbound : l.length + m ≤ 1099511627776) (hbase : base ≤ w.heap.size)
    (h : ∀ v' w', OwnB w' base v' (l ++ l2) → w.grownBy w' v.ownBlock → wpList Tryd.prog ops Q rest (a.put o.dst v') w') : wpList Tryd.prog ops Q (o :: rest) a w := by
  obtain ⟨i0, hi, hz0, hz1, hz2⟩ := info_parts info5
  subst hm
  cases ao with
  | none =>
    have h0 : l2.length = 0 := by
      rcases Nat.eq_zero_or_pos l2.length with h | h
      · exact h
      · obtain ⟨b, o, e, _⟩ := hsrc h; cases e
    obtain rfl : l2 = [] := List.eq_nil_of_length_eq_zero h0
    obtain rfl := hnil rfl
    refine wpList_append_own_none hgd s x 24 ho base 5 i0 1 Tryd.underlying24 hi v l.length (vb l) hs hown hx ?_
    exact h v w (by rw [List.append_nil]; exact hown) ⟨rfl, rfl, rfl, Nat.le_refl _, fun _ _ _ => rfl⟩
  | some ad =>
    refine wpList_append_own w hgd s x 24 ho base 5 i0 (.int .u8 0) 1 1 Tryd.underlying24 hi hz0 hz1 hz2 rfl (by decide) v l.length (vb l) hs hown ad l2.length c (vb l2) hx (by rw [vb_len, Nat.mul_one]) ?_ (vb_one l2) (by unfold maxLen; omega) (by omega) hbase ?_
    · intro j u hu
      have hj : j < l2.length := by have := (List.getElem?_eq_some_iff.1 hu).1; rwa [vb_len] at this
      obtain ⟨b, o', e, _, hc⟩ := hsrc (by omega)
      cases e
      rw [Addr.add_mid, hc j hj, ← vb_get l2 j hj, hu]
    · intro v' w' h1 h2 _
      exact h v' w' (by unfold OwnB; rw [List.length_append, vb_app]; exact h1) h2
/- what the base's own blocks do to the rest -/
set_option maxRecDepth 5000 in
theorem grown_below {w w' w0 : World} {base : Nat} {v : Value} {l : List (BitVec 8)} (hown : OwnB w base v l) (hg : w.grownBy w' v.ownBlock) (hb : Below base w0 w) (hB : base ≤ w.heap.size) : Below base w0 w' := by
  refine hb.grown hg hB fun k hk => ?_
  have h0 : w.ownsRow base 5 1 v l.length (vb l) := hown
  rcases h0.2 with ⟨rfl, _⟩ | ⟨g, cap, cur, rfl, hg', _⟩
  · simp [Value.ownBlock] at hk
  · simp [Value.ownBlock] at hk; omega
end H
end Go.Proofs.YtgmjppmcfmcmkaaDoor
