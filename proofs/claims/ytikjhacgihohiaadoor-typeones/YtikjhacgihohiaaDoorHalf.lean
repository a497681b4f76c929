/- Slices of uint16, as those of bytes; append in regions that draw. -/
import Derived.Test.YtikjhacgihohiaaDoorBytes
import Derived.Deep.RegionLaw
import Derived.Lib.AppendStr
namespace Go.Proofs.YtikjhacgihohiaaDoor
open Go.RowKit
theorem wrap_nat (n : Nat) (h : n ≤ 9223372036854775807) : IntKind.i64.wrap (n : Int) = (n : Int) := by rw [IntKind.wrap_i64]; omega
theorem OwnB.open {w : World} {base : Nat} {v : Value} {l : List UInt8} (h : OwnB w base v l) : ∃ ao c, v = .slice ao l.length c ∧ SlL w ao l ∧ (ao = none → c = 0) ∧ l.length ≤ c ∧ c ≤ maxLen := by
  have h0 : w.ownsRow base 5 1 v l.length (vb l) := h
  rcases h0.2 with ⟨rfl, hn⟩ | ⟨g, cap, cur, rfl, hb, hg, hc, hm, _, _⟩
  · exact ⟨none, 0, by rw [hn], fun hh => by omega, fun _ => rfl, by omega, by unfold maxLen; omega⟩
  · exact ⟨_, cap, rfl, fun hl => ⟨g, 0, rfl, (Array.getElem?_eq_some_iff.1 hg).1, fun j hj => by rw [Nat.zero_add, World.ownsRow.cellAt h0 j (by omega), vb_get l j hj]⟩, fun hh => (by cases hh), hc, hm⟩
theorem OwnB.lower {w : World} {base base' : Nat} {v : Value} {n : List UInt8} (h : OwnB w base v n) (hb : base' ≤ base) : OwnB w base' v n := by
  have h0 : w.ownsRow base 5 1 v n.length (vb n) := h
  refine ⟨h0.1, ?_⟩
  rcases h0.2 with h1 | ⟨g, cap, cur, e, h1, h2, h3⟩
  · exact Or.inl h1
  · exact Or.inr ⟨g, cap, cur, e, Nat.le_trans hb h1, h2, h3⟩
theorem run_append_B {w : World} {base : Nat} {v : Value} {l : List UInt8} (ty : TypeId) (hown : OwnB w base v l) (ad : Addr) (m c : Nat) (l2 : List UInt8) (hm : l2.length = m) (hsrc : SlL w (some ad) l2) (hbound : l.length + m ≤ 1099511627776) (hbase : base ≤ w.heap.size) :
    ∃ v' w', (Builtin.append_ #[29, 29] ty #[v, .slice (some ad) m c]).run Tryd.prog w = .ok v' w' ∧ OwnB w' base v' (l ++ l2) ∧ w.grownBy w' v.ownBlock := by
  obtain ⟨i0, hi, hz0, hz1, hz2⟩ := info_parts infoB
  subst hm
  obtain ⟨v', w', h1, h2, h3, _⟩ := run_append_own (P := Tryd.prog) w base 29 ty 5 i0 (.int .u8 0) 1 1 Tryd.underlying29 hi hz0 hz1 hz2 rfl (by decide) v l.length (vb l) hown ad l2.length c (vb l2) (by rw [vb_len, Nat.mul_one]) (by
    intro j u hu
    have hj : j < l2.length := by have := (List.getElem?_eq_some_iff.1 hu).1; rwa [vb_len] at this
    obtain ⟨b, o', e, _, hc⟩ := hsrc (by omega)
    cases e
    rw [Addr.add_mid, hc j hj, ← vb_get l2 j hj, hu]) (vb_one l2) (by unfold maxLen; omega) (by omega) hbase
  exact ⟨v', w', h1, by unfold OwnB; rw [List.length_append, vb_app]; exact h2, h3⟩
theorem step_append_B {ops : Array Oper} {o : Oper} {a : Act} {w : World} {K : Act → World → Prop} {Q : Exit → Act → World → Prop} {E : Prop} (hgd : o.guard = none) (s x : Operand)
    (ho : o.op = .call { callee := .builtin .append, args := #[s, x], argTypes := #[29, 29] }) (base : Nat) (v : Value) (l : List UInt8) (hs : a.eval s = v) (hown : OwnB w base v l)
    (ad : Addr) (m c : Nat) (l2 : List UInt8) (hx : a.eval x = .slice (some ad) m c) (hm : l2.length = m) (hsrc : SlL w (some ad) l2) (hbound : l.length + m ≤ 1099511627776) (hbase : base ≤ w.heap.size)
    (h : ∀ v' w', OwnB w' base v' (l ++ l2) → w.grownBy w' v.ownBlock → K (a.put o.dst v') w') : if Region.wanted o (yielded ops a.tmps) = true then Oper.wp Tryd.prog o a w K Q else E := by
  have hw : Region.wanted o (yielded ops a.tmps) = true := by simp [Region.wanted, hgd]
  rw [if_pos hw]
  obtain ⟨v', w', hr, h2, h3⟩ := run_append_B o.type hown ad m c l2 hm hsrc hbound hbase
  unfold Oper.wp execOp
  simp only [ho, resolve, invoke, builtin, Sem.run_bind, Sem.run_pure, Result.andThen_ok, List.map_toArray, List.map_cons, List.map_nil, hs, hx, hr]
  exact h v' w' h2 h3
theorem SlL.drop {w : World} {b o k : Nat} {n : List UInt8} (h : SlL w (some ⟨b, o, none⟩) n) (hk : k ≤ n.length) : SlL w (some ⟨b, o + k, none⟩) (n.drop k) := fun hn => by
  rw [List.length_drop] at hn
  obtain ⟨b', o', e, hlt, hc⟩ := h (by omega)
  cases e
  refine ⟨b, o + k, rfl, hlt, fun j hj => ?_⟩
  rw [List.length_drop] at hj
  rw [show o + k + j = o + (k + j) by omega, hc (k + j) (by omega)]
  simp [List.getD_eq_getElem?_getD, List.getElem?_drop]
theorem size_mk (l : List UInt8) : (⟨l.toArray⟩ : ByteArray).size = l.length := rfl
def vh (l : List (UInt16)) : List Value := l.map (fun b => .int .u16 b.toNat)
theorem vh_len (l : List (UInt16)) : (vh l).length = l.length := by simp [vh]
theorem vh_app (l m : List (UInt16)) : vh (l ++ m) = vh l ++ vh m := by simp [vh]
theorem vh_one (l : List (UInt16)) : ∀ v ∈ vh l, v.oneCell' = true := fun v hv => by
  simp only [vh, List.mem_map] at hv; obtain ⟨j, _, rfl⟩ := hv; rfl
theorem vh_get (l : List (UInt16)) (j : Nat) (h : j < l.length) : (vh l)[j]? = some (.int .u16 (l.getD j 0).toNat) := by simp [vh, h]
/- the address ao of a slice that holds the bytes l -/
def SlH (w : World) (ao : Option Addr) (l : List (UInt16)) : Prop := 0 < l.length → ∃ b o, ao = some ⟨b, o, none⟩ ∧ b < w.heap.size ∧ ∀ j, j < l.length → w.cell? ⟨b, o + j, none⟩ = some (.int .u16 (l.getD j 0).toNat)
theorem SlH.below {B : Nat} {w w' : World} {ao : Option Addr} {l : List (UInt16)} (h : SlH w ao l) (hb : Below B w w') (hB : w.heap.size ≤ B) : SlH w' ao l := fun hn => by
  obtain ⟨b, o, e, hlt, hc⟩ := h hn
  exact ⟨b, o, e, Nat.lt_of_lt_of_le hlt hb.size, fun j hj => (hb.cell (p := ⟨b, o + j, none⟩) (Nat.lt_of_lt_of_le hlt hB)).trans (hc j hj)⟩
theorem SlH.alloc {w : World} {ao : Option Addr} {l : List (UInt16)} (h : SlH w ao l) (o : Obj) : SlH (w.alloc o) ao l := h.below ((Below.refl w.heap.size w).alloc (Nat.le_refl _) o) (Nat.le_refl _)
theorem SlH.nil (w : World) (ao : Option Addr) : SlH w ao [] := fun h => by simp at h
theorem SlH.one (w : World) (b : UInt16) (t : TypeId) : SlH (w.alloc (.cells #[.int .u16 b.toNat] t)) (some ⟨w.heap.size, 0, none⟩) [b] := fun _ => by
  refine ⟨w.heap.size, 0, rfl, by simp, fun j hj => ?_⟩
  have : j = 0 := by simpa using hj
  subst this
  rw [cell_of_row _ _ _ _ t (0, 0) (heap_alloc_last w _)]; rfl
theorem SlH.oneI (w : World) (x : Int) (b : UInt16) (t : TypeId) (h : x = (b.toNat : Int)) : SlH (w.alloc (.cells #[.int .u16 x] t)) (some ⟨w.heap.size, 0, none⟩) [b] := by
  subst h; exact SlH.one w b t
/- the slice v is the call's own, from block 'base' on, and holds the bytes l -/
def OwnH (w : World) (base : Nat) (v : Value) (l : List (UInt16)) : Prop := w.ownsRow base 22 1 v l.length (vh l)
theorem OwnH.nil (w : World) (base : Nat) : OwnH w base (.slice none 0 0) [] := World.ownsRow_nil _ _ _ _
theorem OwnH.alloc {w : World} {base : Nat} {v : Value} {l : List (UInt16)} (h : OwnH w base v l) (o : Obj) : OwnH (w.alloc o) base v l := World.ownsRow.alloc h o
theorem OwnH.form {w : World} {base : Nat} {v : Value} {l : List (UInt16)} (h : OwnH w base v l) (hl : 0 < l.length) : ∃ g cap, v = .slice (some ⟨g, 0, none⟩) l.length cap ∧ base ≤ g ∧ l.length ≤ cap ∧ cap ≤ maxLen ∧ g < w.heap.size ∧ ∀ j, j < l.length → w.cell? ⟨g, j, none⟩ = some (.int .u16 (l.getD j 0).toNat) := by
  have h0 : w.ownsRow base 22 1 v l.length (vh l) := h
  rcases h0.2 with ⟨_, h'⟩ | ⟨g, cap, cur, rfl, hb, hg, hc, hm, _, _⟩
  · omega
  · exact ⟨g, cap, rfl, hb, hc, hm, (Array.getElem?_eq_some_iff.1 hg).1, fun j hj => by rw [World.ownsRow.cellAt h0 j (by omega), vh_get l j hj]⟩
theorem OwnH.sl {w : World} {base g cap : Nat} {l : List (UInt16)} (h : OwnH w base (.slice (some ⟨g, 0, none⟩) l.length cap) l) : SlH w (some ⟨g, 0, none⟩) l := fun hl => by
  obtain ⟨g', cap', e, _, _, _, hlt, hc⟩ := h.form hl
  simp only [Value.slice.injEq, Option.some.injEq, Addr.mk.injEq, and_true, true_and] at e
  obtain ⟨rfl, rfl⟩ := e
  exact ⟨g, 0, rfl, hlt, fun j hj => by rw [Nat.zero_add]; exact hc j hj⟩
theorem infoH : (Tryd.prog.info? 22).map (fun i => (i.zero, i.size, i.bytes)) = some (some (.int .u16 0), 1, 2) := by kernel_rfl
theorem wpList_append_H {w : World} {ops : Array Oper} {rest : List Oper} {o : Oper} {a : Act} {Q : Exit → Act → World → Prop} (hgd : o.guard = none) (s x : Operand)
    (ho : o.op = .call { callee := .builtin .append, args := #[s, x], argTypes := #[28, 28] }) (base : Nat) (v : Value) (l : List (UInt16)) (hs : a.eval s = v) (hown : OwnH w base v l)
    (ao : Option Addr) (m c : Nat) (l2 : List (UInt16)) (hx : a.eval x = .slice ao m c) (hm : l2.length = m) (hsrc : SlH w ao l2) (hnil : ao = none → c = 0) (hbound : l.length + m ≤ 1099511627776) (hbase : base ≤ w.heap.size)
    (h : ∀ v' w', OwnH w' base v' (l ++ l2) → w.grownBy w' v.ownBlock → wpList Tryd.prog ops Q rest (a.put o.dst v') w') : wpList Tryd.prog ops Q (o :: rest) a w := by
  obtain ⟨i0, hi, hz0, hz1, hz2⟩ := info_parts infoH
  subst hm
  cases ao with
  | none =>
    have h0 : l2.length = 0 := by
      rcases Nat.eq_zero_or_pos l2.length with h | h
      · exact h
      · obtain ⟨b, o, e, _⟩ := hsrc h; cases e
    obtain rfl : l2 = [] := List.eq_nil_of_length_eq_zero h0
    obtain rfl := hnil rfl
    refine wpList_append_own_none hgd s x 28 ho base 22 i0 1 Tryd.underlying28 hi v l.length (vh l) hs hown hx ?_
    exact h v w (by rw [List.append_nil]; exact hown) ⟨rfl, rfl, rfl, Nat.le_refl _, fun _ _ _ => rfl⟩
  | some ad =>
    refine wpList_append_own w hgd s x 28 ho base 22 i0 (.int .u16 0) 1 2 Tryd.underlying28 hi hz0 hz1 hz2 rfl (by decide) v l.length (vh l) hs hown ad l2.length c (vh l2) hx (by rw [vh_len, Nat.mul_one]) ?_ (vh_one l2) (by unfold maxLen; omega) (by omega) hbase ?_
    · intro j u hu
      have hj : j < l2.length := by have := (List.getElem?_eq_some_iff.1 hu).1; rwa [vh_len] at this
      obtain ⟨b, o', e, _, hc⟩ := hsrc (by omega)
      cases e
      rw [Addr.add_mid, hc j hj, ← vh_get l2 j hj, hu]
    · intro v' w' h1 h2 _
      exact h v' w' (by unfold OwnH; rw [List.length_append, vh_app]; exact h1) h2
/- what the base's own blocks do to the rest -/
theorem grown_belowH {w w' w0 : World} {base : Nat} {v : Value} {l : List (UInt16)} (hown : OwnH w base v l) (hg : w.grownBy w' v.ownBlock) (hb : Below base w0 w) (hB : base ≤ w.heap.size) : Below base w0 w' := by
  refine hb.grown hg hB fun k hk => ?_
  have h0 : w.ownsRow base 22 1 v l.length (vh l) := hown
  rcases h0.2 with ⟨rfl, _⟩ | ⟨g, cap, cur, rfl, hg', _⟩
  · simp [Value.ownBlock] at hk
  · simp [Value.ownBlock] at hk; omega
theorem OwnH.below {w w' : World} {base : Nat} {v : Value} {l : List (UInt16)} (h : OwnH w base v l) (hb : Below w.heap.size w w') : OwnH w' base v l := by
  have h0 : w.ownsRow base 22 1 v l.length (vh l) := h
  refine ⟨h0.1, ?_⟩
  rcases h0.2 with h1 | ⟨g, cap, cur, e, h1, h2, h3⟩
  · exact Or.inl h1
  · exact Or.inr ⟨g, cap, cur, e, h1, by rw [hb.block g (Array.getElem?_eq_some_iff.1 h2).1]; exact h2, h3⟩
theorem OwnH.build (w : World) (b : UInt16) (base : Nat) (hb : base ≤ w.heap.size) : OwnH (w.alloc (.cells #[.int .u16 b.toNat] 22)) base (.slice (some ⟨w.heap.size, 0, none⟩) 1 1) [b] :=
  ⟨rfl, Or.inr ⟨w.heap.size, 1, _, rfl, hb, heap_alloc_last w _, by simp, by unfold maxLen; omega, rfl, rfl⟩⟩
theorem SlH.litm (w : World) (l : List (UInt16)) (A : Array Value) (t : TypeId) (fr : Nat × Nat) (h : A = (vh l).toArray) : SlH (w.alloc (.cells A t fr)) (some ⟨w.heap.size, 0, none⟩) l := fun _ => by
  subst h
  refine ⟨w.heap.size, 0, rfl, by simp, fun j hj => ?_⟩
  rw [cell_of_row _ _ _ _ t fr (heap_alloc_last w _), Nat.zero_add]
  simp only [List.getElem?_toArray]
  exact vh_get l j hj
theorem OwnH.open {w : World} {base : Nat} {v : Value} {l : List UInt16} (h : OwnH w base v l) : ∃ ao c, v = .slice ao l.length c ∧ SlH w ao l ∧ (ao = none → c = 0) ∧ l.length ≤ c ∧ c ≤ maxLen := by
  have h0 : w.ownsRow base 22 1 v l.length (vh l) := h
  rcases h0.2 with ⟨rfl, hn⟩ | ⟨g, cap, cur, rfl, hb, hg, hc, hm, _, _⟩
  · exact ⟨none, 0, by rw [hn], fun hh => by omega, fun _ => rfl, by omega, by unfold maxLen; omega⟩
  · exact ⟨_, cap, rfl, fun hl => ⟨g, 0, rfl, (Array.getElem?_eq_some_iff.1 hg).1, fun j hj => by rw [Nat.zero_add, World.ownsRow.cellAt h0 j (by omega), vh_get l j hj]⟩, fun hh => (by cases hh), hc, hm⟩
theorem OwnH.lower {w : World} {base base' : Nat} {v : Value} {n : List UInt16} (h : OwnH w base v n) (hb : base' ≤ base) : OwnH w base' v n := by
  have h0 : w.ownsRow base 22 1 v n.length (vh n) := h
  refine ⟨h0.1, ?_⟩
  rcases h0.2 with h1 | ⟨g, cap, cur, e, h1, h2, h3⟩
  · exact Or.inl h1
  · exact Or.inr ⟨g, cap, cur, e, Nat.le_trans hb h1, h2, h3⟩
theorem run_append_H {w : World} {base : Nat} {v : Value} {l : List UInt16} (ty : TypeId) (hown : OwnH w base v l) (ad : Addr) (m c : Nat) (l2 : List UInt16) (hm : l2.length = m) (hsrc : SlH w (some ad) l2) (hbound : l.length + m ≤ 1099511627776) (hbase : base ≤ w.heap.size) :
    ∃ v' w', (Builtin.append_ #[28, 28] ty #[v, .slice (some ad) m c]).run Tryd.prog w = .ok v' w' ∧ OwnH w' base v' (l ++ l2) ∧ w.grownBy w' v.ownBlock := by
  obtain ⟨i0, hi, hz0, hz1, hz2⟩ := info_parts infoH
  subst hm
  obtain ⟨v', w', h1, h2, h3, _⟩ := run_append_own (P := Tryd.prog) w base 28 ty 22 i0 (.int .u16 0) 1 2 Tryd.underlying28 hi hz0 hz1 hz2 rfl (by decide) v l.length (vh l) hown ad l2.length c (vh l2) (by rw [vh_len, Nat.mul_one]) (by
    intro j u hu
    have hj : j < l2.length := by have := (List.getElem?_eq_some_iff.1 hu).1; rwa [vh_len] at this
    obtain ⟨b, o', e, _, hc⟩ := hsrc (by omega)
    cases e
    rw [Addr.add_mid, hc j hj, ← vh_get l2 j hj, hu]) (vh_one l2) (by unfold maxLen; omega) (by omega) hbase
  exact ⟨v', w', h1, by unfold OwnH; rw [List.length_append, vh_app]; exact h2, h3⟩
theorem step_append_H {ops : Array Oper} {o : Oper} {a : Act} {w : World} {K : Act → World → Prop} {Q : Exit → Act → World → Prop} {E : Prop} (hgd : o.guard = none) (s x : Operand)
    (ho : o.op = .call { callee := .builtin .append, args := #[s, x], argTypes := #[28, 28] }) (base : Nat) (v : Value) (l : List UInt16) (hs : a.eval s = v) (hown : OwnH w base v l)
    (ad : Addr) (m c : Nat) (l2 : List UInt16) (hx : a.eval x = .slice (some ad) m c) (hm : l2.length = m) (hsrc : SlH w (some ad) l2) (hbound : l.length + m ≤ 1099511627776) (hbase : base ≤ w.heap.size)
    (h : ∀ v' w', OwnH w' base v' (l ++ l2) → w.grownBy w' v.ownBlock → K (a.put o.dst v') w') : if Region.wanted o (yielded ops a.tmps) = true then Oper.wp Tryd.prog o a w K Q else E := by
  have hw : Region.wanted o (yielded ops a.tmps) = true := by simp [Region.wanted, hgd]
  rw [if_pos hw]
  obtain ⟨v', w', hr, h2, h3⟩ := run_append_H o.type hown ad m c l2 hm hsrc hbound hbase
  unfold Oper.wp execOp
  simp only [ho, resolve, invoke, builtin, Sem.run_bind, Sem.run_pure, Result.andThen_ok, List.map_toArray, List.map_cons, List.map_nil, hs, hx, hr]
  exact h v' w' h2 h3
theorem SlH.drop {w : World} {b o k : Nat} {n : List UInt16} (h : SlH w (some ⟨b, o, none⟩) n) (hk : k ≤ n.length) : SlH w (some ⟨b, o + k, none⟩) (n.drop k) := fun hn => by
  rw [List.length_drop] at hn
  obtain ⟨b', o', e, hlt, hc⟩ := h (by omega)
  cases e
  refine ⟨b, o + k, rfl, hlt, fun j hj => ?_⟩
  rw [List.length_drop] at hj
  rw [show o + k + j = o + (k + j) by omega, hc (k + j) (by omega)]
  simp [List.getD_eq_getElem?_getD, List.getElem?_drop]
end Go.Proofs.YtikjhacgihohiaaDoor
