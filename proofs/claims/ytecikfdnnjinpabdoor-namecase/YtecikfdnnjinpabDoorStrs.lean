/- Slices of strings (names): those that came in, those that a call makes and appends to; append of strings, of a string's bytes; texts made of bytes, and bytes of texts. -/
import Derived.Test.YtecikfdnnjinpabDoorBytes
import Derived.Lib.AppendStr
import Derived.Laws.IdiomStrings
import Derived.Laws.BytesArg
import Derived.Deep.RegionLaw
namespace Go.Proofs.YtecikfdnnjinpabDoor
open Go.RowKit
theorem wrap_nat (n : Nat) (h : n ≤ 9223372036854775807) : IntKind.i64.wrap (n : Int) = (n : Int) := by rw [IntKind.wrap_i64]; omega
def vs (n : List (List UInt8)) : List Value := n.map (fun l => .string ⟨l.toArray⟩)
theorem vs_len (n : List (List UInt8)) : (vs n).length = n.length := by simp [vs]
theorem vs_app (n m : List (List UInt8)) : vs (n ++ m) = vs n ++ vs m := by simp [vs]
theorem vs_one (n : List (List UInt8)) : ∀ v ∈ vs n, v.oneCell' = true := fun v hv => by
  simp only [vs, List.mem_map] at hv; obtain ⟨j, _, rfl⟩ := hv; rfl
theorem vs_get (n : List (List UInt8)) (j : Nat) (h : j < n.length) : (vs n)[j]? = some (.string ⟨(n.getD j []).toArray⟩) := by simp [vs, h]
/- the address ao of a slice that holds the strings n -/
def SlS (w : World) (ao : Option Addr) (n : List (List UInt8)) : Prop := 0 < n.length → ∃ b o, ao = some ⟨b, o, none⟩ ∧ b < w.heap.size ∧ ∀ j, j < n.length → w.cell? ⟨b, o + j, none⟩ = some (.string ⟨(n.getD j []).toArray⟩)
theorem SlS.below {B : Nat} {w w' : World} {ao : Option Addr} {n : List (List UInt8)} (h : SlS w ao n) (hb : Below B w w') (hB : w.heap.size ≤ B) : SlS w' ao n := fun hn => by
  obtain ⟨b, o, e, hlt, hc⟩ := h hn
  exact ⟨b, o, e, Nat.lt_of_lt_of_le hlt hb.size, fun j hj => (hb.cell (p := ⟨b, o + j, none⟩) (Nat.lt_of_lt_of_le hlt hB)).trans (hc j hj)⟩
theorem SlS.alloc {w : World} {ao : Option Addr} {n : List (List UInt8)} (h : SlS w ao n) (o : Obj) : SlS (w.alloc o) ao n := h.below ((Below.refl w.heap.size w).alloc (Nat.le_refl _) o) (Nat.le_refl _)
theorem SlS.nil (w : World) (ao : Option Addr) : SlS w ao [] := fun h => by simp at h
theorem SlS.litm (w : World) (n : List (List UInt8)) (A : Array Value) (t : TypeId) (fr : Nat × Nat) (h : A = (vs n).toArray) : SlS (w.alloc (.cells A t fr)) (some ⟨w.heap.size, 0, none⟩) n := fun _ => by
  subst h
  refine ⟨w.heap.size, 0, rfl, by simp, fun j hj => ?_⟩
  rw [cell_of_row _ _ _ _ t fr (heap_alloc_last w _), Nat.zero_add]
  simp only [List.getElem?_toArray]
  exact vs_get n j hj
theorem SlS.one (w : World) (l : List UInt8) (t : TypeId) : SlS (w.alloc (.cells #[.string ⟨l.toArray⟩] t)) (some ⟨w.heap.size, 0, none⟩) [l] := SlS.litm w [l] _ t (0, 0) rfl
/- a slice's end -/
theorem SlS.drop {w : World} {b o k : Nat} {n : List (List UInt8)} (h : SlS w (some ⟨b, o, none⟩) n) (hk : k ≤ n.length) : SlS w (some ⟨b, o + k, none⟩) (n.drop k) := fun hn => by
  rw [List.length_drop] at hn
  obtain ⟨b', o', e, hlt, hc⟩ := h (by omega)
  cases e
  refine ⟨b, o + k, rfl, hlt, fun j hj => ?_⟩
  rw [List.length_drop] at hj
  rw [show o + k + j = o + (k + j) by omega, hc (k + j) (by omega)]
  simp [List.getD_eq_getElem?_getD, List.getElem?_drop]
/- the slice v is the call's own, from block 'base' on, and holds the strings n -/
def OwnS (w : World) (base : Nat) (v : Value) (n : List (List UInt8)) : Prop := w.ownsRow base 9 1 v n.length (vs n)
theorem OwnS.nil (w : World) (base : Nat) : OwnS w base (.slice none 0 0) [] := World.ownsRow_nil _ _ _ _
theorem OwnS.alloc {w : World} {base : Nat} {v : Value} {n : List (List UInt8)} (h : OwnS w base v n) (o : Obj) : OwnS (w.alloc o) base v n := World.ownsRow.alloc h o
theorem OwnS.open {w : World} {base : Nat} {v : Value} {n : List (List UInt8)} (h : OwnS w base v n) : ∃ ao c, v = .slice ao n.length c ∧ SlS w ao n ∧ (ao = none → c = 0) ∧ n.length ≤ c ∧ c ≤ maxLen := by
  have h0 : w.ownsRow base 9 1 v n.length (vs n) := h
  rcases h0.2 with ⟨rfl, hn⟩ | ⟨g, cap, cur, rfl, hb, hg, hc, hm, _, _⟩
  · exact ⟨none, 0, by rw [hn], fun hh => by omega, fun _ => rfl, by omega, by unfold maxLen; omega⟩
  · exact ⟨_, cap, rfl, fun hl => ⟨g, 0, rfl, (Array.getElem?_eq_some_iff.1 hg).1, fun j hj => by rw [Nat.zero_add, World.ownsRow.cellAt h0 j (by omega), vs_get n j hj]⟩, fun hh => (by cases hh), hc, hm⟩
theorem OwnB.open {w : World} {base : Nat} {v : Value} {l : List UInt8} (h : OwnB w base v l) : ∃ ao c, v = .slice ao l.length c ∧ SlL w ao l ∧ (ao = none → c = 0) ∧ l.length ≤ c ∧ c ≤ maxLen := by
  have h0 : w.ownsRow base 5 1 v l.length (vb l) := h
  rcases h0.2 with ⟨rfl, hn⟩ | ⟨g, cap, cur, rfl, hb, hg, hc, hm, _, _⟩
  · exact ⟨none, 0, by rw [hn], fun hh => by omega, fun _ => rfl, by omega, by unfold maxLen; omega⟩
  · exact ⟨_, cap, rfl, fun hl => ⟨g, 0, rfl, (Array.getElem?_eq_some_iff.1 hg).1, fun j hj => by rw [Nat.zero_add, World.ownsRow.cellAt h0 j (by omega), vb_get l j hj]⟩, fun hh => (by cases hh), hc, hm⟩
theorem OwnS.below {w w' : World} {base : Nat} {v : Value} {n : List (List UInt8)} (h : OwnS w base v n) (hb : Below w.heap.size w w') : OwnS w' base v n := by
  have h0 : w.ownsRow base 9 1 v n.length (vs n) := h
  refine ⟨h0.1, ?_⟩
  rcases h0.2 with h1 | ⟨g, cap, cur, e, h1, h2, h3⟩
  · exact Or.inl h1
  · exact Or.inr ⟨g, cap, cur, e, h1, by rw [hb.block g (Array.getElem?_eq_some_iff.1 h2).1]; exact h2, h3⟩
theorem OwnS.lower {w : World} {base base' : Nat} {v : Value} {n : List (List UInt8)} (h : OwnS w base v n) (hb : base' ≤ base) : OwnS w base' v n := by
  have h0 : w.ownsRow base 9 1 v n.length (vs n) := h
  refine ⟨h0.1, ?_⟩
  rcases h0.2 with h1 | ⟨g, cap, cur, e, h1, h2, h3⟩
  · exact Or.inl h1
  · exact Or.inr ⟨g, cap, cur, e, Nat.le_trans hb h1, h2, h3⟩
theorem infoS : (Tryd.prog.info? 9).map (fun i => (i.zero, i.size, i.bytes)) = some (some (.string ⟨#[]⟩), 1, 16) := by kernel_rfl
theorem grown_belowS {w w' w0 : World} {base : Nat} {v : Value} {n : List (List UInt8)} (hown : OwnS w base v n) (hg : w.grownBy w' v.ownBlock) (hb : Below base w0 w) (hB : base ≤ w.heap.size) : Below base w0 w' := by
  refine hb.grown hg hB fun k hk => ?_
  have h0 : w.ownsRow base 9 1 v n.length (vs n) := hown
  rcases h0.2 with ⟨rfl, _⟩ | ⟨g, cap, cur, rfl, hg', _⟩
  · simp [Value.ownBlock] at hk
  · simp [Value.ownBlock] at hk; omega
/- the run of append(names, one) -/
theorem run_append_S {w : World} {base : Nat} {v : Value} {n : List (List UInt8)} (ty : TypeId) (hown : OwnS w base v n) (ad : Addr) (m c : Nat) (n2 : List (List UInt8)) (hm : n2.length = m) (hsrc : SlS w (some ad) n2) (hbound : n.length + m ≤ 1099511627776) (hbase : base ≤ w.heap.size) :
    ∃ v' w', (Builtin.append_ #[25, 25] ty #[v, .slice (some ad) m c]).run Tryd.prog w = .ok v' w' ∧ OwnS w' base v' (n ++ n2) ∧ w.grownBy w' v.ownBlock := by
  obtain ⟨i0, hi, hz0, hz1, hz2⟩ := info_parts infoS
  subst hm
  obtain ⟨v', w', h1, h2, h3, _⟩ := run_append_own (P := Tryd.prog) w base 25 ty 9 i0 (.string ⟨#[]⟩) 1 16 Tryd.underlying25 hi hz0 hz1 hz2 rfl (by decide) v n.length (vs n) hown ad n2.length c (vs n2) (by rw [vs_len, Nat.mul_one]) (by
    intro j u hu
    have hj : j < n2.length := by have := (List.getElem?_eq_some_iff.1 hu).1; rwa [vs_len] at this
    obtain ⟨b, o', e, _, hc⟩ := hsrc (by omega)
    cases e
    rw [Addr.add_mid, hc j hj, ← vs_get n2 j hj, hu]) (vs_one n2) (by unfold maxLen; omega) (by omega) hbase
  exact ⟨v', w', h1, by unfold OwnS; rw [List.length_append, vs_app]; exact h2, h3⟩
theorem wpList_append_S {w : World} {ops : Array Oper} {rest : List Oper} {o : Oper} {a : Act} {Q : Exit → Act → World → Prop} (hgd : o.guard = none) (s x : Operand)
    (ho : o.op = .call { callee := .builtin .append, args := #[s, x], argTypes := #[25, 25] }) (base : Nat) (v : Value) (n : List (List UInt8)) (hs : a.eval s = v) (hown : OwnS w base v n)
    (ad : Addr) (m c : Nat) (n2 : List (List UInt8)) (hx : a.eval x = .slice (some ad) m c) (hm : n2.length = m) (hsrc : SlS w (some ad) n2) (hbound : n.length + m ≤ 1099511627776) (hbase : base ≤ w.heap.size)
    (h : ∀ v' w', OwnS w' base v' (n ++ n2) → w.grownBy w' v.ownBlock → wpList Tryd.prog ops Q rest (a.put o.dst v') w') : wpList Tryd.prog ops Q (o :: rest) a w := by
  refine wpList_plain hgd fun K hK => ?_
  obtain ⟨v', w', hr, h2, h3⟩ := run_append_S o.type hown ad m c n2 hm hsrc hbound hbase
  unfold Oper.wp execOp
  simp only [ho, resolve, invoke, builtin, Sem.run_bind, Sem.run_pure, Result.andThen_ok, List.map_toArray, List.map_cons, List.map_nil, hs, hx, hr]
  exact hK _ _ (h v' w' h2 h3)
theorem step_append_S {ops : Array Oper} {o : Oper} {a : Act} {w : World} {K : Act → World → Prop} {Q : Exit → Act → World → Prop} {E : Prop} (hgd : o.guard = none) (s x : Operand)
    (ho : o.op = .call { callee := .builtin .append, args := #[s, x], argTypes := #[25, 25] }) (base : Nat) (v : Value) (n : List (List UInt8)) (hs : a.eval s = v) (hown : OwnS w base v n)
    (ad : Addr) (m c : Nat) (n2 : List (List UInt8)) (hx : a.eval x = .slice (some ad) m c) (hm : n2.length = m) (hsrc : SlS w (some ad) n2) (hbound : n.length + m ≤ 1099511627776) (hbase : base ≤ w.heap.size)
    (h : ∀ v' w', OwnS w' base v' (n ++ n2) → w.grownBy w' v.ownBlock → K (a.put o.dst v') w') : if Region.wanted o (yielded ops a.tmps) = true then Oper.wp Tryd.prog o a w K Q else E := by
  have hw : Region.wanted o (yielded ops a.tmps) = true := by simp [Region.wanted, hgd]
  rw [if_pos hw]
  obtain ⟨v', w', hr, h2, h3⟩ := run_append_S o.type hown ad m c n2 hm hsrc hbound hbase
  unfold Oper.wp execOp
  simp only [ho, resolve, invoke, builtin, Sem.run_bind, Sem.run_pure, Result.andThen_ok, List.map_toArray, List.map_cons, List.map_nil, hs, hx, hr]
  exact h v' w' h2 h3
/- append(bytes, one byte) in a region that draws -/
theorem run_append_B {w : World} {base : Nat} {v : Value} {l : List UInt8} (ty : TypeId) (hown : OwnB w base v l) (ad : Addr) (m c : Nat) (l2 : List UInt8) (hm : l2.length = m) (hsrc : SlL w (some ad) l2) (hbound : l.length + m ≤ 1099511627776) (hbase : base ≤ w.heap.size) :
    ∃ v' w', (Builtin.append_ #[23, 23] ty #[v, .slice (some ad) m c]).run Tryd.prog w = .ok v' w' ∧ OwnB w' base v' (l ++ l2) ∧ w.grownBy w' v.ownBlock := by
  obtain ⟨i0, hi, hz0, hz1, hz2⟩ := info_parts infoB
  subst hm
  obtain ⟨v', w', h1, h2, h3, _⟩ := run_append_own (P := Tryd.prog) w base 23 ty 5 i0 (.int .u8 0) 1 1 Tryd.underlying23 hi hz0 hz1 hz2 rfl (by decide) v l.length (vb l) hown ad l2.length c (vb l2) (by rw [vb_len, Nat.mul_one]) (by
    intro j u hu
    have hj : j < l2.length := by have := (List.getElem?_eq_some_iff.1 hu).1; rwa [vb_len] at this
    obtain ⟨b, o', e, _, hc⟩ := hsrc (by omega)
    cases e
    rw [Addr.add_mid, hc j hj, ← vb_get l2 j hj, hu]) (vb_one l2) (by unfold maxLen; omega) (by omega) hbase
  exact ⟨v', w', h1, by unfold OwnB; rw [List.length_append, vb_app]; exact h2, h3⟩
theorem step_append_B {ops : Array Oper} {o : Oper} {a : Act} {w : World} {K : Act → World → Prop} {Q : Exit → Act → World → Prop} {E : Prop} (hgd : o.guard = none) (s x : Operand)
    (ho : o.op = .call { callee := .builtin .append, args := #[s, x], argTypes := #[23, 23] }) (base : Nat) (v : Value) (l : List UInt8) (hs : a.eval s = v) (hown : OwnB w base v l)
    (ad : Addr) (m c : Nat) (l2 : List UInt8) (hx : a.eval x = .slice (some ad) m c) (hm : l2.length = m) (hsrc : SlL w (some ad) l2) (hbound : l.length + m ≤ 1099511627776) (hbase : base ≤ w.heap.size)
    (h : ∀ v' w', OwnB w' base v' (l ++ l2) → w.grownBy w' v.ownBlock → K (a.put o.dst v') w') : if Region.wanted o (yielded ops a.tmps) = true then Oper.wp Tryd.prog o a w K Q else E := by
  have hw : Region.wanted o (yielded ops a.tmps) = true := by simp [Region.wanted, hgd]
  rw [if_pos hw]
  obtain ⟨v', w', hr, h2, h3⟩ := run_append_B o.type hown ad m c l2 hm hsrc hbound hbase
  unfold Oper.wp execOp
  simp only [ho, resolve, invoke, builtin, Sem.run_bind, Sem.run_pure, Result.andThen_ok, List.map_toArray, List.map_cons, List.map_nil, hs, hx, hr]
  exact h v' w' h2 h3
/- append(bytes, a string's) -/
theorem size_mk (l : List UInt8) : (⟨l.toArray⟩ : ByteArray).size = l.length := rfl
theorem run_append_BS {w : World} {base : Nat} {v : Value} {l : List UInt8} (ty : TypeId) (hown : OwnB w base v l) (l2 : List UInt8) (hbound : l.length + l2.length ≤ 1099511627776) (hbase : base ≤ w.heap.size) :
    ∃ v' w', (Builtin.append_ #[23, 9] ty #[v, .string ⟨l2.toArray⟩]).run Tryd.prog w = .ok v' w' ∧ OwnB w' base v' (l ++ l2) ∧ w.grownBy w' v.ownBlock := by
  obtain ⟨i0, hi, hz0, hz1, hz2⟩ := info_parts infoB
  obtain ⟨v', w', h1, h2, h3, _⟩ := Lib.run_append_own_string (P := Tryd.prog) w base 23 9 ty 5 i0 Tryd.underlying23 Tryd.underlying9 hi hz0 hz1 hz2 v l.length (vb l) hown ⟨l2.toArray⟩ (by rw [size_mk]; unfold maxLen; omega) (by rw [size_mk]; omega) hbase
  refine ⟨v', w', h1, ?_, h3⟩
  have e : Lib.strCells ⟨l2.toArray⟩ = vb l2 := by simp [Lib.strCells, vb]
  rw [e, size_mk] at h2
  unfold OwnB; rw [List.length_append, vb_app]; exact h2
theorem wpList_append_BS {w : World} {ops : Array Oper} {rest : List Oper} {o : Oper} {a : Act} {Q : Exit → Act → World → Prop} (hgd : o.guard = none) (s x : Operand)
    (ho : o.op = .call { callee := .builtin .append, args := #[s, x], argTypes := #[23, 9] }) (base : Nat) (v : Value) (l : List UInt8) (hs : a.eval s = v) (hown : OwnB w base v l)
    (l2 : List UInt8) (hx : a.eval x = .string ⟨l2.toArray⟩) (hbound : l.length + l2.length ≤ 1099511627776) (hbase : base ≤ w.heap.size)
    (h : ∀ v' w', OwnB w' base v' (l ++ l2) → w.grownBy w' v.ownBlock → wpList Tryd.prog ops Q rest (a.put o.dst v') w') : wpList Tryd.prog ops Q (o :: rest) a w := by
  refine wpList_plain hgd fun K hK => ?_
  obtain ⟨v', w', hr, h2, h3⟩ := run_append_BS o.type hown l2 hbound hbase
  unfold Oper.wp execOp
  simp only [ho, resolve, invoke, builtin, Sem.run_bind, Sem.run_pure, Result.andThen_ok, List.map_toArray, List.map_cons, List.map_nil, hs, hx, hr]
  exact hK _ _ (h v' w' h2 h3)
theorem step_append_BS {ops : Array Oper} {o : Oper} {a : Act} {w : World} {K : Act → World → Prop} {Q : Exit → Act → World → Prop} {E : Prop} (hgd : o.guard = none) (s x : Operand)
    (ho : o.op = .call { callee := .builtin .append, args := #[s, x], argTypes := #[23, 9] }) (base : Nat) (v : Value) (l : List UInt8) (hs : a.eval s = v) (hown : OwnB w base v l)
    (l2 : List UInt8) (hx : a.eval x = .string ⟨l2.toArray⟩) (hbound : l.length + l2.length ≤ 1099511627776) (hbase : base ≤ w.heap.size)
    (h : ∀ v' w', OwnB w' base v' (l ++ l2) → w.grownBy w' v.ownBlock → K (a.put o.dst v') w') : if Region.wanted o (yielded ops a.tmps) = true then Oper.wp Tryd.prog o a w K Q else E := by
  have hw : Region.wanted o (yielded ops a.tmps) = true := by simp [Region.wanted, hgd]
  rw [if_pos hw]
  obtain ⟨v', w', hr, h2, h3⟩ := run_append_BS o.type hown l2 hbound hbase
  unfold Oper.wp execOp
  simp only [ho, resolve, invoke, builtin, Sem.run_bind, Sem.run_pure, Result.andThen_ok, List.map_toArray, List.map_cons, List.map_nil, hs, hx, hr]
  exact h v' w' h2 h3
/- string(b) -/
theorem run_str {W : World} {ao : Option Addr} {l : List UInt8} (n cap : Nat) (hs : SlL W ao l) (hl : l.length = n) : (convert 23 9 (.slice ao n cap)).run Tryd.prog W = .ok (.string ⟨l.toArray⟩) W := by
  subst hl
  cases ao with
  | none =>
    have h0 : l = [] := by
      rcases Nat.eq_zero_or_pos l.length with h | h
      · exact List.eq_nil_of_length_eq_zero h
      · obtain ⟨b, o, e, _⟩ := hs h; cases e
    subst h0
    exact run_convert_bytes_nil W 23 5 Tryd.underlying23 Tryd.underlying5 0 cap 9 Tryd.underlying9
  | some a =>
    refine run_convert_bytes_back W 23 9 5 a cap l Tryd.underlying23 Tryd.underlying5 Tryd.underlying9 ?_
    intro j hj
    obtain ⟨b, o, e, _, hc⟩ := hs (by omega)
    cases e
    rw [Addr.add_mid, hc j hj]
    simp [hj]
/- a part of a slice of bytes -/
theorem SlL.part {w : World} {b o k : Nat} {l : List UInt8} (m : Nat) (h : SlL w (some ⟨b, o, none⟩) l) (hk : k + m ≤ l.length) : SlL w (some ⟨b, o + k, none⟩) ((l.drop k).take m) := fun hn => by
  rw [List.length_take, List.length_drop] at hn
  obtain ⟨b', o', e, hlt, hc⟩ := h (by omega)
  cases e
  refine ⟨b, o + k, rfl, hlt, fun j hj => ?_⟩
  rw [List.length_take, List.length_drop] at hj
  rw [show o + k + j = o + (k + j) by omega, hc (k + j) (by omega)]
  have hjm : j < m := by omega
  simp [List.getD_eq_getElem?_getD, List.getElem?_drop, hjm]
end Go.Proofs.YtecikfdnnjinpabDoor
