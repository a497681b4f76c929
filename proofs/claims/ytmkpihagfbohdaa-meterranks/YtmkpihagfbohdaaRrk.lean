/- The reference's Rank, walked: numbers put in one by one. -/
import Derived.Test.YtmkpihagfbohdaaSrt
namespace Go.Proofs.Ytmkpihagfbohdaa
open Go.RowKit
namespace F
set_option maxRecDepth 5000 in
theorem cmp_three (a b : Nat) : (cmp a b = -1 ∧ okey a < okey b) ∨ (cmp a b = 0 ∧ okey a = okey b) ∨ (cmp a b = 1 ∧ okey b < okey a) := by
  unfold cmp
  by_cases h1 : okey a < okey b
  · rw [if_pos h1]; exact Or.inl ⟨rfl, h1⟩
  · by_cases h2 : okey b < okey a
    · rw [if_neg h1, if_pos h2]; exact Or.inr (Or.inr ⟨rfl, h2⟩)
    · rw [if_neg h1, if_neg h2]; exact Or.inr (Or.inl ⟨rfl, by omega⟩)
def ins (m : List Nat) (p a : Nat) : List Nat := m.take p ++ a :: m.drop p
set_option maxRecDepth 5000 in
theorem ins_perm (m : List Nat) (p a : Nat) : (ins m p a).Perm (m ++ [a]) := by
  unfold ins
  refine List.perm_middle.trans ?_
  rw [List.take_append_drop]
  exact (List.perm_append_singleton a m).symm
set_option maxRecDepth 5000 in
theorem getD_mem_drop {m : List Nat} {p y : Nat} (h : y ∈ m.drop p) : ∃ i, p ≤ i ∧ i < m.length ∧ m.getD i 0 = y := by
  obtain ⟨i, hi, rfl⟩ := List.getElem_of_mem h
  rw [List.length_drop] at hi
  exact ⟨p + i, by omega, by omega, by simp [show p + i < m.length by omega]⟩
set_option maxRecDepth 5000 in
theorem getD_mem_take {m : List Nat} {p y : Nat} (h : y ∈ m.take p) : ∃ i, i < p ∧ i < m.length ∧ m.getD i 0 = y := by
  obtain ⟨i, hi, rfl⟩ := List.getElem_of_mem h
  rw [List.length_take] at hi
  exact ⟨i, by omega, by omega, by simp [show i < m.length by omega]⟩
set_option maxRecDepth 5000 in
theorem ins_sorted {m : List Nat} {p a : Nat} (hm : m.Pairwise (fun a b => okey a ≤ okey b)) (hp : p ≤ m.length) (hgt : ∀ i, p ≤ i → i < m.length → okey a < okey (m.getD i 0)) (hle : 0 < p → okey (m.getD (p - 1) 0) ≤ okey a) : (ins m p a).Pairwise (fun a b => okey a ≤ okey b) := by
  have hpw := List.pairwise_iff_getElem.1 hm
  have hm2 := hm
  rw [← List.take_append_drop p m] at hm2
  obtain ⟨h1, h2, h3⟩ := List.pairwise_append.1 hm2
  unfold ins
  refine List.pairwise_append.2 ⟨h1, List.pairwise_cons.2 ⟨fun y hy => ?_, h2⟩, fun x hx y hy => ?_⟩
  · obtain ⟨i, hi1, hi2, rfl⟩ := getD_mem_drop hy
    exact Int.le_of_lt (hgt i hi1 hi2)
  · rcases List.mem_cons.1 hy with rfl | hy
    · obtain ⟨i, hi1, hi2, rfl⟩ := getD_mem_take hx
      have hl := hle (by omega)
      by_cases e : i = p - 1
      · rw [e]; exact hl
      · have := hpw i (p - 1) hi2 (by omega) (by omega)
        rw [show m.getD i 0 = m[i] by simp [hi2]]
        rw [show m.getD (p - 1) 0 = m[p - 1] by simp [show p - 1 < m.length by omega]] at hl
        omega
    · exact h3 x hx y hy
set_option maxRecDepth 5000 in
theorem nums_snoc (l : List Nat) (j : Nat) (h : j < l.length) (hn : nan (l.getD j 0) = false) : nums (l.take (j + 1)) = nums (l.take j) ++ [l.getD j 0] := by
  rw [take_snoc l j h]; unfold nums; rw [List.filter_append]
  generalize l.getD j 0 = x at hn
  simp [hn]
set_option maxRecDepth 5000 in
theorem nums_skip (l : List Nat) (j : Nat) (h : j < l.length) (hn : nan (l.getD j 0) = true) : nums (l.take (j + 1)) = nums (l.take j) := by
  rw [take_snoc l j h]; unfold nums; rw [List.filter_append]
  generalize l.getD j 0 = x at hn
  simp [hn]
end F
/- append where there is no room: new memory -/
set_option maxRecDepth 5000 in
theorem run_append_new {w : World} (base : Nat) (ty : TypeId) (l1 : List Nat) (g n : Nat) (hn : l1.length = n) (h1 : SlF w (some ⟨g, 0, none⟩) l1) (ad : Addr) (m c : Nat) (l2 : List Nat) (hm : l2.length = m) (hsrc : SlF w (some ad) l2) (h0 : 0 < m) (hbound : n + m ≤ 1099511627776) (hbase : base ≤ w.heap.size) :
    ∃ v' w', (Builtin.append_ #[30, 30] ty #[.slice (some ⟨g, 0, none⟩) n n, .slice (some ad) m c]).run Try.prog w = .ok v' w' ∧ OwnF w' base v' (l1 ++ l2) ∧ Below w.heap.size w w' := by
  obtain ⟨i0, hi, hz0, hz1, hz2⟩ := info_parts infoF
  subst hn
  subst hm
  have hl1 : (vf l1).length = l1.length * i0.size := by rw [vf_len, hz1, Nat.mul_one]
  have hl2 : (vf l2).length = l2.length * i0.size := by rw [vf_len, hz1, Nat.mul_one]
  have hr := run_append_grow (P := Try.prog) w 30 ty 25 i0 (.float .f64 0) Try.underlying30 hi hz0 ⟨g, 0, none⟩ l1.length l1.length (vf l1) hl1 (by
    intro j u hu
    have hj : j < l1.length := by have := (List.getElem?_eq_some_iff.1 hu).1; rwa [vf_len] at this
    obtain ⟨b, o', e, _, hc⟩ := h1 (by omega)
    cases e
    rw [Addr.add_mid, hc j hj, ← vf_get l1 j hj, hu]) ad l2.length c (vf l2) hl2 (by
    intro j u hu
    have hj : j < l2.length := by have := (List.getElem?_eq_some_iff.1 hu).1; rwa [vf_len] at this
    obtain ⟨b, o', e, _, hc⟩ := hsrc (by omega)
    cases e
    rw [Addr.add_mid, hc j hj, ← vf_get l2 j hj, hu]) (by omega) (by omega) (growslice_fits (by omega) (by rw [hz2]; omega))
  refine ⟨_, _, hr, ?_, ?_⟩
  · have hge := grownCap_ge w (l1.length + l2.length) l1.length 25
    have hcm := grownCap_le_maxLen w (l1.length + l2.length) l1.length 25 (by unfold maxLen; omega)
    unfold OwnF
    rw [List.length_append, vf_app]
    refine ⟨by rw [List.length_append, vf_len, vf_len, Nat.mul_one], .inr ⟨w.heap.size, _, _, rfl, hbase, heap_alloc_new w.drew _, hge, hcm, ?_, ?_⟩⟩
    · simp only [Array.size_append, List.size_toArray, size_zeroCells, vf_len]
      rw [show (Value.float .f64 0).cells.size = 1 from rfl]
      omega
    · simp only [Array.toList_append, List.append_assoc]
      rw [← List.append_assoc, Nat.mul_one, show l1.length + l2.length = (vf l1 ++ vf l2).length by rw [List.length_append, vf_len, vf_len]]
      exact List.take_left
  · have hd : Below w.heap.size w w.drew := ⟨rfl, rfl, rfl, Nat.le_refl _, fun _ _ => rfl⟩
    exact hd.alloc (Nat.le_refl _) _
set_option maxRecDepth 5000 in
theorem slice_head (g L C A : Nat) (hAC : A ≤ C) (w : World) : (Instr.sliceAt 30 (.slice (some ⟨g, 0, none⟩) L C) none (some (.int .i64 (A : Int))) (some (.int .i64 (A : Int)))).run Try.prog w = .ok (.slice (some ⟨g, 0, none⟩) A A) w := by
  have h1 : (A : Int) ≤ (C : Int) := by omega
  rw [run_sliceAt_slice w 30 _ _ _ _ Try.underlying30]
  simp [Instr.slice, run_underlying Try.underlying30, Instr.sliceBounds, run_sliceBound, h1, Addr.add]
set_option maxRecDepth 5000 in
theorem slice_tail (g L C A : Nat) (hAL : A ≤ L) (w : World) : (Instr.sliceAt 30 (.slice (some ⟨g, 0, none⟩) L C) (some (.int .i64 (A : Int))) none none).run Try.prog w = .ok (.slice (some ⟨g, if C = A then 0 else A, none⟩) (L - A) (C - A)) w := by
  have h1 : (A : Int) ≤ (L : Int) := by omega
  rw [run_sliceAt_slice w 30 _ _ _ _ Try.underlying30]
  simp [Instr.slice, run_underlying Try.underlying30, Instr.sliceBounds, run_sliceBound, h1, Addr.add]
  split
  · rfl
  · split
    · rename_i h; rw [h]
    · rfl
set_option maxRecDepth 5000 in
theorem quiet_same2 {P : Program} {f : FuncId} {args : Array Value} {w : World} {m x : Nat} {v : Value}
    (h : Calls P f args (w.drewN (m + x)) fun e w' => e = .returned v ∧ w' = w.drewN (m + x)) : Calls P f args (w.drewN (m + x)) fun e w'' => e = .returned v ∧ ∃ n, w'' = w.drewN (m + n) :=
  h.mono fun _ _ ⟨he, hk⟩ => ⟨he, x, hk⟩
set_option maxRecDepth 5000 in
theorem below_drew {B : Nat} {w wr : World} (h : Below B w wr) : Below B w wr.drew := ⟨h.os, h.tape, h.output, h.size, h.block⟩
set_option maxRecDepth 5000 in
theorem run_append_one_nil (g : Nat) (ty : TypeId) (w : World) : (Builtin.append_ #[30, 30] ty #[.slice (some ⟨g, 0, none⟩) 1 1, .slice none 0 0]).run Try.prog w = .ok (.slice (some ⟨g, 0, none⟩) 1 1) w := by
  obtain ⟨i0, hi, hz0, hz1, hz2⟩ := info_parts infoF
  simp [Builtin.append_, run_underlying Try.underlying30, sizeOf, typeInfo, hi, Builtin.lenOf, Builtin.firstCells, storeCells]
set_option maxRecDepth 5000 in
theorem step_append_one_nil {ops : Array Oper} {o : Oper} {a : Act} {w : World} {K : Act → World → Prop} {Q : Exit → Act → World → Prop} {E : Prop} (hgd : o.guard = none) (s x : Operand)
    (ho : o.op = .call { callee := .builtin .append, args := #[s, x], argTypes := #[30, 30] }) (g : Nat) (hs : a.eval s = .slice (some ⟨g, 0, none⟩) 1 1) (hx : a.eval x = .slice none 0 0)
    (h : K (a.put o.dst (.slice (some ⟨g, 0, none⟩) 1 1)) w) : if Region.wanted o (yielded ops a.tmps) = true then Oper.wp Try.prog o a w K Q else E := by
  have hw : Region.wanted o (yielded ops a.tmps) = true := by simp [Region.wanted, hgd]
  rw [if_pos hw]
  have hr := run_append_one_nil g o.type w
  unfold Oper.wp execOp
  simp only [ho, resolve, invoke, builtin, Sem.run_bind, Sem.run_pure, Result.andThen_ok, List.map_toArray, List.map_cons, List.map_nil, hs, hx, hr]
  exact h
set_option maxRecDepth 5000 in
theorem step_append_new {ops : Array Oper} {o : Oper} {a : Act} {w : World} {K : Act → World → Prop} {Q : Exit → Act → World → Prop} {E : Prop} (hgd : o.guard = none) (s x : Operand)
    (ho : o.op = .call { callee := .builtin .append, args := #[s, x], argTypes := #[30, 30] }) (base : Nat) (l1 : List Nat) (g n : Nat) (hs : a.eval s = .slice (some ⟨g, 0, none⟩) n n) (hn : l1.length = n) (h1 : SlF w (some ⟨g, 0, none⟩) l1)
    (ad : Addr) (m c : Nat) (l2 : List Nat) (hx : a.eval x = .slice (some ad) m c) (hm : l2.length = m) (hsrc : SlF w (some ad) l2) (h0 : 0 < m) (hbound : n + m ≤ 1099511627776) (hbase : base ≤ w.heap.size)
    (h : ∀ v' w', OwnF w' base v' (l1 ++ l2) → Below w.heap.size w w' → K (a.put o.dst v') w') : if Region.wanted o (yielded ops a.tmps) = true then Oper.wp Try.prog o a w K Q else E := by
  have hw : Region.wanted o (yielded ops a.tmps) = true := by simp [Region.wanted, hgd]
  rw [if_pos hw]
  obtain ⟨v', w', hr, h2, h3⟩ := run_append_new base o.type l1 g n hn h1 ad m c l2 hm hsrc h0 hbound hbase
  unfold Oper.wp execOp
  simp only [ho, resolve, invoke, builtin, Sem.run_bind, Sem.run_pure, Result.andThen_ok, List.map_toArray, List.map_cons, List.map_nil, hs, hx, hr]
  exact h v' w' h2 h3
end Go.Proofs.Ytmkpihagfbohdaa
