/- A call's own slice of bytes, appended to by so many noughts: 'append(c, make([]byte, n)...)'. -/
import Derived.Test.YtagopkmehlpjpaaApp
namespace Go.Proofs.Ytagopkmehlpjpaa
open Go.RowKit
set_option maxRecDepth 5000 in
theorem zeroCells_vb (n : Nat) : Builtin.zeroCells (Value.int .u8 0).cells n = (vb (List.replicate n 0)).toArray := by
  unfold Builtin.zeroCells vb
  apply Array.ext_getElem?
  intro i
  by_cases h : i < n
  · simp [h, Value.cells, Nat.mod_one]
  · simp [h, Value.cells]
set_option maxRecDepth 5000 in
theorem vb_rep (n : Nat) : (vb (List.replicate n 0)).length = n := by simp [vb]
set_option maxRecDepth 5000 in
theorem run_append_make {w : World} (base : Nat) (ty : TypeId) (v : Value) (l : List UInt8) (hown : OwnB w base v l) (m : Nat) (hm : m ≤ 255) (hbound : l.length + m ≤ 1099511627776) (hbase : base ≤ w.heap.size) :
    ∃ v' w', (Builtin.append_ #[23, 3] ty #[v, .int .i64 (m : Int)]).run Try.prog w = .ok v' w' ∧ OwnB w' base v' (l ++ List.replicate m 0) ∧ w.grownBy w' v.ownBlock := by
  obtain ⟨i0, hi, hz0, hz1, hz2⟩ := info_parts infoB
  have hwr : IntKind.i64.wrap (m : Int) = (m : Int) := by rw [IntKind.wrap_i64]; omega
  have hneg : ¬ ((m : Int) < 0) := by omega
  have hbig : ¬ (281474976710656 < (m : Int) * (i0.bytes : Int)) := by rw [hz2]; omega
  have hO : w.ownsRow base 5 1 v l.length (vb l) := hown
  have hll : (l ++ List.replicate m 0).length = l.length + m := by simp
  have hlen : (vb (l ++ List.replicate m 0)).length = (l ++ List.replicate m 0).length * 1 := by rw [vb_len, Nat.mul_one]
  by_cases h0 : m = 0
  · subst h0
    have hw0 : IntKind.i64.wrap 0 = 0 := by decide
    have hown' : OwnB w base v (l ++ List.replicate 0 0) := by simpa using hown
    refine ⟨v, w, ?_, hown', ⟨rfl, rfl, rfl, Nat.le_refl _, fun _ _ _ => rfl⟩⟩
    rcases hO.2 with ⟨rfl, hl0⟩ | ⟨g, cap, cur, rfl, hbg, hg, hnc, hcm, hcs, htake⟩
    · simp [Builtin.append_, run_underlying Try.underlying23, run_underlying Try.underlying3, sizeOf, typeInfo, hi, asInt, asIntOf, hw0]
    · simp [Builtin.append_, run_underlying Try.underlying23, run_underlying Try.underlying3, sizeOf, typeInfo, hi, asInt, asIntOf, hw0, hnc, storeCells]
  · have hz : ¬ (m * i0.size = 0) := by rw [hz1]; omega
    have grown : ∀ (old : Nat) (xs : List Value) (hx : xs = vb l) (row : Option Nat),
        OwnB (w.drew.alloc (.cells (xs.toArray ++ (vb (List.replicate m 0)).toArray ++ Builtin.zeroCells (Value.int .u8 0).cells (grownCap w (l.length + m) old 5 - (l.length + m))) 5)) base
          (.slice (some ⟨w.heap.size, 0, none⟩) (l.length + m) (grownCap w (l.length + m) old 5)) (l ++ List.replicate m 0) ∧
        w.grownBy (w.drew.alloc (.cells (xs.toArray ++ (vb (List.replicate m 0)).toArray ++ Builtin.zeroCells (Value.int .u8 0).cells (grownCap w (l.length + m) old 5 - (l.length + m))) 5)) row := by
      intro old xs hx row
      subst hx
      have hge := grownCap_ge w (l.length + m) old 5
      have hcm := grownCap_le_maxLen w (l.length + m) old 5 (by unfold maxLen; omega)
      refine ⟨⟨hlen, .inr ⟨w.heap.size, grownCap w (l.length + m) old 5, _, by rw [hll], hbase, heap_alloc_new w.drew _, by rw [hll]; exact hge, hcm, ?_, ?_⟩⟩, ⟨rfl, rfl, rfl, by simp, fun k hk _ => Below.heap_alloc w.drew _ k hk⟩⟩
      · simp only [Array.size_append, List.size_toArray, size_zeroCells, vb_len, List.length_replicate]
        have : (Value.int .u8 0).cells.size = 1 := rfl
        rw [this]; omega
      · simp only [Array.toList_append]
        rw [← vb_app, ← hlen]
        exact List.take_left
    rcases hO.2 with ⟨rfl, hl0⟩ | ⟨g, cap, cur, rfl, hbg, hg, hnc, hcm, hcs, htake⟩
    · obtain rfl : l = [] := List.eq_nil_of_length_eq_zero hl0
      have hfit := growslice_fits (need := m) (old := 0) (bytes := i0.bytes) (by omega) (by rw [hz2]; omega)
      have h48 : ¬ (281474976710656 < Builtin.nextslicecap m 0 * i0.bytes) := by omega
      have h63 : ¬ (9223372036854775807 < (m : Int)) := by omega
      have hgr := grown 0 [] rfl (Value.ownBlock (.slice none 0 0))
      simp only [List.length_nil, Nat.zero_add] at hgr
      refine ⟨_, _, ?_, hgr.1, hgr.2⟩
      simp [Builtin.append_, run_underlying Try.underlying23, run_underlying Try.underlying3, sizeOf, typeInfo, zeroValue, hi, hz0, asInt, asIntOf, hwr, hneg, hbig, h0, h48, h63, hz, Question.forced, run_firstCells_none, newRow, grownCap, zeroCells_vb]
    · by_cases hroom : l.length + m ≤ cap
      · have hst := run_storeCells_at Try.prog g l.length 5 (vb (List.replicate m 0)) 0 cur w hg (by rw [vb_rep, hcs]; omega) (vb_one _)
        simp only [Nat.add_zero] at hst
        refine ⟨.slice (some ⟨g, 0, none⟩) (l.length + m) cap, w.setRow g (cur.toList.take l.length ++ vb (List.replicate m 0) ++ cur.toList.drop (l.length + (vb (List.replicate m 0)).length)).toArray, ?_, ?_, ?_⟩
        · simp [Builtin.append_, run_underlying Try.underlying23, run_underlying Try.underlying3, sizeOf, typeInfo, zeroValue, hi, hz0, asInt, asIntOf, hwr, hneg, hbig, hroom, h0, hz1, Addr.add_lit, zeroCells_vb, hst]
        · refine ⟨hlen, .inr ⟨g, cap, _, by rw [hll], hbg, setRow_heap w g cur _ 5 _ hg, by rw [hll]; exact hroom, hcm, ?_, ?_⟩⟩
          · simp only [List.size_toArray, List.length_append, List.length_take, List.length_drop, Array.length_toList, vb_rep]
            omega
          · rw [Nat.mul_one] at htake
            rw [htake, ← vb_app, ← hlen]
            exact List.take_left
        · exact ⟨rfl, rfl, rfl, by simp, fun k _ hk => Go.setRow_other w g k _ (fun e => hk (by simp [Value.ownBlock, e]))⟩
      · have holds : ∀ j u, (vb l)[j]? = some u → w.cell? ((⟨g, 0, none⟩ : Addr).add j) = some u := hO.cells (g := g) rfl
        have hfo := run_firstCells_some (P := Try.prog) w.drew 1 l.length ⟨g, 0, none⟩ l.length cap (vb l) (by rw [vb_len, Nat.mul_one]) (by simpa using holds)
        have hfit := growslice_fits (need := l.length + m) (old := cap) (bytes := i0.bytes) (by omega) (by rw [hz2]; omega)
        have h48 : ¬ (281474976710656 < Builtin.nextslicecap (l.length + m) cap * i0.bytes) := by omega
        have h63 : ¬ (9223372036854775807 < (l.length : Int) + (m : Int)) := by omega
        have hgr := grown cap (vb l) rfl (Value.ownBlock (.slice (some ⟨g, 0, none⟩) l.length cap))
        refine ⟨_, _, ?_, hgr.1, hgr.2⟩
        simp [Builtin.append_, run_underlying Try.underlying23, run_underlying Try.underlying3, sizeOf, typeInfo, zeroValue, hi, hz0, asInt, asIntOf, hwr, hneg, hbig, hroom, h0, h48, h63, hz1, Question.forced, hfo, newRow, grownCap, zeroCells_vb]
set_option maxRecDepth 5000 in
theorem wpList_append_make {w : World} {ops : Array Oper} {rest : List Oper} {o : Oper} {a : Act} {Q : Exit → Act → World → Prop} (hgd : o.guard = none) (s x : Operand)
    (ho : o.op = .call { callee := .builtin .append, args := #[s, x], argTypes := #[23, 3] }) (base : Nat) (v : Value) (l : List UInt8) (hs : a.eval s = v) (hown : OwnB w base v l)
    (m : Nat) (hx : a.eval x = .int .i64 (m : Int)) (hm : m ≤ 255) (hbound : l.length + m ≤ 1099511627776) (hbase : base ≤ w.heap.size)
    (h : ∀ v' w', OwnB w' base v' (l ++ List.replicate m 0) → w.grownBy w' v.ownBlock → wpList Try.prog ops Q rest (a.put o.dst v') w') : wpList Try.prog ops Q (o :: rest) a w :=
  wpList_plain hgd fun _ hK => by
    obtain ⟨v', w', hr, h1, h2⟩ := run_append_make base o.type v l hown m hm hbound hbase
    unfold Oper.wp execOp
    simp only [ho, resolve, invoke, builtin, Sem.run_bind, Sem.run_pure, Result.andThen_ok, List.map_toArray, List.map_cons, List.map_nil, hs, hx, hr]
    exact hK _ _ (h v' w' h1 h2)
set_option maxRecDepth 5000 in
theorem step_append_make {ops : Array Oper} {o : Oper} {a : Act} {w : World} {K : Act → World → Prop} {Q : Exit → Act → World → Prop} {E : Prop} (hgd : o.guard = none) (s x : Operand)
    (ho : o.op = .call { callee := .builtin .append, args := #[s, x], argTypes := #[23, 3] }) (base : Nat) (v : Value) (l : List UInt8) (hs : a.eval s = v) (hown : OwnB w base v l)
    (m : Nat) (hx : a.eval x = .int .i64 (m : Int)) (hm : m ≤ 255) (hbound : l.length + m ≤ 1099511627776) (hbase : base ≤ w.heap.size)
    (h : ∀ v' w', OwnB w' base v' (l ++ List.replicate m 0) → w.grownBy w' v.ownBlock → K (a.put o.dst v') w') : if Region.wanted o (yielded ops a.tmps) = true then Oper.wp Try.prog o a w K Q else E := by
  have hw : Region.wanted o (yielded ops a.tmps) = true := by simp [Region.wanted, hgd]
  rw [if_pos hw]
  obtain ⟨v', w', hr, h1, h2⟩ := run_append_make base o.type v l hown m hm hbound hbase
  unfold Oper.wp execOp
  simp only [ho, resolve, invoke, builtin, Sem.run_bind, Sem.run_pure, Result.andThen_ok, List.map_toArray, List.map_cons, List.map_nil, hs, hx, hr]
  exact h v' w' h1 h2
end Go.Proofs.Ytagopkmehlpjpaa
