/- append(x, make(.., n)...) at a call's own slice of elements of one cell. -/
import Derived.Test.YtidocfajhhpfdaaDoorJnm
namespace Go.Proofs.YtidocfajhhpfdaaDoor
open Go.RowKit
set_option maxRecDepth 5000 in
theorem zeroCells_one (z : Value) (hz : z.cells = #[z]) (n : Nat) : Builtin.zeroCells z.cells n = (List.replicate n z).toArray := by
  unfold Builtin.zeroCells
  rw [hz]
  apply Array.ext_getElem?
  intro i
  by_cases h : i < n
  · simp [h, Nat.mod_one]
  · simp [h]
set_option maxRecDepth 5000 in
theorem run_append_makeG {w : World} (st et aty ty : TypeId) (kd : IntKind) (z : Value) (bb : Nat) (hu : Tryd.prog.underlying st = some (.slice et)) (ha : Tryd.prog.underlying aty = some (.int kd)) (hie : (Tryd.prog.info? et).map (fun i => (i.zero, i.size, i.bytes)) = some (some z, 1, bb)) (hbb : bb ≤ 24)
    (hzc : z.cells = #[z]) (hz1c : z.oneCell' = true) (base : Nat) (v : Value) (n : Nat) (xs : List Value) (hown : w.ownsRow base et 1 v n xs) (m : Nat) (hm : m ≤ 8589934592) (hbound : n + m ≤ 1099511627776) (hbase : base ≤ w.heap.size) :
    ∃ v' w', (Builtin.append_ #[st, aty] ty #[v, .int kd (m : Int)]).run Tryd.prog w = .ok v' w' ∧ w'.ownsRow base et 1 v' (n + m) (xs ++ List.replicate m z) ∧ w.grownBy w' v.ownBlock := by
  obtain ⟨i0, hi, hz0, hz1, hz2⟩ := info_parts hie
  have hneg : ¬ ((m : Int) < 0) := by omega
  have hwr : IntKind.i64.wrap (m : Int) = (m : Int) := by rw [IntKind.wrap_i64]; omega
  have hmb : m * bb ≤ 8589934592 * 24 := Nat.mul_le_mul hm hbb
  have hnb : (n + m) * bb ≤ 1099511627776 * 24 := Nat.mul_le_mul hbound hbb
  have hbig : ¬ (281474976710656 < (m : Int) * (i0.bytes : Int)) := by
    rw [hz2]
    have : ((m * bb : Nat) : Int) ≤ ((8589934592 * 24 : Nat) : Int) := Int.ofNat_le.2 hmb
    rw [Int.natCast_mul] at this
    omega
  have hxl : xs.length = n := by have := hown.1; omega
  have hlen : (xs ++ List.replicate m z).length = (n + m) * 1 := by simp [hxl]
  have hrl : (List.replicate m z).length = m := List.length_replicate
  have hro : ∀ u ∈ List.replicate m z, u.oneCell' = true := fun u hu => by rw [List.eq_of_mem_replicate hu]; exact hz1c
  by_cases h0 : m = 0
  · subst h0
    have hown' : w.ownsRow base et 1 v (n + 0) (xs ++ List.replicate 0 z) := by simpa using hown
    refine ⟨v, w, ?_, hown', ⟨rfl, rfl, rfl, Nat.le_refl _, fun _ _ _ => rfl⟩⟩
    have hw0 : IntKind.i64.wrap 0 = 0 := hwr
    rcases hown.2 with ⟨rfl, hl0⟩ | ⟨g, cap, cur, rfl, hbg, hg, hnc, hcm, hcs, htake⟩
    · simp [Builtin.append_, run_underlying hu, run_underlying ha, sizeOf, typeInfo, hi, asInt, asIntOf, hw0]
    · simp [Builtin.append_, run_underlying hu, run_underlying ha, sizeOf, typeInfo, hi, asInt, asIntOf, hw0, hnc, storeCells]
  · have hz : ¬ (m * i0.size = 0) := by rw [hz1]; omega
    have grown : ∀ (old : Nat) (row : Option Nat),
        (w.drew.alloc (.cells (xs.toArray ++ (List.replicate m z).toArray ++ Builtin.zeroCells z.cells (grownCap w (n + m) old et - (n + m))) et)).ownsRow base et 1
          (.slice (some ⟨w.heap.size, 0, none⟩) (n + m) (grownCap w (n + m) old et)) (n + m) (xs ++ List.replicate m z) ∧
        w.grownBy (w.drew.alloc (.cells (xs.toArray ++ (List.replicate m z).toArray ++ Builtin.zeroCells z.cells (grownCap w (n + m) old et - (n + m))) et)) row := by
      intro old row
      have hge := grownCap_ge w (n + m) old et
      have hcm := grownCap_le_maxLen w (n + m) old et (by unfold maxLen; omega)
      refine ⟨⟨hlen, .inr ⟨w.heap.size, grownCap w (n + m) old et, _, rfl, hbase, heap_alloc_new w.drew _, hge, hcm, ?_, ?_⟩⟩, ⟨rfl, rfl, rfl, by simp, fun k hk _ => Below.heap_alloc w.drew _ k hk⟩⟩
      · simp only [Array.size_append, List.size_toArray, size_zeroCells, List.length_replicate, hxl]
        have : z.cells.size = 1 := by rw [hzc]; rfl
        rw [this]; omega
      · simp only [Array.toList_append]
        rw [← hlen]
        exact List.take_left
    rcases hown.2 with ⟨rfl, hl0⟩ | ⟨g, cap, cur, rfl, hbg, hg, hnc, hcm, hcs, htake⟩
    · subst hl0
      obtain rfl : xs = [] := List.eq_nil_of_length_eq_zero hxl
      have hfit := growslice_fits (need := m) (old := 0) (bytes := i0.bytes) (by omega) (by rw [hz2]; omega)
      have h48 : ¬ (281474976710656 < Builtin.nextslicecap m 0 * i0.bytes) := by omega
      have h63 : ¬ (9223372036854775807 < (m : Int)) := by omega
      have hgr := grown 0 (Value.ownBlock (.slice none 0 0))
      simp only [Nat.zero_add] at hgr
      refine ⟨.slice (some ⟨w.heap.size, 0, none⟩) m (grownCap w m 0 et), _, ?_, by simpa using hgr.1, hgr.2⟩
      simp [Builtin.append_, run_underlying hu, run_underlying ha, sizeOf, typeInfo, zeroValue, hi, hz0, asInt, asIntOf, hwr, hneg, hbig, h0, h48, h63, hz, Question.forced, run_firstCells_none, newRow, grownCap, zeroCells_one z hzc]
    · by_cases hroom : n + m ≤ cap
      · have hst := run_storeCells_at Tryd.prog g n et (List.replicate m z) 0 cur w hg (by rw [hrl, hcs]; omega) hro
        simp only [Nat.add_zero] at hst
        refine ⟨.slice (some ⟨g, 0, none⟩) (n + m) cap, w.setRow g (cur.toList.take n ++ List.replicate m z ++ cur.toList.drop (n + (List.replicate m z).length)).toArray, ?_, ?_, ?_⟩
        · simp [Builtin.append_, run_underlying hu, run_underlying ha, sizeOf, typeInfo, zeroValue, hi, hz0, asInt, asIntOf, hwr, hneg, hbig, hroom, h0, hz1, Addr.add_lit, zeroCells_one z hzc]
          rw [show (storeCells ⟨g, n, none⟩ (List.replicate m z)).run Tryd.prog w = .ok () (w.setRow g (List.take n cur.toList ++ (List.replicate m z ++ List.drop (n + m) cur.toList)).toArray) by simpa using hst]
          rfl
        · refine ⟨hlen, .inr ⟨g, cap, _, rfl, hbg, setRow_heap w g cur _ et _ hg, hroom, hcm, ?_, ?_⟩⟩
          · simp only [List.size_toArray, List.length_append, List.length_take, List.length_drop, Array.length_toList, hrl]
            omega
          · rw [Nat.mul_one] at htake
            rw [htake, ← hlen]
            exact List.take_left
        · exact ⟨rfl, rfl, rfl, by simp, fun k _ hk => Go.setRow_other w g k _ (fun e => hk (by simp [Value.ownBlock, e]))⟩
      · have holds : ∀ j u, xs[j]? = some u → w.cell? ((⟨g, 0, none⟩ : Addr).add j) = some u := hown.cells (g := g) rfl
        have hfo := run_firstCells_some (P := Tryd.prog) w.drew 1 n ⟨g, 0, none⟩ n cap xs (by rw [hxl, Nat.mul_one]) (by simpa using holds)
        have hfit := growslice_fits (need := n + m) (old := cap) (bytes := i0.bytes) (by omega) (by rw [hz2]; omega)
        have h48 : ¬ (281474976710656 < Builtin.nextslicecap (n + m) cap * i0.bytes) := by omega
        have h63 : ¬ (9223372036854775807 < (n : Int) + (m : Int)) := by omega
        have hgr := grown cap (Value.ownBlock (.slice (some ⟨g, 0, none⟩) n cap))
        refine ⟨_, _, ?_, hgr.1, hgr.2⟩
        simp [Builtin.append_, run_underlying hu, run_underlying ha, sizeOf, typeInfo, zeroValue, hi, hz0, asInt, asIntOf, hwr, hneg, hbig, hroom, h0, h48, h63, hz1, Question.forced, hfo, newRow, grownCap, zeroCells_one z hzc]
set_option maxRecDepth 5000 in
theorem wpList_append_makeG {w : World} {ops : Array Oper} {rest : List Oper} {o : Oper} {a : Act} {Q : Exit → Act → World → Prop} (hgd : o.guard = none) (s x : Operand) (st et aty : TypeId) (kd : IntKind) (z : Value) (bb : Nat)
    (ho : o.op = .call { callee := .builtin .append, args := #[s, x], argTypes := #[st, aty] }) (hu : Tryd.prog.underlying st = some (.slice et)) (ha : Tryd.prog.underlying aty = some (.int kd)) (hie : (Tryd.prog.info? et).map (fun i => (i.zero, i.size, i.bytes)) = some (some z, 1, bb)) (hbb : bb ≤ 24)
    (hzc : z.cells = #[z]) (hz1c : z.oneCell' = true) (base : Nat) (v : Value) (n : Nat) (xs : List Value) (hs : a.eval s = v) (hown : w.ownsRow base et 1 v n xs) (m : Nat) (hx : a.eval x = .int kd (m : Int)) (hm : m ≤ 8589934592) (hbound : n + m ≤ 1099511627776) (hbase : base ≤ w.heap.size)
    (h : ∀ v' w', w'.ownsRow base et 1 v' (n + m) (xs ++ List.replicate m z) → w.grownBy w' v.ownBlock → wpList Tryd.prog ops Q rest (a.put o.dst v') w') : wpList Tryd.prog ops Q (o :: rest) a w :=
  wpList_plain hgd fun _ hK => by
    obtain ⟨v', w', hr, h1, h2⟩ := run_append_makeG st et aty o.type kd z bb hu ha hie hbb hzc hz1c base v n xs hown m hm hbound hbase
    unfold Oper.wp execOp
    simp only [ho, resolve, invoke, builtin, Sem.run_bind, Sem.run_pure, Result.andThen_ok, List.map_toArray, List.map_cons, List.map_nil, hs, hx, hr]
    exact hK _ _ (h v' w' h1 h2)
set_option maxRecDepth 5000 in
theorem vb_rep (n : Nat) : vb (List.replicate n 0) = List.replicate n (Value.int .u8 0) := by simp [vb]
set_option maxRecDepth 5000 in
theorem wpList_append_zeros {w : World} {ops : Array Oper} {rest : List Oper} {o : Oper} {a : Act} {Q : Exit → Act → World → Prop} (hgd : o.guard = none) (s x : Operand)
    (ho : o.op = .call { callee := .builtin .append, args := #[s, x], argTypes := #[22, 3] }) (base : Nat) (v : Value) (l : List UInt8) (hs : a.eval s = v) (hown : OwnB w base v l)
    (m : Nat) (hx : a.eval x = .int .i64 (m : Int)) (hm : m ≤ 1000000) (hbound : l.length + m ≤ 1099511627776) (hbase : base ≤ w.heap.size)
    (h : ∀ v' w', OwnB w' base v' (l ++ List.replicate m 0) → Below base w w' → wpList Tryd.prog ops Q rest (a.put o.dst v') w') : wpList Tryd.prog ops Q (o :: rest) a w :=
  wpList_append_makeG hgd s x 22 5 3 .i64 (.int .u8 0) 1 ho Tryd.underlying22 Tryd.underlying3 infoB (by omega) rfl rfl base v l.length (vb l) hs hown m hx (by omega) hbound hbase fun v' w' hO hG =>
    h v' w' (by unfold OwnB; rw [vb_app, vb_rep, List.length_append, List.length_replicate]; exact hO) (grown_below hown hG (Below.refl _ _) hbase)
end Go.Proofs.YtidocfajhhpfdaaDoor
