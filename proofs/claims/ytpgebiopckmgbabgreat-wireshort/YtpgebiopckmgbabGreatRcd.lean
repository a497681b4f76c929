/- (*wire.reader).record, where all is there: data of an OPT or of another class; of type 1 and of a type without a form. -/
import Derived.Test.YtpgebiopckmgbabGreatRcq
import Derived.Deep.WholeRow
namespace Go.Proofs.YtpgebiopckmgbabGreat
open Go.RowKit
set_option maxRecDepth 5000 in
theorem setRow_same {w : World} {g : Nat} {t : TypeId} {c : Array Value} (h : RowAt w g t c) (c' : Array Value) : RowAt (w.setRow g c') g t c' := by
  unfold RowAt at *
  simp only [World.setRow, Array.getElem?_modify]
  rw [if_pos trivial, h]; rfl
set_option maxRecDepth 5000 in
theorem mv_setRow (g : Nat) (w : World) (cs : Array Value) : Mv g w (w.setRow g cs) :=
  ⟨rfl, rfl, rfl, by simp, fun k _ hn => by simp only [World.setRow, Array.getElem?_modify]; rw [if_neg (fun e => hn (by rw [e]))]⟩
set_option maxRecDepth 5000 in
theorem wpList_store_rowR {P : Program} {ops : Array Oper} {rest : List Oper} {o : Oper} {a : Act} {w : World} {Q : Exit → Act → World → Prop} (hgd : o.guard = none) (ty : TypeId) (x y : Operand) (ho : o.op = .store ty x y)
    (g : Nat) (cells : Array Value) (hx : a.eval x = .pointer (some ⟨g, 0, none⟩)) (hy : a.eval y = .agg cells) (t : TypeId) (old : Array Value) (hg : RowAt w g t old)
    (hi : (P.info? ty).map (·.size) = some cells.size) (ho2 : old.size = cells.size) (h1 : cells.all (·.oneCell') = true)
    (h : wpList P ops Q rest (a.put o.dst undef) (w.setRow g cells)) : wpList P ops Q (o :: rest) a w :=
  wpList_plain hgd fun _ hK => by
    unfold Oper.wp execOp
    simp only [ho, hx, hy, Instr.storeAt, Instr.sureAddr, Sem.run_bind, Sem.run_pure, Result.andThen_ok, run_storeVar_row w g t ty old cells hg hi ho2 h1]
    exact hK _ _ h
set_option maxRecDepth 5000 in
theorem infoRs : (Tryz.prog.info? 39).map (·.size) = some 5 := by kernel_rfl
def rec5 (na : Option Addr) (nn nc t cl ttl : Nat) (da : Option Addr) (dn dc : Nat) : Array Value := #[.slice na nn nc, .int .u16 (t : Int), .int .u16 (cl : Int), .int .u32 (ttl : Int), .slice da dn dc]
set_option maxRecDepth 5000 in
theorem rec5_one (na : Option Addr) (nn nc t cl ttl : Nat) (da : Option Addr) (dn dc : Nat) : (rec5 na nn nc t cl ttl da dn dc).all (·.oneCell') = true := by kernel_rfl
/- the record that a reading makes, at block X, the reader behind what was read -/
structure RK (B T : Nat) (ao : Option Addr) (c : Nat) (b : List UInt8) (X : Nat) (w0 : World) (p : Nat) (na : Option Addr) (nn nc t cl ttl : Nat) (da : Option Addr) (dn dc : Nat) (wr : World) : Prop where
  rd : RdW B T ao c b p wr
  row : RowAt wr X 39 (rec5 na nn nc t cl ttl da dn dc)
  mv : Mv T w0 wr
set_option maxRecDepth 5000 in
theorem RK.call {B T : Nat} {ao : Option Addr} {c : Nat} {b : List UInt8} {X : Nat} {w0 : World} {p : Nat} {na : Option Addr} {nn nc t cl ttl : Nat} {da : Option Addr} {dn dc : Nat} {wr w' : World} (h : RK B T ao c b X w0 p na nn nc t cl ttl da dn dc wr) (hX : X ≠ T) {q : Nat} (hr : RdW B T ao c b q w') (hm : Mv T wr w') : RK B T ao c b X w0 q na nn nc t cl ttl da dn dc w' :=
  ⟨hr, row_mv h.row hX hm, h.mv.trans hm⟩
set_option maxRecDepth 5000 in
theorem RK.upd {B T : Nat} {ao : Option Addr} {c : Nat} {b : List UInt8} {X : Nat} {w0 : World} {p : Nat} {na : Option Addr} {nn nc t cl ttl : Nat} {da : Option Addr} {dn dc : Nat} {wr : World} (h : RK B T ao c b X w0 p na nn nc t cl ttl da dn dc wr) (hX : T ≠ X) (hB : B ≤ X) (hw : w0.heap.size ≤ X) (j : Nat) (v : Value) {na' : Option Addr} {nn' nc' t' cl' ttl' : Nat} {da' : Option Addr} {dn' dc' : Nat} (he : (rec5 na nn nc t cl ttl da dn dc).setIfInBounds j v = rec5 na' nn' nc' t' cl' ttl' da' dn' dc') : RK B T ao c b X w0 p na' nn' nc' t' cl' ttl' da' dn' dc' (wr.setCell ⟨X, j, none⟩ v) :=
  ⟨h.rd.mv hX hB (Mv.set X j wr v), by rw [← he]; exact h.row.set j v, h.mv.part (Mv.set X j wr v) (Or.inr hw)⟩
set_option maxRecDepth 5000 in
theorem RK.cells {B T : Nat} {ao : Option Addr} {c : Nat} {b : List UInt8} {X : Nat} {w0 : World} {p : Nat} {na : Option Addr} {nn nc t cl ttl : Nat} {da : Option Addr} {dn dc : Nat} {wr : World} (h : RK B T ao c b X w0 p na nn nc t cl ttl da dn dc wr) : wr.cell? ⟨X, 0, none⟩ = some (.slice na nn nc) ∧ wr.cell? ⟨X, 1, none⟩ = some (.int .u16 (t : Int)) ∧ wr.cell? ⟨X, 2, none⟩ = some (.int .u16 (cl : Int)) ∧ wr.cell? ⟨X, 3, none⟩ = some (.int .u32 (ttl : Int)) ∧ wr.cell? ⟨X, 4, none⟩ = some (.slice da dn dc) ∧ ∀ j, wr.frozen? ⟨X, j, none⟩ = false :=
  ⟨h.row.cell 0, h.row.cell 1, h.row.cell 2, h.row.cell 3, h.row.cell 4, fun j => h.row.frozen j⟩
/- what the reader's place is -/
set_option maxRecDepth 5000 in
theorem RdW.at1 {B T : Nat} {ao : Option Addr} {c : Nat} {b : List UInt8} {p : Nat} {w : World} (h : RdW B T ao c b p w) : w.cell? ⟨T, 1, none⟩ = some (.int .i64 (p : Int)) := h.1.cell 1
set_option maxHeartbeats 800000 in
set_option maxRecDepth 5000 in
theorem wholeData_ok (B T : Nat) (ao : Option Addr) (c : Nat) (b : List UInt8) (p t k : Nat) (w : World) (hR : RdW B T ao c b p w) (h : p + k ≤ b.length) (hk : k ≤ 1000000) (ht : t = 1 ∨ t = 99) :
    Calls Tryz.prog 59 #[.pointer (some ⟨T, 0, none⟩), .int .u16 (t : Int), .int .i64 (k : Int)] w fun e w' => ∃ v, e = .returned v ∧ OwnB w' w.heap.size v ((b.drop p).take k) ∧ RdW B T ao c b (p + k) w' ∧ Mv T w w' := by
  have b2 : ((t : Int) == 2) = false := beq_eq_false_iff_ne.2 (by omega)
  have b5 : ((t : Int) == 5) = false := beq_eq_false_iff_ne.2 (by omega)
  have b15 : ((t : Int) == 15) = false := beq_eq_false_iff_ne.2 (by omega)
  have b6 : ((t : Int) == 6) = false := beq_eq_false_iff_ne.2 (by omega)
  clear ht
  go_enter Tryz.func59, Tryz.ntmps59
  go_wp2_with fail
  refine (wbytes_ok B T ao c b p k _ hR h hk).mono ?_
  rintro e w1 ⟨v, rfl, hO, hr, hm⟩
  go_wp2
  go_ret
  exact ⟨v, rfl, hO, hr, hm⟩
set_option maxRecDepth 5000 in
theorem check_ok (t : Nat) (l : List UInt8) (ao : Option Addr) (len cap : Nat) (w : World) (hl : Hid (l.length = len)) (hs : SlL w ao l) (hc : len ≤ cap) (hnil : ao = none → cap = 0) (ht : (t = 1 ∧ len = 4) ∨ (t = 99 ∧ len ≤ 8192)) :
    Calls Tryz.prog 60 #[.int .u16 (t : Int), .slice ao len cap] w fun e w' => e = .returned (.int .i64 0) ∧ Below w.heap.size w w' := by
  refine (dCheck_any t l ao len cap w hl hs hc hnil (by omega)).mono ?_
  rintro e w' ⟨rfl, hb⟩
  refine ⟨?_, hb⟩
  have hf : (D.full l (D.cq t l)).isSome = true := by
    have hln := hl.out
    rcases ht with ⟨rfl, h4⟩ | ⟨rfl, h8⟩
    · have : D.full l (D.cq 1 l) = some (l.take 4) := by
        refine D.full_some (by omega) ?_
        show D.by_ 4 l = _
        unfold D.by_
        rw [if_neg (by omega), List.drop_of_length_le (by omega)]
      rw [this]; rfl
    · have : D.full l (D.cq 99 l) = some l := D.full_some (by omega) rfl
      rw [this]; rfl
  unfold codeOf
  rw [if_pos hf]
set_option maxRecDepth 3000 in
set_option maxHeartbeats 1600000 in
theorem record_ok (B T : Nat) (ao : Option Addr) (c : Nat) (b : List UInt8) (p : Nat) (w : World) (hR : RdW B T ao c b p w) (nm : List (List UInt8)) (q t cl ttl ln : Nat) (hn : Hid (M.wn b p p [] = some (nm, q))) (h1 : Hid (M.v16 b q = t)) (h2 : Hid (M.v16 b (q + 2) = cl)) (h3 : Hid (M.v32 b (q + 4) = ttl)) (h4 : Hid (M.v16 b (q + 8) = ln)) (hl : q + 10 + ln ≤ b.length)
    (hc : ((cl ≠ 1 ∨ t = 41)) ∨ (cl = 1 ∧ ((t = 1 ∧ ln = 4) ∨ (t = 99 ∧ ln ≤ 8192)))) :
    Calls Tryz.prog 50 #[.pointer (some ⟨T, 0, none⟩)] w fun e w' => ∃ na nc da dc, e = .returned (.agg (rec5 na nm.length nc t cl ttl da ln dc)) ∧ RdW B T ao c b (q + 10 + ln) w' ∧ Mv T w w' := by
  have hlt := hR.lt
  have hB := hR.2.2.2.2.2.2.2
  have h65 := hR.2.2.2.2.2.1
  have hTX : T ≠ w.heap.size := by omega
  have hXT : w.heap.size ≠ T := by omega
  have hln := M.v16_lt b (q + 8)
  rw [h4.out] at hln
  have hq0 : p ≤ b.length := hR.2.2.2.2.2.2.1
  have K0 : Hid (RK B T ao c b w.heap.size w p none 0 0 0 0 0 none 0 0 (w.alloc (.cells #[.slice none 0 0, .int .u16 0, .int .u16 0, .int .u32 0, .slice none 0 0] 39))) := ⟨hR.below ((Below.refl _ w).alloc (Nat.le_refl _) _), RowAt.new w 39 _, Mv.of ((Below.refl _ w).alloc (Nat.le_refl _) _)⟩
  clear hR
  go_enter Tryz.func50, Tryz.ntmps50
  go_wp2_with fail
  refine (wnm_any B T ao c b p _ (by exact K0.out.rd)).mono ?_
  rintro e w1 ⟨⟨nm', q', v, ho, rfl, hO, hr⟩ | ⟨ho, rfl⟩, hm⟩
  rotate_left
  · rw [hn.out] at ho; cases ho
  rw [hn.out] at ho
  cases ho
  obtain ⟨a1, c1, rfl, _⟩ := hO.open
  have k1 := K0.out.call hXT hr hm
  have f0 := k1.row.frozen 0
  have y0 := k1.cells.1
  have K1 := hide (k1.upd hTX hB (Nat.le_refl _) 0 (.slice a1 nm.length c1) (na' := a1) (nn' := nm.length) (nc' := c1) rfl)
  clear k1 hr hm hO K0
  go_wp2_with fail
  generalize (w1.setCell ⟨w.heap.size, 0, none⟩ (.slice a1 nm.length c1)) = w1' at K1 ⊢
  clear f0 y0
  refine (n16_ok B T ao c b q _ (by exact K1.out.rd) (by omega)).mono ?_
  rintro e w2 ⟨rfl, hr, hm⟩
  rw [show M.by_ b q * 256 + M.by_ b (q + 1) = t from h1.out]
  have k2 := K1.out.call hXT hr hm
  have f1 := k2.row.frozen 1
  have y1 := k2.cells.2.1
  have K2 := hide (k2.upd hTX hB (Nat.le_refl _) 1 (.int .u16 (t : Int)) (t' := t) rfl)
  clear k2 hr hm K1
  go_wp2_with fail
  generalize (w2.setCell ⟨w.heap.size, 1, none⟩ (.int .u16 (t : Int))) = w2' at K2 ⊢
  clear f1 y1
  refine (n16_ok B T ao c b (q + 2) _ (by exact K2.out.rd) (by omega)).mono ?_
  rintro e w3 ⟨rfl, hr, hm⟩
  rw [show M.by_ b (q + 2) * 256 + M.by_ b (q + 2 + 1) = cl from h2.out]
  have k3 := K2.out.call hXT hr hm
  have f2 := k3.row.frozen 2
  have y2 := k3.cells.2.2.1
  have K3 := hide (k3.upd hTX hB (Nat.le_refl _) 2 (.int .u16 (cl : Int)) (cl' := cl) rfl)
  clear k3 hr hm K2
  go_wp2_with fail
  generalize (w3.setCell ⟨w.heap.size, 2, none⟩ (.int .u16 (cl : Int))) = w3' at K3 ⊢
  clear f2 y2
  refine (n32_ok B T ao c b (q + 2 + 2) _ (by exact K3.out.rd) (by omega)).mono ?_
  rintro e w4 ⟨rfl, hr, hm⟩
  rw [show M.v32 b (q + 2 + 2) = ttl from h3.out]
  have k4 := K3.out.call hXT hr hm
  have f3 := k4.row.frozen 3
  have y3 := k4.cells.2.2.2.1
  have K4 := hide (k4.upd hTX hB (Nat.le_refl _) 3 (.int .u32 (ttl : Int)) (ttl' := ttl) rfl)
  clear k4 hr hm K3
  go_wp2_with fail
  generalize (w4.setCell ⟨w.heap.size, 3, none⟩ (.int .u32 (ttl : Int))) = w4' at K4 ⊢
  clear f3 y3
  refine (n16_ok B T ao c b (q + 2 + 2 + 4) _ (by exact K4.out.rd) (by omega)).mono ?_
  rintro e w5 ⟨rfl, hr, hm⟩
  rw [show M.by_ b (q + 2 + 2 + 4) * 256 + M.by_ b (q + 2 + 2 + 4 + 1) = ln from h4.out]
  have k5 := K4.out.call hXT hr hm
  have K5 := hide k5
  obtain ⟨_, y1, y2, _, _, _⟩ := k5.cells
  clear k5 hr hm K4
  have hcv : IntKind.i64.wrap (ln : Int) = (ln : Int) := by rw [IntKind.wrap_i64]; omega
  rcases hc with hc | ⟨rfl, hc⟩
  · have hcond : ((cl : Int) != 1) = true ∨ (((cl : Int) != 1) = false ∧ ((t : Int) == 41) = true) := by
      by_cases e : cl = 1
      · exact Or.inr ⟨by simp [e], by simp; omega⟩
      · exact Or.inl (by simp; omega)
    clear hc
    have HDL : Hid (((b.drop (q + 2 + 2 + 4 + 2)).take ln).length = ln) := by show _ = _; rw [List.length_take, List.length_drop]; omega
    rcases hcond with g1 | ⟨g1, g2⟩
    · go_wp2_with fail
      refine (wbytes_ok B T ao c b (q + 2 + 2 + 4 + 2) ln _ (by exact K5.out.rd) (by omega) (by omega)).mono ?_
      rintro e w6 ⟨v6, rfl, hO6, hr, hm⟩
      obtain ⟨a6, c6, rfl, _⟩ := hO6.open
      rw [HDL.out]
      have k6 := K5.out.call hXT hr hm
      have f4 := k6.row.frozen 4
      have y4 := k6.cells.2.2.2.2.1
      have K6 := hide (k6.upd hTX hB (Nat.le_refl _) 4 (.slice a6 ln c6) (da' := a6) (dn' := ln) (dc' := c6) rfl)
      clear k6 hr hm hO6 K5
      go_wp2_with (first
        | (refine wpList_load_row rfl 39 (.tmp 2) rfl w.heap.size rfl 39 _ (0, 0) _ (by exact K6.out.row) Tryz.underlying39 rfl (by exact infoRs) ?_)
        | (refine wpList_store_rowR rfl 39 (.tmp 2) (.tmp 32) rfl w.heap.size (rec5 a1 nm.length c1 t cl ttl a6 ln c6) rfl rfl 39 _ (by exact K6.out.row) (by exact infoRs) rfl (rec5_one _ _ _ _ _ _ _ _ _) ?_))
      have hr9 := K6.out.rd.mv hTX hB (mv_setRow w.heap.size _ (rec5 a1 nm.length c1 t cl ttl a6 ln c6))
      have hm9 := K6.out.mv.part (mv_setRow w.heap.size _ (rec5 a1 nm.length c1 t cl ttl a6 ln c6)) (Or.inr (Nat.le_refl _))
      exact bodyPost_ret (v := .agg (rec5 a1 nm.length c1 t cl ttl a6 ln c6)) (results_cell_row Tryz.results50 _ _ w.heap.size 39 _ (0, 0) _ rfl (setRow_same K6.out.row _) Tryz.underlying39 rfl (by exact infoRs)) rfl ⟨a1, c1, a6, c6, rfl, hr9, hm9⟩
    · go_wp2_with fail
      refine (wbytes_ok B T ao c b (q + 2 + 2 + 4 + 2) ln _ (by exact K5.out.rd) (by omega) (by omega)).mono ?_
      rintro e w6 ⟨v6, rfl, hO6, hr, hm⟩
      obtain ⟨a6, c6, rfl, _⟩ := hO6.open
      rw [HDL.out]
      have k6 := K5.out.call hXT hr hm
      have f4 := k6.row.frozen 4
      have y4 := k6.cells.2.2.2.2.1
      have K6 := hide (k6.upd hTX hB (Nat.le_refl _) 4 (.slice a6 ln c6) (da' := a6) (dn' := ln) (dc' := c6) rfl)
      clear k6 hr hm hO6 K5
      go_wp2_with (first
        | (refine wpList_load_row rfl 39 (.tmp 2) rfl w.heap.size rfl 39 _ (0, 0) _ (by exact K6.out.row) Tryz.underlying39 rfl (by exact infoRs) ?_)
        | (refine wpList_store_rowR rfl 39 (.tmp 2) (.tmp 32) rfl w.heap.size (rec5 a1 nm.length c1 t cl ttl a6 ln c6) rfl rfl 39 _ (by exact K6.out.row) (by exact infoRs) rfl (rec5_one _ _ _ _ _ _ _ _ _) ?_))
      have hr9 := K6.out.rd.mv hTX hB (mv_setRow w.heap.size _ (rec5 a1 nm.length c1 t cl ttl a6 ln c6))
      have hm9 := K6.out.mv.part (mv_setRow w.heap.size _ (rec5 a1 nm.length c1 t cl ttl a6 ln c6)) (Or.inr (Nat.le_refl _))
      exact bodyPost_ret (v := .agg (rec5 a1 nm.length c1 t cl ttl a6 ln c6)) (results_cell_row Tryz.results50 _ _ w.heap.size 39 _ (0, 0) _ rfl (setRow_same K6.out.row _) Tryz.underlying39 rfl (by exact infoRs)) rfl ⟨a1, c1, a6, c6, rfl, hr9, hm9⟩
  · have g1 : (((1 : Nat) : Int) != 1) = false := by decide
    have g2 : ((t : Int) == 41) = false := by simp; omega
    have HDL : Hid (((b.drop (q + 2 + 2 + 4 + 2)).take ln).length = ln) := by show _ = _; rw [List.length_take, List.length_drop]; omega
    obtain ⟨EN, en1, en2⟩ : ∃ EN : Nat, EN ≤ q + 2 + 2 + 4 + 2 + ln ∧ q + 2 + 2 + 4 + 2 + ln ≤ EN := ⟨_, Nat.le_refl _, Nat.le_refl _⟩
    have hend : IntKind.i64.wrap (((q + 2 + 2 + 4 + 2 : Nat) : Int) + (ln : Int)) = (EN : Int) := by rw [IntKind.wrap_i64]; omega
    have hat := K5.out.rd.at1
    obtain ⟨PQ, HPQ⟩ : ∃ PQ, Hid (q + 2 + 2 + 4 + 2 = PQ) := ⟨_, hide rfl⟩
    have hpq : PQ ≤ q + 10 ∧ q + 10 ≤ PQ := by have := HPQ.out; omega
    rw [HPQ.out] at hend hat HDL K5
    obtain ⟨hpq1, hpq2⟩ := hpq
    go_wp2_with fail
    refine (wholeData_ok B T ao c b PQ t ln _ (by exact K5.out.rd) (by omega) (by omega) (by omega)).mono ?_
    rintro e w6 ⟨v6, rfl, hO6, hr, hm⟩
    obtain ⟨a6, c6, rfl, hs6, hn6, hc6, _⟩ := hO6.open
    rw [HDL.out]
    rw [HDL.out] at hc6
    have k6 := K5.out.call hXT hr hm
    have f4 := k6.row.frozen 4
    have y4 := k6.cells.2.2.2.2.1
    have K6 := hide (k6.upd hTX hB (Nat.le_refl _) 4 (.slice a6 ln c6) (da' := a6) (dn' := ln) (dc' := c6) rfl)
    have hO6' : OwnB w6 w5.heap.size (.slice a6 ln c6) ((b.drop PQ).take ln) := by have h := hO6; rw [HDL.out] at h; exact h
    have hS6 : SlL (w6.setCell ⟨w.heap.size, 4, none⟩ (.slice a6 ln c6)) a6 ((b.drop PQ).take ln) := by
      have ho := own_set (show World.ownsRow _ _ _ _ _ _ _ from hO6') k6.row (by decide) 4 (.slice a6 ln c6)
      have ho2 : OwnB (w6.setCell ⟨w.heap.size, 4, none⟩ (.slice a6 ln c6)) w5.heap.size (.slice a6 ((b.drop PQ).take ln).length c6) ((b.drop PQ).take ln) := by rw [HDL.out]; exact ho
      obtain ⟨a', c', e', hs', _⟩ := ho2.open
      cases e'
      exact hs'
    have HS6 := hide hS6
    have HN6 := hide hn6
    have z1 := K6.out.cells.2.1
    have z4 := K6.out.cells.2.2.2.2.1
    have zat := K6.out.rd.at1
    rw [show PQ + ln = EN by omega] at zat
    have g3 : ((EN : Int) != (EN : Int)) = false := by simp
    clear k6 hr hm hO6 hO6' hS6 K5 hs6 hn6
    go_wp2_with fail
    refine (check_ok t ((b.drop PQ).take ln) a6 ln c6 _ HDL (by exact HS6.out) hc6 HN6.out hc).mono ?_
    rintro e w7 ⟨rfl, hb7⟩
    have K7 : Hid (RK B T ao c b w.heap.size w (PQ + ln) a1 nm.length c1 t 1 ttl a6 ln c6 w7) := ⟨K6.out.rd.below hb7, K6.out.row.below hb7 K6.out.row.lt, K6.out.mv.trans (Mv.of hb7)⟩
    clear hb7 K6
    go_wp2_with (first
      | (refine wpList_load_row rfl 39 (.tmp 2) rfl w.heap.size rfl 39 _ (0, 0) _ (by exact K7.out.row) Tryz.underlying39 rfl (by exact infoRs) ?_)
      | (refine wpList_store_rowR rfl 39 (.tmp 2) (.tmp 60) rfl w.heap.size (rec5 a1 nm.length c1 t 1 ttl a6 ln c6) rfl rfl 39 _ (by exact K7.out.row) (by exact infoRs) rfl (rec5_one _ _ _ _ _ _ _ _ _) ?_))
    have hr9 := K7.out.rd.mv hTX hB (mv_setRow w.heap.size _ (rec5 a1 nm.length c1 t 1 ttl a6 ln c6))
    have hm9 := K7.out.mv.part (mv_setRow w.heap.size _ (rec5 a1 nm.length c1 t 1 ttl a6 ln c6)) (Or.inr (Nat.le_refl _))
    exact bodyPost_ret (v := .agg (rec5 a1 nm.length c1 t 1 ttl a6 ln c6)) (results_cell_row Tryz.results50 _ _ w.heap.size 39 _ (0, 0) _ rfl (setRow_same K7.out.row _) Tryz.underlying39 rfl (by exact infoRs)) rfl ⟨a1, c1, a6, c6, rfl, by rw [show q + 10 + ln = PQ + ln by omega]; exact hr9, hm9⟩
end Go.Proofs.YtpgebiopckmgbabGreat
