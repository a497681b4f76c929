/- (*wire.reader).message, of a message without records. -/
import Derived.Test.YtpgebiopckmgbabGreatQsl
import Derived.Deep.RegionHeld3
import Derived.RegionDies
namespace Go.Proofs.YtpgebiopckmgbabGreat
open Go.RowKit
namespace M
def num (b : List UInt8) (p : Nat) : Nat := by_ b p * 256 + by_ b (p + 1)
set_option maxRecDepth 5000 in
theorem n16_inv {b : List UInt8} {p x q : Nat} (h : n16 b p = some (x, q)) : x = num b p ∧ q = p + 2 ∧ p + 2 ≤ b.length := by
  unfold n16 at h
  split at h
  · cases h
  · cases h; exact ⟨rfl, rfl, by omega⟩
set_option maxRecDepth 5000 in
theorem n16_no {b : List UInt8} {p : Nat} (h : n16 b p = none) : b.length < p + 2 := by
  unfold n16 at h
  split at h
  · assumption
  · cases h
set_option maxRecDepth 5000 in
theorem num_lt (b : List UInt8) (p : Nat) : num b p < 65536 := by
  have h1 : by_ b p < 256 := (b.getD p 0).toNat_lt
  have h2 : by_ b (p + 1) < 256 := (b.getD (p + 1) 0).toNat_lt
  unfold num; omega
/- a message of questions alone -/
def msgq (b : List UInt8) : Option (Nat × Nat × List Q) :=
  if b.length < 12 then none else (qs b (num b 4) 12).bind fun r => if r.2 = b.length then some (num b 0, num b 2, r.1) else none
end M
def mcells (i f : Nat) (v : Value) : Array Value := #[.int .u16 (i : Int), .bool (M.g1 f), .int .i64 (M.g2 f), .bool (M.g3 f), .bool (M.g4 f), .bool (M.g5 f), .bool (M.g6 f), .int .i64 (M.g7 f), v, .slice none 0 0, .slice none 0 0, .slice none 0 0, .bool false, .int .u16 0, .bool false]
set_option maxRecDepth 5000 in
theorem step_fell {ops : Array Oper} {o : Oper} {a : Act} {w : World} {K : Act → World → Prop} {Q : Exit → Act → World → Prop} {E : Prop} (f : FuncId) (args : Array Operand) (tys : Array TypeId) (_ho : o.op = .call { callee := .value (.func f), args := args, argTypes := tys }) (hgd : o.guard = none) (vals : Array Value)
    (hx : (execOp a.eval o).run Tryz.prog w = .ok (.enter f vals) w) {R : Ending → World → Prop} (hc : Calls Tryz.prog f vals w R) (hr : ∀ e w', R e w' → e = fell60 ∧ Q (.panic [{ v := .iface 34 (.int .i64 60), recovered := false }]) a w') :
    if Region.wanted o (yielded ops a.tmps) = true then Oper.wp Tryz.prog o a w K Q else E := by
  have hw : Region.wanted o (yielded ops a.tmps) = true := by simp [Region.wanted, hgd]
  rw [if_pos hw]
  unfold Oper.wp
  rw [hx, Oper.upon_enter]
  refine hc.mono fun e w' he => ?_
  obtain ⟨rfl, h⟩ := hr e w' he
  exact h
set_option maxRecDepth 5000 in
theorem step_fn {ops : Array Oper} {o : Oper} {a : Act} {w : World} {K : Act → World → Prop} {Q : Exit → Act → World → Prop} {E : Prop} (f : FuncId) (args : Array Operand) (tys : Array TypeId) (_ho : o.op = .call { callee := .value (.func f), args := args, argTypes := tys }) (hgd : o.guard = none) (vals : Array Value)
    (hx : (execOp a.eval o).run Tryz.prog w = .ok (.enter f vals) w) {R : Ending → World → Prop} (hc : Calls Tryz.prog f vals w R) (hr : ∀ e w', R e w' → ∃ v, e = .returned v)
    (h : ∀ v w', R (.returned v) w' → K (a.put o.dst v) w') : if Region.wanted o (yielded ops a.tmps) = true then Oper.wp Tryz.prog o a w K Q else E := step_call hgd f vals hx hc hr h
set_option maxRecDepth 5000 in
theorem qst_good {B T : Nat} {ao : Option Addr} {c : Nat} {b : List UInt8} {p : Nat} {w : World} (hR : RdW B T ao c b p w) {q : M.Q} {p' : Nat} (h : M.qn b p = some (q, p')) :
    Calls Tryz.prog 34 #[.pointer (some ⟨T, 0, none⟩)] w fun e w' => ∃ v, e = .returned v ∧ QV w.heap.size q v w' ∧ RdW B T ao c b p' w' ∧ Mv T w w' := by
  refine (qst_any B T ao c b p w hR).mono ?_
  rintro e w' ⟨⟨x, r, v, ho, rfl, hx, hr⟩ | ⟨ho, _⟩, hm⟩
  · rw [h] at ho; cases ho; exact ⟨v, rfl, hx, hr, hm⟩
  · rw [h] at ho; cases ho
set_option maxRecDepth 5000 in
theorem qst_bad {B T : Nat} {ao : Option Addr} {c : Nat} {b : List UInt8} {p : Nat} {w : World} (hR : RdW B T ao c b p w) (h : M.qn b p = none) :
    Calls Tryz.prog 34 #[.pointer (some ⟨T, 0, none⟩)] w fun e w' => e = fell60 ∧ Mv T w w' := by
  refine (qst_any B T ao c b p w hR).mono ?_
  rintro e w' ⟨⟨x, r, v, ho, rfl, hx, hr⟩ | ⟨_, rfl⟩, hm⟩
  · rw [h] at ho; cases ho
  · exact ⟨rfl, hm⟩
set_option maxRecDepth 5000 in
theorem mv_drew {T : Nat} {w w' : World} (h : Mv T w.drew w') : Mv T w w' := (Mv.of ((Below.refl _ w).drew)).trans h
set_option maxRecDepth 5000 in
theorem OwnQ.form {w : World} {base : Nat} {v : Value} {l : List (Option Addr × Nat × M.Q)} (h : OwnQ w base v l) : ∃ a c, v = .slice a l.length c := by
  rcases h.1.2 with ⟨rfl, h0⟩ | ⟨g, cap, cur, rfl, _⟩
  · exact ⟨none, 0, by rw [h0]⟩
  · exact ⟨_, _, rfl⟩
set_option maxRecDepth 5000 in
theorem RowAt.same {w : World} {g t : Nat} {c : Array Value} (h : RowAt w g t c) (j : Nat) {v : Value} (hv : c[j]? = some v) : RowAt (w.setCell ⟨g, j, none⟩ v) g t c := by
  have h1 := h.set j v
  have e : c.setIfInBounds j v = c := by
    apply Array.ext
    · simp
    · intro i h1 h2
      rw [Array.getElem_setIfInBounds]
      split
      · subst_vars; rw [Array.getElem?_eq_some_iff] at hv; obtain ⟨_, hv⟩ := hv; exact hv.symm
      · rfl
  rwa [e] at h1
set_option maxRecDepth 5000 in
theorem qc_new (w : World) (y : Option Addr × Nat × M.Q) : ∀ (j : Nat) u, (qc y)[j]? = some u → (w.alloc (.cells (qc y).toArray 28)).cell? ((⟨w.heap.size, 0, none⟩ : Addr).add j) = some u := by
  intro j u h
  have h1 := (RowAt.new w 28 (qc y).toArray).cell j
  rw [Addr.add_mid, Nat.zero_add, h1]
  simpa using h
set_option maxHeartbeats 6400000 in
set_option maxRecDepth 5000 in
theorem msg_any (B T : Nat) (ao : Option Addr) (c : Nat) (b : List UInt8) (w : World) (hR : RdW B T ao c b 0 w) (hz : 12 ≤ b.length → M.num b 6 = 0 ∧ M.num b 8 = 0 ∧ M.num b 10 = 0) :
    Calls Tryz.prog 22 #[.pointer (some ⟨T, 0, none⟩)] w fun e w' => ((∃ i f l v, M.msgq b = some (i, f, l.map (·.2.2)) ∧ e = .returned (.agg (mcells i f v)) ∧ OwnQ w' w.heap.size v l) ∨ (M.msgq b = none ∧ e = fell60)) ∧ Mv T w w' := by
  have hlt := hR.lt
  have hB := hR.2.2.2.2.2.2.2
  have HZ := hide hz
  have D0 : Hid (RdW B T ao c b 0 (w.alloc (.cells #[.int .u16 0, .bool false, .int .i64 0, .bool false, .bool false, .bool false, .bool false, .int .i64 0, .slice none 0 0, .slice none 0 0, .slice none 0 0, .slice none 0 0, .bool false, .int .u16 0, .bool false] 32))) := hR.below ((Below.refl _ w).alloc (Nat.le_refl _) _)
  have R0 : Hid (RowAt (w.alloc (.cells #[.int .u16 0, .bool false, .int .i64 0, .bool false, .bool false, .bool false, .bool false, .int .i64 0, .slice none 0 0, .slice none 0 0, .slice none 0 0, .slice none 0 0, .bool false, .int .u16 0, .bool false] 32)) w.heap.size 32 #[.int .u16 0, .bool false, .int .i64 0, .bool false, .bool false, .bool false, .bool false, .int .i64 0, .slice none 0 0, .slice none 0 0, .slice none 0 0, .slice none 0 0, .bool false, .int .u16 0, .bool false]) := RowAt.new w 32 _
  have M0 : Hid (Mv T w (w.alloc (.cells #[.int .u16 0, .bool false, .int .i64 0, .bool false, .bool false, .bool false, .bool false, .int .i64 0, .slice none 0 0, .slice none 0 0, .slice none 0 0, .slice none 0 0, .bool false, .int .u16 0, .bool false] 32))) := Mv.of ((Below.refl _ w).alloc (Nat.le_refl _) _)
  clear hR hz
  go_enter Tryz.func22, Tryz.ntmps22
  go_wp2_with fail
  refine (n16_any B T ao c b 0 _ (by exact D0.out)).mono ?_
  rintro e w1 ⟨⟨i, q, v, ho, rfl, rfl, hr⟩ | ⟨ho, rfl⟩, hm⟩
  rotate_left
  · have HN : Hid (M.msgq b = none) := if_pos (by have := M.n16_no ho; omega)
    have HM := hide (M0.out.trans hm)
    clear ho hm
    unfold fell60
    go_wp2
    exact ⟨rfl, Or.inr ⟨HN.out, rfl⟩, HM.out⟩
  obtain ⟨ei, rfl, li⟩ := M.n16_inv ho
  have r1 : RowAt w1 w.heap.size 32 #[.int .u16 0, .bool false, .int .i64 0, .bool false, .bool false, .bool false, .bool false, .int .i64 0, .slice none 0 0, .slice none 0 0, .slice none 0 0, .slice none 0 0, .bool false, .int .u16 0, .bool false] := row_mv R0.out (by omega) hm
  have y0 : w1.cell? ⟨w.heap.size, 0, none⟩ = some (.int .u16 0) := r1.cell 0
  have f0 := r1.frozen 0
  have D1 := hide (hr.mv (by omega) hB (Mv.set w.heap.size 0 w1 (.int .u16 (i : Int))))
  have R1 : Hid (RowAt (w1.setCell ⟨w.heap.size, 0, none⟩ (.int .u16 (i : Int))) w.heap.size 32 #[.int .u16 (i : Int), .bool false, .int .i64 0, .bool false, .bool false, .bool false, .bool false, .int .i64 0, .slice none 0 0, .slice none 0 0, .slice none 0 0, .slice none 0 0, .bool false, .int .u16 0, .bool false]) := hide (r1.set 0 _)
  have M1 := hide ((M0.out.trans hm).part (Mv.set w.heap.size 0 w1 (.int .u16 (i : Int))) (Or.inr (Nat.le_refl _)))
  have Ei := hide ei
  clear ho hm hr r1 D0 R0 M0 ei
  go_wp2_with fail
  refine (n16_any B T ao c b 2 _ (by exact D1.out)).mono ?_
  rintro e w2 ⟨⟨f, q, v, ho, rfl, rfl, hr⟩ | ⟨ho, rfl⟩, hm⟩
  rotate_left
  · have HN : Hid (M.msgq b = none) := if_pos (by have := M.n16_no ho; omega)
    have HM := hide (M1.out.trans hm)
    clear ho hm
    unfold fell60
    go_wp2
    exact ⟨rfl, Or.inr ⟨HN.out, rfl⟩, HM.out⟩
  obtain ⟨ef, rfl, lf⟩ := M.n16_inv ho
  have r2 : RowAt w2 w.heap.size 32 #[.int .u16 (i : Int), .bool false, .int .i64 0, .bool false, .bool false, .bool false, .bool false, .int .i64 0, .slice none 0 0, .slice none 0 0, .slice none 0 0, .slice none 0 0, .bool false, .int .u16 0, .bool false] := row_mv R1.out (by omega) hm
  have M2 := hide (M1.out.trans hm)
  have D2 := hide hr
  have R2 := hide r2
  have Ef := hide ef
  clear ho hm hr r2 D1 R1 M1 ef
  go_wp2_with fail
  refine (setFlags_any w.heap.size f (.int .u16 (i : Int)) (.bool false) (.int .i64 0) (.bool false) (.bool false) (.bool false) (.bool false) (.int .i64 0) (.slice none 0 0) (.slice none 0 0) (.slice none 0 0) (.slice none 0 0) (.bool false) (.int .u16 0) (.bool false) _ (by exact R2.out)).mono ?_
  rintro e u ⟨rfl, hrow, hmA⟩
  have D3 := hide (D2.out.mv (by omega) hB hmA)
  have R3 := hide hrow
  have M3 := hide (M2.out.part hmA (Or.inr (Nat.le_refl _)))
  clear hrow hmA D2 R2 M2
  go_wp2_with fail
  refine (n16_any B T ao c b 4 _ (by exact D3.out)).mono ?_
  rintro e w3 ⟨⟨k, q, v, ho, rfl, rfl, hr⟩ | ⟨ho, rfl⟩, hm⟩
  rotate_left
  · have HN : Hid (M.msgq b = none) := if_pos (by have := M.n16_no ho; omega)
    have HM := hide (M3.out.trans hm)
    clear ho hm
    unfold fell60
    go_wp2
    exact ⟨rfl, Or.inr ⟨HN.out, rfl⟩, HM.out⟩
  obtain ⟨ek, rfl, lk⟩ := M.n16_inv ho
  have r3 : RowAt w3 w.heap.size 32 #[.int .u16 (i : Int), .bool (M.g1 f), .int .i64 (M.g2 f), .bool (M.g3 f), .bool (M.g4 f), .bool (M.g5 f), .bool (M.g6 f), .int .i64 (M.g7 f), .slice none 0 0, .slice none 0 0, .slice none 0 0, .slice none 0 0, .bool false, .int .u16 0, .bool false] := row_mv R3.out (by omega) hm
  have M4 := hide (M3.out.trans hm)
  have D4 := hide hr
  have R4 := hide r3
  have Ek := hide ek
  clear ho hm hr r3 D3 R3 M3 ek
  go_wp2_with fail
  refine (n16_any B T ao c b 6 _ (by exact D4.out)).mono ?_
  rintro e w4 ⟨⟨n1, q, v, ho, rfl, rfl, hr⟩ | ⟨ho, rfl⟩, hm⟩
  rotate_left
  · have HN : Hid (M.msgq b = none) := if_pos (by have := M.n16_no ho; omega)
    have HM := hide (M4.out.trans hm)
    clear ho hm
    unfold fell60
    go_wp2
    exact ⟨rfl, Or.inr ⟨HN.out, rfl⟩, HM.out⟩
  obtain ⟨en1, rfl, ln1⟩ := M.n16_inv ho
  have r4 : RowAt w4 w.heap.size 32 #[.int .u16 (i : Int), .bool (M.g1 f), .int .i64 (M.g2 f), .bool (M.g3 f), .bool (M.g4 f), .bool (M.g5 f), .bool (M.g6 f), .int .i64 (M.g7 f), .slice none 0 0, .slice none 0 0, .slice none 0 0, .slice none 0 0, .bool false, .int .u16 0, .bool false] := row_mv R4.out (by omega) hm
  have M5 := hide (M4.out.trans hm)
  have D5 := hide hr
  have R5 := hide r4
  have En1 := hide en1
  clear ho hm hr r4 D4 R4 M4 en1
  go_wp2_with fail
  refine (n16_any B T ao c b 8 _ (by exact D5.out)).mono ?_
  rintro e w5 ⟨⟨n2, q, v, ho, rfl, rfl, hr⟩ | ⟨ho, rfl⟩, hm⟩
  rotate_left
  · have HN : Hid (M.msgq b = none) := if_pos (by have := M.n16_no ho; omega)
    have HM := hide (M5.out.trans hm)
    clear ho hm
    unfold fell60
    go_wp2
    exact ⟨rfl, Or.inr ⟨HN.out, rfl⟩, HM.out⟩
  obtain ⟨en2, rfl, ln2⟩ := M.n16_inv ho
  have r5 : RowAt w5 w.heap.size 32 #[.int .u16 (i : Int), .bool (M.g1 f), .int .i64 (M.g2 f), .bool (M.g3 f), .bool (M.g4 f), .bool (M.g5 f), .bool (M.g6 f), .int .i64 (M.g7 f), .slice none 0 0, .slice none 0 0, .slice none 0 0, .slice none 0 0, .bool false, .int .u16 0, .bool false] := row_mv R5.out (by omega) hm
  have M6 := hide (M5.out.trans hm)
  have D6 := hide hr
  have R6 := hide r5
  have En2 := hide en2
  clear ho hm hr r5 D5 R5 M5 en2
  go_wp2_with fail
  refine (n16_any B T ao c b 10 _ (by exact D6.out)).mono ?_
  rintro e w6 ⟨⟨n3, q, v, ho, rfl, rfl, hr⟩ | ⟨ho, rfl⟩, hm⟩
  rotate_left
  · have HN : Hid (M.msgq b = none) := if_pos (by have := M.n16_no ho; omega)
    have HM := hide (M6.out.trans hm)
    clear ho hm
    unfold fell60
    go_wp2
    exact ⟨rfl, Or.inr ⟨HN.out, rfl⟩, HM.out⟩
  obtain ⟨en3, rfl, ln3⟩ := M.n16_inv ho
  have r6 : RowAt w6 w.heap.size 32 #[.int .u16 (i : Int), .bool (M.g1 f), .int .i64 (M.g2 f), .bool (M.g3 f), .bool (M.g4 f), .bool (M.g5 f), .bool (M.g6 f), .int .i64 (M.g7 f), .slice none 0 0, .slice none 0 0, .slice none 0 0, .slice none 0 0, .bool false, .int .u16 0, .bool false] := row_mv R6.out (by omega) hm
  have M7 := hide (M6.out.trans hm)
  have D7 := hide hr
  have R7 := hide r6
  have En3 := hide en3
  clear ho hm hr r6 D6 R6 M6 en3
  have hn := HZ.out (by omega)
  obtain rfl : n1 = 0 := by rw [En1.out]; exact hn.1
  obtain rfl : n2 = 0 := by rw [En2.out]; exact hn.2.1
  obtain rfl : n3 = 0 := by rw [En3.out]; exact hn.2.2
  clear hn En1 En2 En3
  have hk6 : k < 65536 := by rw [Ek.out]; exact M.num_lt b 4
  go_wp2
  go_loopw [22] (fun ii wr => ∃ (j p' : Nat) (v : Value) (l : List (Option Addr × Nat × M.Q)), ii = .int .u16 (j : Int) ∧ j ≤ k ∧ RdW B T ao c b p' wr ∧ OwnQ wr w.heap.size v l ∧ l.length = j ∧ RowAt wr w.heap.size 32 #[.int .u16 (i : Int), .bool (M.g1 f), .int .i64 (M.g2 f), .bool (M.g3 f), .bool (M.g4 f), .bool (M.g5 f), .bool (M.g6 f), .int .i64 (M.g7 f), v, .slice none 0 0, .slice none 0 0, .slice none 0 0, .bool false, .int .u16 0, .bool false] ∧ Mv T w wr ∧ Hid (M.qs b k 12 = (M.qs b (k - j) p').map fun s => (l.map (·.2.2) ++ s.1, s.2))) (fun i _ => k - (intOf i).toNat)
  case atStart => exact ⟨0, 12, _, [], rfl, by omega, D7.out, OwnQ.nil _ _, rfl, R7.out, M7.out, by show _ = _; simp⟩
  case round =>
    obtain ⟨j, p', v, l, rfl, hj, hD, hO, hl, hrow, hM, HW⟩ := hrel
    have DD := hide hD
    have OO := hide hO
    have RR := hide hrow
    have MM := hide hM
    have HL := hide hl
    have zz : w.heap.size ≤ wr.heap.size := hM.size
    have y8 : wr.cell? ⟨w.heap.size, 8, none⟩ = some v := hrow.cell 8
    have f8 : wr.frozen? ⟨w.heap.size, 8, none⟩ = false := hrow.frozen 8
    clear hD hO hrow hM hl
    by_cases hjk : j < k
    · have q1 : (j : Int) < (k : Int) := by omega
      have HS : Hid (M.qs b (k - j) p' = (M.qn b p').bind fun r => (M.qs b (k - (j + 1)) r.2).map fun s => (r.1 :: s.1, s.2)) := by
        show _ = _
        rw [show k - j = (k - (j + 1)) + 1 by omega]; rfl
      cases hq : M.qn b p' with
      | none =>
        have HN : Hid (M.msgq b = none) := by
          show _ = _
          unfold M.msgq
          rw [if_neg (by omega), ← Ek.out, HW.out, HS.out, hq]; rfl
        have HQ := hide hq
        clear hq HS HW
        go_wp2
        go_region_dies
        all_goals
          refine (qst_bad (by exact DD.out) HQ.out).mono ?_
          rintro e w9 ⟨rfl, hm9⟩
          have HMM := hide (MM.out.trans (mv_drew hm9))
          clear hm9
          unfold fell60
          go_wp2
          exact ⟨rfl, Or.inr ⟨HN.out, rfl⟩, HMM.out⟩
      | some r =>
        obtain ⟨q, p2⟩ := r
        have HQ := hide hq
        have HW2 : Hid (M.qs b k 12 = (M.qs b (k - (j + 1)) p2).map fun s => (l.map (·.2.2) ++ q :: s.1, s.2)) := by
          show _ = _
          rw [HW.out, HS.out, hq]
          simp only [Option.bind_some, Option.map_map]
          rfl
        clear hq HS HW
        go_wp2
        replace y8 : wr.drew.cell? ⟨w.heap.size, 8, none⟩ = some v := y8
        replace f8 : wr.drew.frozen? ⟨w.heap.size, 8, none⟩ = false := f8
        go_region_law (first
          | (refine step_fn 34 #[.tmp 26] _ rfl rfl #[.pointer (some ⟨T, 0, none⟩)] (by go_simp) (qst_good (by exact DD.out) HQ.out) (by rintro e w' ⟨v, rfl, _⟩; exact ⟨v, rfl⟩) ?_; rintro v9 w9 ⟨_, he, ⟨a9, c9, rfl, hO9⟩, hr9, hm9⟩; cases he; have R9 := hide (row_mv RR.out (by omega) (mv_drew hm9)); have y8 : w9.cell? ⟨w.heap.size, 8, none⟩ = some v := R9.out.cell 8; have f8 := R9.out.frozen 8; have y8a : (w9.alloc (.cells #[.slice a9 q.name.length c9, .int .u16 (q.type : Int), .int .u16 (q.cls : Int)] 28)).cell? ⟨w.heap.size, 8, none⟩ = some v := (R9.out.alloc _).cell 8; have f8a : (w9.alloc (.cells #[.slice a9 q.name.length c9, .int .u16 (q.type : Int), .int .u16 (q.cls : Int)] 28)).frozen? ⟨w.heap.size, 8, none⟩ = false := (R9.out.alloc _).frozen 8; have O9 := hide (OwnQ.mv OO.out DD.out.1 (by decide) (by decide) (mv_drew hm9)); have N9 := hide (OwnS.lower (base' := w.heap.size) hO9 zz); have D9 := hide hr9; have M9 := hide (MM.out.trans (mv_drew hm9)); clear hO9 hr9 hm9)
          | (refine step_append_Q rfl (.tmp 25) (.tmp 28) rfl w.heap.size v l (by simp [Act.eval]) (by exact O9.out.below ((Below.refl _ w9).alloc (Nat.le_refl _) _)) ⟨w9.heap.size, 0, none⟩ 1 (a9, c9, q) (by simp [Act.eval]) (qc_new w9 (a9, c9, q)) (by exact N9.out.alloc _) (by have := HL.out; omega) (by have := M9.out.size; simp; omega) ?_; intro v10 w10 hO10 hG10; obtain ⟨a10, c10, rfl⟩ := hO10.form; have O10 := hide hO10; have R10 := hide (row_grownO (R9.out.alloc (.cells (qc (a9, c9, q)).toArray 28)) (O9.out.below ((Below.refl _ w9).alloc (Nat.le_refl _) (.cells (qc (a9, c9, q)).toArray 28))).1 (by decide) (by exact hG10)); have y8 : w10.cell? ⟨w.heap.size, 8, none⟩ = some v := R10.out.cell 8; have f8 := R10.out.frozen 8; have D10 := hide ((D9.out.below ((Below.refl _ w9).alloc (Nat.le_refl _) (.cells (qc (a9, c9, q)).toArray 28))).grown (O9.out.below ((Below.refl _ w9).alloc (Nat.le_refl _) (.cells (qc (a9, c9, q)).toArray 28))).1 (by decide) hB (by exact hG10)); have M10 := hide (grown_mv (M9.out.trans (Mv.of ((Below.refl _ w9).alloc (Nat.le_refl _) (.cells (qc (a9, c9, q)).toArray 28)))) (O9.out.below ((Below.refl _ w9).alloc (Nat.le_refl _) (.cells (qc (a9, c9, q)).toArray 28))).1 (by exact hG10)); clear hO10 hG10))
        all_goals
          have e9 : (l ++ [(a9, c9, q)]).length = l.length + 1 := by simp
          rw [e9] at O10
          have RF := hide (R10.out.set 8 (.slice a10 (l.length + 1) c10))
          have DF := hide (D10.out.mv (by omega) hB (Mv.set w.heap.size 8 w10 (.slice a10 (l.length + 1) c10)))
          have OF := hide (O10.out.mv R10.out (by decide) (by decide) (Mv.set w.heap.size 8 w10 (.slice a10 (l.length + 1) c10)))
          have MF := hide (M10.out.part (Mv.set w.heap.size 8 w10 (.slice a10 (l.length + 1) c10)) (Or.inr (Nat.le_refl _)))
          clear R10 D10 O10 M10 R9 D9 O9 N9 M9 y8 f8 y8a f8a
          go_wp2
          go_roundw
          case rel =>
            refine ⟨j + 1, p2, _, l ++ [(a9, c9, q)], by go_num, by omega, DF.out, OF.out, by rw [e9, HL.out], RF.out, MF.out, ?_⟩
            show _ = _
            rw [HW2.out]
            simp
          case measure => simp [intOf]; omega
    · have q1 : ¬ (j : Int) < (k : Int) := by omega
      have hjk2 : j = k := by omega
      have HQS : Hid (M.qs b k 12 = some (l.map (·.2.2), p')) := by
        show _ = _
        rw [HW.out, hjk2, Nat.sub_self]
        simp [M.qs]
      have hmf : ∀ (fn : Fn) (first cap : Array Value) (w : World), (Instr.makeFunc fn first cap).run Tryz.prog w = .ok (.func fn first cap) w := fun _ _ _ _ => rfl
      obtain ⟨av, cv, rfl⟩ := OO.out.form
      have y9 : wr.cell? ⟨w.heap.size, 9, none⟩ = some (.slice none 0 0) := RR.out.cell 9
      have f9 : wr.frozen? ⟨w.heap.size, 9, none⟩ = false := RR.out.frozen 9
      have y10 : wr.cell? ⟨w.heap.size, 10, none⟩ = some (.slice none 0 0) := RR.out.cell 10
      have f10 : wr.frozen? ⟨w.heap.size, 10, none⟩ = false := RR.out.frozen 10
      have y11 : wr.cell? ⟨w.heap.size, 11, none⟩ = some (.slice none 0 0) := RR.out.cell 11
      have f11 : wr.frozen? ⟨w.heap.size, 11, none⟩ = false := RR.out.frozen 11
      have RX : Hid (RowAt (((wr.setCell ⟨w.heap.size, 9, none⟩ (.slice none 0 0)).setCell ⟨w.heap.size, 10, none⟩ (.slice none 0 0)).setCell ⟨w.heap.size, 11, none⟩ (.slice none 0 0)) w.heap.size 32 #[.int .u16 (i : Int), .bool (M.g1 f), .int .i64 (M.g2 f), .bool (M.g3 f), .bool (M.g4 f), .bool (M.g5 f), .bool (M.g6 f), .int .i64 (M.g7 f), .slice av l.length cv, .slice none 0 0, .slice none 0 0, .slice none 0 0, .bool false, .int .u16 0, .bool false]) := hide (((RR.out.set 9 (.slice none 0 0)).set 10 (.slice none 0 0)).set 11 (.slice none 0 0))
      have mx := ((Mv.set w.heap.size 9 wr (.slice none 0 0)).trans (Mv.set w.heap.size 10 _ (.slice none 0 0))).trans (Mv.set w.heap.size 11 _ (.slice none 0 0))
      have DX := hide (DD.out.mv (by omega) hB mx)
      have OX := hide (OO.out.mv RR.out (by decide) (by decide) mx)
      have MX := hide (MM.out.part mx (Or.inr (Nat.le_refl _)))
      have t0 : (((wr.setCell ⟨w.heap.size, 9, none⟩ (.slice none 0 0)).setCell ⟨w.heap.size, 10, none⟩ (.slice none 0 0)).setCell ⟨w.heap.size, 11, none⟩ (.slice none 0 0)).cell? ⟨T, 0, none⟩ = some (.slice ao b.length c) := DX.out.1.cell 0
      have t1 : (((wr.setCell ⟨w.heap.size, 9, none⟩ (.slice none 0 0)).setCell ⟨w.heap.size, 10, none⟩ (.slice none 0 0)).setCell ⟨w.heap.size, 11, none⟩ (.slice none 0 0)).cell? ⟨T, 1, none⟩ = some (.int .i64 (p' : Int)) := DX.out.1.cell 1
      clear mx RR DD OO MM HW y8 f8
      go_wp2_with fail
      refine (records_none T _ _).mono ?_
      rintro e w9 ⟨rfl, rfl⟩
      go_wp2_with fail
      refine (records_none T _ _).mono ?_
      rintro e w9 ⟨rfl, rfl⟩
      go_wp2_with fail
      refine (records_none T _ _).mono ?_
      rintro e w9 ⟨rfl, rfl⟩
      by_cases hp : p' = b.length
      · have q2 : ((p' : Int) != (b.length : Int)) = false := by rw [hp]; simp
        have HN : Hid (M.msgq b = some (i, f, l.map (·.2.2))) := by
          show _ = _
          unfold M.msgq
          rw [if_neg (by omega), ← Ek.out, HQS.out]
          simp only [Option.bind_some]
          rw [if_pos hp, Ei.out, Ef.out]
        go_wp2
        go_quiet (fail)
        have RY : Hid (RowAt ((((wr.setCell ⟨w.heap.size, 9, none⟩ (.slice none 0 0)).setCell ⟨w.heap.size, 10, none⟩ (.slice none 0 0)).setCell ⟨w.heap.size, 11, none⟩ (.slice none 0 0)).drewN nq) w.heap.size 32 #[.int .u16 (i : Int), .bool (M.g1 f), .int .i64 (M.g2 f), .bool (M.g3 f), .bool (M.g4 f), .bool (M.g5 f), .bool (M.g6 f), .int .i64 (M.g7 f), .slice av l.length cv, .slice none 0 0, .slice none 0 0, .slice none 0 0, .bool false, .int .u16 0, .bool false]) := RX.out
        have OY : Hid (OwnQ ((((wr.setCell ⟨w.heap.size, 9, none⟩ (.slice none 0 0)).setCell ⟨w.heap.size, 10, none⟩ (.slice none 0 0)).setCell ⟨w.heap.size, 11, none⟩ (.slice none 0 0)).drewN nq) w.heap.size (.slice av l.length cv) l) := OX.out
        have MY := hide (MX.out.trans (Mv.of (drew_below _ ⟨nq, rfl⟩)))
        clear RX OX MX DX t0 t1 y9 y10 y11 f9 f10 f11
        generalize ((((wr.setCell ⟨w.heap.size, 9, none⟩ (.slice none 0 0)).setCell ⟨w.heap.size, 10, none⟩ (.slice none 0 0)).setCell ⟨w.heap.size, 11, none⟩ (.slice none 0 0)).drewN nq) = Y at RY OY MY ⊢
        have y0 : Y.cell? ⟨w.heap.size, 0, none⟩ = some (.int .u16 (i : Int)) := RY.out.cell 0
        have f0 : Y.frozen? ⟨w.heap.size, 0, none⟩ = false := RY.out.frozen 0
        have y1 : Y.cell? ⟨w.heap.size, 1, none⟩ = some (.bool (M.g1 f)) := RY.out.cell 1
        have f1 : Y.frozen? ⟨w.heap.size, 1, none⟩ = false := RY.out.frozen 1
        have y2 : Y.cell? ⟨w.heap.size, 2, none⟩ = some (.int .i64 (M.g2 f)) := RY.out.cell 2
        have f2 : Y.frozen? ⟨w.heap.size, 2, none⟩ = false := RY.out.frozen 2
        have y3 : Y.cell? ⟨w.heap.size, 3, none⟩ = some (.bool (M.g3 f)) := RY.out.cell 3
        have f3 : Y.frozen? ⟨w.heap.size, 3, none⟩ = false := RY.out.frozen 3
        have y4 : Y.cell? ⟨w.heap.size, 4, none⟩ = some (.bool (M.g4 f)) := RY.out.cell 4
        have f4 : Y.frozen? ⟨w.heap.size, 4, none⟩ = false := RY.out.frozen 4
        have y5 : Y.cell? ⟨w.heap.size, 5, none⟩ = some (.bool (M.g5 f)) := RY.out.cell 5
        have f5 : Y.frozen? ⟨w.heap.size, 5, none⟩ = false := RY.out.frozen 5
        have y6 : Y.cell? ⟨w.heap.size, 6, none⟩ = some (.bool (M.g6 f)) := RY.out.cell 6
        have f6 : Y.frozen? ⟨w.heap.size, 6, none⟩ = false := RY.out.frozen 6
        have y7 : Y.cell? ⟨w.heap.size, 7, none⟩ = some (.int .i64 (M.g7 f)) := RY.out.cell 7
        have f7 : Y.frozen? ⟨w.heap.size, 7, none⟩ = false := RY.out.frozen 7
        have y8 : Y.cell? ⟨w.heap.size, 8, none⟩ = some (.slice av l.length cv) := RY.out.cell 8
        have f8 : Y.frozen? ⟨w.heap.size, 8, none⟩ = false := RY.out.frozen 8
        have y9 : Y.cell? ⟨w.heap.size, 9, none⟩ = some (.slice none 0 0) := RY.out.cell 9
        have f9 : Y.frozen? ⟨w.heap.size, 9, none⟩ = false := RY.out.frozen 9
        have y10 : Y.cell? ⟨w.heap.size, 10, none⟩ = some (.slice none 0 0) := RY.out.cell 10
        have f10 : Y.frozen? ⟨w.heap.size, 10, none⟩ = false := RY.out.frozen 10
        have y11 : Y.cell? ⟨w.heap.size, 11, none⟩ = some (.slice none 0 0) := RY.out.cell 11
        have f11 : Y.frozen? ⟨w.heap.size, 11, none⟩ = false := RY.out.frozen 11
        have y12 : Y.cell? ⟨w.heap.size, 12, none⟩ = some (.bool false) := RY.out.cell 12
        have f12 : Y.frozen? ⟨w.heap.size, 12, none⟩ = false := RY.out.frozen 12
        have y13 : Y.cell? ⟨w.heap.size, 13, none⟩ = some (.int .u16 0) := RY.out.cell 13
        have f13 : Y.frozen? ⟨w.heap.size, 13, none⟩ = false := RY.out.frozen 13
        have y14 : Y.cell? ⟨w.heap.size, 14, none⟩ = some (.bool false) := RY.out.cell 14
        have f14 : Y.frozen? ⟨w.heap.size, 14, none⟩ = false := RY.out.frozen 14
        go_wp2
        have mm := (((((((((((((((Mv.refl w.heap.size Y).trans (Mv.set w.heap.size 0 _ (.int .u16 (i : Int)))).trans (Mv.set w.heap.size 1 _ (.bool (M.g1 f)))).trans (Mv.set w.heap.size 2 _ (.int .i64 (M.g2 f)))).trans (Mv.set w.heap.size 3 _ (.bool (M.g3 f)))).trans (Mv.set w.heap.size 4 _ (.bool (M.g4 f)))).trans (Mv.set w.heap.size 5 _ (.bool (M.g5 f)))).trans (Mv.set w.heap.size 6 _ (.bool (M.g6 f)))).trans (Mv.set w.heap.size 7 _ (.int .i64 (M.g7 f)))).trans (Mv.set w.heap.size 8 _ (.slice av l.length cv))).trans (Mv.set w.heap.size 9 _ (.slice none 0 0))).trans (Mv.set w.heap.size 10 _ (.slice none 0 0))).trans (Mv.set w.heap.size 11 _ (.slice none 0 0))).trans (Mv.set w.heap.size 12 _ (.bool false))).trans (Mv.set w.heap.size 13 _ (.int .u16 0))).trans (Mv.set w.heap.size 14 _ (.bool false))
        have RF : RowAt (((((((((((((((Y.setCell ⟨w.heap.size, 0, none⟩ (.int .u16 (i : Int))).setCell ⟨w.heap.size, 1, none⟩ (.bool (M.g1 f))).setCell ⟨w.heap.size, 2, none⟩ (.int .i64 (M.g2 f))).setCell ⟨w.heap.size, 3, none⟩ (.bool (M.g3 f))).setCell ⟨w.heap.size, 4, none⟩ (.bool (M.g4 f))).setCell ⟨w.heap.size, 5, none⟩ (.bool (M.g5 f))).setCell ⟨w.heap.size, 6, none⟩ (.bool (M.g6 f))).setCell ⟨w.heap.size, 7, none⟩ (.int .i64 (M.g7 f))).setCell ⟨w.heap.size, 8, none⟩ (.slice av l.length cv)).setCell ⟨w.heap.size, 9, none⟩ (.slice none 0 0)).setCell ⟨w.heap.size, 10, none⟩ (.slice none 0 0)).setCell ⟨w.heap.size, 11, none⟩ (.slice none 0 0)).setCell ⟨w.heap.size, 12, none⟩ (.bool false)).setCell ⟨w.heap.size, 13, none⟩ (.int .u16 0)).setCell ⟨w.heap.size, 14, none⟩ (.bool false)) w.heap.size 32 #[.int .u16 (i : Int), .bool (M.g1 f), .int .i64 (M.g2 f), .bool (M.g3 f), .bool (M.g4 f), .bool (M.g5 f), .bool (M.g6 f), .int .i64 (M.g7 f), .slice av l.length cv, .slice none 0 0, .slice none 0 0, .slice none 0 0, .bool false, .int .u16 0, .bool false] := (((((((((((((((RY.out.same 0 rfl).same 1 rfl).same 2 rfl).same 3 rfl).same 4 rfl).same 5 rfl).same 6 rfl).same 7 rfl).same 8 rfl).same 9 rfl).same 10 rfl).same 11 rfl).same 12 rfl).same 13 rfl).same 14 rfl)
        have OF := OY.out.mv RY.out (by decide) (by decide) mm
        have MF := MY.out.part mm (Or.inr (Nat.le_refl _))
        clear y0 f0 y1 f1 y2 f2 y3 f3 y4 f4 y5 f5 y6 f6 y7 f7 y8 f8 y9 f9 y10 f10 y11 f11 y12 f12 y13 f13 y14 f14 RY OY MY mm
        generalize (((((((((((((((Y.setCell ⟨w.heap.size, 0, none⟩ (.int .u16 (i : Int))).setCell ⟨w.heap.size, 1, none⟩ (.bool (M.g1 f))).setCell ⟨w.heap.size, 2, none⟩ (.int .i64 (M.g2 f))).setCell ⟨w.heap.size, 3, none⟩ (.bool (M.g3 f))).setCell ⟨w.heap.size, 4, none⟩ (.bool (M.g4 f))).setCell ⟨w.heap.size, 5, none⟩ (.bool (M.g5 f))).setCell ⟨w.heap.size, 6, none⟩ (.bool (M.g6 f))).setCell ⟨w.heap.size, 7, none⟩ (.int .i64 (M.g7 f))).setCell ⟨w.heap.size, 8, none⟩ (.slice av l.length cv)).setCell ⟨w.heap.size, 9, none⟩ (.slice none 0 0)).setCell ⟨w.heap.size, 10, none⟩ (.slice none 0 0)).setCell ⟨w.heap.size, 11, none⟩ (.slice none 0 0)).setCell ⟨w.heap.size, 12, none⟩ (.bool false)).setCell ⟨w.heap.size, 13, none⟩ (.int .u16 0)).setCell ⟨w.heap.size, 14, none⟩ (.bool false)) = F at RF OF MF ⊢
        have z0 : F.cell? ⟨w.heap.size, 0, none⟩ = some (.int .u16 (i : Int)) := RF.cell 0
        have z1 : F.cell? ⟨w.heap.size, 1, none⟩ = some (.bool (M.g1 f)) := RF.cell 1
        have z2 : F.cell? ⟨w.heap.size, 2, none⟩ = some (.int .i64 (M.g2 f)) := RF.cell 2
        have z3 : F.cell? ⟨w.heap.size, 3, none⟩ = some (.bool (M.g3 f)) := RF.cell 3
        have z4 : F.cell? ⟨w.heap.size, 4, none⟩ = some (.bool (M.g4 f)) := RF.cell 4
        have z5 : F.cell? ⟨w.heap.size, 5, none⟩ = some (.bool (M.g5 f)) := RF.cell 5
        have z6 : F.cell? ⟨w.heap.size, 6, none⟩ = some (.bool (M.g6 f)) := RF.cell 6
        have z7 : F.cell? ⟨w.heap.size, 7, none⟩ = some (.int .i64 (M.g7 f)) := RF.cell 7
        have z8 : F.cell? ⟨w.heap.size, 8, none⟩ = some (.slice av l.length cv) := RF.cell 8
        have z9 : F.cell? ⟨w.heap.size, 9, none⟩ = some (.slice none 0 0) := RF.cell 9
        have z10 : F.cell? ⟨w.heap.size, 10, none⟩ = some (.slice none 0 0) := RF.cell 10
        have z11 : F.cell? ⟨w.heap.size, 11, none⟩ = some (.slice none 0 0) := RF.cell 11
        have z12 : F.cell? ⟨w.heap.size, 12, none⟩ = some (.bool false) := RF.cell 12
        have z13 : F.cell? ⟨w.heap.size, 13, none⟩ = some (.int .u16 0) := RF.cell 13
        have z14 : F.cell? ⟨w.heap.size, 14, none⟩ = some (.bool false) := RF.cell 14
        simp [bodyPost, results, Tryz.results22, go_sem, z0, z1, z2, z3, z4, z5, z6, z7, z8, z9, z10, z11, z12, z13, z14]
        exact ⟨Or.inl ⟨i, f, l, HN.out, _, rfl, OF⟩, MF⟩
      · have q2 : ((p' : Int) != (b.length : Int)) = true := by simp; omega
        have HN : Hid (M.msgq b = none) := by
          show _ = _
          unfold M.msgq
          rw [if_neg (by omega), ← Ek.out, HQS.out]
          simp only [Option.bind_some]
          rw [if_neg hp]
        go_wp2
        go_quiet (fail)
        go_wp2
        exact ⟨rfl, Or.inr ⟨HN.out, rfl⟩, MX.out.trans (Mv.of (drew_below _ ⟨nq, rfl⟩))⟩
end Go.Proofs.YtpgebiopckmgbabGreat
