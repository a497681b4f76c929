/- signetref6.Read, of a message of questions alone, its flags noughts. -/
import Derived.Test.YtpgebiopckmgbaaGreatRfn
namespace Go.Proofs.YtpgebiopckmgbaaGreat
open Go.RowKit
set_option maxRecDepth 5000 in
theorem RnP.one {B R : Nat} {ao : Option Addr} {c : Nat} {b : List UInt8} {p : Nat} {w w' : World} {e : Ending} (h : RnP B R ao c b p w e w') :
    ∃ n a c' q bad, e = .returned (.slice a n.length c') ∧ OwnS w' w.heap.size (.slice a n.length c') n ∧ RfR B R ao c b q bad w' ∧ ((bad = false ∧ M.wn b p p [] = some (n, q)) ∨ (bad = true ∧ M.wn b p p [] = none)) ∧ Mv R w w' := by
  obtain ⟨⟨n, q, v, h1, rfl, hO, hD⟩ | ⟨h1, rfl, q, hD⟩, hm⟩ := h
  · obtain ⟨a, c', rfl, _⟩ := hO.open
    exact ⟨n, a, c', q, false, rfl, hO, hD, Or.inl ⟨rfl, h1⟩, hm⟩
  · exact ⟨[], none, 0, q, true, rfl, OwnS.nil _ _, hD, Or.inr ⟨rfl, h1⟩, hm⟩
set_option maxRecDepth 5000 in
theorem rn2_lt (b : List UInt8) (p : Nat) (bad : Bool) : (rn2 b p bad).1 < 65536 := by
  unfold rn2
  split
  · simp
  · exact M.num_lt b p
set_option maxRecDepth 5000 in
theorem rn2_bad (b : List UInt8) (p : Nat) : rn2 b p true = (0, p, true) := if_pos (Or.inl rfl)
set_option maxRecDepth 5000 in
theorem qn_of {b : List UInt8} {p q : Nat} {n : List (List UInt8)} {bad : Bool} (h : (bad = false ∧ M.wn b p p [] = some (n, q)) ∨ (bad = true ∧ M.wn b p p [] = none)) :
    ((rn2 b (rn2 b q bad).2.1 (rn2 b q bad).2.2).2.2 = false ∧ M.qn b p = some (⟨n, (rn2 b q bad).1, (rn2 b (rn2 b q bad).2.1 (rn2 b q bad).2.2).1⟩, (rn2 b (rn2 b q bad).2.1 (rn2 b q bad).2.2).2.1)) ∨
    ((rn2 b (rn2 b q bad).2.1 (rn2 b q bad).2.2).2.2 = true ∧ M.qn b p = none) := by
  rcases h with ⟨rfl, h⟩ | ⟨rfl, h⟩
  · by_cases h1 : b.length < q + 2
    · have e1 : rn2 b q false = (0, q, true) := if_pos (Or.inr h1)
      rw [e1]
      simp only
      rw [rn2_bad]
      refine Or.inr ⟨rfl, ?_⟩
      unfold M.qn M.n16
      rw [h]; simp [h1]
    · have e1 : rn2 b q false = (M.num b q, q + 2, false) := if_neg (by simp; omega)
      rw [e1]
      simp only
      by_cases h2 : b.length < q + 2 + 2
      · have e2 : rn2 b (q + 2) false = (0, q + 2, true) := if_pos (Or.inr h2)
        rw [e2]
        refine Or.inr ⟨rfl, ?_⟩
        unfold M.qn M.n16
        rw [h]; simp [h1, h2]
      · have e2 : rn2 b (q + 2) false = (M.num b (q + 2), q + 2 + 2, false) := if_neg (by simp; omega)
        rw [e2]
        refine Or.inl ⟨rfl, ?_⟩
        unfold M.qn M.n16
        rw [h]; simp [h1, h2, M.num]
  · rw [rn2_bad]
    simp only
    rw [rn2_bad]
    refine Or.inr ⟨rfl, ?_⟩
    unfold M.qn
    rw [h]; rfl
set_option maxRecDepth 5000 in
theorem wpList_append_Q {w : World} {ops : Array Oper} {rest : List Oper} {o : Oper} {a : Act} {Q : Exit → Act → World → Prop} (hgd : o.guard = none) (s x : Operand)
    (ho : o.op = .call { callee := .builtin .append, args := #[s, x], argTypes := #[25, 25] }) (base : Nat) (v : Value) (l : List (Option Addr × Nat × M.Q)) (hs : a.eval s = v) (hown : OwnQ w base v l)
    (ad : Addr) (c : Nat) (y : Option Addr × Nat × M.Q) (hx : a.eval x = .slice (some ad) 1 c) (hsrc : ∀ (j : Nat) u, (qc y)[j]? = some u → w.cell? (ad.add j) = some u) (hy : OwnS w base (.slice y.1 y.2.2.name.length y.2.1) y.2.2.name) (hbound : l.length ≤ 100000) (hbase : base ≤ w.heap.size)
    (h : ∀ v' w', OwnQ w' base v' (l ++ [y]) → w.grownBy w' v.ownBlock → wpList Tryz.prog ops Q rest (a.put o.dst v') w') : wpList Tryz.prog ops Q (o :: rest) a w := by
  refine wpList_plain hgd fun K hK => ?_
  obtain ⟨v', w', hr, h2, h3⟩ := run_append_Q o.type hown ad c y hsrc hy hbound hbase
  unfold Oper.wp execOp
  simp only [ho, resolve, invoke, builtin, Sem.run_bind, Sem.run_pure, Result.andThen_ok, List.map_toArray, List.map_cons, List.map_nil, hs, hx, hr]
  exact hK _ _ (h v' w' h2 h3)
set_option maxRecDepth 5000 in
theorem ownQ_set {w : World} {base Q t : Nat} {v : Value} {l : List (Option Addr × Nat × M.Q)} {c : Array Value} (h : OwnQ w base v l) (hQ : RowAt w Q t c) (hs : t ≠ 9) (hn : ∀ g, v.ownBlock = some g → g ≠ Q) (j : Nat) (x : Value) : OwnQ (w.setCell ⟨Q, j, none⟩ x) base v l := by
  refine ⟨⟨h.1.1, ?_⟩, fun y hy => own_set (show World.ownsRow _ _ _ _ _ _ _ from h.2 y hy) hQ hs j x⟩
  rcases h.1.2 with h1 | ⟨g, cap, cur, rfl, hb, hg', hr⟩
  · exact Or.inl h1
  · refine Or.inr ⟨g, cap, cur, rfl, hb, ?_, hr⟩
    rw [Below.heap_setCell _ _ _ _ (hn g rfl)]; exact hg'
set_option maxRecDepth 5000 in
theorem grown_belowO {w0 w w' : World} {e s n : Nat} {v : Value} {xs : List Value} (hb : Below w0.heap.size w0 w) (ho : w.ownsRow w0.heap.size e s v n xs) (hg : w.grownBy w' v.ownBlock) : Below w0.heap.size w0 w' := by
  refine ⟨hg.os.trans hb.os, hg.tape.trans hb.tape, hg.output.trans hb.output, Nat.le_trans hb.size hg.size, fun k hk => ?_⟩
  refine (hg.block k (Nat.lt_of_lt_of_le hk hb.size) (fun q => ?_)).trans (hb.block k hk)
  rcases ho.2 with ⟨rfl, _⟩ | ⟨g, cap, cur, rfl, hB, _⟩
  · simp [Value.ownBlock] at q
  · simp [Value.ownBlock] at q; omega
def RefP (b : List UInt8) (w : World) (e : Ending) (w' : World) : Prop :=
  ((∃ l v, M.msgq b = some (M.num b 0, 0, l.map (·.2.2)) ∧ e = .returned (.tuple #[.agg #[.int .u16 (M.num b 0 : Int), .bool false, .int .i64 0, .bool false, .bool false, .bool false, .bool false, .int .i64 0, v, .slice none 0 0, .slice none 0 0, .slice none 0 0, .bool false, .int .u16 0, .bool false], .int .i64 0]) ∧ OwnQ w' w.heap.size v l) ∨ (M.msgq b = none ∧ e = .returned (.tuple #[zmsg, .int .i64 60]))) ∧ Below w.heap.size w w'
def msr (R x : Nat) (wr : World) : Nat := if badOf R wr = true then 0 else x
set_option maxHeartbeats 1600000 in
set_option maxRecDepth 5000 in
theorem rfread_any (b : List UInt8) (ao : Option Addr) (c : Nat) (w : World) (hs : SlL w ao b) (hc : b.length ≤ c) (hnil : ao = none → c = 0) (h65 : b.length ≤ 65535) (h12 : 12 ≤ b.length) (hf : M.num b 2 = 0) (hz : M.num b 6 = 0 ∧ M.num b 8 = 0 ∧ M.num b 10 = 0) :
    Calls Tryz.prog 11 #[.slice ao b.length c] w fun e w' => RefP b w e w' := by
  have hlt' : ¬ (65535 : Int) < (b.length : Int) := by omega
  have b1 := (Below.refl w.heap.size w).alloc (Nat.le_refl _) (.cells #[.int .u16 0, .bool false, .int .i64 0, .bool false, .bool false, .bool false, .bool false, .int .i64 0, .slice none 0 0, .slice none 0 0, .slice none 0 0, .slice none 0 0, .bool false, .int .u16 0, .bool false] 28)
  have b2 := b1.alloc (by simp) (.cells #[.slice ao b.length c, .int .i64 0, .bool false] 61)
  have b3 := b2.alloc (by simp; omega) (.cells #[.int .u16 0, .bool false, .int .i64 0, .bool false, .bool false, .bool false, .bool false, .int .i64 0, .slice none 0 0, .slice none 0 0, .slice none 0 0, .slice none 0 0, .bool false, .int .u16 0, .bool false] 28)
  have R0 : Hid (RowAt (((w.alloc (.cells #[.int .u16 0, .bool false, .int .i64 0, .bool false, .bool false, .bool false, .bool false, .int .i64 0, .slice none 0 0, .slice none 0 0, .slice none 0 0, .slice none 0 0, .bool false, .int .u16 0, .bool false] 28)).alloc (.cells #[.slice ao b.length c, .int .i64 0, .bool false] 61)).alloc (.cells #[.int .u16 0, .bool false, .int .i64 0, .bool false, .bool false, .bool false, .bool false, .int .i64 0, .slice none 0 0, .slice none 0 0, .slice none 0 0, .slice none 0 0, .bool false, .int .u16 0, .bool false] 28)) (w.heap.size) 28 #[.int .u16 0, .bool false, .int .i64 0, .bool false, .bool false, .bool false, .bool false, .int .i64 0, .slice none 0 0, .slice none 0 0, .slice none 0 0, .slice none 0 0, .bool false, .int .u16 0, .bool false]) := ((RowAt.new w 28 #[.int .u16 0, .bool false, .int .i64 0, .bool false, .bool false, .bool false, .bool false, .int .i64 0, .slice none 0 0, .slice none 0 0, .slice none 0 0, .slice none 0 0, .bool false, .int .u16 0, .bool false]).alloc _).alloc _
  have DR : Hid (RfR w.heap.size (w.heap.size + 1) ao c b 0 false (((w.alloc (.cells #[.int .u16 0, .bool false, .int .i64 0, .bool false, .bool false, .bool false, .bool false, .int .i64 0, .slice none 0 0, .slice none 0 0, .slice none 0 0, .slice none 0 0, .bool false, .int .u16 0, .bool false] 28)).alloc (.cells #[.slice ao b.length c, .int .i64 0, .bool false] 61)).alloc (.cells #[.int .u16 0, .bool false, .int .i64 0, .bool false, .bool false, .bool false, .bool false, .int .i64 0, .slice none 0 0, .slice none 0 0, .slice none 0 0, .slice none 0 0, .bool false, .int .u16 0, .bool false] 28))) := by
    have h := (RowAt.new (w.alloc (.cells #[.int .u16 0, .bool false, .int .i64 0, .bool false, .bool false, .bool false, .bool false, .int .i64 0, .slice none 0 0, .slice none 0 0, .slice none 0 0, .slice none 0 0, .bool false, .int .u16 0, .bool false] 28)) 61 #[.slice ao b.length c, .int .i64 0, .bool false]).alloc (.cells #[.int .u16 0, .bool false, .int .i64 0, .bool false, .bool false, .bool false, .bool false, .int .i64 0, .slice none 0 0, .slice none 0 0, .slice none 0 0, .slice none 0 0, .bool false, .int .u16 0, .bool false] 28)
    rw [World.size_alloc] at h
    exact ⟨h, (SlL.slB hs).below b3, hc, hnil, by omega, h65, by omega, b3.size⟩
  have RA : Hid (RowAt (((w.alloc (.cells #[.int .u16 0, .bool false, .int .i64 0, .bool false, .bool false, .bool false, .bool false, .int .i64 0, .slice none 0 0, .slice none 0 0, .slice none 0 0, .slice none 0 0, .bool false, .int .u16 0, .bool false] 28)).alloc (.cells #[.slice ao b.length c, .int .i64 0, .bool false] 61)).alloc (.cells #[.int .u16 0, .bool false, .int .i64 0, .bool false, .bool false, .bool false, .bool false, .int .i64 0, .slice none 0 0, .slice none 0 0, .slice none 0 0, .slice none 0 0, .bool false, .int .u16 0, .bool false] 28)) (w.heap.size + 2) 28 #[.int .u16 0, .bool false, .int .i64 0, .bool false, .bool false, .bool false, .bool false, .int .i64 0, .slice none 0 0, .slice none 0 0, .slice none 0 0, .slice none 0 0, .bool false, .int .u16 0, .bool false]) := by
    have h := RowAt.new ((w.alloc (.cells #[.int .u16 0, .bool false, .int .i64 0, .bool false, .bool false, .bool false, .bool false, .int .i64 0, .slice none 0 0, .slice none 0 0, .slice none 0 0, .slice none 0 0, .bool false, .int .u16 0, .bool false] 28)).alloc (.cells #[.slice ao b.length c, .int .i64 0, .bool false] 61)) 28 #[.int .u16 0, .bool false, .int .i64 0, .bool false, .bool false, .bool false, .bool false, .int .i64 0, .slice none 0 0, .slice none 0 0, .slice none 0 0, .slice none 0 0, .bool false, .int .u16 0, .bool false]
    rw [World.size_alloc, World.size_alloc] at h; exact h
  have B3 := hide b3
  have N0 : Hid (rn2 b 0 false = (M.num b 0, 2, false)) := if_neg (by simp; omega)
  have N2 : Hid (rn2 b 2 false = (0, 4, false)) := by show _ = _; unfold rn2; rw [if_neg (by simp; omega), hf]
  have HI : Hid (M.msgq b = (M.qs b (M.num b 4) 12).bind fun r => if r.2 = b.length then some (M.num b 0, 0, r.1) else none) := by show _ = _; unfold M.msgq; rw [if_neg (by omega), hf]
  have hilt := M.num_lt b 0
  have HF := hide hf
  have HZ := hide hz
  clear b1 b2 b3 hs hf hz
  unfold RefP
  generalize hi : M.num b 0 = i at N0 HI hilt ⊢
  clear hi
  have hwid : IntKind.u16.wrap (i : Int) = (i : Int) := by rw [IntKind.wrap_u16]; omega
  have hb15 : bits .and .u32 0 15 = 0 := by decide
  have hb1 : bits .and .u32 0 1 = 0 := by decide
  go_enter Tryz.func11, Tryz.ntmps11
  go_wp2_with fail
  refine (rn_any w.heap.size (w.heap.size + 1) ao c b 0 false _ (by exact DR.out)).mono ?_
  rw [N0.out]
  rintro e w1 ⟨rfl, hr, hm⟩
  have ra := row_mv RA.out (by omega) hm
  have y0 : w1.cell? ⟨w.heap.size + 2, 0, none⟩ = some (.int .u16 0) := ra.cell 0
  have f0 := ra.frozen 0
  have RA1 : Hid (RowAt (w1.setCell ⟨w.heap.size + 2, 0, none⟩ (.int .u16 (i : Int))) (w.heap.size + 2) 28 #[.int .u16 (i : Int), .bool false, .int .i64 0, .bool false, .bool false, .bool false, .bool false, .int .i64 0, .slice none 0 0, .slice none 0 0, .slice none 0 0, .slice none 0 0, .bool false, .int .u16 0, .bool false]) := hide (ra.set 0 _)
  have m1 := Mv.set (w.heap.size + 2) 0 w1 (.int .u16 (i : Int))
  have D1 := hide (hr.mv (by omega) (by omega) m1)
  have R1 := hide (row_mv (row_mv R0.out (by omega) hm) (by omega) m1)
  have B1 := hide ((B3.out.trans (hm.below (by omega) (by simp; omega))).trans (m1.below (by omega) (Nat.le_trans B3.out.size hm.size)))
  clear hr hm ra m1 DR R0 RA B3
  go_wp2_with fail
  refine (rn_any w.heap.size (w.heap.size + 1) ao c b 2 false _ (by exact D1.out)).mono ?_
  rw [N2.out]
  rintro e w2 ⟨rfl, hr, hm⟩
  have ra := row_mv RA1.out (by omega) hm
  have y1 : w2.cell? ⟨w.heap.size + 2, 1, none⟩ = some (.bool false) := ra.cell 1
  have f1 : w2.frozen? ⟨w.heap.size + 2, 1, none⟩ = false := ra.frozen 1
  have y2 : w2.cell? ⟨w.heap.size + 2, 2, none⟩ = some (.int .i64 0) := ra.cell 2
  have f2 : w2.frozen? ⟨w.heap.size + 2, 2, none⟩ = false := ra.frozen 2
  have y3 : w2.cell? ⟨w.heap.size + 2, 3, none⟩ = some (.bool false) := ra.cell 3
  have f3 : w2.frozen? ⟨w.heap.size + 2, 3, none⟩ = false := ra.frozen 3
  have y4 : w2.cell? ⟨w.heap.size + 2, 4, none⟩ = some (.bool false) := ra.cell 4
  have f4 : w2.frozen? ⟨w.heap.size + 2, 4, none⟩ = false := ra.frozen 4
  have y5 : w2.cell? ⟨w.heap.size + 2, 5, none⟩ = some (.bool false) := ra.cell 5
  have f5 : w2.frozen? ⟨w.heap.size + 2, 5, none⟩ = false := ra.frozen 5
  have y6 : w2.cell? ⟨w.heap.size + 2, 6, none⟩ = some (.bool false) := ra.cell 6
  have f6 : w2.frozen? ⟨w.heap.size + 2, 6, none⟩ = false := ra.frozen 6
  have y7 : w2.cell? ⟨w.heap.size + 2, 7, none⟩ = some (.int .i64 0) := ra.cell 7
  have f7 : w2.frozen? ⟨w.heap.size + 2, 7, none⟩ = false := ra.frozen 7
  have mm := (((((((Mv.refl (w.heap.size + 2) w2).trans (Mv.set (w.heap.size + 2) 1 _ (.bool false))).trans (Mv.set (w.heap.size + 2) 2 _ (.int .i64 0))).trans (Mv.set (w.heap.size + 2) 3 _ (.bool false))).trans (Mv.set (w.heap.size + 2) 4 _ (.bool false))).trans (Mv.set (w.heap.size + 2) 5 _ (.bool false))).trans (Mv.set (w.heap.size + 2) 6 _ (.bool false))).trans (Mv.set (w.heap.size + 2) 7 _ (.int .i64 0))
  have bx : Below w.heap.size w (((((((w2.setCell ⟨w.heap.size + 2, 1, none⟩ (.bool false)).setCell ⟨w.heap.size + 2, 2, none⟩ (.int .i64 0)).setCell ⟨w.heap.size + 2, 3, none⟩ (.bool false)).setCell ⟨w.heap.size + 2, 4, none⟩ (.bool false)).setCell ⟨w.heap.size + 2, 5, none⟩ (.bool false)).setCell ⟨w.heap.size + 2, 6, none⟩ (.bool false)).setCell ⟨w.heap.size + 2, 7, none⟩ (.int .i64 0)) := (B1.out.trans (hm.below (by omega) (by have := B1.out.size; omega))).trans (mm.below (by omega) (Nat.le_trans B1.out.size hm.size))
  have al := (Below.refl (((((((w2.setCell ⟨w.heap.size + 2, 1, none⟩ (.bool false)).setCell ⟨w.heap.size + 2, 2, none⟩ (.int .i64 0)).setCell ⟨w.heap.size + 2, 3, none⟩ (.bool false)).setCell ⟨w.heap.size + 2, 4, none⟩ (.bool false)).setCell ⟨w.heap.size + 2, 5, none⟩ (.bool false)).setCell ⟨w.heap.size + 2, 6, none⟩ (.bool false)).setCell ⟨w.heap.size + 2, 7, none⟩ (.int .i64 0)).heap.size (((((((w2.setCell ⟨w.heap.size + 2, 1, none⟩ (.bool false)).setCell ⟨w.heap.size + 2, 2, none⟩ (.int .i64 0)).setCell ⟨w.heap.size + 2, 3, none⟩ (.bool false)).setCell ⟨w.heap.size + 2, 4, none⟩ (.bool false)).setCell ⟨w.heap.size + 2, 5, none⟩ (.bool false)).setCell ⟨w.heap.size + 2, 6, none⟩ (.bool false)).setCell ⟨w.heap.size + 2, 7, none⟩ (.int .i64 0))).alloc (Nat.le_refl _) (.cells #[.int .i64 0, .int .i64 0, .int .i64 0, .int .i64 0] 64)
  have rax : RowAt (((((((w2.setCell ⟨w.heap.size + 2, 1, none⟩ (.bool false)).setCell ⟨w.heap.size + 2, 2, none⟩ (.int .i64 0)).setCell ⟨w.heap.size + 2, 3, none⟩ (.bool false)).setCell ⟨w.heap.size + 2, 4, none⟩ (.bool false)).setCell ⟨w.heap.size + 2, 5, none⟩ (.bool false)).setCell ⟨w.heap.size + 2, 6, none⟩ (.bool false)).setCell ⟨w.heap.size + 2, 7, none⟩ (.int .i64 0)) (w.heap.size + 2) 28 #[.int .u16 (i : Int), .bool false, .int .i64 0, .bool false, .bool false, .bool false, .bool false, .int .i64 0, .slice none 0 0, .slice none 0 0, .slice none 0 0, .slice none 0 0, .bool false, .int .u16 0, .bool false] := (((((((ra.same 1 rfl).same 2 rfl).same 3 rfl).same 4 rfl).same 5 rfl).same 6 rfl).same 7 rfl)
  have RAY : Hid (RowAt ((((((((w2.setCell ⟨w.heap.size + 2, 1, none⟩ (.bool false)).setCell ⟨w.heap.size + 2, 2, none⟩ (.int .i64 0)).setCell ⟨w.heap.size + 2, 3, none⟩ (.bool false)).setCell ⟨w.heap.size + 2, 4, none⟩ (.bool false)).setCell ⟨w.heap.size + 2, 5, none⟩ (.bool false)).setCell ⟨w.heap.size + 2, 6, none⟩ (.bool false)).setCell ⟨w.heap.size + 2, 7, none⟩ (.int .i64 0)).alloc (.cells #[.int .i64 0, .int .i64 0, .int .i64 0, .int .i64 0] 64)) (w.heap.size + 2) 28 #[.int .u16 (i : Int), .bool false, .int .i64 0, .bool false, .bool false, .bool false, .bool false, .int .i64 0, .slice none 0 0, .slice none 0 0, .slice none 0 0, .slice none 0 0, .bool false, .int .u16 0, .bool false]) := hide (rax.alloc _)
  have DY : Hid (RfR w.heap.size (w.heap.size + 1) ao c b 4 false ((((((((w2.setCell ⟨w.heap.size + 2, 1, none⟩ (.bool false)).setCell ⟨w.heap.size + 2, 2, none⟩ (.int .i64 0)).setCell ⟨w.heap.size + 2, 3, none⟩ (.bool false)).setCell ⟨w.heap.size + 2, 4, none⟩ (.bool false)).setCell ⟨w.heap.size + 2, 5, none⟩ (.bool false)).setCell ⟨w.heap.size + 2, 6, none⟩ (.bool false)).setCell ⟨w.heap.size + 2, 7, none⟩ (.int .i64 0)).alloc (.cells #[.int .i64 0, .int .i64 0, .int .i64 0, .int .i64 0] 64))) := hide ((hr.mv (by omega) (by omega) mm).below al)
  have R0Y := hide ((row_mv (row_mv R1.out (by omega) hm) (by omega) mm).alloc (.cells #[.int .i64 0, .int .i64 0, .int .i64 0, .int .i64 0] 64))
  have BY := hide (bx.alloc bx.size (.cells #[.int .i64 0, .int .i64 0, .int .i64 0, .int .i64 0] 64))
  have RCY : Hid (RowAt ((((((((w2.setCell ⟨w.heap.size + 2, 1, none⟩ (.bool false)).setCell ⟨w.heap.size + 2, 2, none⟩ (.int .i64 0)).setCell ⟨w.heap.size + 2, 3, none⟩ (.bool false)).setCell ⟨w.heap.size + 2, 4, none⟩ (.bool false)).setCell ⟨w.heap.size + 2, 5, none⟩ (.bool false)).setCell ⟨w.heap.size + 2, 6, none⟩ (.bool false)).setCell ⟨w.heap.size + 2, 7, none⟩ (.int .i64 0)).alloc (.cells #[.int .i64 0, .int .i64 0, .int .i64 0, .int .i64 0] 64)) w2.heap.size 64 #[.int .i64 0, .int .i64 0, .int .i64 0, .int .i64 0]) := by
    have h := RowAt.new (((((((w2.setCell ⟨w.heap.size + 2, 1, none⟩ (.bool false)).setCell ⟨w.heap.size + 2, 2, none⟩ (.int .i64 0)).setCell ⟨w.heap.size + 2, 3, none⟩ (.bool false)).setCell ⟨w.heap.size + 2, 4, none⟩ (.bool false)).setCell ⟨w.heap.size + 2, 5, none⟩ (.bool false)).setCell ⟨w.heap.size + 2, 6, none⟩ (.bool false)).setCell ⟨w.heap.size + 2, 7, none⟩ (.int .i64 0)) 64 #[.int .i64 0, .int .i64 0, .int .i64 0, .int .i64 0]
    have e : (((((((w2.setCell ⟨w.heap.size + 2, 1, none⟩ (.bool false)).setCell ⟨w.heap.size + 2, 2, none⟩ (.int .i64 0)).setCell ⟨w.heap.size + 2, 3, none⟩ (.bool false)).setCell ⟨w.heap.size + 2, 4, none⟩ (.bool false)).setCell ⟨w.heap.size + 2, 5, none⟩ (.bool false)).setCell ⟨w.heap.size + 2, 6, none⟩ (.bool false)).setCell ⟨w.heap.size + 2, 7, none⟩ (.int .i64 0)).heap.size = w2.heap.size := by simp [World.setCell]
    rw [e] at h; exact h
  have hCA : w.heap.size + 2 < w2.heap.size := ra.lt
  clear hr hm ra mm bx al D1 R1 B1 RA1 rax
  go_wp2
  generalize ((((((((w2.setCell ⟨w.heap.size + 2, 1, none⟩ (.bool false)).setCell ⟨w.heap.size + 2, 2, none⟩ (.int .i64 0)).setCell ⟨w.heap.size + 2, 3, none⟩ (.bool false)).setCell ⟨w.heap.size + 2, 4, none⟩ (.bool false)).setCell ⟨w.heap.size + 2, 5, none⟩ (.bool false)).setCell ⟨w.heap.size + 2, 6, none⟩ (.bool false)).setCell ⟨w.heap.size + 2, 7, none⟩ (.int .i64 0)).alloc (.cells #[.int .i64 0, .int .i64 0, .int .i64 0, .int .i64 0] 64)) = y at RAY DY R0Y BY RCY ⊢
  clear y0 f0 y1 f1 y2 f2 y3 f3 y4 f4 y5 f5 y6 f6 y7 f7
  have hkk : (if (0 : Nat) = 0 then 0 else M.num b 4) = 0 := rfl
  generalize hk : M.num b 4 = k at HI hkk
  have HK := hide hk
  clear hk hkk
  generalize w2.heap.size = C at RCY hCA ⊢
  go_loopw [8] (fun iv wr => ∃ (j kk : Nat), iv = .int .i64 (j : Int) ∧ j ≤ 4 ∧ (j = 0 → kk = 0) ∧ (0 < j → kk = k) ∧ RfR w.heap.size (w.heap.size + 1) ao c b (4 + 2 * j) false wr ∧ RowAt wr (w.heap.size + 2) 28 #[.int .u16 (i : Int), .bool false, .int .i64 0, .bool false, .bool false, .bool false, .bool false, .int .i64 0, .slice none 0 0, .slice none 0 0, .slice none 0 0, .slice none 0 0, .bool false, .int .u16 0, .bool false] ∧ RowAt wr (w.heap.size) 28 #[.int .u16 0, .bool false, .int .i64 0, .bool false, .bool false, .bool false, .bool false, .int .i64 0, .slice none 0 0, .slice none 0 0, .slice none 0 0, .slice none 0 0, .bool false, .int .u16 0, .bool false] ∧ RowAt wr C 64 #[.int .i64 (kk : Int), .int .i64 0, .int .i64 0, .int .i64 0] ∧ Below w.heap.size w wr) (fun iv _ => 4 - (intOf iv).toNat)
  case atStart => exact ⟨0, 0, rfl, by omega, fun _ => rfl, fun h => by omega, DY.out, RAY.out, R0Y.out, RCY.out, BY.out⟩
  case round =>
    obtain ⟨j, kk, rfl, hj, hk0, hk1, hD, hA, h0, hC, hB⟩ := hrel
    by_cases hj4 : j < 4
    · have DD := hide hD
      have RA := hide hA
      have RZ := hide h0
      have RR := hide hC
      have BB := hide hB
      have hCl := hC.lt
      have hcs : j = 0 ∨ j = 1 ∨ j = 2 ∨ j = 3 := by omega
      have HK0 := hide hk0
      have HK1 := hide hk1
      clear hD hA h0 hC hB hj4 hj hk0 hk1
      have NN : Hid (rn2 b (4 + 2 * j) false = (if j = 0 then k else 0, 4 + 2 * (j + 1), false)) := by
        show _ = _
        unfold rn2
        rw [if_neg (by simp; omega)]
        have h := HZ.out
        rcases hcs with rfl | rfl | rfl | rfl
        · rw [if_pos rfl, ← HK.out]
        · rw [if_neg (by omega)]; show (M.num b 6, _, _) = _; rw [h.1]
        · rw [if_neg (by omega)]; show (M.num b 8, _, _) = _; rw [h.2.1]
        · rw [if_neg (by omega)]; show (M.num b 10, _, _) = _; rw [h.2.2]
      have q1 : (j : Int) < 4 := by omega
      have hkl : k < 65536 := by rw [← HK.out]; exact M.num_lt b 4
      go_wp2_with fail
      refine (rn_any w.heap.size (w.heap.size + 1) ao c b (4 + 2 * j) false _ (by exact DD.out)).mono ?_
      rw [NN.out]
      rintro e w3 ⟨rfl, hr, hm⟩
      obtain ⟨v, hv⟩ : ∃ v : Nat, (if j = 0 then k else 0) = v := ⟨_, rfl⟩
      have hvl : v < 65536 := by rw [← hv]; split <;> omega
      have HV := hide hv
      simp only [hv]
      clear hv
      have rc := row_mv RR.out (by omega) hm
      have hwv : IntKind.i64.wrap (v : Int) = (v : Int) := i64_small v hvl
      have z0 : w3.cell? ⟨C, 0, none⟩ = some (.int .i64 (kk : Int)) := rc.cell 0
      have z1 : w3.cell? ⟨C, 1, none⟩ = some (.int .i64 0) := rc.cell 1
      have z2 : w3.cell? ⟨C, 2, none⟩ = some (.int .i64 0) := rc.cell 2
      have z3 : w3.cell? ⟨C, 3, none⟩ = some (.int .i64 0) := rc.cell 3
      have g0 : w3.frozen? ⟨C, 0, none⟩ = false := rc.frozen 0
      have g1 : w3.frozen? ⟨C, 1, none⟩ = false := rc.frozen 1
      have g2 : w3.frozen? ⟨C, 2, none⟩ = false := rc.frozen 2
      have g3 : w3.frozen? ⟨C, 3, none⟩ = false := rc.frozen 3
      have ms := fun jj => Mv.set C jj w3 (.int .i64 (v : Int))
      have DF := fun jj => hr.mv (by omega) (by omega) (ms jj)
      have AF := fun jj => row_mv (row_mv RA.out (by omega) hm) (by omega) (ms jj)
      have ZF := fun jj => row_mv (row_mv RZ.out (by omega) hm) (by omega) (ms jj)
      have BF := fun jj => (BB.out.trans (hm.below (by omega) BB.out.size)).trans ((ms jj).below (by omega) (Nat.le_trans BB.out.size hm.size))
      have HDF := hide DF
      have HAF := hide AF
      have HZF := hide ZF
      have HBF := hide BF
      have HRC := hide rc
      clear DF AF ZF BF ms hr hm rc
      rcases hcs with rfl | rfl | rfl | rfl
      · go_wp2
        go_roundw
        case rel => exact ⟨1, k, rfl, by omega, (fun h => by omega), (fun _ => rfl), HDF.out 0, HAF.out 0, HZF.out 0, by have h := HRC.out.set 0 (.int .i64 (v : Int)); rw [← HV.out] at h ⊢; exact h, HBF.out 0⟩
        case measure => simp [intOf]
      all_goals
        have hkk : kk = k := HK1.out (by omega)
        have hv0 : v = 0 := HV.out.symm
        subst hkk hv0
      · go_wp2
        go_roundw
        case rel => exact ⟨2, kk, rfl, by omega, (fun h => by omega), (fun _ => rfl), HDF.out 1, HAF.out 1, HZF.out 1, HRC.out.same 1 rfl, HBF.out 1⟩
        case measure => simp [intOf]
      · go_wp2
        go_roundw
        case rel => exact ⟨3, kk, rfl, by omega, (fun h => by omega), (fun _ => rfl), HDF.out 2, HAF.out 2, HZF.out 2, HRC.out.same 2 rfl, HBF.out 2⟩
        case measure => simp [intOf]
      · go_wp2
        go_roundw
        case rel => exact ⟨4, kk, rfl, by omega, (fun h => by omega), (fun _ => rfl), HDF.out 3, HAF.out 3, HZF.out 3, HRC.out.same 3 rfl, HBF.out 3⟩
        case measure => simp [intOf]
    · obtain rfl : j = 4 := by omega
      obtain rfl : kk = k := hk1 (by omega)
      have hkl : kk < 65536 := by rw [← HK.out]; exact M.num_lt b 4
      have DY := hide hD
      have RAY := hide hA
      have R0Y := hide h0
      have RCY := hide hC
      have BY := hide hB
      clear hD hA h0 hC hB hk0 hk1 hj hj4
      go_wp2
      go_loopw [9] (fun iv wx => ∃ (j pp : Nat) (v : Value) (l : List (Option Addr × Nat × M.Q)) (bad : Bool), iv = .int .i64 (j : Int) ∧ j ≤ kk ∧ RfR w.heap.size (w.heap.size + 1) ao c b pp bad wx ∧ OwnQ wx w.heap.size v l ∧ RowAt wx (w.heap.size + 2) 28 #[.int .u16 (i : Int), .bool false, .int .i64 0, .bool false, .bool false, .bool false, .bool false, .int .i64 0, v, .slice none 0 0, .slice none 0 0, .slice none 0 0, .bool false, .int .u16 0, .bool false] ∧ RowAt wx (w.heap.size) 28 #[.int .u16 0, .bool false, .int .i64 0, .bool false, .bool false, .bool false, .bool false, .int .i64 0, .slice none 0 0, .slice none 0 0, .slice none 0 0, .slice none 0 0, .bool false, .int .u16 0, .bool false] ∧ RowAt wx C 64 #[.int .i64 (kk : Int), .int .i64 0, .int .i64 0, .int .i64 0] ∧ Below w.heap.size w wx ∧ ((bad = false ∧ l.length = j ∧ Hid (M.qs b kk 12 = (M.qs b (kk - j) pp).map fun s => (l.map (·.2.2) ++ s.1, s.2))) ∨ (bad = true ∧ Hid (M.qs b kk 12 = none)))) (fun iv wx => msr (w.heap.size + 1) (1 + (kk - (intOf iv).toNat)) wx)
      case atStart =>
        exact ⟨0, 12, _, [], false, rfl, by omega, DY.out, OwnQ.nil _ _, RAY.out, R0Y.out, RCY.out, BY.out, Or.inl ⟨rfl, rfl, by show _ = _; simp⟩⟩
      case round =>
        clear DY RAY R0Y RCY BY
        obtain ⟨j, pp, v, l, bad, rfl, hj, hD, hO, hA, h0, hC, hB, hcase⟩ := hrel
        have DD := hide hD
        have OO := hide hO
        have RA := hide hA
        have RZ := hide h0
        have RR := hide hC
        have BB := hide hB
        have hCl := hC.lt
        have HBD := hide (badOf_at hD)
        have HCS := hide hcase
        have k0 : wr.cell? ⟨C, 0, none⟩ = some (.int .i64 (kk : Int)) := hC.cell 0
        have k1 : wr.cell? ⟨C, 1, none⟩ = some (.int .i64 0) := hC.cell 1
        have k2 : wr.cell? ⟨C, 2, none⟩ = some (.int .i64 0) := hC.cell 2
        have k3 : wr.cell? ⟨C, 3, none⟩ = some (.int .i64 0) := hC.cell 3
        have e1 : wr.cell? ⟨w.heap.size + 1, 1, none⟩ = some (.int .i64 (pp : Int)) := by rw [hD.1.cell 1]; rfl
        have e2 : wr.cell? ⟨w.heap.size + 1, 2, none⟩ = some (.bool bad) := by rw [hD.1.cell 2]; rfl
        clear hD hO hA h0 hC hB hcase
        by_cases hgo : j < kk ∧ bad = false
        · obtain ⟨hjk, rfl⟩ := hgo
          have hln : l.length = j ∧ Hid (M.qs b kk 12 = (M.qs b (kk - j) pp).map fun s => (l.map (·.2.2) ++ s.1, s.2)) := by
            rcases HCS.out with ⟨_, h1, h2⟩ | ⟨h, _⟩
            · exact ⟨h1, h2⟩
            · cases h
          obtain ⟨hl, HW⟩ := hln
          have HL := hide hl
          clear hl HCS
          have q1 : (j : Int) < (kk : Int) := by omega
          have HS : Hid (M.qs b (kk - j) pp = (M.qn b pp).bind fun r => (M.qs b (kk - (j + 1)) r.2).map fun s => (r.1 :: s.1, s.2)) := by
            show _ = _
            rw [show kk - j = (kk - (j + 1)) + 1 by omega]; rfl
          go_wp2_with fail
          refine (rfname_any w.heap.size (w.heap.size + 1) ao c b pp _ (by exact DD.out)).mono ?_
          intro e w3 h3
          obtain ⟨n, a1, c1, q, bad1, rfl, hO3, hD3, hc3, hm3⟩ := h3.one
          have HQ := hide (qn_of hc3)
          clear h3 hc3
          have hQn : ∀ g, v.ownBlock = some g → g ≠ w3.heap.size := fun g hg => by
            obtain ⟨cur, h⟩ := own_ty OO.out.1 hg
            have h1 := (Array.getElem?_eq_some_iff.1 h).1
            have h2 := hm3.size
            omega
          have hQ : wr.heap.size ≤ w3.heap.size := hm3.size
          have al := (Below.refl w3.heap.size w3).alloc (Nat.le_refl _) (.cells #[.slice a1 n.length c1, .int .u16 0, .int .u16 0] 54)
          have D4 := hide (hD3.below al)
          have O4 := hide ((OO.out.mv DD.out.1 (by decide) (by decide) hm3).below al)
          have N4 := hide ((OwnS.lower (base' := w.heap.size) hO3 BB.out.size).below al)
          have A4 := hide ((row_mv RA.out (by omega) hm3).alloc (.cells #[.slice a1 n.length c1, .int .u16 0, .int .u16 0] 54))
          have Z4 := hide ((row_mv RZ.out (by omega) hm3).alloc (.cells #[.slice a1 n.length c1, .int .u16 0, .int .u16 0] 54))
          have C4 := hide ((row_mv RR.out (by omega) hm3).alloc (.cells #[.slice a1 n.length c1, .int .u16 0, .int .u16 0] 54))
          have Q4 := hide (RowAt.new w3 54 #[.slice a1 n.length c1, .int .u16 0, .int .u16 0])
          have B4 := hide ((BB.out.trans (hm3.below (by omega) BB.out.size)).alloc (Nat.le_trans BB.out.size hm3.size) (.cells #[.slice a1 n.length c1, .int .u16 0, .int .u16 0] 54))
          have t1l := rn2_lt b q bad1
          generalize hr1 : rn2 b q bad1 = r1 at HQ t1l
          obtain ⟨t1, q1', bd1⟩ := r1
          have HR1 := hide hr1
          have t2l := rn2_lt b q1' bd1
          simp only at HQ t1l
          generalize hr2 : rn2 b q1' bd1 = r2 at HQ t2l
          obtain ⟨t2, q2', bd2⟩ := r2
          have HR2 := hide hr2
          simp only at HQ t2l
          have hw1 : IntKind.u16.wrap (t1 : Int) = (t1 : Int) := by rw [IntKind.wrap_u16]; omega
          have hw2 : IntKind.u16.wrap (t2 : Int) = (t2 : Int) := by rw [IntKind.wrap_u16]; omega
          clear hr1 hr2 al hO3 hD3 DD OO RA RZ RR BB hm3 e1 e2 k0 k1 k2 k3
          go_wp2_with fail
          refine (rn_any w.heap.size (w.heap.size + 1) ao c b q bad1 _ (by exact D4.out)).mono ?_
          rw [HR1.out]
          rintro e w5 ⟨rfl, hr, hm⟩
          simp only at hr
          have sq : RowAt w5 w3.heap.size 54 #[.slice a1 n.length c1, .int .u16 0, .int .u16 0] := row_mv Q4.out (by omega) hm
          have z0 : w5.cell? ⟨w3.heap.size, 0, none⟩ = some (.slice a1 n.length c1) := sq.cell 0
          have z1 : w5.cell? ⟨w3.heap.size, 1, none⟩ = some (.int .u16 0) := sq.cell 1
          have z2 : w5.cell? ⟨w3.heap.size, 2, none⟩ = some (.int .u16 0) := sq.cell 2
          have gz : w5.frozen? ⟨w3.heap.size, 1, none⟩ = false := sq.frozen 1
          have ms := Mv.set w3.heap.size 1 w5 (.int .u16 (t1 : Int))
          have D5 := hide (hr.mv (by omega) (by have := B4.out.size; simp at this; omega) ms)
          have o1 := O4.out.mv D4.out.1 (by decide) (by decide) hm
          have O5 : Hid (OwnQ (w5.setCell ⟨w3.heap.size, 1, none⟩ (.int .u16 (t1 : Int))) w.heap.size v l) := hide (ownQ_set o1 sq (by decide) hQn 1 (.int .u16 (t1 : Int)))
          have N5 := hide (ownS_mv (ownS_mv N4.out D4.out.1 (by decide) hm) sq (by decide) ms)
          have A5 := hide (row_mv (row_mv A4.out (by omega) hm) (by omega) ms)
          have Z5 := hide (row_mv (row_mv Z4.out (by omega) hm) (by omega) ms)
          have C5 := hide (row_mv (row_mv C4.out (by omega) hm) (by omega) ms)
          have Q5 : Hid (RowAt (w5.setCell ⟨w3.heap.size, 1, none⟩ (.int .u16 (t1 : Int))) w3.heap.size 54 #[.slice a1 n.length c1, .int .u16 (t1 : Int), .int .u16 0]) := hide (sq.set 1 _)
          have B5 := hide ((B4.out.trans (hm.below (by omega) B4.out.size)).trans (ms.below (by omega) (Nat.le_trans B4.out.size hm.size)))
          clear hr hm sq ms o1 D4 O4 N4 A4 Z4 C4 Q4 B4
          go_wp2_with fail
          refine (rn_any w.heap.size (w.heap.size + 1) ao c b q1' bd1 _ (by exact D5.out)).mono ?_
          rw [HR2.out]
          rintro e w6 ⟨rfl, hr, hm⟩
          simp only at hr
          have sq : RowAt w6 w3.heap.size 54 #[.slice a1 n.length c1, .int .u16 (t1 : Int), .int .u16 0] := row_mv Q5.out (by omega) hm
          have z0 : w6.cell? ⟨w3.heap.size, 0, none⟩ = some (.slice a1 n.length c1) := sq.cell 0
          have z1 : w6.cell? ⟨w3.heap.size, 1, none⟩ = some (.int .u16 (t1 : Int)) := sq.cell 1
          have z2 : w6.cell? ⟨w3.heap.size, 2, none⟩ = some (.int .u16 0) := sq.cell 2
          have gz : w6.frozen? ⟨w3.heap.size, 2, none⟩ = false := sq.frozen 2
          have ms := Mv.set w3.heap.size 2 w6 (.int .u16 (t2 : Int))
          have D6 := hide (hr.mv (by omega) (by have := B5.out.size; simp at this; omega) ms)
          have o1 := O5.out.mv D5.out.1 (by decide) (by decide) hm
          have O6 : Hid (OwnQ (w6.setCell ⟨w3.heap.size, 2, none⟩ (.int .u16 (t2 : Int))) w.heap.size v l) := hide (ownQ_set o1 sq (by decide) hQn 2 (.int .u16 (t2 : Int)))
          have N6 := hide (ownS_mv (ownS_mv N5.out D5.out.1 (by decide) hm) sq (by decide) ms)
          have A6 := hide (row_mv (row_mv A5.out (by omega) hm) (by omega) ms)
          have Z6 := hide (row_mv (row_mv Z5.out (by omega) hm) (by omega) ms)
          have C6 := hide (row_mv (row_mv C5.out (by omega) hm) (by omega) ms)
          have Q6 : Hid (RowAt (w6.setCell ⟨w3.heap.size, 2, none⟩ (.int .u16 (t2 : Int))) w3.heap.size 54 #[.slice a1 n.length c1, .int .u16 (t1 : Int), .int .u16 (t2 : Int)]) := hide (sq.set 2 _)
          have B6 := hide ((B5.out.trans (hm.below (by omega) B5.out.size)).trans (ms.below (by omega) (Nat.le_trans B5.out.size hm.size)))
          clear hr hm sq ms o1 D5 O5 N5 A5 Z5 C5 Q5 B5
          have hsz : (w6.setCell ⟨w3.heap.size, 2, none⟩ (.int .u16 (t2 : Int))).heap.size = w6.heap.size := by simp [World.setCell]
          have qn6 := qc_new (w6.setCell ⟨w3.heap.size, 2, none⟩ (.int .u16 (t2 : Int))) (a1, c1, ⟨n, t1, t2⟩)
          rw [hsz] at qn6
          have QN6 := hide qn6
          have al6 := (Below.refl (w6.setCell ⟨w3.heap.size, 2, none⟩ (.int .u16 (t2 : Int))).heap.size (w6.setCell ⟨w3.heap.size, 2, none⟩ (.int .u16 (t2 : Int)))).alloc (Nat.le_refl _) (.cells (qc (a1, c1, ⟨n, t1, t2⟩)).toArray 54)
          have O7 := hide (O6.out.below al6)
          have N7 := hide (N6.out.below al6)
          have D7 := hide (D6.out.below al6)
          have A7 := hide (A6.out.alloc (.cells (qc (a1, c1, ⟨n, t1, t2⟩)).toArray 54))
          have Z7 := hide (Z6.out.alloc (.cells (qc (a1, c1, ⟨n, t1, t2⟩)).toArray 54))
          have C7 := hide (C6.out.alloc (.cells (qc (a1, c1, ⟨n, t1, t2⟩)).toArray 54))
          have B7 := hide (B6.out.alloc B6.out.size (.cells (qc (a1, c1, ⟨n, t1, t2⟩)).toArray 54))
          have y8 : (w6.setCell ⟨w3.heap.size, 2, none⟩ (.int .u16 (t2 : Int))).cell? ⟨w.heap.size + 2, 8, none⟩ = some v := A6.out.cell 8
          have s0 : (w6.setCell ⟨w3.heap.size, 2, none⟩ (.int .u16 (t2 : Int))).cell? ⟨w3.heap.size, 0, none⟩ = some (.slice a1 n.length c1) := Q6.out.cell 0
          have s1 : (w6.setCell ⟨w3.heap.size, 2, none⟩ (.int .u16 (t2 : Int))).cell? ⟨w3.heap.size, 1, none⟩ = some (.int .u16 (t1 : Int)) := Q6.out.cell 1
          have s2 : (w6.setCell ⟨w3.heap.size, 2, none⟩ (.int .u16 (t2 : Int))).cell? ⟨w3.heap.size, 2, none⟩ = some (.int .u16 (t2 : Int)) := Q6.out.cell 2
          have hb7 : w.heap.size ≤ w6.heap.size := by have h := B6.out.size; rw [hsz] at h; exact h
          clear qn6 al6 O6 N6 D6 A6 Z6 C6 Q6 B6
          go_wp2_with (at_builtin; refine wpList_append_Q rfl (.tmp 94) (.tmp 96) rfl w.heap.size v l rfl (by exact O7.out) ⟨w6.heap.size, 0, none⟩ 1 (a1, c1, ⟨n, t1, t2⟩) rfl (by exact QN6.out) (by exact N7.out) (by have := HL.out; omega) (by have := B7.out.size; simp at this ⊢; omega) ?_; intro v8 w8 hO8 hG8; obtain ⟨a8, c8, rfl⟩ := hO8.form; have O8 := hide hO8; have D8 := hide (D7.out.grown O7.out.1 (by decide) (Nat.le_refl _) (by exact hG8)); have A8 := hide (row_grownO A7.out O7.out.1 (by decide) (by exact hG8)); have Z8 := hide (row_grownO Z7.out O7.out.1 (by decide) (by exact hG8)); have C8 := hide (row_grownO C7.out O7.out.1 (by decide) (by exact hG8)); have B8 := hide (grown_belowO B7.out O7.out.1 (by exact hG8)); have u8 : w8.cell? ⟨w.heap.size + 2, 8, none⟩ = some v := A8.out.cell 8; have u9 : w8.frozen? ⟨w.heap.size + 2, 8, none⟩ = false := A8.out.frozen 8; clear hO8 hG8)
          have e9 : (l ++ [(a1, c1, (⟨n, t1, t2⟩ : M.Q))]).length = l.length + 1 := by simp
          rw [e9] at O8
          have ms8 := Mv.set (w.heap.size + 2) 8 w8 (.slice a8 (l.length + 1) c8)
          have DF := hide (D8.out.mv (by omega) (by omega) ms8)
          have OF := hide (O8.out.mv A8.out (by decide) (by decide) ms8)
          have AF := hide (A8.out.set 8 (.slice a8 (l.length + 1) c8))
          have ZF := hide (row_mv Z8.out (by omega) ms8)
          have CF := hide (row_mv C8.out (by omega) ms8)
          have BF := hide (B8.out.trans (ms8.below (by omega) B8.out.size))
          clear ms8 D8 O8 A8 Z8 C8 B8 D7 O7 A7 Z7 C7 B7 N7 u8 u9 y8 s0 s1 s2 QN6 z0 z1 z2 gz
          refine ⟨?_, ?measure⟩
          refine ⟨_, _, _, _, _, _, _, _, _, _, _, _, _, _, _, _, _, _, _, _, _, _, _, _, _, _, _, _, _, _, _, _, ?rel, rfl⟩
          case rel =>
            refine ⟨j + 1, q2', _, l ++ [(a1, c1, ⟨n, t1, t2⟩)], bd2, by go_num, by omega, DF.out, OF.out, AF.out, ZF.out, CF.out, BF.out, ?_⟩
            rcases HQ.out with ⟨h1, h2⟩ | ⟨h1, h2⟩
            · refine Or.inl ⟨h1, by rw [e9, HL.out], ?_⟩
              show _ = _
              rw [HW.out, HS.out, h2]
              simp [Option.map_map, Function.comp_def]
            · refine Or.inr ⟨h1, ?_⟩
              show _ = _
              rw [HW.out, HS.out, h2]; rfl
          case measure =>
            have h1 := HBD.out
            have h2 := badOf_at DF.out
            unfold msr
            rw [h1, h2]
            simp [intOf]
            split <;> omega
        · have HFIN : Hid ((bad = false ∧ M.qs b kk 12 = some (l.map (·.2.2), pp)) ∨ (bad = true ∧ M.qs b kk 12 = none)) := by
            rcases HCS.out with ⟨h1, h2, h3⟩ | ⟨h1, h2⟩
            · have hjk : j = kk := by
                have : ¬ j < kk := fun h => hgo ⟨h, h1⟩
                omega
              refine Or.inl ⟨h1, ?_⟩
              rw [h3.out, hjk, Nat.sub_self]
              simp [M.qs]
            · exact Or.inr ⟨h1, h2.out⟩
          have hcs : (j < kk ∧ bad = true) ∨ ¬ j < kk := by
            by_cases h : j < kk
            · refine Or.inl ⟨h, ?_⟩
              cases bad
              · exact absurd ⟨h, rfl⟩ hgo
              · rfl
            · exact Or.inr h
          obtain ⟨av, cv, rfl⟩ := OO.out.form
          clear HCS hgo
          rcases hcs with ⟨hjk, rfl⟩ | hjk
          · have q1 : (j : Int) < (kk : Int) := by omega
            go_wp2
            go_loopw [11] (fun iv wx => ∃ s : Nat, iv = .int .i64 (s : Int) ∧ 1 ≤ s ∧ s ≤ 4 ∧ wr = wx) (fun iv _ => 4 - (intOf iv).toNat)
            case atStart => exact ⟨1, rfl, by omega, by omega, rfl⟩
            case round =>
              obtain ⟨s, rfl, hs1, hs4, rfl⟩ := hrel
              by_cases h4 : s < 4
              · have q2 : (s : Int) < 4 := by omega
                have kc : wr.cell? ⟨C, s, none⟩ = some (.int .i64 0) := by
                  have hss : s = 1 ∨ s = 2 ∨ s = 3 := by omega
                  rcases hss with rfl | rfl | rfl
                  · exact k1
                  · exact k2
                  · exact k3
                clear k0 k1 k2 k3
                go_wp2
                go_loopw [12] (fun iv wx => iv = .int .i64 0 ∧ wr = wx) (fun _ _ => 0)
                case atStart => exact ⟨rfl, rfl⟩
                case round =>
                  obtain ⟨rfl, rfl⟩ := hrel
                  go_wp2
                  exact ⟨⟨s + 1, by go_num, by omega, by omega, trivial⟩, by simp [intOf]; omega⟩
              · obtain rfl : s = 4 := by omega
                have HN : Hid (M.msgq b = none) := by
                  rcases HFIN.out with ⟨h, _⟩ | ⟨_, hqs⟩
                  · cases h
                  · show _ = _
                    rw [HI.out, hqs]; rfl
                have a0 : wr.cell? ⟨w.heap.size, 0, none⟩ = some (.int .u16 0) := RZ.out.cell 0
                have b0 : wr.frozen? ⟨w.heap.size, 0, none⟩ = false := RZ.out.frozen 0
                have a1 : wr.cell? ⟨w.heap.size, 1, none⟩ = some (.bool false) := RZ.out.cell 1
                have b1 : wr.frozen? ⟨w.heap.size, 1, none⟩ = false := RZ.out.frozen 1
                have a2 : wr.cell? ⟨w.heap.size, 2, none⟩ = some (.int .i64 0) := RZ.out.cell 2
                have b2 : wr.frozen? ⟨w.heap.size, 2, none⟩ = false := RZ.out.frozen 2
                have a3 : wr.cell? ⟨w.heap.size, 3, none⟩ = some (.bool false) := RZ.out.cell 3
                have b3 : wr.frozen? ⟨w.heap.size, 3, none⟩ = false := RZ.out.frozen 3
                have a4 : wr.cell? ⟨w.heap.size, 4, none⟩ = some (.bool false) := RZ.out.cell 4
                have b4 : wr.frozen? ⟨w.heap.size, 4, none⟩ = false := RZ.out.frozen 4
                have a5 : wr.cell? ⟨w.heap.size, 5, none⟩ = some (.bool false) := RZ.out.cell 5
                have b5 : wr.frozen? ⟨w.heap.size, 5, none⟩ = false := RZ.out.frozen 5
                have a6 : wr.cell? ⟨w.heap.size, 6, none⟩ = some (.bool false) := RZ.out.cell 6
                have b6 : wr.frozen? ⟨w.heap.size, 6, none⟩ = false := RZ.out.frozen 6
                have a7 : wr.cell? ⟨w.heap.size, 7, none⟩ = some (.int .i64 0) := RZ.out.cell 7
                have b7 : wr.frozen? ⟨w.heap.size, 7, none⟩ = false := RZ.out.frozen 7
                have a8 : wr.cell? ⟨w.heap.size, 8, none⟩ = some (.slice none 0 0) := RZ.out.cell 8
                have b8 : wr.frozen? ⟨w.heap.size, 8, none⟩ = false := RZ.out.frozen 8
                have a9 : wr.cell? ⟨w.heap.size, 9, none⟩ = some (.slice none 0 0) := RZ.out.cell 9
                have b9 : wr.frozen? ⟨w.heap.size, 9, none⟩ = false := RZ.out.frozen 9
                have a10 : wr.cell? ⟨w.heap.size, 10, none⟩ = some (.slice none 0 0) := RZ.out.cell 10
                have b10 : wr.frozen? ⟨w.heap.size, 10, none⟩ = false := RZ.out.frozen 10
                have a11 : wr.cell? ⟨w.heap.size, 11, none⟩ = some (.slice none 0 0) := RZ.out.cell 11
                have b11 : wr.frozen? ⟨w.heap.size, 11, none⟩ = false := RZ.out.frozen 11
                have a12 : wr.cell? ⟨w.heap.size, 12, none⟩ = some (.bool false) := RZ.out.cell 12
                have b12 : wr.frozen? ⟨w.heap.size, 12, none⟩ = false := RZ.out.frozen 12
                have a13 : wr.cell? ⟨w.heap.size, 13, none⟩ = some (.int .u16 0) := RZ.out.cell 13
                have b13 : wr.frozen? ⟨w.heap.size, 13, none⟩ = false := RZ.out.frozen 13
                have a14 : wr.cell? ⟨w.heap.size, 14, none⟩ = some (.bool false) := RZ.out.cell 14
                have b14 : wr.frozen? ⟨w.heap.size, 14, none⟩ = false := RZ.out.frozen 14
                go_wp2
                have s0 : RowAt (wr.setCell ⟨w.heap.size, 0, none⟩ (.int .u16 0)) (w.heap.size) 28 #[.int .u16 0, .bool false, .int .i64 0, .bool false, .bool false, .bool false, .bool false, .int .i64 0, .slice none 0 0, .slice none 0 0, .slice none 0 0, .slice none 0 0, .bool false, .int .u16 0, .bool false] := RZ.out.same 0 rfl
                have s1 : RowAt ((wr.setCell ⟨w.heap.size, 0, none⟩ (.int .u16 0)).setCell ⟨w.heap.size, 1, none⟩ (.bool false)) (w.heap.size) 28 #[.int .u16 0, .bool false, .int .i64 0, .bool false, .bool false, .bool false, .bool false, .int .i64 0, .slice none 0 0, .slice none 0 0, .slice none 0 0, .slice none 0 0, .bool false, .int .u16 0, .bool false] := s0.same 1 rfl
                have s2 : RowAt (((wr.setCell ⟨w.heap.size, 0, none⟩ (.int .u16 0)).setCell ⟨w.heap.size, 1, none⟩ (.bool false)).setCell ⟨w.heap.size, 2, none⟩ (.int .i64 0)) (w.heap.size) 28 #[.int .u16 0, .bool false, .int .i64 0, .bool false, .bool false, .bool false, .bool false, .int .i64 0, .slice none 0 0, .slice none 0 0, .slice none 0 0, .slice none 0 0, .bool false, .int .u16 0, .bool false] := s1.same 2 rfl
                have s3 : RowAt ((((wr.setCell ⟨w.heap.size, 0, none⟩ (.int .u16 0)).setCell ⟨w.heap.size, 1, none⟩ (.bool false)).setCell ⟨w.heap.size, 2, none⟩ (.int .i64 0)).setCell ⟨w.heap.size, 3, none⟩ (.bool false)) (w.heap.size) 28 #[.int .u16 0, .bool false, .int .i64 0, .bool false, .bool false, .bool false, .bool false, .int .i64 0, .slice none 0 0, .slice none 0 0, .slice none 0 0, .slice none 0 0, .bool false, .int .u16 0, .bool false] := s2.same 3 rfl
                have s4 : RowAt (((((wr.setCell ⟨w.heap.size, 0, none⟩ (.int .u16 0)).setCell ⟨w.heap.size, 1, none⟩ (.bool false)).setCell ⟨w.heap.size, 2, none⟩ (.int .i64 0)).setCell ⟨w.heap.size, 3, none⟩ (.bool false)).setCell ⟨w.heap.size, 4, none⟩ (.bool false)) (w.heap.size) 28 #[.int .u16 0, .bool false, .int .i64 0, .bool false, .bool false, .bool false, .bool false, .int .i64 0, .slice none 0 0, .slice none 0 0, .slice none 0 0, .slice none 0 0, .bool false, .int .u16 0, .bool false] := s3.same 4 rfl
                have s5 : RowAt ((((((wr.setCell ⟨w.heap.size, 0, none⟩ (.int .u16 0)).setCell ⟨w.heap.size, 1, none⟩ (.bool false)).setCell ⟨w.heap.size, 2, none⟩ (.int .i64 0)).setCell ⟨w.heap.size, 3, none⟩ (.bool false)).setCell ⟨w.heap.size, 4, none⟩ (.bool false)).setCell ⟨w.heap.size, 5, none⟩ (.bool false)) (w.heap.size) 28 #[.int .u16 0, .bool false, .int .i64 0, .bool false, .bool false, .bool false, .bool false, .int .i64 0, .slice none 0 0, .slice none 0 0, .slice none 0 0, .slice none 0 0, .bool false, .int .u16 0, .bool false] := s4.same 5 rfl
                have s6 : RowAt (((((((wr.setCell ⟨w.heap.size, 0, none⟩ (.int .u16 0)).setCell ⟨w.heap.size, 1, none⟩ (.bool false)).setCell ⟨w.heap.size, 2, none⟩ (.int .i64 0)).setCell ⟨w.heap.size, 3, none⟩ (.bool false)).setCell ⟨w.heap.size, 4, none⟩ (.bool false)).setCell ⟨w.heap.size, 5, none⟩ (.bool false)).setCell ⟨w.heap.size, 6, none⟩ (.bool false)) (w.heap.size) 28 #[.int .u16 0, .bool false, .int .i64 0, .bool false, .bool false, .bool false, .bool false, .int .i64 0, .slice none 0 0, .slice none 0 0, .slice none 0 0, .slice none 0 0, .bool false, .int .u16 0, .bool false] := s5.same 6 rfl
                have s7 : RowAt ((((((((wr.setCell ⟨w.heap.size, 0, none⟩ (.int .u16 0)).setCell ⟨w.heap.size, 1, none⟩ (.bool false)).setCell ⟨w.heap.size, 2, none⟩ (.int .i64 0)).setCell ⟨w.heap.size, 3, none⟩ (.bool false)).setCell ⟨w.heap.size, 4, none⟩ (.bool false)).setCell ⟨w.heap.size, 5, none⟩ (.bool false)).setCell ⟨w.heap.size, 6, none⟩ (.bool false)).setCell ⟨w.heap.size, 7, none⟩ (.int .i64 0)) (w.heap.size) 28 #[.int .u16 0, .bool false, .int .i64 0, .bool false, .bool false, .bool false, .bool false, .int .i64 0, .slice none 0 0, .slice none 0 0, .slice none 0 0, .slice none 0 0, .bool false, .int .u16 0, .bool false] := s6.same 7 rfl
                have s8 : RowAt (((((((((wr.setCell ⟨w.heap.size, 0, none⟩ (.int .u16 0)).setCell ⟨w.heap.size, 1, none⟩ (.bool false)).setCell ⟨w.heap.size, 2, none⟩ (.int .i64 0)).setCell ⟨w.heap.size, 3, none⟩ (.bool false)).setCell ⟨w.heap.size, 4, none⟩ (.bool false)).setCell ⟨w.heap.size, 5, none⟩ (.bool false)).setCell ⟨w.heap.size, 6, none⟩ (.bool false)).setCell ⟨w.heap.size, 7, none⟩ (.int .i64 0)).setCell ⟨w.heap.size, 8, none⟩ (.slice none 0 0)) (w.heap.size) 28 #[.int .u16 0, .bool false, .int .i64 0, .bool false, .bool false, .bool false, .bool false, .int .i64 0, .slice none 0 0, .slice none 0 0, .slice none 0 0, .slice none 0 0, .bool false, .int .u16 0, .bool false] := s7.same 8 rfl
                have s9 : RowAt ((((((((((wr.setCell ⟨w.heap.size, 0, none⟩ (.int .u16 0)).setCell ⟨w.heap.size, 1, none⟩ (.bool false)).setCell ⟨w.heap.size, 2, none⟩ (.int .i64 0)).setCell ⟨w.heap.size, 3, none⟩ (.bool false)).setCell ⟨w.heap.size, 4, none⟩ (.bool false)).setCell ⟨w.heap.size, 5, none⟩ (.bool false)).setCell ⟨w.heap.size, 6, none⟩ (.bool false)).setCell ⟨w.heap.size, 7, none⟩ (.int .i64 0)).setCell ⟨w.heap.size, 8, none⟩ (.slice none 0 0)).setCell ⟨w.heap.size, 9, none⟩ (.slice none 0 0)) (w.heap.size) 28 #[.int .u16 0, .bool false, .int .i64 0, .bool false, .bool false, .bool false, .bool false, .int .i64 0, .slice none 0 0, .slice none 0 0, .slice none 0 0, .slice none 0 0, .bool false, .int .u16 0, .bool false] := s8.same 9 rfl
                have s10 : RowAt (((((((((((wr.setCell ⟨w.heap.size, 0, none⟩ (.int .u16 0)).setCell ⟨w.heap.size, 1, none⟩ (.bool false)).setCell ⟨w.heap.size, 2, none⟩ (.int .i64 0)).setCell ⟨w.heap.size, 3, none⟩ (.bool false)).setCell ⟨w.heap.size, 4, none⟩ (.bool false)).setCell ⟨w.heap.size, 5, none⟩ (.bool false)).setCell ⟨w.heap.size, 6, none⟩ (.bool false)).setCell ⟨w.heap.size, 7, none⟩ (.int .i64 0)).setCell ⟨w.heap.size, 8, none⟩ (.slice none 0 0)).setCell ⟨w.heap.size, 9, none⟩ (.slice none 0 0)).setCell ⟨w.heap.size, 10, none⟩ (.slice none 0 0)) (w.heap.size) 28 #[.int .u16 0, .bool false, .int .i64 0, .bool false, .bool false, .bool false, .bool false, .int .i64 0, .slice none 0 0, .slice none 0 0, .slice none 0 0, .slice none 0 0, .bool false, .int .u16 0, .bool false] := s9.same 10 rfl
                have s11 : RowAt ((((((((((((wr.setCell ⟨w.heap.size, 0, none⟩ (.int .u16 0)).setCell ⟨w.heap.size, 1, none⟩ (.bool false)).setCell ⟨w.heap.size, 2, none⟩ (.int .i64 0)).setCell ⟨w.heap.size, 3, none⟩ (.bool false)).setCell ⟨w.heap.size, 4, none⟩ (.bool false)).setCell ⟨w.heap.size, 5, none⟩ (.bool false)).setCell ⟨w.heap.size, 6, none⟩ (.bool false)).setCell ⟨w.heap.size, 7, none⟩ (.int .i64 0)).setCell ⟨w.heap.size, 8, none⟩ (.slice none 0 0)).setCell ⟨w.heap.size, 9, none⟩ (.slice none 0 0)).setCell ⟨w.heap.size, 10, none⟩ (.slice none 0 0)).setCell ⟨w.heap.size, 11, none⟩ (.slice none 0 0)) (w.heap.size) 28 #[.int .u16 0, .bool false, .int .i64 0, .bool false, .bool false, .bool false, .bool false, .int .i64 0, .slice none 0 0, .slice none 0 0, .slice none 0 0, .slice none 0 0, .bool false, .int .u16 0, .bool false] := s10.same 11 rfl
                have s12 : RowAt (((((((((((((wr.setCell ⟨w.heap.size, 0, none⟩ (.int .u16 0)).setCell ⟨w.heap.size, 1, none⟩ (.bool false)).setCell ⟨w.heap.size, 2, none⟩ (.int .i64 0)).setCell ⟨w.heap.size, 3, none⟩ (.bool false)).setCell ⟨w.heap.size, 4, none⟩ (.bool false)).setCell ⟨w.heap.size, 5, none⟩ (.bool false)).setCell ⟨w.heap.size, 6, none⟩ (.bool false)).setCell ⟨w.heap.size, 7, none⟩ (.int .i64 0)).setCell ⟨w.heap.size, 8, none⟩ (.slice none 0 0)).setCell ⟨w.heap.size, 9, none⟩ (.slice none 0 0)).setCell ⟨w.heap.size, 10, none⟩ (.slice none 0 0)).setCell ⟨w.heap.size, 11, none⟩ (.slice none 0 0)).setCell ⟨w.heap.size, 12, none⟩ (.bool false)) (w.heap.size) 28 #[.int .u16 0, .bool false, .int .i64 0, .bool false, .bool false, .bool false, .bool false, .int .i64 0, .slice none 0 0, .slice none 0 0, .slice none 0 0, .slice none 0 0, .bool false, .int .u16 0, .bool false] := s11.same 12 rfl
                have s13 : RowAt ((((((((((((((wr.setCell ⟨w.heap.size, 0, none⟩ (.int .u16 0)).setCell ⟨w.heap.size, 1, none⟩ (.bool false)).setCell ⟨w.heap.size, 2, none⟩ (.int .i64 0)).setCell ⟨w.heap.size, 3, none⟩ (.bool false)).setCell ⟨w.heap.size, 4, none⟩ (.bool false)).setCell ⟨w.heap.size, 5, none⟩ (.bool false)).setCell ⟨w.heap.size, 6, none⟩ (.bool false)).setCell ⟨w.heap.size, 7, none⟩ (.int .i64 0)).setCell ⟨w.heap.size, 8, none⟩ (.slice none 0 0)).setCell ⟨w.heap.size, 9, none⟩ (.slice none 0 0)).setCell ⟨w.heap.size, 10, none⟩ (.slice none 0 0)).setCell ⟨w.heap.size, 11, none⟩ (.slice none 0 0)).setCell ⟨w.heap.size, 12, none⟩ (.bool false)).setCell ⟨w.heap.size, 13, none⟩ (.int .u16 0)) (w.heap.size) 28 #[.int .u16 0, .bool false, .int .i64 0, .bool false, .bool false, .bool false, .bool false, .int .i64 0, .slice none 0 0, .slice none 0 0, .slice none 0 0, .slice none 0 0, .bool false, .int .u16 0, .bool false] := s12.same 13 rfl
                have s14 : RowAt (((((((((((((((wr.setCell ⟨w.heap.size, 0, none⟩ (.int .u16 0)).setCell ⟨w.heap.size, 1, none⟩ (.bool false)).setCell ⟨w.heap.size, 2, none⟩ (.int .i64 0)).setCell ⟨w.heap.size, 3, none⟩ (.bool false)).setCell ⟨w.heap.size, 4, none⟩ (.bool false)).setCell ⟨w.heap.size, 5, none⟩ (.bool false)).setCell ⟨w.heap.size, 6, none⟩ (.bool false)).setCell ⟨w.heap.size, 7, none⟩ (.int .i64 0)).setCell ⟨w.heap.size, 8, none⟩ (.slice none 0 0)).setCell ⟨w.heap.size, 9, none⟩ (.slice none 0 0)).setCell ⟨w.heap.size, 10, none⟩ (.slice none 0 0)).setCell ⟨w.heap.size, 11, none⟩ (.slice none 0 0)).setCell ⟨w.heap.size, 12, none⟩ (.bool false)).setCell ⟨w.heap.size, 13, none⟩ (.int .u16 0)).setCell ⟨w.heap.size, 14, none⟩ (.bool false)) (w.heap.size) 28 #[.int .u16 0, .bool false, .int .i64 0, .bool false, .bool false, .bool false, .bool false, .int .i64 0, .slice none 0 0, .slice none 0 0, .slice none 0 0, .slice none 0 0, .bool false, .int .u16 0, .bool false] := s13.same 14 rfl
                have mm := (((((((((((((((Mv.refl (w.heap.size) wr).trans (Mv.set (w.heap.size) 0 _ (.int .u16 0))).trans (Mv.set (w.heap.size) 1 _ (.bool false))).trans (Mv.set (w.heap.size) 2 _ (.int .i64 0))).trans (Mv.set (w.heap.size) 3 _ (.bool false))).trans (Mv.set (w.heap.size) 4 _ (.bool false))).trans (Mv.set (w.heap.size) 5 _ (.bool false))).trans (Mv.set (w.heap.size) 6 _ (.bool false))).trans (Mv.set (w.heap.size) 7 _ (.int .i64 0))).trans (Mv.set (w.heap.size) 8 _ (.slice none 0 0))).trans (Mv.set (w.heap.size) 9 _ (.slice none 0 0))).trans (Mv.set (w.heap.size) 10 _ (.slice none 0 0))).trans (Mv.set (w.heap.size) 11 _ (.slice none 0 0))).trans (Mv.set (w.heap.size) 12 _ (.bool false))).trans (Mv.set (w.heap.size) 13 _ (.int .u16 0))).trans (Mv.set (w.heap.size) 14 _ (.bool false))
                have bx : Below w.heap.size w (((((((((((((((wr.setCell ⟨w.heap.size, 0, none⟩ (.int .u16 0)).setCell ⟨w.heap.size, 1, none⟩ (.bool false)).setCell ⟨w.heap.size, 2, none⟩ (.int .i64 0)).setCell ⟨w.heap.size, 3, none⟩ (.bool false)).setCell ⟨w.heap.size, 4, none⟩ (.bool false)).setCell ⟨w.heap.size, 5, none⟩ (.bool false)).setCell ⟨w.heap.size, 6, none⟩ (.bool false)).setCell ⟨w.heap.size, 7, none⟩ (.int .i64 0)).setCell ⟨w.heap.size, 8, none⟩ (.slice none 0 0)).setCell ⟨w.heap.size, 9, none⟩ (.slice none 0 0)).setCell ⟨w.heap.size, 10, none⟩ (.slice none 0 0)).setCell ⟨w.heap.size, 11, none⟩ (.slice none 0 0)).setCell ⟨w.heap.size, 12, none⟩ (.bool false)).setCell ⟨w.heap.size, 13, none⟩ (.int .u16 0)).setCell ⟨w.heap.size, 14, none⟩ (.bool false)) := BB.out.trans (mm.below (Nat.le_refl _) BB.out.size)
                clear s0 s1 s2 s3 s4 s5 s6 s7 s8 s9 s10 s11 s12 s13 a0 b0 a1 b1 a2 b2 a3 b3 a4 b4 a5 b5 a6 b6 a7 b7 a8 b8 a9 b9 a10 b10 a11 b11 a12 b12 a13 b13 a14 b14 mm
                generalize (((((((((((((((wr.setCell ⟨w.heap.size, 0, none⟩ (.int .u16 0)).setCell ⟨w.heap.size, 1, none⟩ (.bool false)).setCell ⟨w.heap.size, 2, none⟩ (.int .i64 0)).setCell ⟨w.heap.size, 3, none⟩ (.bool false)).setCell ⟨w.heap.size, 4, none⟩ (.bool false)).setCell ⟨w.heap.size, 5, none⟩ (.bool false)).setCell ⟨w.heap.size, 6, none⟩ (.bool false)).setCell ⟨w.heap.size, 7, none⟩ (.int .i64 0)).setCell ⟨w.heap.size, 8, none⟩ (.slice none 0 0)).setCell ⟨w.heap.size, 9, none⟩ (.slice none 0 0)).setCell ⟨w.heap.size, 10, none⟩ (.slice none 0 0)).setCell ⟨w.heap.size, 11, none⟩ (.slice none 0 0)).setCell ⟨w.heap.size, 12, none⟩ (.bool false)).setCell ⟨w.heap.size, 13, none⟩ (.int .u16 0)).setCell ⟨w.heap.size, 14, none⟩ (.bool false)) = X at s14 bx ⊢
                have z0 : X.cell? ⟨w.heap.size, 0, none⟩ = some (.int .u16 0) := s14.cell 0
                have z1 : X.cell? ⟨w.heap.size, 1, none⟩ = some (.bool false) := s14.cell 1
                have z2 : X.cell? ⟨w.heap.size, 2, none⟩ = some (.int .i64 0) := s14.cell 2
                have z3 : X.cell? ⟨w.heap.size, 3, none⟩ = some (.bool false) := s14.cell 3
                have z4 : X.cell? ⟨w.heap.size, 4, none⟩ = some (.bool false) := s14.cell 4
                have z5 : X.cell? ⟨w.heap.size, 5, none⟩ = some (.bool false) := s14.cell 5
                have z6 : X.cell? ⟨w.heap.size, 6, none⟩ = some (.bool false) := s14.cell 6
                have z7 : X.cell? ⟨w.heap.size, 7, none⟩ = some (.int .i64 0) := s14.cell 7
                have z8 : X.cell? ⟨w.heap.size, 8, none⟩ = some (.slice none 0 0) := s14.cell 8
                have z9 : X.cell? ⟨w.heap.size, 9, none⟩ = some (.slice none 0 0) := s14.cell 9
                have z10 : X.cell? ⟨w.heap.size, 10, none⟩ = some (.slice none 0 0) := s14.cell 10
                have z11 : X.cell? ⟨w.heap.size, 11, none⟩ = some (.slice none 0 0) := s14.cell 11
                have z12 : X.cell? ⟨w.heap.size, 12, none⟩ = some (.bool false) := s14.cell 12
                have z13 : X.cell? ⟨w.heap.size, 13, none⟩ = some (.int .u16 0) := s14.cell 13
                have z14 : X.cell? ⟨w.heap.size, 14, none⟩ = some (.bool false) := s14.cell 14
                simp [bodyPost, results, Tryz.results11, go_sem, z0, z1, z2, z3, z4, z5, z6, z7, z8, z9, z10, z11, z12, z13, z14]
                exact ⟨⟨HN.out, rfl⟩, bx⟩
          · have q1 : ¬ (j : Int) < (kk : Int) := by omega
            go_wp2
            go_loopw [11] (fun iv wx => ∃ s : Nat, iv = .int .i64 (s : Int) ∧ 1 ≤ s ∧ s ≤ 4 ∧ wr = wx) (fun iv _ => 4 - (intOf iv).toNat)
            case atStart => exact ⟨1, rfl, by omega, by omega, rfl⟩
            case round =>
              obtain ⟨s, rfl, hs1, hs4, rfl⟩ := hrel
              by_cases h4 : s < 4
              · have q2 : (s : Int) < 4 := by omega
                have kc : wr.cell? ⟨C, s, none⟩ = some (.int .i64 0) := by
                  have hss : s = 1 ∨ s = 2 ∨ s = 3 := by omega
                  rcases hss with rfl | rfl | rfl
                  · exact k1
                  · exact k2
                  · exact k3
                clear k0 k1 k2 k3
                go_wp2
                go_loopw [12] (fun iv wx => iv = .int .i64 0 ∧ wr = wx) (fun _ _ => 0)
                case atStart => exact ⟨rfl, rfl⟩
                case round =>
                  obtain ⟨rfl, rfl⟩ := hrel
                  go_wp2
                  exact ⟨⟨s + 1, by go_num, by omega, by omega, trivial⟩, by simp [intOf]; omega⟩
              · obtain rfl : s = 4 := by omega
                rcases HFIN.out with ⟨rfl, hqs⟩ | ⟨rfl, hqs⟩
                · by_cases hp : pp = b.length
                  · have q5 : ((pp : Int) != (b.length : Int)) = false := by rw [hp]; simp
                    have HN : Hid (M.msgq b = some (i, 0, l.map (·.2.2))) := by
                      show _ = _
                      rw [HI.out, hqs]
                      simp only [Option.bind_some]
                      rw [if_pos hp]
                    clear hqs
                    have a0 : wr.cell? ⟨w.heap.size, 0, none⟩ = some (.int .u16 0) := RZ.out.cell 0
                    have b0 : wr.frozen? ⟨w.heap.size, 0, none⟩ = false := RZ.out.frozen 0
                    have a1 : wr.cell? ⟨w.heap.size, 1, none⟩ = some (.bool false) := RZ.out.cell 1
                    have b1 : wr.frozen? ⟨w.heap.size, 1, none⟩ = false := RZ.out.frozen 1
                    have a2 : wr.cell? ⟨w.heap.size, 2, none⟩ = some (.int .i64 0) := RZ.out.cell 2
                    have b2 : wr.frozen? ⟨w.heap.size, 2, none⟩ = false := RZ.out.frozen 2
                    have a3 : wr.cell? ⟨w.heap.size, 3, none⟩ = some (.bool false) := RZ.out.cell 3
                    have b3 : wr.frozen? ⟨w.heap.size, 3, none⟩ = false := RZ.out.frozen 3
                    have a4 : wr.cell? ⟨w.heap.size, 4, none⟩ = some (.bool false) := RZ.out.cell 4
                    have b4 : wr.frozen? ⟨w.heap.size, 4, none⟩ = false := RZ.out.frozen 4
                    have a5 : wr.cell? ⟨w.heap.size, 5, none⟩ = some (.bool false) := RZ.out.cell 5
                    have b5 : wr.frozen? ⟨w.heap.size, 5, none⟩ = false := RZ.out.frozen 5
                    have a6 : wr.cell? ⟨w.heap.size, 6, none⟩ = some (.bool false) := RZ.out.cell 6
                    have b6 : wr.frozen? ⟨w.heap.size, 6, none⟩ = false := RZ.out.frozen 6
                    have a7 : wr.cell? ⟨w.heap.size, 7, none⟩ = some (.int .i64 0) := RZ.out.cell 7
                    have b7 : wr.frozen? ⟨w.heap.size, 7, none⟩ = false := RZ.out.frozen 7
                    have a8 : wr.cell? ⟨w.heap.size, 8, none⟩ = some (.slice none 0 0) := RZ.out.cell 8
                    have b8 : wr.frozen? ⟨w.heap.size, 8, none⟩ = false := RZ.out.frozen 8
                    have a9 : wr.cell? ⟨w.heap.size, 9, none⟩ = some (.slice none 0 0) := RZ.out.cell 9
                    have b9 : wr.frozen? ⟨w.heap.size, 9, none⟩ = false := RZ.out.frozen 9
                    have a10 : wr.cell? ⟨w.heap.size, 10, none⟩ = some (.slice none 0 0) := RZ.out.cell 10
                    have b10 : wr.frozen? ⟨w.heap.size, 10, none⟩ = false := RZ.out.frozen 10
                    have a11 : wr.cell? ⟨w.heap.size, 11, none⟩ = some (.slice none 0 0) := RZ.out.cell 11
                    have b11 : wr.frozen? ⟨w.heap.size, 11, none⟩ = false := RZ.out.frozen 11
                    have a12 : wr.cell? ⟨w.heap.size, 12, none⟩ = some (.bool false) := RZ.out.cell 12
                    have b12 : wr.frozen? ⟨w.heap.size, 12, none⟩ = false := RZ.out.frozen 12
                    have a13 : wr.cell? ⟨w.heap.size, 13, none⟩ = some (.int .u16 0) := RZ.out.cell 13
                    have b13 : wr.frozen? ⟨w.heap.size, 13, none⟩ = false := RZ.out.frozen 13
                    have a14 : wr.cell? ⟨w.heap.size, 14, none⟩ = some (.bool false) := RZ.out.cell 14
                    have b14 : wr.frozen? ⟨w.heap.size, 14, none⟩ = false := RZ.out.frozen 14
                    have d0 : wr.cell? ⟨w.heap.size + 2, 0, none⟩ = some (.int .u16 (i : Int)) := RA.out.cell 0
                    have d1 : wr.cell? ⟨w.heap.size + 2, 1, none⟩ = some (.bool false) := RA.out.cell 1
                    have d2 : wr.cell? ⟨w.heap.size + 2, 2, none⟩ = some (.int .i64 0) := RA.out.cell 2
                    have d3 : wr.cell? ⟨w.heap.size + 2, 3, none⟩ = some (.bool false) := RA.out.cell 3
                    have d4 : wr.cell? ⟨w.heap.size + 2, 4, none⟩ = some (.bool false) := RA.out.cell 4
                    have d5 : wr.cell? ⟨w.heap.size + 2, 5, none⟩ = some (.bool false) := RA.out.cell 5
                    have d6 : wr.cell? ⟨w.heap.size + 2, 6, none⟩ = some (.bool false) := RA.out.cell 6
                    have d7 : wr.cell? ⟨w.heap.size + 2, 7, none⟩ = some (.int .i64 0) := RA.out.cell 7
                    have d8 : wr.cell? ⟨w.heap.size + 2, 8, none⟩ = some (.slice av l.length cv) := RA.out.cell 8
                    have d9 : wr.cell? ⟨w.heap.size + 2, 9, none⟩ = some (.slice none 0 0) := RA.out.cell 9
                    have d10 : wr.cell? ⟨w.heap.size + 2, 10, none⟩ = some (.slice none 0 0) := RA.out.cell 10
                    have d11 : wr.cell? ⟨w.heap.size + 2, 11, none⟩ = some (.slice none 0 0) := RA.out.cell 11
                    have d12 : wr.cell? ⟨w.heap.size + 2, 12, none⟩ = some (.bool false) := RA.out.cell 12
                    have d13 : wr.cell? ⟨w.heap.size + 2, 13, none⟩ = some (.int .u16 0) := RA.out.cell 13
                    have d14 : wr.cell? ⟨w.heap.size + 2, 14, none⟩ = some (.bool false) := RA.out.cell 14
                    go_wp2
                    have s0 : RowAt (wr.setCell ⟨w.heap.size, 0, none⟩ (.int .u16 (i : Int))) (w.heap.size) 28 #[.int .u16 (i : Int), .bool false, .int .i64 0, .bool false, .bool false, .bool false, .bool false, .int .i64 0, .slice none 0 0, .slice none 0 0, .slice none 0 0, .slice none 0 0, .bool false, .int .u16 0, .bool false] := RZ.out.set 0 _
                    have s1 : RowAt ((wr.setCell ⟨w.heap.size, 0, none⟩ (.int .u16 (i : Int))).setCell ⟨w.heap.size, 1, none⟩ (.bool false)) (w.heap.size) 28 #[.int .u16 (i : Int), .bool false, .int .i64 0, .bool false, .bool false, .bool false, .bool false, .int .i64 0, .slice none 0 0, .slice none 0 0, .slice none 0 0, .slice none 0 0, .bool false, .int .u16 0, .bool false] := s0.set 1 _
                    have s2 : RowAt (((wr.setCell ⟨w.heap.size, 0, none⟩ (.int .u16 (i : Int))).setCell ⟨w.heap.size, 1, none⟩ (.bool false)).setCell ⟨w.heap.size, 2, none⟩ (.int .i64 0)) (w.heap.size) 28 #[.int .u16 (i : Int), .bool false, .int .i64 0, .bool false, .bool false, .bool false, .bool false, .int .i64 0, .slice none 0 0, .slice none 0 0, .slice none 0 0, .slice none 0 0, .bool false, .int .u16 0, .bool false] := s1.set 2 _
                    have s3 : RowAt ((((wr.setCell ⟨w.heap.size, 0, none⟩ (.int .u16 (i : Int))).setCell ⟨w.heap.size, 1, none⟩ (.bool false)).setCell ⟨w.heap.size, 2, none⟩ (.int .i64 0)).setCell ⟨w.heap.size, 3, none⟩ (.bool false)) (w.heap.size) 28 #[.int .u16 (i : Int), .bool false, .int .i64 0, .bool false, .bool false, .bool false, .bool false, .int .i64 0, .slice none 0 0, .slice none 0 0, .slice none 0 0, .slice none 0 0, .bool false, .int .u16 0, .bool false] := s2.set 3 _
                    have s4 : RowAt (((((wr.setCell ⟨w.heap.size, 0, none⟩ (.int .u16 (i : Int))).setCell ⟨w.heap.size, 1, none⟩ (.bool false)).setCell ⟨w.heap.size, 2, none⟩ (.int .i64 0)).setCell ⟨w.heap.size, 3, none⟩ (.bool false)).setCell ⟨w.heap.size, 4, none⟩ (.bool false)) (w.heap.size) 28 #[.int .u16 (i : Int), .bool false, .int .i64 0, .bool false, .bool false, .bool false, .bool false, .int .i64 0, .slice none 0 0, .slice none 0 0, .slice none 0 0, .slice none 0 0, .bool false, .int .u16 0, .bool false] := s3.set 4 _
                    have s5 : RowAt ((((((wr.setCell ⟨w.heap.size, 0, none⟩ (.int .u16 (i : Int))).setCell ⟨w.heap.size, 1, none⟩ (.bool false)).setCell ⟨w.heap.size, 2, none⟩ (.int .i64 0)).setCell ⟨w.heap.size, 3, none⟩ (.bool false)).setCell ⟨w.heap.size, 4, none⟩ (.bool false)).setCell ⟨w.heap.size, 5, none⟩ (.bool false)) (w.heap.size) 28 #[.int .u16 (i : Int), .bool false, .int .i64 0, .bool false, .bool false, .bool false, .bool false, .int .i64 0, .slice none 0 0, .slice none 0 0, .slice none 0 0, .slice none 0 0, .bool false, .int .u16 0, .bool false] := s4.set 5 _
                    have s6 : RowAt (((((((wr.setCell ⟨w.heap.size, 0, none⟩ (.int .u16 (i : Int))).setCell ⟨w.heap.size, 1, none⟩ (.bool false)).setCell ⟨w.heap.size, 2, none⟩ (.int .i64 0)).setCell ⟨w.heap.size, 3, none⟩ (.bool false)).setCell ⟨w.heap.size, 4, none⟩ (.bool false)).setCell ⟨w.heap.size, 5, none⟩ (.bool false)).setCell ⟨w.heap.size, 6, none⟩ (.bool false)) (w.heap.size) 28 #[.int .u16 (i : Int), .bool false, .int .i64 0, .bool false, .bool false, .bool false, .bool false, .int .i64 0, .slice none 0 0, .slice none 0 0, .slice none 0 0, .slice none 0 0, .bool false, .int .u16 0, .bool false] := s5.set 6 _
                    have s7 : RowAt ((((((((wr.setCell ⟨w.heap.size, 0, none⟩ (.int .u16 (i : Int))).setCell ⟨w.heap.size, 1, none⟩ (.bool false)).setCell ⟨w.heap.size, 2, none⟩ (.int .i64 0)).setCell ⟨w.heap.size, 3, none⟩ (.bool false)).setCell ⟨w.heap.size, 4, none⟩ (.bool false)).setCell ⟨w.heap.size, 5, none⟩ (.bool false)).setCell ⟨w.heap.size, 6, none⟩ (.bool false)).setCell ⟨w.heap.size, 7, none⟩ (.int .i64 0)) (w.heap.size) 28 #[.int .u16 (i : Int), .bool false, .int .i64 0, .bool false, .bool false, .bool false, .bool false, .int .i64 0, .slice none 0 0, .slice none 0 0, .slice none 0 0, .slice none 0 0, .bool false, .int .u16 0, .bool false] := s6.set 7 _
                    have s8 : RowAt (((((((((wr.setCell ⟨w.heap.size, 0, none⟩ (.int .u16 (i : Int))).setCell ⟨w.heap.size, 1, none⟩ (.bool false)).setCell ⟨w.heap.size, 2, none⟩ (.int .i64 0)).setCell ⟨w.heap.size, 3, none⟩ (.bool false)).setCell ⟨w.heap.size, 4, none⟩ (.bool false)).setCell ⟨w.heap.size, 5, none⟩ (.bool false)).setCell ⟨w.heap.size, 6, none⟩ (.bool false)).setCell ⟨w.heap.size, 7, none⟩ (.int .i64 0)).setCell ⟨w.heap.size, 8, none⟩ (.slice av l.length cv)) (w.heap.size) 28 #[.int .u16 (i : Int), .bool false, .int .i64 0, .bool false, .bool false, .bool false, .bool false, .int .i64 0, .slice av l.length cv, .slice none 0 0, .slice none 0 0, .slice none 0 0, .bool false, .int .u16 0, .bool false] := s7.set 8 _
                    have s9 : RowAt ((((((((((wr.setCell ⟨w.heap.size, 0, none⟩ (.int .u16 (i : Int))).setCell ⟨w.heap.size, 1, none⟩ (.bool false)).setCell ⟨w.heap.size, 2, none⟩ (.int .i64 0)).setCell ⟨w.heap.size, 3, none⟩ (.bool false)).setCell ⟨w.heap.size, 4, none⟩ (.bool false)).setCell ⟨w.heap.size, 5, none⟩ (.bool false)).setCell ⟨w.heap.size, 6, none⟩ (.bool false)).setCell ⟨w.heap.size, 7, none⟩ (.int .i64 0)).setCell ⟨w.heap.size, 8, none⟩ (.slice av l.length cv)).setCell ⟨w.heap.size, 9, none⟩ (.slice none 0 0)) (w.heap.size) 28 #[.int .u16 (i : Int), .bool false, .int .i64 0, .bool false, .bool false, .bool false, .bool false, .int .i64 0, .slice av l.length cv, .slice none 0 0, .slice none 0 0, .slice none 0 0, .bool false, .int .u16 0, .bool false] := s8.set 9 _
                    have s10 : RowAt (((((((((((wr.setCell ⟨w.heap.size, 0, none⟩ (.int .u16 (i : Int))).setCell ⟨w.heap.size, 1, none⟩ (.bool false)).setCell ⟨w.heap.size, 2, none⟩ (.int .i64 0)).setCell ⟨w.heap.size, 3, none⟩ (.bool false)).setCell ⟨w.heap.size, 4, none⟩ (.bool false)).setCell ⟨w.heap.size, 5, none⟩ (.bool false)).setCell ⟨w.heap.size, 6, none⟩ (.bool false)).setCell ⟨w.heap.size, 7, none⟩ (.int .i64 0)).setCell ⟨w.heap.size, 8, none⟩ (.slice av l.length cv)).setCell ⟨w.heap.size, 9, none⟩ (.slice none 0 0)).setCell ⟨w.heap.size, 10, none⟩ (.slice none 0 0)) (w.heap.size) 28 #[.int .u16 (i : Int), .bool false, .int .i64 0, .bool false, .bool false, .bool false, .bool false, .int .i64 0, .slice av l.length cv, .slice none 0 0, .slice none 0 0, .slice none 0 0, .bool false, .int .u16 0, .bool false] := s9.set 10 _
                    have s11 : RowAt ((((((((((((wr.setCell ⟨w.heap.size, 0, none⟩ (.int .u16 (i : Int))).setCell ⟨w.heap.size, 1, none⟩ (.bool false)).setCell ⟨w.heap.size, 2, none⟩ (.int .i64 0)).setCell ⟨w.heap.size, 3, none⟩ (.bool false)).setCell ⟨w.heap.size, 4, none⟩ (.bool false)).setCell ⟨w.heap.size, 5, none⟩ (.bool false)).setCell ⟨w.heap.size, 6, none⟩ (.bool false)).setCell ⟨w.heap.size, 7, none⟩ (.int .i64 0)).setCell ⟨w.heap.size, 8, none⟩ (.slice av l.length cv)).setCell ⟨w.heap.size, 9, none⟩ (.slice none 0 0)).setCell ⟨w.heap.size, 10, none⟩ (.slice none 0 0)).setCell ⟨w.heap.size, 11, none⟩ (.slice none 0 0)) (w.heap.size) 28 #[.int .u16 (i : Int), .bool false, .int .i64 0, .bool false, .bool false, .bool false, .bool false, .int .i64 0, .slice av l.length cv, .slice none 0 0, .slice none 0 0, .slice none 0 0, .bool false, .int .u16 0, .bool false] := s10.set 11 _
                    have s12 : RowAt (((((((((((((wr.setCell ⟨w.heap.size, 0, none⟩ (.int .u16 (i : Int))).setCell ⟨w.heap.size, 1, none⟩ (.bool false)).setCell ⟨w.heap.size, 2, none⟩ (.int .i64 0)).setCell ⟨w.heap.size, 3, none⟩ (.bool false)).setCell ⟨w.heap.size, 4, none⟩ (.bool false)).setCell ⟨w.heap.size, 5, none⟩ (.bool false)).setCell ⟨w.heap.size, 6, none⟩ (.bool false)).setCell ⟨w.heap.size, 7, none⟩ (.int .i64 0)).setCell ⟨w.heap.size, 8, none⟩ (.slice av l.length cv)).setCell ⟨w.heap.size, 9, none⟩ (.slice none 0 0)).setCell ⟨w.heap.size, 10, none⟩ (.slice none 0 0)).setCell ⟨w.heap.size, 11, none⟩ (.slice none 0 0)).setCell ⟨w.heap.size, 12, none⟩ (.bool false)) (w.heap.size) 28 #[.int .u16 (i : Int), .bool false, .int .i64 0, .bool false, .bool false, .bool false, .bool false, .int .i64 0, .slice av l.length cv, .slice none 0 0, .slice none 0 0, .slice none 0 0, .bool false, .int .u16 0, .bool false] := s11.set 12 _
                    have s13 : RowAt ((((((((((((((wr.setCell ⟨w.heap.size, 0, none⟩ (.int .u16 (i : Int))).setCell ⟨w.heap.size, 1, none⟩ (.bool false)).setCell ⟨w.heap.size, 2, none⟩ (.int .i64 0)).setCell ⟨w.heap.size, 3, none⟩ (.bool false)).setCell ⟨w.heap.size, 4, none⟩ (.bool false)).setCell ⟨w.heap.size, 5, none⟩ (.bool false)).setCell ⟨w.heap.size, 6, none⟩ (.bool false)).setCell ⟨w.heap.size, 7, none⟩ (.int .i64 0)).setCell ⟨w.heap.size, 8, none⟩ (.slice av l.length cv)).setCell ⟨w.heap.size, 9, none⟩ (.slice none 0 0)).setCell ⟨w.heap.size, 10, none⟩ (.slice none 0 0)).setCell ⟨w.heap.size, 11, none⟩ (.slice none 0 0)).setCell ⟨w.heap.size, 12, none⟩ (.bool false)).setCell ⟨w.heap.size, 13, none⟩ (.int .u16 0)) (w.heap.size) 28 #[.int .u16 (i : Int), .bool false, .int .i64 0, .bool false, .bool false, .bool false, .bool false, .int .i64 0, .slice av l.length cv, .slice none 0 0, .slice none 0 0, .slice none 0 0, .bool false, .int .u16 0, .bool false] := s12.set 13 _
                    have s14 : RowAt (((((((((((((((wr.setCell ⟨w.heap.size, 0, none⟩ (.int .u16 (i : Int))).setCell ⟨w.heap.size, 1, none⟩ (.bool false)).setCell ⟨w.heap.size, 2, none⟩ (.int .i64 0)).setCell ⟨w.heap.size, 3, none⟩ (.bool false)).setCell ⟨w.heap.size, 4, none⟩ (.bool false)).setCell ⟨w.heap.size, 5, none⟩ (.bool false)).setCell ⟨w.heap.size, 6, none⟩ (.bool false)).setCell ⟨w.heap.size, 7, none⟩ (.int .i64 0)).setCell ⟨w.heap.size, 8, none⟩ (.slice av l.length cv)).setCell ⟨w.heap.size, 9, none⟩ (.slice none 0 0)).setCell ⟨w.heap.size, 10, none⟩ (.slice none 0 0)).setCell ⟨w.heap.size, 11, none⟩ (.slice none 0 0)).setCell ⟨w.heap.size, 12, none⟩ (.bool false)).setCell ⟨w.heap.size, 13, none⟩ (.int .u16 0)).setCell ⟨w.heap.size, 14, none⟩ (.bool false)) (w.heap.size) 28 #[.int .u16 (i : Int), .bool false, .int .i64 0, .bool false, .bool false, .bool false, .bool false, .int .i64 0, .slice av l.length cv, .slice none 0 0, .slice none 0 0, .slice none 0 0, .bool false, .int .u16 0, .bool false] := s13.set 14 _
                    have mm := (((((((((((((((Mv.refl (w.heap.size) wr).trans (Mv.set (w.heap.size) 0 _ (.int .u16 (i : Int)))).trans (Mv.set (w.heap.size) 1 _ (.bool false))).trans (Mv.set (w.heap.size) 2 _ (.int .i64 0))).trans (Mv.set (w.heap.size) 3 _ (.bool false))).trans (Mv.set (w.heap.size) 4 _ (.bool false))).trans (Mv.set (w.heap.size) 5 _ (.bool false))).trans (Mv.set (w.heap.size) 6 _ (.bool false))).trans (Mv.set (w.heap.size) 7 _ (.int .i64 0))).trans (Mv.set (w.heap.size) 8 _ (.slice av l.length cv))).trans (Mv.set (w.heap.size) 9 _ (.slice none 0 0))).trans (Mv.set (w.heap.size) 10 _ (.slice none 0 0))).trans (Mv.set (w.heap.size) 11 _ (.slice none 0 0))).trans (Mv.set (w.heap.size) 12 _ (.bool false))).trans (Mv.set (w.heap.size) 13 _ (.int .u16 0))).trans (Mv.set (w.heap.size) 14 _ (.bool false))
                    have OX := OO.out.mv RZ.out (by decide) (by decide) mm
                    have bx : Below w.heap.size w (((((((((((((((wr.setCell ⟨w.heap.size, 0, none⟩ (.int .u16 (i : Int))).setCell ⟨w.heap.size, 1, none⟩ (.bool false)).setCell ⟨w.heap.size, 2, none⟩ (.int .i64 0)).setCell ⟨w.heap.size, 3, none⟩ (.bool false)).setCell ⟨w.heap.size, 4, none⟩ (.bool false)).setCell ⟨w.heap.size, 5, none⟩ (.bool false)).setCell ⟨w.heap.size, 6, none⟩ (.bool false)).setCell ⟨w.heap.size, 7, none⟩ (.int .i64 0)).setCell ⟨w.heap.size, 8, none⟩ (.slice av l.length cv)).setCell ⟨w.heap.size, 9, none⟩ (.slice none 0 0)).setCell ⟨w.heap.size, 10, none⟩ (.slice none 0 0)).setCell ⟨w.heap.size, 11, none⟩ (.slice none 0 0)).setCell ⟨w.heap.size, 12, none⟩ (.bool false)).setCell ⟨w.heap.size, 13, none⟩ (.int .u16 0)).setCell ⟨w.heap.size, 14, none⟩ (.bool false)) := BB.out.trans (mm.below (Nat.le_refl _) BB.out.size)
                    clear s0 s1 s2 s3 s4 s5 s6 s7 s8 s9 s10 s11 s12 s13 a0 b0 a1 b1 a2 b2 a3 b3 a4 b4 a5 b5 a6 b6 a7 b7 a8 b8 a9 b9 a10 b10 a11 b11 a12 b12 a13 b13 a14 b14 mm
                    generalize (((((((((((((((wr.setCell ⟨w.heap.size, 0, none⟩ (.int .u16 (i : Int))).setCell ⟨w.heap.size, 1, none⟩ (.bool false)).setCell ⟨w.heap.size, 2, none⟩ (.int .i64 0)).setCell ⟨w.heap.size, 3, none⟩ (.bool false)).setCell ⟨w.heap.size, 4, none⟩ (.bool false)).setCell ⟨w.heap.size, 5, none⟩ (.bool false)).setCell ⟨w.heap.size, 6, none⟩ (.bool false)).setCell ⟨w.heap.size, 7, none⟩ (.int .i64 0)).setCell ⟨w.heap.size, 8, none⟩ (.slice av l.length cv)).setCell ⟨w.heap.size, 9, none⟩ (.slice none 0 0)).setCell ⟨w.heap.size, 10, none⟩ (.slice none 0 0)).setCell ⟨w.heap.size, 11, none⟩ (.slice none 0 0)).setCell ⟨w.heap.size, 12, none⟩ (.bool false)).setCell ⟨w.heap.size, 13, none⟩ (.int .u16 0)).setCell ⟨w.heap.size, 14, none⟩ (.bool false)) = X at s14 OX bx ⊢
                    have z0 : X.cell? ⟨w.heap.size, 0, none⟩ = some (.int .u16 (i : Int)) := s14.cell 0
                    have z1 : X.cell? ⟨w.heap.size, 1, none⟩ = some (.bool false) := s14.cell 1
                    have z2 : X.cell? ⟨w.heap.size, 2, none⟩ = some (.int .i64 0) := s14.cell 2
                    have z3 : X.cell? ⟨w.heap.size, 3, none⟩ = some (.bool false) := s14.cell 3
                    have z4 : X.cell? ⟨w.heap.size, 4, none⟩ = some (.bool false) := s14.cell 4
                    have z5 : X.cell? ⟨w.heap.size, 5, none⟩ = some (.bool false) := s14.cell 5
                    have z6 : X.cell? ⟨w.heap.size, 6, none⟩ = some (.bool false) := s14.cell 6
                    have z7 : X.cell? ⟨w.heap.size, 7, none⟩ = some (.int .i64 0) := s14.cell 7
                    have z8 : X.cell? ⟨w.heap.size, 8, none⟩ = some (.slice av l.length cv) := s14.cell 8
                    have z9 : X.cell? ⟨w.heap.size, 9, none⟩ = some (.slice none 0 0) := s14.cell 9
                    have z10 : X.cell? ⟨w.heap.size, 10, none⟩ = some (.slice none 0 0) := s14.cell 10
                    have z11 : X.cell? ⟨w.heap.size, 11, none⟩ = some (.slice none 0 0) := s14.cell 11
                    have z12 : X.cell? ⟨w.heap.size, 12, none⟩ = some (.bool false) := s14.cell 12
                    have z13 : X.cell? ⟨w.heap.size, 13, none⟩ = some (.int .u16 0) := s14.cell 13
                    have z14 : X.cell? ⟨w.heap.size, 14, none⟩ = some (.bool false) := s14.cell 14
                    simp [bodyPost, results, Tryz.results11, go_sem, z0, z1, z2, z3, z4, z5, z6, z7, z8, z9, z10, z11, z12, z13, z14]
                    first | exact ⟨⟨l, HN.out, _, rfl, OX⟩, bx⟩ | exact ⟨⟨l, HN.out, OX⟩, bx⟩ | exact ⟨⟨l, _, HN.out, rfl, OX⟩, bx⟩ | exact ⟨Or.inl ⟨l, HN.out, _, rfl, OX⟩, bx⟩
                  · have q5 : ((pp : Int) != (b.length : Int)) = true := by simp; omega
                    have HN : Hid (M.msgq b = none) := by
                      show _ = _
                      rw [HI.out, hqs]
                      simp only [Option.bind_some]
                      rw [if_neg hp]
                    clear hqs
                    have a0 : wr.cell? ⟨w.heap.size, 0, none⟩ = some (.int .u16 0) := RZ.out.cell 0
                    have b0 : wr.frozen? ⟨w.heap.size, 0, none⟩ = false := RZ.out.frozen 0
                    have a1 : wr.cell? ⟨w.heap.size, 1, none⟩ = some (.bool false) := RZ.out.cell 1
                    have b1 : wr.frozen? ⟨w.heap.size, 1, none⟩ = false := RZ.out.frozen 1
                    have a2 : wr.cell? ⟨w.heap.size, 2, none⟩ = some (.int .i64 0) := RZ.out.cell 2
                    have b2 : wr.frozen? ⟨w.heap.size, 2, none⟩ = false := RZ.out.frozen 2
                    have a3 : wr.cell? ⟨w.heap.size, 3, none⟩ = some (.bool false) := RZ.out.cell 3
                    have b3 : wr.frozen? ⟨w.heap.size, 3, none⟩ = false := RZ.out.frozen 3
                    have a4 : wr.cell? ⟨w.heap.size, 4, none⟩ = some (.bool false) := RZ.out.cell 4
                    have b4 : wr.frozen? ⟨w.heap.size, 4, none⟩ = false := RZ.out.frozen 4
                    have a5 : wr.cell? ⟨w.heap.size, 5, none⟩ = some (.bool false) := RZ.out.cell 5
                    have b5 : wr.frozen? ⟨w.heap.size, 5, none⟩ = false := RZ.out.frozen 5
                    have a6 : wr.cell? ⟨w.heap.size, 6, none⟩ = some (.bool false) := RZ.out.cell 6
                    have b6 : wr.frozen? ⟨w.heap.size, 6, none⟩ = false := RZ.out.frozen 6
                    have a7 : wr.cell? ⟨w.heap.size, 7, none⟩ = some (.int .i64 0) := RZ.out.cell 7
                    have b7 : wr.frozen? ⟨w.heap.size, 7, none⟩ = false := RZ.out.frozen 7
                    have a8 : wr.cell? ⟨w.heap.size, 8, none⟩ = some (.slice none 0 0) := RZ.out.cell 8
                    have b8 : wr.frozen? ⟨w.heap.size, 8, none⟩ = false := RZ.out.frozen 8
                    have a9 : wr.cell? ⟨w.heap.size, 9, none⟩ = some (.slice none 0 0) := RZ.out.cell 9
                    have b9 : wr.frozen? ⟨w.heap.size, 9, none⟩ = false := RZ.out.frozen 9
                    have a10 : wr.cell? ⟨w.heap.size, 10, none⟩ = some (.slice none 0 0) := RZ.out.cell 10
                    have b10 : wr.frozen? ⟨w.heap.size, 10, none⟩ = false := RZ.out.frozen 10
                    have a11 : wr.cell? ⟨w.heap.size, 11, none⟩ = some (.slice none 0 0) := RZ.out.cell 11
                    have b11 : wr.frozen? ⟨w.heap.size, 11, none⟩ = false := RZ.out.frozen 11
                    have a12 : wr.cell? ⟨w.heap.size, 12, none⟩ = some (.bool false) := RZ.out.cell 12
                    have b12 : wr.frozen? ⟨w.heap.size, 12, none⟩ = false := RZ.out.frozen 12
                    have a13 : wr.cell? ⟨w.heap.size, 13, none⟩ = some (.int .u16 0) := RZ.out.cell 13
                    have b13 : wr.frozen? ⟨w.heap.size, 13, none⟩ = false := RZ.out.frozen 13
                    have a14 : wr.cell? ⟨w.heap.size, 14, none⟩ = some (.bool false) := RZ.out.cell 14
                    have b14 : wr.frozen? ⟨w.heap.size, 14, none⟩ = false := RZ.out.frozen 14
                    go_wp2
                    have s0 : RowAt (wr.setCell ⟨w.heap.size, 0, none⟩ (.int .u16 0)) (w.heap.size) 28 #[.int .u16 0, .bool false, .int .i64 0, .bool false, .bool false, .bool false, .bool false, .int .i64 0, .slice none 0 0, .slice none 0 0, .slice none 0 0, .slice none 0 0, .bool false, .int .u16 0, .bool false] := RZ.out.same 0 rfl
                    have s1 : RowAt ((wr.setCell ⟨w.heap.size, 0, none⟩ (.int .u16 0)).setCell ⟨w.heap.size, 1, none⟩ (.bool false)) (w.heap.size) 28 #[.int .u16 0, .bool false, .int .i64 0, .bool false, .bool false, .bool false, .bool false, .int .i64 0, .slice none 0 0, .slice none 0 0, .slice none 0 0, .slice none 0 0, .bool false, .int .u16 0, .bool false] := s0.same 1 rfl
                    have s2 : RowAt (((wr.setCell ⟨w.heap.size, 0, none⟩ (.int .u16 0)).setCell ⟨w.heap.size, 1, none⟩ (.bool false)).setCell ⟨w.heap.size, 2, none⟩ (.int .i64 0)) (w.heap.size) 28 #[.int .u16 0, .bool false, .int .i64 0, .bool false, .bool false, .bool false, .bool false, .int .i64 0, .slice none 0 0, .slice none 0 0, .slice none 0 0, .slice none 0 0, .bool false, .int .u16 0, .bool false] := s1.same 2 rfl
                    have s3 : RowAt ((((wr.setCell ⟨w.heap.size, 0, none⟩ (.int .u16 0)).setCell ⟨w.heap.size, 1, none⟩ (.bool false)).setCell ⟨w.heap.size, 2, none⟩ (.int .i64 0)).setCell ⟨w.heap.size, 3, none⟩ (.bool false)) (w.heap.size) 28 #[.int .u16 0, .bool false, .int .i64 0, .bool false, .bool false, .bool false, .bool false, .int .i64 0, .slice none 0 0, .slice none 0 0, .slice none 0 0, .slice none 0 0, .bool false, .int .u16 0, .bool false] := s2.same 3 rfl
                    have s4 : RowAt (((((wr.setCell ⟨w.heap.size, 0, none⟩ (.int .u16 0)).setCell ⟨w.heap.size, 1, none⟩ (.bool false)).setCell ⟨w.heap.size, 2, none⟩ (.int .i64 0)).setCell ⟨w.heap.size, 3, none⟩ (.bool false)).setCell ⟨w.heap.size, 4, none⟩ (.bool false)) (w.heap.size) 28 #[.int .u16 0, .bool false, .int .i64 0, .bool false, .bool false, .bool false, .bool false, .int .i64 0, .slice none 0 0, .slice none 0 0, .slice none 0 0, .slice none 0 0, .bool false, .int .u16 0, .bool false] := s3.same 4 rfl
                    have s5 : RowAt ((((((wr.setCell ⟨w.heap.size, 0, none⟩ (.int .u16 0)).setCell ⟨w.heap.size, 1, none⟩ (.bool false)).setCell ⟨w.heap.size, 2, none⟩ (.int .i64 0)).setCell ⟨w.heap.size, 3, none⟩ (.bool false)).setCell ⟨w.heap.size, 4, none⟩ (.bool false)).setCell ⟨w.heap.size, 5, none⟩ (.bool false)) (w.heap.size) 28 #[.int .u16 0, .bool false, .int .i64 0, .bool false, .bool false, .bool false, .bool false, .int .i64 0, .slice none 0 0, .slice none 0 0, .slice none 0 0, .slice none 0 0, .bool false, .int .u16 0, .bool false] := s4.same 5 rfl
                    have s6 : RowAt (((((((wr.setCell ⟨w.heap.size, 0, none⟩ (.int .u16 0)).setCell ⟨w.heap.size, 1, none⟩ (.bool false)).setCell ⟨w.heap.size, 2, none⟩ (.int .i64 0)).setCell ⟨w.heap.size, 3, none⟩ (.bool false)).setCell ⟨w.heap.size, 4, none⟩ (.bool false)).setCell ⟨w.heap.size, 5, none⟩ (.bool false)).setCell ⟨w.heap.size, 6, none⟩ (.bool false)) (w.heap.size) 28 #[.int .u16 0, .bool false, .int .i64 0, .bool false, .bool false, .bool false, .bool false, .int .i64 0, .slice none 0 0, .slice none 0 0, .slice none 0 0, .slice none 0 0, .bool false, .int .u16 0, .bool false] := s5.same 6 rfl
                    have s7 : RowAt ((((((((wr.setCell ⟨w.heap.size, 0, none⟩ (.int .u16 0)).setCell ⟨w.heap.size, 1, none⟩ (.bool false)).setCell ⟨w.heap.size, 2, none⟩ (.int .i64 0)).setCell ⟨w.heap.size, 3, none⟩ (.bool false)).setCell ⟨w.heap.size, 4, none⟩ (.bool false)).setCell ⟨w.heap.size, 5, none⟩ (.bool false)).setCell ⟨w.heap.size, 6, none⟩ (.bool false)).setCell ⟨w.heap.size, 7, none⟩ (.int .i64 0)) (w.heap.size) 28 #[.int .u16 0, .bool false, .int .i64 0, .bool false, .bool false, .bool false, .bool false, .int .i64 0, .slice none 0 0, .slice none 0 0, .slice none 0 0, .slice none 0 0, .bool false, .int .u16 0, .bool false] := s6.same 7 rfl
                    have s8 : RowAt (((((((((wr.setCell ⟨w.heap.size, 0, none⟩ (.int .u16 0)).setCell ⟨w.heap.size, 1, none⟩ (.bool false)).setCell ⟨w.heap.size, 2, none⟩ (.int .i64 0)).setCell ⟨w.heap.size, 3, none⟩ (.bool false)).setCell ⟨w.heap.size, 4, none⟩ (.bool false)).setCell ⟨w.heap.size, 5, none⟩ (.bool false)).setCell ⟨w.heap.size, 6, none⟩ (.bool false)).setCell ⟨w.heap.size, 7, none⟩ (.int .i64 0)).setCell ⟨w.heap.size, 8, none⟩ (.slice none 0 0)) (w.heap.size) 28 #[.int .u16 0, .bool false, .int .i64 0, .bool false, .bool false, .bool false, .bool false, .int .i64 0, .slice none 0 0, .slice none 0 0, .slice none 0 0, .slice none 0 0, .bool false, .int .u16 0, .bool false] := s7.same 8 rfl
                    have s9 : RowAt ((((((((((wr.setCell ⟨w.heap.size, 0, none⟩ (.int .u16 0)).setCell ⟨w.heap.size, 1, none⟩ (.bool false)).setCell ⟨w.heap.size, 2, none⟩ (.int .i64 0)).setCell ⟨w.heap.size, 3, none⟩ (.bool false)).setCell ⟨w.heap.size, 4, none⟩ (.bool false)).setCell ⟨w.heap.size, 5, none⟩ (.bool false)).setCell ⟨w.heap.size, 6, none⟩ (.bool false)).setCell ⟨w.heap.size, 7, none⟩ (.int .i64 0)).setCell ⟨w.heap.size, 8, none⟩ (.slice none 0 0)).setCell ⟨w.heap.size, 9, none⟩ (.slice none 0 0)) (w.heap.size) 28 #[.int .u16 0, .bool false, .int .i64 0, .bool false, .bool false, .bool false, .bool false, .int .i64 0, .slice none 0 0, .slice none 0 0, .slice none 0 0, .slice none 0 0, .bool false, .int .u16 0, .bool false] := s8.same 9 rfl
                    have s10 : RowAt (((((((((((wr.setCell ⟨w.heap.size, 0, none⟩ (.int .u16 0)).setCell ⟨w.heap.size, 1, none⟩ (.bool false)).setCell ⟨w.heap.size, 2, none⟩ (.int .i64 0)).setCell ⟨w.heap.size, 3, none⟩ (.bool false)).setCell ⟨w.heap.size, 4, none⟩ (.bool false)).setCell ⟨w.heap.size, 5, none⟩ (.bool false)).setCell ⟨w.heap.size, 6, none⟩ (.bool false)).setCell ⟨w.heap.size, 7, none⟩ (.int .i64 0)).setCell ⟨w.heap.size, 8, none⟩ (.slice none 0 0)).setCell ⟨w.heap.size, 9, none⟩ (.slice none 0 0)).setCell ⟨w.heap.size, 10, none⟩ (.slice none 0 0)) (w.heap.size) 28 #[.int .u16 0, .bool false, .int .i64 0, .bool false, .bool false, .bool false, .bool false, .int .i64 0, .slice none 0 0, .slice none 0 0, .slice none 0 0, .slice none 0 0, .bool false, .int .u16 0, .bool false] := s9.same 10 rfl
                    have s11 : RowAt ((((((((((((wr.setCell ⟨w.heap.size, 0, none⟩ (.int .u16 0)).setCell ⟨w.heap.size, 1, none⟩ (.bool false)).setCell ⟨w.heap.size, 2, none⟩ (.int .i64 0)).setCell ⟨w.heap.size, 3, none⟩ (.bool false)).setCell ⟨w.heap.size, 4, none⟩ (.bool false)).setCell ⟨w.heap.size, 5, none⟩ (.bool false)).setCell ⟨w.heap.size, 6, none⟩ (.bool false)).setCell ⟨w.heap.size, 7, none⟩ (.int .i64 0)).setCell ⟨w.heap.size, 8, none⟩ (.slice none 0 0)).setCell ⟨w.heap.size, 9, none⟩ (.slice none 0 0)).setCell ⟨w.heap.size, 10, none⟩ (.slice none 0 0)).setCell ⟨w.heap.size, 11, none⟩ (.slice none 0 0)) (w.heap.size) 28 #[.int .u16 0, .bool false, .int .i64 0, .bool false, .bool false, .bool false, .bool false, .int .i64 0, .slice none 0 0, .slice none 0 0, .slice none 0 0, .slice none 0 0, .bool false, .int .u16 0, .bool false] := s10.same 11 rfl
                    have s12 : RowAt (((((((((((((wr.setCell ⟨w.heap.size, 0, none⟩ (.int .u16 0)).setCell ⟨w.heap.size, 1, none⟩ (.bool false)).setCell ⟨w.heap.size, 2, none⟩ (.int .i64 0)).setCell ⟨w.heap.size, 3, none⟩ (.bool false)).setCell ⟨w.heap.size, 4, none⟩ (.bool false)).setCell ⟨w.heap.size, 5, none⟩ (.bool false)).setCell ⟨w.heap.size, 6, none⟩ (.bool false)).setCell ⟨w.heap.size, 7, none⟩ (.int .i64 0)).setCell ⟨w.heap.size, 8, none⟩ (.slice none 0 0)).setCell ⟨w.heap.size, 9, none⟩ (.slice none 0 0)).setCell ⟨w.heap.size, 10, none⟩ (.slice none 0 0)).setCell ⟨w.heap.size, 11, none⟩ (.slice none 0 0)).setCell ⟨w.heap.size, 12, none⟩ (.bool false)) (w.heap.size) 28 #[.int .u16 0, .bool false, .int .i64 0, .bool false, .bool false, .bool false, .bool false, .int .i64 0, .slice none 0 0, .slice none 0 0, .slice none 0 0, .slice none 0 0, .bool false, .int .u16 0, .bool false] := s11.same 12 rfl
                    have s13 : RowAt ((((((((((((((wr.setCell ⟨w.heap.size, 0, none⟩ (.int .u16 0)).setCell ⟨w.heap.size, 1, none⟩ (.bool false)).setCell ⟨w.heap.size, 2, none⟩ (.int .i64 0)).setCell ⟨w.heap.size, 3, none⟩ (.bool false)).setCell ⟨w.heap.size, 4, none⟩ (.bool false)).setCell ⟨w.heap.size, 5, none⟩ (.bool false)).setCell ⟨w.heap.size, 6, none⟩ (.bool false)).setCell ⟨w.heap.size, 7, none⟩ (.int .i64 0)).setCell ⟨w.heap.size, 8, none⟩ (.slice none 0 0)).setCell ⟨w.heap.size, 9, none⟩ (.slice none 0 0)).setCell ⟨w.heap.size, 10, none⟩ (.slice none 0 0)).setCell ⟨w.heap.size, 11, none⟩ (.slice none 0 0)).setCell ⟨w.heap.size, 12, none⟩ (.bool false)).setCell ⟨w.heap.size, 13, none⟩ (.int .u16 0)) (w.heap.size) 28 #[.int .u16 0, .bool false, .int .i64 0, .bool false, .bool false, .bool false, .bool false, .int .i64 0, .slice none 0 0, .slice none 0 0, .slice none 0 0, .slice none 0 0, .bool false, .int .u16 0, .bool false] := s12.same 13 rfl
                    have s14 : RowAt (((((((((((((((wr.setCell ⟨w.heap.size, 0, none⟩ (.int .u16 0)).setCell ⟨w.heap.size, 1, none⟩ (.bool false)).setCell ⟨w.heap.size, 2, none⟩ (.int .i64 0)).setCell ⟨w.heap.size, 3, none⟩ (.bool false)).setCell ⟨w.heap.size, 4, none⟩ (.bool false)).setCell ⟨w.heap.size, 5, none⟩ (.bool false)).setCell ⟨w.heap.size, 6, none⟩ (.bool false)).setCell ⟨w.heap.size, 7, none⟩ (.int .i64 0)).setCell ⟨w.heap.size, 8, none⟩ (.slice none 0 0)).setCell ⟨w.heap.size, 9, none⟩ (.slice none 0 0)).setCell ⟨w.heap.size, 10, none⟩ (.slice none 0 0)).setCell ⟨w.heap.size, 11, none⟩ (.slice none 0 0)).setCell ⟨w.heap.size, 12, none⟩ (.bool false)).setCell ⟨w.heap.size, 13, none⟩ (.int .u16 0)).setCell ⟨w.heap.size, 14, none⟩ (.bool false)) (w.heap.size) 28 #[.int .u16 0, .bool false, .int .i64 0, .bool false, .bool false, .bool false, .bool false, .int .i64 0, .slice none 0 0, .slice none 0 0, .slice none 0 0, .slice none 0 0, .bool false, .int .u16 0, .bool false] := s13.same 14 rfl
                    have mm := (((((((((((((((Mv.refl (w.heap.size) wr).trans (Mv.set (w.heap.size) 0 _ (.int .u16 0))).trans (Mv.set (w.heap.size) 1 _ (.bool false))).trans (Mv.set (w.heap.size) 2 _ (.int .i64 0))).trans (Mv.set (w.heap.size) 3 _ (.bool false))).trans (Mv.set (w.heap.size) 4 _ (.bool false))).trans (Mv.set (w.heap.size) 5 _ (.bool false))).trans (Mv.set (w.heap.size) 6 _ (.bool false))).trans (Mv.set (w.heap.size) 7 _ (.int .i64 0))).trans (Mv.set (w.heap.size) 8 _ (.slice none 0 0))).trans (Mv.set (w.heap.size) 9 _ (.slice none 0 0))).trans (Mv.set (w.heap.size) 10 _ (.slice none 0 0))).trans (Mv.set (w.heap.size) 11 _ (.slice none 0 0))).trans (Mv.set (w.heap.size) 12 _ (.bool false))).trans (Mv.set (w.heap.size) 13 _ (.int .u16 0))).trans (Mv.set (w.heap.size) 14 _ (.bool false))
                    have bx : Below w.heap.size w (((((((((((((((wr.setCell ⟨w.heap.size, 0, none⟩ (.int .u16 0)).setCell ⟨w.heap.size, 1, none⟩ (.bool false)).setCell ⟨w.heap.size, 2, none⟩ (.int .i64 0)).setCell ⟨w.heap.size, 3, none⟩ (.bool false)).setCell ⟨w.heap.size, 4, none⟩ (.bool false)).setCell ⟨w.heap.size, 5, none⟩ (.bool false)).setCell ⟨w.heap.size, 6, none⟩ (.bool false)).setCell ⟨w.heap.size, 7, none⟩ (.int .i64 0)).setCell ⟨w.heap.size, 8, none⟩ (.slice none 0 0)).setCell ⟨w.heap.size, 9, none⟩ (.slice none 0 0)).setCell ⟨w.heap.size, 10, none⟩ (.slice none 0 0)).setCell ⟨w.heap.size, 11, none⟩ (.slice none 0 0)).setCell ⟨w.heap.size, 12, none⟩ (.bool false)).setCell ⟨w.heap.size, 13, none⟩ (.int .u16 0)).setCell ⟨w.heap.size, 14, none⟩ (.bool false)) := BB.out.trans (mm.below (Nat.le_refl _) BB.out.size)
                    clear s0 s1 s2 s3 s4 s5 s6 s7 s8 s9 s10 s11 s12 s13 a0 b0 a1 b1 a2 b2 a3 b3 a4 b4 a5 b5 a6 b6 a7 b7 a8 b8 a9 b9 a10 b10 a11 b11 a12 b12 a13 b13 a14 b14 mm
                    generalize (((((((((((((((wr.setCell ⟨w.heap.size, 0, none⟩ (.int .u16 0)).setCell ⟨w.heap.size, 1, none⟩ (.bool false)).setCell ⟨w.heap.size, 2, none⟩ (.int .i64 0)).setCell ⟨w.heap.size, 3, none⟩ (.bool false)).setCell ⟨w.heap.size, 4, none⟩ (.bool false)).setCell ⟨w.heap.size, 5, none⟩ (.bool false)).setCell ⟨w.heap.size, 6, none⟩ (.bool false)).setCell ⟨w.heap.size, 7, none⟩ (.int .i64 0)).setCell ⟨w.heap.size, 8, none⟩ (.slice none 0 0)).setCell ⟨w.heap.size, 9, none⟩ (.slice none 0 0)).setCell ⟨w.heap.size, 10, none⟩ (.slice none 0 0)).setCell ⟨w.heap.size, 11, none⟩ (.slice none 0 0)).setCell ⟨w.heap.size, 12, none⟩ (.bool false)).setCell ⟨w.heap.size, 13, none⟩ (.int .u16 0)).setCell ⟨w.heap.size, 14, none⟩ (.bool false)) = X at s14 bx ⊢
                    have z0 : X.cell? ⟨w.heap.size, 0, none⟩ = some (.int .u16 0) := s14.cell 0
                    have z1 : X.cell? ⟨w.heap.size, 1, none⟩ = some (.bool false) := s14.cell 1
                    have z2 : X.cell? ⟨w.heap.size, 2, none⟩ = some (.int .i64 0) := s14.cell 2
                    have z3 : X.cell? ⟨w.heap.size, 3, none⟩ = some (.bool false) := s14.cell 3
                    have z4 : X.cell? ⟨w.heap.size, 4, none⟩ = some (.bool false) := s14.cell 4
                    have z5 : X.cell? ⟨w.heap.size, 5, none⟩ = some (.bool false) := s14.cell 5
                    have z6 : X.cell? ⟨w.heap.size, 6, none⟩ = some (.bool false) := s14.cell 6
                    have z7 : X.cell? ⟨w.heap.size, 7, none⟩ = some (.int .i64 0) := s14.cell 7
                    have z8 : X.cell? ⟨w.heap.size, 8, none⟩ = some (.slice none 0 0) := s14.cell 8
                    have z9 : X.cell? ⟨w.heap.size, 9, none⟩ = some (.slice none 0 0) := s14.cell 9
                    have z10 : X.cell? ⟨w.heap.size, 10, none⟩ = some (.slice none 0 0) := s14.cell 10
                    have z11 : X.cell? ⟨w.heap.size, 11, none⟩ = some (.slice none 0 0) := s14.cell 11
                    have z12 : X.cell? ⟨w.heap.size, 12, none⟩ = some (.bool false) := s14.cell 12
                    have z13 : X.cell? ⟨w.heap.size, 13, none⟩ = some (.int .u16 0) := s14.cell 13
                    have z14 : X.cell? ⟨w.heap.size, 14, none⟩ = some (.bool false) := s14.cell 14
                    simp [bodyPost, results, Tryz.results11, go_sem, z0, z1, z2, z3, z4, z5, z6, z7, z8, z9, z10, z11, z12, z13, z14]
                    exact ⟨⟨HN.out, rfl⟩, bx⟩
                · have HN : Hid (M.msgq b = none) := by
                    show _ = _
                    rw [HI.out, hqs]; rfl
                  clear hqs
                  have a0 : wr.cell? ⟨w.heap.size, 0, none⟩ = some (.int .u16 0) := RZ.out.cell 0
                  have b0 : wr.frozen? ⟨w.heap.size, 0, none⟩ = false := RZ.out.frozen 0
                  have a1 : wr.cell? ⟨w.heap.size, 1, none⟩ = some (.bool false) := RZ.out.cell 1
                  have b1 : wr.frozen? ⟨w.heap.size, 1, none⟩ = false := RZ.out.frozen 1
                  have a2 : wr.cell? ⟨w.heap.size, 2, none⟩ = some (.int .i64 0) := RZ.out.cell 2
                  have b2 : wr.frozen? ⟨w.heap.size, 2, none⟩ = false := RZ.out.frozen 2
                  have a3 : wr.cell? ⟨w.heap.size, 3, none⟩ = some (.bool false) := RZ.out.cell 3
                  have b3 : wr.frozen? ⟨w.heap.size, 3, none⟩ = false := RZ.out.frozen 3
                  have a4 : wr.cell? ⟨w.heap.size, 4, none⟩ = some (.bool false) := RZ.out.cell 4
                  have b4 : wr.frozen? ⟨w.heap.size, 4, none⟩ = false := RZ.out.frozen 4
                  have a5 : wr.cell? ⟨w.heap.size, 5, none⟩ = some (.bool false) := RZ.out.cell 5
                  have b5 : wr.frozen? ⟨w.heap.size, 5, none⟩ = false := RZ.out.frozen 5
                  have a6 : wr.cell? ⟨w.heap.size, 6, none⟩ = some (.bool false) := RZ.out.cell 6
                  have b6 : wr.frozen? ⟨w.heap.size, 6, none⟩ = false := RZ.out.frozen 6
                  have a7 : wr.cell? ⟨w.heap.size, 7, none⟩ = some (.int .i64 0) := RZ.out.cell 7
                  have b7 : wr.frozen? ⟨w.heap.size, 7, none⟩ = false := RZ.out.frozen 7
                  have a8 : wr.cell? ⟨w.heap.size, 8, none⟩ = some (.slice none 0 0) := RZ.out.cell 8
                  have b8 : wr.frozen? ⟨w.heap.size, 8, none⟩ = false := RZ.out.frozen 8
                  have a9 : wr.cell? ⟨w.heap.size, 9, none⟩ = some (.slice none 0 0) := RZ.out.cell 9
                  have b9 : wr.frozen? ⟨w.heap.size, 9, none⟩ = false := RZ.out.frozen 9
                  have a10 : wr.cell? ⟨w.heap.size, 10, none⟩ = some (.slice none 0 0) := RZ.out.cell 10
                  have b10 : wr.frozen? ⟨w.heap.size, 10, none⟩ = false := RZ.out.frozen 10
                  have a11 : wr.cell? ⟨w.heap.size, 11, none⟩ = some (.slice none 0 0) := RZ.out.cell 11
                  have b11 : wr.frozen? ⟨w.heap.size, 11, none⟩ = false := RZ.out.frozen 11
                  have a12 : wr.cell? ⟨w.heap.size, 12, none⟩ = some (.bool false) := RZ.out.cell 12
                  have b12 : wr.frozen? ⟨w.heap.size, 12, none⟩ = false := RZ.out.frozen 12
                  have a13 : wr.cell? ⟨w.heap.size, 13, none⟩ = some (.int .u16 0) := RZ.out.cell 13
                  have b13 : wr.frozen? ⟨w.heap.size, 13, none⟩ = false := RZ.out.frozen 13
                  have a14 : wr.cell? ⟨w.heap.size, 14, none⟩ = some (.bool false) := RZ.out.cell 14
                  have b14 : wr.frozen? ⟨w.heap.size, 14, none⟩ = false := RZ.out.frozen 14
                  go_wp2
                  have s0 : RowAt (wr.setCell ⟨w.heap.size, 0, none⟩ (.int .u16 0)) (w.heap.size) 28 #[.int .u16 0, .bool false, .int .i64 0, .bool false, .bool false, .bool false, .bool false, .int .i64 0, .slice none 0 0, .slice none 0 0, .slice none 0 0, .slice none 0 0, .bool false, .int .u16 0, .bool false] := RZ.out.same 0 rfl
                  have s1 : RowAt ((wr.setCell ⟨w.heap.size, 0, none⟩ (.int .u16 0)).setCell ⟨w.heap.size, 1, none⟩ (.bool false)) (w.heap.size) 28 #[.int .u16 0, .bool false, .int .i64 0, .bool false, .bool false, .bool false, .bool false, .int .i64 0, .slice none 0 0, .slice none 0 0, .slice none 0 0, .slice none 0 0, .bool false, .int .u16 0, .bool false] := s0.same 1 rfl
                  have s2 : RowAt (((wr.setCell ⟨w.heap.size, 0, none⟩ (.int .u16 0)).setCell ⟨w.heap.size, 1, none⟩ (.bool false)).setCell ⟨w.heap.size, 2, none⟩ (.int .i64 0)) (w.heap.size) 28 #[.int .u16 0, .bool false, .int .i64 0, .bool false, .bool false, .bool false, .bool false, .int .i64 0, .slice none 0 0, .slice none 0 0, .slice none 0 0, .slice none 0 0, .bool false, .int .u16 0, .bool false] := s1.same 2 rfl
                  have s3 : RowAt ((((wr.setCell ⟨w.heap.size, 0, none⟩ (.int .u16 0)).setCell ⟨w.heap.size, 1, none⟩ (.bool false)).setCell ⟨w.heap.size, 2, none⟩ (.int .i64 0)).setCell ⟨w.heap.size, 3, none⟩ (.bool false)) (w.heap.size) 28 #[.int .u16 0, .bool false, .int .i64 0, .bool false, .bool false, .bool false, .bool false, .int .i64 0, .slice none 0 0, .slice none 0 0, .slice none 0 0, .slice none 0 0, .bool false, .int .u16 0, .bool false] := s2.same 3 rfl
                  have s4 : RowAt (((((wr.setCell ⟨w.heap.size, 0, none⟩ (.int .u16 0)).setCell ⟨w.heap.size, 1, none⟩ (.bool false)).setCell ⟨w.heap.size, 2, none⟩ (.int .i64 0)).setCell ⟨w.heap.size, 3, none⟩ (.bool false)).setCell ⟨w.heap.size, 4, none⟩ (.bool false)) (w.heap.size) 28 #[.int .u16 0, .bool false, .int .i64 0, .bool false, .bool false, .bool false, .bool false, .int .i64 0, .slice none 0 0, .slice none 0 0, .slice none 0 0, .slice none 0 0, .bool false, .int .u16 0, .bool false] := s3.same 4 rfl
                  have s5 : RowAt ((((((wr.setCell ⟨w.heap.size, 0, none⟩ (.int .u16 0)).setCell ⟨w.heap.size, 1, none⟩ (.bool false)).setCell ⟨w.heap.size, 2, none⟩ (.int .i64 0)).setCell ⟨w.heap.size, 3, none⟩ (.bool false)).setCell ⟨w.heap.size, 4, none⟩ (.bool false)).setCell ⟨w.heap.size, 5, none⟩ (.bool false)) (w.heap.size) 28 #[.int .u16 0, .bool false, .int .i64 0, .bool false, .bool false, .bool false, .bool false, .int .i64 0, .slice none 0 0, .slice none 0 0, .slice none 0 0, .slice none 0 0, .bool false, .int .u16 0, .bool false] := s4.same 5 rfl
                  have s6 : RowAt (((((((wr.setCell ⟨w.heap.size, 0, none⟩ (.int .u16 0)).setCell ⟨w.heap.size, 1, none⟩ (.bool false)).setCell ⟨w.heap.size, 2, none⟩ (.int .i64 0)).setCell ⟨w.heap.size, 3, none⟩ (.bool false)).setCell ⟨w.heap.size, 4, none⟩ (.bool false)).setCell ⟨w.heap.size, 5, none⟩ (.bool false)).setCell ⟨w.heap.size, 6, none⟩ (.bool false)) (w.heap.size) 28 #[.int .u16 0, .bool false, .int .i64 0, .bool false, .bool false, .bool false, .bool false, .int .i64 0, .slice none 0 0, .slice none 0 0, .slice none 0 0, .slice none 0 0, .bool false, .int .u16 0, .bool false] := s5.same 6 rfl
                  have s7 : RowAt ((((((((wr.setCell ⟨w.heap.size, 0, none⟩ (.int .u16 0)).setCell ⟨w.heap.size, 1, none⟩ (.bool false)).setCell ⟨w.heap.size, 2, none⟩ (.int .i64 0)).setCell ⟨w.heap.size, 3, none⟩ (.bool false)).setCell ⟨w.heap.size, 4, none⟩ (.bool false)).setCell ⟨w.heap.size, 5, none⟩ (.bool false)).setCell ⟨w.heap.size, 6, none⟩ (.bool false)).setCell ⟨w.heap.size, 7, none⟩ (.int .i64 0)) (w.heap.size) 28 #[.int .u16 0, .bool false, .int .i64 0, .bool false, .bool false, .bool false, .bool false, .int .i64 0, .slice none 0 0, .slice none 0 0, .slice none 0 0, .slice none 0 0, .bool false, .int .u16 0, .bool false] := s6.same 7 rfl
                  have s8 : RowAt (((((((((wr.setCell ⟨w.heap.size, 0, none⟩ (.int .u16 0)).setCell ⟨w.heap.size, 1, none⟩ (.bool false)).setCell ⟨w.heap.size, 2, none⟩ (.int .i64 0)).setCell ⟨w.heap.size, 3, none⟩ (.bool false)).setCell ⟨w.heap.size, 4, none⟩ (.bool false)).setCell ⟨w.heap.size, 5, none⟩ (.bool false)).setCell ⟨w.heap.size, 6, none⟩ (.bool false)).setCell ⟨w.heap.size, 7, none⟩ (.int .i64 0)).setCell ⟨w.heap.size, 8, none⟩ (.slice none 0 0)) (w.heap.size) 28 #[.int .u16 0, .bool false, .int .i64 0, .bool false, .bool false, .bool false, .bool false, .int .i64 0, .slice none 0 0, .slice none 0 0, .slice none 0 0, .slice none 0 0, .bool false, .int .u16 0, .bool false] := s7.same 8 rfl
                  have s9 : RowAt ((((((((((wr.setCell ⟨w.heap.size, 0, none⟩ (.int .u16 0)).setCell ⟨w.heap.size, 1, none⟩ (.bool false)).setCell ⟨w.heap.size, 2, none⟩ (.int .i64 0)).setCell ⟨w.heap.size, 3, none⟩ (.bool false)).setCell ⟨w.heap.size, 4, none⟩ (.bool false)).setCell ⟨w.heap.size, 5, none⟩ (.bool false)).setCell ⟨w.heap.size, 6, none⟩ (.bool false)).setCell ⟨w.heap.size, 7, none⟩ (.int .i64 0)).setCell ⟨w.heap.size, 8, none⟩ (.slice none 0 0)).setCell ⟨w.heap.size, 9, none⟩ (.slice none 0 0)) (w.heap.size) 28 #[.int .u16 0, .bool false, .int .i64 0, .bool false, .bool false, .bool false, .bool false, .int .i64 0, .slice none 0 0, .slice none 0 0, .slice none 0 0, .slice none 0 0, .bool false, .int .u16 0, .bool false] := s8.same 9 rfl
                  have s10 : RowAt (((((((((((wr.setCell ⟨w.heap.size, 0, none⟩ (.int .u16 0)).setCell ⟨w.heap.size, 1, none⟩ (.bool false)).setCell ⟨w.heap.size, 2, none⟩ (.int .i64 0)).setCell ⟨w.heap.size, 3, none⟩ (.bool false)).setCell ⟨w.heap.size, 4, none⟩ (.bool false)).setCell ⟨w.heap.size, 5, none⟩ (.bool false)).setCell ⟨w.heap.size, 6, none⟩ (.bool false)).setCell ⟨w.heap.size, 7, none⟩ (.int .i64 0)).setCell ⟨w.heap.size, 8, none⟩ (.slice none 0 0)).setCell ⟨w.heap.size, 9, none⟩ (.slice none 0 0)).setCell ⟨w.heap.size, 10, none⟩ (.slice none 0 0)) (w.heap.size) 28 #[.int .u16 0, .bool false, .int .i64 0, .bool false, .bool false, .bool false, .bool false, .int .i64 0, .slice none 0 0, .slice none 0 0, .slice none 0 0, .slice none 0 0, .bool false, .int .u16 0, .bool false] := s9.same 10 rfl
                  have s11 : RowAt ((((((((((((wr.setCell ⟨w.heap.size, 0, none⟩ (.int .u16 0)).setCell ⟨w.heap.size, 1, none⟩ (.bool false)).setCell ⟨w.heap.size, 2, none⟩ (.int .i64 0)).setCell ⟨w.heap.size, 3, none⟩ (.bool false)).setCell ⟨w.heap.size, 4, none⟩ (.bool false)).setCell ⟨w.heap.size, 5, none⟩ (.bool false)).setCell ⟨w.heap.size, 6, none⟩ (.bool false)).setCell ⟨w.heap.size, 7, none⟩ (.int .i64 0)).setCell ⟨w.heap.size, 8, none⟩ (.slice none 0 0)).setCell ⟨w.heap.size, 9, none⟩ (.slice none 0 0)).setCell ⟨w.heap.size, 10, none⟩ (.slice none 0 0)).setCell ⟨w.heap.size, 11, none⟩ (.slice none 0 0)) (w.heap.size) 28 #[.int .u16 0, .bool false, .int .i64 0, .bool false, .bool false, .bool false, .bool false, .int .i64 0, .slice none 0 0, .slice none 0 0, .slice none 0 0, .slice none 0 0, .bool false, .int .u16 0, .bool false] := s10.same 11 rfl
                  have s12 : RowAt (((((((((((((wr.setCell ⟨w.heap.size, 0, none⟩ (.int .u16 0)).setCell ⟨w.heap.size, 1, none⟩ (.bool false)).setCell ⟨w.heap.size, 2, none⟩ (.int .i64 0)).setCell ⟨w.heap.size, 3, none⟩ (.bool false)).setCell ⟨w.heap.size, 4, none⟩ (.bool false)).setCell ⟨w.heap.size, 5, none⟩ (.bool false)).setCell ⟨w.heap.size, 6, none⟩ (.bool false)).setCell ⟨w.heap.size, 7, none⟩ (.int .i64 0)).setCell ⟨w.heap.size, 8, none⟩ (.slice none 0 0)).setCell ⟨w.heap.size, 9, none⟩ (.slice none 0 0)).setCell ⟨w.heap.size, 10, none⟩ (.slice none 0 0)).setCell ⟨w.heap.size, 11, none⟩ (.slice none 0 0)).setCell ⟨w.heap.size, 12, none⟩ (.bool false)) (w.heap.size) 28 #[.int .u16 0, .bool false, .int .i64 0, .bool false, .bool false, .bool false, .bool false, .int .i64 0, .slice none 0 0, .slice none 0 0, .slice none 0 0, .slice none 0 0, .bool false, .int .u16 0, .bool false] := s11.same 12 rfl
                  have s13 : RowAt ((((((((((((((wr.setCell ⟨w.heap.size, 0, none⟩ (.int .u16 0)).setCell ⟨w.heap.size, 1, none⟩ (.bool false)).setCell ⟨w.heap.size, 2, none⟩ (.int .i64 0)).setCell ⟨w.heap.size, 3, none⟩ (.bool false)).setCell ⟨w.heap.size, 4, none⟩ (.bool false)).setCell ⟨w.heap.size, 5, none⟩ (.bool false)).setCell ⟨w.heap.size, 6, none⟩ (.bool false)).setCell ⟨w.heap.size, 7, none⟩ (.int .i64 0)).setCell ⟨w.heap.size, 8, none⟩ (.slice none 0 0)).setCell ⟨w.heap.size, 9, none⟩ (.slice none 0 0)).setCell ⟨w.heap.size, 10, none⟩ (.slice none 0 0)).setCell ⟨w.heap.size, 11, none⟩ (.slice none 0 0)).setCell ⟨w.heap.size, 12, none⟩ (.bool false)).setCell ⟨w.heap.size, 13, none⟩ (.int .u16 0)) (w.heap.size) 28 #[.int .u16 0, .bool false, .int .i64 0, .bool false, .bool false, .bool false, .bool false, .int .i64 0, .slice none 0 0, .slice none 0 0, .slice none 0 0, .slice none 0 0, .bool false, .int .u16 0, .bool false] := s12.same 13 rfl
                  have s14 : RowAt (((((((((((((((wr.setCell ⟨w.heap.size, 0, none⟩ (.int .u16 0)).setCell ⟨w.heap.size, 1, none⟩ (.bool false)).setCell ⟨w.heap.size, 2, none⟩ (.int .i64 0)).setCell ⟨w.heap.size, 3, none⟩ (.bool false)).setCell ⟨w.heap.size, 4, none⟩ (.bool false)).setCell ⟨w.heap.size, 5, none⟩ (.bool false)).setCell ⟨w.heap.size, 6, none⟩ (.bool false)).setCell ⟨w.heap.size, 7, none⟩ (.int .i64 0)).setCell ⟨w.heap.size, 8, none⟩ (.slice none 0 0)).setCell ⟨w.heap.size, 9, none⟩ (.slice none 0 0)).setCell ⟨w.heap.size, 10, none⟩ (.slice none 0 0)).setCell ⟨w.heap.size, 11, none⟩ (.slice none 0 0)).setCell ⟨w.heap.size, 12, none⟩ (.bool false)).setCell ⟨w.heap.size, 13, none⟩ (.int .u16 0)).setCell ⟨w.heap.size, 14, none⟩ (.bool false)) (w.heap.size) 28 #[.int .u16 0, .bool false, .int .i64 0, .bool false, .bool false, .bool false, .bool false, .int .i64 0, .slice none 0 0, .slice none 0 0, .slice none 0 0, .slice none 0 0, .bool false, .int .u16 0, .bool false] := s13.same 14 rfl
                  have mm := (((((((((((((((Mv.refl (w.heap.size) wr).trans (Mv.set (w.heap.size) 0 _ (.int .u16 0))).trans (Mv.set (w.heap.size) 1 _ (.bool false))).trans (Mv.set (w.heap.size) 2 _ (.int .i64 0))).trans (Mv.set (w.heap.size) 3 _ (.bool false))).trans (Mv.set (w.heap.size) 4 _ (.bool false))).trans (Mv.set (w.heap.size) 5 _ (.bool false))).trans (Mv.set (w.heap.size) 6 _ (.bool false))).trans (Mv.set (w.heap.size) 7 _ (.int .i64 0))).trans (Mv.set (w.heap.size) 8 _ (.slice none 0 0))).trans (Mv.set (w.heap.size) 9 _ (.slice none 0 0))).trans (Mv.set (w.heap.size) 10 _ (.slice none 0 0))).trans (Mv.set (w.heap.size) 11 _ (.slice none 0 0))).trans (Mv.set (w.heap.size) 12 _ (.bool false))).trans (Mv.set (w.heap.size) 13 _ (.int .u16 0))).trans (Mv.set (w.heap.size) 14 _ (.bool false))
                  have bx : Below w.heap.size w (((((((((((((((wr.setCell ⟨w.heap.size, 0, none⟩ (.int .u16 0)).setCell ⟨w.heap.size, 1, none⟩ (.bool false)).setCell ⟨w.heap.size, 2, none⟩ (.int .i64 0)).setCell ⟨w.heap.size, 3, none⟩ (.bool false)).setCell ⟨w.heap.size, 4, none⟩ (.bool false)).setCell ⟨w.heap.size, 5, none⟩ (.bool false)).setCell ⟨w.heap.size, 6, none⟩ (.bool false)).setCell ⟨w.heap.size, 7, none⟩ (.int .i64 0)).setCell ⟨w.heap.size, 8, none⟩ (.slice none 0 0)).setCell ⟨w.heap.size, 9, none⟩ (.slice none 0 0)).setCell ⟨w.heap.size, 10, none⟩ (.slice none 0 0)).setCell ⟨w.heap.size, 11, none⟩ (.slice none 0 0)).setCell ⟨w.heap.size, 12, none⟩ (.bool false)).setCell ⟨w.heap.size, 13, none⟩ (.int .u16 0)).setCell ⟨w.heap.size, 14, none⟩ (.bool false)) := BB.out.trans (mm.below (Nat.le_refl _) BB.out.size)
                  clear s0 s1 s2 s3 s4 s5 s6 s7 s8 s9 s10 s11 s12 s13 a0 b0 a1 b1 a2 b2 a3 b3 a4 b4 a5 b5 a6 b6 a7 b7 a8 b8 a9 b9 a10 b10 a11 b11 a12 b12 a13 b13 a14 b14 mm
                  generalize (((((((((((((((wr.setCell ⟨w.heap.size, 0, none⟩ (.int .u16 0)).setCell ⟨w.heap.size, 1, none⟩ (.bool false)).setCell ⟨w.heap.size, 2, none⟩ (.int .i64 0)).setCell ⟨w.heap.size, 3, none⟩ (.bool false)).setCell ⟨w.heap.size, 4, none⟩ (.bool false)).setCell ⟨w.heap.size, 5, none⟩ (.bool false)).setCell ⟨w.heap.size, 6, none⟩ (.bool false)).setCell ⟨w.heap.size, 7, none⟩ (.int .i64 0)).setCell ⟨w.heap.size, 8, none⟩ (.slice none 0 0)).setCell ⟨w.heap.size, 9, none⟩ (.slice none 0 0)).setCell ⟨w.heap.size, 10, none⟩ (.slice none 0 0)).setCell ⟨w.heap.size, 11, none⟩ (.slice none 0 0)).setCell ⟨w.heap.size, 12, none⟩ (.bool false)).setCell ⟨w.heap.size, 13, none⟩ (.int .u16 0)).setCell ⟨w.heap.size, 14, none⟩ (.bool false)) = X at s14 bx ⊢
                  have z0 : X.cell? ⟨w.heap.size, 0, none⟩ = some (.int .u16 0) := s14.cell 0
                  have z1 : X.cell? ⟨w.heap.size, 1, none⟩ = some (.bool false) := s14.cell 1
                  have z2 : X.cell? ⟨w.heap.size, 2, none⟩ = some (.int .i64 0) := s14.cell 2
                  have z3 : X.cell? ⟨w.heap.size, 3, none⟩ = some (.bool false) := s14.cell 3
                  have z4 : X.cell? ⟨w.heap.size, 4, none⟩ = some (.bool false) := s14.cell 4
                  have z5 : X.cell? ⟨w.heap.size, 5, none⟩ = some (.bool false) := s14.cell 5
                  have z6 : X.cell? ⟨w.heap.size, 6, none⟩ = some (.bool false) := s14.cell 6
                  have z7 : X.cell? ⟨w.heap.size, 7, none⟩ = some (.int .i64 0) := s14.cell 7
                  have z8 : X.cell? ⟨w.heap.size, 8, none⟩ = some (.slice none 0 0) := s14.cell 8
                  have z9 : X.cell? ⟨w.heap.size, 9, none⟩ = some (.slice none 0 0) := s14.cell 9
                  have z10 : X.cell? ⟨w.heap.size, 10, none⟩ = some (.slice none 0 0) := s14.cell 10
                  have z11 : X.cell? ⟨w.heap.size, 11, none⟩ = some (.slice none 0 0) := s14.cell 11
                  have z12 : X.cell? ⟨w.heap.size, 12, none⟩ = some (.bool false) := s14.cell 12
                  have z13 : X.cell? ⟨w.heap.size, 13, none⟩ = some (.int .u16 0) := s14.cell 13
                  have z14 : X.cell? ⟨w.heap.size, 14, none⟩ = some (.bool false) := s14.cell 14
                  simp [bodyPost, results, Tryz.results11, go_sem, z0, z1, z2, z3, z4, z5, z6, z7, z8, z9, z10, z11, z12, z13, z14]
                  exact ⟨⟨HN.out, rfl⟩, bx⟩
end Go.Proofs.YtpgebiopckmgbaaGreat
