/- The region in which the law DiskPlays makes its model grow, in every order. Made by grn.py. -/
import Derived.Test.YtmjdlejomohbdaaRch
namespace Go.Proofs.Ytmjdlejomohbdaa
open Go.RowKit
set_option maxRecDepth 5000 in
theorem op_0 : ∃ o : Oper, ops11[0]? = some o ∧ o.op = .move (.tmp 8) ∧ o.dst = some 47 ∧ o.guard = none := ⟨_, rfl, rfl, rfl, rfl⟩
set_option maxRecDepth 5000 in
theorem op_1 : ∃ o : Oper, ops11[1]? = some o ∧ o.op = .move (.tmp 8) ∧ o.dst = some 48 ∧ o.guard = none := ⟨_, rfl, rfl, rfl, rfl⟩
set_option maxRecDepth 5000 in
theorem op_2 : ∃ o : Oper, ops11[2]? = some o ∧ o.op = .move (.tmp 8) ∧ o.dst = some 49 ∧ o.guard = none := ⟨_, rfl, rfl, rfl, rfl⟩
set_option maxRecDepth 5000 in
theorem op_3 : ∃ o : Oper, ops11[3]? = some o ∧ o.op = .move (.tmp 8) ∧ o.dst = some 50 ∧ o.guard = none := ⟨_, rfl, rfl, rfl, rfl⟩
set_option maxRecDepth 5000 in
theorem op_4 : ∃ o : Oper, ops11[4]? = some o ∧ o.op = .nilCheck (.tmp 50) ∧ o.dst = some 51 ∧ o.guard = none := ⟨_, rfl, rfl, rfl, rfl⟩
set_option maxRecDepth 5000 in
theorem op_5 : ∃ o : Oper, ops11[5]? = some o ∧ o.op = .fieldAddr 31 (.tmp 51) 0 ∧ o.dst = some 52 ∧ o.guard = none := ⟨_, rfl, rfl, rfl, rfl⟩
set_option maxRecDepth 5000 in
theorem op_6 : ∃ o : Oper, ops11[6]? = some o ∧ o.op = .load 28 (.tmp 52) ∧ o.dst = some 53 ∧ o.guard = none := ⟨_, rfl, rfl, rfl, rfl⟩
set_option maxRecDepth 5000 in
theorem op_7 : ∃ o : Oper, ops11[7]? = some o ∧ o.op = .move (.tmp 1) ∧ o.dst = some 54 ∧ o.guard = none := ⟨_, rfl, rfl, rfl, rfl⟩
set_option maxRecDepth 5000 in
theorem op_8 : ∃ o : Oper, ops11[8]? = some o ∧ o.op = .call { callee := .builtin .max, args := #[.tmp 54, .const (.int .i64 64)], argTypes := #[3, 3] } ∧ o.dst = some 55 ∧ o.guard = none := ⟨_, rfl, rfl, rfl, rfl⟩
set_option maxRecDepth 5000 in
theorem op_9 : ∃ o : Oper, ops11[9]? = some o ∧ o.op = .makeSlice 32 (.tmp 55) (.tmp 55) ∧ o.dst = some 56 ∧ o.guard = none := ⟨_, rfl, rfl, rfl, rfl⟩
set_option maxRecDepth 5000 in
theorem op_10 : ∃ o : Oper, ops11[10]? = some o ∧ o.op = .buildSlice 28 1 #[(0, .tmp 56)] ∧ o.dst = some 57 ∧ o.guard = none := ⟨_, rfl, rfl, rfl, rfl⟩
set_option maxRecDepth 5000 in
theorem op_11 : ∃ o : Oper, ops11[11]? = some o ∧ o.op = .call { callee := .builtin .append, args := #[.tmp 53, .tmp 57], argTypes := #[28, 28] } ∧ o.dst = some 58 ∧ o.guard = none := ⟨_, rfl, rfl, rfl, rfl⟩
set_option maxRecDepth 5000 in
theorem op_12 : ∃ o : Oper, ops11[12]? = some o ∧ o.op = .move (.tmp 8) ∧ o.dst = some 59 ∧ o.guard = none := ⟨_, rfl, rfl, rfl, rfl⟩
set_option maxRecDepth 5000 in
theorem op_13 : ∃ o : Oper, ops11[13]? = some o ∧ o.op = .nilCheck (.tmp 59) ∧ o.dst = some 60 ∧ o.guard = none := ⟨_, rfl, rfl, rfl, rfl⟩
set_option maxRecDepth 5000 in
theorem op_14 : ∃ o : Oper, ops11[14]? = some o ∧ o.op = .fieldAddr 31 (.tmp 60) 1 ∧ o.dst = some 61 ∧ o.guard = none := ⟨_, rfl, rfl, rfl, rfl⟩
set_option maxRecDepth 5000 in
theorem op_15 : ∃ o : Oper, ops11[15]? = some o ∧ o.op = .load 28 (.tmp 61) ∧ o.dst = some 62 ∧ o.guard = none := ⟨_, rfl, rfl, rfl, rfl⟩
set_option maxRecDepth 5000 in
theorem op_16 : ∃ o : Oper, ops11[16]? = some o ∧ o.op = .move (.tmp 1) ∧ o.dst = some 63 ∧ o.guard = none := ⟨_, rfl, rfl, rfl, rfl⟩
set_option maxRecDepth 5000 in
theorem op_17 : ∃ o : Oper, ops11[17]? = some o ∧ o.op = .call { callee := .builtin .max, args := #[.tmp 63, .const (.int .i64 64)], argTypes := #[3, 3] } ∧ o.dst = some 64 ∧ o.guard = none := ⟨_, rfl, rfl, rfl, rfl⟩
set_option maxRecDepth 5000 in
theorem op_18 : ∃ o : Oper, ops11[18]? = some o ∧ o.op = .makeSlice 32 (.tmp 64) (.tmp 64) ∧ o.dst = some 65 ∧ o.guard = none := ⟨_, rfl, rfl, rfl, rfl⟩
set_option maxRecDepth 5000 in
theorem op_19 : ∃ o : Oper, ops11[19]? = some o ∧ o.op = .buildSlice 28 1 #[(0, .tmp 65)] ∧ o.dst = some 66 ∧ o.guard = none := ⟨_, rfl, rfl, rfl, rfl⟩
set_option maxRecDepth 5000 in
theorem op_20 : ∃ o : Oper, ops11[20]? = some o ∧ o.op = .call { callee := .builtin .append, args := #[.tmp 62, .tmp 66], argTypes := #[28, 28] } ∧ o.dst = some 67 ∧ o.guard = none := ⟨_, rfl, rfl, rfl, rfl⟩
set_option maxRecDepth 5000 in
theorem op_21 : ∃ o : Oper, ops11[21]? = some o ∧ o.op = .move (.tmp 8) ∧ o.dst = some 68 ∧ o.guard = none := ⟨_, rfl, rfl, rfl, rfl⟩
set_option maxRecDepth 5000 in
theorem op_22 : ∃ o : Oper, ops11[22]? = some o ∧ o.op = .nilCheck (.tmp 68) ∧ o.dst = some 69 ∧ o.guard = none := ⟨_, rfl, rfl, rfl, rfl⟩
set_option maxRecDepth 5000 in
theorem op_23 : ∃ o : Oper, ops11[23]? = some o ∧ o.op = .fieldAddr 31 (.tmp 69) 2 ∧ o.dst = some 70 ∧ o.guard = none := ⟨_, rfl, rfl, rfl, rfl⟩
set_option maxRecDepth 5000 in
theorem op_24 : ∃ o : Oper, ops11[24]? = some o ∧ o.op = .load 29 (.tmp 70) ∧ o.dst = some 71 ∧ o.guard = none := ⟨_, rfl, rfl, rfl, rfl⟩
set_option maxRecDepth 5000 in
theorem op_25 : ∃ o : Oper, ops11[25]? = some o ∧ o.op = .buildSlice 29 1 #[(0, .const (.bool false))] ∧ o.dst = some 72 ∧ o.guard = none := ⟨_, rfl, rfl, rfl, rfl⟩
set_option maxRecDepth 5000 in
theorem op_26 : ∃ o : Oper, ops11[26]? = some o ∧ o.op = .call { callee := .builtin .append, args := #[.tmp 71, .tmp 72], argTypes := #[29, 29] } ∧ o.dst = some 73 ∧ o.guard = none := ⟨_, rfl, rfl, rfl, rfl⟩
set_option maxRecDepth 5000 in
theorem op_27 : ∃ o : Oper, ops11[27]? = some o ∧ o.op = .nilCheck (.tmp 47) ∧ o.dst = some 74 ∧ o.guard = none := ⟨_, rfl, rfl, rfl, rfl⟩
set_option maxRecDepth 5000 in
theorem op_28 : ∃ o : Oper, ops11[28]? = some o ∧ o.op = .fieldAddr 31 (.tmp 74) 0 ∧ o.dst = some 75 ∧ o.guard = none := ⟨_, rfl, rfl, rfl, rfl⟩
set_option maxRecDepth 5000 in
theorem op_29 : ∃ o : Oper, ops11[29]? = some o ∧ o.op = .store 28 (.tmp 75) (.tmp 58) ∧ o.dst = none ∧ o.guard = none := ⟨_, rfl, rfl, rfl, rfl⟩
set_option maxRecDepth 5000 in
theorem op_30 : ∃ o : Oper, ops11[30]? = some o ∧ o.op = .nilCheck (.tmp 48) ∧ o.dst = some 76 ∧ o.guard = none := ⟨_, rfl, rfl, rfl, rfl⟩
set_option maxRecDepth 5000 in
theorem op_31 : ∃ o : Oper, ops11[31]? = some o ∧ o.op = .fieldAddr 31 (.tmp 76) 1 ∧ o.dst = some 77 ∧ o.guard = none := ⟨_, rfl, rfl, rfl, rfl⟩
set_option maxRecDepth 5000 in
theorem op_32 : ∃ o : Oper, ops11[32]? = some o ∧ o.op = .store 28 (.tmp 77) (.tmp 67) ∧ o.dst = none ∧ o.guard = none := ⟨_, rfl, rfl, rfl, rfl⟩
set_option maxRecDepth 5000 in
theorem op_33 : ∃ o : Oper, ops11[33]? = some o ∧ o.op = .nilCheck (.tmp 49) ∧ o.dst = some 78 ∧ o.guard = none := ⟨_, rfl, rfl, rfl, rfl⟩
set_option maxRecDepth 5000 in
theorem op_34 : ∃ o : Oper, ops11[34]? = some o ∧ o.op = .fieldAddr 31 (.tmp 78) 2 ∧ o.dst = some 79 ∧ o.guard = none := ⟨_, rfl, rfl, rfl, rfl⟩
set_option maxRecDepth 5000 in
theorem op_35 : ∃ o : Oper, ops11[35]? = some o ∧ o.op = .store 29 (.tmp 79) (.tmp 73) ∧ o.dst = none ∧ o.guard = none := ⟨_, rfl, rfl, rfl, rfl⟩
set_option maxRecDepth 5000 in
theorem op_go {Q : Exit → Act → World → Prop} {K : Act → World → Prop} {i : Nat} {o : Oper} {a : Act} {w w' : World} {v : Value} (ho : ops11[i]? = some o) (hg : o.guard = none) (hr : (execOp a.eval o).run Try.prog w = .ok (.value v) w') (h : K (a.put o.dst v) w') : wpOp Try.prog ops11 Q i K a w := by
  unfold wpOp
  simp only [ho]
  rw [if_pos (by simp [Region.wanted, hg])]
  refine Or.inl ?_
  unfold Oper.wp
  rw [hr]
  exact h
set_option maxRecDepth 5000 in
theorem op_skip {Q : Exit → Act → World → Prop} {K : Act → World → Prop} {i : Nat} {o : Oper} {a : Act} {w w' : World} (ho : ops11[i]? = some o) (hg : o.guard = none) (hd : o.dst = none) (hr : (execOp a.eval o).run Try.prog w = .ok .skip w') (h : K a w') : wpOp Try.prog ops11 Q i K a w := by
  unfold wpOp
  simp only [ho]
  rw [if_pos (by simp [Region.wanted, hg])]
  refine Or.inl ?_
  unfold Oper.wp
  rw [hr]
  show K (a.put o.dst undef) w'
  rw [hd]
  exact h
/- what is known ahead of the region -/
structure Hy (base MM N1 k Z : Nat) (lv sv fv : Value) : Prop where
  fl : ∃ p n c, lv = .slice p n c
  fs : ∃ p n c, sv = .slice p n c
  ff : ∃ p n c, fv = .slice p n c
  hl : ∀ b, lv.ownBlock = some b → b < N1 ∧ b ≠ MM ∧ sv.ownBlock ≠ some b ∧ fv.ownBlock ≠ some b
  hs : ∀ b, sv.ownBlock = some b → b < N1 ∧ b ≠ MM ∧ lv.ownBlock ≠ some b ∧ fv.ownBlock ≠ some b
  hf : ∀ b, fv.ownBlock = some b → b < N1 ∧ b ≠ MM ∧ lv.ownBlock ≠ some b ∧ sv.ownBlock ≠ some b
  hb : base ≤ N1
  hk : k ≤ 1000
  hz : Z ≤ 100000
structure Nd (base MM N1 k Z : Nat) (lv sv fv : Value) (Ls Ss Fs : List Value) (a1 : Act) (w1 : World) (i j c : Nat) (a : Act) (w : World) : Prop where
  bs : Bs MM N1 Z lv sv fv a1 w1 a w
  ca : Ch base N1 k Z 56 57 58 lv Ls i a w
  cb : Ch base N1 k Z 65 66 67 sv Ss j a w
  cc : Cc base N1 k 72 73 fv Fs c a w
  ne : i = 3 → j = 3 → ∀ b, (a.eval (.tmp 58)).ownBlock = some b → (a.eval (.tmp 67)).ownBlock ≠ some b
section
variable {base MM N1 k Z : Nat} {lv sv fv : Value} {Ls Ss Fs : List Value} {a1 : Act} {w1 : World} {i j c : Nat} {a : Act} {w : World} {Q : Exit → Act → World → Prop} {K : Act → World → Prop}
set_option maxRecDepth 5000 in
theorem sA0 (hy : Hy base MM N1 k Z lv sv fv) (_hj : j < 3) (hc : c < 2) (h : Nd base MM N1 k Z lv sv fv Ls Ss Fs a1 w1 0 j c a w) (hK : ∀ a' w', Nd base MM N1 k Z lv sv fv Ls Ss Fs a1 w1 1 j c a' w' → K a' w') : wpOp Try.prog ops11 Q 9 K a w := by
  obtain ⟨o, ho, hop, hd, hg⟩ := op_9
  refine op_go ho hg (x_make a o _ Z (by have := hy.hz; omega) hop h.bs.e55 w) ?_
  rw [hd]
  have hga := grown_alloc w (.cells (vb (List.replicate Z 0)).toArray 5)
  refine hK _ _ ⟨h.bs.step 56 _ (by decide) hga (fun b hb => by cases hb), ⟨owns_stay h.ca hga (fun b hb => by cases hb), w.heap.size, ev_same _ _ _ (by rw [h.bs.z]; decide), h.bs.size, RowAt.new w _ _⟩, h.cb.stay (ev_other _ _ _ _ (by decide)) (ev_other _ _ _ _ (by decide)) (ev_other _ _ _ _ (by decide)) hga (fun b hb => by cases hb), h.cc.stay hc (ev_other _ _ _ _ (by decide)) hga (fun b hb => by cases hb), fun _ e => absurd e (by omega)⟩
set_option maxRecDepth 5000 in
theorem sB0 (hy : Hy base MM N1 k Z lv sv fv) (hc : c < 2) (h : Nd base MM N1 k Z lv sv fv Ls Ss Fs a1 w1 i 0 c a w) (hK : ∀ a' w', Nd base MM N1 k Z lv sv fv Ls Ss Fs a1 w1 i 1 c a' w' → K a' w') : wpOp Try.prog ops11 Q 18 K a w := by
  obtain ⟨o, ho, hop, hd, hg⟩ := op_18
  refine op_go ho hg (x_make a o _ Z (by have := hy.hz; omega) hop h.bs.e64 w) ?_
  rw [hd]
  have hga := grown_alloc w (.cells (vb (List.replicate Z 0)).toArray 5)
  refine hK _ _ ⟨h.bs.step 65 _ (by decide) hga (fun b hb => by cases hb), h.ca.stay (ev_other _ _ _ _ (by decide)) (ev_other _ _ _ _ (by decide)) (ev_other _ _ _ _ (by decide)) hga (fun b hb => by cases hb), ⟨owns_stay h.cb hga (fun b hb => by cases hb), w.heap.size, ev_same _ _ _ (by rw [h.bs.z]; decide), h.bs.size, RowAt.new w _ _⟩, h.cc.stay hc (ev_other _ _ _ _ (by decide)) hga (fun b hb => by cases hb), fun _ e => absurd e (by omega)⟩
set_option maxRecDepth 5000 in
theorem sA1 (_hy : Hy base MM N1 k Z lv sv fv) (_hj : j < 3) (hc : c < 2) (h : Nd base MM N1 k Z lv sv fv Ls Ss Fs a1 w1 1 j c a w) (hK : ∀ a' w', Nd base MM N1 k Z lv sv fv Ls Ss Fs a1 w1 2 j c a' w' → K a' w') : wpOp Try.prog ops11 Q 10 K a w := by
  obtain ⟨o, ho, hop, hd, hg⟩ := op_10
  obtain ⟨h0, g, h1, h2, h3⟩ := h.ca
  refine op_go ho hg (x_build a o _ _ ⟨_, _, _, rfl⟩ hop h1 w) ?_
  rw [hd]
  have hga := grown_alloc w (.cells #[.slice (some ⟨g, 0, none⟩) Z Z] 32)
  refine hK _ _ ⟨h.bs.step 57 _ (by decide) hga (fun b hb => by cases hb), ⟨owns_stay h0 hga (fun b hb => by cases hb), g, w.heap.size, ev_same _ _ _ (by rw [h.bs.z]; decide), h2, h.bs.size, row_stay h3 hga (by simp), RowAt.new w _ _⟩, h.cb.stay (ev_other _ _ _ _ (by decide)) (ev_other _ _ _ _ (by decide)) (ev_other _ _ _ _ (by decide)) hga (fun b hb => by cases hb), h.cc.stay hc (ev_other _ _ _ _ (by decide)) hga (fun b hb => by cases hb), fun _ e => absurd e (by omega)⟩
set_option maxRecDepth 5000 in
theorem sB1 (_hy : Hy base MM N1 k Z lv sv fv) (hc : c < 2) (h : Nd base MM N1 k Z lv sv fv Ls Ss Fs a1 w1 i 1 c a w) (hK : ∀ a' w', Nd base MM N1 k Z lv sv fv Ls Ss Fs a1 w1 i 2 c a' w' → K a' w') : wpOp Try.prog ops11 Q 19 K a w := by
  obtain ⟨o, ho, hop, hd, hg⟩ := op_19
  obtain ⟨h0, g, h1, h2, h3⟩ := h.cb
  refine op_go ho hg (x_build a o _ _ ⟨_, _, _, rfl⟩ hop h1 w) ?_
  rw [hd]
  have hga := grown_alloc w (.cells #[.slice (some ⟨g, 0, none⟩) Z Z] 32)
  refine hK _ _ ⟨h.bs.step 66 _ (by decide) hga (fun b hb => by cases hb), h.ca.stay (ev_other _ _ _ _ (by decide)) (ev_other _ _ _ _ (by decide)) (ev_other _ _ _ _ (by decide)) hga (fun b hb => by cases hb), ⟨owns_stay h0 hga (fun b hb => by cases hb), g, w.heap.size, ev_same _ _ _ (by rw [h.bs.z]; decide), h2, h.bs.size, row_stay h3 hga (by simp), RowAt.new w _ _⟩, h.cc.stay hc (ev_other _ _ _ _ (by decide)) hga (fun b hb => by cases hb), fun _ e => absurd e (by omega)⟩
set_option maxRecDepth 5000 in
theorem sA2 (hy : Hy base MM N1 k Z lv sv fv) (hj : j < 3) (hc : c < 2) (h : Nd base MM N1 k Z lv sv fv Ls Ss Fs a1 w1 2 j c a w) (hK : ∀ a' w', Nd base MM N1 k Z lv sv fv Ls Ss Fs a1 w1 3 j c a' w' → K a' w') : wpOp Try.prog ops11 Q 11 K a w := by
  obtain ⟨o, ho, hop, hd, hg⟩ := op_11
  obtain ⟨h0, g, h', h1, h2, h3, h4, h5⟩ := h.ca
  obtain ⟨i0, hi, hz0, hz1, hz2⟩ := info_parts infoBs
  obtain ⟨v', w', hr, hO, hG, hw⟩ := app_who w base 28 o.type 32 i0 (.slice none 0 0) 24 Try.underlying28 hi hz0 hz1 hz2 rfl (by omega) lv k _ h0 hy.hk h' 1 (.slice (some ⟨g, 0, none⟩) Z Z) (h5.cell 0) rfl (Nat.le_trans hy.hb h.bs.size)
  refine op_go ho hg (x_append a o _ _ 28 lv h' 1 hop h.bs.e53 h1 w w' v' hr) ?_
  rw [hd]
  refine hK _ _ ⟨h.bs.step 58 _ (by decide) hG (fun b hb => ⟨(hy.hl b hb).2.1, Or.inl hb⟩), ⟨g, v', ev_same _ _ _ (by rw [h.bs.z]; decide), h2, row_stay h4 hG (fun e => by have := (hy.hl g e).1; omega), hO, hw.imp id (fun e => ⟨_, e, h.bs.size⟩)⟩, h.cb.stay (ev_other _ _ _ _ (by decide)) (ev_other _ _ _ _ (by decide)) (ev_other _ _ _ _ (by decide)) hG (fun b hb => ⟨(hy.hl b hb).1, (hy.hl b hb).2.2.1⟩), h.cc.stay hc (ev_other _ _ _ _ (by decide)) hG (fun b hb => ⟨(hy.hl b hb).1, (hy.hl b hb).2.2.2⟩), fun _ e => absurd e (by omega)⟩
set_option maxRecDepth 5000 in
theorem sB2 (hy : Hy base MM N1 k Z lv sv fv) (hc : c < 2) (h : Nd base MM N1 k Z lv sv fv Ls Ss Fs a1 w1 3 2 c a w) (hK : ∀ a' w', Nd base MM N1 k Z lv sv fv Ls Ss Fs a1 w1 3 3 c a' w' → K a' w') : wpOp Try.prog ops11 Q 20 K a w := by
  obtain ⟨o, ho, hop, hd, hg⟩ := op_20
  obtain ⟨h0, g, h', h1, h2, h3, h4, h5⟩ := h.cb
  obtain ⟨i0, hi, hz0, hz1, hz2⟩ := info_parts infoBs
  obtain ⟨v', w', hr, hO, hG, hw⟩ := app_who w base 28 o.type 32 i0 (.slice none 0 0) 24 Try.underlying28 hi hz0 hz1 hz2 rfl (by omega) sv k _ h0 hy.hk h' 1 (.slice (some ⟨g, 0, none⟩) Z Z) (h5.cell 0) rfl (Nat.le_trans hy.hb h.bs.size)
  refine op_go ho hg (x_append a o _ _ 28 sv h' 1 hop h.bs.e62 h1 w w' v' hr) ?_
  rw [hd]
  refine hK _ _ ⟨h.bs.step 67 _ (by decide) hG (fun b hb => ⟨(hy.hs b hb).2.1, Or.inr (Or.inl hb)⟩), h.ca.stay (ev_other _ _ _ _ (by decide)) (ev_other _ _ _ _ (by decide)) (ev_other _ _ _ _ (by decide)) hG (fun b hb => ⟨(hy.hs b hb).1, (hy.hs b hb).2.2.1⟩), ⟨g, v', ev_same _ _ _ (by rw [h.bs.z]; decide), h2, row_stay h4 hG (fun e => by have := (hy.hs g e).1; omega), hO, hw.imp id (fun e => ⟨_, e, h.bs.size⟩)⟩, h.cc.stay hc (ev_other _ _ _ _ (by decide)) hG (fun b hb => ⟨(hy.hs b hb).1, (hy.hs b hb).2.2.2⟩), fun _ _ b hb1 hb2 => by
    obtain ⟨gA, vA, eA, qA, rA, oA, wA⟩ := h.ca
    rw [ev_other _ _ _ _ (by decide), eA] at hb1
    rw [ev_same _ _ _ (by rw [h.bs.z]; decide)] at hb2
    have hlt : b < w.heap.size := by
      rcases oA.2 with ⟨e1, _⟩ | ⟨g1, cap1, cur1, e1, _, e2, _⟩
      · rw [e1] at hb1; cases hb1
      · rw [e1] at hb1; injection hb1 with hb1; subst hb1; exact (Array.getElem?_eq_some_iff.1 e2).1
    rcases hw with hw | hw
    · rw [hw] at hb2
      have h9 := hy.hs b hb2
      rcases wA with wA | ⟨b', wA, hb'⟩
      · rw [wA] at hb1; exact h9.2.2.1 hb1
      · rw [wA] at hb1; injection hb1 with hb1; omega
    · rw [hw] at hb2; injection hb2 with hb2; omega⟩
set_option maxRecDepth 5000 in
theorem sC0 (_hy : Hy base MM N1 k Z lv sv fv) (h : Nd base MM N1 k Z lv sv fv Ls Ss Fs a1 w1 i j 0 a w) (hK : ∀ a' w', Nd base MM N1 k Z lv sv fv Ls Ss Fs a1 w1 i j 1 a' w' → K a' w') : wpOp Try.prog ops11 Q 25 K a w := by
  obtain ⟨o, ho, hop, hd, hg⟩ := op_25
  refine op_go ho hg (x_buildb a o hop w) ?_
  rw [hd]
  have hga := grown_alloc w (.cells #[.bool false] 4)
  refine hK _ _ ⟨h.bs.step 72 _ (by decide) hga (fun b hb => by cases hb), h.ca.stay (ev_other _ _ _ _ (by decide)) (ev_other _ _ _ _ (by decide)) (ev_other _ _ _ _ (by decide)) hga (fun b hb => by cases hb), h.cb.stay (ev_other _ _ _ _ (by decide)) (ev_other _ _ _ _ (by decide)) (ev_other _ _ _ _ (by decide)) hga (fun b hb => by cases hb), ⟨owns_stay h.cc hga (fun b hb => by cases hb), w.heap.size, ev_same _ _ _ (by rw [h.bs.z]; decide), h.bs.size, RowAt.new w _ _⟩, fun e1 e2 b hb => by rw [ev_other _ _ _ _ (by decide)] at hb ⊢; exact h.ne e1 e2 b hb⟩
set_option maxRecDepth 5000 in
theorem sC1 (hy : Hy base MM N1 k Z lv sv fv) (h : Nd base MM N1 k Z lv sv fv Ls Ss Fs a1 w1 i j 1 a w) (hK : ∀ a' w', Nd base MM N1 k Z lv sv fv Ls Ss Fs a1 w1 i j 2 a' w' → K a' w') : wpOp Try.prog ops11 Q 26 K a w := by
  obtain ⟨o, ho, hop, hd, hg⟩ := op_26
  obtain ⟨h0, h', h1, h2, h3⟩ := h.cc
  obtain ⟨i0, hi, hz0, hz1, hz2⟩ := info_parts infoBl
  obtain ⟨v', w', hr, hO, hG, hw⟩ := app_who w base 29 o.type 4 i0 (.bool false) 1 Try.underlying29 hi hz0 hz1 hz2 rfl (by omega) fv k _ h0 hy.hk h' 1 (.bool false) (h3.cell 0) rfl (Nat.le_trans hy.hb h.bs.size)
  refine op_go ho hg (x_append a o _ _ 29 fv h' 1 hop h.bs.e71 h1 w w' v' hr) ?_
  rw [hd]
  refine hK _ _ ⟨h.bs.step 73 _ (by decide) hG (fun b hb => ⟨(hy.hf b hb).2.1, Or.inr (Or.inr hb)⟩), h.ca.stay (ev_other _ _ _ _ (by decide)) (ev_other _ _ _ _ (by decide)) (ev_other _ _ _ _ (by decide)) hG (fun b hb => ⟨(hy.hf b hb).1, (hy.hf b hb).2.2.1⟩), h.cb.stay (ev_other _ _ _ _ (by decide)) (ev_other _ _ _ _ (by decide)) (ev_other _ _ _ _ (by decide)) hG (fun b hb => ⟨(hy.hf b hb).1, (hy.hf b hb).2.2.2⟩), ⟨v', ev_same _ _ _ (by rw [h.bs.z]; decide), hO⟩, fun e1 e2 b hb => by rw [ev_other _ _ _ _ (by decide)] at hb ⊢; exact h.ne e1 e2 b hb⟩
end
end Go.Proofs.Ytmjdlejomohbdaa
