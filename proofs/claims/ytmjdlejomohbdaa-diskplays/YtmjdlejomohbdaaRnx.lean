/- The region in which the model grows: its orders, one by one; what it comes to. Made by grn.py. -/
import Derived.Test.YtmjdlejomohbdaaRnd
namespace Go.Proofs.Ytmjdlejomohbdaa
open Go.RowKit
def lsd (l : List Nat) : Array Bool := ((List.range 36).map fun q => l.contains q).toArray
def JSt (i : Nat) : Bool := decide (27 ≤ i)
def SS (MM : Nat) (lv sv fv : Value) (w : World) : Prop := RowAt w MM 31 #[lv, sv, fv, .bool false, .bool false, .int .i64 0]
structure Fin11 (base MM N1 k Z : Nat) (lv sv fv : Value) (Ls Ss Fs : List Value) (a1 : Act) (w1 : World) (a : Act) (w : World) : Prop where
  z : a.tmps.size = 386
  d : a.defers = []
  keep : ∀ q, (q < 47 ∨ 79 < q) → a.eval (.tmp q) = a1.eval (.tmp q)
  st : ∃ gA gB lv' sv' fv', RowAt w MM 31 #[lv', sv', fv', .bool false, .bool false, .int .i64 0] ∧ N1 ≤ gA ∧ N1 ≤ gB ∧ RowAt w gA 5 (zer Z) ∧ RowAt w gB 5 (zer Z) ∧
    w.ownsRow base 32 1 lv' (k + 1) (Ls ++ [.slice (some ⟨gA, 0, none⟩) Z Z]) ∧ w.ownsRow base 32 1 sv' (k + 1) (Ss ++ [.slice (some ⟨gB, 0, none⟩) Z Z]) ∧ w.ownsRow base 4 1 fv' (k + 1) (Fs ++ [.bool false]) ∧ (∀ b, lv'.ownBlock = some b → sv'.ownBlock ≠ some b)
  os : w.os = w1.os
  tape : w.tape = w1.tape
  output : w.output = w1.output
  size : N1 ≤ w.heap.size
  block : ∀ g, g < N1 → g ≠ MM → lv.ownBlock ≠ some g → sv.ownBlock ≠ some g → fv.ownBlock ≠ some g → w.heap[g]? = w1.heap[g]?
set_option maxRecDepth 5000 in
theorem owns_form {w : World} {base : Nat} {e : TypeId} {v : Value} {n : Nat} {xs : List Value} (h : w.ownsRow base e 1 v n xs) : ∃ p n c, v = .slice p n c := by
  rcases h.2 with ⟨e, _⟩ | ⟨g, cap, cur, e, _⟩
  · exact ⟨_, _, _, e⟩
  · exact ⟨_, _, _, e⟩
set_option maxRecDepth 5000 in
theorem owns_ne {w : World} {base : Nat} {e t : TypeId} {v : Value} {n : Nat} {xs : List Value} {g : Nat} {c : Array Value} (h : w.ownsRow base e 1 v n xs) (hg : RowAt w g t c) (ht : t ≠ e) : v.ownBlock ≠ some g := fun he => by
  rcases h.2 with ⟨e1, _⟩ | ⟨g', cap, cur, e1, _, e2, _⟩
  · rw [e1] at he; cases he
  · rw [e1] at he; injection he with he; subst he
    exact hg.ne (show RowAt w g' e cur from e2) ht rfl
set_option maxRecDepth 5000 in
theorem owns_set {w : World} {base : Nat} {e t : TypeId} {v : Value} {n : Nat} {xs : List Value} {g j : Nat} {c : Array Value} {u : Value} (h : w.ownsRow base e 1 v n xs) (hg : RowAt w g t c) (ht : t ≠ e) : (w.setCell ⟨g, j, none⟩ u).ownsRow base e 1 v n xs :=
  owns_stay h (grown_set w g j u) (fun b hb => by injection hb with hb; subst hb; exact owns_ne h hg ht)
section
variable {base MM N1 k Z : Nat} {lv sv fv : Value} {Ls Ss Fs : List Value} {a1 : Act} {w1 : World} {a : Act} {w : World}
set_option maxRecDepth 10000 in
theorem tail11 (h : Nd base MM N1 k Z lv sv fv Ls Ss Fs a1 w1 3 3 2 a w) : wpAnyX Try.prog .any ops11 (NJ (Fin11 base MM N1 k Z lv sv fv Ls Ss Fs a1 w1)) (SS MM lv sv fv) JSt 9 (lsd [0, 1, 2, 3, 4, 5, 6, 7, 8, 9, 10, 11, 12, 13, 14, 15, 16, 17, 18, 19, 20, 21, 22, 23, 24, 25, 26]) a w := by
  obtain ⟨gA, vA, eA, qA, rA, oA, wA⟩ := h.ca
  obtain ⟨gB, vB, eB, qB, rB, oB, wB⟩ := h.cb
  obtain ⟨vC, eC, oC⟩ := h.cc
  have hne := h.ne rfl rfl
  rw [eA, eB] at hne
  have hz := h.bs.z
  have r0 := h.bs.row
  have r1 := r0.set 0 vA
  have r2 := r1.set 1 vB
  have r3 := r2.set 2 vC
  obtain ⟨o7, ho7, hop7, hd7, hg7⟩ := op_27
  obtain ⟨o8, ho8, hop8, hd8, hg8⟩ := op_28
  obtain ⟨o9, ho9, hop9, hd9, hg9⟩ := op_29
  obtain ⟨p0, hp0, hpp0, hpd0, hpg0⟩ := op_30
  obtain ⟨p1, hp1, hpp1, hpd1, hpg1⟩ := op_31
  obtain ⟨p2, hp2, hpp2, hpd2, hpg2⟩ := op_32
  obtain ⟨p3, hp3, hpp3, hpd3, hpg3⟩ := op_33
  obtain ⟨p4, hp4, hpp4, hpd4, hpg4⟩ := op_34
  obtain ⟨p5, hp5, hpp5, hpd5, hpg5⟩ := op_35
  refine wpAnyX_ready (rs := [27]) (by kernel_rfl) (by simp) (fun q hq => ?_)
  obtain rfl : q = 27 := by simpa using hq
  refine op_go ho7 hg7 (x_nil _ o7 _ MM hop7 h.bs.e47 _) ⟨Or.inl rfl, ?_⟩
  rw [hd7]
  rw [show (lsd [0, 1, 2, 3, 4, 5, 6, 7, 8, 9, 10, 11, 12, 13, 14, 15, 16, 17, 18, 19, 20, 21, 22, 23, 24, 25, 26]).setIfInBounds 27 true = (lsd [0, 1, 2, 3, 4, 5, 6, 7, 8, 9, 10, 11, 12, 13, 14, 15, 16, 17, 18, 19, 20, 21, 22, 23, 24, 25, 26, 27]) by kernel_rfl]
  refine wpAnyX_ready (rs := [28]) (by kernel_rfl) (by simp) (fun q hq => ?_)
  obtain rfl : q = 28 := by simpa using hq
  refine op_go ho8 hg8 (x_field _ o8 _ MM 0 (by decide) hop8 (ev_same _ 74 _ (by (try simp only [put_size]); rw [hz]; decide)) _) ⟨Or.inl rfl, ?_⟩
  rw [hd8]
  rw [show (lsd [0, 1, 2, 3, 4, 5, 6, 7, 8, 9, 10, 11, 12, 13, 14, 15, 16, 17, 18, 19, 20, 21, 22, 23, 24, 25, 26, 27]).setIfInBounds 28 true = (lsd [0, 1, 2, 3, 4, 5, 6, 7, 8, 9, 10, 11, 12, 13, 14, 15, 16, 17, 18, 19, 20, 21, 22, 23, 24, 25, 26, 27, 28]) by kernel_rfl]
  refine wpAnyX_ready (rs := [29]) (by kernel_rfl) (by simp) (fun q hq => ?_)
  obtain rfl : q = 29 := by simpa using hq
  refine op_skip ho9 hg9 hd9 (x_store _ o9 _ _ MM 0 _ (Or.inl rfl) vA _ (owns_form oA) hop9 (ev_same _ 75 _ (by (try simp only [put_size]); rw [hz]; decide)) ((ev_other _ 75 58 _ (by decide)).trans ((ev_other _ 74 58 _ (by decide)).trans eA)) _ (r0.cell 0) (r0.frozen 0)) ⟨Or.inl rfl, ?_⟩
  rw [show (lsd [0, 1, 2, 3, 4, 5, 6, 7, 8, 9, 10, 11, 12, 13, 14, 15, 16, 17, 18, 19, 20, 21, 22, 23, 24, 25, 26, 27, 28]).setIfInBounds 29 true = (lsd [0, 1, 2, 3, 4, 5, 6, 7, 8, 9, 10, 11, 12, 13, 14, 15, 16, 17, 18, 19, 20, 21, 22, 23, 24, 25, 26, 27, 28, 29]) by kernel_rfl]
  refine wpAnyX_ready (rs := [30]) (by kernel_rfl) (by simp) (fun q hq => ?_)
  obtain rfl : q = 30 := by simpa using hq
  refine op_go hp0 hpg0 (x_nil _ p0 _ MM hpp0 ((ev_other _ 75 48 _ (by decide)).trans ((ev_other _ 74 48 _ (by decide)).trans h.bs.e48)) _) ⟨Or.inl rfl, ?_⟩
  rw [hpd0]
  rw [show (lsd [0, 1, 2, 3, 4, 5, 6, 7, 8, 9, 10, 11, 12, 13, 14, 15, 16, 17, 18, 19, 20, 21, 22, 23, 24, 25, 26, 27, 28, 29]).setIfInBounds 30 true = (lsd [0, 1, 2, 3, 4, 5, 6, 7, 8, 9, 10, 11, 12, 13, 14, 15, 16, 17, 18, 19, 20, 21, 22, 23, 24, 25, 26, 27, 28, 29, 30]) by kernel_rfl]
  refine wpAnyX_ready (rs := [31]) (by kernel_rfl) (by simp) (fun q hq => ?_)
  obtain rfl : q = 31 := by simpa using hq
  refine op_go hp1 hpg1 (x_field _ p1 _ MM 1 (by decide) hpp1 (ev_same _ 76 _ (by (try simp only [put_size]); rw [hz]; decide)) _) ⟨Or.inl rfl, ?_⟩
  rw [hpd1]
  rw [show (lsd [0, 1, 2, 3, 4, 5, 6, 7, 8, 9, 10, 11, 12, 13, 14, 15, 16, 17, 18, 19, 20, 21, 22, 23, 24, 25, 26, 27, 28, 29, 30]).setIfInBounds 31 true = (lsd [0, 1, 2, 3, 4, 5, 6, 7, 8, 9, 10, 11, 12, 13, 14, 15, 16, 17, 18, 19, 20, 21, 22, 23, 24, 25, 26, 27, 28, 29, 30, 31]) by kernel_rfl]
  refine wpAnyX_ready (rs := [32]) (by kernel_rfl) (by simp) (fun q hq => ?_)
  obtain rfl : q = 32 := by simpa using hq
  refine op_skip hp2 hpg2 hpd2 (x_store _ p2 _ _ MM 1 _ (Or.inl rfl) vB _ (owns_form oB) hpp2 (ev_same _ 77 _ (by (try simp only [put_size]); rw [hz]; decide)) ((ev_other _ 77 67 _ (by decide)).trans ((ev_other _ 76 67 _ (by decide)).trans ((ev_other _ 75 67 _ (by decide)).trans ((ev_other _ 74 67 _ (by decide)).trans eB)))) _ (r1.cell 1) (r1.frozen 1)) ⟨Or.inl rfl, ?_⟩
  rw [show (lsd [0, 1, 2, 3, 4, 5, 6, 7, 8, 9, 10, 11, 12, 13, 14, 15, 16, 17, 18, 19, 20, 21, 22, 23, 24, 25, 26, 27, 28, 29, 30, 31]).setIfInBounds 32 true = (lsd [0, 1, 2, 3, 4, 5, 6, 7, 8, 9, 10, 11, 12, 13, 14, 15, 16, 17, 18, 19, 20, 21, 22, 23, 24, 25, 26, 27, 28, 29, 30, 31, 32]) by kernel_rfl]
  refine wpAnyX_ready (rs := [33]) (by kernel_rfl) (by simp) (fun q hq => ?_)
  obtain rfl : q = 33 := by simpa using hq
  refine op_go hp3 hpg3 (x_nil _ p3 _ MM hpp3 ((ev_other _ 77 49 _ (by decide)).trans ((ev_other _ 76 49 _ (by decide)).trans ((ev_other _ 75 49 _ (by decide)).trans ((ev_other _ 74 49 _ (by decide)).trans h.bs.e49)))) _) ⟨Or.inl rfl, ?_⟩
  rw [hpd3]
  rw [show (lsd [0, 1, 2, 3, 4, 5, 6, 7, 8, 9, 10, 11, 12, 13, 14, 15, 16, 17, 18, 19, 20, 21, 22, 23, 24, 25, 26, 27, 28, 29, 30, 31, 32]).setIfInBounds 33 true = (lsd [0, 1, 2, 3, 4, 5, 6, 7, 8, 9, 10, 11, 12, 13, 14, 15, 16, 17, 18, 19, 20, 21, 22, 23, 24, 25, 26, 27, 28, 29, 30, 31, 32, 33]) by kernel_rfl]
  refine wpAnyX_ready (rs := [34]) (by kernel_rfl) (by simp) (fun q hq => ?_)
  obtain rfl : q = 34 := by simpa using hq
  refine op_go hp4 hpg4 (x_field _ p4 _ MM 2 (by decide) hpp4 (ev_same _ 78 _ (by (try simp only [put_size]); rw [hz]; decide)) _) ⟨Or.inl rfl, ?_⟩
  rw [hpd4]
  rw [show (lsd [0, 1, 2, 3, 4, 5, 6, 7, 8, 9, 10, 11, 12, 13, 14, 15, 16, 17, 18, 19, 20, 21, 22, 23, 24, 25, 26, 27, 28, 29, 30, 31, 32, 33]).setIfInBounds 34 true = (lsd [0, 1, 2, 3, 4, 5, 6, 7, 8, 9, 10, 11, 12, 13, 14, 15, 16, 17, 18, 19, 20, 21, 22, 23, 24, 25, 26, 27, 28, 29, 30, 31, 32, 33, 34]) by kernel_rfl]
  refine wpAnyX_ready (rs := [35]) (by kernel_rfl) (by simp) (fun q hq => ?_)
  obtain rfl : q = 35 := by simpa using hq
  refine op_skip hp5 hpg5 hpd5 (x_store _ p5 _ _ MM 2 _ (Or.inr rfl) vC _ (owns_form oC) hpp5 (ev_same _ 79 _ (by (try simp only [put_size]); rw [hz]; decide)) ((ev_other _ 79 73 _ (by decide)).trans ((ev_other _ 78 73 _ (by decide)).trans ((ev_other _ 77 73 _ (by decide)).trans ((ev_other _ 76 73 _ (by decide)).trans ((ev_other _ 75 73 _ (by decide)).trans ((ev_other _ 74 73 _ (by decide)).trans eC)))))) _ (r2.cell 2) (r2.frozen 2)) ⟨Or.inl rfl, ?_⟩
  rw [show (lsd [0, 1, 2, 3, 4, 5, 6, 7, 8, 9, 10, 11, 12, 13, 14, 15, 16, 17, 18, 19, 20, 21, 22, 23, 24, 25, 26, 27, 28, 29, 30, 31, 32, 33, 34]).setIfInBounds 35 true = (lsd [0, 1, 2, 3, 4, 5, 6, 7, 8, 9, 10, 11, 12, 13, 14, 15, 16, 17, 18, 19, 20, 21, 22, 23, 24, 25, 26, 27, 28, 29, 30, 31, 32, 33, 34, 35]) by kernel_rfl]
  refine wpAnyX_done (by kernel_rfl) ?_ 0
  have hA1 := rA.other ⟨MM, 0, none⟩ vA (fun e => r0.ne rA tm3 e.symm)
  have hA2 := hA1.other ⟨MM, 1, none⟩ vB (fun e => r0.ne rA tm3 e.symm)
  have hA3 := hA2.other ⟨MM, 2, none⟩ vC (fun e => r0.ne rA tm3 e.symm)
  have hB1 := rB.other ⟨MM, 0, none⟩ vA (fun e => r0.ne rB tm3 e.symm)
  have hB2 := hB1.other ⟨MM, 1, none⟩ vB (fun e => r0.ne rB tm3 e.symm)
  have hB3 := hB2.other ⟨MM, 2, none⟩ vC (fun e => r0.ne rB tm3 e.symm)
  refine ⟨by simp only [put_size]; exact hz, by simp only [put_defers]; exact h.bs.d, fun q hq => ?_, ⟨gA, gB, vA, vB, vC, r3, qA, qB, hA3, hB3, owns_set (owns_set (owns_set oA r0 tm1) r1 tm1) r2 tm1, owns_set (owns_set (owns_set oB r0 tm1) r1 tm1) r2 tm1, owns_set (owns_set (owns_set oC r0 tm2) r1 tm2) r2 tm2, hne⟩, h.bs.os, h.bs.tape, h.bs.output, by simp [World.setCell]; exact h.bs.size, fun g h1 h2 h3 h4 h5 => ?_⟩
  · have hq' : ∀ n : Nat, 47 ≤ n → n ≤ 79 → q ≠ n := fun n h1 h2 e => by
      subst e
      rcases hq with hq | hq
      · exact Nat.lt_irrefl _ (Nat.lt_of_lt_of_le hq h1)
      · exact Nat.lt_irrefl _ (Nat.lt_of_lt_of_le hq h2)
    exact ((ev_other _ 79 q _ (hq' 79 (by decide) (by decide))).trans ((ev_other _ 78 q _ (hq' 78 (by decide) (by decide))).trans ((ev_other _ 77 q _ (hq' 77 (by decide) (by decide))).trans ((ev_other _ 76 q _ (hq' 76 (by decide) (by decide))).trans ((ev_other _ 75 q _ (hq' 75 (by decide) (by decide))).trans ((ev_other _ 74 q _ (hq' 74 (by decide) (by decide))).trans (h.bs.keep q hq)))))))
  · rw [heap_setCell_other _ _ _ _ h2, heap_setCell_other _ _ _ _ h2, heap_setCell_other _ _ _ _ h2]
    exact h.bs.block g h1 h3 h4 h5
set_option maxRecDepth 5000 in
theorem nd_332 (_hy : Hy base MM N1 k Z lv sv fv) (a : Act) (w : World) (h : Nd base MM N1 k Z lv sv fv Ls Ss Fs a1 w1 3 3 2 a w) : wpAnyX Try.prog .any ops11 (NJ (Fin11 base MM N1 k Z lv sv fv Ls Ss Fs a1 w1)) (SS MM lv sv fv) JSt 9 (lsd [0, 1, 2, 3, 4, 5, 6, 7, 8, 9, 10, 11, 12, 13, 14, 15, 16, 17, 18, 19, 20, 21, 22, 23, 24, 25, 26]) a w := tail11 h
set_option maxRecDepth 5000 in
theorem nd_331 (hy : Hy base MM N1 k Z lv sv fv) (a : Act) (w : World) (h : Nd base MM N1 k Z lv sv fv Ls Ss Fs a1 w1 3 3 1 a w) : wpAnyX Try.prog .any ops11 (NJ (Fin11 base MM N1 k Z lv sv fv Ls Ss Fs a1 w1)) (SS MM lv sv fv) JSt 10 (lsd [0, 1, 2, 3, 4, 5, 6, 7, 8, 9, 10, 11, 12, 13, 14, 15, 16, 17, 18, 19, 20, 21, 22, 23, 24, 25]) a w := by
  refine wpAnyX_ready (rs := [26]) (by kernel_rfl) (by simp) (fun q hq => ?_)
  obtain rfl : q = 26 := by simpa using hq
  · exact sC1 hy h (fun a' w' h' => ⟨Or.inr h'.bs.row, by rw [show (lsd [0, 1, 2, 3, 4, 5, 6, 7, 8, 9, 10, 11, 12, 13, 14, 15, 16, 17, 18, 19, 20, 21, 22, 23, 24, 25]).setIfInBounds 26 true = (lsd [0, 1, 2, 3, 4, 5, 6, 7, 8, 9, 10, 11, 12, 13, 14, 15, 16, 17, 18, 19, 20, 21, 22, 23, 24, 25, 26]) by kernel_rfl]; exact nd_332 hy a' w' h'⟩)
set_option maxRecDepth 5000 in
theorem nd_321 (hy : Hy base MM N1 k Z lv sv fv) (a : Act) (w : World) (h : Nd base MM N1 k Z lv sv fv Ls Ss Fs a1 w1 3 2 1 a w) : wpAnyX Try.prog .any ops11 (NJ (Fin11 base MM N1 k Z lv sv fv Ls Ss Fs a1 w1)) (SS MM lv sv fv) JSt 11 (lsd [0, 1, 2, 3, 4, 5, 6, 7, 8, 9, 10, 11, 12, 13, 14, 15, 16, 17, 18, 19, 21, 22, 23, 24, 25]) a w := by
  refine wpAnyX_ready (rs := [20]) (by kernel_rfl) (by simp) (fun q hq => ?_)
  obtain rfl : q = 20 := by simpa using hq
  · exact sB2 hy (by decide) h (fun a' w' h' => ⟨Or.inr h'.bs.row, by rw [show (lsd [0, 1, 2, 3, 4, 5, 6, 7, 8, 9, 10, 11, 12, 13, 14, 15, 16, 17, 18, 19, 21, 22, 23, 24, 25]).setIfInBounds 20 true = (lsd [0, 1, 2, 3, 4, 5, 6, 7, 8, 9, 10, 11, 12, 13, 14, 15, 16, 17, 18, 19, 20, 21, 22, 23, 24, 25]) by kernel_rfl]; exact nd_331 hy a' w' h'⟩)
set_option maxRecDepth 5000 in
theorem nd_330 (hy : Hy base MM N1 k Z lv sv fv) (a : Act) (w : World) (h : Nd base MM N1 k Z lv sv fv Ls Ss Fs a1 w1 3 3 0 a w) : wpAnyX Try.prog .any ops11 (NJ (Fin11 base MM N1 k Z lv sv fv Ls Ss Fs a1 w1)) (SS MM lv sv fv) JSt 11 (lsd [0, 1, 2, 3, 4, 5, 6, 7, 8, 9, 10, 11, 12, 13, 14, 15, 16, 17, 18, 19, 20, 21, 22, 23, 24]) a w := by
  refine wpAnyX_ready (rs := [25]) (by kernel_rfl) (by simp) (fun q hq => ?_)
  obtain rfl : q = 25 := by simpa using hq
  · exact sC0 hy h (fun a' w' h' => ⟨Or.inr h'.bs.row, by rw [show (lsd [0, 1, 2, 3, 4, 5, 6, 7, 8, 9, 10, 11, 12, 13, 14, 15, 16, 17, 18, 19, 20, 21, 22, 23, 24]).setIfInBounds 25 true = (lsd [0, 1, 2, 3, 4, 5, 6, 7, 8, 9, 10, 11, 12, 13, 14, 15, 16, 17, 18, 19, 20, 21, 22, 23, 24, 25]) by kernel_rfl]; exact nd_331 hy a' w' h'⟩)
set_option maxRecDepth 5000 in
theorem nd_221 (hy : Hy base MM N1 k Z lv sv fv) (a : Act) (w : World) (h : Nd base MM N1 k Z lv sv fv Ls Ss Fs a1 w1 2 2 1 a w) : wpAnyX Try.prog .any ops11 (NJ (Fin11 base MM N1 k Z lv sv fv Ls Ss Fs a1 w1)) (SS MM lv sv fv) JSt 12 (lsd [0, 1, 2, 3, 4, 5, 6, 7, 8, 9, 10, 12, 13, 14, 15, 16, 17, 18, 19, 21, 22, 23, 24, 25]) a w := by
  refine wpAnyX_ready (rs := [11]) (by kernel_rfl) (by simp) (fun q hq => ?_)
  obtain rfl : q = 11 := by simpa using hq
  · exact sA2 hy (by decide) (by decide) h (fun a' w' h' => ⟨Or.inr h'.bs.row, by rw [show (lsd [0, 1, 2, 3, 4, 5, 6, 7, 8, 9, 10, 12, 13, 14, 15, 16, 17, 18, 19, 21, 22, 23, 24, 25]).setIfInBounds 11 true = (lsd [0, 1, 2, 3, 4, 5, 6, 7, 8, 9, 10, 11, 12, 13, 14, 15, 16, 17, 18, 19, 21, 22, 23, 24, 25]) by kernel_rfl]; exact nd_321 hy a' w' h'⟩)
set_option maxRecDepth 5000 in
theorem nd_311 (hy : Hy base MM N1 k Z lv sv fv) (a : Act) (w : World) (h : Nd base MM N1 k Z lv sv fv Ls Ss Fs a1 w1 3 1 1 a w) : wpAnyX Try.prog .any ops11 (NJ (Fin11 base MM N1 k Z lv sv fv Ls Ss Fs a1 w1)) (SS MM lv sv fv) JSt 12 (lsd [0, 1, 2, 3, 4, 5, 6, 7, 8, 9, 10, 11, 12, 13, 14, 15, 16, 17, 18, 21, 22, 23, 24, 25]) a w := by
  refine wpAnyX_ready (rs := [19]) (by kernel_rfl) (by simp) (fun q hq => ?_)
  obtain rfl : q = 19 := by simpa using hq
  · exact sB1 hy (by decide) h (fun a' w' h' => ⟨Or.inr h'.bs.row, by rw [show (lsd [0, 1, 2, 3, 4, 5, 6, 7, 8, 9, 10, 11, 12, 13, 14, 15, 16, 17, 18, 21, 22, 23, 24, 25]).setIfInBounds 19 true = (lsd [0, 1, 2, 3, 4, 5, 6, 7, 8, 9, 10, 11, 12, 13, 14, 15, 16, 17, 18, 19, 21, 22, 23, 24, 25]) by kernel_rfl]; exact nd_321 hy a' w' h'⟩)
set_option maxRecDepth 5000 in
theorem nd_320 (hy : Hy base MM N1 k Z lv sv fv) (a : Act) (w : World) (h : Nd base MM N1 k Z lv sv fv Ls Ss Fs a1 w1 3 2 0 a w) : wpAnyX Try.prog .any ops11 (NJ (Fin11 base MM N1 k Z lv sv fv Ls Ss Fs a1 w1)) (SS MM lv sv fv) JSt 12 (lsd [0, 1, 2, 3, 4, 5, 6, 7, 8, 9, 10, 11, 12, 13, 14, 15, 16, 17, 18, 19, 21, 22, 23, 24]) a w := by
  refine wpAnyX_ready (rs := [20, 25]) (by kernel_rfl) (by simp) (fun q hq => ?_)
  simp only [List.mem_cons, List.not_mem_nil, or_false] at hq
  rcases hq with rfl | rfl
  · exact sB2 hy (by decide) h (fun a' w' h' => ⟨Or.inr h'.bs.row, by rw [show (lsd [0, 1, 2, 3, 4, 5, 6, 7, 8, 9, 10, 11, 12, 13, 14, 15, 16, 17, 18, 19, 21, 22, 23, 24]).setIfInBounds 20 true = (lsd [0, 1, 2, 3, 4, 5, 6, 7, 8, 9, 10, 11, 12, 13, 14, 15, 16, 17, 18, 19, 20, 21, 22, 23, 24]) by kernel_rfl]; exact nd_330 hy a' w' h'⟩)
  · exact sC0 hy h (fun a' w' h' => ⟨Or.inr h'.bs.row, by rw [show (lsd [0, 1, 2, 3, 4, 5, 6, 7, 8, 9, 10, 11, 12, 13, 14, 15, 16, 17, 18, 19, 21, 22, 23, 24]).setIfInBounds 25 true = (lsd [0, 1, 2, 3, 4, 5, 6, 7, 8, 9, 10, 11, 12, 13, 14, 15, 16, 17, 18, 19, 21, 22, 23, 24, 25]) by kernel_rfl]; exact nd_321 hy a' w' h'⟩)
set_option maxRecDepth 5000 in
theorem nd_121 (hy : Hy base MM N1 k Z lv sv fv) (a : Act) (w : World) (h : Nd base MM N1 k Z lv sv fv Ls Ss Fs a1 w1 1 2 1 a w) : wpAnyX Try.prog .any ops11 (NJ (Fin11 base MM N1 k Z lv sv fv Ls Ss Fs a1 w1)) (SS MM lv sv fv) JSt 13 (lsd [0, 1, 2, 3, 4, 5, 6, 7, 8, 9, 12, 13, 14, 15, 16, 17, 18, 19, 21, 22, 23, 24, 25]) a w := by
  refine wpAnyX_ready (rs := [10]) (by kernel_rfl) (by simp) (fun q hq => ?_)
  obtain rfl : q = 10 := by simpa using hq
  · exact sA1 hy (by decide) (by decide) h (fun a' w' h' => ⟨Or.inr h'.bs.row, by rw [show (lsd [0, 1, 2, 3, 4, 5, 6, 7, 8, 9, 12, 13, 14, 15, 16, 17, 18, 19, 21, 22, 23, 24, 25]).setIfInBounds 10 true = (lsd [0, 1, 2, 3, 4, 5, 6, 7, 8, 9, 10, 12, 13, 14, 15, 16, 17, 18, 19, 21, 22, 23, 24, 25]) by kernel_rfl]; exact nd_221 hy a' w' h'⟩)
set_option maxRecDepth 5000 in
theorem nd_211 (hy : Hy base MM N1 k Z lv sv fv) (a : Act) (w : World) (h : Nd base MM N1 k Z lv sv fv Ls Ss Fs a1 w1 2 1 1 a w) : wpAnyX Try.prog .any ops11 (NJ (Fin11 base MM N1 k Z lv sv fv Ls Ss Fs a1 w1)) (SS MM lv sv fv) JSt 13 (lsd [0, 1, 2, 3, 4, 5, 6, 7, 8, 9, 10, 12, 13, 14, 15, 16, 17, 18, 21, 22, 23, 24, 25]) a w := by
  refine wpAnyX_ready (rs := [11, 19]) (by kernel_rfl) (by simp) (fun q hq => ?_)
  simp only [List.mem_cons, List.not_mem_nil, or_false] at hq
  rcases hq with rfl | rfl
  · exact sA2 hy (by decide) (by decide) h (fun a' w' h' => ⟨Or.inr h'.bs.row, by rw [show (lsd [0, 1, 2, 3, 4, 5, 6, 7, 8, 9, 10, 12, 13, 14, 15, 16, 17, 18, 21, 22, 23, 24, 25]).setIfInBounds 11 true = (lsd [0, 1, 2, 3, 4, 5, 6, 7, 8, 9, 10, 11, 12, 13, 14, 15, 16, 17, 18, 21, 22, 23, 24, 25]) by kernel_rfl]; exact nd_311 hy a' w' h'⟩)
  · exact sB1 hy (by decide) h (fun a' w' h' => ⟨Or.inr h'.bs.row, by rw [show (lsd [0, 1, 2, 3, 4, 5, 6, 7, 8, 9, 10, 12, 13, 14, 15, 16, 17, 18, 21, 22, 23, 24, 25]).setIfInBounds 19 true = (lsd [0, 1, 2, 3, 4, 5, 6, 7, 8, 9, 10, 12, 13, 14, 15, 16, 17, 18, 19, 21, 22, 23, 24, 25]) by kernel_rfl]; exact nd_221 hy a' w' h'⟩)
set_option maxRecDepth 5000 in
theorem nd_220 (hy : Hy base MM N1 k Z lv sv fv) (a : Act) (w : World) (h : Nd base MM N1 k Z lv sv fv Ls Ss Fs a1 w1 2 2 0 a w) : wpAnyX Try.prog .any ops11 (NJ (Fin11 base MM N1 k Z lv sv fv Ls Ss Fs a1 w1)) (SS MM lv sv fv) JSt 13 (lsd [0, 1, 2, 3, 4, 5, 6, 7, 8, 9, 10, 12, 13, 14, 15, 16, 17, 18, 19, 21, 22, 23, 24]) a w := by
  refine wpAnyX_ready (rs := [11, 25]) (by kernel_rfl) (by simp) (fun q hq => ?_)
  simp only [List.mem_cons, List.not_mem_nil, or_false] at hq
  rcases hq with rfl | rfl
  · exact sA2 hy (by decide) (by decide) h (fun a' w' h' => ⟨Or.inr h'.bs.row, by rw [show (lsd [0, 1, 2, 3, 4, 5, 6, 7, 8, 9, 10, 12, 13, 14, 15, 16, 17, 18, 19, 21, 22, 23, 24]).setIfInBounds 11 true = (lsd [0, 1, 2, 3, 4, 5, 6, 7, 8, 9, 10, 11, 12, 13, 14, 15, 16, 17, 18, 19, 21, 22, 23, 24]) by kernel_rfl]; exact nd_320 hy a' w' h'⟩)
  · exact sC0 hy h (fun a' w' h' => ⟨Or.inr h'.bs.row, by rw [show (lsd [0, 1, 2, 3, 4, 5, 6, 7, 8, 9, 10, 12, 13, 14, 15, 16, 17, 18, 19, 21, 22, 23, 24]).setIfInBounds 25 true = (lsd [0, 1, 2, 3, 4, 5, 6, 7, 8, 9, 10, 12, 13, 14, 15, 16, 17, 18, 19, 21, 22, 23, 24, 25]) by kernel_rfl]; exact nd_221 hy a' w' h'⟩)
set_option maxRecDepth 5000 in
theorem nd_301 (hy : Hy base MM N1 k Z lv sv fv) (a : Act) (w : World) (h : Nd base MM N1 k Z lv sv fv Ls Ss Fs a1 w1 3 0 1 a w) : wpAnyX Try.prog .any ops11 (NJ (Fin11 base MM N1 k Z lv sv fv Ls Ss Fs a1 w1)) (SS MM lv sv fv) JSt 13 (lsd [0, 1, 2, 3, 4, 5, 6, 7, 8, 9, 10, 11, 12, 13, 14, 15, 16, 17, 21, 22, 23, 24, 25]) a w := by
  refine wpAnyX_ready (rs := [18]) (by kernel_rfl) (by simp) (fun q hq => ?_)
  obtain rfl : q = 18 := by simpa using hq
  · exact sB0 hy (by decide) h (fun a' w' h' => ⟨Or.inr h'.bs.row, by rw [show (lsd [0, 1, 2, 3, 4, 5, 6, 7, 8, 9, 10, 11, 12, 13, 14, 15, 16, 17, 21, 22, 23, 24, 25]).setIfInBounds 18 true = (lsd [0, 1, 2, 3, 4, 5, 6, 7, 8, 9, 10, 11, 12, 13, 14, 15, 16, 17, 18, 21, 22, 23, 24, 25]) by kernel_rfl]; exact nd_311 hy a' w' h'⟩)
set_option maxRecDepth 5000 in
theorem nd_310 (hy : Hy base MM N1 k Z lv sv fv) (a : Act) (w : World) (h : Nd base MM N1 k Z lv sv fv Ls Ss Fs a1 w1 3 1 0 a w) : wpAnyX Try.prog .any ops11 (NJ (Fin11 base MM N1 k Z lv sv fv Ls Ss Fs a1 w1)) (SS MM lv sv fv) JSt 13 (lsd [0, 1, 2, 3, 4, 5, 6, 7, 8, 9, 10, 11, 12, 13, 14, 15, 16, 17, 18, 21, 22, 23, 24]) a w := by
  refine wpAnyX_ready (rs := [19, 25]) (by kernel_rfl) (by simp) (fun q hq => ?_)
  simp only [List.mem_cons, List.not_mem_nil, or_false] at hq
  rcases hq with rfl | rfl
  · exact sB1 hy (by decide) h (fun a' w' h' => ⟨Or.inr h'.bs.row, by rw [show (lsd [0, 1, 2, 3, 4, 5, 6, 7, 8, 9, 10, 11, 12, 13, 14, 15, 16, 17, 18, 21, 22, 23, 24]).setIfInBounds 19 true = (lsd [0, 1, 2, 3, 4, 5, 6, 7, 8, 9, 10, 11, 12, 13, 14, 15, 16, 17, 18, 19, 21, 22, 23, 24]) by kernel_rfl]; exact nd_320 hy a' w' h'⟩)
  · exact sC0 hy h (fun a' w' h' => ⟨Or.inr h'.bs.row, by rw [show (lsd [0, 1, 2, 3, 4, 5, 6, 7, 8, 9, 10, 11, 12, 13, 14, 15, 16, 17, 18, 21, 22, 23, 24]).setIfInBounds 25 true = (lsd [0, 1, 2, 3, 4, 5, 6, 7, 8, 9, 10, 11, 12, 13, 14, 15, 16, 17, 18, 21, 22, 23, 24, 25]) by kernel_rfl]; exact nd_311 hy a' w' h'⟩)
set_option maxRecDepth 5000 in
theorem nd_021 (hy : Hy base MM N1 k Z lv sv fv) (a : Act) (w : World) (h : Nd base MM N1 k Z lv sv fv Ls Ss Fs a1 w1 0 2 1 a w) : wpAnyX Try.prog .any ops11 (NJ (Fin11 base MM N1 k Z lv sv fv Ls Ss Fs a1 w1)) (SS MM lv sv fv) JSt 14 (lsd [0, 1, 2, 3, 4, 5, 6, 7, 8, 12, 13, 14, 15, 16, 17, 18, 19, 21, 22, 23, 24, 25]) a w := by
  refine wpAnyX_ready (rs := [9]) (by kernel_rfl) (by simp) (fun q hq => ?_)
  obtain rfl : q = 9 := by simpa using hq
  · exact sA0 hy (by decide) (by decide) h (fun a' w' h' => ⟨Or.inr h'.bs.row, by rw [show (lsd [0, 1, 2, 3, 4, 5, 6, 7, 8, 12, 13, 14, 15, 16, 17, 18, 19, 21, 22, 23, 24, 25]).setIfInBounds 9 true = (lsd [0, 1, 2, 3, 4, 5, 6, 7, 8, 9, 12, 13, 14, 15, 16, 17, 18, 19, 21, 22, 23, 24, 25]) by kernel_rfl]; exact nd_121 hy a' w' h'⟩)
set_option maxRecDepth 5000 in
theorem nd_111 (hy : Hy base MM N1 k Z lv sv fv) (a : Act) (w : World) (h : Nd base MM N1 k Z lv sv fv Ls Ss Fs a1 w1 1 1 1 a w) : wpAnyX Try.prog .any ops11 (NJ (Fin11 base MM N1 k Z lv sv fv Ls Ss Fs a1 w1)) (SS MM lv sv fv) JSt 14 (lsd [0, 1, 2, 3, 4, 5, 6, 7, 8, 9, 12, 13, 14, 15, 16, 17, 18, 21, 22, 23, 24, 25]) a w := by
  refine wpAnyX_ready (rs := [10, 19]) (by kernel_rfl) (by simp) (fun q hq => ?_)
  simp only [List.mem_cons, List.not_mem_nil, or_false] at hq
  rcases hq with rfl | rfl
  · exact sA1 hy (by decide) (by decide) h (fun a' w' h' => ⟨Or.inr h'.bs.row, by rw [show (lsd [0, 1, 2, 3, 4, 5, 6, 7, 8, 9, 12, 13, 14, 15, 16, 17, 18, 21, 22, 23, 24, 25]).setIfInBounds 10 true = (lsd [0, 1, 2, 3, 4, 5, 6, 7, 8, 9, 10, 12, 13, 14, 15, 16, 17, 18, 21, 22, 23, 24, 25]) by kernel_rfl]; exact nd_211 hy a' w' h'⟩)
  · exact sB1 hy (by decide) h (fun a' w' h' => ⟨Or.inr h'.bs.row, by rw [show (lsd [0, 1, 2, 3, 4, 5, 6, 7, 8, 9, 12, 13, 14, 15, 16, 17, 18, 21, 22, 23, 24, 25]).setIfInBounds 19 true = (lsd [0, 1, 2, 3, 4, 5, 6, 7, 8, 9, 12, 13, 14, 15, 16, 17, 18, 19, 21, 22, 23, 24, 25]) by kernel_rfl]; exact nd_121 hy a' w' h'⟩)
set_option maxRecDepth 5000 in
theorem nd_120 (hy : Hy base MM N1 k Z lv sv fv) (a : Act) (w : World) (h : Nd base MM N1 k Z lv sv fv Ls Ss Fs a1 w1 1 2 0 a w) : wpAnyX Try.prog .any ops11 (NJ (Fin11 base MM N1 k Z lv sv fv Ls Ss Fs a1 w1)) (SS MM lv sv fv) JSt 14 (lsd [0, 1, 2, 3, 4, 5, 6, 7, 8, 9, 12, 13, 14, 15, 16, 17, 18, 19, 21, 22, 23, 24]) a w := by
  refine wpAnyX_ready (rs := [10, 25]) (by kernel_rfl) (by simp) (fun q hq => ?_)
  simp only [List.mem_cons, List.not_mem_nil, or_false] at hq
  rcases hq with rfl | rfl
  · exact sA1 hy (by decide) (by decide) h (fun a' w' h' => ⟨Or.inr h'.bs.row, by rw [show (lsd [0, 1, 2, 3, 4, 5, 6, 7, 8, 9, 12, 13, 14, 15, 16, 17, 18, 19, 21, 22, 23, 24]).setIfInBounds 10 true = (lsd [0, 1, 2, 3, 4, 5, 6, 7, 8, 9, 10, 12, 13, 14, 15, 16, 17, 18, 19, 21, 22, 23, 24]) by kernel_rfl]; exact nd_220 hy a' w' h'⟩)
  · exact sC0 hy h (fun a' w' h' => ⟨Or.inr h'.bs.row, by rw [show (lsd [0, 1, 2, 3, 4, 5, 6, 7, 8, 9, 12, 13, 14, 15, 16, 17, 18, 19, 21, 22, 23, 24]).setIfInBounds 25 true = (lsd [0, 1, 2, 3, 4, 5, 6, 7, 8, 9, 12, 13, 14, 15, 16, 17, 18, 19, 21, 22, 23, 24, 25]) by kernel_rfl]; exact nd_121 hy a' w' h'⟩)
set_option maxRecDepth 5000 in
theorem nd_201 (hy : Hy base MM N1 k Z lv sv fv) (a : Act) (w : World) (h : Nd base MM N1 k Z lv sv fv Ls Ss Fs a1 w1 2 0 1 a w) : wpAnyX Try.prog .any ops11 (NJ (Fin11 base MM N1 k Z lv sv fv Ls Ss Fs a1 w1)) (SS MM lv sv fv) JSt 14 (lsd [0, 1, 2, 3, 4, 5, 6, 7, 8, 9, 10, 12, 13, 14, 15, 16, 17, 21, 22, 23, 24, 25]) a w := by
  refine wpAnyX_ready (rs := [11, 18]) (by kernel_rfl) (by simp) (fun q hq => ?_)
  simp only [List.mem_cons, List.not_mem_nil, or_false] at hq
  rcases hq with rfl | rfl
  · exact sA2 hy (by decide) (by decide) h (fun a' w' h' => ⟨Or.inr h'.bs.row, by rw [show (lsd [0, 1, 2, 3, 4, 5, 6, 7, 8, 9, 10, 12, 13, 14, 15, 16, 17, 21, 22, 23, 24, 25]).setIfInBounds 11 true = (lsd [0, 1, 2, 3, 4, 5, 6, 7, 8, 9, 10, 11, 12, 13, 14, 15, 16, 17, 21, 22, 23, 24, 25]) by kernel_rfl]; exact nd_301 hy a' w' h'⟩)
  · exact sB0 hy (by decide) h (fun a' w' h' => ⟨Or.inr h'.bs.row, by rw [show (lsd [0, 1, 2, 3, 4, 5, 6, 7, 8, 9, 10, 12, 13, 14, 15, 16, 17, 21, 22, 23, 24, 25]).setIfInBounds 18 true = (lsd [0, 1, 2, 3, 4, 5, 6, 7, 8, 9, 10, 12, 13, 14, 15, 16, 17, 18, 21, 22, 23, 24, 25]) by kernel_rfl]; exact nd_211 hy a' w' h'⟩)
set_option maxRecDepth 5000 in
theorem nd_210 (hy : Hy base MM N1 k Z lv sv fv) (a : Act) (w : World) (h : Nd base MM N1 k Z lv sv fv Ls Ss Fs a1 w1 2 1 0 a w) : wpAnyX Try.prog .any ops11 (NJ (Fin11 base MM N1 k Z lv sv fv Ls Ss Fs a1 w1)) (SS MM lv sv fv) JSt 14 (lsd [0, 1, 2, 3, 4, 5, 6, 7, 8, 9, 10, 12, 13, 14, 15, 16, 17, 18, 21, 22, 23, 24]) a w := by
  refine wpAnyX_ready (rs := [11, 19, 25]) (by kernel_rfl) (by simp) (fun q hq => ?_)
  simp only [List.mem_cons, List.not_mem_nil, or_false] at hq
  rcases hq with rfl | rfl | rfl
  · exact sA2 hy (by decide) (by decide) h (fun a' w' h' => ⟨Or.inr h'.bs.row, by rw [show (lsd [0, 1, 2, 3, 4, 5, 6, 7, 8, 9, 10, 12, 13, 14, 15, 16, 17, 18, 21, 22, 23, 24]).setIfInBounds 11 true = (lsd [0, 1, 2, 3, 4, 5, 6, 7, 8, 9, 10, 11, 12, 13, 14, 15, 16, 17, 18, 21, 22, 23, 24]) by kernel_rfl]; exact nd_310 hy a' w' h'⟩)
  · exact sB1 hy (by decide) h (fun a' w' h' => ⟨Or.inr h'.bs.row, by rw [show (lsd [0, 1, 2, 3, 4, 5, 6, 7, 8, 9, 10, 12, 13, 14, 15, 16, 17, 18, 21, 22, 23, 24]).setIfInBounds 19 true = (lsd [0, 1, 2, 3, 4, 5, 6, 7, 8, 9, 10, 12, 13, 14, 15, 16, 17, 18, 19, 21, 22, 23, 24]) by kernel_rfl]; exact nd_220 hy a' w' h'⟩)
  · exact sC0 hy h (fun a' w' h' => ⟨Or.inr h'.bs.row, by rw [show (lsd [0, 1, 2, 3, 4, 5, 6, 7, 8, 9, 10, 12, 13, 14, 15, 16, 17, 18, 21, 22, 23, 24]).setIfInBounds 25 true = (lsd [0, 1, 2, 3, 4, 5, 6, 7, 8, 9, 10, 12, 13, 14, 15, 16, 17, 18, 21, 22, 23, 24, 25]) by kernel_rfl]; exact nd_211 hy a' w' h'⟩)
set_option maxRecDepth 5000 in
theorem nd_300 (hy : Hy base MM N1 k Z lv sv fv) (a : Act) (w : World) (h : Nd base MM N1 k Z lv sv fv Ls Ss Fs a1 w1 3 0 0 a w) : wpAnyX Try.prog .any ops11 (NJ (Fin11 base MM N1 k Z lv sv fv Ls Ss Fs a1 w1)) (SS MM lv sv fv) JSt 14 (lsd [0, 1, 2, 3, 4, 5, 6, 7, 8, 9, 10, 11, 12, 13, 14, 15, 16, 17, 21, 22, 23, 24]) a w := by
  refine wpAnyX_ready (rs := [18, 25]) (by kernel_rfl) (by simp) (fun q hq => ?_)
  simp only [List.mem_cons, List.not_mem_nil, or_false] at hq
  rcases hq with rfl | rfl
  · exact sB0 hy (by decide) h (fun a' w' h' => ⟨Or.inr h'.bs.row, by rw [show (lsd [0, 1, 2, 3, 4, 5, 6, 7, 8, 9, 10, 11, 12, 13, 14, 15, 16, 17, 21, 22, 23, 24]).setIfInBounds 18 true = (lsd [0, 1, 2, 3, 4, 5, 6, 7, 8, 9, 10, 11, 12, 13, 14, 15, 16, 17, 18, 21, 22, 23, 24]) by kernel_rfl]; exact nd_310 hy a' w' h'⟩)
  · exact sC0 hy h (fun a' w' h' => ⟨Or.inr h'.bs.row, by rw [show (lsd [0, 1, 2, 3, 4, 5, 6, 7, 8, 9, 10, 11, 12, 13, 14, 15, 16, 17, 21, 22, 23, 24]).setIfInBounds 25 true = (lsd [0, 1, 2, 3, 4, 5, 6, 7, 8, 9, 10, 11, 12, 13, 14, 15, 16, 17, 21, 22, 23, 24, 25]) by kernel_rfl]; exact nd_301 hy a' w' h'⟩)
set_option maxRecDepth 5000 in
theorem nd_011 (hy : Hy base MM N1 k Z lv sv fv) (a : Act) (w : World) (h : Nd base MM N1 k Z lv sv fv Ls Ss Fs a1 w1 0 1 1 a w) : wpAnyX Try.prog .any ops11 (NJ (Fin11 base MM N1 k Z lv sv fv Ls Ss Fs a1 w1)) (SS MM lv sv fv) JSt 15 (lsd [0, 1, 2, 3, 4, 5, 6, 7, 8, 12, 13, 14, 15, 16, 17, 18, 21, 22, 23, 24, 25]) a w := by
  refine wpAnyX_ready (rs := [9, 19]) (by kernel_rfl) (by simp) (fun q hq => ?_)
  simp only [List.mem_cons, List.not_mem_nil, or_false] at hq
  rcases hq with rfl | rfl
  · exact sA0 hy (by decide) (by decide) h (fun a' w' h' => ⟨Or.inr h'.bs.row, by rw [show (lsd [0, 1, 2, 3, 4, 5, 6, 7, 8, 12, 13, 14, 15, 16, 17, 18, 21, 22, 23, 24, 25]).setIfInBounds 9 true = (lsd [0, 1, 2, 3, 4, 5, 6, 7, 8, 9, 12, 13, 14, 15, 16, 17, 18, 21, 22, 23, 24, 25]) by kernel_rfl]; exact nd_111 hy a' w' h'⟩)
  · exact sB1 hy (by decide) h (fun a' w' h' => ⟨Or.inr h'.bs.row, by rw [show (lsd [0, 1, 2, 3, 4, 5, 6, 7, 8, 12, 13, 14, 15, 16, 17, 18, 21, 22, 23, 24, 25]).setIfInBounds 19 true = (lsd [0, 1, 2, 3, 4, 5, 6, 7, 8, 12, 13, 14, 15, 16, 17, 18, 19, 21, 22, 23, 24, 25]) by kernel_rfl]; exact nd_021 hy a' w' h'⟩)
set_option maxRecDepth 5000 in
theorem nd_020 (hy : Hy base MM N1 k Z lv sv fv) (a : Act) (w : World) (h : Nd base MM N1 k Z lv sv fv Ls Ss Fs a1 w1 0 2 0 a w) : wpAnyX Try.prog .any ops11 (NJ (Fin11 base MM N1 k Z lv sv fv Ls Ss Fs a1 w1)) (SS MM lv sv fv) JSt 15 (lsd [0, 1, 2, 3, 4, 5, 6, 7, 8, 12, 13, 14, 15, 16, 17, 18, 19, 21, 22, 23, 24]) a w := by
  refine wpAnyX_ready (rs := [9, 25]) (by kernel_rfl) (by simp) (fun q hq => ?_)
  simp only [List.mem_cons, List.not_mem_nil, or_false] at hq
  rcases hq with rfl | rfl
  · exact sA0 hy (by decide) (by decide) h (fun a' w' h' => ⟨Or.inr h'.bs.row, by rw [show (lsd [0, 1, 2, 3, 4, 5, 6, 7, 8, 12, 13, 14, 15, 16, 17, 18, 19, 21, 22, 23, 24]).setIfInBounds 9 true = (lsd [0, 1, 2, 3, 4, 5, 6, 7, 8, 9, 12, 13, 14, 15, 16, 17, 18, 19, 21, 22, 23, 24]) by kernel_rfl]; exact nd_120 hy a' w' h'⟩)
  · exact sC0 hy h (fun a' w' h' => ⟨Or.inr h'.bs.row, by rw [show (lsd [0, 1, 2, 3, 4, 5, 6, 7, 8, 12, 13, 14, 15, 16, 17, 18, 19, 21, 22, 23, 24]).setIfInBounds 25 true = (lsd [0, 1, 2, 3, 4, 5, 6, 7, 8, 12, 13, 14, 15, 16, 17, 18, 19, 21, 22, 23, 24, 25]) by kernel_rfl]; exact nd_021 hy a' w' h'⟩)
set_option maxRecDepth 5000 in
theorem nd_101 (hy : Hy base MM N1 k Z lv sv fv) (a : Act) (w : World) (h : Nd base MM N1 k Z lv sv fv Ls Ss Fs a1 w1 1 0 1 a w) : wpAnyX Try.prog .any ops11 (NJ (Fin11 base MM N1 k Z lv sv fv Ls Ss Fs a1 w1)) (SS MM lv sv fv) JSt 15 (lsd [0, 1, 2, 3, 4, 5, 6, 7, 8, 9, 12, 13, 14, 15, 16, 17, 21, 22, 23, 24, 25]) a w := by
  refine wpAnyX_ready (rs := [10, 18]) (by kernel_rfl) (by simp) (fun q hq => ?_)
  simp only [List.mem_cons, List.not_mem_nil, or_false] at hq
  rcases hq with rfl | rfl
  · exact sA1 hy (by decide) (by decide) h (fun a' w' h' => ⟨Or.inr h'.bs.row, by rw [show (lsd [0, 1, 2, 3, 4, 5, 6, 7, 8, 9, 12, 13, 14, 15, 16, 17, 21, 22, 23, 24, 25]).setIfInBounds 10 true = (lsd [0, 1, 2, 3, 4, 5, 6, 7, 8, 9, 10, 12, 13, 14, 15, 16, 17, 21, 22, 23, 24, 25]) by kernel_rfl]; exact nd_201 hy a' w' h'⟩)
  · exact sB0 hy (by decide) h (fun a' w' h' => ⟨Or.inr h'.bs.row, by rw [show (lsd [0, 1, 2, 3, 4, 5, 6, 7, 8, 9, 12, 13, 14, 15, 16, 17, 21, 22, 23, 24, 25]).setIfInBounds 18 true = (lsd [0, 1, 2, 3, 4, 5, 6, 7, 8, 9, 12, 13, 14, 15, 16, 17, 18, 21, 22, 23, 24, 25]) by kernel_rfl]; exact nd_111 hy a' w' h'⟩)
set_option maxRecDepth 5000 in
theorem nd_110 (hy : Hy base MM N1 k Z lv sv fv) (a : Act) (w : World) (h : Nd base MM N1 k Z lv sv fv Ls Ss Fs a1 w1 1 1 0 a w) : wpAnyX Try.prog .any ops11 (NJ (Fin11 base MM N1 k Z lv sv fv Ls Ss Fs a1 w1)) (SS MM lv sv fv) JSt 15 (lsd [0, 1, 2, 3, 4, 5, 6, 7, 8, 9, 12, 13, 14, 15, 16, 17, 18, 21, 22, 23, 24]) a w := by
  refine wpAnyX_ready (rs := [10, 19, 25]) (by kernel_rfl) (by simp) (fun q hq => ?_)
  simp only [List.mem_cons, List.not_mem_nil, or_false] at hq
  rcases hq with rfl | rfl | rfl
  · exact sA1 hy (by decide) (by decide) h (fun a' w' h' => ⟨Or.inr h'.bs.row, by rw [show (lsd [0, 1, 2, 3, 4, 5, 6, 7, 8, 9, 12, 13, 14, 15, 16, 17, 18, 21, 22, 23, 24]).setIfInBounds 10 true = (lsd [0, 1, 2, 3, 4, 5, 6, 7, 8, 9, 10, 12, 13, 14, 15, 16, 17, 18, 21, 22, 23, 24]) by kernel_rfl]; exact nd_210 hy a' w' h'⟩)
  · exact sB1 hy (by decide) h (fun a' w' h' => ⟨Or.inr h'.bs.row, by rw [show (lsd [0, 1, 2, 3, 4, 5, 6, 7, 8, 9, 12, 13, 14, 15, 16, 17, 18, 21, 22, 23, 24]).setIfInBounds 19 true = (lsd [0, 1, 2, 3, 4, 5, 6, 7, 8, 9, 12, 13, 14, 15, 16, 17, 18, 19, 21, 22, 23, 24]) by kernel_rfl]; exact nd_120 hy a' w' h'⟩)
  · exact sC0 hy h (fun a' w' h' => ⟨Or.inr h'.bs.row, by rw [show (lsd [0, 1, 2, 3, 4, 5, 6, 7, 8, 9, 12, 13, 14, 15, 16, 17, 18, 21, 22, 23, 24]).setIfInBounds 25 true = (lsd [0, 1, 2, 3, 4, 5, 6, 7, 8, 9, 12, 13, 14, 15, 16, 17, 18, 21, 22, 23, 24, 25]) by kernel_rfl]; exact nd_111 hy a' w' h'⟩)
set_option maxRecDepth 5000 in
theorem nd_200 (hy : Hy base MM N1 k Z lv sv fv) (a : Act) (w : World) (h : Nd base MM N1 k Z lv sv fv Ls Ss Fs a1 w1 2 0 0 a w) : wpAnyX Try.prog .any ops11 (NJ (Fin11 base MM N1 k Z lv sv fv Ls Ss Fs a1 w1)) (SS MM lv sv fv) JSt 15 (lsd [0, 1, 2, 3, 4, 5, 6, 7, 8, 9, 10, 12, 13, 14, 15, 16, 17, 21, 22, 23, 24]) a w := by
  refine wpAnyX_ready (rs := [11, 18, 25]) (by kernel_rfl) (by simp) (fun q hq => ?_)
  simp only [List.mem_cons, List.not_mem_nil, or_false] at hq
  rcases hq with rfl | rfl | rfl
  · exact sA2 hy (by decide) (by decide) h (fun a' w' h' => ⟨Or.inr h'.bs.row, by rw [show (lsd [0, 1, 2, 3, 4, 5, 6, 7, 8, 9, 10, 12, 13, 14, 15, 16, 17, 21, 22, 23, 24]).setIfInBounds 11 true = (lsd [0, 1, 2, 3, 4, 5, 6, 7, 8, 9, 10, 11, 12, 13, 14, 15, 16, 17, 21, 22, 23, 24]) by kernel_rfl]; exact nd_300 hy a' w' h'⟩)
  · exact sB0 hy (by decide) h (fun a' w' h' => ⟨Or.inr h'.bs.row, by rw [show (lsd [0, 1, 2, 3, 4, 5, 6, 7, 8, 9, 10, 12, 13, 14, 15, 16, 17, 21, 22, 23, 24]).setIfInBounds 18 true = (lsd [0, 1, 2, 3, 4, 5, 6, 7, 8, 9, 10, 12, 13, 14, 15, 16, 17, 18, 21, 22, 23, 24]) by kernel_rfl]; exact nd_210 hy a' w' h'⟩)
  · exact sC0 hy h (fun a' w' h' => ⟨Or.inr h'.bs.row, by rw [show (lsd [0, 1, 2, 3, 4, 5, 6, 7, 8, 9, 10, 12, 13, 14, 15, 16, 17, 21, 22, 23, 24]).setIfInBounds 25 true = (lsd [0, 1, 2, 3, 4, 5, 6, 7, 8, 9, 10, 12, 13, 14, 15, 16, 17, 21, 22, 23, 24, 25]) by kernel_rfl]; exact nd_201 hy a' w' h'⟩)
set_option maxRecDepth 5000 in
theorem nd_001 (hy : Hy base MM N1 k Z lv sv fv) (a : Act) (w : World) (h : Nd base MM N1 k Z lv sv fv Ls Ss Fs a1 w1 0 0 1 a w) : wpAnyX Try.prog .any ops11 (NJ (Fin11 base MM N1 k Z lv sv fv Ls Ss Fs a1 w1)) (SS MM lv sv fv) JSt 16 (lsd [0, 1, 2, 3, 4, 5, 6, 7, 8, 12, 13, 14, 15, 16, 17, 21, 22, 23, 24, 25]) a w := by
  refine wpAnyX_ready (rs := [9, 18]) (by kernel_rfl) (by simp) (fun q hq => ?_)
  simp only [List.mem_cons, List.not_mem_nil, or_false] at hq
  rcases hq with rfl | rfl
  · exact sA0 hy (by decide) (by decide) h (fun a' w' h' => ⟨Or.inr h'.bs.row, by rw [show (lsd [0, 1, 2, 3, 4, 5, 6, 7, 8, 12, 13, 14, 15, 16, 17, 21, 22, 23, 24, 25]).setIfInBounds 9 true = (lsd [0, 1, 2, 3, 4, 5, 6, 7, 8, 9, 12, 13, 14, 15, 16, 17, 21, 22, 23, 24, 25]) by kernel_rfl]; exact nd_101 hy a' w' h'⟩)
  · exact sB0 hy (by decide) h (fun a' w' h' => ⟨Or.inr h'.bs.row, by rw [show (lsd [0, 1, 2, 3, 4, 5, 6, 7, 8, 12, 13, 14, 15, 16, 17, 21, 22, 23, 24, 25]).setIfInBounds 18 true = (lsd [0, 1, 2, 3, 4, 5, 6, 7, 8, 12, 13, 14, 15, 16, 17, 18, 21, 22, 23, 24, 25]) by kernel_rfl]; exact nd_011 hy a' w' h'⟩)
set_option maxRecDepth 5000 in
theorem nd_010 (hy : Hy base MM N1 k Z lv sv fv) (a : Act) (w : World) (h : Nd base MM N1 k Z lv sv fv Ls Ss Fs a1 w1 0 1 0 a w) : wpAnyX Try.prog .any ops11 (NJ (Fin11 base MM N1 k Z lv sv fv Ls Ss Fs a1 w1)) (SS MM lv sv fv) JSt 16 (lsd [0, 1, 2, 3, 4, 5, 6, 7, 8, 12, 13, 14, 15, 16, 17, 18, 21, 22, 23, 24]) a w := by
  refine wpAnyX_ready (rs := [9, 19, 25]) (by kernel_rfl) (by simp) (fun q hq => ?_)
  simp only [List.mem_cons, List.not_mem_nil, or_false] at hq
  rcases hq with rfl | rfl | rfl
  · exact sA0 hy (by decide) (by decide) h (fun a' w' h' => ⟨Or.inr h'.bs.row, by rw [show (lsd [0, 1, 2, 3, 4, 5, 6, 7, 8, 12, 13, 14, 15, 16, 17, 18, 21, 22, 23, 24]).setIfInBounds 9 true = (lsd [0, 1, 2, 3, 4, 5, 6, 7, 8, 9, 12, 13, 14, 15, 16, 17, 18, 21, 22, 23, 24]) by kernel_rfl]; exact nd_110 hy a' w' h'⟩)
  · exact sB1 hy (by decide) h (fun a' w' h' => ⟨Or.inr h'.bs.row, by rw [show (lsd [0, 1, 2, 3, 4, 5, 6, 7, 8, 12, 13, 14, 15, 16, 17, 18, 21, 22, 23, 24]).setIfInBounds 19 true = (lsd [0, 1, 2, 3, 4, 5, 6, 7, 8, 12, 13, 14, 15, 16, 17, 18, 19, 21, 22, 23, 24]) by kernel_rfl]; exact nd_020 hy a' w' h'⟩)
  · exact sC0 hy h (fun a' w' h' => ⟨Or.inr h'.bs.row, by rw [show (lsd [0, 1, 2, 3, 4, 5, 6, 7, 8, 12, 13, 14, 15, 16, 17, 18, 21, 22, 23, 24]).setIfInBounds 25 true = (lsd [0, 1, 2, 3, 4, 5, 6, 7, 8, 12, 13, 14, 15, 16, 17, 18, 21, 22, 23, 24, 25]) by kernel_rfl]; exact nd_011 hy a' w' h'⟩)
set_option maxRecDepth 5000 in
theorem nd_100 (hy : Hy base MM N1 k Z lv sv fv) (a : Act) (w : World) (h : Nd base MM N1 k Z lv sv fv Ls Ss Fs a1 w1 1 0 0 a w) : wpAnyX Try.prog .any ops11 (NJ (Fin11 base MM N1 k Z lv sv fv Ls Ss Fs a1 w1)) (SS MM lv sv fv) JSt 16 (lsd [0, 1, 2, 3, 4, 5, 6, 7, 8, 9, 12, 13, 14, 15, 16, 17, 21, 22, 23, 24]) a w := by
  refine wpAnyX_ready (rs := [10, 18, 25]) (by kernel_rfl) (by simp) (fun q hq => ?_)
  simp only [List.mem_cons, List.not_mem_nil, or_false] at hq
  rcases hq with rfl | rfl | rfl
  · exact sA1 hy (by decide) (by decide) h (fun a' w' h' => ⟨Or.inr h'.bs.row, by rw [show (lsd [0, 1, 2, 3, 4, 5, 6, 7, 8, 9, 12, 13, 14, 15, 16, 17, 21, 22, 23, 24]).setIfInBounds 10 true = (lsd [0, 1, 2, 3, 4, 5, 6, 7, 8, 9, 10, 12, 13, 14, 15, 16, 17, 21, 22, 23, 24]) by kernel_rfl]; exact nd_200 hy a' w' h'⟩)
  · exact sB0 hy (by decide) h (fun a' w' h' => ⟨Or.inr h'.bs.row, by rw [show (lsd [0, 1, 2, 3, 4, 5, 6, 7, 8, 9, 12, 13, 14, 15, 16, 17, 21, 22, 23, 24]).setIfInBounds 18 true = (lsd [0, 1, 2, 3, 4, 5, 6, 7, 8, 9, 12, 13, 14, 15, 16, 17, 18, 21, 22, 23, 24]) by kernel_rfl]; exact nd_110 hy a' w' h'⟩)
  · exact sC0 hy h (fun a' w' h' => ⟨Or.inr h'.bs.row, by rw [show (lsd [0, 1, 2, 3, 4, 5, 6, 7, 8, 9, 12, 13, 14, 15, 16, 17, 21, 22, 23, 24]).setIfInBounds 25 true = (lsd [0, 1, 2, 3, 4, 5, 6, 7, 8, 9, 12, 13, 14, 15, 16, 17, 21, 22, 23, 24, 25]) by kernel_rfl]; exact nd_101 hy a' w' h'⟩)
set_option maxRecDepth 5000 in
theorem nd_000 (hy : Hy base MM N1 k Z lv sv fv) (a : Act) (w : World) (h : Nd base MM N1 k Z lv sv fv Ls Ss Fs a1 w1 0 0 0 a w) : wpAnyX Try.prog .any ops11 (NJ (Fin11 base MM N1 k Z lv sv fv Ls Ss Fs a1 w1)) (SS MM lv sv fv) JSt 17 (lsd [0, 1, 2, 3, 4, 5, 6, 7, 8, 12, 13, 14, 15, 16, 17, 21, 22, 23, 24]) a w := by
  refine wpAnyX_ready (rs := [9, 18, 25]) (by kernel_rfl) (by simp) (fun q hq => ?_)
  simp only [List.mem_cons, List.not_mem_nil, or_false] at hq
  rcases hq with rfl | rfl | rfl
  · exact sA0 hy (by decide) (by decide) h (fun a' w' h' => ⟨Or.inr h'.bs.row, by rw [show (lsd [0, 1, 2, 3, 4, 5, 6, 7, 8, 12, 13, 14, 15, 16, 17, 21, 22, 23, 24]).setIfInBounds 9 true = (lsd [0, 1, 2, 3, 4, 5, 6, 7, 8, 9, 12, 13, 14, 15, 16, 17, 21, 22, 23, 24]) by kernel_rfl]; exact nd_100 hy a' w' h'⟩)
  · exact sB0 hy (by decide) h (fun a' w' h' => ⟨Or.inr h'.bs.row, by rw [show (lsd [0, 1, 2, 3, 4, 5, 6, 7, 8, 12, 13, 14, 15, 16, 17, 21, 22, 23, 24]).setIfInBounds 18 true = (lsd [0, 1, 2, 3, 4, 5, 6, 7, 8, 12, 13, 14, 15, 16, 17, 18, 21, 22, 23, 24]) by kernel_rfl]; exact nd_010 hy a' w' h'⟩)
  · exact sC0 hy h (fun a' w' h' => ⟨Or.inr h'.bs.row, by rw [show (lsd [0, 1, 2, 3, 4, 5, 6, 7, 8, 12, 13, 14, 15, 16, 17, 21, 22, 23, 24]).setIfInBounds 25 true = (lsd [0, 1, 2, 3, 4, 5, 6, 7, 8, 12, 13, 14, 15, 16, 17, 21, 22, 23, 24, 25]) by kernel_rfl]; exact nd_001 hy a' w' h'⟩)
end
end Go.Proofs.Ytmjdlejomohbdaa
