/- Lists of lists of bytes; bytes.Clone; journal.openFrames of whole frames. -/
import Derived.Test.YtidocfajhhpfdaaDoorJfe
namespace Go.Proofs.YtidocfajhhpfdaaDoor
open Go.RowKit
/- the address of a slice of bytes that lie in a block of bytes -/
def InB (w : World) (a : Option Addr) (l : List UInt8) : Prop := 0 < l.length → ∃ g o cs fr, a = some ⟨g, o, none⟩ ∧ w.heap[g]? = some (.cells cs 5 fr) ∧ ∀ j, j < l.length → cs[o + j]? = some (.int .u8 (l.getD j 0).toNat)
set_option maxRecDepth 5000 in
theorem InB.sl {w : World} {a : Option Addr} {l : List UInt8} (h : InB w a l) : SlL w a l := fun hl => by
  obtain ⟨g, o, cs, fr, e, h1, h2⟩ := h hl
  exact ⟨g, o, e, (Array.getElem?_eq_some_iff.1 h1).1, fun j hj => by rw [cell_of_row _ _ _ _ _ _ h1]; exact h2 j hj⟩
/- blocks of bytes are kept -/
def KB (w w' : World) : Prop := w.heap.size ≤ w'.heap.size ∧ ∀ (g : Nat) (cs : Array Value) (fr : Nat × Nat), w.heap[g]? = some (Obj.cells cs 5 fr) → w'.heap[g]? = some (Obj.cells cs 5 fr)
set_option maxRecDepth 5000 in
theorem KB.refl (w : World) : KB w w := ⟨Nat.le_refl _, fun _ _ _ h => h⟩
set_option maxRecDepth 5000 in
theorem KB.trans {w w' w'' : World} (h : KB w w') (h' : KB w' w'') : KB w w'' := ⟨Nat.le_trans h.1 h'.1, fun g cs fr hg => h'.2 g cs fr (h.2 g cs fr hg)⟩
set_option maxRecDepth 5000 in
theorem KB.of_below {w w' : World} (h : Below w.heap.size w w') : KB w w' := ⟨h.size, fun g cs fr hg => by rw [h.block g (Array.getElem?_eq_some_iff.1 hg).1]; exact hg⟩
set_option maxRecDepth 5000 in
theorem InB.kb {w w' : World} {a : Option Addr} {l : List UInt8} (h : InB w a l) (hk : KB w w') : InB w' a l := fun hl => by
  obtain ⟨g, o, cs, fr, e, h1, h2⟩ := h hl; exact ⟨g, o, cs, fr, e, hk.2 g cs fr h1, h2⟩
set_option maxRecDepth 5000 in
theorem OwnB.inb {w : World} {base : Nat} {v : Value} {l : List UInt8} (h : OwnB w base v l) : ∃ a c, v = .slice a l.length c ∧ InB w a l ∧ (a = none → c = 0) := by
  have h0 : w.ownsRow base 5 1 v l.length (vb l) := h
  rcases h0.2 with ⟨rfl, e⟩ | ⟨g, cap, cur, rfl, _, h2, h3, h4, h5, h6⟩
  · exact ⟨none, 0, by rw [e], fun hl => by omega, fun _ => rfl⟩
  · refine ⟨_, _, rfl, fun _ => ⟨g, 0, cur, _, rfl, h2, fun j hj => ?_⟩, fun h => by cases h⟩
    have e2 := vb_get l j hj
    rw [← h6, Nat.mul_one, List.getElem?_take] at e2
    rw [if_pos hj] at e2
    rw [Nat.zero_add]; simpa using e2
/- what a list of lists of bytes has at each place -/
def Each (w : World) (f : Nat → Option Value) (L : List (List UInt8)) : Prop := ∀ j, j < L.length → ∃ a c, f j = some (.slice a (L.getD j []).length c) ∧ InB w a (L.getD j []) ∧ (a = none → c = 0)
set_option maxRecDepth 5000 in
theorem Each.kb {w w' : World} {f : Nat → Option Value} {L : List (List UInt8)} (h : Each w f L) (hk : KB w w') : Each w' f L := fun j hj => by
  obtain ⟨a, c, h1, h2, h3⟩ := h j hj; exact ⟨a, c, h1, h2.kb hk, h3⟩
/- the call's own list of lists of bytes -/
def OwnBs (w : World) (base : Nat) (v : Value) (L : List (List UInt8)) : Prop := ∃ vs : List Value, w.ownsRow base 22 1 v L.length vs ∧ Each w (fun j => vs[j]?) L
set_option maxRecDepth 5000 in
theorem OwnBs.nil (w : World) (base : Nat) : OwnBs w base (.slice none 0 0) [] := ⟨[], World.ownsRow_nil _ _ _ _, fun j hj => by simp at hj⟩
set_option maxRecDepth 5000 in
theorem owns_kb {w w' : World} {base n : Nat} {v : Value} {xs : List Value} (h : w.ownsRow base 22 1 v n xs) (hg : w.grownBy w' v.ownBlock) : KB w w' := by
  refine ⟨hg.size, fun g cs fr hc => ?_⟩
  rw [hg.block g (Array.getElem?_eq_some_iff.1 hc).1 ?_]; exact hc
  intro e
  rcases h.2 with ⟨rfl, _⟩ | ⟨g', cap, cur, rfl, _, h2, _⟩
  · cases e
  · injection e with e
    rw [show g' = g from e.symm, hc] at h2
    injection h2 with h2
    injection h2 with _ h2
    exact absurd h2 (by decide)
set_option maxRecDepth 5000 in
theorem owns_below {w w' w0 : World} {base n : Nat} {v : Value} {xs : List Value} (h : w.ownsRow base 22 1 v n xs) (hg : w.grownBy w' v.ownBlock) (hb : Below base w0 w) (hB : base ≤ w.heap.size) : Below base w0 w' := by
  refine hb.grown hg hB fun k hk => ?_
  rcases h.2 with ⟨rfl, _⟩ | ⟨g, cap, cur, rfl, hg', _⟩
  · simp [Value.ownBlock] at hk
  · simp [Value.ownBlock] at hk; omega
set_option maxRecDepth 5000 in
theorem owns_alloc {w w' : World} {base n : Nat} {v : Value} {xs : List Value} (h : w.ownsRow base 22 1 v n xs) (hb : Below w.heap.size w w') : w'.ownsRow base 22 1 v n xs := by
  refine ⟨h.1, ?_⟩
  rcases h.2 with h1 | ⟨g, cap, cur, e, h1, h2, h3⟩
  · exact Or.inl h1
  · exact Or.inr ⟨g, cap, cur, e, h1, by rw [hb.block g (Array.getElem?_eq_some_iff.1 h2).1]; exact h2, h3⟩
set_option maxRecDepth 5000 in
theorem each_app {w : World} {xs ys : List Value} {L M : List (List UInt8)} (hx : Each w (fun j => xs[j]?) L) (hl : xs.length = L.length) (hy : Each w (fun j => ys[j]?) M) : Each w (fun j => (xs ++ ys)[j]?) (L ++ M) := fun j hj => by
  rw [List.length_append] at hj
  by_cases h : j < L.length
  · obtain ⟨a, c, h1, h2, h3⟩ := hx j h
    refine ⟨a, c, ?_, ?_, h3⟩
    · show (xs ++ ys)[j]? = _
      rw [List.getElem?_append_left (by omega), show (L ++ M).getD j [] = L.getD j [] by simp [List.getD_eq_getElem?_getD, List.getElem?_append_left h]]; exact h1
    · rw [show (L ++ M).getD j [] = L.getD j [] by simp [List.getD_eq_getElem?_getD, List.getElem?_append_left h]]; exact h2
  · obtain ⟨a, c, h1, h2, h3⟩ := hy (j - L.length) (by omega)
    have e : (L ++ M).getD j [] = M.getD (j - L.length) [] := by simp [List.getD_eq_getElem?_getD, List.getElem?_append_right (show L.length ≤ j by omega)]
    refine ⟨a, c, ?_, by rw [e]; exact h2, h3⟩
    show (xs ++ ys)[j]? = _
    rw [List.getElem?_append_right (by omega), e, hl]; exact h1
set_option maxRecDepth 5000 in
theorem each_nils (w : World) (m : Nat) : Each w (fun j => (List.replicate m (Value.slice none 0 0))[j]?) (List.replicate m []) := fun j hj => by
  rw [List.length_replicate] at hj
  refine ⟨none, 0, ?_, fun h => ?_, fun _ => rfl⟩
  · simp [hj]
  · simp [List.getD_eq_getElem?_getD, hj] at h
set_option maxRecDepth 5000 in
theorem each_one (w : World) (a : Option Addr) (c : Nat) (l : List UInt8) (h : InB w a l) (hn : a = none → c = 0) : Each w (fun j => [Value.slice a l.length c][j]?) [l] := fun j hj => by
  have : j = 0 := by simpa using hj
  subst this
  exact ⟨a, c, rfl, h, hn⟩
set_option maxRecDepth 5000 in
theorem bClone_any (w : World) (g o c m : Nat) (l : List UInt8) (hm : l.length = m) (hl : m ≤ 1000000000) (hs : SlL w (some ⟨g, o, none⟩) l) :
    Calls Tryd.prog 51 #[.slice (some ⟨g, o, none⟩) m c] w fun e w' => ∃ v, e = .returned v ∧ OwnB w' w.heap.size v l ∧ Below w.heap.size w w' := by
  have HS := hide hs
  have HM := hide hm
  have hO0 : OwnB (w.alloc (.cells #[] 5)) w.heap.size (.slice (some ⟨w.heap.size, 0, none⟩) 0 0) [] := ⟨rfl, Or.inr ⟨w.heap.size, 0, #[], rfl, Nat.le_refl _, heap_alloc_last w _, Nat.le_refl _, by unfold maxLen; omega, rfl, rfl⟩⟩
  have HO := hide hO0
  clear hs hm hO0
  have he : ∀ w : World, (binOp .eql 22 (.slice (some ⟨g, o, none⟩) m c) (.slice none 0 0)).run Tryd.prog w = .ok (.bool false) w := fun _ => rfl
  go_enter Tryd.func51, Tryd.ntmps51
  go_wp2_with (at_builtin; refine wpList_append_B rfl (.tmp 5) (.tmp 6) rfl w.heap.size _ [] rfl HO.out _ _ _ l rfl HM.out (by exact HS.out.alloc _) (by intro h; cases h) (by simp; omega) (by simp) ?_; intro v4 w4 hO4 hG4; have hB4 := hide (((Below.refl w.heap.size w).alloc (Nat.le_refl _) _).trans (grown_below HO.out hG4 (Below.refl _ _) (by simp))); have HO4 := hide hO4; clear hG4 hO4)
  go_ret
  exact ⟨_, rfl, HO4.out, hB4.out⟩
namespace J
set_option maxRecDepth 5000 in
theorem enc_cons (x : Nat × List UInt8) (fs : List (Nat × List UInt8)) : enc (x :: fs) = fr x.1 x.2 ++ enc fs := rfl
end J
set_option maxRecDepth 5000 in
theorem infoBs2 : (Tryd.prog.info? 22).map (fun i => (i.zero, i.size, i.bytes)) = some (some (.slice none 0 0), 1, 24) := by kernel_rfl
set_option maxRecDepth 5000 in
theorem wpList_append_one {w : World} {ops : Array Oper} {rest : List Oper} {o : Oper} {a : Act} {Q : Exit → Act → World → Prop} (hgd : o.guard = none) (s x : Operand)
    (ho : o.op = .call { callee := .builtin .append, args := #[s, x], argTypes := #[32, 32] }) (base : Nat) (v : Value) (n : Nat) (xs : List Value) (hs : a.eval s = v) (hown : w.ownsRow base 22 1 v n xs)
    (g : Nat) (u : Value) (hx : a.eval x = .slice (some ⟨g, 0, none⟩) 1 1) (hu : u.oneCell' = true) (hr : w.cell? ⟨g, 0, none⟩ = some u) (hbound : n ≤ 10000000000) (hbase : base ≤ w.heap.size)
    (h : ∀ v' w', w'.ownsRow base 22 1 v' (n + 1) (xs ++ [u]) → w.grownBy w' v.ownBlock → wpList Tryd.prog ops Q rest (a.put o.dst v') w') : wpList Tryd.prog ops Q (o :: rest) a w := by
  obtain ⟨i0, hi, hz0, hz1, hz2⟩ := info_parts infoBs2
  refine wpList_append_own w hgd s x 32 ho base 22 i0 (.slice none 0 0) 1 24 Tryd.underlying32 hi hz0 hz1 hz2 rfl (by decide) v n xs hs hown ⟨g, 0, none⟩ 1 1 [u] hx rfl ?_ (by intro v hv; rw [List.mem_singleton.1 hv]; exact hu) (by unfold maxLen; omega) (by omega) hbase ?_
  · intro j w hj
    cases j with
    | zero => simp at hj; subst hj; rw [Addr.add_mid]; exact hr
    | succ j => simp at hj
  · intro v' w' h1 h2 _
    exact h v' w' h1 h2
set_option maxRecDepth 5000 in
theorem make_bs (n : Nat) (hn : n ≤ 1000000000) (W : World) : (Instr.makeSlice 32 (.int .i64 (n : Int)) (.int .i64 (n : Int))).run Tryd.prog W = .ok (.slice (some ⟨W.heap.size, 0, none⟩) n n) (W.alloc (.cells (List.replicate n (.slice none 0 0)).toArray 22)) := by
  obtain ⟨i0, hi, hz0, hz1, hz2⟩ := info_parts infoBs2
  rw [run_make (P := Tryd.prog) W 32 22 i0 (.slice none 0 0) Tryd.underlying32 hi hz0 .i64 .i64 n n (by omega) (by omega) (by rw [hz2]; omega) (by omega)]
  rw [Int.toNat_natCast, hz1, Nat.mul_one]
  have e : (Value.slice none 0 0).cells = #[.slice none 0 0] := rfl
  have e2 : madeCells #[.slice none 0 0] n = (List.replicate n (.slice none 0 0)).toArray := by
    apply Array.toList_inj.1
    rw [toList_madeCells_one]
  rw [e, e2]
set_option maxRecDepth 5000 in
theorem each_set {w : World} {vs : List Value} {L : List (List UInt8)} (h : Each w (fun j => vs[j]?) L) (hl : vs.length = L.length) (p : Nat) (a : Option Addr) (c : Nat) (r : List UInt8) (hi : InB w a r) (hn : a = none → c = 0) :
    Each w (fun j => (vs.set p (.slice a r.length c))[j]?) (L.set p r) := fun j hj => by
  rw [List.length_set] at hj
  by_cases e : p = j
  · subst e
    refine ⟨a, c, ?_, ?_, hn⟩
    · show (vs.set p _)[p]? = _
      rw [List.getElem?_set_self (by omega)]
      simp [List.getD_eq_getElem?_getD, hj]
    · simp only [List.getD_eq_getElem?_getD, List.getElem?_set_self hj]; exact hi
  · obtain ⟨a', c', h1, h2, h3⟩ := h j hj
    have e2 : (L.set p r).getD j [] = L.getD j [] := by simp only [List.getD_eq_getElem?_getD]; rw [List.getElem?_set_ne e]
    refine ⟨a', c', ?_, by rw [e2]; exact h2, h3⟩
    show (vs.set p _)[j]? = _
    rw [List.getElem?_set_ne e, e2]; exact h1
/- the list of n records that openFrames makes, in block G -/
def Mad (wr : World) (G n : Nat) (L : List (List UInt8)) : Prop := L.length = n ∧ ∃ vs : List Value, vs.length = n ∧ RowAt wr G 22 vs.toArray ∧ Each wr (fun j => vs[j]?) L
set_option maxRecDepth 5000 in
theorem Mad.own {wr : World} {base G n : Nat} {L : List (List UInt8)} (h : Mad wr G n L) (hb : base ≤ G) (hn : n ≤ 1000000000) : OwnBs wr base (.slice (some ⟨G, 0, none⟩) n n) L := by
  obtain ⟨h0, vs, h1, h2, h3⟩ := h
  refine ⟨vs, ?_, h3⟩
  rw [h0]
  exact ⟨by omega, Or.inr ⟨G, n, vs.toArray, rfl, hb, h2, Nat.le_refl _, by unfold maxLen; omega, by simp [h1], by simp [← h1]⟩⟩
set_option maxRecDepth 5000 in
theorem Mad.below {w wr : World} {B G n : Nat} {L : List (List UInt8)} (h : Mad w G n L) (hb : Below B w wr) (hB : B = w.heap.size) : Mad wr G n L := by
  obtain ⟨h0, vs, h1, h2, h3⟩ := h
  subst hB
  exact ⟨h0, vs, h1, h2.below hb h2.lt, h3.kb (KB.of_below hb)⟩
set_option maxRecDepth 5000 in
theorem Mad.drewN {w : World} {G n : Nat} {L : List (List UInt8)} (h : Mad w G n L) (m : Nat) : Mad (w.drewN m) G n L := by
  obtain ⟨h0, vs, h1, h2, h3⟩ := h
  exact ⟨h0, vs, h1, h2.drewN m, h3⟩
set_option maxRecDepth 5000 in
theorem Mad.set {w : World} {G n : Nat} {L : List (List UInt8)} (h : Mad w G n L) (p : Nat) (a : Option Addr) (c : Nat) (r : List UInt8) (hi : InB w a r) (hn : a = none → c = 0) : Mad (w.setCell ⟨G, p, none⟩ (.slice a r.length c)) G n (L.set p r) := by
  obtain ⟨h0, vs, h1, h2, h3⟩ := h
  have hk : KB w (w.setCell ⟨G, p, none⟩ (.slice a r.length c)) := ⟨by simp, fun g cs fr hg => by
    rw [heap_setCell_other _ _ _ _ (fun e => by
      have e : g = G := e
      subst e
      rw [show w.heap[g]? = some (.cells vs.toArray 22 (0, 0)) from h2] at hg
      injection hg with hg
      injection hg with _ hg
      exact absurd hg (by decide))]
    exact hg⟩
  refine ⟨by rw [List.length_set]; exact h0, vs.set p (.slice a r.length c), by rw [List.length_set]; exact h1, ?_, (each_set h3 (by omega) p a c r hi hn).kb hk⟩
  have := h2.set p (.slice a r.length c)
  rwa [List.setIfInBounds_toArray] at this
set_option maxRecDepth 5000 in
theorem Mad.cell {w : World} {G n : Nat} {L : List (List UInt8)} (h : Mad w G n L) (p : Nat) (hp : p < n) : (∃ v, w.cell? ⟨G, p, none⟩ = some v) ∧ w.frozen? ⟨G, p, none⟩ = false := by
  obtain ⟨h0, vs, h1, h2, h3⟩ := h
  refine ⟨⟨vs[p]'(by omega), ?_⟩, h2.frozen p⟩
  rw [h2.cell, List.getElem?_toArray, List.getElem?_eq_getElem (by omega)]
set_option maxHeartbeats 2000000 in
set_option maxRecDepth 5000 in
theorem openFrames_ok (w : World) (ht : Tab w) (g o c n : Nat) (fs : List (Nat × List UInt8)) (b : List UInt8) (hb : b = J.enc fs) (hk : J.Ri 0 fs n) (hn : n ≤ 1048576) (hl : b.length ≤ 1000000000) (hc : b.length ≤ c) (hs : SlL w (some ⟨g, o, none⟩) b) :
    Calls Tryd.prog 32 #[.slice (some ⟨g, o, none⟩) b.length c, .int .i64 (n : Int)] w fun e w' => ∃ v, e = .returned v ∧ OwnBs w' w.heap.size v (J.dec fs n) ∧ Below w.heap.size w w' := by
  have HS := hide hs
  have HT := hide ht
  have hpos : 0 < w.heap.size := ht.1
  have HB := hide hb
  have HK := hide hk
  have hmk := make_bs n (by omega)
  have M0 : Hid (Mad (w.alloc (.cells (List.replicate n (.slice none 0 0)).toArray 22)) w.heap.size n (J.dec [] n)) := ⟨J.dec_len [] n, _, List.length_replicate, RowAt.new w _ _, each_nils _ n⟩
  have B0 : Hid (Below w.heap.size w (w.alloc (.cells (List.replicate n (.slice none 0 0)).toArray 22))) := (Below.refl _ w).alloc (Nat.le_refl _) _
  generalize (Obj.cells (List.replicate n (.slice none 0 0)).toArray 22) = ob at hmk M0 B0
  clear hs ht hb hk
  go_enter Tryd.func32, Tryd.ntmps32
  go_wp2
  go_loopw [0, 6] (fun v q wr => ∃ (pre post : List (Nat × List UInt8)) (o' c' k : Nat), fs = pre ++ post ∧ J.Ri k post n ∧ k ≤ n ∧ q = .int .u64 (k : Int) ∧ v = .slice (some ⟨g, o', none⟩) (J.enc post).length c' ∧ (J.enc post).length ≤ c' ∧ (J.enc post).length ≤ 1000000000 ∧ SlL w (some ⟨g, o', none⟩) (J.enc post) ∧ Mad wr w.heap.size n (J.dec pre n) ∧ Below w.heap.size w wr) (fun v q wr => (match v with | .slice _ n _ => n | _ => 0))
  case atStart => exact ⟨[], fs, o, c, 0, rfl, HK.out, Nat.zero_le _, rfl, by rw [HB.out], by rw [← HB.out]; exact hc, by rw [← HB.out]; exact hl, by rw [← HB.out]; exact HS.out, M0.out, B0.out⟩
  case round =>
    obtain ⟨pre, post, o', c', k, hf, hri, hkn, rfl, rfl, hc', hl', hs', hM, hBw⟩ := hrel
    have hzw : w.heap.size ≤ wr.heap.size := hBw.size
    cases post with
    | nil =>
      have e0 : (J.enc []).length = 0 := rfl
      have HF : Hid (fs = pre) := by show _ = _; rw [hf, List.append_nil]
      have HBw := hide hBw
      have HM := hide hM
      rw [e0]
      clear hBw hs' hf e0 hc' hl' hri hM
      go_wp2
      go_ret
      exact ⟨_, rfl, by rw [HF.out]; exact HM.out.own (Nat.le_refl _) (by omega), HBw.out⟩
    | cons x post =>
      obtain ⟨p, r⟩ := x
      obtain ⟨hr1, hr2, hr3, hr4⟩ := hri
      simp only at hr1 hr2 hr3 hr4
      have hel : (J.enc ((p, r) :: post)).length = r.length + 12 + (J.enc post).length := by rw [J.enc_cons, List.length_append, J.fr_len]
      obtain ⟨p1, p2, p3, p4, p5, p6⟩ := J.fr_parts p r (J.enc post) (by omega) (by omega)
      have hsw := hs'.below hBw (Nat.le_refl _)
      have hfe := frameEnd_ok wr (HT.out.below hBw hpos) g o' c' p r (J.enc post) (J.enc ((p, r) :: post)) rfl hr3 (by omega) hl' hc' hsw
      have hs4 : ∀ W, Below w.heap.size w W → SlL W (some ⟨g, o', none⟩) (J.fr p r ++ J.enc post) := fun W hW => hs'.below hW (Nat.le_refl _)
      have hnu : ∀ (W : World), Below w.heap.size w W → Calls Tryd.prog 50 #[.slice (some ⟨g, o', none⟩) 4 c'] W fun e w' => e = .returned (.int .u64 (p : Int)) ∧ w' = W := fun W hW => by
        have := number_any W (some ⟨g, o', none⟩) c' 4 _ (by rw [List.length_take, List.length_append, J.fr_len]; omega) (by omega) ((hs4 W hW).pre 4)
        rw [p1] at this; exact this
      have hcl : ∀ (W : World), Below w.heap.size w W → Calls Tryd.prog 51 #[.slice (some ⟨g, o' + 8, none⟩) r.length (c' - 8)] W fun e w' => ∃ v, e = .returned v ∧ OwnB w' W.heap.size v r ∧ Below W.heap.size W w' := fun W hW => by
        have := bClone_any W g (o' + 8) (c' - 8) r.length _ (by rw [p3]) (by omega) ((hs4 W hW).sub 8 r.length)
        rw [p3] at this; exact this
      have hsE : SlL w (some ⟨g, if c' = r.length + 12 then o' else o' + (r.length + 12), none⟩) (J.enc post) := by
        by_cases h : c' = r.length + 12
        · have : (J.enc post) = [] := List.eq_nil_of_length_eq_zero (by omega)
          rw [this]; exact SlL.nil _ _
        · rw [if_neg h]
          have := (hs'.suf (r.length + 12))
          rw [J.enc_cons, p6] at this; exact this
      have ED : Hid (J.dec (pre ++ [(p, r)]) n = (J.dec pre n).set p r) := by show _ = _; rw [J.dec, J.lay_app]; rfl
      have HF : Hid (fs = pre ++ [(p, r)] ++ post) := by show _ = _; rw [hf]; simp
      have sx1 := sl_pre g o' (J.enc ((p, r) :: post)).length c' 4 (by omega)
      have sx2 := sl_mid g o' (J.enc ((p, r) :: post)).length c' 8 (r.length + 8) (by omega) (by omega) (by omega)
      have sx3 := sl_suf g o' (J.enc ((p, r) :: post)).length c' (r.length + 12) (by omega)
      rw [show r.length + 8 - 8 = r.length by omega] at sx2
      have e1 : (J.enc ((p, r) :: post)).length - (r.length + 12) = (J.enc post).length := by omega
      rw [e1] at sx3
      have hmeas : Hid ((J.enc post).length < (J.enc ((p, r) :: post)).length) := by show _ < _; omega
      have hcE : (J.enc post).length ≤ c' - (r.length + 12) := by omega
      have hlE : (J.enc post).length ≤ 1000000000 := by omega
      have hnpos : (0 : Int) < ((J.enc ((p, r) :: post)).length : Int) := by omega
      have hR : r.length ≤ 1000000000 := by omega
      obtain ⟨E, hE12⟩ : ∃ E, E = r.length + 12 := ⟨_, rfl⟩
      obtain ⟨Q, hQ8⟩ : ∃ Q, Q = r.length + 8 := ⟨_, rfl⟩
      have fQ : IntKind.i64.wrap ((E : Int) - 4) = (Q : Int) := by rw [IntKind.wrap_i64]; omega
      have fp1 : decide (p < k) = false := by simp; omega
      have fp2 : decide (n ≤ p) = false := by simp; omega
      have fp3 : IntKind.u64.wrap (n : Int) = (n : Int) := by rw [IntKind.wrap_u64]; omega
      have fp4 : (p : Int) < (n : Int) := by omega
      have fp5 : IntKind.u64.wrap ((p : Int) + 1) = ((p + 1 : Nat) : Int) := by rw [IntKind.wrap_u64]; omega
      rw [← hE12] at hfe hsE sx3 hcE
      rw [← hQ8] at sx2
      have HSE := hide hsE
      generalize (if c' = E then o' else o' + E) = oE at HSE sx3
      generalize c' - E = cE at hcE sx3
      generalize o' + 8 = o8 at hcl sx2
      generalize c' - 8 = c8 at hcl sx2
      have HM := hide hM
      have HBw := hide hBw
      have HR4 := hide hr4
      have HR3 := hide hr3
      have HR2 := hide hr2
      generalize (J.enc ((p, r) :: post)).length = m at hfe sx1 sx2 sx3 hmeas hnpos
      clear hM hBw hsE hsw hs4 hs' hf p1 p2 p3 p4 p5 p6 hE12 hQ8 e1 hel hc' hl' hr1 hr2 hr3 hr4 hkn
      have sx4 : ∀ W : World, (Instr.sliceAt 22 (.slice (some ⟨g, o', none⟩) m c') (some (.int .i64 8)) (some (.int .i64 (Q : Int))) none).run Tryd.prog W = .ok (.slice (some ⟨g, o8, none⟩) r.length c8) W := sx2
      have sx5 : ∀ W : World, (Instr.sliceAt 22 (.slice (some ⟨g, o', none⟩) m c') none (some (.int .i64 4)) none).run Tryd.prog W = .ok (.slice (some ⟨g, o', none⟩) 4 c') W := sx1
      clear sx2 sx1
      obtain ⟨ep, hep⟩ : ∃ ep, ep = J.enc post := ⟨_, rfl⟩
      rw [← hep] at hcE hlE hmeas HSE sx3
      have HEP := hide hep
      clear hep
      go_wp2_with (first
        | (go_at_call 49; refine hfe.mono ?_; rintro e w1 ⟨rfl, m1, hw1⟩; have B1 : Hid (Below w.heap.size w w1) := (by rw [hw1]; exact below_drewN HBw.out m1); have M1 : Hid (Mad w1 w.heap.size n (J.dec pre n)) := (by rw [hw1]; exact HM.out.drewN m1); have z1 : w.heap.size ≤ w1.heap.size := B1.out.size; clear hw1)
        | (go_at_call 50; refine (hnu _ B1.out).mono ?_; rintro e w' ⟨rfl, hw⟩; rw [hw]; clear hw w')
        | (go_at_call 51; refine (hcl _ B1.out).mono ?_; rintro e w3 ⟨v3, rfl, O3, b3⟩; obtain ⟨a3, c3, hv3, hi3, hn3⟩ := O3.inb; rw [hv3]; have B3 := hide (B1.out.trans (b3.mono z1)); have M3 := M1.out.below b3 rfl; obtain ⟨⟨vold, hvold⟩, hfro⟩ := M3.cell p HR2.out; have M4 := hide (M3.set p a3 c3 r hi3 hn3); have B4 := hide (B3.out.setCell (p := ⟨w.heap.size, p, none⟩) (Nat.le_refl _) (.slice a3 r.length c3)); clear O3 b3 hv3 hi3 hn3 M3)
        | fail)
      go_roundw
      case rel => exact ⟨pre ++ [(p, r)], post, oE, cE, p + 1, HF.out, HR4.out, HR2.out, by go_num, by rw [← HEP.out], by rw [← HEP.out]; exact hcE, by rw [← HEP.out]; exact hlE, by rw [← HEP.out]; exact HSE.out, by rw [ED.out]; exact M4.out, B4.out⟩
      case measure => exact hmeas.out
end Go.Proofs.YtidocfajhhpfdaaDoor
