/- The law DiskPlays: its model is made. -/
import Derived.Test.YtmjdlejomohbdaaRtk
namespace Go.Proofs.Ytmjdlejomohbdaa
open Go.RowKit
noncomputable def cB0 : Code := cB (cB (cR cInit))
/- the model has k lists; all that was there ahead of it is as it was -/
structure MI (base MM Z k : Nat) (wb w : World) : Prop where
  st : ∃ lv sv fv Ls Ss, RowAt w MM 31 #[lv, sv, fv, .bool false, .bool false, .int .i64 0] ∧ w.ownsRow base 32 1 lv k Ls ∧ w.ownsRow base 32 1 sv k Ss ∧ w.ownsRow base 4 1 fv k (List.replicate k (.bool false)) ∧
    (∀ v ∈ Ls, Blk w v Z (List.replicate Z 0)) ∧ (∀ v ∈ Ss, Blk w v Z (List.replicate Z 0)) ∧ ∀ b, lv.ownBlock = some b → sv.ownBlock ≠ some b
  os : w.os = wb.os
  tape : w.tape = wb.tape
  output : w.output = wb.output
  size : base ≤ w.heap.size
  block : ∀ g, g < base → g ≠ MM → w.heap[g]? = wb.heap[g]?
set_option maxRecDepth 5000 in
theorem owns_lt {w : World} {base : Nat} {e : TypeId} {v : Value} {n b : Nat} {xs : List Value} (h : w.ownsRow base e 1 v n xs) (hb : v.ownBlock = some b) : b < w.heap.size ∧ base ≤ b := by
  rcases h.2 with ⟨e, _⟩ | ⟨g, cap, cur, e, h1, h2, _⟩
  · rw [e] at hb; cases hb
  · rw [e] at hb; injection hb with hb; subst hb; exact ⟨(Array.getElem?_eq_some_iff.1 h2).1, h1⟩
set_option maxRecDepth 5000 in
theorem owns_ne2 {w : World} {base : Nat} {e t : TypeId} {v u : Value} {n m b : Nat} {xs ys : List Value} (h : w.ownsRow base e 1 v n xs) (h' : w.ownsRow base t 1 u m ys) (ht : e ≠ t) (hb : v.ownBlock = some b) : u.ownBlock ≠ some b := by
  rcases h.2 with ⟨e, _⟩ | ⟨g, cap, cur, e1, _, h2, _⟩
  · rw [e] at hb; cases hb
  · rw [e1] at hb; injection hb with hb; subst hb; exact owns_ne h' (show RowAt w g e cur from h2) ht
set_option maxRecDepth 5000 in
theorem MI.step {base MM Z k : Nat} {wb w : World} (h : MI base MM Z k wb w) (hMM : MM < base) (hk : k ≤ 1000) (hZ : Z ≤ 100000) {a1 : Act} (z : Int) (h0 : a1.tmps.size = 386) (h1 : a1.defers = []) (h8 : a1.eval (.tmp 8) = .pointer (some ⟨MM, 0, none⟩)) (hz : a1.eval (.tmp 1) = .int .i64 z) (hmax : max z 64 = (Z : Int)) :
    cR11.wp Try.prog (NJ fun a w' => a.tmps.size = 386 ∧ a.defers = [] ∧ (∀ q, (q < 47 ∨ 79 < q) → a.eval (.tmp q) = a1.eval (.tmp q)) ∧ MI base MM Z (k + 1) wb w') a1 w := by
  obtain ⟨lv, sv, fv, Ls, Ss, hr, hl, hs, hf, bl, bs, ne⟩ := h.st
  have hy : Hy base MM w.heap.size k Z lv sv fv := ⟨owns_form hl, owns_form hs, owns_form hf,
    fun b hb => ⟨(owns_lt hl hb).1, by have := (owns_lt hl hb).2; omega, ne b hb, owns_ne2 hl hf tm4 hb⟩,
    fun b hb => ⟨(owns_lt hs hb).1, by have := (owns_lt hs hb).2; omega, fun e => ne b e hb, owns_ne2 hs hf tm4 hb⟩,
    fun b hb => ⟨(owns_lt hf hb).1, by have := (owns_lt hf hb).2; omega, owns_ne2 hf hl (fun e => tm4 e.symm) hb, owns_ne2 hf hs (fun e => tm4 e.symm) hb⟩, h.size, hk, hZ⟩
  refine Code.wp_mono (fun e a w' hF => ?_) (region11 z h0 h1 h8 hz hmax hy hr hl hs hf)
  cases e
  case normal =>
    have hF' : Fin11 base MM w.heap.size k Z lv sv fv Ls Ss (List.replicate k (.bool false)) a1 w a w' := hF
    obtain ⟨gA, gB, lv', sv', fv', r', qA, qB, rA, rB, oA, oB, oC, ne'⟩ := hF'.st
    have hk1 : Rows w w' := fun g c hg => (hF'.block g hg.lt (fun e => hr.ne hg tm3 e.symm) (owns_ne hl hg (fun e => tne2 e.symm)) (owns_ne hs hg (fun e => tne2 e.symm)) (owns_ne hf hg (fun e => tm5 e.symm))).trans hg
    refine ⟨hF'.z, hF'.d, hF'.keep, ⟨⟨lv', sv', fv', _, _, r', oA, oB, ?_, ?_, ?_, ne'⟩, hF'.os.trans h.os, hF'.tape.trans h.tape, hF'.output.trans h.output, Nat.le_trans h.size hF'.size, fun g hg1 hg2 => ?_⟩⟩
    · rw [List.replicate_succ']; exact oC
    · intro v hv
      rcases List.mem_append.1 hv with hv | hv
      · exact (bl v hv).heap hk1
      · simp at hv; subst hv; exact ⟨gA, Z, rfl, by simp, SlU.row rA⟩
    · intro v hv
      rcases List.mem_append.1 hv with hv | hv
      · exact (bs v hv).heap hk1
      · simp at hv; subst hv; exact ⟨gB, Z, rfl, by simp, SlU.row rB⟩
    · rw [hF'.block g (Nat.lt_of_lt_of_le hg1 h.size) hg2 (fun e => by have := (owns_lt hl e).2; omega) (fun e => by have := (owns_lt hs e).2; omega) (fun e => by have := (owns_lt hf e).2; omega)]
      exact h.block g hg1 hg2
  all_goals exact (hF : False).elim
/- in the loop that makes the model -/
structure JI (ao : Option Addr) (na ca : Nat) (n z : Int) (D MM base Z k m : Nat) (wb : World) (a : Act) (w : World) : Prop where
  zz : a.tmps.size = 386
  dd : a.defers = []
  s0 : sl a 0 = .int .i64 n
  s1 : sl a 1 = .int .i64 z
  s2 : sl a 2 = .slice ao na ca
  s7 : sl a 7 = .pointer (some ⟨D, 0, none⟩)
  s8 : sl a 8 = .pointer (some ⟨MM, 0, none⟩)
  s9 : sl a 9 = .int .i64 (k : Int)
  mi : MI base MM Z m wb w
section
variable {ao : Option Addr} {na ca : Nat} {n z : Int} {D MM base Z k m N : Nat} {wb : World} {a : Act} {w : World}
set_option maxHeartbeats 1500000 in
set_option maxRecDepth 100000 in
theorem ihead (Q : Exit → Act → World → Prop) (hN : max n 1 = (N : Int)) (h : JI ao na ca n z D MM base Z k m wb a w) (h1 : k < N → ∀ a, JI ao na ca n z D MM base Z k m wb a w → Q .normal a w) (h2 : ¬ k < N → ∀ a, JI ao na ca n z D MM base Z k m wb a w → Q (.exit 0) a w) : (cL cB0).wp Try.prog Q a w := by
  have H1 := hide h1
  have H2 := hide h2
  have HM := hide h.mi
  have g0 := h.s0
  have g1 := h.s1
  have g2 := h.s2
  have g7 := h.s7
  have g8 := h.s8
  have g9 := h.s9
  rw [fr_of a h.zz h.dd]
  unfold sl at g0 g1 g2 g7 g8 g9
  clear h h1 h2
  generalize hg : (fun i => a.tmps.getD i undef) = g
  have k0 : g 0 = .int .i64 n := by rw [← hg]; exact g0
  have k1 : g 1 = .int .i64 z := by rw [← hg]; exact g1
  have k2 : g 2 = .slice ao na ca := by rw [← hg]; exact g2
  have k7 : g 7 = .pointer (some ⟨D, 0, none⟩) := by rw [← hg]; exact g7
  have k8 : g 8 = .pointer (some ⟨MM, 0, none⟩) := by rw [← hg]; exact g8
  have k9 : g 9 = .int .i64 (k : Int) := by rw [← hg]; exact g9
  clear g0 g1 g2 g7 g8 g9 hg
  unfold Fr
  rw [k0, k1, k2, k7, k8, k9]
  clear k0 k1 k2 k7 k8 k9
  conv => arg 2; whnf
  by_cases hlt : k < N
  · have hd : decide ((k : Int) < (N : Int)) = true := by simp; exact hlt
    go_wp2
    exact H1.out hlt _ ⟨rfl, rfl, rfl, rfl, rfl, rfl, rfl, rfl, HM.out⟩
  · have hd : decide ((k : Int) < (N : Int)) = false := by simp; omega
    go_wp2
    exact H2.out hlt _ ⟨rfl, rfl, rfl, rfl, rfl, rfl, rfl, rfl, HM.out⟩
set_option maxHeartbeats 1500000 in
set_option maxRecDepth 100000 in
theorem iinc (Q : Exit → Act → World → Prop) (hk : k ≤ 1000) (h : JI ao na ca n z D MM base Z k m wb a w) (h1 : ∀ a, JI ao na ca n z D MM base Z (k + 1) m wb a w → Q .normal a w) : (cR (cR cB0)).wp Try.prog Q a w := by
  have H1 := hide h1
  have HM := hide h.mi
  have g0 := h.s0
  have g1 := h.s1
  have g2 := h.s2
  have g7 := h.s7
  have g8 := h.s8
  have g9 := h.s9
  rw [fr_of a h.zz h.dd]
  unfold sl at g0 g1 g2 g7 g8 g9
  clear h h1
  generalize hg : (fun i => a.tmps.getD i undef) = g
  have k0 : g 0 = .int .i64 n := by rw [← hg]; exact g0
  have k1 : g 1 = .int .i64 z := by rw [← hg]; exact g1
  have k2 : g 2 = .slice ao na ca := by rw [← hg]; exact g2
  have k7 : g 7 = .pointer (some ⟨D, 0, none⟩) := by rw [← hg]; exact g7
  have k8 : g 8 = .pointer (some ⟨MM, 0, none⟩) := by rw [← hg]; exact g8
  have k9 : g 9 = .int .i64 (k : Int) := by rw [← hg]; exact g9
  clear g0 g1 g2 g7 g8 g9 hg
  unfold Fr
  rw [k0, k1, k2, k7, k8, k9]
  clear k0 k1 k2 k7 k8 k9
  have hadd : IntKind.i64.wrap ((k : Int) + 1) = ((k + 1 : Nat) : Int) := by rw [IntKind.wrap_i64]; omega
  conv => arg 2; whnf
  go_wp2
  exact H1.out _ ⟨rfl, rfl, rfl, rfl, rfl, rfl, rfl, rfl, HM.out⟩
def cnt9 (a : Act) : Nat := match sl a 9 with | .int _ x => x.toNat | _ => 0
set_option maxRecDepth 5000 in
theorem iloop (hN : max n 1 = (N : Int)) (hN4 : N ≤ 1000) (hMM : MM < base) (hZ : Z ≤ 100000) (hmax : max z 64 = (Z : Int)) (h : JI ao na ca n z D MM base Z 0 0 wb a w) : (cR cInit).wp Try.prog (NJ (JI ao na ca n z D MM base Z N N wb)) a w := by
  rw [show cR cInit = .block 0 (.loop cB0) by kernel_rfl]
  have e1 : cB0 = .seq (cL cB0) (.seq (.block 1 cR11) (cR (cR cB0))) := by kernel_rfl
  refine wp_block (wp_loop (fun a w => ∃ k, k ≤ N ∧ JI ao na ca n z D MM base Z k k wb a w) (fun a _ => N - cnt9 a) ⟨0, Nat.zero_le _, h⟩ ?_)
  rintro a w ⟨k, hk, hJ⟩
  have hm : cnt9 a = k := by unfold cnt9; rw [hJ.s9]; rfl
  rw [e1]
  refine wp_seq (ihead _ hN hJ (fun hlt a' hJ' => ?_) (fun hge a' hJ' => ?_))
  · show (Code.seq (.block 1 cR11) (cR (cR cB0))).wp Try.prog _ a' w
    refine wp_seq (wp_block ?_)
    refine cut_mono _ (hJ'.mi.step hMM (by omega) hZ z hJ'.zz hJ'.dd hJ'.s8 hJ'.s1 hmax) (fun a2 w2 h2 => ?_)
    obtain ⟨z2, d2, k2, m2⟩ := h2
    show (cR (cR cB0)).wp Try.prog _ a2 w2
    refine iinc (k := k) (m := k + 1) _ (by omega) ⟨z2, d2, (k2 0 (Or.inl (by decide))).trans hJ'.s0, (k2 1 (Or.inl (by decide))).trans hJ'.s1, (k2 2 (Or.inl (by decide))).trans hJ'.s2, (k2 7 (Or.inl (by decide))).trans hJ'.s7, (k2 8 (Or.inl (by decide))).trans hJ'.s8, (k2 9 (Or.inl (by decide))).trans hJ'.s9, m2⟩ (fun a3 hJ3 => ?_)
    refine ⟨⟨k + 1, by omega, hJ3⟩, ?_⟩
    have hm3 : cnt9 a3 = k + 1 := by unfold cnt9; rw [hJ3.s9]; rfl
    show N - cnt9 a3 < N - cnt9 _
    omega
  · have : k = N := by omega
    subst this
    exact hJ'
end
end Go.Proofs.Ytmjdlejomohbdaa
