/- A journal in memory, on its disk; what keeps it. -/
import Derived.Test.YtidocfajhhpfdaaDoorJkn
namespace Go.Proofs.YtidocfajhhpfdaaDoor
open Go.RowKit
/- behind w0: a disk D, S, M, and a journal bJ on it, as the state says -/
structure JW (w0 : World) (D S bJ M : Nat) (s : K.St) (h : J.H) (L : List (List UInt8)) (W : World) : Prop where
  bl : Below w0.heap.size w0 W
  bD : w0.heap.size ≤ D
  bS : w0.heap.size ≤ S
  bM : w0.heap.size ≤ M
  bj : w0.heap.size ≤ bJ
  dk : DiskAt FF W D S M s
  is : J.Is s h L
  jr : RowAt W bJ 69 (jrow D h false)
set_option maxRecDepth 5000 in
theorem JW.tab {w0 W : World} {D S bJ M : Nat} {s : K.St} {h : J.H} {L : List (List UInt8)} (hw : JW w0 D S bJ M s h L W) (ht : Tab w0) : Tab W := ht.below hw.bl ht.1
set_option maxRecDepth 5000 in
theorem JW.pos {w0 W : World} {D S bJ M : Nat} {s : K.St} {h : J.H} {L : List (List UInt8)} (hw : JW w0 D S bJ M s h L W) (ht : Tab w0) : 0 < D ∧ 0 < S ∧ 0 < M := by
  have := ht.1; have := hw.bD; have := hw.bS; have := hw.bM; omega
set_option maxRecDepth 5000 in
theorem JW.below {w0 W W' : World} {D S bJ M : Nat} {s : K.St} {h : J.H} {L : List (List UInt8)} (hw : JW w0 D S bJ M s h L W) (hb : Below W.heap.size W W') : JW w0 D S bJ M s h L W' :=
  ⟨hw.bl.trans (hb.mono hw.bl.size), hw.bD, hw.bS, hw.bM, hw.bj, hw.dk.below hb (Nat.le_refl _), hw.is, hw.jr.below hb hw.jr.lt⟩
set_option maxRecDepth 5000 in
theorem JW.laid {w0 W W' : World} {D S bJ M M' : Nat} {s s' : K.St} {h h' : J.H} {L L' : List (List UInt8)} (hw : JW w0 D S bJ M s h L W) (hl : Laid W W' D S M bJ s h' L' M' s') : JW w0 D S bJ M' s' h' L' W' :=
  ⟨hl.mv.below hw.bl hw.bl.size hw.bD hw.bS hw.bM hw.bj, hw.bD, hw.bS, Nat.le_trans hw.bl.size hl.m, hw.bj, hl.dk, hl.is, hl.jr⟩
/- lists that were made behind the disk are kept -/
set_option maxRecDepth 5000 in
theorem Laid.keepBs {W W' : World} {D S bJ M M' B : Nat} {s s' : K.St} {h h' : J.H} {L' : List (List UInt8)} (hl : Laid W W' D S M bJ s h' L' M' s') (hd : DiskAt FF W D S M s) (hj : RowAt W bJ 69 (jrow D h false)) {v : Value} {R : List (List UInt8)} (hv : OwnBs W B v R) (hS : S < B) : OwnBs W' B v R := by
  obtain ⟨sv, uv, hk⟩ := hd
  refine hv.kept hl.mv.size (fun g o ho hb => ?_)
  have hlt : g < W.heap.size := (Array.getElem?_eq_some_iff.1 ho).1
  have hrow := hk.row
  have hsur := hk.sure
  unfold RowAt at hrow hsur hj
  refine hl.mv.block g hlt (fun e => ?_) (fun e => ?_) ?_ (fun e => ?_)
  · rw [e, hrow] at ho; injection ho with ho
    rcases hb with ⟨c, fr, hb⟩ | ⟨_, c, fr, hb⟩ <;> (rw [hb] at ho; injection ho with _ ho _; exact absurd ho (by decide))
  · rcases hb with ⟨c, fr, hb⟩ | ⟨hg, _⟩
    · rw [e, hsur] at ho; injection ho with ho; rw [hb] at ho; injection ho with _ ho _; exact absurd ho (by decide)
    · omega
  · rcases hb with ⟨c, fr, rfl⟩ | ⟨_, c, fr, rfl⟩
    · exact hk.un.row_ne ho
    · exact hk.un.row_ne ho
  · rw [e, hj] at ho; injection ho with ho
    rcases hb with ⟨c, fr, hb⟩ | ⟨_, c, fr, hb⟩ <;> (rw [hb] at ho; injection ho with _ ho _; exact absurd ho (by decide))
set_option maxRecDepth 5000 in
theorem OwnBs.bel {w w' : World} {B : Nat} {v : Value} {L : List (List UInt8)} (h : OwnBs w B v L) (hb : Below w.heap.size w w') : OwnBs w' B v L := h.kept hb.size (fun g _ ho _ => hb.block g (Array.getElem?_eq_some_iff.1 ho).1)
/- Open of a journal's disk: another journal on it -/
set_option maxRecDepth 5000 in
theorem JW.opened {w0 W W' : World} {D S bJ M M' : Nat} {s : K.St} {h : J.H} {L : List (List UInt8)} (hw : JW w0 D S bJ M s h L W) (hm : Mv D S M W W') (hM : W.heap.size ≤ M') (hd : DiskAt FF W' D S M' s.synced) (hj : RowAt W' W.heap.size 69 (jrow D h false)) : JW w0 D S W.heap.size M' s.synced h L W' :=
  ⟨hm.below hw.bl hw.bl.size hw.bD hw.bS hw.bM, hw.bD, hw.bS, Nat.le_trans hw.bl.size hM, hw.bl.size, hd, hw.is.synced, hj⟩
end Go.Proofs.YtidocfajhhpfdaaDoor
