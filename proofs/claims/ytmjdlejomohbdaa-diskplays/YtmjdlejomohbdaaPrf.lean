/- What the drawn regions of the model's assignments want: cells, ahead of the stores and behind them. -/
import Derived.Test.YtmjdlejomohbdaaPsy
namespace Go.Proofs.Ytmjdlejomohbdaa
open Go.RowKit
section
variable {B : Nat} {w0 w : World} {D S M MM ML MS MF : Nat} {s : K.St} {L O : Nat → List UInt8} {Fh : Nat → Bool} {dead armed : Bool} {mn : Int}
/- sure[k], fresh[k] = l[k], false -/
set_option maxRecDepth 5000 in
theorem facts_sf (h : PW B w0 D S M MM ML MS MF s L O Fh dead armed mn w) (k : Nat) (hk : k < s.n) : ∃ (cl cs cf gl capl : Nat) (v2 : Value),
    (w.cell? ⟨MM, 0, none⟩ = some (.slice (some ⟨ML, 0, none⟩) s.n cl) ∧ w.cell? ⟨MM, 1, none⟩ = some (.slice (some ⟨MS, 0, none⟩) s.n cs) ∧ w.cell? ⟨MM, 2, none⟩ = some (.slice (some ⟨MF, 0, none⟩) s.n cf) ∧ w.cell? ⟨ML, k, none⟩ = some (.slice (some ⟨gl, 0, none⟩) s.sz capl)) ∧
    (w.cell? ⟨MS, k, none⟩ = some v2 ∧ w.frozen? ⟨MS, k, none⟩ = false ∧ w.cell? ⟨MF, k, none⟩ = some (.bool (Fh k)) ∧ w.frozen? ⟨MF, k, none⟩ = false) ∧
    (∀ (W : World) (v : Value), (W.setCell ⟨MS, k, none⟩ v).cell? ⟨MF, k, none⟩ = W.cell? ⟨MF, k, none⟩) ∧ (∀ (W : World) (v : Value), (W.setCell ⟨MS, k, none⟩ v).frozen? ⟨MF, k, none⟩ = W.frozen? ⟨MF, k, none⟩) ∧
    (∀ (v : Value), (w.drew.setCell ⟨MS, k, none⟩ v).cell? ⟨MM, 0, none⟩ = some (.slice (some ⟨ML, 0, none⟩) s.n cl) ∧ (w.drew.setCell ⟨MS, k, none⟩ v).cell? ⟨MM, 1, none⟩ = some (.slice (some ⟨MS, 0, none⟩) s.n cs) ∧ (w.drew.setCell ⟨MS, k, none⟩ v).cell? ⟨MM, 2, none⟩ = some (.slice (some ⟨MF, 0, none⟩) s.n cf) ∧ (w.drew.setCell ⟨MS, k, none⟩ v).cell? ⟨ML, k, none⟩ = some (.slice (some ⟨gl, 0, none⟩) s.sz capl)) ∧
    (∀ (v u : Value), ((w.drew.setCell ⟨MS, k, none⟩ v).setCell ⟨MF, k, none⟩ u).cell? ⟨MM, 0, none⟩ = some (.slice (some ⟨ML, 0, none⟩) s.n cl) ∧ ((w.drew.setCell ⟨MS, k, none⟩ v).setCell ⟨MF, k, none⟩ u).cell? ⟨MM, 1, none⟩ = some (.slice (some ⟨MS, 0, none⟩) s.n cs) ∧ ((w.drew.setCell ⟨MS, k, none⟩ v).setCell ⟨MF, k, none⟩ u).cell? ⟨MM, 2, none⟩ = some (.slice (some ⟨MF, 0, none⟩) s.n cf) ∧ ((w.drew.setCell ⟨MS, k, none⟩ v).setCell ⟨MF, k, none⟩ u).cell? ⟨ML, k, none⟩ = some (.slice (some ⟨gl, 0, none⟩) s.sz capl)) ∧
    PW B w0 D S M MM ML MS MF s L (fput O k (L k)) (fput Fh k false) dead armed mn ((w.drew.setCell ⟨MS, k, none⟩ (.slice (some ⟨gl, 0, none⟩) s.sz capl)).setCell ⟨MF, k, none⟩ (.bool false)) := by
  obtain ⟨cl, cs, cf, hrw⟩ := h.md.row
  obtain ⟨c1, lv, hr1, hv1⟩ := h.md.rl
  obtain ⟨hc1, gl, capl, hlv, hll, hsu⟩ := hv1 k hk
  have hbl2 : Blk w (.slice (some ⟨gl, 0, none⟩) s.sz capl) s.sz (L k) := ⟨gl, capl, rfl, hll, hsu⟩
  rw [hlv] at hc1
  obtain ⟨c2, lv2, hr2, hv2⟩ := h.md.rs
  obtain ⟨c3, hr3, hv3⟩ := h.md.rf
  have hne1 : MM ≠ MS := hrw.ne hr2 tm1
  have hne2 : MM ≠ MF := hrw.ne hr3 tm2
  have hne3 : ML ≠ MS := h.n1
  have hne4 : ML ≠ MF := hr1.ne hr3 tm4
  have hne5 : MF ≠ MS := fun e => hr2.ne hr3 tm4 e.symm
  have a0 : w.cell? ⟨MM, 0, none⟩ = some (.slice (some ⟨ML, 0, none⟩) s.n cl) := hrw.cell 0
  have a1 : w.cell? ⟨MM, 1, none⟩ = some (.slice (some ⟨MS, 0, none⟩) s.n cs) := hrw.cell 1
  have a2 : w.cell? ⟨MM, 2, none⟩ = some (.slice (some ⟨MF, 0, none⟩) s.n cf) := hrw.cell 2
  have a3 : w.cell? ⟨ML, k, none⟩ = some (.slice (some ⟨gl, 0, none⟩) s.sz capl) := by rw [hr1.cell k]; exact hc1
  have Q1 : ∀ v, (w.drew.setCell ⟨MS, k, none⟩ v).cell? ⟨MM, 0, none⟩ = some (.slice (some ⟨ML, 0, none⟩) s.n cl) ∧ (w.drew.setCell ⟨MS, k, none⟩ v).cell? ⟨MM, 1, none⟩ = some (.slice (some ⟨MS, 0, none⟩) s.n cs) ∧ (w.drew.setCell ⟨MS, k, none⟩ v).cell? ⟨MM, 2, none⟩ = some (.slice (some ⟨MF, 0, none⟩) s.n cf) ∧ (w.drew.setCell ⟨MS, k, none⟩ v).cell? ⟨ML, k, none⟩ = some (.slice (some ⟨gl, 0, none⟩) s.sz capl) := fun v =>
    ⟨(World.cell?_setCell_far _ _ _ _ hne1.symm).trans a0, (World.cell?_setCell_far _ _ _ _ hne1.symm).trans a1, (World.cell?_setCell_far _ _ _ _ hne1.symm).trans a2, (World.cell?_setCell_far _ _ _ _ hne3.symm).trans a3⟩
  refine ⟨cl, cs, cf, gl, capl, lv2 k, ⟨a0, a1, a2, a3⟩, ⟨by rw [hr2.cell k]; exact (hv2 k hk).1, hr2.frozen k, by rw [hr3.cell k]; exact hv3 k hk, hr3.frozen k⟩, fun W v => World.cell?_setCell_far _ _ _ _ (fun e => hne5 e.symm), fun W v => World.frozen?_setCell _ _ _ _, Q1, fun v u => ?_, (h.drew.setS hk (hbl2.heap (w' := w.drew) (fun _ _ h => h))).setF hk false⟩
  exact ⟨(World.cell?_setCell_far _ _ _ _ hne2.symm).trans (Q1 v).1, (World.cell?_setCell_far _ _ _ _ hne2.symm).trans (Q1 v).2.1, (World.cell?_setCell_far _ _ _ _ hne2.symm).trans (Q1 v).2.2.1, (World.cell?_setCell_far _ _ _ _ hne4.symm).trans (Q1 v).2.2.2⟩
/- l[k] = sure[k] -/
set_option maxRecDepth 5000 in
theorem facts_l (h : PW B w0 D S M MM ML MS MF s L O Fh dead armed mn w) (k : Nat) (hk : k < s.n) : ∃ (cl cs gl capl : Nat) (v2 : Value),
    (w.cell? ⟨MM, 0, none⟩ = some (.slice (some ⟨ML, 0, none⟩) s.n cl) ∧ w.cell? ⟨MM, 1, none⟩ = some (.slice (some ⟨MS, 0, none⟩) s.n cs) ∧ w.cell? ⟨MS, k, none⟩ = some (.slice (some ⟨gl, 0, none⟩) s.sz capl)) ∧
    (w.cell? ⟨ML, k, none⟩ = some v2 ∧ w.frozen? ⟨ML, k, none⟩ = false) ∧
    (∀ (v : Value), (w.drew.setCell ⟨ML, k, none⟩ v).cell? ⟨MM, 0, none⟩ = some (.slice (some ⟨ML, 0, none⟩) s.n cl) ∧ (w.drew.setCell ⟨ML, k, none⟩ v).cell? ⟨MM, 1, none⟩ = some (.slice (some ⟨MS, 0, none⟩) s.n cs) ∧ (w.drew.setCell ⟨ML, k, none⟩ v).cell? ⟨MS, k, none⟩ = some (.slice (some ⟨gl, 0, none⟩) s.sz capl)) ∧
    PW B w0 D S M MM ML MS MF s (fput L k (O k)) O Fh dead armed mn (w.drew.setCell ⟨ML, k, none⟩ (.slice (some ⟨gl, 0, none⟩) s.sz capl)) := by
  obtain ⟨cl, cs, cf, hrw⟩ := h.md.row
  obtain ⟨c1, lv, hr1, hv1⟩ := h.md.rl
  obtain ⟨c2, lv2, hr2, hv2⟩ := h.md.rs
  obtain ⟨hc2, gl, capl, hlv, hll, hsu⟩ := hv2 k hk
  have hbl2 : Blk w (.slice (some ⟨gl, 0, none⟩) s.sz capl) s.sz (O k) := ⟨gl, capl, rfl, hll, hsu⟩
  rw [hlv] at hc2
  have hne1 : MM ≠ ML := hrw.ne hr1 tm1
  have hne3 : ML ≠ MS := h.n1
  have a0 : w.cell? ⟨MM, 0, none⟩ = some (.slice (some ⟨ML, 0, none⟩) s.n cl) := hrw.cell 0
  have a1 : w.cell? ⟨MM, 1, none⟩ = some (.slice (some ⟨MS, 0, none⟩) s.n cs) := hrw.cell 1
  have a3 : w.cell? ⟨MS, k, none⟩ = some (.slice (some ⟨gl, 0, none⟩) s.sz capl) := by rw [hr2.cell k]; exact hc2
  exact ⟨cl, cs, gl, capl, lv k, ⟨a0, a1, a3⟩, ⟨by rw [hr1.cell k]; exact (hv1 k hk).1, hr1.frozen k⟩, fun v => ⟨(World.cell?_setCell_far _ _ _ _ hne1.symm).trans a0, (World.cell?_setCell_far _ _ _ _ hne1.symm).trans a1, (World.cell?_setCell_far _ _ _ _ hne3).trans a3⟩, h.drew.setL hk (hbl2.heap (w' := w.drew) (fun _ _ h => h))⟩
/- l[k], fresh[k] = b, true -/
set_option maxRecDepth 5000 in
theorem facts_w (h : PW B w0 D S M MM ML MS MF s L O Fh dead armed mn w) (k : Nat) (hk : k < s.n) (v : Value) (l : List UInt8) (hv : Blk w v s.sz l) : ∃ (cl cf : Nat) (v2 : Value),
    (w.cell? ⟨MM, 0, none⟩ = some (.slice (some ⟨ML, 0, none⟩) s.n cl) ∧ w.cell? ⟨MM, 2, none⟩ = some (.slice (some ⟨MF, 0, none⟩) s.n cf)) ∧
    (w.cell? ⟨ML, k, none⟩ = some v2 ∧ w.frozen? ⟨ML, k, none⟩ = false ∧ w.cell? ⟨MF, k, none⟩ = some (.bool (Fh k)) ∧ w.frozen? ⟨MF, k, none⟩ = false) ∧
    (∀ (W : World) (v : Value), (W.setCell ⟨ML, k, none⟩ v).cell? ⟨MF, k, none⟩ = W.cell? ⟨MF, k, none⟩) ∧ (∀ (W : World) (v : Value), (W.setCell ⟨ML, k, none⟩ v).frozen? ⟨MF, k, none⟩ = W.frozen? ⟨MF, k, none⟩) ∧
    (∀ (v : Value), (w.drew.setCell ⟨ML, k, none⟩ v).cell? ⟨MM, 0, none⟩ = some (.slice (some ⟨ML, 0, none⟩) s.n cl) ∧ (w.drew.setCell ⟨ML, k, none⟩ v).cell? ⟨MM, 2, none⟩ = some (.slice (some ⟨MF, 0, none⟩) s.n cf)) ∧
    (∀ (v u : Value), ((w.drew.setCell ⟨ML, k, none⟩ v).setCell ⟨MF, k, none⟩ u).cell? ⟨MM, 0, none⟩ = some (.slice (some ⟨ML, 0, none⟩) s.n cl) ∧ ((w.drew.setCell ⟨ML, k, none⟩ v).setCell ⟨MF, k, none⟩ u).cell? ⟨MM, 2, none⟩ = some (.slice (some ⟨MF, 0, none⟩) s.n cf)) ∧
    PW B w0 D S M MM ML MS MF s (fput L k l) O (fput Fh k true) dead armed mn ((w.drew.setCell ⟨ML, k, none⟩ v).setCell ⟨MF, k, none⟩ (.bool true)) := by
  obtain ⟨cl, cs, cf, hrw⟩ := h.md.row
  obtain ⟨c1, lv, hr1, hv1⟩ := h.md.rl
  obtain ⟨c3, hr3, hv3⟩ := h.md.rf
  have hne1 : MM ≠ ML := hrw.ne hr1 tm1
  have hne2 : MM ≠ MF := hrw.ne hr3 tm2
  have hne5 : MF ≠ ML := fun e => hr1.ne hr3 tm4 e.symm
  have a0 : w.cell? ⟨MM, 0, none⟩ = some (.slice (some ⟨ML, 0, none⟩) s.n cl) := hrw.cell 0
  have a2 : w.cell? ⟨MM, 2, none⟩ = some (.slice (some ⟨MF, 0, none⟩) s.n cf) := hrw.cell 2
  have Q1 : ∀ v, (w.drew.setCell ⟨ML, k, none⟩ v).cell? ⟨MM, 0, none⟩ = some (.slice (some ⟨ML, 0, none⟩) s.n cl) ∧ (w.drew.setCell ⟨ML, k, none⟩ v).cell? ⟨MM, 2, none⟩ = some (.slice (some ⟨MF, 0, none⟩) s.n cf) := fun v =>
    ⟨(World.cell?_setCell_far _ _ _ _ hne1.symm).trans a0, (World.cell?_setCell_far _ _ _ _ hne1.symm).trans a2⟩
  exact ⟨cl, cf, lv k, ⟨a0, a2⟩, ⟨by rw [hr1.cell k]; exact (hv1 k hk).1, hr1.frozen k, by rw [hr3.cell k]; exact hv3 k hk, hr3.frozen k⟩, fun W v => World.cell?_setCell_far _ _ _ _ (fun e => hne5 e.symm), fun W v => World.frozen?_setCell _ _ _ _, Q1, fun v u => ⟨(World.cell?_setCell_far _ _ _ _ hne2.symm).trans (Q1 v).1, (World.cell?_setCell_far _ _ _ _ hne2.symm).trans (Q1 v).2⟩, (h.drew.setL hk (hv.heap (w' := w.drew) (fun _ _ h => h))).setF hk true⟩
set_option maxRecDepth 5000 in
theorem ta1 : 36 ≠ 51 := by decide
set_option maxRecDepth 5000 in
theorem ta2 : 36 ≠ 32 := by decide
set_option maxRecDepth 5000 in
theorem ta3 : 36 ≠ 4 := by decide
set_option maxRecDepth 5000 in
theorem ta4 : 36 ≠ 31 := by decide
/- the act's own row is kept -/
set_option maxRecDepth 5000 in
theorem PW.act {w' : World} {X : Nat} {c : Array Value} (h : PW B w0 D S M MM ML MS MF s L O Fh dead armed mn w) (hX : RowAt w X 36 c) (hm : Mv D S M w w') : RowAt w' X 36 c := by
  obtain ⟨sv, uv, hk⟩ := h.dk
  exact (hm.block X hX.lt (hX.ne hk.row ta1) (hX.ne hk.sure ta2) (hk.un.row_ne hX)).trans hX
set_option maxRecDepth 5000 in
theorem PW.actL {X : Nat} {c : Array Value} (h : PW B w0 D S M MM ML MS MF s L O Fh dead armed mn w) (hX : RowAt w X 36 c) (k : Nat) (v : Value) : RowAt (w.setCell ⟨ML, k, none⟩ v) X 36 c := by
  obtain ⟨c1, l1, hr1, _⟩ := h.md.rl; exact hX.other _ _ (hX.ne hr1 ta2)
set_option maxRecDepth 5000 in
theorem PW.actS {X : Nat} {c : Array Value} (h : PW B w0 D S M MM ML MS MF s L O Fh dead armed mn w) (hX : RowAt w X 36 c) (k : Nat) (v : Value) : RowAt (w.setCell ⟨MS, k, none⟩ v) X 36 c := by
  obtain ⟨c1, l1, hr1, _⟩ := h.md.rs; exact hX.other _ _ (hX.ne hr1 ta2)
set_option maxRecDepth 5000 in
theorem PW.actF {X : Nat} {c : Array Value} (h : PW B w0 D S M MM ML MS MF s L O Fh dead armed mn w) (hX : RowAt w X 36 c) (W : World) (hW : RowAt W X 36 c) (k : Nat) (v : Value) : RowAt (W.setCell ⟨MF, k, none⟩ v) X 36 c := by
  obtain ⟨c1, hr1, _⟩ := h.md.rf; exact hW.other _ _ (hX.ne hr1 ta3)
end
end Go.Proofs.Ytmjdlejomohbdaa
