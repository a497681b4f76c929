/- wire.Id (a text of stage 6's seat a, at this seat). -/
import Derived.Test.YtpgebiopckmgbabGreatRdm
import Derived.Deep.RegionHeld3
/- stage6/Hlp -/
/- wire.Id; signethelp.Records of none. -/
namespace Go.Proofs.YtpgebiopckmgbabGreat
open Go.RowKit
set_option maxRecDepth 5000 in
theorem id_any (b : List UInt8) (ao : Option Addr) (c : Nat) (w : World) (hs : SlL w ao b) :
    Calls Tryz.prog 14 #[.slice ao b.length c] w fun e w' => e = .returned (.tuple #[.int .u16 ((if b.length < 12 then 0 else M.num b 0 : Nat) : Int), .bool (decide (12 ≤ b.length))]) ∧ Below w.heap.size w w' := by
  by_cases h12 : b.length < 12
  · have q1 : (b.length : Int) < 12 := by omega
    rw [if_pos h12, decide_eq_false (by omega)]
    clear hs
    go_enter Tryz.func14, Tryz.ntmps14
    go_wp2
    go_ret2
    exact ⟨rfl, Below.refl _ _⟩
  · have q1 : ¬ (b.length : Int) < 12 := by omega
    rw [if_neg h12, decide_eq_true (by omega)]
    obtain ⟨g, o, rfl, hg, hc⟩ := hs (by omega)
    have c0 : w.cell? ⟨g, o, none⟩ = some (.int .u8 (M.by_ b 0 : Int)) := hc 0 (by omega)
    have c1 : w.cell? ⟨g, o + 1, none⟩ = some (.int .u8 (M.by_ b 1 : Int)) := hc 1 (by omega)
    have hy : M.by_ b 0 < 256 := (b.getD 0 0).toNat_lt
    have hz : M.by_ b 1 < 256 := (b.getD 1 0).toNat_lt
    have hnum : M.num b 0 = M.by_ b 0 * 256 + M.by_ b 1 := rfl
    have HN := hide hnum
    have i0 : (0 : Int) < (b.length : Int) := by omega
    have i1 : (1 : Int) < (b.length : Int) := by omega
    clear hc hs hnum
    generalize M.by_ b 0 = y at c0 hy HN
    generalize M.by_ b 1 = z at c1 hz HN
    have ho2 := or_16 y z hy hz
    go_enter Tryz.func14, Tryz.ntmps14
    go_wp2
    go_quiet (fail)
    go_wp2
    go_ret2
    refine ⟨?_, drew_below _ ⟨_, rfl⟩⟩
    rw [HN.out, Int.natCast_add, Int.natCast_mul]; rfl
end Go.Proofs.YtpgebiopckmgbabGreat


/- Slices of questions (a text of stage 6's seat a, at this seat). -/
/- stage6/Hlm -/
/- signethelp.Message, of two messages of the same questions. -/
namespace Go.Proofs.YtpgebiopckmgbabGreat
open Go.RowKit
/- a slice of questions, to be read -/
set_option maxRecDepth 5000 in
theorem cell_more {w : World} {a : Addr} {v : Value} (o : Obj) (h : w.cell? a = some v) : (w.alloc o).cell? a = some v := (World.cell?_alloc_lt w o a (block_lt_of_cell h)).trans h
set_option maxRecDepth 5000 in
theorem cell_far {W : World} {b g j o : Nat} {v : Value} (h : b ≠ g) : (W.setCell ⟨g, j, none⟩ v).cell? ⟨b, o, none⟩ = W.cell? ⟨b, o, none⟩ := World.cell?_of_block (w := W) (a := ⟨b, o, none⟩) (Below.heap_setCell _ _ _ _ h)
set_option maxRecDepth 5000 in
theorem cell_set3 {W : World} {b g o : Nat} {u v0 v1 v2 : Value} (h : b ≠ g) (hc : W.cell? ⟨b, o, none⟩ = some u) : (((W.setCell ⟨g, 0, none⟩ v0).setCell ⟨g, 1, none⟩ v1).setCell ⟨g, 2, none⟩ v2).cell? ⟨b, o, none⟩ = some u := by
  rw [cell_far h, cell_far h, cell_far h]; exact hc
def SlQ (w : World) (ao : Option Addr) (l : List (Option Addr × Nat × M.Q)) : Prop := 0 < l.length → ∃ g, ao = some ⟨g, 0, none⟩ ∧ g < w.heap.size ∧ ∀ j x, l[j]? = some x → w.cell? ⟨g, j * 3, none⟩ = some (.slice x.1 x.2.2.name.length x.2.1) ∧ w.cell? ⟨g, j * 3 + 1, none⟩ = some (.int .u16 (x.2.2.type : Int)) ∧ w.cell? ⟨g, j * 3 + 2, none⟩ = some (.int .u16 (x.2.2.cls : Int)) ∧ SlS w x.1 x.2.2.name
set_option maxRecDepth 5000 in
theorem flat_at (l : List (Option Addr × Nat × M.Q)) : ∀ (j t : Nat) (x : Option Addr × Nat × M.Q), l[j]? = some x → t < 3 → (l.flatMap qc)[j * 3 + t]? = (qc x)[t]? := by
  induction l with
  | nil => intro j t x h; simp at h
  | cons y r ih =>
    intro j t x h ht
    rw [List.flatMap_cons]
    cases j with
    | zero =>
      simp at h; subst h
      rw [List.getElem?_append_left (by simp [qc]; omega)]
      simp
    | succ j =>
      rw [List.getElem?_append_right (by simp [qc]; omega)]
      have e : (j + 1) * 3 + t - (qc y).length = j * 3 + t := by simp [qc]; omega
      rw [e]
      exact ih j t x (by simpa using h) ht
set_option maxRecDepth 5000 in
theorem OwnS.open' {w : World} {base : Nat} {ao : Option Addr} {c : Nat} {n : List (List UInt8)} (h : OwnS w base (.slice ao n.length c) n) : SlS w ao n := by
  obtain ⟨_, _, e, hs, _⟩ := h.open
  cases e; exact hs
set_option maxRecDepth 5000 in
theorem OwnQ.slQ {w : World} {base : Nat} {ao : Option Addr} {c : Nat} {l : List (Option Addr × Nat × M.Q)} (h : OwnQ w base (.slice ao l.length c) l) : SlQ w ao l := by
  intro hl
  rcases h.1.2 with ⟨_, h0⟩ | ⟨g, cap, cur, e, hb, hg, hn, hm, hs, ht⟩
  · omega
  · cases e
    refine ⟨g, rfl, (Array.getElem?_eq_some_iff.1 hg).1, fun j x hx => ?_⟩
    have hj : j < l.length := (List.getElem?_eq_some_iff.1 hx).1
    have hc : ∀ t, t < 3 → w.cell? ⟨g, j * 3 + t, none⟩ = (qc x)[t]? := by
      intro t ht3
      have h1 : w.cell? ⟨g, j * 3 + t, none⟩ = cur[j * 3 + t]? := cell_of_row w g (j * 3 + t) cur 28 (0, 0) hg
      rw [h1, ← flat_at l j t x hx ht3, ← ht, List.getElem?_take, if_pos (by omega)]
      simp
    refine ⟨?_, hc 1 (by omega), hc 2 (by omega), (h.2 x (List.mem_of_getElem? hx)).open' ⟩
    exact hc 0 (by omega)
set_option maxRecDepth 5000 in
theorem SlQ.below {w w' : World} {ao : Option Addr} {l : List (Option Addr × Nat × M.Q)} (h : SlQ w ao l) (hb : Below w.heap.size w w') : SlQ w' ao l := by
  intro hl
  obtain ⟨g, e, hg, hc⟩ := h hl
  refine ⟨g, e, Nat.lt_of_lt_of_le hg hb.size, fun j x hx => ?_⟩
  obtain ⟨h1, h2, h3, h4⟩ := hc j x hx
  exact ⟨(hb.cell (p := ⟨g, j * 3, none⟩) hg).trans h1, (hb.cell (p := ⟨g, j * 3 + 1, none⟩) hg).trans h2, (hb.cell (p := ⟨g, j * 3 + 2, none⟩) hg).trans h3, h4.below hb (Nat.le_refl _)⟩
end Go.Proofs.YtpgebiopckmgbabGreat

