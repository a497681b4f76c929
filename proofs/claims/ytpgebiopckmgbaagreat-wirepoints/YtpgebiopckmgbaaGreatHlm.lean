/- signethelp.Message, of two messages of the same questions. -/
import Derived.Test.YtpgebiopckmgbaaGreatHlp
import Derived.Deep.RegionHeld3
namespace Go.Proofs.YtpgebiopckmgbaaGreat
open Go.RowKit
/- a slice of questions, to be read -/
set_option maxRecDepth 5000 in
theorem cell_more {w : World} {a : Addr} {v : Value} (o : Obj) (h : w.cell? a = some v) : (w.alloc o).cell? a = some v := (World.cell?_alloc_lt w o a (block_lt_of_cell h)).trans h
set_option maxRecDepth 5000 in
theorem cell_far {W : World} {b g j o : Nat} {v : Value} (h : b ≠ g) : (W.setCell ⟨g, j, none⟩ v).cell? ⟨b, o, none⟩ = W.cell? ⟨b, o, none⟩ := World.cell?_of_block (w := W) (a := ⟨b, o, none⟩) (Below.heap_setCell _ _ _ _ h)
set_option maxRecDepth 5000 in
theorem cell_set3 {W : World} {b g o : Nat} {u v0 v1 v2 : Value} (h : b ≠ g) (hc : W.cell? ⟨b, o, none⟩ = some u) : (((W.setCell ⟨g, 0, none⟩ v0).setCell ⟨g, 1, none⟩ v1).setCell ⟨g, 2, none⟩ v2).cell? ⟨b, o, none⟩ = some u := by
  rw [cell_far h, cell_far h, cell_far h]; exact hc
def SlQ (w : World) (ao : Option Addr) (l : List (Option Addr × Nat × M.Q)) : Prop := 0 < l.length → ∃ g, ao = some ⟨g, 0, none⟩ ∧ g < w.heap.size ∧ ∀ j x, l[j]? = some x → w.cell? ⟨g, j * 3, none⟩ = some (.slice x.1 x.2.2.name.length x.2.1) ∧ w.cell? ⟨g, j * 3 + 1, none⟩ = some (.int .u16 (x.2.2.type : Int)) ∧ w.cell? ⟨g, j * 3 + 2, none⟩ = some (.int .u16 (x.2.2.cls : Int)) ∧ SlS w x.1 x.2.2.name
set_option maxRecDepth 5000 in
theorem flat_at (l : List (Option Addr × Nat × M.Q)) : ∀ (j t : Nat) (x : Option Addr × Nat × M.Q), l[j]? = some x → t < 3 → (l.flatMap qc)[j * 3 + t]? = (qc x)[t]? := by
  induction l with
  | nil => intro j t x h; simp at h
  | cons y r ih =>
    intro j t x h ht
    rw [List.flatMap_cons]
    cases j with
    | zero =>
      simp at h; subst h
      rw [List.getElem?_append_left (by simp [qc]; omega)]
      simp
    | succ j =>
      rw [List.getElem?_append_right (by simp [qc]; omega)]
      have e : (j + 1) * 3 + t - (qc y).length = j * 3 + t := by simp [qc]; omega
      rw [e]
      exact ih j t x (by simpa using h) ht
set_option maxRecDepth 5000 in
theorem OwnS.open' {w : World} {base : Nat} {ao : Option Addr} {c : Nat} {n : List (List UInt8)} (h : OwnS w base (.slice ao n.length c) n) : SlS w ao n := by
  obtain ⟨_, _, e, hs, _⟩ := h.open
  cases e; exact hs
set_option maxRecDepth 5000 in
theorem OwnQ.slQ {w : World} {base : Nat} {ao : Option Addr} {c : Nat} {l : List (Option Addr × Nat × M.Q)} (h : OwnQ w base (.slice ao l.length c) l) : SlQ w ao l := by
  intro hl
  rcases h.1.2 with ⟨_, h0⟩ | ⟨g, cap, cur, e, hb, hg, hn, hm, hs, ht⟩
  · omega
  · cases e
    refine ⟨g, rfl, (Array.getElem?_eq_some_iff.1 hg).1, fun j x hx => ?_⟩
    have hj : j < l.length := (List.getElem?_eq_some_iff.1 hx).1
    have hc : ∀ t, t < 3 → w.cell? ⟨g, j * 3 + t, none⟩ = (qc x)[t]? := by
      intro t ht3
      have h1 : w.cell? ⟨g, j * 3 + t, none⟩ = cur[j * 3 + t]? := cell_of_row w g (j * 3 + t) cur 54 (0, 0) hg
      rw [h1, ← flat_at l j t x hx ht3, ← ht, List.getElem?_take, if_pos (by omega)]
      simp
    refine ⟨?_, hc 1 (by omega), hc 2 (by omega), (h.2 x (List.mem_of_getElem? hx)).open' ⟩
    exact hc 0 (by omega)
set_option maxRecDepth 5000 in
theorem SlQ.below {w w' : World} {ao : Option Addr} {l : List (Option Addr × Nat × M.Q)} (h : SlQ w ao l) (hb : Below w.heap.size w w') : SlQ w' ao l := by
  intro hl
  obtain ⟨g, e, hg, hc⟩ := h hl
  refine ⟨g, e, Nat.lt_of_lt_of_le hg hb.size, fun j x hx => ?_⟩
  obtain ⟨h1, h2, h3, h4⟩ := hc j x hx
  exact ⟨(hb.cell (p := ⟨g, j * 3, none⟩) hg).trans h1, (hb.cell (p := ⟨g, j * 3 + 1, none⟩) hg).trans h2, (hb.cell (p := ⟨g, j * 3 + 2, none⟩) hg).trans h3, h4.below hb (Nat.le_refl _)⟩
set_option maxHeartbeats 1600000 in
set_option maxRecDepth 5000 in
theorem hMessage_same (i : Nat) (x1 x3 x4 x5 x6 : Bool) (x2 x7 : Int) (l l' : List (Option Addr × Nat × M.Q)) (a a' : Option Addr) (c c' : Nat) (w : World) (hs : SlQ w a l) (hs' : SlQ w a' l') (hll : l'.map (·.2.2) = l.map (·.2.2)) (hlen : l.length ≤ 100000) (hnm : ∀ x ∈ l, x.2.2.name.length ≤ 100000) :
    Calls Tryz.prog 13 #[.agg #[.int .u16 (i : Int), .bool x1, .int .i64 x2, .bool x3, .bool x4, .bool x5, .bool x6, .int .i64 x7, .slice a l.length c, .slice none 0 0, .slice none 0 0, .slice none 0 0, .bool false, .int .u16 0, .bool false], .agg #[.int .u16 (i : Int), .bool x1, .int .i64 x2, .bool x3, .bool x4, .bool x5, .bool x6, .int .i64 x7, .slice a' l.length c', .slice none 0 0, .slice none 0 0, .slice none 0 0, .bool false, .int .u16 0, .bool false]] w fun e w' => e = .returned (.bool true) ∧ Below w.heap.size w w' := by
  have HS := hide hs
  have HS' := hide hs'
  have HLL := hide hll
  have HNM := hide hnm
  have hl2 : l'.length = l.length := by have := congrArg List.length hll; simpa using this
  have HL2 := hide hl2
  clear hs hs' hll hnm hl2
  have R1 : Hid (RowAt ((w.alloc (.cells #[.int .u16 (i : Int), .bool x1, .int .i64 x2, .bool x3, .bool x4, .bool x5, .bool x6, .int .i64 x7, .slice a l.length c, .slice none 0 0, .slice none 0 0, .slice none 0 0, .bool false, .int .u16 0, .bool false] 28)).alloc (.cells #[.int .u16 (i : Int), .bool x1, .int .i64 x2, .bool x3, .bool x4, .bool x5, .bool x6, .int .i64 x7, .slice a' l.length c', .slice none 0 0, .slice none 0 0, .slice none 0 0, .bool false, .int .u16 0, .bool false] 28)) w.heap.size 28 #[.int .u16 (i : Int), .bool x1, .int .i64 x2, .bool x3, .bool x4, .bool x5, .bool x6, .int .i64 x7, .slice a l.length c, .slice none 0 0, .slice none 0 0, .slice none 0 0, .bool false, .int .u16 0, .bool false]) := (RowAt.new w 28 _).alloc _
  have R2 : Hid (RowAt ((w.alloc (.cells #[.int .u16 (i : Int), .bool x1, .int .i64 x2, .bool x3, .bool x4, .bool x5, .bool x6, .int .i64 x7, .slice a l.length c, .slice none 0 0, .slice none 0 0, .slice none 0 0, .bool false, .int .u16 0, .bool false] 28)).alloc (.cells #[.int .u16 (i : Int), .bool x1, .int .i64 x2, .bool x3, .bool x4, .bool x5, .bool x6, .int .i64 x7, .slice a' l.length c', .slice none 0 0, .slice none 0 0, .slice none 0 0, .bool false, .int .u16 0, .bool false] 28)) (w.heap.size + 1) 28 #[.int .u16 (i : Int), .bool x1, .int .i64 x2, .bool x3, .bool x4, .bool x5, .bool x6, .int .i64 x7, .slice a' l.length c', .slice none 0 0, .slice none 0 0, .slice none 0 0, .bool false, .int .u16 0, .bool false]) := by
    have h := RowAt.new (w.alloc (.cells #[.int .u16 (i : Int), .bool x1, .int .i64 x2, .bool x3, .bool x4, .bool x5, .bool x6, .int .i64 x7, .slice a l.length c, .slice none 0 0, .slice none 0 0, .slice none 0 0, .bool false, .int .u16 0, .bool false] 28)) 28 #[.int .u16 (i : Int), .bool x1, .int .i64 x2, .bool x3, .bool x4, .bool x5, .bool x6, .int .i64 x7, .slice a' l.length c', .slice none 0 0, .slice none 0 0, .slice none 0 0, .bool false, .int .u16 0, .bool false]
    rw [World.size_alloc] at h; exact h
  have B0 : Hid (Below w.heap.size w ((w.alloc (.cells #[.int .u16 (i : Int), .bool x1, .int .i64 x2, .bool x3, .bool x4, .bool x5, .bool x6, .int .i64 x7, .slice a l.length c, .slice none 0 0, .slice none 0 0, .slice none 0 0, .bool false, .int .u16 0, .bool false] 28)).alloc (.cells #[.int .u16 (i : Int), .bool x1, .int .i64 x2, .bool x3, .bool x4, .bool x5, .bool x6, .int .i64 x7, .slice a' l.length c', .slice none 0 0, .slice none 0 0, .slice none 0 0, .bool false, .int .u16 0, .bool false] 28))) := ((Below.refl w.heap.size w).alloc (Nat.le_refl _) _).alloc (by simp) _
  go_enter Tryz.func13, Tryz.ntmps13
  go_wp2
  go_loopw [5] (fun iv wx => ∃ j : Nat, iv = .int .i64 (j : Int) ∧ j ≤ l.length ∧ RowAt wx w.heap.size 28 #[.int .u16 (i : Int), .bool x1, .int .i64 x2, .bool x3, .bool x4, .bool x5, .bool x6, .int .i64 x7, .slice a l.length c, .slice none 0 0, .slice none 0 0, .slice none 0 0, .bool false, .int .u16 0, .bool false] ∧ RowAt wx (w.heap.size + 1) 28 #[.int .u16 (i : Int), .bool x1, .int .i64 x2, .bool x3, .bool x4, .bool x5, .bool x6, .int .i64 x7, .slice a' l.length c', .slice none 0 0, .slice none 0 0, .slice none 0 0, .bool false, .int .u16 0, .bool false] ∧ Below w.heap.size w wx) (fun iv _ => l.length - (intOf iv).toNat)
  case atStart => exact ⟨0, rfl, by omega, R1.out, R2.out, B0.out⟩
  case round =>
    clear R1 R2 B0
    obtain ⟨j, rfl, hj, hr1, hr2, hB⟩ := hrel
    by_cases hlt : j < l.length
    · obtain ⟨g, rfl, hg, hcell⟩ := (HS.out.below hB) (by omega)
      obtain ⟨g', rfl, hg', hcell'⟩ := (HS'.out.below hB) (by have := HL2.out; omega)
      obtain ⟨x, hx⟩ : ∃ x, l[j]? = some x := ⟨_, List.getElem?_eq_getElem hlt⟩
      obtain ⟨y, hy⟩ : ∃ y, l'[j]? = some y := ⟨_, List.getElem?_eq_getElem (by have := HL2.out; omega)⟩
      have hxy : y.2.2 = x.2.2 := by
        have h := congrArg (fun q => q[j]?) HLL.out
        simpa [hx, hy] using h
      obtain ⟨m3, m4, m5, sx⟩ := hcell j x hx
      obtain ⟨m6, m7, m8, sy⟩ := hcell' j y hy
      rw [hxy] at m6 m7 m8 sy
      have hnx := HNM.out x (List.mem_of_getElem? hx)
      obtain ⟨b1, c1, qy⟩ := y
      simp only at m6 m7 m8 sy hxy
      have m1 : wr.cell? ⟨w.heap.size, 8, none⟩ = some (.slice (some ⟨g, 0, none⟩) l.length c) := hr1.cell 8
      have m2 : wr.cell? ⟨w.heap.size + 1, 8, none⟩ = some (.slice (some ⟨g', 0, none⟩) l.length c') := hr2.cell 8
      have SX := hide sx
      have SY := hide sy
      have R1 := hide hr1
      have R2 := hide hr2
      have BB := hide hB
      have q1 : (j : Int) < (l.length : Int) := by omega
      have lw := hr2.lt
      clear hcell hcell' sx sy hr1 hr2 hB hx hy hxy qy
      have n1 : g ≠ wr.heap.size := by omega
      have n2 : g' ≠ wr.heap.size := by omega
      have n3 : g ≠ wr.heap.size + 1 := by omega
      have n4 : g' ≠ wr.heap.size + 1 := by omega
      have n5 : w.heap.size ≠ wr.heap.size := by omega
      have n6 : w.heap.size + 1 ≠ wr.heap.size := by omega
      have n7 : w.heap.size ≠ wr.heap.size + 1 := by omega
      have n8 : w.heap.size + 1 ≠ wr.heap.size + 1 := by omega
      go_wp2
      go_region_held3 (fun w' => w'.cell? ⟨w.heap.size, 8, none⟩ = some (.slice (some ⟨g, 0, none⟩) l.length c) ∧ w'.cell? ⟨w.heap.size + 1, 8, none⟩ = some (.slice (some ⟨g', 0, none⟩) l.length c') ∧ w'.cell? ⟨g, j * 3, none⟩ = some (.slice x.1 x.2.2.name.length x.2.1) ∧ w'.cell? ⟨g, j * 3 + 1, none⟩ = some (.int .u16 (x.2.2.type : Int)) ∧ w'.cell? ⟨g, j * 3 + 2, none⟩ = some (.int .u16 (x.2.2.cls : Int)) ∧ w'.cell? ⟨g', j * 3, none⟩ = some (.slice b1 x.2.2.name.length c1) ∧ w'.cell? ⟨g', j * 3 + 1, none⟩ = some (.int .u16 (x.2.2.type : Int)) ∧ w'.cell? ⟨g', j * 3 + 2, none⟩ = some (.int .u16 (x.2.2.cls : Int))) ((first | (with_reducible exact ⟨m1, m2, m3, m4, m5, m6, m7, m8⟩) | exact ⟨m1, m2, m3, m4, m5, m6, m7, m8⟩ | exact ⟨cell_more _ m1, cell_more _ m2, cell_more _ m3, cell_more _ m4, cell_more _ m5, cell_more _ m6, cell_more _ m7, cell_more _ m8⟩ | exact ⟨cell_more _ (cell_more _ m1), cell_more _ (cell_more _ m2), cell_more _ (cell_more _ m3), cell_more _ (cell_more _ m4), cell_more _ (cell_more _ m5), cell_more _ (cell_more _ m6), cell_more _ (cell_more _ m7), cell_more _ (cell_more _ m8)⟩ | exact ⟨cell_set3 n5 (cell_more _ (cell_more _ m1)), cell_set3 n6 (cell_more _ (cell_more _ m2)), cell_set3 n1 (cell_more _ (cell_more _ m3)), cell_set3 n1 (cell_more _ (cell_more _ m4)), cell_set3 n1 (cell_more _ (cell_more _ m5)), cell_set3 n2 (cell_more _ (cell_more _ m6)), cell_set3 n2 (cell_more _ (cell_more _ m7)), cell_set3 n2 (cell_more _ (cell_more _ m8))⟩ | exact ⟨cell_set3 n7 (cell_more _ (cell_more _ m1)), cell_set3 n8 (cell_more _ (cell_more _ m2)), cell_set3 n3 (cell_more _ (cell_more _ m3)), cell_set3 n3 (cell_more _ (cell_more _ m4)), cell_set3 n3 (cell_more _ (cell_more _ m5)), cell_set3 n4 (cell_more _ (cell_more _ m6)), cell_set3 n4 (cell_more _ (cell_more _ m7)), cell_set3 n4 (cell_more _ (cell_more _ m8))⟩ | exact ⟨cell_set3 n7 (cell_set3 n5 (cell_more _ (cell_more _ m1))), cell_set3 n8 (cell_set3 n6 (cell_more _ (cell_more _ m2))), cell_set3 n3 (cell_set3 n1 (cell_more _ (cell_more _ m3))), cell_set3 n3 (cell_set3 n1 (cell_more _ (cell_more _ m4))), cell_set3 n3 (cell_set3 n1 (cell_more _ (cell_more _ m5))), cell_set3 n4 (cell_set3 n2 (cell_more _ (cell_more _ m6))), cell_set3 n4 (cell_set3 n2 (cell_more _ (cell_more _ m7))), cell_set3 n4 (cell_set3 n2 (cell_more _ (cell_more _ m8)))⟩ | exact ⟨cell_set3 n5 (cell_set3 n7 (cell_more _ (cell_more _ m1))), cell_set3 n6 (cell_set3 n8 (cell_more _ (cell_more _ m2))), cell_set3 n1 (cell_set3 n3 (cell_more _ (cell_more _ m3))), cell_set3 n1 (cell_set3 n3 (cell_more _ (cell_more _ m4))), cell_set3 n1 (cell_set3 n3 (cell_more _ (cell_more _ m5))), cell_set3 n2 (cell_set3 n4 (cell_more _ (cell_more _ m6))), cell_set3 n2 (cell_set3 n4 (cell_more _ (cell_more _ m7))), cell_set3 n2 (cell_set3 n4 (cell_more _ (cell_more _ m8)))⟩)) (fail)
      · have bb : Below wr.heap.size wr (((wr.alloc (.cells #[.slice x.1 x.2.2.name.length x.2.1, .int .u16 (x.2.2.type : Int), .int .u16 (x.2.2.cls : Int)] 54)).alloc (.cells #[.slice b1 x.2.2.name.length c1, .int .u16 (x.2.2.type : Int), .int .u16 (x.2.2.cls : Int)] 54)).drew) := (((Below.refl wr.heap.size wr).alloc (Nat.le_refl _) (.cells #[.slice x.1 x.2.2.name.length x.2.1, .int .u16 (x.2.2.type : Int), .int .u16 (x.2.2.cls : Int)] 54)).alloc (by simp) (.cells #[.slice b1 x.2.2.name.length c1, .int .u16 (x.2.2.type : Int), .int .u16 (x.2.2.cls : Int)] 54)).drew
        have p1 : RowAt (((wr.alloc (.cells #[.slice x.1 x.2.2.name.length x.2.1, .int .u16 (x.2.2.type : Int), .int .u16 (x.2.2.cls : Int)] 54)).alloc (.cells #[.slice b1 x.2.2.name.length c1, .int .u16 (x.2.2.type : Int), .int .u16 (x.2.2.cls : Int)] 54)).drew) wr.heap.size 54 #[.slice x.1 x.2.2.name.length x.2.1, .int .u16 (x.2.2.type : Int), .int .u16 (x.2.2.cls : Int)] := ((RowAt.new wr 54 _).alloc (.cells #[.slice b1 x.2.2.name.length c1, .int .u16 (x.2.2.type : Int), .int .u16 (x.2.2.cls : Int)] 54))
        have p2 : RowAt (((wr.alloc (.cells #[.slice x.1 x.2.2.name.length x.2.1, .int .u16 (x.2.2.type : Int), .int .u16 (x.2.2.cls : Int)] 54)).alloc (.cells #[.slice b1 x.2.2.name.length c1, .int .u16 (x.2.2.type : Int), .int .u16 (x.2.2.cls : Int)] 54)).drew) (wr.heap.size + 1) 54 #[.slice b1 x.2.2.name.length c1, .int .u16 (x.2.2.type : Int), .int .u16 (x.2.2.cls : Int)] := by
          have h := RowAt.new (wr.alloc (.cells #[.slice x.1 x.2.2.name.length x.2.1, .int .u16 (x.2.2.type : Int), .int .u16 (x.2.2.cls : Int)] 54)) 54 #[.slice b1 x.2.2.name.length c1, .int .u16 (x.2.2.type : Int), .int .u16 (x.2.2.cls : Int)]
          rw [World.size_alloc] at h; exact h
        have RA := R1.out.below bb R1.out.lt
        have RB := R2.out.below bb R2.out.lt
        have SA := hide (SX.out.below bb (Nat.le_refl _))
        have SB := hide (SY.out.below bb (Nat.le_refl _))
        have BC := BB.out.trans (bb.mono BB.out.size)
        clear bb m1 m2 m3 m4 m5 m6 m7 m8 SX SY R1 R2 BB
        generalize (((wr.alloc (.cells #[.slice x.1 x.2.2.name.length x.2.1, .int .u16 (x.2.2.type : Int), .int .u16 (x.2.2.cls : Int)] 54)).alloc (.cells #[.slice b1 x.2.2.name.length c1, .int .u16 (x.2.2.type : Int), .int .u16 (x.2.2.cls : Int)] 54)).drew) = W at p1 p2 RA RB SA SB BC ⊢
        have u0 : W.cell? ⟨wr.heap.size, 0, none⟩ = some (.slice x.1 x.2.2.name.length x.2.1) := p1.cell 0
        have v0 : W.cell? ⟨wr.heap.size + 1, 0, none⟩ = some (.slice b1 x.2.2.name.length c1) := p2.cell 0
        have u1 : W.cell? ⟨wr.heap.size, 1, none⟩ = some (.int .u16 (x.2.2.type : Int)) := p1.cell 1
        have v1 : W.cell? ⟨wr.heap.size + 1, 1, none⟩ = some (.int .u16 (x.2.2.type : Int)) := p2.cell 1
        have u2 : W.cell? ⟨wr.heap.size, 2, none⟩ = some (.int .u16 (x.2.2.cls : Int)) := p1.cell 2
        have v2 : W.cell? ⟨wr.heap.size + 1, 2, none⟩ = some (.int .u16 (x.2.2.cls : Int)) := p2.cell 2
        have P1 := hide p1
        have P2 := hide p2
        have HA := hide RA
        have HB := hide RB
        have HC := hide BC
        clear p1 p2 RA RB BC
        go_wp2_with fail
        refine (name_same x.2.2.name x.1 b1 x.2.2.name.length x.2.2.name.length x.2.1 c1 _ rfl rfl (by exact SA.out) (by exact SB.out) (by omega)).mono ?_
        rintro e w5 ⟨rfl, hm5⟩
        have b5 := drew_below W.heap.size hm5
        have Q1 := P1.out.below b5 P1.out.lt
        have Q2 := P2.out.below b5 P2.out.lt
        have HA5 := hide (HA.out.below b5 HA.out.lt)
        have HB5 := hide (HB.out.below b5 HB.out.lt)
        have HC5 := hide (HC.out.trans (b5.mono HC.out.size))
        clear hm5 b5 u0 u1 u2 v0 v1 v2 HA HB HC P1 P2
        have u0 : w5.cell? ⟨wr.heap.size, 0, none⟩ = some (.slice x.1 x.2.2.name.length x.2.1) := Q1.cell 0
        have v0 : w5.cell? ⟨wr.heap.size + 1, 0, none⟩ = some (.slice b1 x.2.2.name.length c1) := Q2.cell 0
        have u1 : w5.cell? ⟨wr.heap.size, 1, none⟩ = some (.int .u16 (x.2.2.type : Int)) := Q1.cell 1
        have v1 : w5.cell? ⟨wr.heap.size + 1, 1, none⟩ = some (.int .u16 (x.2.2.type : Int)) := Q2.cell 1
        have u2 : w5.cell? ⟨wr.heap.size, 2, none⟩ = some (.int .u16 (x.2.2.cls : Int)) := Q1.cell 2
        have v2 : w5.cell? ⟨wr.heap.size + 1, 2, none⟩ = some (.int .u16 (x.2.2.cls : Int)) := Q2.cell 2
        clear Q1 Q2
        go_wp2
        go_roundw
        case rel => exact ⟨j + 1, by go_num, by omega, HA5.out, HB5.out, HC5.out⟩
        case measure => simp [intOf]; omega
      · have bb : Below wr.heap.size wr (((wr.alloc (.cells #[.slice b1 x.2.2.name.length c1, .int .u16 (x.2.2.type : Int), .int .u16 (x.2.2.cls : Int)] 54)).alloc (.cells #[.slice x.1 x.2.2.name.length x.2.1, .int .u16 (x.2.2.type : Int), .int .u16 (x.2.2.cls : Int)] 54)).drew) := (((Below.refl wr.heap.size wr).alloc (Nat.le_refl _) (.cells #[.slice b1 x.2.2.name.length c1, .int .u16 (x.2.2.type : Int), .int .u16 (x.2.2.cls : Int)] 54)).alloc (by simp) (.cells #[.slice x.1 x.2.2.name.length x.2.1, .int .u16 (x.2.2.type : Int), .int .u16 (x.2.2.cls : Int)] 54)).drew
        have p1 : RowAt (((wr.alloc (.cells #[.slice b1 x.2.2.name.length c1, .int .u16 (x.2.2.type : Int), .int .u16 (x.2.2.cls : Int)] 54)).alloc (.cells #[.slice x.1 x.2.2.name.length x.2.1, .int .u16 (x.2.2.type : Int), .int .u16 (x.2.2.cls : Int)] 54)).drew) wr.heap.size 54 #[.slice b1 x.2.2.name.length c1, .int .u16 (x.2.2.type : Int), .int .u16 (x.2.2.cls : Int)] := ((RowAt.new wr 54 _).alloc (.cells #[.slice x.1 x.2.2.name.length x.2.1, .int .u16 (x.2.2.type : Int), .int .u16 (x.2.2.cls : Int)] 54))
        have p2 : RowAt (((wr.alloc (.cells #[.slice b1 x.2.2.name.length c1, .int .u16 (x.2.2.type : Int), .int .u16 (x.2.2.cls : Int)] 54)).alloc (.cells #[.slice x.1 x.2.2.name.length x.2.1, .int .u16 (x.2.2.type : Int), .int .u16 (x.2.2.cls : Int)] 54)).drew) (wr.heap.size + 1) 54 #[.slice x.1 x.2.2.name.length x.2.1, .int .u16 (x.2.2.type : Int), .int .u16 (x.2.2.cls : Int)] := by
          have h := RowAt.new (wr.alloc (.cells #[.slice b1 x.2.2.name.length c1, .int .u16 (x.2.2.type : Int), .int .u16 (x.2.2.cls : Int)] 54)) 54 #[.slice x.1 x.2.2.name.length x.2.1, .int .u16 (x.2.2.type : Int), .int .u16 (x.2.2.cls : Int)]
          rw [World.size_alloc] at h; exact h
        have RA := R1.out.below bb R1.out.lt
        have RB := R2.out.below bb R2.out.lt
        have SA := hide (SX.out.below bb (Nat.le_refl _))
        have SB := hide (SY.out.below bb (Nat.le_refl _))
        have BC := BB.out.trans (bb.mono BB.out.size)
        clear bb m1 m2 m3 m4 m5 m6 m7 m8 SX SY R1 R2 BB
        generalize (((wr.alloc (.cells #[.slice b1 x.2.2.name.length c1, .int .u16 (x.2.2.type : Int), .int .u16 (x.2.2.cls : Int)] 54)).alloc (.cells #[.slice x.1 x.2.2.name.length x.2.1, .int .u16 (x.2.2.type : Int), .int .u16 (x.2.2.cls : Int)] 54)).drew) = W at p1 p2 RA RB SA SB BC ⊢
        have u0 : W.cell? ⟨wr.heap.size, 0, none⟩ = some (.slice b1 x.2.2.name.length c1) := p1.cell 0
        have v0 : W.cell? ⟨wr.heap.size + 1, 0, none⟩ = some (.slice x.1 x.2.2.name.length x.2.1) := p2.cell 0
        have u1 : W.cell? ⟨wr.heap.size, 1, none⟩ = some (.int .u16 (x.2.2.type : Int)) := p1.cell 1
        have v1 : W.cell? ⟨wr.heap.size + 1, 1, none⟩ = some (.int .u16 (x.2.2.type : Int)) := p2.cell 1
        have u2 : W.cell? ⟨wr.heap.size, 2, none⟩ = some (.int .u16 (x.2.2.cls : Int)) := p1.cell 2
        have v2 : W.cell? ⟨wr.heap.size + 1, 2, none⟩ = some (.int .u16 (x.2.2.cls : Int)) := p2.cell 2
        have P1 := hide p1
        have P2 := hide p2
        have HA := hide RA
        have HB := hide RB
        have HC := hide BC
        clear p1 p2 RA RB BC
        go_wp2_with fail
        refine (name_same x.2.2.name x.1 b1 x.2.2.name.length x.2.2.name.length x.2.1 c1 _ rfl rfl (by exact SA.out) (by exact SB.out) (by omega)).mono ?_
        rintro e w5 ⟨rfl, hm5⟩
        have b5 := drew_below W.heap.size hm5
        have Q1 := P1.out.below b5 P1.out.lt
        have Q2 := P2.out.below b5 P2.out.lt
        have HA5 := hide (HA.out.below b5 HA.out.lt)
        have HB5 := hide (HB.out.below b5 HB.out.lt)
        have HC5 := hide (HC.out.trans (b5.mono HC.out.size))
        clear hm5 b5 u0 u1 u2 v0 v1 v2 HA HB HC P1 P2
        have u0 : w5.cell? ⟨wr.heap.size, 0, none⟩ = some (.slice b1 x.2.2.name.length c1) := Q1.cell 0
        have v0 : w5.cell? ⟨wr.heap.size + 1, 0, none⟩ = some (.slice x.1 x.2.2.name.length x.2.1) := Q2.cell 0
        have u1 : w5.cell? ⟨wr.heap.size, 1, none⟩ = some (.int .u16 (x.2.2.type : Int)) := Q1.cell 1
        have v1 : w5.cell? ⟨wr.heap.size + 1, 1, none⟩ = some (.int .u16 (x.2.2.type : Int)) := Q2.cell 1
        have u2 : w5.cell? ⟨wr.heap.size, 2, none⟩ = some (.int .u16 (x.2.2.cls : Int)) := Q1.cell 2
        have v2 : w5.cell? ⟨wr.heap.size + 1, 2, none⟩ = some (.int .u16 (x.2.2.cls : Int)) := Q2.cell 2
        clear Q1 Q2
        go_wp2
        go_roundw
        case rel => exact ⟨j + 1, by go_num, by omega, HA5.out, HB5.out, HC5.out⟩
        case measure => simp [intOf]; omega
    · obtain rfl : j = l.length := by omega
      have d9 : wr.cell? ⟨w.heap.size, 9, none⟩ = some (.slice none 0 0) := hr1.cell 9
      have d10 : wr.cell? ⟨w.heap.size, 10, none⟩ = some (.slice none 0 0) := hr1.cell 10
      have d11 : wr.cell? ⟨w.heap.size, 11, none⟩ = some (.slice none 0 0) := hr1.cell 11
      have e9 : wr.cell? ⟨w.heap.size + 1, 9, none⟩ = some (.slice none 0 0) := hr2.cell 9
      have e10 : wr.cell? ⟨w.heap.size + 1, 10, none⟩ = some (.slice none 0 0) := hr2.cell 10
      have e11 : wr.cell? ⟨w.heap.size + 1, 11, none⟩ = some (.slice none 0 0) := hr2.cell 11
      have m1 : wr.cell? ⟨w.heap.size, 8, none⟩ = some (.slice a l.length c) := hr1.cell 8
      have BB := hide hB
      clear hr1 hr2 hB
      go_wp2_with fail
      refine (hRecords_nil _).mono ?_
      rintro e w3 ⟨rfl, rfl⟩
      go_wp2_with fail
      refine (hRecords_nil _).mono ?_
      rintro e w3 ⟨rfl, rfl⟩
      go_wp2_with fail
      refine (hRecords_nil _).mono ?_
      rintro e w3 ⟨rfl, rfl⟩
      go_wp2
      go_ret
      exact ⟨rfl, BB.out⟩
end Go.Proofs.YtpgebiopckmgbaaGreat
