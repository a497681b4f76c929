/- slices.Sort at uint16: order2Ordered, medianOrdered, medianAdjacentOrdered, choosePivotOrdered: which pivot is left open, but that it lies within. -/
import Derived.Test.YtikjhacgihohiaaDoorSrtC
namespace Go.Proofs.YtikjhacgihohiaaDoor
open Go.RowKit Go.Sort Q
namespace Q
/- the counter's cell, beside the row -/
structure Cn (w0 : World) (g o N : Nat) (d : Array UInt16) (c : Nat) (W : World) : Prop where
  st : St w0 g o N d W
  cell : ∃ z : Int, W.cell? ⟨c, 0, none⟩ = some (.int .i64 z)
  frozen : W.frozen? ⟨c, 0, none⟩ = false
  new : w0.heap.size ≤ c
  lt : c < W.heap.size
theorem Cn.drewN {w0 W : World} {g o N c : Nat} {d : Array UInt16} (h : Cn w0 g o N d c W) (q : Nat) : Cn w0 g o N d c (W.drewN q) := ⟨h.st.drewN q, h.cell, h.frozen, h.new, h.lt⟩
theorem Cn.bump {w0 W : World} {g o N c : Nat} {d : Array UInt16} (h : Cn w0 g o N d c W) (z : Int) : Cn w0 g o N d c (W.setCell ⟨c, 0, none⟩ (.int .i64 z)) := by
  obtain ⟨z0, hz⟩ := h.cell
  exact ⟨⟨h.st.size, h.st.sw.setCell_new c 0 _ h.new⟩, ⟨z, World.cell?_setCell_same _ _ _ hz⟩, by rw [World.frozen?_setCell]; exact h.frozen, h.new, by simpa using h.lt⟩
theorem Cn.start {w0 W : World} {g o N : Nat} {d : Array UInt16} (h : St w0 g o N d W) (T : TypeId) : Cn w0 g o N d W.heap.size (W.alloc (.cells #[.int .i64 0] T)) :=
  ⟨⟨h.size, h.sw.alloc _⟩, ⟨0, by simp⟩, by simp, h.sw.le, by simp⟩
end Q
set_option maxHeartbeats 3200000 in
theorem ord2_any (w0 w : World) (g o N cap a b c : Nat) (d : Array UInt16) (R : Rw w0 g o N) (C : Cn w0 g o N d c w) (ha : a < N) (hb : b < N) :
    Calls Tryd.prog 71 #[.slice (some ⟨g, o, none⟩) N cap, .int .i64 a, .int .i64 b, .pointer (some ⟨c, 0, none⟩)] w fun e w' => ∃ x y : Nat, e = .returned (.tuple #[.int .i64 x, .int .i64 y]) ∧ ((x = a ∧ y = b) ∨ (x = b ∧ y = a)) ∧ Cn w0 g o N d c w' := by
  have hsm := R.small
  obtain ⟨G, HG, hc, hf⟩ := C.st.look R
  obtain ⟨z, hz⟩ := C.cell
  have hfz := C.frozen
  have HS : Hid _ := C
  clear C
  go_enter Tryd.func71, Tryd.ntmps71
  go_wp2
  go_quiet (first | (go_at_call 53; refine Calls.quiet_of_same (less_any _ _ _)))
  go_wp2
  · go_ret2
    exact ⟨b, a, rfl, Or.inr ⟨rfl, rfl⟩, (HS.out.drewN _).bump _⟩
  · go_ret2
    exact ⟨a, b, rfl, Or.inl ⟨rfl, rfl⟩, HS.out.drewN _⟩
set_option maxHeartbeats 3200000 in
theorem med_any (w0 w : World) (g o N cap a b k c : Nat) (d : Array UInt16) (R : Rw w0 g o N) (C : Cn w0 g o N d c w) (ha : a < N) (hb : b < N) (hk : k < N) :
    Calls Tryd.prog 65 #[.slice (some ⟨g, o, none⟩) N cap, .int .i64 a, .int .i64 b, .int .i64 k, .pointer (some ⟨c, 0, none⟩)] w fun e w' => ∃ x : Nat, e = .returned (.int .i64 x) ∧ (x = a ∨ x = b ∨ x = k) ∧ Cn w0 g o N d c w' := by
  go_enter Tryd.func65, Tryd.ntmps65
  go_wp2_with fail
  go_at_call 71
  refine (ord2_any w0 _ g o N cap a b c d R C ha hb).mono ?_
  rintro e w1 ⟨x1, y1, rfl, h1, C1⟩
  have hx1 : x1 < N := by omega
  have hy1 : y1 < N := by omega
  go_wp2_with fail
  go_at_call 71
  refine (ord2_any w0 _ g o N cap y1 k c d R C1 hy1 hk).mono ?_
  rintro e w2 ⟨x2, y2, rfl, h2, C2⟩
  have hx2 : x2 < N := by omega
  go_wp2_with fail
  go_at_call 71
  refine (ord2_any w0 _ g o N cap x1 x2 c d R C2 hx1 hx2).mono ?_
  rintro e w3 ⟨x3, y3, rfl, h3, C3⟩
  have HH : Hid (y3 = a ∨ y3 = b ∨ y3 = k) := by show y3 = a ∨ y3 = b ∨ y3 = k; omega
  clear h1 h2 h3
  go_wp2_with fail
  go_ret
  exact ⟨y3, rfl, HH.out, C3⟩
set_option maxHeartbeats 3200000 in
theorem medadj_any (w0 w : World) (g o N cap a c : Nat) (d : Array UInt16) (R : Rw w0 g o N) (C : Cn w0 g o N d c w) (ha : 0 < a) (hb : a + 1 < N) :
    Calls Tryd.prog 64 #[.slice (some ⟨g, o, none⟩) N cap, .int .i64 a, .pointer (some ⟨c, 0, none⟩)] w fun e w' => ∃ x : Nat, e = .returned (.int .i64 x) ∧ a - 1 ≤ x ∧ x ≤ a + 1 ∧ Cn w0 g o N d c w' := by
  have hsm := R.small
  go_enter Tryd.func64, Tryd.ntmps64
  go_wp2_with fail
  go_at_call 65
  rw [show (a : Int) - 1 = ((a - 1 : Nat) : Int) by omega, show (a : Int) + 1 = ((a + 1 : Nat) : Int) by omega]
  refine (med_any w0 _ g o N cap (a - 1) a (a + 1) c d R C (by omega) (by omega) (by omega)).mono ?_
  rintro e w1 ⟨x1, rfl, h1, C1⟩
  have HH : Hid (a - 1 ≤ x1 ∧ x1 ≤ a + 1) := by show a - 1 ≤ x1 ∧ x1 ≤ a + 1; omega
  clear h1
  go_wp2_with fail
  go_ret
  exact ⟨x1, rfl, HH.out.1, HH.out.2, C1⟩
set_option maxHeartbeats 6400000 in
theorem piv_any (w0 w : World) (g o N cap a b : Nat) (d : Array UInt16) (R : Rw w0 g o N) (h : St w0 g o N d w) (hab : a + 12 < b) (hb : b ≤ N) :
    Calls Tryd.prog 50 #[.slice (some ⟨g, o, none⟩) N cap, .int .i64 a, .int .i64 b] w fun e w' => ∃ (x : Nat) (z : Int), e = .returned (.tuple #[.int .i64 x, .int .i64 z]) ∧ a ≤ x ∧ x < b ∧ St w0 g o N d w' := by
  have hsm := R.small
  obtain ⟨L, hL⟩ : ∃ L : Nat, b - a = L := ⟨_, rfl⟩
  obtain ⟨q, hq⟩ : ∃ q : Nat, L / 4 = q := ⟨_, rfl⟩
  have e0 : (b : Int) - (a : Int) = (L : Int) := by omega
  have e1 : (L : Int) / 4 = (q : Int) := by omega
  have e2 : Int.tdiv (L : Int) 4 = (q : Int) := by rw [Int.tdiv_eq_ediv_of_nonneg (by omega)]; exact e1
  have h8 : (8 : Int) ≤ (L : Int) := by omega
  have HL : Hid (L = b - a ∧ q = L / 4) := ⟨hL.symm, hq.symm⟩
  have b1 : a + q * 3 + 1 < b ∧ 3 ≤ q := by omega
  obtain ⟨b1, b2⟩ := b1
  have hLN : L ≤ N := by omega
  clear hL hq
  obtain ⟨i, hi⟩ : ∃ i : Nat, a + q = i := ⟨_, rfl⟩
  obtain ⟨j, hj⟩ : ∃ i : Nat, a + q * 2 = i := ⟨_, rfl⟩
  obtain ⟨k, hk⟩ : ∃ i : Nat, a + q * 3 = i := ⟨_, rfl⟩
  have ei : (a : Int) + (q : Int) = (i : Int) := by omega
  have ej : (a : Int) + (q : Int) * 2 = (j : Int) := by omega
  have ek : (a : Int) + (q : Int) * 3 = (k : Int) := by omega
  have hB : Hid (a + 1 ≤ i ∧ i + 2 ≤ j ∧ j + 2 ≤ k ∧ k + 1 < b) := by show a + 1 ≤ i ∧ i + 2 ≤ j ∧ j + 2 ≤ k ∧ k + 1 < b; omega
  clear hi hj hk
  have C := Cn.start h 3
  go_enter Tryd.func50, Tryd.ntmps50
  by_cases h50 : 50 ≤ L
  · have e50 : (50 : Int) ≤ (L : Int) := by omega
    go_wp2_with fail
    refine (medadj_any w0 _ g o N cap i _ d R C (by have := hB.out; omega) (by have := hB.out; omega)).mono ?_
    rintro e w1 ⟨x1, rfl, h1, h1', C1⟩
    generalize w.heap.size = c at C1
    go_wp2_with fail
    refine (medadj_any w0 _ g o N cap j _ d R C1 (by have := hB.out; omega) (by have := hB.out; omega)).mono ?_
    rintro e w2 ⟨x2, rfl, h2, h2', C2⟩
    go_wp2_with fail
    refine (medadj_any w0 _ g o N cap k _ d R C2 (by have := hB.out; omega) (by have := hB.out; omega)).mono ?_
    rintro e w3 ⟨x3, rfl, h3, h3', C3⟩
    go_wp2_with fail
    refine (med_any w0 _ g o N cap x1 x2 x3 _ d R C3 (by have := hB.out; omega) (by have := hB.out; omega) (by have := hB.out; omega)).mono ?_
    rintro e w4 ⟨x, rfl, hx, C4⟩
    have HX : Hid (a ≤ x ∧ x < b) := by have := hB.out; show a ≤ x ∧ x < b; omega
    clear hx C C1 C2 C3 h
    obtain ⟨z, hz⟩ := C4.cell
    go_wp2
    all_goals
      go_ret2
      exact ⟨x, _, rfl, HX.out.1, HX.out.2, C4.st⟩
  · have e50 : ¬ (50 : Int) ≤ (L : Int) := by omega
    go_wp2_with fail
    refine (med_any w0 _ g o N cap i j k _ d R C (by have := hB.out; omega) (by have := hB.out; omega) (by have := hB.out; omega)).mono ?_
    rintro e w4 ⟨x, rfl, hx, C4⟩
    have HX : Hid (a ≤ x ∧ x < b) := by have := hB.out; show a ≤ x ∧ x < b; omega
    clear hx C h
    obtain ⟨z, hz⟩ := C4.cell
    go_wp2
    all_goals
      go_ret2
      exact ⟨x, _, rfl, HX.out.1, HX.out.2, C4.st⟩
end Go.Proofs.YtikjhacgihohiaaDoor
