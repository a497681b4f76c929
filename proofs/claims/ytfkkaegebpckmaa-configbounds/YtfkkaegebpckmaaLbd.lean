/- The law ConfigBounds. -/
import Derived.Test.YtfkkaegebpckmaaKno
namespace Go.Proofs.Ytfkkaegebpckmaa
open Go.RowKit
set_option maxRecDepth 5000 in
theorem bnd0i : C.Good (C.Cf.mk C.seat.apex 60 1 8 0 300 100 20 60 [] 0 6 1400) := by unfold C.Good C.Times; decide +kernel
set_option maxRecDepth 5000 in
theorem bnd1i : C.Good (C.Cf.mk C.seat.apex 20 1 8 0 300 81 20 60 [] 0 6 1400) := by unfold C.Good C.Times; decide +kernel
set_option maxRecDepth 5000 in
theorem bnd2i : C.Good (C.Cf.mk C.seat.apex 20 1 8 0 121 100 20 60 [] 0 6 1400) := by unfold C.Good C.Times; decide +kernel
set_option maxRecDepth 5000 in
theorem bnd3i : C.Good (C.Cf.mk C.seat.apex 20 1 8 0 300 100 20 60 (List.replicate 16 0) 0 6 1400) := by unfold C.Good C.Times; decide +kernel
set_option maxRecDepth 5000 in
theorem bnd4i : C.Good (C.Cf.mk C.seat.apex 20 1 8 0 300 100 20 60 [] 50 6 1400) := by unfold C.Good C.Times; decide +kernel
set_option maxRecDepth 5000 in
theorem bnd5i : C.Good (C.Cf.mk C.seat.apex 20 1 8 0 300 100 20 60 [] 0 10 1400) := by unfold C.Good C.Times; decide +kernel
set_option maxRecDepth 5000 in
theorem bnd6i : C.Good (C.Cf.mk C.seat.apex 20 1 8 0 300 100 20 60 [] 0 6 512) := by unfold C.Good C.Times; decide +kernel
set_option maxRecDepth 5000 in
theorem bnd7i : C.Good (C.Cf.mk C.seat.apex 20 1 16777216 0 300 100 20 60 [] 0 6 1400) := by unfold C.Good C.Times; decide +kernel
set_option maxRecDepth 5000 in
theorem bnd8i : C.Good (C.Cf.mk C.seat.apex 1 1 8 0 300 100 20 60 [] 0 6 1400) := by unfold C.Good C.Times; decide +kernel
set_option maxRecDepth 5000 in
theorem bnd0o : ¬ C.Good (C.Cf.mk C.seat.apex 61 1 8 0 300 100 20 60 [] 0 6 1400) := by unfold C.Good C.Times; decide +kernel
set_option maxRecDepth 5000 in
theorem bnd1o : ¬ C.Good (C.Cf.mk C.seat.apex 20 1 8 0 300 80 20 60 [] 0 6 1400) := by unfold C.Good C.Times; decide +kernel
set_option maxRecDepth 5000 in
theorem bnd2o : ¬ C.Good (C.Cf.mk C.seat.apex 20 1 8 0 120 100 20 60 [] 0 6 1400) := by unfold C.Good C.Times; decide +kernel
set_option maxRecDepth 5000 in
theorem bnd3o : ¬ C.Good (C.Cf.mk C.seat.apex 20 1 8 0 300 100 20 60 (List.replicate 17 0) 0 6 1400) := by unfold C.Good C.Times; decide +kernel
set_option maxRecDepth 5000 in
theorem bnd4o : ¬ C.Good (C.Cf.mk C.seat.apex 20 1 8 0 300 100 20 60 [] 51 6 1400) := by unfold C.Good C.Times; decide +kernel
set_option maxRecDepth 5000 in
theorem bnd5o : ¬ C.Good (C.Cf.mk C.seat.apex 20 1 8 0 300 100 20 60 [] 0 11 1400) := by unfold C.Good C.Times; decide +kernel
set_option maxRecDepth 5000 in
theorem bnd6o : ¬ C.Good (C.Cf.mk C.seat.apex 20 1 8 0 300 100 20 60 [] 0 6 511) := by unfold C.Good C.Times; decide +kernel
set_option maxRecDepth 5000 in
theorem bnd7o : ¬ C.Good (C.Cf.mk C.seat.apex 20 1 16777217 0 300 100 20 60 [] 0 6 1400) := by unfold C.Good C.Times; decide +kernel
set_option maxRecDepth 5000 in
theorem bnd8o : ¬ C.Good (C.Cf.mk C.seat.apex 0 1 8 0 300 100 20 60 [] 0 6 1400) := by unfold C.Good C.Times; decide +kernel
set_option maxHeartbeats 8000000 in
set_option maxRecDepth 5000 in
theorem bounds_walk (k : Int) (ov : Bool) (w : World) :
    Calls Try.prog 6 #[.int .i64 k, .bool ov] w fun e w' => e = .returned (.bool true) ∧ Below w.heap.size w w' := by
  cases ov
  · go_enter Try.func6, Try.ntmps6
    go_wp2_with (go_at_call 7; refine (known_any _).mono ?_; rintro e w1 ⟨rfl, hb1⟩; have B1 := hide hb1; clear hb1)
    refine (seat_any _).mono ?_
    rintro e w2 ⟨a0, a9, c0, c9, rfl, hs0, _, hb2⟩
    have B2 := hide (B1.out.trans (hb2.mono B1.out.size))
    have S0 := hide hs0
    clear hs0 hb2
    go_wp2_with fail
    refine (place_any k 9 _ (by omega) (by omega)).mono ?_
    rintro e w3 ⟨r, hr, rfl, hw3⟩
    rw [hw3]
    clear hw3 w3
    rcases (show r = 0 ∨ r = 1 ∨ r = 2 ∨ r = 3 ∨ r = 4 ∨ r = 5 ∨ r = 6 ∨ r = 7 ∨ r = 8 by omega) with rfl | rfl | rfl | rfl | rfl | rfl | rfl | rfl | rfl
    · go_wp2_with (go_at_call 9; refine (cCheck_any (C.Cf.mk C.seat.apex 60 1 8 0 300 100 20 60 [] 0 6 1400) a0 a9 1 c0 0 c9 _ (by exact (rfl : C.seat.apex.length = 1)) (by exact (rfl : ([] : List UInt8).length = 0)) (by exact S0.out.alloc _) (by exact C.seat_small) (by omega)).mono ?_; rintro e w4 ⟨c, rfl, hc, hb4⟩; obtain rfl : c = 0 := (by rcases hc with ⟨h, _⟩ | ⟨_, h⟩; exact h; exact absurd bnd0i h); have B4 : Hid (Below w.heap.size w w4) := (B2.out.alloc B2.out.size _).trans (hb4.mono (by have := B2.out.size; simp; omega)); clear hc hb4)
      go_ret
      exact ⟨rfl, B4.out⟩
    · go_wp2_with (go_at_call 9; refine (cCheck_any (C.Cf.mk C.seat.apex 20 1 8 0 300 81 20 60 [] 0 6 1400) a0 a9 1 c0 0 c9 _ (by exact (rfl : C.seat.apex.length = 1)) (by exact (rfl : ([] : List UInt8).length = 0)) (by exact S0.out.alloc _) (by exact C.seat_small) (by omega)).mono ?_; rintro e w4 ⟨c, rfl, hc, hb4⟩; obtain rfl : c = 0 := (by rcases hc with ⟨h, _⟩ | ⟨_, h⟩; exact h; exact absurd bnd1i h); have B4 : Hid (Below w.heap.size w w4) := (B2.out.alloc B2.out.size _).trans (hb4.mono (by have := B2.out.size; simp; omega)); clear hc hb4)
      go_ret
      exact ⟨rfl, B4.out⟩
    · go_wp2_with (go_at_call 9; refine (cCheck_any (C.Cf.mk C.seat.apex 20 1 8 0 121 100 20 60 [] 0 6 1400) a0 a9 1 c0 0 c9 _ (by exact (rfl : C.seat.apex.length = 1)) (by exact (rfl : ([] : List UInt8).length = 0)) (by exact S0.out.alloc _) (by exact C.seat_small) (by omega)).mono ?_; rintro e w4 ⟨c, rfl, hc, hb4⟩; obtain rfl : c = 0 := (by rcases hc with ⟨h, _⟩ | ⟨_, h⟩; exact h; exact absurd bnd2i h); have B4 : Hid (Below w.heap.size w w4) := (B2.out.alloc B2.out.size _).trans (hb4.mono (by have := B2.out.size; simp; omega)); clear hc hb4)
      go_ret
      exact ⟨rfl, B4.out⟩
    · obtain ⟨i0, hi, hz0, hz1, hz2⟩ := info_parts infoB
      go_wp2_with (first
        | (at_make; refine wpList_make_full _ rfl (.tmp 46) (.tmp 46) 25 rfl (w2.alloc (.cells #[.slice a0 1 c0, .int .u32 20, .int .u32 1, .int .u32 8, .int .u32 0, .int .u32 300, .int .u32 100, .int .u32 20, .int .u32 60, .slice a9 0 c9, .int .u16 0, .int .i64 6, .int .u16 1400] 28)).heap.size 5 i0 (.int .u8 0) 1 Try.underlying25 hi hz0 hz1 .i64 .i64 16 16 16 rfl rfl rfl rfl (by rw [hz2]; omega) (by unfold maxLen; omega) (Nat.le_refl _) ?_; intro w5 hO5 hG5; have hb5 : Below (w2.alloc (.cells #[.slice a0 1 c0, .int .u32 20, .int .u32 1, .int .u32 8, .int .u32 0, .int .u32 300, .int .u32 100, .int .u32 20, .int .u32 60, .slice a9 0 c9, .int .u16 0, .int .i64 6, .int .u16 1400] 28)).heap.size (w2.alloc (.cells #[.slice a0 1 c0, .int .u32 20, .int .u32 1, .int .u32 8, .int .u32 0, .int .u32 300, .int .u32 100, .int .u32 20, .int .u32 60, .slice a9 0 c9, .int .u16 0, .int .i64 6, .int .u16 1400] 28)) w5 := ⟨hG5.os, hG5.tape, hG5.output, hG5.size, fun j hj => hG5.block j hj (by intro h; cases h)⟩; have R5 := RowAt.below (RowAt.new w2 28 #[.slice a0 1 c0, .int .u32 20, .int .u32 1, .int .u32 8, .int .u32 0, .int .u32 300, .int .u32 100, .int .u32 20, .int .u32 60, .slice a9 0 c9, .int .u16 0, .int .i64 6, .int .u16 1400]) hb5 (by simp); have q0 := R5.cell 0; have q1 := R5.cell 1; have q2 := R5.cell 2; have q3 := R5.cell 3; have q4 := R5.cell 4; have q5 := R5.cell 5; have q6 := R5.cell 6; have q7 := R5.cell 7; have q8 := R5.cell 8; have q9 := R5.cell 9; have q10 := R5.cell 10; have q11 := R5.cell 11; have q12 := R5.cell 12; have f9 := R5.frozen 9; have B5 : Hid (Below w.heap.size w w5) := (B2.out.alloc B2.out.size _).trans (hb5.mono (by have := B2.out.size; simp; omega)); have B25 : Hid (Below w2.heap.size w2 w5) := ((Below.refl w2.heap.size w2).alloc (Nat.le_refl _) _).trans (hb5.mono (by simp)); have hlt5 : w2.heap.size < w5.heap.size := R5.lt; have h2w : w.heap.size ≤ w2.heap.size := B2.out.size; clear hO5 hG5 hb5 R5)
        | (go_at_call 9; refine (cCheck_any (C.Cf.mk C.seat.apex 20 1 8 0 300 100 20 60 (List.replicate 16 0) 0 6 1400) a0 _ 1 c0 16 16 _ (by exact (rfl : C.seat.apex.length = 1)) (by exact (rfl : (List.replicate 16 (0 : UInt8)).length = 16)) (by exact S0.out.below (B25.out.setCell (p := ⟨w2.heap.size, 9, none⟩) (Nat.le_refl _) _) (Nat.le_refl _)) (by exact C.seat_small) (by omega)).mono ?_; rintro e w4 ⟨c, rfl, hc, hb4⟩; obtain rfl : c = 0 := (by rcases hc with ⟨h, _⟩ | ⟨_, h⟩; exact h; exact absurd bnd3i h); have B4 : Hid (Below w.heap.size w w4) := (B5.out.setCell (p := ⟨w2.heap.size, 9, none⟩) h2w _).trans (hb4.mono (by have := B5.out.size; simp [World.setCell]; omega)); clear hc hb4))
      go_ret
      exact ⟨rfl, B4.out⟩
    · go_wp2_with (go_at_call 9; refine (cCheck_any (C.Cf.mk C.seat.apex 20 1 8 0 300 100 20 60 [] 50 6 1400) a0 a9 1 c0 0 c9 _ (by exact (rfl : C.seat.apex.length = 1)) (by exact (rfl : ([] : List UInt8).length = 0)) (by exact S0.out.alloc _) (by exact C.seat_small) (by omega)).mono ?_; rintro e w4 ⟨c, rfl, hc, hb4⟩; obtain rfl : c = 0 := (by rcases hc with ⟨h, _⟩ | ⟨_, h⟩; exact h; exact absurd bnd4i h); have B4 : Hid (Below w.heap.size w w4) := (B2.out.alloc B2.out.size _).trans (hb4.mono (by have := B2.out.size; simp; omega)); clear hc hb4)
      go_ret
      exact ⟨rfl, B4.out⟩
    · go_wp2_with (go_at_call 9; refine (cCheck_any (C.Cf.mk C.seat.apex 20 1 8 0 300 100 20 60 [] 0 10 1400) a0 a9 1 c0 0 c9 _ (by exact (rfl : C.seat.apex.length = 1)) (by exact (rfl : ([] : List UInt8).length = 0)) (by exact S0.out.alloc _) (by exact C.seat_small) (by omega)).mono ?_; rintro e w4 ⟨c, rfl, hc, hb4⟩; obtain rfl : c = 0 := (by rcases hc with ⟨h, _⟩ | ⟨_, h⟩; exact h; exact absurd bnd5i h); have B4 : Hid (Below w.heap.size w w4) := (B2.out.alloc B2.out.size _).trans (hb4.mono (by have := B2.out.size; simp; omega)); clear hc hb4)
      go_ret
      exact ⟨rfl, B4.out⟩
    · go_wp2_with (go_at_call 9; refine (cCheck_any (C.Cf.mk C.seat.apex 20 1 8 0 300 100 20 60 [] 0 6 512) a0 a9 1 c0 0 c9 _ (by exact (rfl : C.seat.apex.length = 1)) (by exact (rfl : ([] : List UInt8).length = 0)) (by exact S0.out.alloc _) (by exact C.seat_small) (by omega)).mono ?_; rintro e w4 ⟨c, rfl, hc, hb4⟩; obtain rfl : c = 0 := (by rcases hc with ⟨h, _⟩ | ⟨_, h⟩; exact h; exact absurd bnd6i h); have B4 : Hid (Below w.heap.size w w4) := (B2.out.alloc B2.out.size _).trans (hb4.mono (by have := B2.out.size; simp; omega)); clear hc hb4)
      go_ret
      exact ⟨rfl, B4.out⟩
    · go_wp2_with (go_at_call 9; refine (cCheck_any (C.Cf.mk C.seat.apex 20 1 16777216 0 300 100 20 60 [] 0 6 1400) a0 a9 1 c0 0 c9 _ (by exact (rfl : C.seat.apex.length = 1)) (by exact (rfl : ([] : List UInt8).length = 0)) (by exact S0.out.alloc _) (by exact C.seat_small) (by omega)).mono ?_; rintro e w4 ⟨c, rfl, hc, hb4⟩; obtain rfl : c = 0 := (by rcases hc with ⟨h, _⟩ | ⟨_, h⟩; exact h; exact absurd bnd7i h); have B4 : Hid (Below w.heap.size w w4) := (B2.out.alloc B2.out.size _).trans (hb4.mono (by have := B2.out.size; simp; omega)); clear hc hb4)
      go_ret
      exact ⟨rfl, B4.out⟩
    · go_wp2_with (go_at_call 9; refine (cCheck_any (C.Cf.mk C.seat.apex 1 1 8 0 300 100 20 60 [] 0 6 1400) a0 a9 1 c0 0 c9 _ (by exact (rfl : C.seat.apex.length = 1)) (by exact (rfl : ([] : List UInt8).length = 0)) (by exact S0.out.alloc _) (by exact C.seat_small) (by omega)).mono ?_; rintro e w4 ⟨c, rfl, hc, hb4⟩; obtain rfl : c = 0 := (by rcases hc with ⟨h, _⟩ | ⟨_, h⟩; exact h; exact absurd bnd8i h); have B4 : Hid (Below w.heap.size w w4) := (B2.out.alloc B2.out.size _).trans (hb4.mono (by have := B2.out.size; simp; omega)); clear hc hb4)
      go_ret
      exact ⟨rfl, B4.out⟩
  · go_enter Try.func6, Try.ntmps6
    go_wp2_with (go_at_call 7; refine (known_any _).mono ?_; rintro e w1 ⟨rfl, hb1⟩; have B1 := hide hb1; clear hb1)
    refine (seat_any _).mono ?_
    rintro e w2 ⟨a0, a9, c0, c9, rfl, hs0, _, hb2⟩
    have B2 := hide (B1.out.trans (hb2.mono B1.out.size))
    have S0 := hide hs0
    clear hs0 hb2
    go_wp2_with fail
    refine (place_any k 9 _ (by omega) (by omega)).mono ?_
    rintro e w3 ⟨r, hr, rfl, hw3⟩
    rw [hw3]
    clear hw3 w3
    rcases (show r = 0 ∨ r = 1 ∨ r = 2 ∨ r = 3 ∨ r = 4 ∨ r = 5 ∨ r = 6 ∨ r = 7 ∨ r = 8 by omega) with rfl | rfl | rfl | rfl | rfl | rfl | rfl | rfl | rfl
    · go_wp2_with (go_at_call 9; refine (cCheck_any (C.Cf.mk C.seat.apex 61 1 8 0 300 100 20 60 [] 0 6 1400) a0 a9 1 c0 0 c9 _ (by exact (rfl : C.seat.apex.length = 1)) (by exact (rfl : ([] : List UInt8).length = 0)) (by exact S0.out.alloc _) (by exact C.seat_small) (by omega)).mono ?_; rintro e w4 ⟨c, rfl, hc, hb4⟩; obtain rfl : c = 100 := (by rcases hc with ⟨_, h⟩ | ⟨h, _⟩; exact absurd h bnd0o; exact h); have B4 : Hid (Below w.heap.size w w4) := (B2.out.alloc B2.out.size _).trans (hb4.mono (by have := B2.out.size; simp; omega)); clear hc hb4)
      go_ret
      exact ⟨rfl, B4.out⟩
    · go_wp2_with (go_at_call 9; refine (cCheck_any (C.Cf.mk C.seat.apex 20 1 8 0 300 80 20 60 [] 0 6 1400) a0 a9 1 c0 0 c9 _ (by exact (rfl : C.seat.apex.length = 1)) (by exact (rfl : ([] : List UInt8).length = 0)) (by exact S0.out.alloc _) (by exact C.seat_small) (by omega)).mono ?_; rintro e w4 ⟨c, rfl, hc, hb4⟩; obtain rfl : c = 100 := (by rcases hc with ⟨_, h⟩ | ⟨h, _⟩; exact absurd h bnd1o; exact h); have B4 : Hid (Below w.heap.size w w4) := (B2.out.alloc B2.out.size _).trans (hb4.mono (by have := B2.out.size; simp; omega)); clear hc hb4)
      go_ret
      exact ⟨rfl, B4.out⟩
    · go_wp2_with (go_at_call 9; refine (cCheck_any (C.Cf.mk C.seat.apex 20 1 8 0 120 100 20 60 [] 0 6 1400) a0 a9 1 c0 0 c9 _ (by exact (rfl : C.seat.apex.length = 1)) (by exact (rfl : ([] : List UInt8).length = 0)) (by exact S0.out.alloc _) (by exact C.seat_small) (by omega)).mono ?_; rintro e w4 ⟨c, rfl, hc, hb4⟩; obtain rfl : c = 100 := (by rcases hc with ⟨_, h⟩ | ⟨h, _⟩; exact absurd h bnd2o; exact h); have B4 : Hid (Below w.heap.size w w4) := (B2.out.alloc B2.out.size _).trans (hb4.mono (by have := B2.out.size; simp; omega)); clear hc hb4)
      go_ret
      exact ⟨rfl, B4.out⟩
    · obtain ⟨i0, hi, hz0, hz1, hz2⟩ := info_parts infoB
      go_wp2_with (first
        | (at_make; refine wpList_make_full _ rfl (.tmp 46) (.tmp 46) 25 rfl (w2.alloc (.cells #[.slice a0 1 c0, .int .u32 20, .int .u32 1, .int .u32 8, .int .u32 0, .int .u32 300, .int .u32 100, .int .u32 20, .int .u32 60, .slice a9 0 c9, .int .u16 0, .int .i64 6, .int .u16 1400] 28)).heap.size 5 i0 (.int .u8 0) 1 Try.underlying25 hi hz0 hz1 .i64 .i64 17 17 17 rfl rfl rfl rfl (by rw [hz2]; omega) (by unfold maxLen; omega) (Nat.le_refl _) ?_; intro w5 hO5 hG5; have hb5 : Below (w2.alloc (.cells #[.slice a0 1 c0, .int .u32 20, .int .u32 1, .int .u32 8, .int .u32 0, .int .u32 300, .int .u32 100, .int .u32 20, .int .u32 60, .slice a9 0 c9, .int .u16 0, .int .i64 6, .int .u16 1400] 28)).heap.size (w2.alloc (.cells #[.slice a0 1 c0, .int .u32 20, .int .u32 1, .int .u32 8, .int .u32 0, .int .u32 300, .int .u32 100, .int .u32 20, .int .u32 60, .slice a9 0 c9, .int .u16 0, .int .i64 6, .int .u16 1400] 28)) w5 := ⟨hG5.os, hG5.tape, hG5.output, hG5.size, fun j hj => hG5.block j hj (by intro h; cases h)⟩; have R5 := RowAt.below (RowAt.new w2 28 #[.slice a0 1 c0, .int .u32 20, .int .u32 1, .int .u32 8, .int .u32 0, .int .u32 300, .int .u32 100, .int .u32 20, .int .u32 60, .slice a9 0 c9, .int .u16 0, .int .i64 6, .int .u16 1400]) hb5 (by simp); have q0 := R5.cell 0; have q1 := R5.cell 1; have q2 := R5.cell 2; have q3 := R5.cell 3; have q4 := R5.cell 4; have q5 := R5.cell 5; have q6 := R5.cell 6; have q7 := R5.cell 7; have q8 := R5.cell 8; have q9 := R5.cell 9; have q10 := R5.cell 10; have q11 := R5.cell 11; have q12 := R5.cell 12; have f9 := R5.frozen 9; have B5 : Hid (Below w.heap.size w w5) := (B2.out.alloc B2.out.size _).trans (hb5.mono (by have := B2.out.size; simp; omega)); have B25 : Hid (Below w2.heap.size w2 w5) := ((Below.refl w2.heap.size w2).alloc (Nat.le_refl _) _).trans (hb5.mono (by simp)); have hlt5 : w2.heap.size < w5.heap.size := R5.lt; have h2w : w.heap.size ≤ w2.heap.size := B2.out.size; clear hO5 hG5 hb5 R5)
        | (go_at_call 9; refine (cCheck_any (C.Cf.mk C.seat.apex 20 1 8 0 300 100 20 60 (List.replicate 17 0) 0 6 1400) a0 _ 1 c0 17 17 _ (by exact (rfl : C.seat.apex.length = 1)) (by exact (rfl : (List.replicate 17 (0 : UInt8)).length = 17)) (by exact S0.out.below (B25.out.setCell (p := ⟨w2.heap.size, 9, none⟩) (Nat.le_refl _) _) (Nat.le_refl _)) (by exact C.seat_small) (by omega)).mono ?_; rintro e w4 ⟨c, rfl, hc, hb4⟩; obtain rfl : c = 100 := (by rcases hc with ⟨_, h⟩ | ⟨h, _⟩; exact absurd h bnd3o; exact h); have B4 : Hid (Below w.heap.size w w4) := (B5.out.setCell (p := ⟨w2.heap.size, 9, none⟩) h2w _).trans (hb4.mono (by have := B5.out.size; simp [World.setCell]; omega)); clear hc hb4))
      go_ret
      exact ⟨rfl, B4.out⟩
    · go_wp2_with (go_at_call 9; refine (cCheck_any (C.Cf.mk C.seat.apex 20 1 8 0 300 100 20 60 [] 51 6 1400) a0 a9 1 c0 0 c9 _ (by exact (rfl : C.seat.apex.length = 1)) (by exact (rfl : ([] : List UInt8).length = 0)) (by exact S0.out.alloc _) (by exact C.seat_small) (by omega)).mono ?_; rintro e w4 ⟨c, rfl, hc, hb4⟩; obtain rfl : c = 100 := (by rcases hc with ⟨_, h⟩ | ⟨h, _⟩; exact absurd h bnd4o; exact h); have B4 : Hid (Below w.heap.size w w4) := (B2.out.alloc B2.out.size _).trans (hb4.mono (by have := B2.out.size; simp; omega)); clear hc hb4)
      go_ret
      exact ⟨rfl, B4.out⟩
    · go_wp2_with (go_at_call 9; refine (cCheck_any (C.Cf.mk C.seat.apex 20 1 8 0 300 100 20 60 [] 0 11 1400) a0 a9 1 c0 0 c9 _ (by exact (rfl : C.seat.apex.length = 1)) (by exact (rfl : ([] : List UInt8).length = 0)) (by exact S0.out.alloc _) (by exact C.seat_small) (by omega)).mono ?_; rintro e w4 ⟨c, rfl, hc, hb4⟩; obtain rfl : c = 100 := (by rcases hc with ⟨_, h⟩ | ⟨h, _⟩; exact absurd h bnd5o; exact h); have B4 : Hid (Below w.heap.size w w4) := (B2.out.alloc B2.out.size _).trans (hb4.mono (by have := B2.out.size; simp; omega)); clear hc hb4)
      go_ret
      exact ⟨rfl, B4.out⟩
    · go_wp2_with (go_at_call 9; refine (cCheck_any (C.Cf.mk C.seat.apex 20 1 8 0 300 100 20 60 [] 0 6 511) a0 a9 1 c0 0 c9 _ (by exact (rfl : C.seat.apex.length = 1)) (by exact (rfl : ([] : List UInt8).length = 0)) (by exact S0.out.alloc _) (by exact C.seat_small) (by omega)).mono ?_; rintro e w4 ⟨c, rfl, hc, hb4⟩; obtain rfl : c = 100 := (by rcases hc with ⟨_, h⟩ | ⟨h, _⟩; exact absurd h bnd6o; exact h); have B4 : Hid (Below w.heap.size w w4) := (B2.out.alloc B2.out.size _).trans (hb4.mono (by have := B2.out.size; simp; omega)); clear hc hb4)
      go_ret
      exact ⟨rfl, B4.out⟩
    · go_wp2_with (go_at_call 9; refine (cCheck_any (C.Cf.mk C.seat.apex 20 1 16777217 0 300 100 20 60 [] 0 6 1400) a0 a9 1 c0 0 c9 _ (by exact (rfl : C.seat.apex.length = 1)) (by exact (rfl : ([] : List UInt8).length = 0)) (by exact S0.out.alloc _) (by exact C.seat_small) (by omega)).mono ?_; rintro e w4 ⟨c, rfl, hc, hb4⟩; obtain rfl : c = 100 := (by rcases hc with ⟨_, h⟩ | ⟨h, _⟩; exact absurd h bnd7o; exact h); have B4 : Hid (Below w.heap.size w w4) := (B2.out.alloc B2.out.size _).trans (hb4.mono (by have := B2.out.size; simp; omega)); clear hc hb4)
      go_ret
      exact ⟨rfl, B4.out⟩
    · go_wp2_with (go_at_call 9; refine (cCheck_any (C.Cf.mk C.seat.apex 0 1 8 0 300 100 20 60 [] 0 6 1400) a0 a9 1 c0 0 c9 _ (by exact (rfl : C.seat.apex.length = 1)) (by exact (rfl : ([] : List UInt8).length = 0)) (by exact S0.out.alloc _) (by exact C.seat_small) (by omega)).mono ?_; rintro e w4 ⟨c, rfl, hc, hb4⟩; obtain rfl : c = 100 := (by rcases hc with ⟨_, h⟩ | ⟨h, _⟩; exact absurd h bnd8o; exact h); have B4 : Hid (Below w.heap.size w w4) := (B2.out.alloc B2.out.size _).trans (hb4.mono (by have := B2.out.size; simp; omega)); clear hc hb4)
      go_ret
      exact ⟨rfl, B4.out⟩
end Go.Proofs.Ytfkkaegebpckmaa
