/- slices.Sort at uint16: xorshift, nextPowerOfTwo, breakPatternsOrdered: which places are exchanged is left open, but that they lie within. -/
import Derived.Test.YtikjhacgihohiaaDoorSrtD
import Derived.Test.YtikjhacgihohiaaDoorShelf
import Derived.Sort.Walk7
import Derived.Sort.LotD1
import Derived.Laws.Bits64b
namespace Go.Proofs.YtikjhacgihohiaaDoor
open Go.RowKit Go.Sort Q
namespace Q
/- the random number's cell, beside the row -/
structure Cx (w0 : World) (g o N : Nat) (d : Array UInt16) (c : Nat) (W : World) : Prop where
  st : St w0 g o N d W
  cell : ∃ X : Nat, X < 18446744073709551616 ∧ W.cell? ⟨c, 0, none⟩ = some (.int .u64 (X : Int))
  frozen : W.frozen? ⟨c, 0, none⟩ = false
  new : w0.heap.size ≤ c
  lt : c < W.heap.size
theorem Cx.drewN {w0 W : World} {g o N c : Nat} {d : Array UInt16} (h : Cx w0 g o N d c W) (q : Nat) : Cx w0 g o N d c (W.drewN q) := ⟨h.st.drewN q, h.cell, h.frozen, h.new, h.lt⟩
theorem Cx.put {w0 W : World} {g o N c : Nat} {d : Array UInt16} (h : Cx w0 g o N d c W) (X : Nat) (hX : X < 18446744073709551616) : Cx w0 g o N d c (W.setCell ⟨c, 0, none⟩ (.int .u64 (X : Int))) := by
  obtain ⟨z0, _, hz⟩ := h.cell
  exact ⟨⟨h.st.size, h.st.sw.setCell_new c 0 _ h.new⟩, ⟨X, hX, World.cell?_setCell_same _ _ _ hz⟩, by rw [World.frozen?_setCell]; exact h.frozen, h.new, by simpa using h.lt⟩
end Q
set_option maxHeartbeats 3200000 in
theorem xnext_any (w0 w : World) (g o N c : Nat) (d : Array UInt16) (C : Cx w0 g o N d c w) :
    Calls Tryd.prog 63 #[.pointer (some ⟨c, 0, none⟩)] w fun e w' => ∃ X : Nat, X < 18446744073709551616 ∧ e = .returned (.int .u64 (X : Int)) ∧ Cx w0 g o N d c w' := by
  obtain ⟨X, hX, hc⟩ := C.cell
  have hf := C.frozen
  obtain ⟨A, hA⟩ : ∃ A : Nat, A = X ^^^ (X * 8192 % 18446744073709551616) := ⟨_, rfl⟩
  obtain ⟨B, hB⟩ : ∃ B : Nat, B = A ^^^ (A / 128) := ⟨_, rfl⟩
  obtain ⟨D, hD⟩ : ∃ D : Nat, D = B ^^^ (B * 131072 % 18446744073709551616) := ⟨_, rfl⟩
  have lA : A < 18446744073709551616 := by rw [hA]; exact Nat.xor_lt_two_pow (n := 64) (by omega) (by omega)
  have lB : B < 18446744073709551616 := by rw [hB]; exact Nat.xor_lt_two_pow (n := 64) (by omega) (by omega)
  have lD : D < 18446744073709551616 := by rw [hD]; exact Nat.xor_lt_two_pow (n := 64) (by omega) (by omega)
  have e1 : bits .xor .u64 (X : Int) (IntKind.u64.wrap ((X : Int) * 8192)) = (A : Int) := by
    rw [IntKind.wrap_u64, show (X : Int) * 8192 % 18446744073709551616 = ((X * 8192 % 18446744073709551616 : Nat) : Int) by omega, bits_xor_u64_nat _ _ hX (by omega), hA]
  have e2 : bits .xor .u64 (A : Int) ((A : Int) / 128) = (B : Int) := by
    rw [show (A : Int) / 128 = ((A / 128 : Nat) : Int) by omega, bits_xor_u64_nat _ _ lA (by omega), hB]
  have e3 : bits .xor .u64 (B : Int) (IntKind.u64.wrap ((B : Int) * 131072)) = (D : Int) := by
    rw [IntKind.wrap_u64, show (B : Int) * 131072 % 18446744073709551616 = ((B * 131072 % 18446744073709551616 : Nat) : Int) by omega, bits_xor_u64_nat _ _ lB (by omega), hD]
  clear hA hB hD
  have HC : Hid _ := C
  clear C
  go_enter Tryd.func63, Tryd.ntmps63
  go_wp2
  go_region
  have hf2 : ((w.setCell ⟨c, 0, none⟩ (.int .u64 (A : Int))).drew).frozen? ⟨c, 0, none⟩ = false := ((HC.out.put A lA).drewN 1).frozen
  have hc2 : ((w.setCell ⟨c, 0, none⟩ (.int .u64 (A : Int))).drew).cell? ⟨c, 0, none⟩ = some (.int .u64 (A : Int)) := World.cell?_setCell_same _ _ _ hc
  have HC2 : Hid (Cx w0 g o N d c (w.setCell ⟨c, 0, none⟩ (.int .u64 (A : Int))).drew) := (HC.out.put A lA).drewN 1
  clear HC hf hc
  have HC := HC2
  have hf := hf2
  have hc := hc2
  clear HC2 hf2 hc2
  generalize (w.setCell ⟨c, 0, none⟩ (.int .u64 (A : Int))).drew = w1 at HC hf hc ⊢
  go_wp2
  go_region
  have hf2 : ((w1.setCell ⟨c, 0, none⟩ (.int .u64 (B : Int))).drew).frozen? ⟨c, 0, none⟩ = false := ((HC.out.put B lB).drewN 1).frozen
  have hc2 : ((w1.setCell ⟨c, 0, none⟩ (.int .u64 (B : Int))).drew).cell? ⟨c, 0, none⟩ = some (.int .u64 (B : Int)) := World.cell?_setCell_same _ _ _ hc
  have HC2 : Hid (Cx w0 g o N d c (w1.setCell ⟨c, 0, none⟩ (.int .u64 (B : Int))).drew) := (HC.out.put B lB).drewN 1
  clear HC hf hc
  have HC := HC2
  have hf := hf2
  have hc := hc2
  clear HC2 hf2 hc2
  generalize (w1.setCell ⟨c, 0, none⟩ (.int .u64 (B : Int))).drew = w2 at HC hf hc ⊢
  go_wp2
  go_region
  have hf2 : ((w2.setCell ⟨c, 0, none⟩ (.int .u64 (D : Int))).drew).frozen? ⟨c, 0, none⟩ = false := ((HC.out.put D lD).drewN 1).frozen
  have hc2 : ((w2.setCell ⟨c, 0, none⟩ (.int .u64 (D : Int))).drew).cell? ⟨c, 0, none⟩ = some (.int .u64 (D : Int)) := World.cell?_setCell_same _ _ _ hc
  have HC2 : Hid (Cx w0 g o N d c (w2.setCell ⟨c, 0, none⟩ (.int .u64 (D : Int))).drew) := (HC.out.put D lD).drewN 1
  clear HC hf hc
  have HC := HC2
  have hf := hf2
  have hc := hc2
  clear HC2 hf2 hc2
  generalize (w2.setCell ⟨c, 0, none⟩ (.int .u64 (D : Int))).drew = w3 at HC hf hc ⊢
  go_wp2
  go_ret
  exact ⟨D, lD, rfl, HC.out⟩
theorem npow_any (n : Nat) (hn : 0 < n) (hn2 : n < 4611686018427387904) (w : World) :
    Calls Tryd.prog 62 #[.int .i64 n] w fun e w' => ∃ M : Nat, 0 < M ∧ M ≤ 2 * n ∧ e = .returned (.int .u64 (M : Int)) ∧ w' = w := by
  obtain ⟨b1, b2, b3⟩ := Lib.bitLenAux_bounds 64 n (by omega) (by omega)
  have hk : Lib.bitLen n ≤ 62 := Lib.bitLen_le n 62 (by omega) (by omega)
  have hp := wrap_two_pow (Lib.bitLen n) hk
  have hle : 1 <<< Lib.bitLen n ≤ 2 * n := by
    rw [Nat.one_shiftLeft]
    have : 2 ^ Lib.bitLen n = 2 * 2 ^ (Lib.bitLen n - 1) := by
      rw [← Nat.pow_succ']; congr 1; unfold Lib.bitLen; omega
    unfold Lib.bitLen at *; omega
  have h0 : 0 < 1 <<< Lib.bitLen n := by rw [Nat.one_shiftLeft]; exact Nat.pow_pos (by omega)
  generalize 1 <<< Lib.bitLen n = M at hp hle h0
  have c0 := Tryd.bits_Len (n : Int) w (by omega) (by omega)
  rw [Int.toNat_natCast] at c0
  clear b1 b2 b3
  generalize Lib.bitLen n = k at *
  go_enter Tryd.func62, Tryd.ntmps62
  go_wp2_with (go_at_call 38; refine c0.mono ?_; rintro e w' ⟨rfl, rfl⟩)
  go_ret
  exact ⟨M, h0, hle, rfl, rfl⟩
namespace Q
theorem Cx.start {w0 W : World} {g o N : Nat} {d : Array UInt16} (h : St w0 g o N d W) (T : TypeId) (X : Nat) (hX : X < 18446744073709551616) : Cx w0 g o N d W.heap.size (W.alloc (.cells #[.int .u64 (X : Int)] T)) :=
  ⟨⟨h.size, h.sw.alloc _⟩, ⟨X, hX, by simp⟩, by simp, h.sw.le, by simp⟩
theorem Cx.swap {w0 W : World} {g o N c : Nat} {d : Array UInt16} (h : Cx w0 g o N d c W) (R : Rw w0 g o N) {G : Nat → UInt16} (hG : ∀ t, d[t]! = G t) (q i j : Nat) (hi : i < N) (hj : j < N) :
    Cx w0 g o N (swp d i j) c (((W.drewN q).setCell ⟨g, o + i, none⟩ (.int .u16 ((G j).toNat : Int))).setCell ⟨g, o + j, none⟩ (.int .u16 ((G i).toNat : Int))) := by
  have hne : c ≠ g := by
    obtain ⟨⟨d0, _, R1⟩, _⟩ := R
    have := R1.hblk; have := h.new; omega
  obtain ⟨X, hX, hc⟩ := h.cell
  refine ⟨h.st.swap R hG q i j hi hj, ⟨X, hX, ?_⟩, ?_, h.new, by simpa using h.lt⟩
  · rw [World.cell?_setCell_other _ _ _ _ (by intro e; simp only [Addr.mk.injEq] at e; exact hne e.1.symm), World.cell?_setCell_other _ _ _ _ (by intro e; simp only [Addr.mk.injEq] at e; exact hne e.1.symm)]; exact hc
  · rw [World.frozen?_setCell, World.frozen?_setCell]; exact h.frozen
end Q
set_option maxHeartbeats 6400000 in
theorem brk_any (w0 w : World) (g o N cap a b : Nat) (d : Array UInt16) (R : Rw w0 g o N) (h : St w0 g o N d w) (hab : a + 12 < b) (hb : b ≤ N) :
    Calls Tryd.prog 49 #[.slice (some ⟨g, o, none⟩) N cap, .int .i64 a, .int .i64 b] w fun e w' => e = .returned (.tuple #[]) ∧ ∃ d', PermIn a b d d' ∧ St w0 g o N d' w' := by
  have hsm := R.small
  obtain ⟨L, hL⟩ : ∃ L : Nat, b - a = L := ⟨_, rfl⟩
  obtain ⟨q, hq⟩ : ∃ q : Nat, L / 4 = q := ⟨_, rfl⟩
  have e0 : (b : Int) - (a : Int) = (L : Int) := by omega
  have e1 : (L : Int) / 4 = (q : Int) := by omega
  have e2 : Int.tdiv (L : Int) 4 = (q : Int) := by rw [Int.tdiv_eq_ediv_of_nonneg (by omega)]; exact e1
  have h8 : (8 : Int) ≤ (L : Int) := by omega
  obtain ⟨j, hj⟩ : ∃ i : Nat, a + q * 2 = i := ⟨_, rfl⟩
  have ej : (a : Int) + (q : Int) * 2 = (j : Int) := by omega
  have hB : Hid (a + 1 ≤ j ∧ j + 1 < b ∧ a + L = b ∧ b ≤ N) := by show a + 1 ≤ j ∧ j + 1 < b ∧ a + L = b ∧ b ≤ N; omega
  have hL1 : L < 4611686018427387904 := by omega
  have hL0 : 0 < L := by omega
  have hq1 : q < 4611686018427387904 := by omega
  have hj1 : j < 4611686018427387904 := by omega
  have hj0 : 1 ≤ j := by omega
  clear hL hq hj
  have C := Cx.start h 92 L (by omega)
  go_enter Tryd.func49, Tryd.ntmps49
  go_wp2_with fail
  refine (npow_any L hL0 hL1 _).mono ?_
  rintro e w1 ⟨M, hM0, hM1, rfl, rfl⟩
  generalize w.heap.size = c at C ⊢
  generalize w.alloc (.cells #[.int .u64 (L : Int)] 92) = w1 at C ⊢
  clear h
  go_wp2
  go_loopw [9] (fun v W => ∃ (i : Nat) (dk : Array UInt16), v = .int .i64 (i : Int) ∧ j ≤ i + 1 ∧ i ≤ j + 2 ∧ Cx w0 g o N dk c W ∧ PermIn a b d dk) (fun v _ => j + 2 - (intOf v).toNat)
  case atStart => exact ⟨j - 1, d, by congr 1; omega, by omega, by omega, C, permIn_refl _ _ _⟩
  case round =>
    clear C
    obtain ⟨i, dk, rfl, hi1, hi2, C, hP⟩ := hrel
    have HP : Hid _ := hP
    clear hP
    have hi3 : i < 4611686018427387904 := by omega
    by_cases hlt : i ≤ j + 1
    · have elt : (i : Int) ≤ (j : Int) + 1 := by omega
      go_wp2_with fail
      refine (xnext_any w0 _ g o N c dk C).mono ?_
      rintro e w2 ⟨X, hX, rfl, C2⟩
      clear C
      obtain ⟨r, hr⟩ : ∃ r : Nat, X &&& (M - 1) = r := ⟨_, rfl⟩
      have hr1 : r ≤ M - 1 := by rw [← hr]; exact Nat.and_le_right
      have ea : bits .and .u64 (X : Int) ((M : Int) - 1) = (r : Int) := by
        rw [show (M : Int) - 1 = ((M - 1 : Nat) : Int) by omega, bits_and_u64_nat _ _ hX (by omega), hr]
      clear hr
      obtain ⟨G, HG, hc, hf⟩ := C2.st.look R
      have HC : Hid _ := C2
      clear C2
      by_cases hrl : L ≤ r
      · have erl : (L : Int) ≤ (r : Int) := by omega
        obtain ⟨k, hk⟩ : ∃ k : Nat, r - L = k := ⟨_, rfl⟩
        have ek : (r : Int) - (L : Int) = (k : Int) := by omega
        have hkL : a + k < b ∧ b ≤ N := by have := hB.out; omega
        have hiN : i < N ∧ a ≤ i ∧ i < b := by have := hB.out; omega
        obtain ⟨hkb, hbN⟩ := hkL
        obtain ⟨hiN, hia, hib⟩ := hiN
        have hkN : a + k < N := by omega
        obtain ⟨x0, hx0⟩ := two hc i (a + k) hiN hkN (.int .u16 ((G (a + k)).toNat : Int))
        clear hk
        go_wp2
        go_region
        all_goals go_wp2
        go_roundw
        case rel => exact ⟨i + 1, swp dk i (a + k), by go_num, by omega, by omega, HC.out.swap R HG.out _ i (a + k) hiN hkN, permIn_trans _ _ _ _ _ HP.out (swp_permIn _ _ _ _ _ hia hib (by omega) hkb (by rw [HC.out.st.size]; exact hbN))⟩
        case measure => simp [intOf]; omega
      · have erl : ¬ (L : Int) ≤ (r : Int) := by omega
        have hkL : a + r < b ∧ b ≤ N := by have := hB.out; omega
        have hiN : i < N ∧ a ≤ i ∧ i < b := by have := hB.out; omega
        obtain ⟨hkb, hbN⟩ := hkL
        obtain ⟨hiN, hia, hib⟩ := hiN
        have hkN : a + r < N := by omega
        obtain ⟨x0, hx0⟩ := two hc i (a + r) hiN hkN (.int .u16 ((G (a + r)).toNat : Int))
        go_wp2
        go_region
        all_goals go_wp2
        go_roundw
        case rel => exact ⟨i + 1, swp dk i (a + r), by go_num, by omega, by omega, HC.out.swap R HG.out _ i (a + r) hiN hkN, permIn_trans _ _ _ _ _ HP.out (swp_permIn _ _ _ _ _ hia hib (by omega) hkb (by rw [HC.out.st.size]; exact hbN))⟩
        case measure => simp [intOf]; omega
    · have elt : ¬ (i : Int) ≤ (j : Int) + 1 := by omega
      go_wp2
      go_end0
      exact ⟨rfl, dk, HP.out, C.st⟩
end Go.Proofs.YtikjhacgihohiaaDoor
