/- slices.Sort at uint16, over the program: what a row of numbers holds while it is sorted; cmp.Less; insertionSortOrdered. -/
import Derived.Test.YtikjhacgihohiaaDoorChecked
import Derived.WalkKit
import Derived.BigCall
import Derived.BigQuiet
import Derived.Shelf.SlSortCmp.Kit1
namespace Go.Proofs.YtikjhacgihohiaaDoor
open Go.RowKit Go.Sort
namespace Q
def enc (x : UInt16) : Value := .int .u16 (x.toNat : Int)
def lt (x y : UInt16) : Bool := decide (x.toNat < y.toNat)
theorem swo : SWO lt where
  irrefl x := by simp [lt]
  trans x y z h1 h2 := by simp only [lt, decide_eq_true_eq] at *; omega
  ntrans x y z h1 h2 := by simp only [lt, decide_eq_false_iff_not] at *; omega
/- the row of N numbers at g, o; what it holds in W -/
structure Rw (w0 : World) (g o N : Nat) : Prop where
  row : ∃ d0 : Array UInt16, d0.size = N ∧ Row1 enc w0 g o d0
  small : N < 4611686018427387904
structure St (w0 : World) (g o N : Nat) (d : Array UInt16) (W : World) : Prop where
  size : d.size = N
  sw : SW enc w0 g o d W
theorem St.look {w0 W : World} {g o N : Nat} {d : Array UInt16} (h : St w0 g o N d W) (R : Rw w0 g o N) :
    ∃ G : Nat → UInt16, Hid (∀ t, d[t]! = G t) ∧ (∀ t, t < N → W.cell? ⟨g, o + t, none⟩ = some (.int .u16 ((G t).toNat : Int))) ∧ (∀ t, t < N → W.frozen? ⟨g, o + t, none⟩ = false) := by
  obtain ⟨⟨d0, h0, R1⟩, _⟩ := R
  obtain ⟨hd, hS⟩ := h
  exact ⟨fun t => d[t]!, fun _ => rfl, fun t ht => hS.c1 R1 (by omega) t (by omega), fun t ht => hS.f1 R1 (by omega) t (by omega)⟩
theorem St.drewN {w0 W : World} {g o N : Nat} {d : Array UInt16} (h : St w0 g o N d W) (q : Nat) : St w0 g o N d (W.drewN q) := ⟨h.1, h.2.drewN q⟩
theorem St.swap {w0 W : World} {g o N : Nat} {d : Array UInt16} (h : St w0 g o N d W) (R : Rw w0 g o N) {G : Nat → UInt16} (hG : ∀ t, d[t]! = G t) (q i j : Nat) (hi : i < N) (hj : j < N) :
    St w0 g o N (swp d i j) (((W.drewN q).setCell ⟨g, o + i, none⟩ (.int .u16 ((G j).toNat : Int))).setCell ⟨g, o + j, none⟩ (.int .u16 ((G i).toNat : Int))) := by
  obtain ⟨⟨d0, h0, R1⟩, _⟩ := R
  obtain ⟨hd, hS⟩ := h
  refine ⟨by rw [size_swp]; exact hd, ?_⟩
  have := (hS.drewN q).swap R1.hblk i j (by omega) (by omega)
  rw [hG, hG] at this
  exact this
end Q
open Q
theorem nan_any (x : UInt16) (w : World) : Calls Tryd.prog 66 #[.int .u16 (x.toNat : Int)] w fun e w' => e = .returned (.bool false) ∧ w' = w := by
  go_enter Tryd.func66, Tryd.ntmps66
  go_wp2
  go_ret
  exact ⟨rfl, rfl⟩
theorem less_any (x y : UInt16) (w : World) : Calls Tryd.prog 53 #[.int .u16 (x.toNat : Int), .int .u16 (y.toNat : Int)] w fun e w' => e = .returned (.bool (lt x y)) ∧ w' = w := by
  unfold lt
  go_enter Tryd.func53, Tryd.ntmps53
  go_wp2_with (go_at_call 66; refine (nan_any x _).mono ?_; rintro e w' ⟨rfl, rfl⟩)
  go_ret
  exact ⟨rfl, rfl⟩
set_option maxHeartbeats 3200000 in
theorem ins_any (w0 w : World) (g o N cap a b : Nat) (d : Array UInt16) (R : Rw w0 g o N) (h : St w0 g o N d w) (hab : a ≤ b) (hb : b ≤ N) :
    Calls Tryd.prog 47 #[.slice (some ⟨g, o, none⟩) N cap, .int .i64 a, .int .i64 b] w fun e w' => e = .returned (.tuple #[]) ∧ St w0 g o N (Sort.insertionSort lt d a b) w' := by
  have hsm := R.small
  go_enter Tryd.func47, Tryd.ntmps47
  go_wp2
  go_loopw [6] (fun v W => ∃ (i : Nat) (dk : Array UInt16), v = .int .i64 (i : Int) ∧ a < i ∧ i ≤ b + 1 ∧ St w0 g o N dk W ∧ insOuter lt a b i dk = insOuter lt a b (a + 1) d) (fun v _ => b + 1 - (intOf v).toNat)
  case atStart => exact ⟨a + 1, d, by go_num, by omega, by omega, h, rfl⟩
  case round =>
    clear h
    obtain ⟨i, dk, rfl, hai, hib, hS, hO⟩ := hrel
    have HO : Hid _ := hO
    clear hO
    go_wp2
    · have hlt : i < b := by assumption
      go_loopw [7] (fun v W => ∃ (j : Nat) (dj : Array UInt16), v = .int .i64 (j : Int) ∧ a ≤ j ∧ j ≤ i ∧ St w0 g o N dj W ∧ insInner lt a j dj = insInner lt a i dk) (fun v _ => (intOf v).toNat)
      case atStart => exact ⟨i, dk, rfl, by omega, Nat.le_refl _, hS, rfl⟩
      case round =>
        clear hS
        obtain ⟨j, dj, rfl, haj, hji, hS, hI⟩ := hrel
        obtain ⟨G, HG, hc, hf⟩ := hS.look R
        have HS : Hid _ := hS
        have HI : Hid _ := hI
        clear hS hI
        have OUT : (j ≤ a ∨ lt (G j) (G (j - 1)) = false) → ∀ q, ∃ (i' : Nat) (dk' : Array UInt16), Value.int .i64 ((i : Int) + 1) = .int .i64 (i' : Int) ∧ a < i' ∧ i' ≤ b + 1 ∧ St w0 g o N dk' (wr.drewN q) ∧ insOuter lt a b i' dk' = insOuter lt a b (a + 1) d := fun hs q =>
          ⟨i + 1, dj, by go_num, by omega, by omega, HS.out.drewN q, by rw [← HO.out, insOuter_go _ _ _ _ _ hlt, ← HI.out, insInner_stop _ _ _ _ (by rw [HG.out, HG.out]; exact hs)]⟩
        have OUT' : Hid _ := OUT
        clear OUT
        go_wp2
        by_cases hja : a < j
        · go_quiet (first | (go_at_call 53; refine Calls.quiet_of_same (less_any _ _ _)))
          go_wp2
          · have hl : lt (G j) (G (j - 1)) = true := by assumption
            go_region
            all_goals go_wp2
            go_roundw
            case rel => exact ⟨j - 1, swp dj j (j - 1), by congr 1; omega, by omega, by omega, HS.out.swap R HG.out _ j (j - 1) (by omega) (by omega), by rw [← HI.out, insInner_go lt a j dj hja (by rw [HG.out, HG.out]; exact hl)]⟩
            case measure => simp [intOf]; omega
          · have hl : lt (G j) (G (j - 1)) = false := by assumption
            go_roundw
            case rel => exact OUT'.out (Or.inr hl) nq
            case measure => simp [intOf]; omega
        · go_quiet (first | (go_at_call 53; refine Calls.quiet_of_same (less_any _ _ _)))
          go_wp2
          go_roundw
          case rel => exact OUT'.out (Or.inl (by omega)) nq
          case measure => simp [intOf]; omega
    · have hge : ¬ i < b := by assumption
      go_end0
      exact ⟨rfl, by unfold Sort.insertionSort; rw [← HO.out, insOuter_stop _ _ _ _ _ hge]; exact hS⟩
end Go.Proofs.YtikjhacgihohiaaDoor
