/- slices.Sort at uint16: heapSortOrdered. -/
import Derived.Test.YtikjhacgihohiaaDoorSrtB
namespace Go.Proofs.YtikjhacgihohiaaDoor
open Go.RowKit Go.Sort Q
namespace Q
/- behind the first store of an exchange the second place still holds something -/
theorem two {W : World} {g o N : Nat} {G : Nat → UInt16} (hc : ∀ t, t < N → W.cell? ⟨g, o + t, none⟩ = some (.int .u16 ((G t).toNat : Int))) (i j : Nat) (hi : i < N) (hj : j < N) (v : Value) : ∃ u, (W.setCell ⟨g, o + i, none⟩ v).cell? ⟨g, o + j, none⟩ = some u := by
  by_cases e : i = j
  · subst e; exact ⟨v, World.cell?_setCell_same _ _ _ (hc i hi)⟩
  · exact ⟨_, (World.cell?_setCell_other _ _ _ _ (by intro e'; simp only [Addr.mk.injEq] at e'; omega)).trans (hc j hj)⟩
end Q
set_option maxHeartbeats 6400000 in
theorem heap_any (w0 w : World) (g o N cap a b : Nat) (d : Array UInt16) (R : Rw w0 g o N) (h : St w0 g o N d w) (hab : a ≤ b) (hb : b ≤ N) :
    Calls Tryd.prog 48 #[.slice (some ⟨g, o, none⟩) N cap, .int .i64 a, .int .i64 b] w fun e w' => e = .returned (.tuple #[]) ∧ St w0 g o N (Sort.heapSort lt d a b) w' := by
  have hsm := R.small
  obtain ⟨H, hH⟩ : ∃ H : Nat, b - a = H := ⟨_, rfl⟩
  have e0 : (b : Int) - (a : Int) = (H : Int) := by omega
  have hs := half_start hab
  rw [e0, hH] at hs
  have HB : Hid _ := hH
  clear hH
  go_enter Tryd.func48, Tryd.ntmps48
  go_wp2
  go_loopw [9] (fun v W => ∃ (k : Nat) (dk : Array UInt16), v = .int .i64 ((k : Int) - 1) ∧ k ≤ (H - 1) / 2 + 1 ∧ St w0 g o N dk W ∧ heapBuild lt H a k dk = heapBuild lt H a ((H - 1) / 2 + 1) d) (fun v _ => ((intOf v) + 1).toNat)
  case atStart => exact ⟨(H - 1) / 2 + 1, d, by congr 1; omega, Nat.le_refl _, h, rfl⟩
  case round =>
    clear h
    obtain ⟨k, dk, rfl, hk, hS, hO⟩ := hrel
    have HO : Hid _ := hO
    clear hO
    by_cases hk0 : k = 0
    · subst hk0
      have e1 : ((0 : Nat) : Int) - 1 = -1 := by omega
      rw [e1]
      clear e1
      go_wp2
      go_loopw [10] (fun v W => ∃ (k : Nat) (dj : Array UInt16), v = .int .i64 ((k : Int) - 1) ∧ k ≤ H ∧ St w0 g o N dj W ∧ heapPop lt a k dj = heapPop lt a H dk) (fun v _ => ((intOf v) + 1).toNat)
      case atStart => exact ⟨H, dk, rfl, Nat.le_refl _, hS, rfl⟩
      case round =>
        clear hS hk
        obtain ⟨k, dj, rfl, hk, hS, hP⟩ := hrel
        have HP : Hid _ := hP
        clear hP
        by_cases hk0 : k = 0
        · subst hk0
          go_wp2
          go_end0
          refine ⟨rfl, ?_⟩
          unfold Sort.heapSort
          have e := HO.out
          rw [heapBuild] at e
          rw [HB.out, ← e, ← HP.out]; exact hS
        · obtain ⟨m, rfl⟩ : ∃ m, k = m + 1 := ⟨k - 1, by omega⟩
          have e1 : ((m + 1 : Nat) : Int) - 1 = (m : Int) := by omega
          rw [e1] at *
          obtain ⟨G, HG, hc, hf⟩ := hS.look R
          have haN : a < N := by have := HB.out; omega
          have hamN : a + m < N := by have := HB.out; omega
          have HS : Hid _ := hS
          clear hS
          obtain ⟨x0, hx0⟩ := two hc a (a + m) haN hamN (.int .u16 ((G (a + m)).toNat : Int))
          go_wp2
          go_region
          all_goals go_wp2_with fail
          go_wp2_with (go_at_call 61; refine (sift_any w0 _ g o N cap 0 m a (swp dj a (a + m)) R (HS.out.swap R HG.out _ a (a + m) haN hamN) (by omega) (by omega)).mono ?_; rintro e w' ⟨rfl, hS'⟩)
          go_roundw
          case rel => exact ⟨m, _, rfl, by omega, hS', HP.out⟩
          case measure => simp [intOf]
    · obtain ⟨m, rfl⟩ : ∃ m, k = m + 1 := ⟨k - 1, by omega⟩
      have e1 : ((m + 1 : Nat) : Int) - 1 = (m : Int) := by omega
      rw [e1] at *
      go_wp2_with (go_at_call 61; refine (sift_any w0 _ g o N cap m H a dk R hS (by have := HB.out; omega) (by omega)).mono ?_; rintro e w' ⟨rfl, hS'⟩)
      go_roundw
      case rel => exact ⟨m, siftDown lt H a m dk, rfl, by omega, hS', HO.out⟩
      case measure => simp [intOf]
end Go.Proofs.YtikjhacgihohiaaDoor
