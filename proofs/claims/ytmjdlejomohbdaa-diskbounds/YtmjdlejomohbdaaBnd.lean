/- The law DiskBounds, walked. -/
import Derived.Test.YtmjdlejomohbdaaKnw
namespace Go.Proofs.Ytmjdlejomohbdaa
open Go.RowKit
set_option maxRecDepth 5000 in
theorem bounds_new (w : World) (n z : Int) (N Z : Nat) (hn : min (max n 1) 4096 = (N : Int)) (hz : min (max z 64) 4096 = (Z : Int)) : Calls Try.prog 8 #[.int .i64 n, .int .i64 z] w fun e w' => e = .returned (.pointer (some ⟨w.heap.size + 2, 0, none⟩)) ∧ Below w.heap.size w w' ∧
    (Calls Try.prog 9 #[.pointer (some ⟨w.heap.size + 2, 0, none⟩)] w' fun e w'' => e = .returned (.int .i64 (N : Int)) ∧ w'' = w') ∧ (Calls Try.prog 10 #[.pointer (some ⟨w.heap.size + 2, 0, none⟩)] w' fun e w'' => e = .returned (.int .i64 (Z : Int)) ∧ w'' = w') :=
  (new_at (fun _ => False) w (fun _ h => h.elim) n z N Z (by omega) (by omega) (by omega) (by omega) hn hz).mono fun _ w' ⟨h1, h2, h3, _⟩ => ⟨h1, h3, sectors_any w' _ _ _ _ h2, size_any w' _ _ _ _ h2⟩
set_option maxHeartbeats 1000000 in
set_option maxRecDepth 5000 in
theorem bounds_walk (n z : Int) (w : World) : Calls Try.prog 4 #[.int .i64 n, .int .i64 z] w fun e w' => e = .returned (.bool true) ∧ Below w.heap.size w w' := by
  obtain ⟨N, hN⟩ : ∃ N : Nat, min (max n 1) 4096 = (N : Int) := ⟨(min (max n 1) 4096).toNat, by omega⟩
  have main : ∀ z' : Int, ∃ Z : Nat, min (max z' 64) 4096 = (Z : Int) := fun z' => ⟨(min (max z' 64) 4096).toNat, by omega⟩
  cases h1 : decide (n > 20)
  · obtain ⟨Z, hZ⟩ := main (min z 70000)
    clear main
    go_enter Try.func4, Try.ntmps4
    go_wp2_with (first
      | (go_at_call 6; refine (known_any _).mono ?_; rintro e w1 ⟨rfl, hB1⟩)
      | (go_at_call 8; refine (bounds_new _ n _ N Z hN hZ).mono ?_; rintro e w2 ⟨rfl, hB2, hse, hsi⟩)
      | (go_at_call 9; refine hse.mono ?_; rintro e w' ⟨rfl, hw⟩; rw [hw]; clear hw w')
      | (go_at_call 10; refine hsi.mono ?_; rintro e w' ⟨rfl, hw⟩; rw [hw]; clear hw w'))
    go_ret
    exact ⟨rfl, hB1.trans (hB2.mono hB1.size)⟩
  · cases h2 : decide (z > 100)
    · obtain ⟨Z, hZ⟩ := main (min z 70000)
      clear main
      go_enter Try.func4, Try.ntmps4
      go_wp2_with (first
        | (go_at_call 6; refine (known_any _).mono ?_; rintro e w1 ⟨rfl, hB1⟩)
        | (go_at_call 8; refine (bounds_new _ n _ N Z hN hZ).mono ?_; rintro e w2 ⟨rfl, hB2, hse, hsi⟩)
        | (go_at_call 9; refine hse.mono ?_; rintro e w' ⟨rfl, hw⟩; rw [hw]; clear hw w')
        | (go_at_call 10; refine hsi.mono ?_; rintro e w' ⟨rfl, hw⟩; rw [hw]; clear hw w'))
      go_ret
      exact ⟨rfl, hB1.trans (hB2.mono hB1.size)⟩
    · clear main
      go_enter Try.func4, Try.ntmps4
      go_wp2_with (first
        | (go_at_call 6; refine (known_any _).mono ?_; rintro e w1 ⟨rfl, hB1⟩)
        | (go_at_call 8; refine (bounds_new _ n 64 N 64 hN (by decide)).mono ?_; rintro e w2 ⟨rfl, hB2, hse, hsi⟩)
        | (go_at_call 9; refine hse.mono ?_; rintro e w' ⟨rfl, hw⟩; rw [hw]; clear hw w')
        | (go_at_call 10; refine hsi.mono ?_; rintro e w' ⟨rfl, hw⟩; rw [hw]; clear hw w'))
      go_ret
      exact ⟨rfl, hB1.trans (hB2.mono hB1.size)⟩
end Go.Proofs.Ytmjdlejomohbdaa
