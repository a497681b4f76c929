/- The law JournalSums. -/
import Derived.Test.YtidocfajhhpfdaaDoorJkn
namespace Go.Proofs.YtidocfajhhpfdaaDoor
open Go.RowKit
set_option maxHeartbeats 2000000 in
set_option maxRecDepth 5000 in
theorem sums_walk (w : World) (ht : Tab w) (ao : Option Addr) (c : Nat) (l : List UInt8) (hm : l.length ≤ 9223372036854775807) (hs : SlL w ao l) :
    Calls Tryd.prog 3 #[.slice ao l.length c] w fun e w' => e = .returned (.bool true) ∧ Below w.heap.size w w' := by
  have hk := known_any w ht
  have HT := hide ht
  have HS := hide hs
  have hpos := ht.1
  clear ht hs
  go_enter Tryd.func3, Tryd.ntmps3
  by_cases h5 : 5000 < l.length
  · have h5' : (5000 : Int) < (l.length : Int) := by omega
    go_wp2_with (go_at_call 9; refine hk.mono ?_; rintro e w1 ⟨rfl, hB⟩; have B1 := hide hB; clear hB)
    go_ret
    exact ⟨rfl, B1.out⟩
  · have h5' : ¬ (5000 : Int) < (l.length : Int) := by omega
    have hc1 : ∀ W, Below w.heap.size w W → Calls Tryd.prog 10 #[.slice ao l.length c] W fun e w' => e = .returned (.int .u32 (J.crc l : Int)) ∧ w' = W := fun W hW => crc_tab W (HT.out.below hW hpos) ao c l (by omega) (HS.out.below hW (Nat.le_refl _))
    have hc2 : ∀ W, Below w.heap.size w W → Calls Tryd.prog 11 #[.slice ao l.length c] W fun e w' => e = .returned (.int .u32 (J.crc l : Int)) ∧ w' = W := fun W hW => lcrc_any W ao c l (by omega) (HS.out.below hW (Nat.le_refl _))
    generalize J.crc l = X at hc1 hc2
    go_wp2_with (first
      | (go_at_call 9; refine hk.mono ?_; rintro e w1 ⟨rfl, hB⟩; have B1 := hide hB; clear hB)
      | (go_at_call 10; refine (hc1 _ B1.out).mono ?_; rintro e w' ⟨rfl, hw⟩; rw [hw]; clear hw w')
      | (go_at_call 11; refine (hc2 _ B1.out).mono ?_; rintro e w' ⟨rfl, hw⟩; rw [hw]; clear hw w'))
    go_ret
    exact ⟨rfl, B1.out⟩
end Go.Proofs.YtidocfajhhpfdaaDoor
