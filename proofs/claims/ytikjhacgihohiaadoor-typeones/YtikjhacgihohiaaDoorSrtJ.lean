/- slices.Sort at uint16: of any row, and of none. -/
import Derived.Test.YtikjhacgihohiaaDoorSrtI
namespace Go.Proofs.YtikjhacgihohiaaDoor
open Go.RowKit Go.Sort Q
theorem ins_none (v : Value) (w : World) : Calls Tryd.prog 47 #[v, .int .i64 0, .int .i64 0] w fun e w' => e = .returned (.tuple #[]) ∧ w' = w := by
  go_enter Tryd.func47, Tryd.ntmps47
  go_wp2
  go_loopw [6] (fun v W => v = .int .i64 1 ∧ W = w) (fun _ _ => 0)
  case atStart => exact ⟨rfl, rfl⟩
  case round =>
    obtain ⟨rfl, rfl⟩ := hrel
    go_wp2
    go_end0
    exact ⟨rfl, rfl⟩
theorem pdq_none (v : Value) (z : Int) (w : World) : Calls Tryd.prog 37 #[v, .int .i64 0, .int .i64 0, .int .i64 z] w fun e w' => e = .returned (.tuple #[]) ∧ w' = w := by
  go_enter Tryd.func37, Tryd.ntmps37
  go_wp2
  go_loopw [1, 2] (fun v u W => v = .int .i64 0 ∧ u = .int .i64 0 ∧ W = w) (fun _ _ _ => 0)
  case atStart => exact ⟨rfl, rfl, rfl⟩
  case round =>
    obtain ⟨rfl, rfl, rfl⟩ := hrel
    go_wp2_with (go_at_call 47; refine (ins_none _ _).mono ?_; rintro e w1 ⟨rfl, rfl⟩)
    (try simp only [Exit.inBlock, Exit.then]); refine bodyPost_ret (results_none rfl _ _ _) rfl ?_
    exact ⟨rfl, rfl⟩
theorem sort_none (ao : Option Addr) (cap : Nat) (w : World) : Calls Tryd.prog 30 #[.slice ao 0 cap] w fun e w' => e = .returned (.tuple #[]) ∧ w' = w := by
  go_enter Tryd.func30, Tryd.ntmps30
  go_wp2_with fail
  go_at_call 38
  refine (Tryd.bits_Len 0 _ (by omega) (by omega)).mono ?_
  rintro e w1 ⟨rfl, rfl⟩
  go_wp2_with fail
  go_at_call 37
  refine (pdq_none _ _ _).mono ?_
  rintro e w1 ⟨rfl, rfl⟩
  go_wp2
  go_end0
  exact ⟨rfl, rfl⟩
theorem sort_any (w : World) (g o N cap : Nat) (d : Array UInt16) (hd : d.size = N) (hN : N < 4611686018427387904) (hg : g < w.heap.size) (hH : Holds enc w g o d) :
    Calls Tryd.prog 30 #[.slice (some ⟨g, o, none⟩) N cap] w fun e w' => e = .returned (.tuple #[]) ∧ ∃ d', PermIn 0 N d d' ∧ SortedIn lt 0 N d' ∧ St w g o N d' w' := by
  have R : Rw w g o N := ⟨⟨d, hd, ⟨fun _ => rfl, hH, hg⟩⟩, hN⟩
  have h : St w g o N d w := ⟨hd, SW.start hH⟩
  have c0 := Tryd.bits_Len (N : Int) w (by omega) (by omega)
  generalize Lib.bitLen (N : Int).toNat = bl at c0
  have c1 := pdq_any w g o N cap R N w 0 N (bl : Int) d h (by omega) (Nat.le_refl _) (Or.inl rfl) rfl
  go_enter Tryd.func30, Tryd.ntmps30
  go_wp2_with fail
  go_at_call 38
  refine c0.mono ?_
  rintro e w1 ⟨rfl, rfl⟩
  go_wp2_with fail
  go_at_call 37
  refine c1.mono ?_
  rintro e w1 ⟨rfl, d', h1, h2, h3⟩
  go_wp2
  go_end0
  exact ⟨rfl, d', h1, h2, h3⟩
end Go.Proofs.YtikjhacgihohiaaDoor
