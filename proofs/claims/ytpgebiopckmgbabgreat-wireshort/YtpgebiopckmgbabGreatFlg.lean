/- wire.bit, flags of the known question; records, allRecords, of none. -/
import Derived.Test.YtpgebiopckmgbabGreatSnq
namespace Go.Proofs.YtpgebiopckmgbabGreat
open Go.RowKit
set_option maxRecDepth 5000 in
theorem bit_any (b : Bool) (f : Nat) (w : World) : Calls Tryz.prog 31 #[.bool b, .int .u16 (f : Int)] w fun e w' => e = .returned (.int .u16 ((if b then f else 0 : Nat) : Int)) ∧ w = w' := by
  cases b
  · go_enter Tryz.func31, Tryz.ntmps31
    go_wp2
    go_ret
    exact ⟨rfl, rfl⟩
  · go_enter Tryz.func31, Tryz.ntmps31
    go_wp2
    go_ret
    exact ⟨rfl, rfl⟩
set_option maxRecDepth 5000 in
theorem grow_nil (w : World) : Calls Tryz.prog 47 #[.slice none 0 0, .int .i64 0] w fun e w' => e = .returned (.slice none 0 0) ∧ w = w' := by
  go_enter Tryz.func47, Tryz.ntmps47
  go_wp2
  go_ret
  exact ⟨rfl, rfl⟩
set_option maxRecDepth 5000 in
theorem wrrecords_nil (W : Nat) (k : Int) (w : World) : Calls Tryz.prog 17 #[.pointer (some ⟨W, 0, none⟩), .slice none 0 0, .int .i64 k] w fun e w' => e = .returned (.int .i64 0) ∧ w = w' := by
  go_enter Tryz.func17, Tryz.ntmps17
  go_wp2
  go_loopw [11] (fun i wr => i = .int .i64 0 ∧ w = wr) (fun _ _ => 0)
  case atStart => exact ⟨rfl, rfl⟩
  case round =>
    obtain ⟨rfl, rfl⟩ := hrel
    go_wp2
    go_ret
    exact ⟨rfl, rfl⟩
set_option maxHeartbeats 800000 in
set_option maxRecDepth 5000 in
theorem flags_known (i : Nat) (l : List (Option Addr × Nat × M.Q)) (a : Option Addr) (c : Nat) (w : World) :
    Calls Tryz.prog 28 #[.agg #[.int .u16 (i : Int), .bool false, .int .i64 0, .bool false, .bool false, .bool true, .bool false, .int .i64 0, .slice a l.length c, .slice none 0 0, .slice none 0 0, .slice none 0 0, .bool false, .int .u16 0, .bool false]] w fun e w' => e = .returned (.int .u16 256) ∧ Below w.heap.size w w' := by
  have o1 : bits .and .i64 0 15 = 0 := by decide
  have o2 : bits .or .u16 0 0 = 0 := by decide
  have o3 : bits .or .u16 0 256 = 256 := by decide
  have o4 : bits .or .u16 256 0 = 256 := by decide
  have R0 := hide (RowAt.new w 32 #[.int .u16 (i : Int), .bool false, .int .i64 0, .bool false, .bool false, .bool true, .bool false, .int .i64 0, .slice a l.length c, .slice none 0 0, .slice none 0 0, .slice none 0 0, .bool false, .int .u16 0, .bool false])
  have B0 := hide ((Below.refl w.heap.size w).alloc (Nat.le_refl _) (.cells #[.int .u16 (i : Int), .bool false, .int .i64 0, .bool false, .bool false, .bool true, .bool false, .int .i64 0, .slice a l.length c, .slice none 0 0, .slice none 0 0, .slice none 0 0, .bool false, .int .u16 0, .bool false] 32))
  go_enter Tryz.func28, Tryz.ntmps28
  go_wp2
  generalize w.alloc (.cells #[.int .u16 (i : Int), .bool false, .int .i64 0, .bool false, .bool false, .bool true, .bool false, .int .i64 0, .slice a l.length c, .slice none 0 0, .slice none 0 0, .slice none 0 0, .bool false, .int .u16 0, .bool false] 32) = X at R0 B0 ⊢
  have m1 : X.cell? ⟨w.heap.size, 1, none⟩ = some (.bool false) := R0.out.cell 1
  have m3 : X.cell? ⟨w.heap.size, 3, none⟩ = some (.bool false) := R0.out.cell 3
  have m4 : X.cell? ⟨w.heap.size, 4, none⟩ = some (.bool false) := R0.out.cell 4
  have m5 : X.cell? ⟨w.heap.size, 5, none⟩ = some (.bool true) := R0.out.cell 5
  have m6 : X.cell? ⟨w.heap.size, 6, none⟩ = some (.bool false) := R0.out.cell 6
  go_region_held3 (fun w' => w'.cell? ⟨w.heap.size, 1, none⟩ = some (.bool false) ∧ w'.cell? ⟨w.heap.size, 3, none⟩ = some (.bool false) ∧ w'.cell? ⟨w.heap.size, 4, none⟩ = some (.bool false)) ((first | (with_reducible exact ⟨m1, m3, m4⟩) | exact ⟨m1, m3, m4⟩)) ((first
    | (refine step_fn 31 #[.tmp 15, .const (.int .u16 32768)] _ rfl rfl #[.bool false, .int .u16 ((32768 : Nat) : Int)] (by go_simp) (bit_any false 32768 _) (by rintro e w' ⟨rfl, _⟩; exact ⟨_, rfl⟩) ?_; rintro v1 w1 ⟨he, rfl⟩; cases he)
    | (refine step_fn 31 #[.tmp 18, .const (.int .u16 1024)] _ rfl rfl #[.bool false, .int .u16 ((1024 : Nat) : Int)] (by go_simp) (bit_any false 1024 _) (by rintro e w' ⟨rfl, _⟩; exact ⟨_, rfl⟩) ?_; rintro v1 w1 ⟨he, rfl⟩; cases he)
    | (refine step_fn 31 #[.tmp 22, .const (.int .u16 512)] _ rfl rfl #[.bool false, .int .u16 ((512 : Nat) : Int)] (by go_simp) (bit_any false 512 _) (by rintro e w' ⟨rfl, _⟩; exact ⟨_, rfl⟩) ?_; rintro v1 w1 ⟨he, rfl⟩; cases he)))
  all_goals
    go_wp2
    replace m5 : X.drew.cell? ⟨w.heap.size, 5, none⟩ = some (.bool true) := m5
    replace m6 : X.drew.cell? ⟨w.heap.size, 6, none⟩ = some (.bool false) := m6
    go_region_held3 (fun w' => w'.cell? ⟨w.heap.size, 5, none⟩ = some (.bool true) ∧ w'.cell? ⟨w.heap.size, 6, none⟩ = some (.bool false)) ((first | (with_reducible exact ⟨m5, m6⟩) | exact ⟨m5, m6⟩)) ((first
      | (refine step_fn 31 #[.tmp 28, .const (.int .u16 256)] _ rfl rfl #[.bool true, .int .u16 ((256 : Nat) : Int)] (by go_simp) (bit_any true 256 _) (by rintro e w' ⟨rfl, _⟩; exact ⟨_, rfl⟩) ?_; rintro v1 w1 ⟨he, rfl⟩; cases he)
      | (refine step_fn 31 #[.tmp 32, .const (.int .u16 128)] _ rfl rfl #[.bool false, .int .u16 ((128 : Nat) : Int)] (by go_simp) (bit_any false 128 _) (by rintro e w' ⟨rfl, _⟩; exact ⟨_, rfl⟩) ?_; rintro v1 w1 ⟨he, rfl⟩; cases he)))
    all_goals
      go_wp2
      go_ret
      exact ⟨rfl, B0.out.drew.drew⟩
end Go.Proofs.YtpgebiopckmgbabGreat
