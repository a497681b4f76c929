/- wire.flags of any message. -/
import Derived.Test.YtpgebiopckmgbabGreatByn
namespace Go.Proofs.YtpgebiopckmgbabGreat
open Go.RowKit
def BitC (x : Bool) (f d : Nat) : Prop := ∀ w : World, Calls Tryz.prog 31 #[.bool x, .int .u16 (f : Int)] w fun e w' => e = .returned (.int .u16 (d : Int)) ∧ w = w'
set_option maxRecDepth 5000 in
theorem bitC (x : Bool) (f : Nat) : ∃ d : Nat, Hid ((if x then f else 0 : Nat) = d) ∧ Hid (BitC x f d) := ⟨_, rfl, fun w => bit_any x f w⟩
/- the header's second number -/
def M.fl (op cd : Nat) (x1 x3 x4 x5 x6 : Bool) : Nat := op * 2048 + cd % 16 + (if x1 then 32768 else 0) + (if x3 then 1024 else 0) + (if x4 then 512 else 0) + (if x5 then 256 else 0) + (if x6 then 128 else 0)
set_option maxRecDepth 5000 in
theorem and15 : ∀ cd < 4096, bits .and .i64 ((cd : Nat) : Int) 15 = ((cd % 16 : Nat) : Int) := by decide +kernel
set_option maxRecDepth 5000 in
theorem fl_ors : ∀ op < 16, ∀ r < 16, ∀ x1 x3 x4 x5 x6 : Bool, bits .or .u16 (bits .or .u16 (bits .or .u16 (bits .or .u16 (IntKind.u16.wrap (IntKind.u16.wrap ((op : Nat) : Int) * 2048)) (IntKind.u16.wrap ((r : Nat) : Int))) (bits .or .u16 (bits .or .u16 ((if x1 then 32768 else 0 : Nat) : Int) ((if x3 then 1024 else 0 : Nat) : Int)) ((if x4 then 512 else 0 : Nat) : Int))) ((if x5 then 256 else 0 : Nat) : Int)) ((if x6 then 128 else 0 : Nat) : Int) =
    ((op * 2048 + r + (if x1 then 32768 else 0) + (if x3 then 1024 else 0) + (if x4 then 512 else 0) + (if x5 then 256 else 0) + (if x6 then 128 else 0) : Nat) : Int) := by decide +kernel
set_option maxHeartbeats 1600000 in
set_option maxRecDepth 5000 in
theorem flags_any (i sz n8 c8 n9 c9 n10 c10 n11 c11 : Nat) (x1 x3 x4 x5 x6 xe xd : Bool) (x2 x7 : Int) (a a9 a10 a11 : Option Addr) (w : World) (op cd : Nat) (h2 : Hid (x2 = (op : Int))) (h7 : Hid (x7 = (cd : Int))) (hop : op < 16) (hcd : cd < 4096) :
    Calls Tryz.prog 28 #[.agg #[.int .u16 (i : Int), .bool x1, .int .i64 x2, .bool x3, .bool x4, .bool x5, .bool x6, .int .i64 x7, .slice a n8 c8, .slice a9 n9 c9, .slice a10 n10 c10, .slice a11 n11 c11, .bool xe, .int .u16 (sz : Int), .bool xd]] w fun e w' => e = .returned (.int .u16 (M.fl op cd x1 x3 x4 x5 x6 : Int)) ∧ Below w.heap.size w w' := by
  have HF := hide (fl_ors op hop (cd % 16) (Nat.mod_lt _ (by omega)) x1 x3 x4 x5 x6)
  rw [← and15 cd hcd, ← h2.out, ← h7.out] at HF
  obtain ⟨d1, HD1, HB1⟩ := bitC x1 32768
  obtain ⟨d3, HD3, HB3⟩ := bitC x3 1024
  obtain ⟨d4, HD4, HB4⟩ := bitC x4 512
  obtain ⟨d5, HD5, HB5⟩ := bitC x5 256
  obtain ⟨d6, HD6, HB6⟩ := bitC x6 128
  rw [HD1.out, HD3.out, HD4.out, HD5.out, HD6.out] at HF
  have R0 := hide (RowAt.new w 32 #[.int .u16 (i : Int), .bool x1, .int .i64 x2, .bool x3, .bool x4, .bool x5, .bool x6, .int .i64 x7, .slice a n8 c8, .slice a9 n9 c9, .slice a10 n10 c10, .slice a11 n11 c11, .bool xe, .int .u16 (sz : Int), .bool xd])
  have B0 := hide ((Below.refl w.heap.size w).alloc (Nat.le_refl _) (.cells #[.int .u16 (i : Int), .bool x1, .int .i64 x2, .bool x3, .bool x4, .bool x5, .bool x6, .int .i64 x7, .slice a n8 c8, .slice a9 n9 c9, .slice a10 n10 c10, .slice a11 n11 c11, .bool xe, .int .u16 (sz : Int), .bool xd] 32))
  go_enter Tryz.func28, Tryz.ntmps28
  go_wp2
  generalize w.alloc (.cells #[.int .u16 (i : Int), .bool x1, .int .i64 x2, .bool x3, .bool x4, .bool x5, .bool x6, .int .i64 x7, .slice a n8 c8, .slice a9 n9 c9, .slice a10 n10 c10, .slice a11 n11 c11, .bool xe, .int .u16 (sz : Int), .bool xd] 32) = X at R0 B0 ⊢
  have m1 : X.cell? ⟨w.heap.size, 1, none⟩ = some (.bool x1) := R0.out.cell 1
  have m3 : X.cell? ⟨w.heap.size, 3, none⟩ = some (.bool x3) := R0.out.cell 3
  have m4 : X.cell? ⟨w.heap.size, 4, none⟩ = some (.bool x4) := R0.out.cell 4
  have m5 : X.cell? ⟨w.heap.size, 5, none⟩ = some (.bool x5) := R0.out.cell 5
  have m6 : X.cell? ⟨w.heap.size, 6, none⟩ = some (.bool x6) := R0.out.cell 6
  go_region_held3 (fun w' => w'.cell? ⟨w.heap.size, 1, none⟩ = some (.bool x1) ∧ w'.cell? ⟨w.heap.size, 3, none⟩ = some (.bool x3) ∧ w'.cell? ⟨w.heap.size, 4, none⟩ = some (.bool x4)) ((first | (with_reducible exact ⟨m1, m3, m4⟩) | exact ⟨m1, m3, m4⟩)) ((first
    | (refine step_fn 31 #[.tmp 15, .const (.int .u16 32768)] _ rfl rfl #[.bool x1, .int .u16 ((32768 : Nat) : Int)] (by go_simp) (HB1.out _) (by rintro e w' ⟨rfl, _⟩; exact ⟨_, rfl⟩) ?_; rintro v1 w1 ⟨he, rfl⟩; cases he)
    | (refine step_fn 31 #[.tmp 18, .const (.int .u16 1024)] _ rfl rfl #[.bool x3, .int .u16 ((1024 : Nat) : Int)] (by go_simp) (HB3.out _) (by rintro e w' ⟨rfl, _⟩; exact ⟨_, rfl⟩) ?_; rintro v1 w1 ⟨he, rfl⟩; cases he)
    | (refine step_fn 31 #[.tmp 22, .const (.int .u16 512)] _ rfl rfl #[.bool x4, .int .u16 ((512 : Nat) : Int)] (by go_simp) (HB4.out _) (by rintro e w' ⟨rfl, _⟩; exact ⟨_, rfl⟩) ?_; rintro v1 w1 ⟨he, rfl⟩; cases he)))
  all_goals
    go_wp2
    replace m5 : X.drew.cell? ⟨w.heap.size, 5, none⟩ = some (.bool x5) := m5
    replace m6 : X.drew.cell? ⟨w.heap.size, 6, none⟩ = some (.bool x6) := m6
    go_region_held3 (fun w' => w'.cell? ⟨w.heap.size, 5, none⟩ = some (.bool x5) ∧ w'.cell? ⟨w.heap.size, 6, none⟩ = some (.bool x6)) ((first | (with_reducible exact ⟨m5, m6⟩) | exact ⟨m5, m6⟩)) ((first
      | (refine step_fn 31 #[.tmp 28, .const (.int .u16 256)] _ rfl rfl #[.bool x5, .int .u16 ((256 : Nat) : Int)] (by go_simp) (HB5.out _) (by rintro e w' ⟨rfl, _⟩; exact ⟨_, rfl⟩) ?_; rintro v1 w1 ⟨he, rfl⟩; cases he)
      | (refine step_fn 31 #[.tmp 32, .const (.int .u16 128)] _ rfl rfl #[.bool x6, .int .u16 ((128 : Nat) : Int)] (by go_simp) (HB6.out _) (by rintro e w' ⟨rfl, _⟩; exact ⟨_, rfl⟩) ?_; rintro v1 w1 ⟨he, rfl⟩; cases he)))
    all_goals
      go_wp2
      go_ret
      refine ⟨?_, B0.out.drew.drew⟩
      unfold M.fl
      rw [HD1.out, HD3.out, HD4.out, HD5.out, HD6.out]
      exact congrArg (fun z => Ending.returned (Value.int .u16 z)) HF.out
end Go.Proofs.YtpgebiopckmgbabGreat
