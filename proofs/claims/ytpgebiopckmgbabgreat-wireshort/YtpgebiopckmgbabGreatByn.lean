/- wire.Bytes, of a message whose Op or Code no header tells. -/
import Derived.Test.YtpgebiopckmgbabGreatBye
namespace Go.Proofs.YtpgebiopckmgbabGreat
open Go.RowKit
set_option maxHeartbeats 800000 in
set_option maxRecDepth 5000 in
theorem sound_no (i sz n8 c8 n9 c9 n10 c10 n11 c11 : Nat) (x1 x3 x4 x5 x6 xe xd : Bool) (x2 x7 : Int) (a a9 a10 a11 : Option Addr) (w : World) (h : x2 < 0 ∨ 15 < x2 ∨ x7 < 0 ∨ (if xe then 4095 else 15) < x7) :
    Calls Tryz.prog 15 #[.agg #[.int .u16 (i : Int), .bool x1, .int .i64 x2, .bool x3, .bool x4, .bool x5, .bool x6, .int .i64 x7, .slice a n8 c8, .slice a9 n9 c9, .slice a10 n10 c10, .slice a11 n11 c11, .bool xe, .int .u16 (sz : Int), .bool xd]] w fun e w' => e = .returned (.bool false) ∧ Below w.heap.size w w' := by
  have B0 := hide ((Below.refl w.heap.size w).alloc (Nat.le_refl _) (.cells #[.int .u16 (i : Int), .bool x1, .int .i64 x2, .bool x3, .bool x4, .bool x5, .bool x6, .int .i64 x7, .slice a n8 c8, .slice a9 n9 c9, .slice a10 n10 c10, .slice a11 n11 c11, .bool xe, .int .u16 (sz : Int), .bool xd] 32))
  obtain ⟨mo, hmo, HM⟩ : ∃ mo : Int, Hid ((xe = true → mo = 4095) ∧ (xe = false → mo = 15)) ∧ Hid (x2 < 0 ∨ 15 < x2 ∨ x7 < 0 ∨ mo < x7) := ⟨if xe then 4095 else 15, ⟨fun e => by simp [e], fun e => by simp [e]⟩, h⟩
  clear h
  cases xe
  case' false => obtain rfl := hmo.out.2 rfl
  case' true => obtain rfl := hmo.out.1 rfl
  all_goals
    clear hmo
    by_cases k1 : x2 < 0
    · have q1 : decide (x2 < 0) = true := by simpa using k1
      go_enter Tryz.func15, Tryz.ntmps15
      go_wp2
      go_ret
      exact ⟨rfl, B0.out⟩
    · have q1 : decide (x2 < 0) = false := by simpa using k1
      by_cases k2 : 15 < x2
      · have q2 : decide ((15 : Int) < x2) = true := by simpa using k2
        go_enter Tryz.func15, Tryz.ntmps15
        go_wp2
        go_ret
        exact ⟨rfl, B0.out⟩
      · have q2 : decide ((15 : Int) < x2) = false := by simpa using k2
        by_cases k3 : x7 < 0
        · have q3 : decide (x7 < 0) = true := by simpa using k3
          go_enter Tryz.func15, Tryz.ntmps15
          go_wp2
          go_ret
          exact ⟨rfl, B0.out⟩
        · have q3 : decide (x7 < 0) = false := by simpa using k3
          have k4 := HM.out
          simp only [k1, k2, k3, false_or] at k4
          go_enter Tryz.func15, Tryz.ntmps15
          go_wp2
          go_ret
          exact ⟨rfl, B0.out⟩
set_option maxRecDepth 5000 in
theorem bytes_no (i sz n8 c8 n9 c9 n10 c10 n11 c11 : Nat) (x1 x3 x4 x5 x6 xe xd : Bool) (x2 x7 : Int) (a a9 a10 a11 : Option Addr) (w : World) (h : x2 < 0 ∨ 15 < x2 ∨ x7 < 0 ∨ (if xe then 4095 else 15) < x7) :
    Calls Tryz.prog 8 #[.agg #[.int .u16 (i : Int), .bool x1, .int .i64 x2, .bool x3, .bool x4, .bool x5, .bool x6, .int .i64 x7, .slice a n8 c8, .slice a9 n9 c9, .slice a10 n10 c10, .slice a11 n11 c11, .bool xe, .int .u16 (sz : Int), .bool xd]] w fun e w' => e = .returned (.tuple #[.slice none 0 0, .int .i64 60]) ∧ Below w.heap.size w w' := by
  have R0 := hide (RowAt.new w 32 #[.int .u16 (i : Int), .bool x1, .int .i64 x2, .bool x3, .bool x4, .bool x5, .bool x6, .int .i64 x7, .slice a n8 c8, .slice a9 n9 c9, .slice a10 n10 c10, .slice a11 n11 c11, .bool xe, .int .u16 (sz : Int), .bool xd])
  have B0 := hide ((Below.refl w.heap.size w).alloc (Nat.le_refl _) (.cells #[.int .u16 (i : Int), .bool x1, .int .i64 x2, .bool x3, .bool x4, .bool x5, .bool x6, .int .i64 x7, .slice a n8 c8, .slice a9 n9 c9, .slice a10 n10 c10, .slice a11 n11 c11, .bool xe, .int .u16 (sz : Int), .bool xd] 32))
  have HN := hide h
  clear h
  go_enter Tryz.func8, Tryz.ntmps8
  go_wp2_with (refine wpList_load_row rfl 32 (.tmp 1) rfl w.heap.size rfl 32 #[.int .u16 (i : Int), .bool x1, .int .i64 x2, .bool x3, .bool x4, .bool x5, .bool x6, .int .i64 x7, .slice a n8 c8, .slice a9 n9 c9, .slice a10 n10 c10, .slice a11 n11 c11, .bool xe, .int .u16 (sz : Int), .bool xd] (0, 0) _ (by exact R0.out) Tryz.underlying32 rfl infoM ?_)
  refine (sound_no i sz n8 c8 n9 c9 n10 c10 n11 c11 x1 x3 x4 x5 x6 xe xd x2 x7 a a9 a10 a11 _ HN.out).mono ?_
  rintro e w1 ⟨rfl, hb1⟩
  have B1 := hide (B0.out.trans (hb1.mono B0.out.size))
  clear hb1
  go_wp2
  go_ret2
  exact ⟨rfl, B1.out⟩
end Go.Proofs.YtpgebiopckmgbabGreat
