/- wire.sound, of a message of questions alone. -/
import Derived.Test.YtpgebiopckmgbabGreatWrt
namespace Go.Proofs.YtpgebiopckmgbabGreat
open Go.RowKit
set_option maxHeartbeats 800000 in
set_option maxRecDepth 5000 in
theorem sound_q (i : Nat) (x1 x3 x4 x5 x6 : Bool) (x2 x7 : Int) (l : List (Option Addr × Nat × M.Q)) (a : Option Addr) (c : Nat) (w : World) (h2 : 0 ≤ x2 ∧ x2 ≤ 15) (h7 : 0 ≤ x7 ∧ x7 ≤ 15) (hs : SlQ w a l) (hl : l.length ≤ 65535) (hg : ∀ x ∈ l, M.Good x.2.2.name) :
    Calls Tryz.prog 15 #[.agg #[.int .u16 (i : Int), .bool x1, .int .i64 x2, .bool x3, .bool x4, .bool x5, .bool x6, .int .i64 x7, .slice a l.length c, .slice none 0 0, .slice none 0 0, .slice none 0 0, .bool false, .int .u16 0, .bool false]] w fun e w' => e = .returned (.bool true) ∧ Below w.heap.size w w' := by
  have HS := hide hs
  have HG := hide hg
  obtain ⟨p1, p2⟩ := h2
  obtain ⟨p3, p4⟩ := h7
  have q1 : ¬ x2 < 0 := by omega
  have q2 : ¬ (15 : Int) < x2 := by omega
  have q3 : ¬ x7 < 0 := by omega
  have q4 : ¬ (15 : Int) < x7 := by omega
  have R0 := hide (RowAt.new w 32 #[.int .u16 (i : Int), .bool x1, .int .i64 x2, .bool x3, .bool x4, .bool x5, .bool x6, .int .i64 x7, .slice a l.length c, .slice none 0 0, .slice none 0 0, .slice none 0 0, .bool false, .int .u16 0, .bool false])
  have B0 := hide ((Below.refl w.heap.size w).alloc (Nat.le_refl _) (.cells #[.int .u16 (i : Int), .bool x1, .int .i64 x2, .bool x3, .bool x4, .bool x5, .bool x6, .int .i64 x7, .slice a l.length c, .slice none 0 0, .slice none 0 0, .slice none 0 0, .bool false, .int .u16 0, .bool false] 32))
  clear hs hg
  go_enter Tryz.func15, Tryz.ntmps15
  go_wp2_with fail
  refine (soundQ_good l a c _ (by exact HS.out.below B0.out) hl HG.out).mono ?_
  rintro e w1 ⟨rfl, hb1⟩
  have r1 := R0.out.below hb1 R0.out.lt
  have B1 := hide (B0.out.trans (hb1.mono B0.out.size))
  have y9 : w1.cell? ⟨w.heap.size, 9, none⟩ = some (.slice none 0 0) := r1.cell 9
  have y10 : w1.cell? ⟨w.heap.size, 10, none⟩ = some (.slice none 0 0) := r1.cell 10
  have y11 : w1.cell? ⟨w.heap.size, 11, none⟩ = some (.slice none 0 0) := r1.cell 11
  clear hb1 r1 R0 B0
  go_wp2_with fail
  refine (soundR_nil _).mono ?_
  rintro e w2 ⟨rfl, rfl⟩
  go_wp2_with fail
  refine (soundR_nil _).mono ?_
  rintro e w2 ⟨rfl, rfl⟩
  go_wp2_with fail
  refine (soundR_nil _).mono ?_
  rintro e w2 ⟨rfl, rfl⟩
  go_wp2
  go_ret
  exact ⟨rfl, B1.out⟩
end Go.Proofs.YtpgebiopckmgbabGreat
