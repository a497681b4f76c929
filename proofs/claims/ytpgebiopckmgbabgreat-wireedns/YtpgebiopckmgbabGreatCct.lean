/- slices.Concat, allRecords, of none. -/
import Derived.Test.YtpgebiopckmgbabGreatFlg
namespace Go.Proofs.YtpgebiopckmgbabGreat
open Go.RowKit
set_option maxRecDepth 5000 in
theorem infoR : (Tryz.prog.info? 39).isSome = true := by kernel_rfl
set_option maxRecDepth 5000 in
theorem concat_nils (g : Nat) (w : World) (hR : RowAt w g 30 #[.slice none 0 0, .slice none 0 0, .slice none 0 0]) :
    Calls Tryz.prog 30 #[.slice (some ⟨g, 0, none⟩) 3 3] w fun e w' => e = .returned (.slice none 0 0) ∧ w = w' := by
  have c0 : w.cell? ⟨g, 0, none⟩ = some (.slice none 0 0) := hR.cell 0
  have c1 : w.cell? ⟨g, 1, none⟩ = some (.slice none 0 0) := hR.cell 1
  have c2 : w.cell? ⟨g, 2, none⟩ = some (.slice none 0 0) := hR.cell 2
  obtain ⟨i0, hi⟩ := Option.isSome_iff_exists.1 infoR
  have HI := hide hi
  clear hR hi
  go_enter Tryz.func30, Tryz.ntmps30
  go_wp2
  go_loopw [3, 11] (fun z i wr => z = .int .i64 0 ∧ (∃ j : Nat, i = .int .i64 (j : Int) ∧ j ≤ 3) ∧ w = wr) (fun _ i _ => 3 - (intOf i).toNat)
  case atStart => exact ⟨rfl, ⟨0, rfl, by omega⟩, rfl⟩
  case round =>
    obtain ⟨rfl, ⟨j, rfl, hj⟩, rfl⟩ := hrel
    by_cases h3 : j < 3
    · have q1 : (j : Int) < 3 := by omega
      have cj : w.cell? ⟨g, j, none⟩ = some (.slice none 0 0) := by
        have hjj : j = 0 ∨ j = 1 ∨ j = 2 := by omega
        rcases hjj with rfl | rfl | rfl
        · exact c0
        · exact c1
        · exact c2
      go_wp2
      go_roundw
      case rel => exact ⟨rfl, ⟨j + 1, by go_num, by omega⟩, trivial⟩
      case measure => simp [intOf]; omega
    · obtain rfl : j = 3 := by omega
      go_wp2_with fail
      refine (grow_nil _).mono ?_
      rintro e w1 ⟨rfl, rfl⟩
      go_wp2
      go_loopw [6, 27] (fun z i wr => z = .slice none 0 0 ∧ (∃ j : Nat, i = .int .i64 (j : Int) ∧ j ≤ 3) ∧ w = wr) (fun _ i _ => 3 - (intOf i).toNat)
      case atStart => exact ⟨rfl, ⟨0, rfl, by omega⟩, rfl⟩
      case round =>
        obtain ⟨rfl, ⟨j, rfl, hj2⟩, rfl⟩ := hrel
        by_cases h4 : j < 3
        · have q1 : (j : Int) < 3 := by omega
          have cj : w.cell? ⟨g, j, none⟩ = some (.slice none 0 0) := by
            have hjj : j = 0 ∨ j = 1 ∨ j = 2 := by omega
            rcases hjj with rfl | rfl | rfl
            · exact c0
            · exact c1
            · exact c2
          go_wp2_with (at_builtin; refine wpList_append_own_none rfl (.tmp 31) (.tmp 32) 30 rfl 0 39 i0 5 Tryz.underlying30 HI.out (.slice none 0 0) 0 [] rfl (World.ownsRow_nil _ _ _ _) rfl ?_)
          go_roundw
          case rel => exact ⟨rfl, ⟨j + 1, by go_num, by omega⟩, trivial⟩
          case measure => simp [intOf]; omega
        · obtain rfl : j = 3 := by omega
          go_wp2
          go_ret
          exact ⟨rfl, rfl⟩
set_option maxRecDepth 5000 in
theorem allRecords_nil (i : Nat) (x1 x3 x4 x5 x6 : Bool) (x2 x7 : Int) (l : List (Option Addr × Nat × M.Q)) (a : Option Addr) (c : Nat) (w : World) :
    Calls Tryz.prog 18 #[.agg #[.int .u16 (i : Int), .bool x1, .int .i64 x2, .bool x3, .bool x4, .bool x5, .bool x6, .int .i64 x7, .slice a l.length c, .slice none 0 0, .slice none 0 0, .slice none 0 0, .bool false, .int .u16 0, .bool false]] w fun e w' => e = .returned (.slice none 0 0) ∧ Below w.heap.size w w' := by
  have B0 := hide (((Below.refl w.heap.size w).alloc (Nat.le_refl _) (.cells #[.int .u16 (i : Int), .bool x1, .int .i64 x2, .bool x3, .bool x4, .bool x5, .bool x6, .int .i64 x7, .slice a l.length c, .slice none 0 0, .slice none 0 0, .slice none 0 0, .bool false, .int .u16 0, .bool false] 32)).alloc (by simp) (.cells #[.slice none 0 0, .slice none 0 0, .slice none 0 0] 30))
  have R0 : Hid (RowAt ((w.alloc (.cells #[.int .u16 (i : Int), .bool x1, .int .i64 x2, .bool x3, .bool x4, .bool x5, .bool x6, .int .i64 x7, .slice a l.length c, .slice none 0 0, .slice none 0 0, .slice none 0 0, .bool false, .int .u16 0, .bool false] 32)).alloc (.cells #[.slice none 0 0, .slice none 0 0, .slice none 0 0] 30)) (w.heap.size + 1) 30 #[.slice none 0 0, .slice none 0 0, .slice none 0 0]) := by
    have h := RowAt.new (w.alloc (.cells #[.int .u16 (i : Int), .bool x1, .int .i64 x2, .bool x3, .bool x4, .bool x5, .bool x6, .int .i64 x7, .slice a l.length c, .slice none 0 0, .slice none 0 0, .slice none 0 0, .bool false, .int .u16 0, .bool false] 32)) 30 #[.slice none 0 0, .slice none 0 0, .slice none 0 0]
    rw [World.size_alloc] at h; exact h
  go_enter Tryz.func18, Tryz.ntmps18
  go_wp2_with fail
  refine (concat_nils (w.heap.size + 1) _ (by exact R0.out)).mono ?_
  rintro e w1 ⟨rfl, rfl⟩
  go_wp2
  go_ret
  exact ⟨rfl, B0.out⟩
end Go.Proofs.YtpgebiopckmgbabGreat
