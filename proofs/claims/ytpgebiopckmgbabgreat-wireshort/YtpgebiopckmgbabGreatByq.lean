/- wire.Bytes, of a message of questions alone. -/
import Derived.Test.YtpgebiopckmgbabGreatBgm
import Derived.Test.YtpgebiopckmgbabGreatCon
namespace Go.Proofs.YtpgebiopckmgbabGreat
open Go.RowKit
set_option maxRecDepth 3000 in
set_option maxHeartbeats 2000000 in
theorem bytes_q (i fl : Nat) (x1 x3 x4 x5 x6 : Bool) (x2 x7 : Int) (l : List (Option Addr × Nat × M.Q)) (a : Option Addr) (c : Nat) (w : World) (hi : i < 65536) (hfl : fl < 65536) (h2 : 0 ≤ x2 ∧ x2 ≤ 15) (h7 : 0 ≤ x7 ∧ x7 ≤ 15)
    (hs : SlQ w a l) (hl : l.length ≤ 100) (hg : ∀ x ∈ l, M.Good x.2.2.name) (ht : ∀ x ∈ l, x.2.2.type < 65536 ∧ x.2.2.cls < 65536)
    (hF : Hid (∀ w' : World, Calls Tryz.prog 28 #[.agg #[.int .u16 (i : Int), .bool x1, .int .i64 x2, .bool x3, .bool x4, .bool x5, .bool x6, .int .i64 x7, .slice a l.length c, .slice none 0 0, .slice none 0 0, .slice none 0 0, .bool false, .int .u16 0, .bool false]] w' fun e w'' => e = .returned (.int .u16 (fl : Int)) ∧ Below w'.heap.size w' w'')) :
    Calls Tryz.prog 8 #[.agg #[.int .u16 (i : Int), .bool x1, .int .i64 x2, .bool x3, .bool x4, .bool x5, .bool x6, .int .i64 x7, .slice a l.length c, .slice none 0 0, .slice none 0 0, .slice none 0 0, .bool false, .int .u16 0, .bool false]] w fun e w' => ∃ v, e = .returned (.tuple #[v, .int .i64 0]) ∧ OwnB w' w.heap.size v (M.wqs (l.map (·.2.2)) (fun _ => none) (hdr i fl l.length 0 0 0)).2 ∧ Below w.heap.size w w' := by
  have HS := hide hs
  have HG := hide hg
  have HT := hide ht
  have H2 := hide h2
  have H7 := hide h7
  have R0 := hide (RowAt.new w 32 #[.int .u16 (i : Int), .bool x1, .int .i64 x2, .bool x3, .bool x4, .bool x5, .bool x6, .int .i64 x7, .slice a l.length c, .slice none 0 0, .slice none 0 0, .slice none 0 0, .bool false, .int .u16 0, .bool false])
  have B0 := hide ((Below.refl w.heap.size w).alloc (Nat.le_refl _) (.cells #[.int .u16 (i : Int), .bool x1, .int .i64 x2, .bool x3, .bool x4, .bool x5, .bool x6, .int .i64 x7, .slice a l.length c, .slice none 0 0, .slice none 0 0, .slice none 0 0, .bool false, .int .u16 0, .bool false] 32))
  have hz0 := B0.out.size
  clear hs hg ht h2 h7
  go_enter Tryz.func8, Tryz.ntmps8
  go_wp2_with (refine wpList_load_row rfl 32 (.tmp 1) rfl w.heap.size rfl 32 #[.int .u16 (i : Int), .bool x1, .int .i64 x2, .bool x3, .bool x4, .bool x5, .bool x6, .int .i64 x7, .slice a l.length c, .slice none 0 0, .slice none 0 0, .slice none 0 0, .bool false, .int .u16 0, .bool false] (0, 0) _ (by exact R0.out) Tryz.underlying32 rfl infoM ?_)
  refine (sound_q i x1 x3 x4 x5 x6 x2 x7 l a c _ H2.out H7.out (by exact HS.out.below B0.out) (by omega) HG.out).mono ?_
  rintro e w1 ⟨rfl, hb1⟩
  have R1 := hide (R0.out.below hb1 R0.out.lt)
  have B1 := hide (B0.out.trans (hb1.mono B0.out.size))
  have hz1 := B1.out.size
  have hlt1 := R1.out.lt
  clear hb1 R0 B0 hz0
  go_wp2_with (refine wpList_load_row rfl 32 (.tmp 1) rfl w.heap.size rfl 32 #[.int .u16 (i : Int), .bool x1, .int .i64 x2, .bool x3, .bool x4, .bool x5, .bool x6, .int .i64 x7, .slice a l.length c, .slice none 0 0, .slice none 0 0, .slice none 0 0, .bool false, .int .u16 0, .bool false] (0, 0) _ (by exact R1.out) Tryz.underlying32 rfl infoM ?_)
  refine (begun_any i 0 fl x1 x3 x4 x5 x6 false false x2 x7 l a none none none c 0 0 0 0 0 0 _ hi hfl (by exact HS.out.below (B1.out.mono (Nat.le_refl _))) hl HG.out HT.out (by omega) (by omega) (by simp) hF).mono ?_
  rintro e w2 ⟨rfl, K, hK, hlen, hb2, w0, _, hW2⟩
  simp only [Bool.toNat_false, Nat.add_zero] at hlen hW2
  obtain ⟨out, HO⟩ : ∃ out, Hid ((M.wqs (l.map (·.2.2)) (fun _ => none) (hdr i fl l.length 0 0 0)).2 = out) := ⟨_, rfl⟩
  rw [HO.out] at hlen hW2
  have HW2 := hide hW2
  have R2 := hide (R1.out.below hb2 R1.out.lt)
  have B2 := hide (B1.out.trans (hb2.mono B1.out.size))
  have hz2 := hb2.size
  have hlt2 := hW2.lt
  clear hb2 R1 hW2
  go_wp2_with (refine wpList_load_row rfl 32 (.tmp 1) rfl w.heap.size rfl 32 #[.int .u16 (i : Int), .bool x1, .int .i64 x2, .bool x3, .bool x4, .bool x5, .bool x6, .int .i64 x7, .slice a l.length c, .slice none 0 0, .slice none 0 0, .slice none 0 0, .bool false, .int .u16 0, .bool false] (0, 0) _ (by exact R2.out) Tryz.underlying32 rfl infoM ?_)
  refine (allRecords_nil i x1 x3 x4 x5 x6 x2 x7 l a c _).mono ?_
  rintro e w3 ⟨rfl, hb3⟩
  have HW3 := hide (HW2.out.below hb3 (by omega))
  have R3 := hide (R2.out.below hb3 R2.out.lt)
  have B3 := hide (B2.out.trans (hb3.mono B2.out.size))
  clear hb3 R2 HW2 B2
  go_wp2_with fail
  refine (wrrecords_nil _ _ _).mono ?_
  rintro e w4 ⟨rfl, rfl⟩
  obtain ⟨v, hRv, hOv, _, _⟩ := HW3.out
  obtain ⟨av, cv, rfl, _⟩ := hOv.open
  have y12 : w3.cell? ⟨w.heap.size, 12, none⟩ = some (.bool false) := R3.out.cell 12
  have yv : w3.cell? ⟨w1.heap.size + 1 + 1, 0, none⟩ = some (.slice av out.length cv) := hRv.cell 0
  have HOV := hide (hOv.lower (show w.heap.size ≤ w1.heap.size + 1 by omega))
  have hll : ¬ (65535 : Int) < (out.length : Int) := by omega
  clear hRv hOv R3
  go_wp2
  go_ret2
  refine ⟨_, rfl, ?_, B3.out⟩
  rw [HO.out]; exact HOV.out
end Go.Proofs.YtpgebiopckmgbabGreat
