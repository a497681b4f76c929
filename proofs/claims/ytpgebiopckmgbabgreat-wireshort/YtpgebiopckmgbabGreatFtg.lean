/- wire.fitting without EDNS. -/
import Derived.Test.YtpgebiopckmgbabGreatBya
namespace Go.Proofs.YtpgebiopckmgbabGreat
open Go.RowKit
set_option maxRecDepth 3000 in
set_option maxHeartbeats 2000000 in
theorem fitting_r (fl : Nat) (i : Nat) (x1 x3 x4 x5 x6 : Bool) (x2 x7 : Int) (l : List (Option Addr × Nat × M.Q)) (a : Option Addr) (c : Nat) (A : Nat → Option Addr) (ls : Nat → List RX) (C : Nat → Nat) (lim : Int) (w : World) (hi : i < 65536) (hfl : fl < 65536)
    (hs : SlQ w a l) (hl : l.length ≤ 100) (hg : ∀ x ∈ l, M.Good x.2.2.name) (ht : ∀ x ∈ l, x.2.2.type < 65536 ∧ x.2.2.cls < 65536) (hR : Secs w A ls C)
    (hF : Hid (∀ w' : World, Calls Tryz.prog 28 #[.agg #[.int .u16 (i : Int), .bool x1, .int .i64 x2, .bool x3, .bool x4, .bool x5, .bool x6, .int .i64 x7, .slice a l.length c, .slice (A 0) (ls 0).length (C 0), .slice (A 1) (ls 1).length (C 1), .slice (A 2) (ls 2).length (C 2), .bool false, .int .u16 0, .bool false]] w' fun e w'' => e = .returned (.int .u16 (fl : Int)) ∧ Below w'.heap.size w' w''))
    (q : (List UInt8 → Option Nat) × List UInt8) (hq : Hid (M.wqs (l.map (·.2.2)) (fun _ => none) (hdr i fl l.length (ls 0).length (ls 1).length (ls 2).length) = q))
    (hlim : (q.2.length : Int) ≤ lim) (n : Nat) (hn : Hid ((M.wrs lim ((cat ls 3).map (·.r)) q.1 q.2).2.2 = n)) :
    Calls Tryz.prog 39 #[.agg #[.int .u16 (i : Int), .bool x1, .int .i64 x2, .bool x3, .bool x4, .bool x5, .bool x6, .int .i64 x7, .slice a l.length c, .slice (A 0) (ls 0).length (C 0), .slice (A 1) (ls 1).length (C 1), .slice (A 2) (ls 2).length (C 2), .bool false, .int .u16 0, .bool false], .int .i64 lim] w fun e w' => e = .returned (.int .i64 (n : Int)) ∧ Below w.heap.size w w' := by
  have HS := hide hs
  have HG := hide hg
  have HT := hide ht
  have HSE := hide hR
  have R0 := hide (RowAt.new w 32 #[.int .u16 (i : Int), .bool x1, .int .i64 x2, .bool x3, .bool x4, .bool x5, .bool x6, .int .i64 x7, .slice a l.length c, .slice (A 0) (ls 0).length (C 0), .slice (A 1) (ls 1).length (C 1), .slice (A 2) (ls 2).length (C 2), .bool false, .int .u16 0, .bool false])
  have B0 := hide ((Below.refl w.heap.size w).alloc (Nat.le_refl _) (.cells #[.int .u16 (i : Int), .bool x1, .int .i64 x2, .bool x3, .bool x4, .bool x5, .bool x6, .int .i64 x7, .slice a l.length c, .slice (A 0) (ls 0).length (C 0), .slice (A 1) (ls 1).length (C 1), .slice (A 2) (ls 2).length (C 2), .bool false, .int .u16 0, .bool false] 32))
  have hf0 := hR.few 0 (by omega)
  have hf1 := hR.few 1 (by omega)
  have hf2 := hR.few 2 (by omega)
  clear hs hg ht hR
  go_enter Tryz.func39, Tryz.ntmps39
  go_wp2_with (refine wpList_load_row rfl 32 (.tmp 2) rfl w.heap.size rfl 32 #[.int .u16 (i : Int), .bool x1, .int .i64 x2, .bool x3, .bool x4, .bool x5, .bool x6, .int .i64 x7, .slice a l.length c, .slice (A 0) (ls 0).length (C 0), .slice (A 1) (ls 1).length (C 1), .slice (A 2) (ls 2).length (C 2), .bool false, .int .u16 0, .bool false] (0, 0) _ (by exact R0.out) Tryz.underlying32 rfl infoM ?_)
  have hXs : Hid ((w.alloc (.cells #[.int .u16 (i : Int), .bool x1, .int .i64 x2, .bool x3, .bool x4, .bool x5, .bool x6, .int .i64 x7, .slice a l.length c, .slice (A 0) (ls 0).length (C 0), .slice (A 1) (ls 1).length (C 1), .slice (A 2) (ls 2).length (C 2), .bool false, .int .u16 0, .bool false] 32)).heap.size = w.heap.size + 1) := World.size_alloc _ _
  generalize w.alloc (.cells #[.int .u16 (i : Int), .bool x1, .int .i64 x2, .bool x3, .bool x4, .bool x5, .bool x6, .int .i64 x7, .slice a l.length c, .slice (A 0) (ls 0).length (C 0), .slice (A 1) (ls 1).length (C 1), .slice (A 2) (ls 2).length (C 2), .bool false, .int .u16 0, .bool false] 32) = X at R0 B0 hXs ⊢
  refine (begun_any i 0 fl x1 x3 x4 x5 x6 false false x2 x7 l a (A 0) (A 1) (A 2) c (ls 0).length (C 0) (ls 1).length (C 1) (ls 2).length (C 2) _ hi hfl (by exact HS.out.below B0.out) hl HG.out HT.out (by omega) (by omega) (by simp; omega) hF).mono ?_
  rintro e w2 ⟨rfl, K, hK, hln, hb2, w0, hw0, hW2⟩
  simp only [Bool.toNat_false, Nat.add_zero] at hln hW2
  rw [hq.out] at hln hW2
  obtain ⟨v, hRv, hOv, hrest⟩ := hW2
  obtain ⟨av, cv, rfl, _⟩ := hOv.open
  have yv : w2.cell? ⟨X.heap.size + 1 + 1, 0, none⟩ = some (.slice av q.2.length cv) := hRv.cell 0
  have HW2 := hide (show WS _ _ _ _ _ _ _ _ from ⟨_, hRv, hOv, hrest⟩)
  have R2 := hide (R0.out.below hb2 R0.out.lt)
  have B2 := hide (B0.out.trans (hb2.mono B0.out.size))
  have hz2 := hb2.size
  have hlt2 := HW2.out.lt
  have hll : ¬ lim < (q.2.length : Int) := by omega
  have BW := hide (B0.out.trans (hw0.mono B0.out.size))
  clear hb2 R0 hRv hOv hrest hw0
  go_wp2_with (refine wpList_load_row rfl 32 (.tmp 2) rfl w.heap.size rfl 32 #[.int .u16 (i : Int), .bool x1, .int .i64 x2, .bool x3, .bool x4, .bool x5, .bool x6, .int .i64 x7, .slice a l.length c, .slice (A 0) (ls 0).length (C 0), .slice (A 1) (ls 1).length (C 1), .slice (A 2) (ls 2).length (C 2), .bool false, .int .u16 0, .bool false] (0, 0) _ (by exact R2.out) Tryz.underlying32 rfl infoM ?_)
  refine (allRecords_any i x1 x3 x4 x5 x6 x2 x7 l a c A ls C _ (by exact HSE.out.below B2.out)).mono ?_
  rintro e w3 ⟨ao, cc, rfl, hsl, hty, hb3⟩
  have HW3 := hide (HW2.out.below hb3 (by omega))
  have B3 := hide (B2.out.trans (hb3.mono B2.out.size))
  have HSL := hide hsl
  have HTY := hide hty
  have hz3 := hb3.size
  have hcl : (cat ls 3).length ≤ 100 := by simp only [cat, List.length_append, List.length_nil]; omega
  have HMM : Hid (∀ x ∈ cat ls 3, SlS w x.na x.r.name ∧ SlL w x.da x.r.data) := cat_ok (fun j hj x hx => ⟨((HSE.out.sl j hj).mem x hx).1, ((HSE.out.sl j hj).mem x hx).2.1⟩)
  clear hb3 hsl hty R2 HW2
  go_wp2_with fail
  refine (wsrecs HW3.out (cat ls 3) ao (cat ls 3).length cc rfl w HSL.out HTY.out HMM.out B3.out (by have := hXs.out; omega) (cat_ok HSE.out.ok) lim (by omega) (by omega) (by omega) (by omega) hcl hln hK).mono ?_
  rintro e w4 ⟨rfl, _, K4, _, hW4⟩
  rw [hn.out]
  obtain ⟨v, hRv, hOv, _, hKv⟩ := hW4
  have B4 := hide (BW.out.trans (hKv.1.mono (by have := hXs.out; omega)))
  clear hRv hOv
  go_wp2
  go_ret
  exact ⟨rfl, B4.out⟩
end Go.Proofs.YtpgebiopckmgbabGreat
