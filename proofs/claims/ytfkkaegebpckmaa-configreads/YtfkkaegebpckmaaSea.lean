/- signetseat.Apex, signetseat.Config(5); signetlaw14.light. -/
import Derived.Test.YtfkkaegebpckmaaDec
namespace Go.Proofs.Ytfkkaegebpckmaa
open Go.RowKit
namespace C
def seat : Cf := ⟨[[101, 120, 97, 109, 112, 108, 101]], 20, 1, 8, 0, 300, 100, 20, 60, [], 0, 6, 1400⟩
set_option maxRecDepth 5000 in
theorem seat_ok : Ok seat := ⟨by decide, by decide, by decide, by decide, by decide, by decide, by decide, by decide, by decide, by decide, by decide, by decide⟩
set_option maxRecDepth 5000 in
theorem seat_good : Good seat := by unfold Good Times; decide +kernel
set_option maxRecDepth 5000 in
theorem seat_small : N.Small seat.apex := ⟨by decide, by decide⟩
set_option maxRecDepth 5000 in
theorem seat_size : N.size seat.apex = 9 := by decide +kernel
end C
set_option maxRecDepth 5000 in
theorem apex_any (w : World) : Calls Try.prog 34 #[] w fun e w' => ∃ a c, e = .returned (.slice a 1 c) ∧ OwnS w' w.heap.size (.slice a 1 c) C.seat.apex ∧ Below w.heap.size w w' := by
  go_enter Try.func34, Try.ntmps34
  go_wp2
  go_ret
  exact ⟨_, _, rfl, ⟨rfl, Or.inr ⟨w.heap.size, 1, _, rfl, Nat.le_refl _, heap_alloc_last w _, by decide, by unfold maxLen; omega, rfl, rfl⟩⟩, (Below.refl _ _).alloc (Nat.le_refl _) _⟩
set_option maxRecDepth 5000 in
theorem light_c (x : C.Cf) (a0 a9 : Option Addr) (la c0 ls c9 : Nat) (w : World) (hla : Hid (x.apex.length = la)) (hs : SlS w a0 x.apex) (hm : la ≤ 9223372036854775807) (hm9 : ls ≤ 9223372036854775807) :
    Calls Try.prog 8 #[.agg #[.slice a0 la c0, .int .u32 (x.k : Int), .int .u32 (x.p : Int), .int .u32 (x.d : Int), .int .u32 (x.e : Int), .int .u32 (x.v : Int), .int .u32 (x.l : Int), .int .u32 (x.g : Int), .int .u32 (x.m : Int), .slice a9 ls c9, .int .u16 (x.it : Int), .int .i64 x.h, .int .u16 (x.sz : Int)]] w fun e w' => ∃ t, e = .returned (.bool t) ∧ (t = true → Light x.apex ∧ ls ≤ 300) ∧ Below w.heap.size w w' := by
  have HS := hide hs
  clear hs
  have HB0 : Hid (Below w.heap.size w (w.alloc (.cells #[.slice a0 la c0, .int .u32 (x.k : Int), .int .u32 (x.p : Int), .int .u32 (x.d : Int), .int .u32 (x.e : Int), .int .u32 (x.v : Int), .int .u32 (x.l : Int), .int .u32 (x.g : Int), .int .u32 (x.m : Int), .slice a9 ls c9, .int .u16 (x.it : Int), .int .i64 x.h, .int .u16 (x.sz : Int)] 28))) := (Below.refl w.heap.size w).alloc (Nat.le_refl _) _
  go_enter Try.func8, Try.ntmps8
  go_wp2_with fail
  refine (light_any x.apex a0 la c0 _ hla (by exact HS.out.alloc _) hm).mono ?_
  rintro e w' ⟨t, rfl, ht, rfl⟩
  have HT := hide ht
  clear ht
  cases t
  · go_wp2
    go_ret
    exact ⟨false, rfl, fun h => (by cases h), HB0.out⟩
  · go_wp2
    go_ret
    exact ⟨_, rfl, fun h => ⟨HT.out (by trivial), by have := of_decide_eq_true h; omega⟩, HB0.out⟩
set_option maxRecDepth 5000 in
theorem infoZ : (Try.prog.info? 28).map (·.size) = some zeroC.size := by kernel_rfl
set_option maxHeartbeats 3000000 in
set_option maxRecDepth 5000 in
theorem seat_any (w : World) : Calls Try.prog 17 #[.int .u16 5] w fun e w' => ∃ (a0 a9 : Option Addr) (c0 c9 : Nat), e = .returned (.agg #[.slice a0 1 c0, .int .u32 20, .int .u32 1, .int .u32 8, .int .u32 0, .int .u32 300, .int .u32 100, .int .u32 20, .int .u32 60, .slice a9 0 c9, .int .u16 0, .int .i64 6, .int .u16 1400]) ∧ SlS w' a0 C.seat.apex ∧ (a9 = none → c9 = 0) ∧ Below w.heap.size w w' := by
  have HR0 := hide (RowAt.new w 28 zeroC)
  have HB0 : Hid (Below w.heap.size w (w.alloc (.cells zeroC 28))) := (Below.refl w.heap.size w).alloc (Nat.le_refl _) _
  have e1 : bits .and .u16 5 3 = 1 := by decide
  have e2 : bits .and .u16 1 3 = 1 := by decide
  have e3 : bits .and .u16 0 3 = 0 := by decide
  go_enter Try.func17, Try.ntmps17
  go_wp2_with fail
  refine (apex_any _).mono ?_
  rintro e w1 ⟨a0, c0, rfl, hs, hb⟩
  have HR1 : Hid (RowAt w1 w.heap.size 28 zeroC) := HR0.out.below hb (by simp)
  have HB1 : Hid (Below w.heap.size w w1) := HB0.out.trans (hb.mono (by simp))
  have hw1 : w.heap.size + 1 ≤ w1.heap.size := by have := hb.size; rw [size_alloc] at this; exact this
  rw [size_alloc] at hs
  have HS := hide hs
  clear hs hb HR0 HB0
  go_wp2_with (first
    | (refine wpList_store_absR rfl 28 (.tmp 3) (.tmp 27) rfl w1.heap.size #[.slice a0 1 c0, .int .u32 20, .int .u32 1, .int .u32 8, .int .u32 0, .int .u32 300, .int .u32 100, .int .u32 20, .int .u32 60, .slice none 0 0, .int .u16 0, .int .i64 6, .int .u16 16000] rfl rfl 28 zeroC (RowAt.new w1 28 zeroC) (by exact infoCf) rfl (by kernel_rfl) w1.heap.size (Nat.le_refl _) ?_; intro w2 hR2 hB2; have hlt2 := hR2.lt; have x9 := hR2.cell 9; have f9 := hR2.frozen 9; have x12 := hR2.cell 12; have f12 := hR2.frozen 12; have hR4 : RowAt (w2.setCell ⟨w1.heap.size, 9, none⟩ (.slice (some ⟨w2.heap.size, 0, none⟩) 0 3)) w1.heap.size 28 #[.slice a0 1 c0, .int .u32 20, .int .u32 1, .int .u32 8, .int .u32 0, .int .u32 300, .int .u32 100, .int .u32 20, .int .u32 60, .slice (some ⟨w2.heap.size, 0, none⟩) 0 3, .int .u16 0, .int .i64 6, .int .u16 16000] := hR2.set 9 (.slice (some ⟨w2.heap.size, 0, none⟩) 0 3); have hR5 : RowAt ((w2.setCell ⟨w1.heap.size, 9, none⟩ (.slice (some ⟨w2.heap.size, 0, none⟩) 0 3)).setCell ⟨w1.heap.size, 12, none⟩ (.int .u16 1400)) w1.heap.size 28 #[.slice a0 1 c0, .int .u32 20, .int .u32 1, .int .u32 8, .int .u32 0, .int .u32 300, .int .u32 100, .int .u32 20, .int .u32 60, .slice (some ⟨w2.heap.size, 0, none⟩) 0 3, .int .u16 0, .int .i64 6, .int .u16 1400] := hR4.set 12 (.int .u16 1400); have HR5 := hide (hR5.alloc (.cells #[.int .u8 170, .int .u8 187, .int .u8 204] 5)); have HB5 : Hid (Below w1.heap.size w1 (((w2.setCell ⟨w1.heap.size, 9, none⟩ (.slice (some ⟨w2.heap.size, 0, none⟩) 0 3)).setCell ⟨w1.heap.size, 12, none⟩ (.int .u16 1400)).alloc (.cells #[.int .u8 170, .int .u8 187, .int .u8 204] 5))) := (((((Below.refl w1.heap.size w1).alloc (Nat.le_refl _) _).trans hB2).setCell (p := ⟨w1.heap.size, 9, none⟩) (Nat.le_refl _) _).setCell (p := ⟨w1.heap.size, 12, none⟩) (Nat.le_refl _) _).alloc (by simp [World.setCell]; omega) _; clear hR2 hB2 hR4 hR5)
    | (refine wpList_load_row rfl 28 (.tmp 3) rfl w1.heap.size rfl 28 #[.slice a0 1 c0, .int .u32 20, .int .u32 1, .int .u32 8, .int .u32 0, .int .u32 300, .int .u32 100, .int .u32 20, .int .u32 60, .slice (some ⟨w2.heap.size, 0, none⟩) 0 3, .int .u16 0, .int .i64 6, .int .u16 1400] (0, 0) _ HR5.out Try.underlying28 rfl (by exact infoCf) ?_)
    | (refine wpList_store_rowR rfl 28 (.tmp 2) (.tmp 40) rfl w.heap.size #[.slice a0 1 c0, .int .u32 20, .int .u32 1, .int .u32 8, .int .u32 0, .int .u32 300, .int .u32 100, .int .u32 20, .int .u32 60, .slice (some ⟨w2.heap.size, 0, none⟩) 0 3, .int .u16 0, .int .i64 6, .int .u16 1400] rfl rfl 28 zeroC (HR1.out.below HB5.out (by omega)) (by exact infoCf) rfl (by kernel_rfl) ?_))
  refine bodyPost_ret (v := .agg #[.slice a0 1 c0, .int .u32 20, .int .u32 1, .int .u32 8, .int .u32 0, .int .u32 300, .int .u32 100, .int .u32 20, .int .u32 60, .slice (some ⟨w2.heap.size, 0, none⟩) 0 3, .int .u16 0, .int .i64 6, .int .u16 1400]) (results_cell_row Try.results17 _ _ w.heap.size 28 _ (0, 0) _ rfl (setRow_same (HR1.out.below HB5.out (by omega)) _) Try.underlying28 rfl (by exact infoCf)) rfl ?_
  exact ⟨a0, _, c0, _, rfl, OwnS.sl (owns_setRow (HS.out.below HB5.out) (Nat.lt_succ_self w.heap.size) _), (by intro h; cases h), below_setRow (HB1.out.trans (HB5.out.mono (by omega))) (Nat.le_refl _) _⟩
end Go.Proofs.Ytfkkaegebpckmaa
