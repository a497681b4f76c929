/- wire.opt. -/
import Derived.Test.YtpgebiopckmgbabGreatBya
namespace Go.Proofs.YtpgebiopckmgbabGreat
open Go.RowKit
set_option maxRecDepth 5000 in
theorem or_opt (q b : Nat) (hq : q < 256) (hb : b < 16777216) : bits .or .u32 ((q * 16777216 : Nat) : Int) (b : Int) = ((q * 16777216 + b : Nat) : Int) := by
  have h1 : bits .or .u32 ((q * 16777216 : Nat) : Int) (b : Int) = IntKind.u32.wrap (((BitVec.ofInt 32 ((q * 16777216 : Nat) : Int) ||| BitVec.ofInt 32 (b : Int)).toNat : Nat) : Int) := rfl
  have h2 : (BitVec.ofInt 32 ((q * 16777216 : Nat) : Int) ||| BitVec.ofInt 32 (b : Int)).toNat = q * 16777216 + b := by
    have e1 : BitVec.ofInt 32 ((q * 16777216 : Nat) : Int) = BitVec.ofNat 32 (q * 16777216) := BitVec.ofInt_natCast 32 _
    have e2 : BitVec.ofInt 32 (b : Int) = BitVec.ofNat 32 b := BitVec.ofInt_natCast 32 _
    rw [e1, e2, BitVec.toNat_or, BitVec.toNat_ofNat, BitVec.toNat_ofNat, Nat.mod_eq_of_lt (by omega), Nat.mod_eq_of_lt (by omega)]
    have := Nat.two_pow_add_eq_or_of_lt (i := 24) (b := b) (by omega) q
    rw [Nat.mul_comm q, ← this]
  rw [h1, h2, IntKind.wrap_u32]; omega
set_option maxRecDepth 5000 in
theorem opt_bits (cd d ttl : Nat) (hc : cd < 4096) (hd : d < 16777216) (ht : cd / 16 * 16777216 + d = ttl) : bits .or .u32 (IntKind.u32.wrap (IntKind.u32.wrap ((cd : Int) / 16) * 16777216)) (IntKind.u32.wrap (d : Int)) = (ttl : Int) := by
  have e1 : IntKind.u32.wrap (IntKind.u32.wrap ((cd : Int) / 16) * 16777216) = ((cd / 16 * 16777216 : Nat) : Int) := by rw [IntKind.wrap_u32, IntKind.wrap_u32]; omega
  have e2 : IntKind.u32.wrap (d : Int) = (d : Int) := by rw [IntKind.wrap_u32]; omega
  rw [e1, e2, or_opt (cd / 16) d (by omega) hd, ht]
set_option maxHeartbeats 800000 in
set_option maxRecDepth 5000 in
theorem opt_any (i cd sz n8 c8 n9 c9 n10 c10 n11 c11 : Nat) (x1 x3 x4 x5 x6 xe xd : Bool) (x2 : Int) (a a9 a10 a11 : Option Addr) (w : World) (hc : cd < 4096) (ttl : Nat) (ht : Hid (cd / 16 * 16777216 + (if xd then 32768 else 0) = ttl)) :
    Calls Tryz.prog 20 #[.agg #[.int .u16 (i : Int), .bool x1, .int .i64 x2, .bool x3, .bool x4, .bool x5, .bool x6, .int .i64 (cd : Int), .slice a n8 c8, .slice a9 n9 c9, .slice a10 n10 c10, .slice a11 n11 c11, .bool xe, .int .u16 (sz : Int), .bool xd]] w fun e w' => e = .returned (.agg #[.slice none 0 0, .int .u16 41, .int .u16 (sz : Int), .int .u32 (ttl : Int), .slice none 0 0]) ∧ Below w.heap.size w w' := by
  have R0 := hide ((RowAt.new w 32 #[.int .u16 (i : Int), .bool x1, .int .i64 x2, .bool x3, .bool x4, .bool x5, .bool x6, .int .i64 (cd : Int), .slice a n8 c8, .slice a9 n9 c9, .slice a10 n10 c10, .slice a11 n11 c11, .bool xe, .int .u16 (sz : Int), .bool xd]).alloc (.cells #[.slice none 0 0, .int .u16 0, .int .u16 0, .int .u32 0, .slice none 0 0] 39))
  have R1 : Hid (RowAt ((w.alloc (.cells #[.int .u16 (i : Int), .bool x1, .int .i64 x2, .bool x3, .bool x4, .bool x5, .bool x6, .int .i64 (cd : Int), .slice a n8 c8, .slice a9 n9 c9, .slice a10 n10 c10, .slice a11 n11 c11, .bool xe, .int .u16 (sz : Int), .bool xd] 32)).alloc (.cells #[.slice none 0 0, .int .u16 0, .int .u16 0, .int .u32 0, .slice none 0 0] 39)) (w.heap.size + 1) 39 #[.slice none 0 0, .int .u16 0, .int .u16 0, .int .u32 0, .slice none 0 0]) := by
    have h := RowAt.new (w.alloc (.cells #[.int .u16 (i : Int), .bool x1, .int .i64 x2, .bool x3, .bool x4, .bool x5, .bool x6, .int .i64 (cd : Int), .slice a n8 c8, .slice a9 n9 c9, .slice a10 n10 c10, .slice a11 n11 c11, .bool xe, .int .u16 (sz : Int), .bool xd] 32)) 39 #[.slice none 0 0, .int .u16 0, .int .u16 0, .int .u32 0, .slice none 0 0]
    rw [World.size_alloc] at h; exact h
  have B0 := hide (((Below.refl w.heap.size w).alloc (Nat.le_refl _) (.cells #[.int .u16 (i : Int), .bool x1, .int .i64 x2, .bool x3, .bool x4, .bool x5, .bool x6, .int .i64 (cd : Int), .slice a n8 c8, .slice a9 n9 c9, .slice a10 n10 c10, .slice a11 n11 c11, .bool xe, .int .u16 (sz : Int), .bool xd] 32)).alloc (by simp) (.cells #[.slice none 0 0, .int .u16 0, .int .u16 0, .int .u32 0, .slice none 0 0] 39))
  obtain ⟨d, HD⟩ : ∃ d : Nat, Hid ((if xd then 32768 else 0 : Nat) = d) := ⟨_, rfl⟩
  have HB : Hid (∀ w' : World, Calls Tryz.prog 31 #[.bool xd, .int .u16 ((32768 : Nat) : Int)] w' fun e w'' => e = .returned (.int .u16 (d : Int)) ∧ w' = w'') := fun w' => by rw [← HD.out]; exact bit_any xd 32768 w'
  have hdl : d < 16777216 := by rw [← HD.out]; split <;> omega
  have hob := opt_bits cd d ttl hc hdl (by rw [← HD.out]; exact ht.out)
  have HOB := hide hob
  clear hob
  go_enter Tryz.func20, Tryz.ntmps20
  go_wp2
  generalize (w.alloc (.cells #[.int .u16 (i : Int), .bool x1, .int .i64 x2, .bool x3, .bool x4, .bool x5, .bool x6, .int .i64 (cd : Int), .slice a n8 c8, .slice a9 n9 c9, .slice a10 n10 c10, .slice a11 n11 c11, .bool xe, .int .u16 (sz : Int), .bool xd] 32)).alloc (.cells #[.slice none 0 0, .int .u16 0, .int .u16 0, .int .u32 0, .slice none 0 0] 39) = X at R0 R1 B0 ⊢
  have m7 : X.cell? ⟨w.heap.size, 7, none⟩ = some (.int .i64 (cd : Int)) := R0.out.cell 7
  have m14 : X.cell? ⟨w.heap.size, 14, none⟩ = some (.bool xd) := R0.out.cell 14
  go_region_held3 (fun w' => w'.cell? ⟨w.heap.size, 7, none⟩ = some (.int .i64 (cd : Int)) ∧ w'.cell? ⟨w.heap.size, 14, none⟩ = some (.bool xd)) ((first | (with_reducible exact ⟨m7, m14⟩) | exact ⟨m7, m14⟩)) ((first | (refine step_fn 31 #[.tmp 10, .const (.int .u16 32768)] _ rfl rfl #[.bool xd, .int .u16 ((32768 : Nat) : Int)] (by go_simp) (HB.out _) (by rintro e w' ⟨rfl, _⟩; exact ⟨_, rfl⟩) ?_; rintro v1 w1 ⟨he, rfl⟩; cases he)))
  rw [HOB.out]
  have RY0 : Hid (RowAt X.drew w.heap.size 32 #[.int .u16 (i : Int), .bool x1, .int .i64 x2, .bool x3, .bool x4, .bool x5, .bool x6, .int .i64 (cd : Int), .slice a n8 c8, .slice a9 n9 c9, .slice a10 n10 c10, .slice a11 n11 c11, .bool xe, .int .u16 (sz : Int), .bool xd]) := R0
  have RY1 : Hid (RowAt X.drew (w.heap.size + 1) 39 #[.slice none 0 0, .int .u16 0, .int .u16 0, .int .u32 0, .slice none 0 0]) := R1
  have BY : Hid (Below w.heap.size w X.drew) := hide B0.out.drew
  clear R0 R1 B0 m7 m14
  rename_i hheld
  clear hheld
  generalize X.drew = Y at RY0 RY1 BY ⊢
  have m13 : Y.cell? ⟨w.heap.size, 13, none⟩ = some (.int .u16 (sz : Int)) := RY0.out.cell 13
  have r0 : Y.cell? ⟨w.heap.size + 1, 0, none⟩ = some (.slice none 0 0) := RY1.out.cell 0
  have r1 : Y.cell? ⟨w.heap.size + 1, 1, none⟩ = some (.int .u16 0) := RY1.out.cell 1
  have r2 : Y.cell? ⟨w.heap.size + 1, 2, none⟩ = some (.int .u16 0) := RY1.out.cell 2
  have r3 : Y.cell? ⟨w.heap.size + 1, 3, none⟩ = some (.int .u32 0) := RY1.out.cell 3
  have r4 : Y.cell? ⟨w.heap.size + 1, 4, none⟩ = some (.slice none 0 0) := RY1.out.cell 4
  have f0 : Y.frozen? ⟨w.heap.size + 1, 0, none⟩ = false := RY1.out.frozen 0
  have f1 : Y.frozen? ⟨w.heap.size + 1, 1, none⟩ = false := RY1.out.frozen 1
  have f2 : Y.frozen? ⟨w.heap.size + 1, 2, none⟩ = false := RY1.out.frozen 2
  have f3 : Y.frozen? ⟨w.heap.size + 1, 3, none⟩ = false := RY1.out.frozen 3
  have f4 : Y.frozen? ⟨w.heap.size + 1, 4, none⟩ = false := RY1.out.frozen 4
  have RF : Hid (RowAt (((((Y.setCell ⟨w.heap.size + 1, 0, none⟩ (.slice none 0 0)).setCell ⟨w.heap.size + 1, 1, none⟩ (.int .u16 41)).setCell ⟨w.heap.size + 1, 2, none⟩ (.int .u16 (sz : Int))).setCell ⟨w.heap.size + 1, 3, none⟩ (.int .u32 (ttl : Int))).setCell ⟨w.heap.size + 1, 4, none⟩ (.slice none 0 0)) (w.heap.size + 1) 39 #[.slice none 0 0, .int .u16 41, .int .u16 (sz : Int), .int .u32 (ttl : Int), .slice none 0 0]) := ((((RY1.out.set 0 _).set 1 _).set 2 _).set 3 _).set 4 _
  have BF : Hid (Below w.heap.size w (((((Y.setCell ⟨w.heap.size + 1, 0, none⟩ (.slice none 0 0)).setCell ⟨w.heap.size + 1, 1, none⟩ (.int .u16 41)).setCell ⟨w.heap.size + 1, 2, none⟩ (.int .u16 (sz : Int))).setCell ⟨w.heap.size + 1, 3, none⟩ (.int .u32 (ttl : Int))).setCell ⟨w.heap.size + 1, 4, none⟩ (.slice none 0 0))) := ((((BY.out.setCell (Nat.le_succ _) _).setCell (Nat.le_succ _) _).setCell (Nat.le_succ _) _).setCell (Nat.le_succ _) _).setCell (Nat.le_succ _) _
  go_wp2
  generalize (((((Y.setCell ⟨w.heap.size + 1, 0, none⟩ (.slice none 0 0)).setCell ⟨w.heap.size + 1, 1, none⟩ (.int .u16 41)).setCell ⟨w.heap.size + 1, 2, none⟩ (.int .u16 (sz : Int))).setCell ⟨w.heap.size + 1, 3, none⟩ (.int .u32 (ttl : Int))).setCell ⟨w.heap.size + 1, 4, none⟩ (.slice none 0 0)) = V at RF BF ⊢
  have t0 : V.cell? ⟨w.heap.size + 1, 0, none⟩ = some (.slice none 0 0) := RF.out.cell 0
  have t1 : V.cell? ⟨w.heap.size + 1, 1, none⟩ = some (.int .u16 41) := RF.out.cell 1
  have t2 : V.cell? ⟨w.heap.size + 1, 2, none⟩ = some (.int .u16 (sz : Int)) := RF.out.cell 2
  have t3 : V.cell? ⟨w.heap.size + 1, 3, none⟩ = some (.int .u32 (ttl : Int)) := RF.out.cell 3
  have t4 : V.cell? ⟨w.heap.size + 1, 4, none⟩ = some (.slice none 0 0) := RF.out.cell 4
  simp [bodyPost, results, Tryz.results20, go_sem, t0, t1, t2, t3, t4]
  exact BF.out
end Go.Proofs.YtpgebiopckmgbabGreat
