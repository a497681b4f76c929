/- signethelp.Record of the same things; signethelp.Name of two names of one label each. -/
import Derived.Test.YtpgebiopckmgbabGreatBya
import Derived.Test.YtpgebiopckmgbabGreatNmB
namespace Go.Proofs.YtpgebiopckmgbabGreat
open Go.RowKit
set_option maxRecDepth 3000 in
set_option maxHeartbeats 1600000 in
theorem hrec_same (n : List (List UInt8)) (d : List UInt8) (na nb da db : Option Addr) (la ld ca cb dca dcb t cl tt : Nat) (w : World) (hl : Hid (n.length = la)) (hd : Hid (d.length = ld)) (hsa : SlS w na n) (hsb : SlS w nb n) (hda : SlL w da d) (hdb : SlL w db d) (hm : la ≤ 1000) :
    Calls Tryz.prog 12 #[.agg #[.slice na la ca, .int .u16 (t : Int), .int .u16 (cl : Int), .int .u32 (tt : Int), .slice da ld dca], .agg #[.slice nb la cb, .int .u16 (t : Int), .int .u16 (cl : Int), .int .u32 (tt : Int), .slice db ld dcb]] w fun e w' => e = .returned (.bool true) ∧ Below w.heap.size w w' := by
  have HSA := hide hsa
  have HSB := hide hsb
  have HDA := hide hda
  have HDB := hide hdb
  have BX : Hid (Below w.heap.size w ((w.alloc (.cells #[.slice na la ca, .int .u16 (t : Int), .int .u16 (cl : Int), .int .u32 (tt : Int), .slice da ld dca] 39)).alloc (.cells #[.slice nb la cb, .int .u16 (t : Int), .int .u16 (cl : Int), .int .u32 (tt : Int), .slice db ld dcb] 39))) := ((Below.refl w.heap.size w).alloc (Nat.le_refl _) _).alloc (by simp) _
  have r0 : RowAt ((w.alloc (.cells #[.slice na la ca, .int .u16 (t : Int), .int .u16 (cl : Int), .int .u32 (tt : Int), .slice da ld dca] 39)).alloc (.cells #[.slice nb la cb, .int .u16 (t : Int), .int .u16 (cl : Int), .int .u32 (tt : Int), .slice db ld dcb] 39)) w.heap.size 39 #[.slice na la ca, .int .u16 (t : Int), .int .u16 (cl : Int), .int .u32 (tt : Int), .slice da ld dca] := (RowAt.new w 39 #[.slice na la ca, .int .u16 (t : Int), .int .u16 (cl : Int), .int .u32 (tt : Int), .slice da ld dca]).alloc _
  have r1 : RowAt ((w.alloc (.cells #[.slice na la ca, .int .u16 (t : Int), .int .u16 (cl : Int), .int .u32 (tt : Int), .slice da ld dca] 39)).alloc (.cells #[.slice nb la cb, .int .u16 (t : Int), .int .u16 (cl : Int), .int .u32 (tt : Int), .slice db ld dcb] 39)) (w.heap.size + 1) 39 #[.slice nb la cb, .int .u16 (t : Int), .int .u16 (cl : Int), .int .u32 (tt : Int), .slice db ld dcb] := by
    have h := RowAt.new (w.alloc (.cells #[.slice na la ca, .int .u16 (t : Int), .int .u16 (cl : Int), .int .u32 (tt : Int), .slice da ld dca] 39)) 39 #[.slice nb la cb, .int .u16 (t : Int), .int .u16 (cl : Int), .int .u32 (tt : Int), .slice db ld dcb]
    rw [World.size_alloc] at h; exact h
  have R0 := hide r0
  have R1 := hide r1
  clear hsa hsb hda hdb r0 r1
  go_enter Tryz.func12, Tryz.ntmps12
  go_wp2_with fail
  refine (name_same n na nb la la ca cb _ hl hl (by exact HSA.out.below BX.out (Nat.le_refl _)) (by exact HSB.out.below BX.out (Nat.le_refl _)) (by omega)).mono ?_
  rintro e w1 ⟨rfl, hd1⟩
  have B1 := hide (BX.out.trans (drew_below _ hd1))
  have b1 := drew_below ((w.alloc (.cells #[.slice na la ca, .int .u16 (t : Int), .int .u16 (cl : Int), .int .u32 (tt : Int), .slice da ld dca] 39)).alloc (.cells #[.slice nb la cb, .int .u16 (t : Int), .int .u16 (cl : Int), .int .u32 (tt : Int), .slice db ld dcb] 39)).heap.size hd1
  have q0 := R0.out.below b1 R0.out.lt
  have q1 := R1.out.below b1 R1.out.lt
  have y00 : w1.cell? ⟨w.heap.size, 0, none⟩ = some (.slice na la ca) := q0.cell 0
  have y10 : w1.cell? ⟨w.heap.size + 1, 0, none⟩ = some (.slice nb la cb) := q1.cell 0
  have y01 : w1.cell? ⟨w.heap.size, 1, none⟩ = some (.int .u16 (t : Int)) := q0.cell 1
  have y11 : w1.cell? ⟨w.heap.size + 1, 1, none⟩ = some (.int .u16 (t : Int)) := q1.cell 1
  have y02 : w1.cell? ⟨w.heap.size, 2, none⟩ = some (.int .u16 (cl : Int)) := q0.cell 2
  have y12 : w1.cell? ⟨w.heap.size + 1, 2, none⟩ = some (.int .u16 (cl : Int)) := q1.cell 2
  have y03 : w1.cell? ⟨w.heap.size, 3, none⟩ = some (.int .u32 (tt : Int)) := q0.cell 3
  have y13 : w1.cell? ⟨w.heap.size + 1, 3, none⟩ = some (.int .u32 (tt : Int)) := q1.cell 3
  have y04 : w1.cell? ⟨w.heap.size, 4, none⟩ = some (.slice da ld dca) := q0.cell 4
  have y14 : w1.cell? ⟨w.heap.size + 1, 4, none⟩ = some (.slice db ld dcb) := q1.cell 4
  have e1 : ((t : Int) == (t : Int)) = true := by simp
  have e2 : ((cl : Int) == (cl : Int)) = true := by simp
  have e3 : ((tt : Int) == (tt : Int)) = true := by simp
  clear b1 hd1 BX R0 R1 q0 q1
  go_wp2_with fail
  refine (bytes_same d da db ld ld dca dcb _ (by exact HDA.out.below B1.out (Nat.le_refl _)) (by exact HDB.out.below B1.out (Nat.le_refl _)) hd hd).mono ?_
  rintro e w2 ⟨rfl, hw2⟩
  rw [hw2]; clear hw2 w2
  go_wp2
  go_ret
  exact ⟨rfl, B1.out⟩
set_option maxRecDepth 3000 in
theorem name_diff (x y : UInt8) (hne : x ≠ y) (ao bo : Option Addr) (ca cb : Nat) (w : World) (hsa : SlS w ao [[x]]) (hsb : SlS w bo [[y]]) :
    Calls Tryz.prog 13 #[.slice ao 1 ca, .slice bo 1 cb] w fun e w' => e = .returned (.bool false) ∧ Below w.heap.size w w' := by
  obtain ⟨b1, o1, rfl, hb1, hc1⟩ := hsa (by simp)
  obtain ⟨b2, o2, rfl, hb2, hc2⟩ := hsb (by simp)
  have c1 : w.cell? ⟨b1, o1, none⟩ = some (.string ⟨#[x]⟩) := hc1 0 (by simp)
  have c2 : w.cell? ⟨b2, o2, none⟩ = some (.string ⟨#[y]⟩) := hc2 0 (by simp)
  have hq : (x == y) = false := by simp [hne]
  clear hc1 hc2 hsa hsb
  go_enter Tryz.func13, Tryz.ntmps13
  go_wp2
  go_loopw [5] (fun i wz => i = .int .i64 0 ∧ w = wz) (fun _ _ => 0)
  case atStart => exact ⟨rfl, rfl⟩
  case round =>
    obtain ⟨rfl, rfl⟩ := hrel
    go_wp2
    go_quiet (fail)
    go_wp2
    go_ret
    exact ⟨rfl, drew_below _ ⟨_, rfl⟩⟩
end Go.Proofs.YtpgebiopckmgbabGreat
