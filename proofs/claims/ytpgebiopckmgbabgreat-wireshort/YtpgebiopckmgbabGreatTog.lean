/- wire.together of two records of type 99 and class 1. -/
import Derived.Test.YtpgebiopckmgbabGreatBya
import Derived.Test.YtpgebiopckmgbabGreatNmB
namespace Go.Proofs.YtpgebiopckmgbabGreat
open Go.RowKit
set_option maxRecDepth 3000 in
set_option maxHeartbeats 1600000 in
theorem together_99 (a b : List (List UInt8)) (na nb da db : Option Addr) (la lb ca cb dla dlb dca dcb : Nat) (ta tb : Int) (w : World) (hla : Hid (a.length = la)) (hlb : Hid (b.length = lb)) (hsa : SlS w na a) (hsb : SlS w nb b) (hma : la ≤ 1000) (hmb : lb ≤ 1000) (ha : Hid (Sane a)) (hb : Hid (Sane b)) :
    Calls Tryz.prog 51 #[.agg #[.slice na la ca, .int .u16 99, .int .u16 1, .int .u32 ta, .slice da dla dca], .agg #[.slice nb lb cb, .int .u16 99, .int .u16 1, .int .u32 tb, .slice db dlb dcb]] w fun e w' => e = .returned (.bool (N.same a b)) ∧ Below w.heap.size w w' := by
  have HSA := hide hsa
  have HSB := hide hsb
  have BX : Hid (Below w.heap.size w ((w.alloc (.cells #[.slice na la ca, .int .u16 99, .int .u16 1, .int .u32 ta, .slice da dla dca] 39)).alloc (.cells #[.slice nb lb cb, .int .u16 99, .int .u16 1, .int .u32 tb, .slice db dlb dcb] 39))) := ((Below.refl w.heap.size w).alloc (Nat.le_refl _) _).alloc (by simp) _
  have r0 : RowAt ((w.alloc (.cells #[.slice na la ca, .int .u16 99, .int .u16 1, .int .u32 ta, .slice da dla dca] 39)).alloc (.cells #[.slice nb lb cb, .int .u16 99, .int .u16 1, .int .u32 tb, .slice db dlb dcb] 39)) w.heap.size 39 #[.slice na la ca, .int .u16 99, .int .u16 1, .int .u32 ta, .slice da dla dca] := (RowAt.new w 39 #[.slice na la ca, .int .u16 99, .int .u16 1, .int .u32 ta, .slice da dla dca]).alloc _
  have r1 : RowAt ((w.alloc (.cells #[.slice na la ca, .int .u16 99, .int .u16 1, .int .u32 ta, .slice da dla dca] 39)).alloc (.cells #[.slice nb lb cb, .int .u16 99, .int .u16 1, .int .u32 tb, .slice db dlb dcb] 39)) (w.heap.size + 1) 39 #[.slice nb lb cb, .int .u16 99, .int .u16 1, .int .u32 tb, .slice db dlb dcb] := by
    have h := RowAt.new (w.alloc (.cells #[.slice na la ca, .int .u16 99, .int .u16 1, .int .u32 ta, .slice da dla dca] 39)) 39 #[.slice nb lb cb, .int .u16 99, .int .u16 1, .int .u32 tb, .slice db dlb dcb]
    rw [World.size_alloc] at h; exact h
  have R0 := hide r0
  have R1 := hide r1
  clear hsa hsb r0 r1
  go_enter Tryz.func51, Tryz.ntmps51
  go_wp2_with fail
  refine (same_any a b na nb la lb ca cb _ hla hlb (by exact HSA.out.below BX.out (Nat.le_refl _)) (by exact HSB.out.below BX.out (Nat.le_refl _)) (by omega) (by omega) ha hb).mono ?_
  rintro e w1 ⟨rfl, hd⟩
  have B1 := hide (BX.out.trans (drew_below _ hd))
  have b1 := drew_below ((w.alloc (.cells #[.slice na la ca, .int .u16 99, .int .u16 1, .int .u32 ta, .slice da dla dca] 39)).alloc (.cells #[.slice nb lb cb, .int .u16 99, .int .u16 1, .int .u32 tb, .slice db dlb dcb] 39)).heap.size hd
  have q0 := R0.out.below b1 R0.out.lt
  have q1 := R1.out.below b1 R1.out.lt
  have y00 : w1.cell? ⟨w.heap.size, 0, none⟩ = some (.slice na la ca) := q0.cell 0
  have y01 : w1.cell? ⟨w.heap.size, 1, none⟩ = some (.int .u16 99) := q0.cell 1
  have y02 : w1.cell? ⟨w.heap.size, 2, none⟩ = some (.int .u16 1) := q0.cell 2
  have y03 : w1.cell? ⟨w.heap.size, 3, none⟩ = some (.int .u32 ta) := q0.cell 3
  have y04 : w1.cell? ⟨w.heap.size, 4, none⟩ = some (.slice da dla dca) := q0.cell 4
  have y10 : w1.cell? ⟨w.heap.size + 1, 0, none⟩ = some (.slice nb lb cb) := q1.cell 0
  have y11 : w1.cell? ⟨w.heap.size + 1, 1, none⟩ = some (.int .u16 99) := q1.cell 1
  have y12 : w1.cell? ⟨w.heap.size + 1, 2, none⟩ = some (.int .u16 1) := q1.cell 2
  have y13 : w1.cell? ⟨w.heap.size + 1, 3, none⟩ = some (.int .u32 tb) := q1.cell 3
  have y14 : w1.cell? ⟨w.heap.size + 1, 4, none⟩ = some (.slice db dlb dcb) := q1.cell 4
  clear b1 hd BX R0 R1 q0 q1
  cases hN : N.same a b with
  | false =>
    go_wp2
    go_ret
    exact ⟨by rw [hN]; rfl, B1.out⟩
  | true =>
    go_wp2
    first | (go_region_with (fail)) | fail
    all_goals
      go_wp2
      go_ret
      exact ⟨by rw [hN]; rfl, B1.out.drew⟩
end Go.Proofs.YtpgebiopckmgbabGreat
