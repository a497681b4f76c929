/- signethelp.Config of the same settings; signetseat.Config(5); light. -/
import Derived.Test.YtfkkaegebpckmaaDec
namespace Go.Proofs.Ytfkkaegebpckmaa
open Go.RowKit
set_option maxHeartbeats 3000000 in
set_option maxRecDepth 5000 in
theorem hConfig_same (x : C.Cf) (a0 a9 a01 a91 : Option Addr) (la c0 ls c9 la1 c01 ls1 c91 : Nat) (w : World) (hla : Hid (x.apex.length = la)) (hla1 : Hid (x.apex.length = la1)) (hls : Hid (x.salt.length = ls)) (hls1 : Hid (x.salt.length = ls1)) (hs0 : SlS w a0 x.apex) (hs01 : SlS w a01 x.apex) (hs9 : SlL w a9 x.salt) (hs91 : SlL w a91 x.salt) (hm : la ≤ 1000000) :
    Calls Try.prog 15 #[.agg #[.slice a0 la c0, .int .u32 (x.k : Int), .int .u32 (x.p : Int), .int .u32 (x.d : Int), .int .u32 (x.e : Int), .int .u32 (x.v : Int), .int .u32 (x.l : Int), .int .u32 (x.g : Int), .int .u32 (x.m : Int), .slice a9 ls c9, .int .u16 (x.it : Int), .int .i64 x.h, .int .u16 (x.sz : Int)], .agg #[.slice a01 la1 c01, .int .u32 (x.k : Int), .int .u32 (x.p : Int), .int .u32 (x.d : Int), .int .u32 (x.e : Int), .int .u32 (x.v : Int), .int .u32 (x.l : Int), .int .u32 (x.g : Int), .int .u32 (x.m : Int), .slice a91 ls1 c91, .int .u16 (x.it : Int), .int .i64 x.h, .int .u16 (x.sz : Int)]] w fun e w' => e = .returned (.bool true) ∧ Below w.heap.size w w' := by
  have HB2 : Hid (Below w.heap.size w ((w.alloc (.cells #[.slice a0 la c0, .int .u32 (x.k : Int), .int .u32 (x.p : Int), .int .u32 (x.d : Int), .int .u32 (x.e : Int), .int .u32 (x.v : Int), .int .u32 (x.l : Int), .int .u32 (x.g : Int), .int .u32 (x.m : Int), .slice a9 ls c9, .int .u16 (x.it : Int), .int .i64 x.h, .int .u16 (x.sz : Int)] 28)).alloc (.cells #[.slice a01 la1 c01, .int .u32 (x.k : Int), .int .u32 (x.p : Int), .int .u32 (x.d : Int), .int .u32 (x.e : Int), .int .u32 (x.v : Int), .int .u32 (x.l : Int), .int .u32 (x.g : Int), .int .u32 (x.m : Int), .slice a91 ls1 c91, .int .u16 (x.it : Int), .int .i64 x.h, .int .u16 (x.sz : Int)] 28))) := ((Below.refl w.heap.size w).alloc (Nat.le_refl _) _).alloc (by simp) _
  have HA1 : Hid (CfAt ((w.alloc (.cells #[.slice a0 la c0, .int .u32 (x.k : Int), .int .u32 (x.p : Int), .int .u32 (x.d : Int), .int .u32 (x.e : Int), .int .u32 (x.v : Int), .int .u32 (x.l : Int), .int .u32 (x.g : Int), .int .u32 (x.m : Int), .slice a9 ls c9, .int .u16 (x.it : Int), .int .i64 x.h, .int .u16 (x.sz : Int)] 28)).alloc (.cells #[.slice a01 la1 c01, .int .u32 (x.k : Int), .int .u32 (x.p : Int), .int .u32 (x.d : Int), .int .u32 (x.e : Int), .int .u32 (x.v : Int), .int .u32 (x.l : Int), .int .u32 (x.g : Int), .int .u32 (x.m : Int), .slice a91 ls1 c91, .int .u16 (x.it : Int), .int .i64 x.h, .int .u16 (x.sz : Int)] 28)) w.heap.size x a0 a9 la c0 ls c9) := (CfAt.new w x a0 a9 la c0 ls c9).below ((Below.refl _ _).alloc (Nat.le_refl _) _) (by simp)
  have HA2 : Hid (CfAt ((w.alloc (.cells #[.slice a0 la c0, .int .u32 (x.k : Int), .int .u32 (x.p : Int), .int .u32 (x.d : Int), .int .u32 (x.e : Int), .int .u32 (x.v : Int), .int .u32 (x.l : Int), .int .u32 (x.g : Int), .int .u32 (x.m : Int), .slice a9 ls c9, .int .u16 (x.it : Int), .int .i64 x.h, .int .u16 (x.sz : Int)] 28)).alloc (.cells #[.slice a01 la1 c01, .int .u32 (x.k : Int), .int .u32 (x.p : Int), .int .u32 (x.d : Int), .int .u32 (x.e : Int), .int .u32 (x.v : Int), .int .u32 (x.l : Int), .int .u32 (x.g : Int), .int .u32 (x.m : Int), .slice a91 ls1 c91, .int .u16 (x.it : Int), .int .i64 x.h, .int .u16 (x.sz : Int)] 28)) (w.heap.size + 1) x a01 a91 la1 c01 ls1 c91) := by
    have h := CfAt.new (w.alloc (.cells #[.slice a0 la c0, .int .u32 (x.k : Int), .int .u32 (x.p : Int), .int .u32 (x.d : Int), .int .u32 (x.e : Int), .int .u32 (x.v : Int), .int .u32 (x.l : Int), .int .u32 (x.g : Int), .int .u32 (x.m : Int), .slice a9 ls c9, .int .u16 (x.it : Int), .int .i64 x.h, .int .u16 (x.sz : Int)] 28)) x a01 a91 la1 c01 ls1 c91
    rw [size_alloc] at h
    exact h
  have HS0 := hide hs0
  have HS01 := hide hs01
  have HS9 := hide hs9
  have HS91 := hide hs91
  clear hs0 hs01 hs9 hs91
  go_enter Try.func15, Try.ntmps15
  go_wp2_with fail
  refine (name_same x.apex a0 a01 la la1 c0 c01 _ hla hla1 (by exact HS0.out.below HB2.out (Nat.le_refl _)) (by exact HS01.out.below HB2.out (Nat.le_refl _)) (by omega)).mono ?_
  rintro e w' ⟨rfl, hd⟩
  have hb := drew_below (((w.alloc (.cells #[.slice a0 la c0, .int .u32 (x.k : Int), .int .u32 (x.p : Int), .int .u32 (x.d : Int), .int .u32 (x.e : Int), .int .u32 (x.v : Int), .int .u32 (x.l : Int), .int .u32 (x.g : Int), .int .u32 (x.m : Int), .slice a9 ls c9, .int .u16 (x.it : Int), .int .i64 x.h, .int .u16 (x.sz : Int)] 28)).alloc (.cells #[.slice a01 la1 c01, .int .u32 (x.k : Int), .int .u32 (x.p : Int), .int .u32 (x.d : Int), .int .u32 (x.e : Int), .int .u32 (x.v : Int), .int .u32 (x.l : Int), .int .u32 (x.g : Int), .int .u32 (x.m : Int), .slice a91 ls1 c91, .int .u16 (x.it : Int), .int .i64 x.h, .int .u16 (x.sz : Int)] 28)).heap.size) hd
  have HB3 := hide (HB2.out.trans (hb.mono (by simp; omega)))
  obtain ⟨q0, q1, q2, q3, q4, q5, q6, q7, q8, q9, q10, q11, q12⟩ := (HA1.out.below hb (by simp; omega)).cells
  obtain ⟨r0, r1, r2, r3, r4, r5, r6, r7, r8, r9, r10, r11, r12⟩ := (HA2.out.below hb (by simp)).cells
  clear hd hb HA1 HA2 HB2
  go_wp2_with (go_at_call 12; refine (bytes_same x.salt a9 a91 ls ls1 c9 c91 _ (HS9.out.below HB3.out (Nat.le_refl _)) (HS91.out.below HB3.out (Nat.le_refl _)) hls hls1).mono ?_; rintro e w2 ⟨rfl, rfl⟩)
  go_ret
  exact ⟨by first | rfl | simp, HB3.out⟩
end Go.Proofs.Ytfkkaegebpckmaa
