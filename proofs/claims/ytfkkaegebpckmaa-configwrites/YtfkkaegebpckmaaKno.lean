/- signetlaw14.known. -/
import Derived.Test.YtfkkaegebpckmaaChc
import Derived.Test.YtfkkaegebpckmaaByt
import Derived.Test.YtfkkaegebpckmaaOpc
import Derived.Test.YtfkkaegebpckmaaHcf
import Derived.Test.YtfkkaegebpckmaaSea
import Derived.Test.YtfkkaegebpckmaaRnd
namespace Go.Proofs.Ytfkkaegebpckmaa
open Go.RowKit
set_option maxRecDepth 5000 in
theorem CfAt.row {w : World} {g : Nat} {x : C.Cf} {a0 a9 : Option Addr} {la c0 ls c9 : Nat} (h : CfAt w g x a0 a9 la c0 ls c9) : RowAt w g 28 #[.slice a0 la c0, .int .u32 (x.k : Int), .int .u32 (x.p : Int), .int .u32 (x.d : Int), .int .u32 (x.e : Int), .int .u32 (x.v : Int), .int .u32 (x.l : Int), .int .u32 (x.g : Int), .int .u32 (x.m : Int), .slice a9 ls c9, .int .u16 (x.it : Int), .int .i64 x.h, .int .u16 (x.sz : Int)] := h
set_option maxRecDepth 5000 in
theorem CfAt.lt {w : World} {g : Nat} {x : C.Cf} {a0 a9 : Option Addr} {la c0 ls c9 : Nat} (h : CfAt w g x a0 a9 la c0 ls c9) : g < w.heap.size := RowAt.lt (c := #[.slice a0 la c0, .int .u32 (x.k : Int), .int .u32 (x.p : Int), .int .u32 (x.d : Int), .int .u32 (x.e : Int), .int .u32 (x.v : Int), .int .u32 (x.l : Int), .int .u32 (x.g : Int), .int .u32 (x.m : Int), .slice a9 ls c9, .int .u16 (x.it : Int), .int .i64 x.h, .int .u16 (x.sz : Int)]) h
set_option maxRecDepth 5000 in
theorem seat_x (w : World) : Calls Try.prog 17 #[.int .u16 5] w fun e w' => ∃ (x : C.Cf) (a0 a9 : Option Addr) (la c0 ls c9 : Nat), x = C.seat ∧ e = .returned (.agg #[.slice a0 la c0, .int .u32 (x.k : Int), .int .u32 (x.p : Int), .int .u32 (x.d : Int), .int .u32 (x.e : Int), .int .u32 (x.v : Int), .int .u32 (x.l : Int), .int .u32 (x.g : Int), .int .u32 (x.m : Int), .slice a9 ls c9, .int .u16 (x.it : Int), .int .i64 x.h, .int .u16 (x.sz : Int)]) ∧ x.apex.length = la ∧ x.salt.length = ls ∧ SlS w' a0 x.apex ∧ SlL w' a9 x.salt ∧ (a9 = none → c9 = 0) ∧ Below w.heap.size w w' :=
  (seat_any w).mono fun _ _ ⟨a0, a9, c0, c9, he, hs, hn, hb⟩ => ⟨C.seat, a0, a9, 1, c0, 0, c9, rfl, he, rfl, rfl, hs, SlL.nil _ _, hn, hb⟩
/- what the settings of the seat are -/
structure SeatIs (x : C.Cf) : Prop where
  ok : C.Ok x
  good : C.Good x
  small : N.Small x.apex
  size : N.size x.apex ≤ 100
  one : x.apex.length = 1
  none : x.salt.length = 0
  k : x.k = 20
  p : x.p = 1
  d : x.d = 8
  e : x.e = 0
  v : x.v = 300
  l : x.l = 100
  g : x.g = 20
  m : x.m = 60
  it : x.it = 0
  h : x.h = 6
  sz : x.sz = 1400
set_option maxRecDepth 5000 in
theorem seat_is : SeatIs C.seat := ⟨C.seat_ok, C.seat_good, C.seat_small, by rw [C.seat_size]; omega, rfl, rfl, rfl, rfl, rfl, rfl, rfl, rfl, rfl, rfl, rfl, rfl, rfl⟩
set_option maxHeartbeats 4000000 in
set_option maxRecDepth 5000 in
theorem known_any (w : World) : Calls Try.prog 7 #[] w fun e w' => e = .returned (.bool true) ∧ Below w.heap.size w w' := by
  go_enter Try.func7, Try.ntmps7
  go_wp2_with fail
  refine (seat_x _).mono ?_
  rintro e w1 ⟨x, a0, a9, la, c0, ls, c9, hx, rfl, hla, hls, hs0, hs9, hn9, hb1⟩
  have HX : Hid (SeatIs x) := by rw [hx]; exact seat_is
  have HLA := hide hla
  have HLS := hide hls
  have HS0 := hide hs0
  have HS9 := hide hs9
  have HN9 := hide hn9
  have HB1 := hide hb1
  have hla1 : la = 1 := hla.symm.trans HX.out.one
  have hls0 : ls ≤ 300 := by have := HX.out.none; omega
  have HLA1 := hide hla1
  clear hx hla hls hs0 hs9 hn9 hb1 hla1
  go_wp2_with (refine wpList_store_absR rfl 28 (.tmp 1) (.tmp 5) rfl w1.heap.size #[.slice a0 la c0, .int .u32 (x.k : Int), .int .u32 (x.p : Int), .int .u32 (x.d : Int), .int .u32 (x.e : Int), .int .u32 (x.v : Int), .int .u32 (x.l : Int), .int .u32 (x.g : Int), .int .u32 (x.m : Int), .slice a9 ls c9, .int .u16 (x.it : Int), .int .i64 x.h, .int .u16 (x.sz : Int)] rfl rfl 28 zeroC (RowAt.new w1 28 zeroC) (by exact infoCf) rfl (by kernel_rfl) w1.heap.size (Nat.le_refl _) ?_; intro w2 hR2 hB2; have A2 : Hid (CfAt w2 w1.heap.size x a0 a9 la c0 ls c9) := hR2; have B2 : Hid (Below w1.heap.size w1 w2) := ((Below.refl w1.heap.size w1).alloc (Nat.le_refl _) _).trans hB2; obtain ⟨q0, q1, q2, q3, q4, q5, q6, q7, q8, q9, q10, q11, q12⟩ := A2.out.cells; clear hR2 hB2)
  refine (cBytes_any x a0 a9 la c0 ls c9 w2 HX.out.ok HLA HLS (HS0.out.below B2.out (Nat.le_refl _)) (hide HX.out.small) (hide (by have := HX.out.size; omega)) (HS9.out.below B2.out (Nat.le_refl _)) HN9.out hls0).mono ?_
  rintro e w3 ⟨v3, rfl, hO3, hb3⟩
  obtain ⟨a3, c3, hv3, hS3, _, hc3, _⟩ := hO3.open
  subst hv3
  obtain ⟨le, hle⟩ : ∃ le, (C.enc x).length = le := ⟨_, rfl⟩
  have hle1 : le ≤ 1000000 := by rw [← hle, C.enc_len]; have := HX.out.size; have := HX.out.none; omega
  rw [hle] at hc3 ⊢
  have HLE := hide hle
  have S3 := hide hS3
  have A3 := hide (A2.out.below hb3 A2.out.lt)
  have B3 := hide (B2.out.trans (hb3.mono B2.out.size))
  clear q0 q1 q2 q3 q4 q5 q6 q7 q8 q9 q10 q11 q12 hO3 hS3 hb3 hle
  go_wp2_with fail
  refine (cOpen_any (C.enc x) a3 le c3 w3 HLE S3.out hle1 hc3).mono ?_
  rintro e w4 ⟨x', cc, a02, a92, la2, c02, ls2, c92, rfl, hdec, hla2, hls2, hs02, hs92, _, hl2b, hb4⟩
  obtain ⟨hxx, rfl⟩ : x = x' ∧ cc = 0 := by
    rcases hdec with ⟨h1, h2⟩ | ⟨h1, _⟩
    · rw [C.dec_enc x HX.out.ok HX.out.good] at h1
      exact ⟨Option.some.inj h1, h2⟩
    · rw [C.dec_enc x HX.out.ok HX.out.good] at h1; cases h1
  subst hxx
  have A4 := hide (A3.out.below hb4 A3.out.lt)
  have B4 := hide (B3.out.trans (hb4.mono B3.out.size))
  have HLA2 := hide hla2
  have HLS2 := hide hls2
  have S02 := hide hs02
  have S92 := hide hs92
  have hla21 : ((la2 : Int) == 1) = true := beq_iff_eq.2 (by have := HX.out.one; omega)
  have hlt1 := A4.out.lt
  clear hdec hla2 hls2 hs02 hs92 hb4 A3 B3 S3 A2 B2
  obtain ⟨mg, hmg⟩ : ∃ mg : Nat, (x.m : Int) + (x.g : Int) = (mg : Int) := ⟨x.m + x.g, by simp⟩
  have HBAD : Hid (¬ C.Good (C.Cf.mk x.apex x.k x.p x.d x.e x.v mg x.g x.m x.salt x.it x.h x.sz)) := fun h => by
    have h1 := h.2.2.2.2.2.2.1
    have h2 : x.m + x.g < mg := h1
    omega
  have hmw : (mg : Int) % 4294967296 = (mg : Int) := by have := HX.out.m; have := HX.out.g; omega
  go_wp2_with (first
    | (refine wpList_store_absR rfl 28 (.tmp 2) (.tmp 10) rfl w4.heap.size #[.slice a02 la2 c02, .int .u32 (x.k : Int), .int .u32 (x.p : Int), .int .u32 (x.d : Int), .int .u32 (x.e : Int), .int .u32 (x.v : Int), .int .u32 (x.l : Int), .int .u32 (x.g : Int), .int .u32 (x.m : Int), .slice a92 ls2 c92, .int .u16 (x.it : Int), .int .i64 x.h, .int .u16 (x.sz : Int)] rfl rfl 28 zeroC (RowAt.new w4 28 zeroC) (by exact infoCf) rfl (by kernel_rfl) w4.heap.size (Nat.le_refl _) ?_; intro w5 hR5 hB5; have D5 : Hid (CfAt w5 w4.heap.size x a02 a92 la2 c02 ls2 c92) := hR5; have B45 : Hid (Below w4.heap.size w4 w5) := ((Below.refl w4.heap.size w4).alloc (Nat.le_refl _) _).trans hB5; have A5 := hide (A4.out.below B45.out hlt1); obtain ⟨q0, q1, q2, q3, q4, q5, q6, q7, q8, q9, q10, q11, q12⟩ := A5.out.cells; have hlt2 := D5.out.lt; have hlt3 := A5.out.lt; have B15 : Hid (Below w1.heap.size w1 w5) := B4.out.trans (B45.out.mono (by omega)); clear hR5 hB5)
    | (go_at_call 9; refine (cCheck_any (C.Cf.mk x.apex x.k x.p x.d x.e x.v mg x.g x.m x.salt x.it x.h x.sz) a0 a9 la c0 ls c9 w8 HLA HLS (HS0.out.below B18.out (Nat.le_refl _)) (hide HX.out.small) (by omega)).mono ?_; rintro e w9 ⟨c, rfl, hc, hb9⟩; obtain rfl : c = 100 := (by rcases hc with ⟨_, h⟩ | ⟨h, _⟩; exact absurd h HBAD.out; exact h); have A9 := hide (A8.out.below hb9 A8.out.lt); have D9 := hide (D8.out.below hb9 D8.out.lt); have B19 : Hid (Below w1.heap.size w1 w9) := B18.out.trans (hb9.mono (by have := B18.out.size; omega)); have B59 : Hid (Below w5.heap.size w5 w9) := B58.out.trans (hb9.mono B58.out.size); obtain ⟨q0, q1, q2, q3, q4, q5, q6, q7, q8, q9, q10, q11, q12⟩ := A9.out.cells; obtain ⟨r0, r1, r2, r3, r4, r5, r6, r7, r8, r9, r10, r11, r12⟩ := D9.out.cells; clear s0 s1 s2 s3 s4 s5 s6 s7 s8 s9 s10 s11 s12 hc hb9)
    | (go_at_call 9; refine (cCheck_any x a0 a9 la c0 ls c9 _ HLA HLS (by exact HS0.out.below (B15.out.alloc (by omega) _) (Nat.le_refl _)) (hide HX.out.small) (by omega)).mono ?_; rintro e w8 ⟨c, rfl, hc, hb8⟩; obtain rfl : c = 0 := (by rcases hc with ⟨h, _⟩ | ⟨_, h⟩; exact h; exact absurd HX.out.good h); have A8 := hide ((A5.out.below ((Below.refl w5.heap.size w5).alloc (Nat.le_refl _) _) hlt3).below hb8 (by simp; omega)); have D8 := hide ((D5.out.below ((Below.refl w5.heap.size w5).alloc (Nat.le_refl _) _) hlt2).below hb8 (by simp; omega)); have E8 := hide ((CfAt.new w5 (C.Cf.mk x.apex x.k x.p x.d x.e x.v mg x.g x.m x.salt x.it x.h x.sz) a0 a9 la c0 ls c9).below hb8 (by simp)); have B18 : Hid (Below w1.heap.size w1 w8) := (B15.out.alloc (by omega) _).trans (hb8.mono (by simp; omega)); have B58 : Hid (Below w5.heap.size w5 w8) := ((Below.refl w5.heap.size w5).alloc (Nat.le_refl _) _).trans (hb8.mono (by simp)); obtain ⟨s0, s1, s2, s3, s4, s5, s6, s7, s8, s9, s10, s11, s12⟩ := E8.out.cells; clear q0 q1 q2 q3 q4 q5 q6 q7 q8 q9 q10 q11 q12 hc hb8)
    | (go_at_call 15; refine (hConfig_same x a0 a9 a02 a92 la c0 ls c9 la2 c02 ls2 c92 w9 HLA HLA2 HLS HLS2 (HS0.out.below B19.out (Nat.le_refl _)) (S02.out.below ((B45.out.trans (B59.out.mono (by omega)))) (Nat.le_refl _)) (HS9.out.below B19.out (Nat.le_refl _)) (S92.out.below ((B45.out.trans (B59.out.mono (by omega)))) (Nat.le_refl _)) (by have := HLA.out; have := HX.out.one; omega)).mono ?_; rintro e w10 ⟨rfl, hb10⟩; have A10 := hide (A9.out.below hb10 A9.out.lt); have D10 := hide (D9.out.below hb10 D9.out.lt); have B110 : Hid (Below w1.heap.size w1 w10) := B19.out.trans (hb10.mono B19.out.size); obtain ⟨q0, q1, q2, q3, q4, q5, q6, q7, q8, q9, q10, q11, q12⟩ := A10.out.cells; obtain ⟨r0, r1, r2, r3, r4, r5, r6, r7, r8, r9, r10, r11, r12⟩ := D10.out.cells; clear hb10))
  go_ret
  exact ⟨rfl, HB1.out.trans (B110.out.mono HB1.out.size)⟩
end Go.Proofs.Ytfkkaegebpckmaa
