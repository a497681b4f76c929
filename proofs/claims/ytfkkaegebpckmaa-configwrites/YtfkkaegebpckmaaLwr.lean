/- The law ConfigWrites. -/
import Derived.Test.YtfkkaegebpckmaaKno
import Derived.Test.YtfkkaegebpckmaaRch
import Derived.Test.YtfkkaegebpckmaaRby
namespace Go.Proofs.Ytfkkaegebpckmaa
open Go.RowKit
set_option maxRecDepth 5000 in
theorem size_light : ∀ n : List (List UInt8), (∀ l ∈ n, l.length ≤ 300) → N.size n ≤ 1 + n.length * 301
  | [], _ => by simp [N.size]
  | l :: n, h => by
    have h1 := size_light n (fun x hx => h x (List.mem_cons_of_mem _ hx))
    have h2 := h l List.mem_cons_self
    simp only [N.size, List.map_cons, List.sum_cons, List.length_cons] at *
    omega
set_option maxHeartbeats 6000000 in
set_option maxRecDepth 5000 in
theorem writes_walk (x : C.Cf) (a0 a9 : Option Addr) (la c0 ls c9 : Nat) (m : UInt8) (w : World) (hk : C.Ok x) (hla : Hid (x.apex.length = la)) (hls : Hid (x.salt.length = ls)) (hs : SlS w a0 x.apex) (hs9 : SlL w a9 x.salt) (hn9 : a9 = none → c9 = 0) (hm : la ≤ 9223372036854775807) (hm9 : ls ≤ 9223372036854775807) :
    Calls Try.prog 4 #[.agg #[.slice a0 la c0, .int .u32 (x.k : Int), .int .u32 (x.p : Int), .int .u32 (x.d : Int), .int .u32 (x.e : Int), .int .u32 (x.v : Int), .int .u32 (x.l : Int), .int .u32 (x.g : Int), .int .u32 (x.m : Int), .slice a9 ls c9, .int .u16 (x.it : Int), .int .i64 x.h, .int .u16 (x.sz : Int)], .int .u8 (m.toNat : Int)] w fun e w' => e = .returned (.bool true) ∧ Below w.heap.size w w' := by
  have HS := hide hs
  have HS9 := hide hs9
  have HN9 := hide hn9
  have HK := hide hk
  clear hs hs9 hn9 hk
  have A0 := hide (CfAt.new w x a0 a9 la c0 ls c9)
  have B0 : Hid (Below w.heap.size w (w.alloc (.cells #[.slice a0 la c0, .int .u32 (x.k : Int), .int .u32 (x.p : Int), .int .u32 (x.d : Int), .int .u32 (x.e : Int), .int .u32 (x.v : Int), .int .u32 (x.l : Int), .int .u32 (x.g : Int), .int .u32 (x.m : Int), .slice a9 ls c9, .int .u16 (x.it : Int), .int .i64 x.h, .int .u16 (x.sz : Int)] 28))) := (Below.refl w.heap.size w).alloc (Nat.le_refl _) _
  go_enter Try.func4, Try.ntmps4
  go_wp2_with (go_at_call 7; refine (known_any _).mono ?_; rintro e w1 ⟨rfl, hb1⟩; have A1 := hide (A0.out.below hb1 A0.out.lt); have B1 : Hid (Below w.heap.size w w1) := B0.out.trans (hb1.mono (by simp)); obtain ⟨q0, q1, q2, q3, q4, q5, q6, q7, q8, q9, q10, q11, q12⟩ := A1.out.cells; clear hb1)
  clear q0 q1 q2 q3 q4 q5 q6 q7 q8 q9 q10 q11 q12 A0 B0
  refine (light_c x a0 a9 la c0 ls c9 w1 hla (HS.out.below B1.out (Nat.le_refl _)) hm hm9).mono ?_
  rintro e w2 ⟨t, rfl, ht, hb2⟩
  have HT := hide ht
  have A2 := hide (A1.out.below hb2 A1.out.lt)
  have B2 := hide (B1.out.trans (hb2.mono B1.out.size))
  clear ht hb2 A1 B1
  cases t
  · go_wp2
    go_ret
    exact ⟨rfl, B2.out⟩
  · have HL := hide (HT.out (by trivial))
    have hsm : Hid (N.Small x.apex) := HL.out.1.small
    have hsz : Hid (N.size x.apex ≤ 100000) := by have h1 := size_light x.apex HL.out.1.2; have h2 := HL.out.1.1; show _ ≤ _; omega
    have hl3 : ls ≤ 300 := HL.out.2
    have hla2k : la ≤ 200 := by rw [← hla.out]; exact HL.out.1.1
    obtain ⟨q0, q1, q2, q3, q4, q5, q6, q7, q8, q9, q10, q11, q12⟩ := A2.out.cells
    clear HT HL
    go_wp2_with fail
    clear q0 q1 q2 q3 q4 q5 q6 q7 q8 q9 q10 q11 q12
    refine (cBytes_any x a0 a9 la c0 ls c9 w2 HK.out hla hls (HS.out.below B2.out (Nat.le_refl _)) hsm hsz (HS9.out.below B2.out (Nat.le_refl _)) HN9.out hl3).mono ?_
    rintro e w3 ⟨v3, rfl, hO3, hb3⟩
    obtain ⟨a3, c3, hv3, hS3, hn3, hc3, _⟩ := hO3.open
    subst hv3
    obtain ⟨le, hle⟩ : ∃ le, (C.enc x).length = le := ⟨_, rfl⟩
    have hle1 : le ≤ 100400 := by rw [← hle, C.enc_len]; have := hsz.out; have := hls.out; omega
    rw [hle] at hc3 ⊢
    have HLE := hide hle
    have S3 := hide hS3
    have HN3 := hide hn3
    have A3 := hide (A2.out.below hb3 A2.out.lt)
    have B3 := hide (B2.out.trans (hb3.mono B2.out.size))
    obtain ⟨q0, q1, q2, q3, q4, q5, q6, q7, q8, q9, q10, q11, q12⟩ := A3.out.cells
    clear hO3 hS3 hb3 hle hn3 A2 B2
    go_wp2_with fail
    clear q0 q1 q2 q3 q4 q5 q6 q7 q8 q9 q10 q11 q12
    refine (rcBytes_any x a0 a9 la c0 ls c9 w3 HK.out hla hls (HS.out.below B3.out (Nat.le_refl _)) hsm hsz (HS9.out.below B3.out (Nat.le_refl _)) HN9.out hl3).mono ?_
    rintro e w4 ⟨v4, rfl, hO4, hb4⟩
    obtain ⟨a4, c4, hv4, hS4, _, _, _⟩ := hO4.open
    subst hv4
    rw [HLE.out]
    have S4 := hide hS4
    have S34 := hide (S3.out.below hb4 (Nat.le_refl _))
    have A4 := hide (A3.out.below hb4 A3.out.lt)
    have B4 := hide (B3.out.trans (hb4.mono B3.out.size))
    clear hO4 hS4 hb4 A3 B3 S3
    go_wp2_with fail
    refine (bytes_same (C.enc x) a3 a4 le le c3 c4 w4 S34.out S4.out HLE HLE).mono ?_
    rintro e w5 ⟨rfl, hw5⟩
    rw [hw5]
    clear hw5 w5 S4
    obtain ⟨q0, q1, q2, q3, q4, q5, q6, q7, q8, q9, q10, q11, q12⟩ := A4.out.cells
    go_wp2_with fail
    clear q0 q1 q2 q3 q4 q5 q6 q7 q8 q9 q10 q11 q12
    refine (rcCheck_any x a0 a9 la c0 ls c9 w4 hla hls (HS.out.below B4.out (Nat.le_refl _)) hsm hm9).mono ?_
    rintro e w6 ⟨c, rfl, hc, hb6⟩
    have A6 := hide (A4.out.below hb6 A4.out.lt)
    have B6 := hide (B4.out.trans (hb6.mono B4.out.size))
    have S6 := hide (S34.out.below hb6 (Nat.le_refl _))
    clear hb6 A4 B4 S34
    rcases hc with ⟨rfl, hg⟩ | ⟨rfl, _⟩
    · have HG := hide hg
      clear hg
      go_wp2_with fail
      refine (cOpen_any (C.enc x) a3 le c3 w6 HLE S6.out (by omega) hc3).mono ?_
      rintro e w7 ⟨x', cc, a02, a92, la2, c02, ls2, c92, rfl, hdec, hla2, hls2, hs02, hs92, _, hl2b, hb7⟩
      obtain ⟨hxx, rfl⟩ : x = x' ∧ cc = 0 := by
        rcases hdec with ⟨h1, h2⟩ | ⟨h1, _⟩
        · rw [C.dec_enc x HK.out HG.out] at h1
          exact ⟨Option.some.inj h1, h2⟩
        · rw [C.dec_enc x HK.out HG.out] at h1; cases h1
      subst hxx
      have A7 := hide (A6.out.below hb7 A6.out.lt)
      have B7 := hide (B6.out.trans (hb7.mono B6.out.size))
      have S7 := hide (S6.out.below hb7 (Nat.le_refl _))
      have HLA2 := hide hla2
      have HLS2 := hide hls2
      have S02 := hide hs02
      have S92 := hide hs92
      clear hdec hla2 hls2 hs02 hs92 hb7 A6 B6 S6
      have D8 := hide (CfAt.new w7 x a02 a92 la2 c02 ls2 c92)
      have B78 : Hid (Below w7.heap.size w7 (w7.alloc (.cells #[.slice a02 la2 c02, .int .u32 (x.k : Int), .int .u32 (x.p : Int), .int .u32 (x.d : Int), .int .u32 (x.e : Int), .int .u32 (x.v : Int), .int .u32 (x.l : Int), .int .u32 (x.g : Int), .int .u32 (x.m : Int), .slice a92 ls2 c92, .int .u16 (x.it : Int), .int .i64 x.h, .int .u16 (x.sz : Int)] 28))) := (Below.refl _ _).alloc (Nat.le_refl _) _
      have h7 := B7.out.size
      have hlt7 := A7.out.lt
      obtain ⟨l1, hl1⟩ : ∃ l1, (C.enc x ++ [m]).length = l1 := ⟨_, rfl⟩
      have hl1b : l1 ≤ 100401 := by rw [← hl1, List.length_append, HLE.out, List.length_singleton]; omega
      have HL1 := hide hl1
      clear hl1
      go_wp2_with (first
        | (at_builtin; refine wpList_append_B rfl (.const (.slice none 0 0)) (.tmp 31) rfl (w7.heap.size + 1) _ [] rfl (OwnB.nil _ _) _ _ _ (C.enc x) rfl HLE.out (by exact S7.out.alloc _) HN3.out (by simp; omega) (by simp) ?_; intro v8 w8 hO8 hG8; have hb8 := grown_below (OwnB.nil _ (w7.heap.size + 1)) hG8 (Below.refl _ _) (by simp); rw [List.nil_append] at hO8; have D9 := hide (D8.out.below hb8 (by omega)); have B79 : Hid (Below w7.heap.size w7 w8) := B78.out.trans (hb8.mono (by omega)); have hz8 : w7.heap.size + 1 ≤ w8.heap.size := (by have := hb8.size; rw [size_alloc] at this; exact this); have O8 := hide hO8; clear hO8 hG8 hb8)
        | (at_builtin; refine wpList_append_B rfl (.tmp 32) (.tmp 34) rfl (w7.heap.size + 1) _ (C.enc x) rfl (by exact O8.out.alloc _) _ _ _ [m] rfl rfl (by exact SlL.oneI _ _ _ _ rfl) (by intro h; cases h) (by rw [HLE.out]; omega) (by simp; omega) ?_; intro v9 w9 hO9 hG9; have hb9 := (Kp.app O8.out hG9 hz8).1; obtain ⟨a5, c5, hv9, hS9, _, hc5, _⟩ := hO9.open; rw [HL1.out] at hv9 hc5; subst hv9; have D10 := hide (D9.out.below hb9 (by omega)); have B7x : Hid (Below w7.heap.size w7 w9) := B79.out.trans (hb9.mono (by omega)); have S9 := hide hS9; clear hO9 hG9 hb9 hS9)
        | (go_at_call 14; refine (cOpen_any (C.enc x ++ [m]) a5 l1 c5 w9 HL1 S9.out (by omega) hc5).mono ?_; rintro e w10 ⟨x1, cc, a03, a93, la3, c03, ls3, c93, rfl, hdec1, _, _, _, _, _, _, hb10⟩; obtain rfl : cc = 100 := (by rcases hdec1 with ⟨h1, _⟩ | ⟨_, _, h2⟩; rw [C.dec_more x HG.out m] at h1; cases h1; exact h2); have D11 := hide (D10.out.below hb10 D10.out.lt); have B711 : Hid (Below w7.heap.size w7 w10) := B7x.out.trans (hb10.mono B7x.out.size); have A11 := hide (A7.out.below B711.out hlt7); have hz10 := B711.out.size; have hlt10 := A11.out.lt; have hlt11 := D11.out.lt; obtain ⟨q0, q1, q2, q3, q4, q5, q6, q7, q8, q9, q10, q11, q12⟩ := A11.out.cells; obtain ⟨r0, r1, r2, r3, r4, r5, r6, r7, r8, r9, r10, r11, r12⟩ := D11.out.cells; clear hdec1 hb10)
        | (go_at_call 15; refine (hConfig_same x a0 a9 a02 a92 la c0 ls c9 la2 c02 ls2 c92 _ hla HLA2 hls HLS2 (by exact (HS.out.below (B7.out.trans (B711.out.mono h7)) (Nat.le_refl _)).alloc _) (by exact (S02.out.below B711.out (Nat.le_refl _)).alloc _) (by exact (HS9.out.below (B7.out.trans (B711.out.mono h7)) (Nat.le_refl _)).alloc _) (by exact (S92.out.below B711.out (Nat.le_refl _)).alloc _) (by omega)).mono ?_; rintro e w12 ⟨rfl, hb12⟩; have B12 : Hid (Below w10.heap.size w10 w12) := ((Below.refl w10.heap.size w10).alloc (Nat.le_refl _) _).trans (hb12.mono (by simp)); clear hb12))
      go_ret
      exact ⟨rfl, B7.out.trans ((B711.out.mono h7).trans (B12.out.mono (by omega)))⟩
    · go_wp2
      go_ret
      exact ⟨rfl, B6.out⟩
end Go.Proofs.Ytfkkaegebpckmaa
