/- The law DataBack. -/
import Derived.Test.YtagopkmehlpjpaaKnown
import Derived.Test.YtagopkmehlpjpaaHelpD
import Derived.Test.YtagopkmehlpjpaaWhlS
import Derived.Test.YtagopkmehlpjpaaWhlG
import Derived.Test.YtagopkmehlpjpaaWhlC
import Derived.Test.YtagopkmehlpjpaaRefL
namespace Go.Proofs.Ytagopkmehlpjpaa
open Go.RowKit
set_option maxRecDepth 5000 in
theorem right_good2 {n : List (List UInt8)} (h : Right n) : D.Good n := ⟨fun e => (h.2.1 [] e).1 rfl, fun l hl => (h.2.1 l hl).2, h.2.2⟩
def Four (B : Nat) (W : World) (x1 x2 x3 x4 : Array Value) : Prop := RowAt W B 43 x1 ∧ RowAt W (B + 1) 51 x2 ∧ RowAt W (B + 2) 60 x3 ∧ RowAt W (B + 3) 68 x4
set_option maxRecDepth 5000 in
theorem Four.below {B : Nat} {W W' : World} {x1 x2 x3 x4 : Array Value} (h : Four B W x1 x2 x3 x4) (hb : Below W.heap.size W W') : Four B W' x1 x2 x3 x4 :=
  ⟨h.1.below hb h.1.lt, h.2.1.below hb h.2.1.lt, h.2.2.1.below hb h.2.2.1.lt, h.2.2.2.below hb h.2.2.2.lt⟩
set_option maxRecDepth 5000 in
theorem Four.new (w : World) (x1 x2 x3 x4 : Array Value) : Four w.heap.size ((((w.alloc (.cells x1 43)).alloc (.cells x2 51)).alloc (.cells x3 60)).alloc (.cells x4 68)) x1 x2 x3 x4 := by
  refine ⟨(((RowAt.new w 43 x1).alloc _).alloc _).alloc _, ?_, ?_, ?_⟩
  · have h := ((RowAt.new (w.alloc (.cells x1 43)) 51 x2).alloc (.cells x3 60)).alloc (.cells x4 68)
    simpa using h
  · have h := (RowAt.new ((w.alloc (.cells x1 43)).alloc (.cells x2 51)) 60 x3).alloc (.cells x4 68)
    simpa using h
  · have h := RowAt.new (((w.alloc (.cells x1 43)).alloc (.cells x2 51)).alloc (.cells x3 60)) 68 x4
    simpa using h
set_option maxRecDepth 5000 in
theorem Four.types {B : Nat} {W : World} {x1 x2 x3 x4 : Array Value} (h : Four B W x1 x2 x3 x4) (v : Value) : Four B (W.setCell ⟨B + 2, 5, none⟩ v) x1 x2 (x3.setIfInBounds 5 v) x4 :=
  ⟨h.1.other _ _ (by simp), h.2.1.other _ _ (by simp), h.2.2.1.set 5 v, h.2.2.2.other _ _ (by simp)⟩
set_option maxRecDepth 5000 in
theorem good_len {n : List (List UInt8)} (h : D.Good n) : n.length ≤ 255 := by
  have h1 := h.2.2
  have h2 : n.length ≤ N.size n := by
    unfold N.size
    clear h h1
    induction n with
    | nil => simp
    | cons a r ih => simp only [List.map_cons, List.sum_cons, List.length_cons]; omega
  omega
set_option maxRecDepth 5000 in
theorem step_new {W W1 W2 : World} {o : Obj} (h1 : Below W.heap.size W W1) (h2 : Below W1.heap.size W1 W2) : Below W.heap.size W (W2.alloc o) := (h1.trans (h2.mono h1.size)).alloc (Nat.le_trans h1.size h2.size) o
set_option maxHeartbeats 6400000 in
set_option maxRecDepth 5000 in
theorem back_walk (s : D.Soa) (g : D.Sig) (c : D.Chain) (k : D.Key) (a1 a2 a3 a4 a5 a6 a7 a8 : Option Addr) (c1 c2 c3 c4 c5 c6 c7 c8 : Nat) (w : World)
    (hs1 : SlS w a1 s.main) (hs2 : SlS w a2 s.box) (hs3 : SlS w a3 g.signer) (hs4 : SlL w a4 g.sig) (hs5 : SlL w a5 c.salt) (hs6 : SlL w a6 c.next) (hs7 : SlH w a7 c.types) (hs8 : SlL w a8 k.key)
    (n4 : a4 = none → c4 = 0) (n5 : a5 = none → c5 = 0) (n6 : a6 = none → c6 = 0) (n8 : a8 = none → c8 = 0)
    (m1 : s.main.length ≤ 9223372036854775807) (m2 : s.box.length ≤ 9223372036854775807) (m3 : g.signer.length ≤ 9223372036854775807)
    (ks : s.a < 4294967296 ∧ s.b < 4294967296 ∧ s.c < 4294967296 ∧ s.d < 4294967296 ∧ s.e < 4294967296)
    (kg : g.type < 65536 ∧ g.alg < 256 ∧ g.labels < 256 ∧ g.ttl < 4294967296 ∧ g.expire < 4294967296 ∧ g.begin_ < 4294967296 ∧ g.tag < 65536)
    (kc : c.hash < 256 ∧ c.flags < 256 ∧ c.iter < 65536) (kk : k.Ok) :
    Calls Try.prog 5 #[.agg #[.slice a1 s.main.length c1, .slice a2 s.box.length c2, .int .u32 (s.a : Int), .int .u32 (s.b : Int), .int .u32 (s.c : Int), .int .u32 (s.d : Int), .int .u32 (s.e : Int)], .agg #[.int .u16 (g.type : Int), .int .u8 (g.alg : Int), .int .u8 (g.labels : Int), .int .u32 (g.ttl : Int), .int .u32 (g.expire : Int), .int .u32 (g.begin_ : Int), .int .u16 (g.tag : Int), .slice a3 g.signer.length c3, .slice a4 g.sig.length c4], .agg #[.int .u8 (c.hash : Int), .int .u8 (c.flags : Int), .int .u16 (c.iter : Int), .slice a5 c.salt.length c5, .slice a6 c.next.length c6, .slice a7 c.types.length c7], .agg #[.int .u16 (k.flags : Int), .int .u8 (k.proto : Int), .int .u8 (k.alg : Int), .slice a8 k.key.length c8]] w fun e w' => e = .returned (.bool true) ∧ Below w.heap.size w w' := by
  have S1 := hide hs1
  have S2 := hide hs2
  have S3 := hide hs3
  have S4 := hide hs4
  have S5 := hide hs5
  have S6 := hide hs6
  have S7 := hide hs7
  have S8 := hide hs8
  have N4 := hide n4
  have N5 := hide n5
  have N6 := hide n6
  have N8 := hide n8
  have KS := hide ks
  have KG := hide kg
  have KC := hide kc
  have KK := hide kk
  clear hs1 hs2 hs3 hs4 hs5 hs6 hs7 hs8 n4 n5 n6 n8 ks kg kc kk
  have F0 := hide (Four.new w #[.slice a1 s.main.length c1, .slice a2 s.box.length c2, .int .u32 (s.a : Int), .int .u32 (s.b : Int), .int .u32 (s.c : Int), .int .u32 (s.d : Int), .int .u32 (s.e : Int)] #[.int .u16 (g.type : Int), .int .u8 (g.alg : Int), .int .u8 (g.labels : Int), .int .u32 (g.ttl : Int), .int .u32 (g.expire : Int), .int .u32 (g.begin_ : Int), .int .u16 (g.tag : Int), .slice a3 g.signer.length c3, .slice a4 g.sig.length c4] #[.int .u8 (c.hash : Int), .int .u8 (c.flags : Int), .int .u16 (c.iter : Int), .slice a5 c.salt.length c5, .slice a6 c.next.length c6, .slice a7 c.types.length c7] #[.int .u16 (k.flags : Int), .int .u8 (k.proto : Int), .int .u8 (k.alg : Int), .slice a8 k.key.length c8])
  have B0 := hide (((((Below.refl w.heap.size w).alloc (Nat.le_refl _) (.cells #[.slice a1 s.main.length c1, .slice a2 s.box.length c2, .int .u32 (s.a : Int), .int .u32 (s.b : Int), .int .u32 (s.c : Int), .int .u32 (s.d : Int), .int .u32 (s.e : Int)] 43)).alloc (by simp) (.cells #[.int .u16 (g.type : Int), .int .u8 (g.alg : Int), .int .u8 (g.labels : Int), .int .u32 (g.ttl : Int), .int .u32 (g.expire : Int), .int .u32 (g.begin_ : Int), .int .u16 (g.tag : Int), .slice a3 g.signer.length c3, .slice a4 g.sig.length c4] 51)).alloc (by simp; omega) (.cells #[.int .u8 (c.hash : Int), .int .u8 (c.flags : Int), .int .u16 (c.iter : Int), .slice a5 c.salt.length c5, .slice a6 c.next.length c6, .slice a7 c.types.length c7] 60)).alloc (by simp; omega) (.cells #[.int .u16 (k.flags : Int), .int .u8 (k.proto : Int), .int .u8 (k.alg : Int), .slice a8 k.key.length c8] 68))
  go_enter Try.func5, Try.ntmps5
  go_wp2_with fail
  refine (known_any _).mono ?_
  rintro e w1 ⟨rfl, hb1⟩
  have F1 := hide (F0.out.below hb1)
  have B1 := hide (B0.out.trans (hb1.mono B0.out.size))
  clear F0 B0 hb1
  have x1 : w1.cell? ⟨w.heap.size, 0, none⟩ = some (.slice a1 s.main.length c1) := F1.out.1.cell 0
  have x2 : w1.cell? ⟨w.heap.size, 1, none⟩ = some (.slice a2 s.box.length c2) := F1.out.1.cell 1
  have x3 : w1.cell? ⟨w.heap.size + 1, 7, none⟩ = some (.slice a3 g.signer.length c3) := F1.out.2.1.cell 7
  have x4 : w1.cell? ⟨w.heap.size + 1, 8, none⟩ = some (.slice a4 g.sig.length c4) := F1.out.2.1.cell 8
  have x5 : w1.cell? ⟨w.heap.size + 2, 3, none⟩ = some (.slice a5 c.salt.length c5) := F1.out.2.2.1.cell 3
  have x6 : w1.cell? ⟨w.heap.size + 2, 4, none⟩ = some (.slice a6 c.next.length c6) := F1.out.2.2.1.cell 4
  have x7 : w1.cell? ⟨w.heap.size + 2, 5, none⟩ = some (.slice a7 c.types.length c7) := F1.out.2.2.1.cell 5
  have x8 : w1.cell? ⟨w.heap.size + 3, 3, none⟩ = some (.slice a8 k.key.length c8) := F1.out.2.2.2.cell 3
  go_wp2_with fail
  refine (right_any s.main a1 s.main.length c1 _ rfl (by exact S1.out.below B1.out (Nat.le_refl _)) m1).mono ?_
  rintro e w2 ⟨t1, rfl, hr1, rfl⟩
  cases t1
  · clear hr1
    go_wp2
    go_ret
    exact ⟨rfl, B1.out⟩
  have hg1 := hide (right_good2 (hr1 rfl))
  clear hr1
  go_wp2_with fail
  refine (right_any s.box a2 s.box.length c2 _ rfl (by exact S2.out.below B1.out (Nat.le_refl _)) m2).mono ?_
  rintro e w2 ⟨t2, rfl, hr2, rfl⟩
  cases t2
  · clear hr2
    go_wp2
    go_ret
    exact ⟨rfl, B1.out⟩
  have hg2 := hide (right_good2 (hr2 rfl))
  clear hr2
  go_wp2_with fail
  refine (right_any g.signer a3 g.signer.length c3 _ rfl (by exact S3.out.below B1.out (Nat.le_refl _)) m3).mono ?_
  rintro e w2 ⟨t3, rfl, hr3, rfl⟩
  cases t3
  · clear hr3
    go_wp2
    go_ret
    exact ⟨rfl, B1.out⟩
  have hg3 := hide (right_good2 (hr3 rfl))
  clear hr3
  by_cases q0 : 1000 < g.sig.length
  · have q0' : (1000 : Int) < (g.sig.length : Int) := by omega
    go_wp2
    go_ret
    exact ⟨rfl, B1.out⟩
  have q0' : ¬ (1000 : Int) < (g.sig.length : Int) := by omega
  by_cases q1 : 255 < c.salt.length
  · have q1' : (255 : Int) < (c.salt.length : Int) := by omega
    go_wp2
    go_ret
    exact ⟨rfl, B1.out⟩
  have q1' : ¬ (255 : Int) < (c.salt.length : Int) := by omega
  by_cases q2 : 255 < c.next.length
  · have q2' : (255 : Int) < (c.next.length : Int) := by omega
    go_wp2
    go_ret
    exact ⟨rfl, B1.out⟩
  have q2' : ¬ (255 : Int) < (c.next.length : Int) := by omega
  by_cases q3 : c.next.length = 0
  · have q3' : ((c.next.length : Int) == 0) = true := beq_iff_eq.2 (by omega)
    go_wp2
    go_ret
    exact ⟨rfl, B1.out⟩
  have q3' : ((c.next.length : Int) == 0) = false := beq_eq_false_iff_ne.2 (by omega)
  by_cases q4 : 100 < c.types.length
  · have q4' : (100 : Int) < (c.types.length : Int) := by omega
    go_wp2
    go_ret
    exact ⟨rfl, B1.out⟩
  have q4' : ¬ (100 : Int) < (c.types.length : Int) := by omega
  by_cases q5 : 1000 < k.key.length
  · have q5' : (1000 : Int) < (k.key.length : Int) := by omega
    go_wp2
    go_ret
    exact ⟨rfl, B1.out⟩
  have q5' : ¬ (1000 : Int) < (k.key.length : Int) := by omega
  have HQ : Hid (g.sig.length ≤ 1000 ∧ c.salt.length ≤ 255 ∧ c.next.length ≤ 255 ∧ c.next.length ≠ 0 ∧ c.types.length ≤ 100 ∧ k.key.length ≤ 1000) := ⟨by omega, by omega, by omega, q3, by omega, by omega⟩
  go_wp2_with fail
  refine (rclean_any c.types a7 c.types.length c7 _ rfl (by exact S7.out.below B1.out (Nat.le_refl _)) (by have := HQ.out.2.2.2.2.1; omega)).mono ?_
  rintro e w2 ⟨v9, t, rfl, hcl, htl, hO9, hb2⟩
  obtain ⟨a9, c9, rfl, _, _, _⟩ := hO9.open
  have F2 := F1.out.below hb2
  have u7 : w2.cell? ⟨w.heap.size + 2, 5, none⟩ = some (.slice a7 c.types.length c7) := F2.2.2.1.cell 5
  have fz : w2.frozen? ⟨w.heap.size + 2, 5, none⟩ = false := F2.2.2.1.frozen 5
  have F3 := hide (F2.types (.slice a9 t.length c9))
  have O9 := hide (own_set hO9 F2.2.2.1 (by decide) 5 (.slice a9 t.length c9))
  have B3 := hide (setNew_below (g := w.heap.size + 2) (j := 5) (v := .slice a9 t.length c9) (B1.out.trans (hb2.mono B1.out.size)) (by omega))
  have HCL := hide hcl
  have HTL : Hid (t.length ≤ 100) := by have := HQ.out.2.2.2.2.1; show _ ≤ _; omega
  clear hO9 hb2 F2 F1 B1 hcl htl x1 x2 x3 x4 x5 x6 x7 x8 q0' q1' q2' q3' q4' q5' q0 q1 q2 q3 q4 q5
  have HS : Hid (D.full (D.soaB s) (D.soa (D.soaB s)) = some s) := by
    have h := D.soa_fwd s [] ⟨hg1.out, hg2.out, KS.out⟩
    rw [List.append_nil] at h
    have z1 := hg1.out.2.2
    have z2 := hg2.out.2.2
    exact D.full_some (by simp only [D.soaB, List.length_append, p32_len, N.wire_len]; omega) h
  have HG : Hid (D.full (D.sigB g) (D.sig (D.sigB g)) = some g) := by
    obtain ⟨k1, k2, k3, k4, k5, k6, k7⟩ := KG.out
    have h := D.sig_fwd g ⟨k1, k2, k3, k4, k5, k6, k7, hg3.out⟩
    have z1 := hg3.out.2.2
    have z2 := HQ.out.1
    exact D.full_some (by simp only [D.sigB, List.length_append, p32_len, p16_len, N.wire_len, List.length_cons, List.length_nil]; omega) h
  have HBL : Hid ((T.bmp t).length ≤ 3400) := by
    have h := T.bmp_len t.length t (Nat.le_refl _)
    have := HTL.out
    show _ ≤ _
    omega
  have HC : Hid (D.full (D.chainB ⟨c.hash, c.flags, c.iter, c.salt, c.next, t⟩) (D.chain (D.chainB ⟨c.hash, c.flags, c.iter, c.salt, c.next, t⟩)) = some ⟨c.hash, c.flags, c.iter, c.salt, c.next, t⟩) := by
    obtain ⟨k1, k2, k3⟩ := KC.out
    obtain ⟨_, z1, z2, z3, _, _⟩ := HQ.out
    have h := D.chain_fwd ⟨c.hash, c.flags, c.iter, c.salt, c.next, t⟩ ⟨k1, k2, k3, z1, z2, fun e => z3 (by simp only at e; rw [e]; rfl), HCL.out.1⟩
    have z4 := HBL.out
    exact D.full_some (by simp only [D.chainB, D.pc, List.length_append, p16_len, List.length_cons, List.length_nil]; omega) h
  have HK : Hid (D.full (D.keyB k) (D.key (D.keyB k)) = some k) := by
    have h := D.key_fwd k KK.out
    have z := HQ.out.2.2.2.2.2
    exact D.full_some (by simp only [D.keyB, List.length_append, p16_len, List.length_cons, List.length_nil]; omega) h
  have BB := hide B3.out
  clear B3
  have y0 : (w2.setCell ⟨w.heap.size + 2, 5, none⟩ (.slice a9 t.length c9)).cell? ⟨w.heap.size, 0, none⟩ = some (.slice a1 s.main.length c1) := F3.out.1.cell 0
  have y1 : (w2.setCell ⟨w.heap.size + 2, 5, none⟩ (.slice a9 t.length c9)).cell? ⟨w.heap.size, 1, none⟩ = some (.slice a2 s.box.length c2) := F3.out.1.cell 1
  have y2 : (w2.setCell ⟨w.heap.size + 2, 5, none⟩ (.slice a9 t.length c9)).cell? ⟨w.heap.size, 2, none⟩ = some (.int .u32 (s.a : Int)) := F3.out.1.cell 2
  have y3 : (w2.setCell ⟨w.heap.size + 2, 5, none⟩ (.slice a9 t.length c9)).cell? ⟨w.heap.size, 3, none⟩ = some (.int .u32 (s.b : Int)) := F3.out.1.cell 3
  have y4 : (w2.setCell ⟨w.heap.size + 2, 5, none⟩ (.slice a9 t.length c9)).cell? ⟨w.heap.size, 4, none⟩ = some (.int .u32 (s.c : Int)) := F3.out.1.cell 4
  have y5 : (w2.setCell ⟨w.heap.size + 2, 5, none⟩ (.slice a9 t.length c9)).cell? ⟨w.heap.size, 5, none⟩ = some (.int .u32 (s.d : Int)) := F3.out.1.cell 5
  have y6 : (w2.setCell ⟨w.heap.size + 2, 5, none⟩ (.slice a9 t.length c9)).cell? ⟨w.heap.size, 6, none⟩ = some (.int .u32 (s.e : Int)) := F3.out.1.cell 6
  go_wp2_with fail
  refine (soaBytes_any s a1 a2 s.main.length c1 s.box.length c2 _ rfl rfl (by exact S1.out.below BB.out (Nat.le_refl _)) (by exact S2.out.below BB.out (Nat.le_refl _)) (by have := hg1.out.2.2; omega) (by have := hg2.out.2.2; omega) KS.out.1 KS.out.2.1 KS.out.2.2.1 KS.out.2.2.2.1 KS.out.2.2.2.2).mono ?_
  rintro e w3 ⟨v3, rfl, hO, hb1⟩
  obtain ⟨ao, co, rfl, hsl, hnl, hle, _⟩ := hO.open
  have SL := hide hsl
  have NL := hide hnl
  have H1 := hide hb1
  clear hO hsl hnl hb1 y0 y1 y2 y3 y4 y5 y6
  go_wp2_with fail
  refine (Soa_any (D.soaB s) ao _ co _ rfl (by exact SL.out) hle NL.out).mono ?_
  rw [HS.out]
  rintro e w4 ⟨⟨s', v, ho, rfl, hv⟩ | ⟨ho, _⟩, hb2⟩
  rotate_left
  · cases ho
  cases ho
  obtain ⟨eA1, dA1, eA2, dA2, rfl, heA1, heA2⟩ := hv
  have hB := step_new (o := .cells #[.slice eA1 s.main.length dA1, .slice eA2 s.box.length dA2, .int .u32 (s.a : Int), .int .u32 (s.b : Int), .int .u32 (s.c : Int), .int .u32 (s.d : Int), .int .u32 (s.e : Int)] 43) H1.out hb2
  replace F3 := hide (F3.out.below hB)
  replace BB := hide (BB.out.trans (hB.mono BB.out.size))
  replace O9 := hide (OwnH.below O9.out hB)
  have RA := hide (RowAt.new w4 43 #[.slice eA1 s.main.length dA1, .slice eA2 s.box.length dA2, .int .u32 (s.a : Int), .int .u32 (s.b : Int), .int .u32 (s.c : Int), .int .u32 (s.d : Int), .int .u32 (s.e : Int)])
  have OeA1 := hide (OwnS.alloc heA1 (.cells #[.slice eA1 s.main.length dA1, .slice eA2 s.box.length dA2, .int .u32 (s.a : Int), .int .u32 (s.b : Int), .int .u32 (s.c : Int), .int .u32 (s.d : Int), .int .u32 (s.e : Int)] 43))
  have OeA2 := hide (OwnS.alloc heA2 (.cells #[.slice eA1 s.main.length dA1, .slice eA2 s.box.length dA2, .int .u32 (s.a : Int), .int .u32 (s.b : Int), .int .u32 (s.c : Int), .int .u32 (s.d : Int), .int .u32 (s.e : Int)] 43))
  clear hB hb2 H1 SL NL hle heA1 heA2
  have y0 : (w4.alloc (.cells #[.slice eA1 s.main.length dA1, .slice eA2 s.box.length dA2, .int .u32 (s.a : Int), .int .u32 (s.b : Int), .int .u32 (s.c : Int), .int .u32 (s.d : Int), .int .u32 (s.e : Int)] 43)).cell? ⟨w.heap.size + 1, 0, none⟩ = some (.int .u16 (g.type : Int)) := F3.out.2.1.cell 0
  have y1 : (w4.alloc (.cells #[.slice eA1 s.main.length dA1, .slice eA2 s.box.length dA2, .int .u32 (s.a : Int), .int .u32 (s.b : Int), .int .u32 (s.c : Int), .int .u32 (s.d : Int), .int .u32 (s.e : Int)] 43)).cell? ⟨w.heap.size + 1, 1, none⟩ = some (.int .u8 (g.alg : Int)) := F3.out.2.1.cell 1
  have y2 : (w4.alloc (.cells #[.slice eA1 s.main.length dA1, .slice eA2 s.box.length dA2, .int .u32 (s.a : Int), .int .u32 (s.b : Int), .int .u32 (s.c : Int), .int .u32 (s.d : Int), .int .u32 (s.e : Int)] 43)).cell? ⟨w.heap.size + 1, 2, none⟩ = some (.int .u8 (g.labels : Int)) := F3.out.2.1.cell 2
  have y3 : (w4.alloc (.cells #[.slice eA1 s.main.length dA1, .slice eA2 s.box.length dA2, .int .u32 (s.a : Int), .int .u32 (s.b : Int), .int .u32 (s.c : Int), .int .u32 (s.d : Int), .int .u32 (s.e : Int)] 43)).cell? ⟨w.heap.size + 1, 3, none⟩ = some (.int .u32 (g.ttl : Int)) := F3.out.2.1.cell 3
  have y4 : (w4.alloc (.cells #[.slice eA1 s.main.length dA1, .slice eA2 s.box.length dA2, .int .u32 (s.a : Int), .int .u32 (s.b : Int), .int .u32 (s.c : Int), .int .u32 (s.d : Int), .int .u32 (s.e : Int)] 43)).cell? ⟨w.heap.size + 1, 4, none⟩ = some (.int .u32 (g.expire : Int)) := F3.out.2.1.cell 4
  have y5 : (w4.alloc (.cells #[.slice eA1 s.main.length dA1, .slice eA2 s.box.length dA2, .int .u32 (s.a : Int), .int .u32 (s.b : Int), .int .u32 (s.c : Int), .int .u32 (s.d : Int), .int .u32 (s.e : Int)] 43)).cell? ⟨w.heap.size + 1, 5, none⟩ = some (.int .u32 (g.begin_ : Int)) := F3.out.2.1.cell 5
  have y6 : (w4.alloc (.cells #[.slice eA1 s.main.length dA1, .slice eA2 s.box.length dA2, .int .u32 (s.a : Int), .int .u32 (s.b : Int), .int .u32 (s.c : Int), .int .u32 (s.d : Int), .int .u32 (s.e : Int)] 43)).cell? ⟨w.heap.size + 1, 6, none⟩ = some (.int .u16 (g.tag : Int)) := F3.out.2.1.cell 6
  have y7 : (w4.alloc (.cells #[.slice eA1 s.main.length dA1, .slice eA2 s.box.length dA2, .int .u32 (s.a : Int), .int .u32 (s.b : Int), .int .u32 (s.c : Int), .int .u32 (s.d : Int), .int .u32 (s.e : Int)] 43)).cell? ⟨w.heap.size + 1, 7, none⟩ = some (.slice a3 g.signer.length c3) := F3.out.2.1.cell 7
  have y8 : (w4.alloc (.cells #[.slice eA1 s.main.length dA1, .slice eA2 s.box.length dA2, .int .u32 (s.a : Int), .int .u32 (s.b : Int), .int .u32 (s.c : Int), .int .u32 (s.d : Int), .int .u32 (s.e : Int)] 43)).cell? ⟨w.heap.size + 1, 8, none⟩ = some (.slice a4 g.sig.length c4) := F3.out.2.1.cell 8
  go_wp2_with fail
  refine (sigBytes_any g a3 a4 g.signer.length c3 g.sig.length c4 _ rfl rfl (by exact S3.out.below BB.out (Nat.le_refl _)) (by exact S4.out.below BB.out (Nat.le_refl _)) N4.out (by have := hg3.out.2.2; omega) (by have := HQ.out.1; omega) KG.out.1 KG.out.2.1 KG.out.2.2.1 KG.out.2.2.2.1 KG.out.2.2.2.2.1 KG.out.2.2.2.2.2.1 KG.out.2.2.2.2.2.2).mono ?_
  rintro e w6 ⟨v6, rfl, hO, hb1⟩
  obtain ⟨ao, co, rfl, hsl, hnl, hle, _⟩ := hO.open
  have SL := hide hsl
  have NL := hide hnl
  have H1 := hide hb1
  clear hO hsl hnl hb1 y0 y1 y2 y3 y4 y5 y6 y7 y8
  go_wp2_with fail
  refine (Sig_any (D.sigB g) ao _ co _ rfl (by exact SL.out) hle NL.out).mono ?_
  rw [HG.out]
  rintro e w7 ⟨⟨s', v, ho, rfl, hv⟩ | ⟨ho, _⟩, hb2⟩
  rotate_left
  · cases ho
  cases ho
  obtain ⟨eB1, dB1, eB2, dB2, rfl, heB1, heB2⟩ := hv
  have hB := step_new (o := .cells #[.int .u16 (g.type : Int), .int .u8 (g.alg : Int), .int .u8 (g.labels : Int), .int .u32 (g.ttl : Int), .int .u32 (g.expire : Int), .int .u32 (g.begin_ : Int), .int .u16 (g.tag : Int), .slice eB1 g.signer.length dB1, .slice eB2 g.sig.length dB2] 51) H1.out hb2
  replace F3 := hide (F3.out.below hB)
  replace BB := hide (BB.out.trans (hB.mono BB.out.size))
  replace O9 := hide (OwnH.below O9.out hB)
  replace RA := hide (RA.out.below hB RA.out.lt)
  replace OeA1 := hide (OwnS.below OeA1.out hB)
  replace OeA2 := hide (OwnS.below OeA2.out hB)
  have RB := hide (RowAt.new w7 51 #[.int .u16 (g.type : Int), .int .u8 (g.alg : Int), .int .u8 (g.labels : Int), .int .u32 (g.ttl : Int), .int .u32 (g.expire : Int), .int .u32 (g.begin_ : Int), .int .u16 (g.tag : Int), .slice eB1 g.signer.length dB1, .slice eB2 g.sig.length dB2])
  have OeB1 := hide (OwnS.alloc heB1 (.cells #[.int .u16 (g.type : Int), .int .u8 (g.alg : Int), .int .u8 (g.labels : Int), .int .u32 (g.ttl : Int), .int .u32 (g.expire : Int), .int .u32 (g.begin_ : Int), .int .u16 (g.tag : Int), .slice eB1 g.signer.length dB1, .slice eB2 g.sig.length dB2] 51))
  have OeB2 := hide (OwnB.alloc heB2 (.cells #[.int .u16 (g.type : Int), .int .u8 (g.alg : Int), .int .u8 (g.labels : Int), .int .u32 (g.ttl : Int), .int .u32 (g.expire : Int), .int .u32 (g.begin_ : Int), .int .u16 (g.tag : Int), .slice eB1 g.signer.length dB1, .slice eB2 g.sig.length dB2] 51))
  clear hB hb2 H1 SL NL hle heB1 heB2
  have y0 : (w7.alloc (.cells #[.int .u16 (g.type : Int), .int .u8 (g.alg : Int), .int .u8 (g.labels : Int), .int .u32 (g.ttl : Int), .int .u32 (g.expire : Int), .int .u32 (g.begin_ : Int), .int .u16 (g.tag : Int), .slice eB1 g.signer.length dB1, .slice eB2 g.sig.length dB2] 51)).cell? ⟨w.heap.size + 2, 0, none⟩ = some (.int .u8 (c.hash : Int)) := F3.out.2.2.1.cell 0
  have y1 : (w7.alloc (.cells #[.int .u16 (g.type : Int), .int .u8 (g.alg : Int), .int .u8 (g.labels : Int), .int .u32 (g.ttl : Int), .int .u32 (g.expire : Int), .int .u32 (g.begin_ : Int), .int .u16 (g.tag : Int), .slice eB1 g.signer.length dB1, .slice eB2 g.sig.length dB2] 51)).cell? ⟨w.heap.size + 2, 1, none⟩ = some (.int .u8 (c.flags : Int)) := F3.out.2.2.1.cell 1
  have y2 : (w7.alloc (.cells #[.int .u16 (g.type : Int), .int .u8 (g.alg : Int), .int .u8 (g.labels : Int), .int .u32 (g.ttl : Int), .int .u32 (g.expire : Int), .int .u32 (g.begin_ : Int), .int .u16 (g.tag : Int), .slice eB1 g.signer.length dB1, .slice eB2 g.sig.length dB2] 51)).cell? ⟨w.heap.size + 2, 2, none⟩ = some (.int .u16 (c.iter : Int)) := F3.out.2.2.1.cell 2
  have y3 : (w7.alloc (.cells #[.int .u16 (g.type : Int), .int .u8 (g.alg : Int), .int .u8 (g.labels : Int), .int .u32 (g.ttl : Int), .int .u32 (g.expire : Int), .int .u32 (g.begin_ : Int), .int .u16 (g.tag : Int), .slice eB1 g.signer.length dB1, .slice eB2 g.sig.length dB2] 51)).cell? ⟨w.heap.size + 2, 3, none⟩ = some (.slice a5 c.salt.length c5) := F3.out.2.2.1.cell 3
  have y4 : (w7.alloc (.cells #[.int .u16 (g.type : Int), .int .u8 (g.alg : Int), .int .u8 (g.labels : Int), .int .u32 (g.ttl : Int), .int .u32 (g.expire : Int), .int .u32 (g.begin_ : Int), .int .u16 (g.tag : Int), .slice eB1 g.signer.length dB1, .slice eB2 g.sig.length dB2] 51)).cell? ⟨w.heap.size + 2, 4, none⟩ = some (.slice a6 c.next.length c6) := F3.out.2.2.1.cell 4
  have y5 : (w7.alloc (.cells #[.int .u16 (g.type : Int), .int .u8 (g.alg : Int), .int .u8 (g.labels : Int), .int .u32 (g.ttl : Int), .int .u32 (g.expire : Int), .int .u32 (g.begin_ : Int), .int .u16 (g.tag : Int), .slice eB1 g.signer.length dB1, .slice eB2 g.sig.length dB2] 51)).cell? ⟨w.heap.size + 2, 5, none⟩ = some (.slice a9 t.length c9) := F3.out.2.2.1.cell 5
  go_wp2_with fail
  refine (chainBytes_any ⟨c.hash, c.flags, c.iter, c.salt, c.next, t⟩ a5 a6 a9 c.salt.length c5 c.next.length c6 t.length c9 _ rfl rfl rfl (by exact S5.out.below BB.out (Nat.le_refl _)) (by exact S6.out.below BB.out (Nat.le_refl _)) (by exact (OwnH.slOf O9.out).1) N5.out N6.out (OwnH.slOf O9.out).2 (by have := HQ.out; omega) (by have := HQ.out; omega) (by have := HTL.out; omega) HCL.out.1 KC.out.1 KC.out.2.1 KC.out.2.2 (by have := HBL.out; simp only; omega)).mono ?_
  rintro e w9 ⟨v9, rfl, hO, hb1⟩
  obtain ⟨ao, co, rfl, hsl, hnl, hle, _⟩ := hO.open
  have SL := hide hsl
  have NL := hide hnl
  have H1 := hide hb1
  clear hO hsl hnl hb1 y0 y1 y2 y3 y4 y5
  go_wp2_with fail
  refine (Chain_any (D.chainB ⟨c.hash, c.flags, c.iter, c.salt, c.next, t⟩) ao _ co _ rfl (by exact SL.out) hle NL.out).mono ?_
  rw [HC.out]
  rintro e w10 ⟨⟨s', v, ho, rfl, hv⟩ | ⟨ho, _⟩, hb2⟩
  rotate_left
  · cases ho
  cases ho
  obtain ⟨eC1, dC1, eC2, dC2, eC3, dC3, rfl, heC1, heC2, heC3⟩ := hv
  simp only at heC1 heC2 heC3 ⊢
  have hB := step_new (o := .cells #[.int .u8 (c.hash : Int), .int .u8 (c.flags : Int), .int .u16 (c.iter : Int), .slice eC1 c.salt.length dC1, .slice eC2 c.next.length dC2, .slice eC3 t.length dC3] 60) H1.out hb2
  replace F3 := hide (F3.out.below hB)
  replace BB := hide (BB.out.trans (hB.mono BB.out.size))
  replace O9 := hide (OwnH.below O9.out hB)
  replace RA := hide (RA.out.below hB RA.out.lt)
  replace OeA1 := hide (OwnS.below OeA1.out hB)
  replace OeA2 := hide (OwnS.below OeA2.out hB)
  replace RB := hide (RB.out.below hB RB.out.lt)
  replace OeB1 := hide (OwnS.below OeB1.out hB)
  replace OeB2 := hide (OwnB.below OeB2.out hB)
  have RC := hide (RowAt.new w10 60 #[.int .u8 (c.hash : Int), .int .u8 (c.flags : Int), .int .u16 (c.iter : Int), .slice eC1 c.salt.length dC1, .slice eC2 c.next.length dC2, .slice eC3 t.length dC3])
  have OeC1 := hide (OwnB.alloc heC1 (.cells #[.int .u8 (c.hash : Int), .int .u8 (c.flags : Int), .int .u16 (c.iter : Int), .slice eC1 c.salt.length dC1, .slice eC2 c.next.length dC2, .slice eC3 t.length dC3] 60))
  have OeC2 := hide (OwnB.alloc heC2 (.cells #[.int .u8 (c.hash : Int), .int .u8 (c.flags : Int), .int .u16 (c.iter : Int), .slice eC1 c.salt.length dC1, .slice eC2 c.next.length dC2, .slice eC3 t.length dC3] 60))
  have OeC3 := hide (OwnH.alloc heC3 (.cells #[.int .u8 (c.hash : Int), .int .u8 (c.flags : Int), .int .u16 (c.iter : Int), .slice eC1 c.salt.length dC1, .slice eC2 c.next.length dC2, .slice eC3 t.length dC3] 60))
  clear hB hb2 H1 SL NL hle heC1 heC2 heC3
  have y0 : (w10.alloc (.cells #[.int .u8 (c.hash : Int), .int .u8 (c.flags : Int), .int .u16 (c.iter : Int), .slice eC1 c.salt.length dC1, .slice eC2 c.next.length dC2, .slice eC3 t.length dC3] 60)).cell? ⟨w.heap.size + 3, 0, none⟩ = some (.int .u16 (k.flags : Int)) := F3.out.2.2.2.cell 0
  have y1 : (w10.alloc (.cells #[.int .u8 (c.hash : Int), .int .u8 (c.flags : Int), .int .u16 (c.iter : Int), .slice eC1 c.salt.length dC1, .slice eC2 c.next.length dC2, .slice eC3 t.length dC3] 60)).cell? ⟨w.heap.size + 3, 1, none⟩ = some (.int .u8 (k.proto : Int)) := F3.out.2.2.2.cell 1
  have y2 : (w10.alloc (.cells #[.int .u8 (c.hash : Int), .int .u8 (c.flags : Int), .int .u16 (c.iter : Int), .slice eC1 c.salt.length dC1, .slice eC2 c.next.length dC2, .slice eC3 t.length dC3] 60)).cell? ⟨w.heap.size + 3, 2, none⟩ = some (.int .u8 (k.alg : Int)) := F3.out.2.2.2.cell 2
  have y3 : (w10.alloc (.cells #[.int .u8 (c.hash : Int), .int .u8 (c.flags : Int), .int .u16 (c.iter : Int), .slice eC1 c.salt.length dC1, .slice eC2 c.next.length dC2, .slice eC3 t.length dC3] 60)).cell? ⟨w.heap.size + 3, 3, none⟩ = some (.slice a8 k.key.length c8) := F3.out.2.2.2.cell 3
  go_wp2_with fail
  refine (keyBytes_any k a8 k.key.length c8 _ KK.out rfl (by exact S8.out.below BB.out (Nat.le_refl _)) N8.out (by have := HQ.out; omega)).mono ?_
  rintro e w12 ⟨v12, rfl, hO, hb1⟩
  obtain ⟨ao, co, rfl, hsl, hnl, hle, _⟩ := hO.open
  have SL := hide hsl
  have NL := hide hnl
  have H1 := hide hb1
  clear hO hsl hnl hb1 y0 y1 y2 y3
  go_wp2_with fail
  refine (Key_any (D.keyB k) ao _ co _ rfl (by exact SL.out) hle NL.out).mono ?_
  rw [HK.out]
  rintro e w13 ⟨⟨s', v, ho, rfl, hv⟩ | ⟨ho, _⟩, hb2⟩
  rotate_left
  · cases ho
  cases ho
  obtain ⟨eD1, dD1, rfl, heD1⟩ := hv
  have hB := step_new (o := .cells #[.int .u16 (k.flags : Int), .int .u8 (k.proto : Int), .int .u8 (k.alg : Int), .slice eD1 k.key.length dD1] 68) H1.out hb2
  replace F3 := hide (F3.out.below hB)
  replace BB := hide (BB.out.trans (hB.mono BB.out.size))
  replace O9 := hide (OwnH.below O9.out hB)
  replace RA := hide (RA.out.below hB RA.out.lt)
  replace OeA1 := hide (OwnS.below OeA1.out hB)
  replace OeA2 := hide (OwnS.below OeA2.out hB)
  replace RB := hide (RB.out.below hB RB.out.lt)
  replace OeB1 := hide (OwnS.below OeB1.out hB)
  replace OeB2 := hide (OwnB.below OeB2.out hB)
  replace RC := hide (RC.out.below hB RC.out.lt)
  replace OeC1 := hide (OwnB.below OeC1.out hB)
  replace OeC2 := hide (OwnB.below OeC2.out hB)
  replace OeC3 := hide (OwnH.below OeC3.out hB)
  have RD := hide (RowAt.new w13 68 #[.int .u16 (k.flags : Int), .int .u8 (k.proto : Int), .int .u8 (k.alg : Int), .slice eD1 k.key.length dD1])
  have OeD1 := hide (OwnB.alloc heD1 (.cells #[.int .u16 (k.flags : Int), .int .u8 (k.proto : Int), .int .u8 (k.alg : Int), .slice eD1 k.key.length dD1] 68))
  clear hB hb2 H1 SL NL hle heD1
  have y0 : (w13.alloc (.cells #[.int .u16 (k.flags : Int), .int .u8 (k.proto : Int), .int .u8 (k.alg : Int), .slice eD1 k.key.length dD1] 68)).cell? ⟨w4.heap.size, 0, none⟩ = some (.slice eA1 s.main.length dA1) := RA.out.cell 0
  have y1 : (w13.alloc (.cells #[.int .u16 (k.flags : Int), .int .u8 (k.proto : Int), .int .u8 (k.alg : Int), .slice eD1 k.key.length dD1] 68)).cell? ⟨w4.heap.size, 1, none⟩ = some (.slice eA2 s.box.length dA2) := RA.out.cell 1
  have y2 : (w13.alloc (.cells #[.int .u16 (k.flags : Int), .int .u8 (k.proto : Int), .int .u8 (k.alg : Int), .slice eD1 k.key.length dD1] 68)).cell? ⟨w4.heap.size, 2, none⟩ = some (.int .u32 (s.a : Int)) := RA.out.cell 2
  have y3 : (w13.alloc (.cells #[.int .u16 (k.flags : Int), .int .u8 (k.proto : Int), .int .u8 (k.alg : Int), .slice eD1 k.key.length dD1] 68)).cell? ⟨w4.heap.size, 3, none⟩ = some (.int .u32 (s.b : Int)) := RA.out.cell 3
  have y4 : (w13.alloc (.cells #[.int .u16 (k.flags : Int), .int .u8 (k.proto : Int), .int .u8 (k.alg : Int), .slice eD1 k.key.length dD1] 68)).cell? ⟨w4.heap.size, 4, none⟩ = some (.int .u32 (s.c : Int)) := RA.out.cell 4
  have y5 : (w13.alloc (.cells #[.int .u16 (k.flags : Int), .int .u8 (k.proto : Int), .int .u8 (k.alg : Int), .slice eD1 k.key.length dD1] 68)).cell? ⟨w4.heap.size, 5, none⟩ = some (.int .u32 (s.d : Int)) := RA.out.cell 5
  have y6 : (w13.alloc (.cells #[.int .u16 (k.flags : Int), .int .u8 (k.proto : Int), .int .u8 (k.alg : Int), .slice eD1 k.key.length dD1] 68)).cell? ⟨w4.heap.size, 6, none⟩ = some (.int .u32 (s.e : Int)) := RA.out.cell 6
  have z0 : (w13.alloc (.cells #[.int .u16 (k.flags : Int), .int .u8 (k.proto : Int), .int .u8 (k.alg : Int), .slice eD1 k.key.length dD1] 68)).cell? ⟨w.heap.size, 0, none⟩ = some (.slice a1 s.main.length c1) := F3.out.1.cell 0
  have z1 : (w13.alloc (.cells #[.int .u16 (k.flags : Int), .int .u8 (k.proto : Int), .int .u8 (k.alg : Int), .slice eD1 k.key.length dD1] 68)).cell? ⟨w.heap.size, 1, none⟩ = some (.slice a2 s.box.length c2) := F3.out.1.cell 1
  have z2 : (w13.alloc (.cells #[.int .u16 (k.flags : Int), .int .u8 (k.proto : Int), .int .u8 (k.alg : Int), .slice eD1 k.key.length dD1] 68)).cell? ⟨w.heap.size, 2, none⟩ = some (.int .u32 (s.a : Int)) := F3.out.1.cell 2
  have z3 : (w13.alloc (.cells #[.int .u16 (k.flags : Int), .int .u8 (k.proto : Int), .int .u8 (k.alg : Int), .slice eD1 k.key.length dD1] 68)).cell? ⟨w.heap.size, 3, none⟩ = some (.int .u32 (s.b : Int)) := F3.out.1.cell 3
  have z4 : (w13.alloc (.cells #[.int .u16 (k.flags : Int), .int .u8 (k.proto : Int), .int .u8 (k.alg : Int), .slice eD1 k.key.length dD1] 68)).cell? ⟨w.heap.size, 4, none⟩ = some (.int .u32 (s.c : Int)) := F3.out.1.cell 4
  have z5 : (w13.alloc (.cells #[.int .u16 (k.flags : Int), .int .u8 (k.proto : Int), .int .u8 (k.alg : Int), .slice eD1 k.key.length dD1] 68)).cell? ⟨w.heap.size, 5, none⟩ = some (.int .u32 (s.d : Int)) := F3.out.1.cell 5
  have z6 : (w13.alloc (.cells #[.int .u16 (k.flags : Int), .int .u8 (k.proto : Int), .int .u8 (k.alg : Int), .slice eD1 k.key.length dD1] 68)).cell? ⟨w.heap.size, 6, none⟩ = some (.int .u32 (s.e : Int)) := F3.out.1.cell 6
  go_wp2_with fail
  refine (hSoa_same s eA1 a1 eA2 a2 dA1 c1 dA2 c2 _ (by exact OwnS.sl OeA1.out) (by exact S1.out.below BB.out (Nat.le_refl _)) (by have := good_len hg1.out; omega) (by exact OwnS.sl OeA2.out) (by exact S2.out.below BB.out (Nat.le_refl _)) (by have := good_len hg2.out; omega)).mono ?_
  rintro e w15 ⟨rfl, hB⟩
  replace F3 := hide (F3.out.below hB)
  replace BB := hide (BB.out.trans (hB.mono BB.out.size))
  replace O9 := hide (OwnH.below O9.out hB)
  replace RA := hide (RA.out.below hB RA.out.lt)
  replace OeA1 := hide (OwnS.below OeA1.out hB)
  replace OeA2 := hide (OwnS.below OeA2.out hB)
  replace RB := hide (RB.out.below hB RB.out.lt)
  replace OeB1 := hide (OwnS.below OeB1.out hB)
  replace OeB2 := hide (OwnB.below OeB2.out hB)
  replace RC := hide (RC.out.below hB RC.out.lt)
  replace OeC1 := hide (OwnB.below OeC1.out hB)
  replace OeC2 := hide (OwnB.below OeC2.out hB)
  replace OeC3 := hide (OwnH.below OeC3.out hB)
  replace RD := hide (RD.out.below hB RD.out.lt)
  replace OeD1 := hide (OwnB.below OeD1.out hB)
  clear hB y0 z0 y1 z1 y2 z2 y3 z3 y4 z4 y5 z5 y6 z6
  have y0 : (w15).cell? ⟨w7.heap.size, 0, none⟩ = some (.int .u16 (g.type : Int)) := RB.out.cell 0
  have y1 : (w15).cell? ⟨w7.heap.size, 1, none⟩ = some (.int .u8 (g.alg : Int)) := RB.out.cell 1
  have y2 : (w15).cell? ⟨w7.heap.size, 2, none⟩ = some (.int .u8 (g.labels : Int)) := RB.out.cell 2
  have y3 : (w15).cell? ⟨w7.heap.size, 3, none⟩ = some (.int .u32 (g.ttl : Int)) := RB.out.cell 3
  have y4 : (w15).cell? ⟨w7.heap.size, 4, none⟩ = some (.int .u32 (g.expire : Int)) := RB.out.cell 4
  have y5 : (w15).cell? ⟨w7.heap.size, 5, none⟩ = some (.int .u32 (g.begin_ : Int)) := RB.out.cell 5
  have y6 : (w15).cell? ⟨w7.heap.size, 6, none⟩ = some (.int .u16 (g.tag : Int)) := RB.out.cell 6
  have y7 : (w15).cell? ⟨w7.heap.size, 7, none⟩ = some (.slice eB1 g.signer.length dB1) := RB.out.cell 7
  have y8 : (w15).cell? ⟨w7.heap.size, 8, none⟩ = some (.slice eB2 g.sig.length dB2) := RB.out.cell 8
  have z0 : (w15).cell? ⟨w.heap.size + 1, 0, none⟩ = some (.int .u16 (g.type : Int)) := F3.out.2.1.cell 0
  have z1 : (w15).cell? ⟨w.heap.size + 1, 1, none⟩ = some (.int .u8 (g.alg : Int)) := F3.out.2.1.cell 1
  have z2 : (w15).cell? ⟨w.heap.size + 1, 2, none⟩ = some (.int .u8 (g.labels : Int)) := F3.out.2.1.cell 2
  have z3 : (w15).cell? ⟨w.heap.size + 1, 3, none⟩ = some (.int .u32 (g.ttl : Int)) := F3.out.2.1.cell 3
  have z4 : (w15).cell? ⟨w.heap.size + 1, 4, none⟩ = some (.int .u32 (g.expire : Int)) := F3.out.2.1.cell 4
  have z5 : (w15).cell? ⟨w.heap.size + 1, 5, none⟩ = some (.int .u32 (g.begin_ : Int)) := F3.out.2.1.cell 5
  have z6 : (w15).cell? ⟨w.heap.size + 1, 6, none⟩ = some (.int .u16 (g.tag : Int)) := F3.out.2.1.cell 6
  have z7 : (w15).cell? ⟨w.heap.size + 1, 7, none⟩ = some (.slice a3 g.signer.length c3) := F3.out.2.1.cell 7
  have z8 : (w15).cell? ⟨w.heap.size + 1, 8, none⟩ = some (.slice a4 g.sig.length c4) := F3.out.2.1.cell 8
  go_wp2_with fail
  refine (hSig_same g eB1 a3 dB1 c3 _ _ _ (by exact OwnS.sl OeB1.out) (by exact S3.out.below BB.out (Nat.le_refl _)) (by have := good_len hg3.out; omega)).mono ?_
  rintro e w16 ⟨rfl, hB⟩
  replace F3 := hide (F3.out.below hB)
  replace BB := hide (BB.out.trans (hB.mono BB.out.size))
  replace O9 := hide (OwnH.below O9.out hB)
  replace RA := hide (RA.out.below hB RA.out.lt)
  replace OeA1 := hide (OwnS.below OeA1.out hB)
  replace OeA2 := hide (OwnS.below OeA2.out hB)
  replace RB := hide (RB.out.below hB RB.out.lt)
  replace OeB1 := hide (OwnS.below OeB1.out hB)
  replace OeB2 := hide (OwnB.below OeB2.out hB)
  replace RC := hide (RC.out.below hB RC.out.lt)
  replace OeC1 := hide (OwnB.below OeC1.out hB)
  replace OeC2 := hide (OwnB.below OeC2.out hB)
  replace OeC3 := hide (OwnH.below OeC3.out hB)
  replace RD := hide (RD.out.below hB RD.out.lt)
  replace OeD1 := hide (OwnB.below OeD1.out hB)
  clear hB y0 z0 y1 z1 y2 z2 y3 z3 y4 z4 y5 z5 y6 z6 y7 z7 y8 z8
  have y0 : (w16).cell? ⟨w7.heap.size, 0, none⟩ = some (.int .u16 (g.type : Int)) := RB.out.cell 0
  have y1 : (w16).cell? ⟨w7.heap.size, 1, none⟩ = some (.int .u8 (g.alg : Int)) := RB.out.cell 1
  have y2 : (w16).cell? ⟨w7.heap.size, 2, none⟩ = some (.int .u8 (g.labels : Int)) := RB.out.cell 2
  have y3 : (w16).cell? ⟨w7.heap.size, 3, none⟩ = some (.int .u32 (g.ttl : Int)) := RB.out.cell 3
  have y4 : (w16).cell? ⟨w7.heap.size, 4, none⟩ = some (.int .u32 (g.expire : Int)) := RB.out.cell 4
  have y5 : (w16).cell? ⟨w7.heap.size, 5, none⟩ = some (.int .u32 (g.begin_ : Int)) := RB.out.cell 5
  have y6 : (w16).cell? ⟨w7.heap.size, 6, none⟩ = some (.int .u16 (g.tag : Int)) := RB.out.cell 6
  have y7 : (w16).cell? ⟨w7.heap.size, 7, none⟩ = some (.slice eB1 g.signer.length dB1) := RB.out.cell 7
  have y8 : (w16).cell? ⟨w7.heap.size, 8, none⟩ = some (.slice eB2 g.sig.length dB2) := RB.out.cell 8
  have z0 : (w16).cell? ⟨w.heap.size + 1, 0, none⟩ = some (.int .u16 (g.type : Int)) := F3.out.2.1.cell 0
  have z1 : (w16).cell? ⟨w.heap.size + 1, 1, none⟩ = some (.int .u8 (g.alg : Int)) := F3.out.2.1.cell 1
  have z2 : (w16).cell? ⟨w.heap.size + 1, 2, none⟩ = some (.int .u8 (g.labels : Int)) := F3.out.2.1.cell 2
  have z3 : (w16).cell? ⟨w.heap.size + 1, 3, none⟩ = some (.int .u32 (g.ttl : Int)) := F3.out.2.1.cell 3
  have z4 : (w16).cell? ⟨w.heap.size + 1, 4, none⟩ = some (.int .u32 (g.expire : Int)) := F3.out.2.1.cell 4
  have z5 : (w16).cell? ⟨w.heap.size + 1, 5, none⟩ = some (.int .u32 (g.begin_ : Int)) := F3.out.2.1.cell 5
  have z6 : (w16).cell? ⟨w.heap.size + 1, 6, none⟩ = some (.int .u16 (g.tag : Int)) := F3.out.2.1.cell 6
  have z7 : (w16).cell? ⟨w.heap.size + 1, 7, none⟩ = some (.slice a3 g.signer.length c3) := F3.out.2.1.cell 7
  have z8 : (w16).cell? ⟨w.heap.size + 1, 8, none⟩ = some (.slice a4 g.sig.length c4) := F3.out.2.1.cell 8
  go_wp2_with fail
  refine (bytes_same g.sig eB2 a4 g.sig.length g.sig.length dB2 c4 _ (by exact (OwnB.slOf OeB2.out).1) (by exact S4.out.below BB.out (Nat.le_refl _)) rfl rfl).mono ?_
  rintro e w17 ⟨rfl, rfl⟩
  clear y0 z0 y1 z1 y2 z2 y3 z3 y4 z4 y5 z5 y6 z6 y7 z7 y8 z8
  have y0 : (w17).cell? ⟨w10.heap.size, 0, none⟩ = some (.int .u8 (c.hash : Int)) := RC.out.cell 0
  have y1 : (w17).cell? ⟨w10.heap.size, 1, none⟩ = some (.int .u8 (c.flags : Int)) := RC.out.cell 1
  have y2 : (w17).cell? ⟨w10.heap.size, 2, none⟩ = some (.int .u16 (c.iter : Int)) := RC.out.cell 2
  have y3 : (w17).cell? ⟨w10.heap.size, 3, none⟩ = some (.slice eC1 c.salt.length dC1) := RC.out.cell 3
  have y4 : (w17).cell? ⟨w10.heap.size, 4, none⟩ = some (.slice eC2 c.next.length dC2) := RC.out.cell 4
  have y5 : (w17).cell? ⟨w10.heap.size, 5, none⟩ = some (.slice eC3 t.length dC3) := RC.out.cell 5
  have z0 : (w17).cell? ⟨w.heap.size + 2, 0, none⟩ = some (.int .u8 (c.hash : Int)) := F3.out.2.2.1.cell 0
  have z1 : (w17).cell? ⟨w.heap.size + 2, 1, none⟩ = some (.int .u8 (c.flags : Int)) := F3.out.2.2.1.cell 1
  have z2 : (w17).cell? ⟨w.heap.size + 2, 2, none⟩ = some (.int .u16 (c.iter : Int)) := F3.out.2.2.1.cell 2
  have z3 : (w17).cell? ⟨w.heap.size + 2, 3, none⟩ = some (.slice a5 c.salt.length c5) := F3.out.2.2.1.cell 3
  have z4 : (w17).cell? ⟨w.heap.size + 2, 4, none⟩ = some (.slice a6 c.next.length c6) := F3.out.2.2.1.cell 4
  have z5 : (w17).cell? ⟨w.heap.size + 2, 5, none⟩ = some (.slice a9 t.length c9) := F3.out.2.2.1.cell 5
  go_wp2_with fail
  refine (hChain_same ⟨c.hash, c.flags, c.iter, c.salt, c.next, t⟩ eC1 a5 eC2 a6 eC3 a9 dC1 c5 dC2 c6 dC3 c9 _ (by exact (OwnB.slOf OeC1.out).1) (by exact S5.out.below BB.out (Nat.le_refl _)) (by exact (OwnB.slOf OeC2.out).1) (by exact S6.out.below BB.out (Nat.le_refl _)) (by exact (OwnH.slOf OeC3.out).1) (by exact (OwnH.slOf O9.out).1) (by have := HTL.out; simp only; omega)).mono ?_
  rintro e w18 ⟨rfl, hB⟩
  replace F3 := hide (F3.out.below hB)
  replace BB := hide (BB.out.trans (hB.mono BB.out.size))
  replace O9 := hide (OwnH.below O9.out hB)
  replace RA := hide (RA.out.below hB RA.out.lt)
  replace OeA1 := hide (OwnS.below OeA1.out hB)
  replace OeA2 := hide (OwnS.below OeA2.out hB)
  replace RB := hide (RB.out.below hB RB.out.lt)
  replace OeB1 := hide (OwnS.below OeB1.out hB)
  replace OeB2 := hide (OwnB.below OeB2.out hB)
  replace RC := hide (RC.out.below hB RC.out.lt)
  replace OeC1 := hide (OwnB.below OeC1.out hB)
  replace OeC2 := hide (OwnB.below OeC2.out hB)
  replace OeC3 := hide (OwnH.below OeC3.out hB)
  replace RD := hide (RD.out.below hB RD.out.lt)
  replace OeD1 := hide (OwnB.below OeD1.out hB)
  clear hB y0 z0 y1 z1 y2 z2 y3 z3 y4 z4 y5 z5
  have y0 : (w18).cell? ⟨w13.heap.size, 0, none⟩ = some (.int .u16 (k.flags : Int)) := RD.out.cell 0
  have y1 : (w18).cell? ⟨w13.heap.size, 1, none⟩ = some (.int .u8 (k.proto : Int)) := RD.out.cell 1
  have y2 : (w18).cell? ⟨w13.heap.size, 2, none⟩ = some (.int .u8 (k.alg : Int)) := RD.out.cell 2
  have y3 : (w18).cell? ⟨w13.heap.size, 3, none⟩ = some (.slice eD1 k.key.length dD1) := RD.out.cell 3
  have z0 : (w18).cell? ⟨w.heap.size + 3, 0, none⟩ = some (.int .u16 (k.flags : Int)) := F3.out.2.2.2.cell 0
  have z1 : (w18).cell? ⟨w.heap.size + 3, 1, none⟩ = some (.int .u8 (k.proto : Int)) := F3.out.2.2.2.cell 1
  have z2 : (w18).cell? ⟨w.heap.size + 3, 2, none⟩ = some (.int .u8 (k.alg : Int)) := F3.out.2.2.2.cell 2
  have z3 : (w18).cell? ⟨w.heap.size + 3, 3, none⟩ = some (.slice a8 k.key.length c8) := F3.out.2.2.2.cell 3
  go_wp2_with fail
  refine (hKeyData_same k eD1 a8 dD1 c8 _ (by exact (OwnB.slOf OeD1.out).1) (by exact S8.out.below BB.out (Nat.le_refl _))).mono ?_
  rintro e w19 ⟨rfl, hB⟩
  replace F3 := hide (F3.out.below hB)
  replace BB := hide (BB.out.trans (hB.mono BB.out.size))
  replace O9 := hide (OwnH.below O9.out hB)
  replace RA := hide (RA.out.below hB RA.out.lt)
  replace OeA1 := hide (OwnS.below OeA1.out hB)
  replace OeA2 := hide (OwnS.below OeA2.out hB)
  replace RB := hide (RB.out.below hB RB.out.lt)
  replace OeB1 := hide (OwnS.below OeB1.out hB)
  replace OeB2 := hide (OwnB.below OeB2.out hB)
  replace RC := hide (RC.out.below hB RC.out.lt)
  replace OeC1 := hide (OwnB.below OeC1.out hB)
  replace OeC2 := hide (OwnB.below OeC2.out hB)
  replace OeC3 := hide (OwnH.below OeC3.out hB)
  replace RD := hide (RD.out.below hB RD.out.lt)
  replace OeD1 := hide (OwnB.below OeD1.out hB)
  clear hB y0 z0 y1 z1 y2 z2 y3 z3
  go_wp2
  go_ret
  exact ⟨rfl, BB.out⟩
end Go.Proofs.Ytagopkmehlpjpaa
