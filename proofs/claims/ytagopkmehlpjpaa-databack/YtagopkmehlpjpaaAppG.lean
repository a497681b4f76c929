/- rdata.SigBytes, ChainBytes. -/
import Derived.Test.YtagopkmehlpjpaaAppS
namespace Go.Proofs.Ytagopkmehlpjpaa
open Go.RowKit
set_option maxHeartbeats 1600000 in
set_option maxRecDepth 5000 in
theorem sigBytes_any (s : D.Sig) (a1 a2 : Option Addr) (n1 c1 n2 c2 : Nat) (w : World) (h1 : Hid (s.signer.length = n1)) (h2 : Hid (s.sig.length = n2)) (hs1 : SlS w a1 s.signer) (hs2 : SlL w a2 s.sig) (hnil : a2 = none → c2 = 0) (hz1 : N.size s.signer ≤ 1000) (hz2 : n2 ≤ 100000)
    (ht : s.type < 65536) (ha : s.alg < 256) (hb : s.labels < 256) (hc : s.ttl < 4294967296) (hd : s.expire < 4294967296) (he : s.begin_ < 4294967296) (hg : s.tag < 65536) :
    Calls Try.prog 25 #[.agg #[.int .u16 (s.type : Int), .int .u8 (s.alg : Int), .int .u8 (s.labels : Int), .int .u32 (s.ttl : Int), .int .u32 (s.expire : Int), .int .u32 (s.begin_ : Int), .int .u16 (s.tag : Int), .slice a1 n1 c1, .slice a2 n2 c2]] w fun e w' => ∃ v', e = .returned v' ∧ OwnB w' w.heap.size v' (D.sigB s) ∧ Below w.heap.size w w' := by
  have S1 := hide hs1
  have S2 := hide hs2
  have NI := hide hnil
  have m1 := hide (small_of hz1)
  have l1 := N.wire_len s.signer
  clear hs1 hs2 hnil
  unfold D.sigB
  obtain ⟨type, alg, labels, ttl, expire, begin_, tag, signer, sig⟩ := s
  simp only at h1 h2 S1 S2 m1 l1 hz1 ht ha hb hc hd he hg ⊢
  have q1 : (alg : Int) = ((UInt8.ofNat alg).toNat : Int) := by rw [D.nat_u8 _ ha]
  have q2 : (labels : Int) = ((UInt8.ofNat labels).toNat : Int) := by rw [D.nat_u8 _ hb]
  rw [q1, q2]
  clear q1 q2
  generalize UInt8.ofNat alg = x
  generalize UInt8.ofNat labels = y
  have R0 := hide (RowAt.new w 51 #[.int .u16 (type : Int), .int .u8 (x.toNat : Int), .int .u8 (y.toNat : Int), .int .u32 (ttl : Int), .int .u32 (expire : Int), .int .u32 (begin_ : Int), .int .u16 (tag : Int), .slice a1 n1 c1, .slice a2 n2 c2])
  have B0 := hide ((Below.refl w.heap.size w).alloc (Nat.le_refl _) (.cells #[.int .u16 (type : Int), .int .u8 (x.toNat : Int), .int .u8 (y.toNat : Int), .int .u32 (ttl : Int), .int .u32 (expire : Int), .int .u32 (begin_ : Int), .int .u16 (tag : Int), .slice a1 n1 c1, .slice a2 n2 c2] 51))
  have HL1 : Hid ((N.wire signer).length ≤ 1000) := by show _ ≤ _; omega
  clear l1
  go_enter Try.func25, Try.ntmps25
  go_wp2_with fail
  refine (append16_nil type ht _).mono ?_
  rintro e w1 ⟨v1, rfl, hO1, hb1⟩
  have z1 : w.heap.size ≤ w1.heap.size := Nat.le_trans (by simp) hb1.size
  have B1 := hide (B0.out.trans (hb1.mono (by simp)))
  have R1 := hide (R0.out.below hb1 (by simp))
  have O1 := hide (OwnB.lower (base' := w.heap.size) hO1 (by simp))
  have p1 : w1.cell? ⟨w.heap.size, 1, none⟩ = some (.int .u8 (x.toNat : Int)) := R1.out.cell 1
  have p1b : w1.cell? ⟨w.heap.size, 2, none⟩ = some (.int .u8 (y.toNat : Int)) := R1.out.cell 2
  clear hO1 hb1 R0 B0
  go_wp2_with (at_builtin; refine wpList_append_B rfl (.tmp 7) (.tmp 12) rfl w.heap.size _ (D.p16 type) rfl (by exact O1.out.alloc _) _ _ _ [x, y] rfl rfl (by exact SlL.litm w1 [x, y] _ 5 (0, 0) rfl) (by intro h; cases h) (by simp [p16_len]) (by simp; omega) ?_; intro v2 w2 hO2 hG2; have hK2 := Kp.app O1.out hG2 z1; have z2 : w.heap.size ≤ w2.heap.size := hK2.size z1; have B2 := hide (B1.out.trans hK2.1); have R2 := hide (hK2.2 _ _ _ R1.out (by decide)); have p2 : w2.cell? ⟨w.heap.size, 3, none⟩ = some (.int .u32 (ttl : Int)) := R2.out.cell 3; have O2 := hide hO2; clear hO2 hG2 hK2 p1 p1b R1 B1 O1)
  refine (append32_any ttl hc w.heap.size v2 (D.p16 type ++ [x, y]) _ (by exact O2.out) (by exact z2) (by simp only [List.length_append, p16_len, List.length_cons, List.length_nil]; omega)).mono ?_
  rintro e w3 ⟨v3, rfl, hO3, hK3⟩
  have z3 : w.heap.size ≤ w3.heap.size := hK3.size z2
  have B3 := hide (B2.out.trans hK3.1)
  have R3 := hide (hK3.2 _ _ _ R2.out (by decide))
  have p3 : w3.cell? ⟨w.heap.size, 4, none⟩ = some (.int .u32 (expire : Int)) := R3.out.cell 4
  have O3 := hide hO3
  clear hO3 hK3 p2 R2 O2 B2
  go_wp2_with fail
  refine (append32_any expire hd w.heap.size v3 (D.p16 type ++ [x, y] ++ D.p32 ttl) _ (by exact O3.out) (by exact z3) (by simp only [List.length_append, p32_len, p16_len, List.length_cons, List.length_nil]; omega)).mono ?_
  rintro e w4 ⟨v4, rfl, hO4, hK4⟩
  have z4 : w.heap.size ≤ w4.heap.size := hK4.size z3
  have B4 := hide (B3.out.trans hK4.1)
  have R4 := hide (hK4.2 _ _ _ R3.out (by decide))
  have p4 : w4.cell? ⟨w.heap.size, 5, none⟩ = some (.int .u32 (begin_ : Int)) := R4.out.cell 5
  have O4 := hide hO4
  clear hO4 hK4 p3 R3 O3 B3
  go_wp2_with fail
  refine (append32_any begin_ he w.heap.size v4 (D.p16 type ++ [x, y] ++ D.p32 ttl ++ D.p32 expire) _ (by exact O4.out) (by exact z4) (by simp only [List.length_append, p32_len, p16_len, List.length_cons, List.length_nil]; omega)).mono ?_
  rintro e w5 ⟨v5, rfl, hO5, hK5⟩
  have z5 : w.heap.size ≤ w5.heap.size := hK5.size z4
  have B5 := hide (B4.out.trans hK5.1)
  have R5 := hide (hK5.2 _ _ _ R4.out (by decide))
  have p5 : w5.cell? ⟨w.heap.size, 6, none⟩ = some (.int .u16 (tag : Int)) := R5.out.cell 6
  have O5 := hide hO5
  clear hO5 hK5 p4 R4 O4 B4
  go_wp2_with fail
  refine (append16_any tag hg w.heap.size v5 (D.p16 type ++ [x, y] ++ D.p32 ttl ++ D.p32 expire ++ D.p32 begin_) _ (by exact O5.out) (by exact z5) (by simp only [List.length_append, p32_len, p16_len, List.length_cons, List.length_nil]; omega)).mono ?_
  rintro e w6 ⟨v6, rfl, hO6, hK6⟩
  have z6 : w.heap.size ≤ w6.heap.size := hK6.size z5
  have B6 := hide (B5.out.trans hK6.1)
  have R6 := hide (hK6.2 _ _ _ R5.out (by decide))
  have p6 : w6.cell? ⟨w.heap.size, 7, none⟩ = some (.slice a1 n1 c1) := R6.out.cell 7
  have O6 := hide hO6
  clear hO6 hK6 p5 R5 O5 B5
  go_wp2_with fail
  refine (wire_any signer a1 n1 c1 _ h1 (by exact S1.out.below B6.out (Nat.le_refl _)) m1).mono ?_
  rintro e w7 ⟨v7, rfl, hO7, hb7⟩
  have z7 : w.heap.size ≤ w7.heap.size := Nat.le_trans z6 hb7.size
  have B7 := hide (B6.out.trans (hb7.mono z6))
  have R7 := hide (R6.out.below hb7 R6.out.lt)
  have O7 := hide (O6.out.below hb7)
  obtain ⟨a9, c9, rfl, hs9, hn9, _⟩ := hO7.open
  have S9 := hide hs9
  have N9 := hide hn9
  clear hs9 hn9 hO7 hb7 p6 R6 O6 B6
  go_wp2_with (first
    | (at_builtin; refine wpList_append_B rfl (.tmp 30) (.tmp 33) rfl w.heap.size _ (D.p16 type ++ [x, y] ++ D.p32 ttl ++ D.p32 expire ++ D.p32 begin_ ++ D.p16 tag) rfl (by exact O7.out) _ _ _ (N.wire signer) rfl rfl (by exact S9.out) N9.out (by have := HL1.out; simp only [List.length_append, p32_len, p16_len, List.length_cons, List.length_nil]; omega) z7 ?_; intro v8 w8 hO8 hG8; have hK8 := Kp.grown O7.out hG8 z7; have z8 : w.heap.size ≤ w8.heap.size := hK8.size z7; have B8 := hide (B7.out.trans hK8.1); have p8 : w8.cell? ⟨w.heap.size, 8, none⟩ = some (.slice a2 n2 c2) := (hK8.2 _ _ _ R7.out (by decide)).cell 8; have O8 := hide hO8; clear hO8 hG8 hK8 R7 B7 O7 S9)
    | (at_builtin; refine wpList_append_B rfl (.tmp 35) (.tmp 37) rfl w.heap.size _ (D.p16 type ++ [x, y] ++ D.p32 ttl ++ D.p32 expire ++ D.p32 begin_ ++ D.p16 tag ++ N.wire signer) rfl (by exact O8.out) _ _ _ sig rfl h2.out (by exact S2.out.below B8.out (Nat.le_refl _)) NI.out (by have := HL1.out; simp only [List.length_append, p32_len, p16_len, List.length_cons, List.length_nil]; omega) z8 ?_; intro v10 w10 hO10 hG10; have hK10 := Kp.grown O8.out hG10 z8; clear hG10))
  go_ret
  exact ⟨_, rfl, hO10, B8.out.trans hK10.1⟩
set_option maxHeartbeats 1600000 in
set_option maxRecDepth 5000 in
theorem chainBytes_any (c : D.Chain) (a1 a2 a3 : Option Addr) (n1 c1 n2 c2 n3 c3 : Nat) (w : World) (h1 : Hid (c.salt.length = n1)) (h2 : Hid (c.next.length = n2)) (h3 : Hid (c.types.length = n3)) (hs1 : SlL w a1 c.salt) (hs2 : SlL w a2 c.next) (hs3 : SlH w a3 c.types)
    (hn1 : a1 = none → c1 = 0) (hn2 : a2 = none → c2 = 0) (hn3 : a3 = none → c3 = 0) (l1 : n1 ≤ 10000) (l2 : n2 ≤ 10000) (l3 : n3 ≤ 70000) (hr : T.Rising c.types) (ha : c.hash < 256) (hb : c.flags < 256) (hi : c.iter < 65536) (hlb : (T.bmp c.types).length ≤ 100000) :
    Calls Try.prog 29 #[.agg #[.int .u8 (c.hash : Int), .int .u8 (c.flags : Int), .int .u16 (c.iter : Int), .slice a1 n1 c1, .slice a2 n2 c2, .slice a3 n3 c3]] w fun e w' => ∃ v', e = .returned v' ∧ OwnB w' w.heap.size v' (D.chainB c) ∧ Below w.heap.size w w' := by
  have S1 := hide hs1
  have S2 := hide hs2
  have S3 := hide hs3
  have N1 := hide hn1
  have N2 := hide hn2
  have N3 := hide hn3
  have HLB := hide hlb
  have HR := hide hr
  clear hs1 hs2 hs3 hn1 hn2 hn3 hlb hr
  unfold D.chainB
  obtain ⟨hash, flags, iter, salt, next, types⟩ := c
  simp only at h1 h2 h3 S1 S2 S3 HR HLB ha hb hi ⊢
  have q1 : (hash : Int) = ((UInt8.ofNat hash).toNat : Int) := by rw [D.nat_u8 _ ha]
  have q2 : (flags : Int) = ((UInt8.ofNat flags).toNat : Int) := by rw [D.nat_u8 _ hb]
  rw [q1, q2]
  clear q1 q2
  generalize UInt8.ofNat hash = x
  generalize UInt8.ofNat flags = y
  have R0 := hide ((RowAt.new w 60 #[.int .u8 (x.toNat : Int), .int .u8 (y.toNat : Int), .int .u16 (iter : Int), .slice a1 n1 c1, .slice a2 n2 c2, .slice a3 n3 c3]).alloc (.cells #[.int .u8 x.toNat, .int .u8 y.toNat] 5))
  have B0 := hide (((Below.refl w.heap.size w).alloc (Nat.le_refl _) (.cells #[.int .u8 (x.toNat : Int), .int .u8 (y.toNat : Int), .int .u16 (iter : Int), .slice a1 n1 c1, .slice a2 n2 c2, .slice a3 n3 c3] 60)).alloc (by simp) (.cells #[.int .u8 x.toNat, .int .u8 y.toNat] 5))
  have O0 := hide (OwnB.two (w.alloc (.cells #[.int .u8 (x.toNat : Int), .int .u8 (y.toNat : Int), .int .u16 (iter : Int), .slice a1 n1 c1, .slice a2 n2 c2, .slice a3 n3 c3] 60)) x y w.heap.size (by simp))
  rw [World.size_alloc] at O0
  have L1 : Hid ((D.pc salt).length ≤ 10001) := by show _ ≤ _; have := h1.out; simp [D.pc]; omega
  have L2 : Hid ((D.pc next).length ≤ 10001) := by show _ ≤ _; have := h2.out; simp [D.pc]; omega
  go_enter Try.func29, Try.ntmps29
  go_wp2_with fail
  refine (append16_any iter hi w.heap.size (.slice (some ⟨w.heap.size + 1, 0, none⟩) 2 2) [x, y] _ (by exact O0.out) (by simp <;> omega) (by simp)).mono ?_
  rintro e w1 ⟨v1, rfl, hO1, hK1⟩
  have z1 : w.heap.size ≤ w1.heap.size := hK1.size (by simp <;> omega)
  have B1 := hide (B0.out.trans hK1.1)
  have R1 := hide (hK1.2 _ _ _ R0.out (by decide))
  have p1 : w1.cell? ⟨w.heap.size, 3, none⟩ = some (.slice a1 n1 c1) := R1.out.cell 3
  have O1 := hide hO1
  clear hO1 hK1 R0 B0 O0
  go_wp2_with fail
  refine (appendCounted_any salt a1 n1 c1 w.heap.size v1 ([x, y] ++ D.p16 iter) _ (by exact O1.out) (by exact z1) (by have := L1.out; simp only [List.length_append, p16_len, List.length_cons, List.length_nil]; omega) h1 (by exact S1.out.below B1.out (Nat.le_refl _)) N1.out (by omega) (by exact S1.out.apart O1.out (Nat.le_refl _))).mono ?_
  rintro e w2 ⟨v2, rfl, hO2, hK2⟩
  have z2 : w.heap.size ≤ w2.heap.size := hK2.size z1
  have B2 := hide (B1.out.trans hK2.1)
  have R2 := hide (hK2.2 _ _ _ R1.out (by decide))
  have p2 : w2.cell? ⟨w.heap.size, 4, none⟩ = some (.slice a2 n2 c2) := R2.out.cell 4
  have O2 := hide hO2
  clear hO2 hK2 p1 R1 O1 B1
  go_wp2_with fail
  refine (appendCounted_any next a2 n2 c2 w.heap.size v2 ([x, y] ++ D.p16 iter ++ D.pc salt) _ (by exact O2.out) (by exact z2) (by have := L1.out; simp only [List.length_append, p16_len, List.length_cons, List.length_nil]; omega) h2 (by exact S2.out.below B2.out (Nat.le_refl _)) N2.out (by omega) (by exact S2.out.apart O2.out (Nat.le_refl _))).mono ?_
  rintro e w3 ⟨v3, rfl, hO3, hK3⟩
  have z3 : w.heap.size ≤ w3.heap.size := hK3.size z2
  have B3 := hide (B2.out.trans hK3.1)
  have R3 := hide (hK3.2 _ _ _ R2.out (by decide))
  have p3 : w3.cell? ⟨w.heap.size, 5, none⟩ = some (.slice a3 n3 c3) := R3.out.cell 5
  have O3 := hide hO3
  clear hO3 hK3 p2 R2 O2 B2
  go_wp2_with fail
  refine (bitmap_any types a3 n3 c3 _ h3 (by exact S3.out.below B3.out (Nat.le_refl _)) N3.out l3).mono ?_
  rintro e w4 ⟨v4, cl, rfl, hcl, _, hO4, hb4⟩
  have hcl2 := hcl.self HR.out
  rw [hcl2] at hO4
  have O5 := hide (O3.out.below hb4)
  have z4 : w.heap.size ≤ w4.heap.size := Nat.le_trans z3 hb4.size
  have B4 := hide (B3.out.trans (hb4.mono z3))
  obtain ⟨a9, c9, rfl, hs9, hn9, _⟩ := hO4.open
  have S9 := hide hs9
  have N9 := hide hn9
  clear hs9 hn9 hO4 hb4 p3 R3 O3 B3 hcl hcl2
  go_wp2_with (at_builtin; refine wpList_append_B rfl (.tmp 20) (.tmp 23) rfl w.heap.size _ ([x, y] ++ D.p16 iter ++ D.pc salt ++ D.pc next) rfl (by exact O5.out) _ _ _ (T.bmp types) rfl rfl (by exact S9.out) N9.out (by have := L1.out; have := L2.out; have := HLB.out; simp only [List.length_append, p16_len, List.length_cons, List.length_nil]; omega) z4 ?_; intro v6 w6 hO6 hG6; have hK6 := Kp.grown O5.out hG6 z4; clear hG6)
  go_ret
  exact ⟨_, rfl, hO6, B4.out.trans hK6.1⟩
end Go.Proofs.Ytagopkmehlpjpaa
