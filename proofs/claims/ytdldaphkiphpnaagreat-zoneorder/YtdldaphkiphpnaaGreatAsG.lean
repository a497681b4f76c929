/- SoaBytes, SigBytes, the reader (texts of stage 5, at this seat). -/
import Derived.Test.YtdldaphkiphpnaaGreatAkA
import Derived.Test.YtdldaphkiphpnaaGreatTyA
/- stage5/AppS -/
/- rdata.SoaBytes, SigBytes, ChainBytes. -/
namespace Go.Proofs.YtdldaphkiphpnaaGreat
open Go.RowKit
set_option maxRecDepth 5000 in
theorem p16_len (n : Nat) : (D.p16 n).length = 2 := rfl
set_option maxRecDepth 5000 in
theorem p32_len (n : Nat) : (D.p32 n).length = 4 := rfl
set_option maxRecDepth 5000 in
theorem sum_len : ∀ (n : List (List UInt8)) (l : List UInt8), l ∈ n → l.length + 1 ≤ (n.map (fun l => l.length + 1)).sum
  | a :: n, l, h => by
    rw [List.map_cons, List.sum_cons]
    rcases List.mem_cons.1 h with rfl | h
    · omega
    · have := sum_len n l h; omega
set_option maxRecDepth 5000 in
theorem len_sum : ∀ (n : List (List UInt8)), n.length ≤ (n.map (fun l => l.length + 1)).sum
  | [] => by simp
  | a :: n => by
    have := len_sum n
    rw [List.map_cons, List.sum_cons, List.length_cons]; omega
set_option maxRecDepth 5000 in
theorem small_of {n : List (List UInt8)} (h : N.size n ≤ 1000) : N.Small n := by
  unfold N.size at h
  exact ⟨by have := len_sum n; omega, fun l hl => by have := sum_len n l hl; omega⟩
set_option maxHeartbeats 1600000 in
set_option maxRecDepth 5000 in
theorem soaBytes_any (s : D.Soa) (a1 a2 : Option Addr) (n1 c1 n2 c2 : Nat) (w : World) (h1 : Hid (s.main.length = n1)) (h2 : Hid (s.box.length = n2)) (hs1 : SlS w a1 s.main) (hs2 : SlS w a2 s.box) (hz1 : N.size s.main ≤ 1000) (hz2 : N.size s.box ≤ 1000)
    (ha : s.a < 4294967296) (hb : s.b < 4294967296) (hc : s.c < 4294967296) (hd : s.d < 4294967296) (he : s.e < 4294967296) :
    Calls Tryz.prog 150 #[.agg #[.slice a1 n1 c1, .slice a2 n2 c2, .int .u32 (s.a : Int), .int .u32 (s.b : Int), .int .u32 (s.c : Int), .int .u32 (s.d : Int), .int .u32 (s.e : Int)]] w fun e w' => ∃ v', e = .returned v' ∧ OwnB w' w.heap.size v' (D.soaB s) ∧ Below w.heap.size w w' := by
  have S1 := hide hs1
  have S2 := hide hs2
  have m1 := hide (small_of hz1)
  have m2 := hide (small_of hz2)
  have l1 := N.wire_len s.main
  have l2 := N.wire_len s.box
  clear hs1 hs2
  unfold D.soaB
  obtain ⟨main, box, a, b, c, d, e⟩ := s
  simp only at h1 h2 S1 S2 m1 m2 l1 l2 hz1 hz2 ha hb hc hd he ⊢
  have HROW := hide (RowAt.new w 142 #[.slice a1 n1 c1, .slice a2 n2 c2, .int .u32 (a : Int), .int .u32 (b : Int), .int .u32 (c : Int), .int .u32 (d : Int), .int .u32 (e : Int)])
  have HB0 := hide ((Below.refl w.heap.size w).alloc (Nat.le_refl _) (.cells #[.slice a1 n1 c1, .slice a2 n2 c2, .int .u32 (a : Int), .int .u32 (b : Int), .int .u32 (c : Int), .int .u32 (d : Int), .int .u32 (e : Int)] 142))
  have HL1 : Hid ((N.wire main).length ≤ 1000) := by show _ ≤ _; omega
  have HL2 : Hid ((N.wire box).length ≤ 1000) := by show _ ≤ _; omega
  clear l1 l2
  go_enter Tryz.func150, Tryz.ntmps150
  go_wp2
  go_region_law (first
    | (refine step_call rfl 148 #[.slice a1 n1 c1] (by go_simp) (wire_any main a1 n1 c1 _ h1 (by exact S1.out.alloc _) m1) (by rintro e w' ⟨v, rfl, _⟩; exact ⟨v, rfl⟩) ?_; rintro v1 w1 ⟨_, he, hO1, hb1⟩; cases he; have r1 := RowAt.below (by exact HROW.out) hb1 (by simp <;> omega); have p1 : w1.cell? ⟨w.heap.size, 1, none⟩ = some (.slice a2 n2 c2) := r1.cell 1; have R1 := hide r1; have O1 := hide (OwnB.lower (base' := w.heap.size) hO1 (by simp <;> omega)); have z1 : w.heap.size ≤ w1.heap.size := Nat.le_trans (by simp <;> omega) hb1.size; have B1 := hide ((below_allocs HB0.out (Nat.le_refl _) (Or.inl rfl)).trans (hb1.mono (by simp <;> omega))); clear r1 hO1 hb1)
    | (refine step_call rfl 148 #[.slice a2 n2 c2] (by go_simp) (wire_any box a2 n2 c2 _ h2 (by exact S2.out.below B1.out (Nat.le_refl _)) m2) (by rintro e w' ⟨v, rfl, _⟩; exact ⟨v, rfl⟩) ?_; rintro v2 w2 ⟨_, he, hO2, hb2⟩; cases he; have R2 := hide (R1.out.below hb2 R1.out.lt); have OM := hide (O1.out.below hb2); obtain ⟨g9, c9, rfl, _, _, _, _, _⟩ := hO2.form (by simp [N.wire]); have S9 := hide hO2.sl; have z2 : w.heap.size ≤ w2.heap.size := Nat.le_trans z1 hb2.size; have B2 := hide (B1.out.trans (hb2.mono z1)); clear hO2 hb2)
    | (refine step_append_B rfl (.tmp 6) (.tmp 9) rfl w.heap.size v1 (N.wire main) (by simp [Act.eval]) (by exact OM.out) ⟨g9, 0, none⟩ (N.wire box).length c9 (N.wire box) (by simp [Act.eval]) rfl (by exact S9.out) (by have := HL1.out; have := HL2.out; omega) (by exact z2) ?_; intro v4 w4 hO4 hG4; have K4 := hide (Kp.grown OM.out hG4 z2); have O4 := hide hO4; clear hG4 hO4))
  all_goals
    have z4 : w.heap.size ≤ w4.heap.size := K4.out.size z2
    have B4 := hide (B2.out.trans K4.out.1)
    have R4 := hide (K4.out.2 _ _ _ R2.out (by decide))
    have p4 : w4.cell? ⟨w.heap.size, 2, none⟩ = some (.int .u32 (a : Int)) := R4.out.cell 2
    have L4 : Hid ((N.wire main ++ N.wire box).length ≤ 2000) := by have := HL1.out; have := HL2.out; show _ ≤ _; rw [List.length_append]; omega
    obtain ⟨q, hq⟩ : ∃ q, N.wire main ++ N.wire box = q := ⟨_, rfl⟩
    rw [hq] at O4 L4
    have HQ := hide hq
    clear hq
    clear R2 B2 K4 S9 OM R1 B1 O1
    go_wp2_with fail
    refine (append32_any a ha w.heap.size v4 (q) _ (by exact O4.out) (by exact z4) (by have := L4.out; first | omega | (simp only [List.length_append, p32_len]; omega))).mono ?_
    rintro e w5 ⟨v5, rfl, hO5, hK5⟩
    have z5 : w.heap.size ≤ w5.heap.size := hK5.size z4
    have B5 := hide (B4.out.trans hK5.1)
    have R5 := hide (hK5.2 _ _ _ R4.out (by decide))
    have p5 : w5.cell? ⟨w.heap.size, 3, none⟩ = some (.int .u32 (b : Int)) := R5.out.cell 3
    have O5 := hide hO5
    clear hO5 hK5 p4 R4 O4
    go_wp2_with fail
    refine (append32_any b hb w.heap.size v5 (q ++ D.p32 a) _ (by exact O5.out) (by exact z5) (by have := L4.out; first | omega | (simp only [List.length_append, p32_len]; omega))).mono ?_
    rintro e w6 ⟨v6, rfl, hO6, hK6⟩
    have z6 : w.heap.size ≤ w6.heap.size := hK6.size z5
    have B6 := hide (B5.out.trans hK6.1)
    have R6 := hide (hK6.2 _ _ _ R5.out (by decide))
    have p6 : w6.cell? ⟨w.heap.size, 4, none⟩ = some (.int .u32 (c : Int)) := R6.out.cell 4
    have O6 := hide hO6
    clear hO6 hK6 p5 R5 O5
    go_wp2_with fail
    refine (append32_any c hc w.heap.size v6 (q ++ D.p32 a ++ D.p32 b) _ (by exact O6.out) (by exact z6) (by have := L4.out; first | omega | (simp only [List.length_append, p32_len]; omega))).mono ?_
    rintro e w7 ⟨v7, rfl, hO7, hK7⟩
    have z7 : w.heap.size ≤ w7.heap.size := hK7.size z6
    have B7 := hide (B6.out.trans hK7.1)
    have R7 := hide (hK7.2 _ _ _ R6.out (by decide))
    have p7 : w7.cell? ⟨w.heap.size, 5, none⟩ = some (.int .u32 (d : Int)) := R7.out.cell 5
    have O7 := hide hO7
    clear hO7 hK7 p6 R6 O6
    go_wp2_with fail
    refine (append32_any d hd w.heap.size v7 (q ++ D.p32 a ++ D.p32 b ++ D.p32 c) _ (by exact O7.out) (by exact z7) (by have := L4.out; first | omega | (simp only [List.length_append, p32_len]; omega))).mono ?_
    rintro e w8 ⟨v8, rfl, hO8, hK8⟩
    have z8 : w.heap.size ≤ w8.heap.size := hK8.size z7
    have B8 := hide (B7.out.trans hK8.1)
    have R8 := hide (hK8.2 _ _ _ R7.out (by decide))
    have p8 : w8.cell? ⟨w.heap.size, 6, none⟩ = some (.int .u32 (e : Int)) := R8.out.cell 6
    have O8 := hide hO8
    clear hO8 hK8 p7 R7 O7
    go_wp2_with fail
    refine (append32_any e he w.heap.size v8 (q ++ D.p32 a ++ D.p32 b ++ D.p32 c ++ D.p32 d) _ (by exact O8.out) (by exact z8) (by have := L4.out; first | omega | (simp only [List.length_append, p32_len]; omega))).mono ?_
    rintro e w9 ⟨v9, rfl, hO9, hK9⟩
    go_wp2
    go_ret
    exact ⟨_, rfl, by rw [HQ.out]; exact hO9, B8.out.trans hK9.1⟩
end Go.Proofs.YtdldaphkiphpnaaGreat

/- stage5/AppG -/
/- rdata.SigBytes, ChainBytes. -/
namespace Go.Proofs.YtdldaphkiphpnaaGreat
open Go.RowKit
set_option maxHeartbeats 1600000 in
set_option maxRecDepth 5000 in
theorem sigBytes_any (s : D.Sig) (a1 a2 : Option Addr) (n1 c1 n2 c2 : Nat) (w : World) (h1 : Hid (s.signer.length = n1)) (h2 : Hid (s.sig.length = n2)) (hs1 : SlS w a1 s.signer) (hs2 : SlL w a2 s.sig) (hnil : a2 = none → c2 = 0) (hz1 : N.size s.signer ≤ 1000) (hz2 : n2 ≤ 100000)
    (ht : s.type < 65536) (ha : s.alg < 256) (hb : s.labels < 256) (hc : s.ttl < 4294967296) (hd : s.expire < 4294967296) (he : s.begin_ < 4294967296) (hg : s.tag < 65536) :
    Calls Tryz.prog 152 #[.agg #[.int .u16 (s.type : Int), .int .u8 (s.alg : Int), .int .u8 (s.labels : Int), .int .u32 (s.ttl : Int), .int .u32 (s.expire : Int), .int .u32 (s.begin_ : Int), .int .u16 (s.tag : Int), .slice a1 n1 c1, .slice a2 n2 c2]] w fun e w' => ∃ v', e = .returned v' ∧ OwnB w' w.heap.size v' (D.sigB s) ∧ Below w.heap.size w w' := by
  have S1 := hide hs1
  have S2 := hide hs2
  have NI := hide hnil
  have m1 := hide (small_of hz1)
  have l1 := N.wire_len s.signer
  clear hs1 hs2 hnil
  unfold D.sigB
  obtain ⟨type, alg, labels, ttl, expire, begin_, tag, signer, sig⟩ := s
  simp only at h1 h2 S1 S2 m1 l1 hz1 ht ha hb hc hd he hg ⊢
  have q1 : (alg : Int) = ((UInt8.ofNat alg).toNat : Int) := by rw [D.nat_u8 _ ha]
  have q2 : (labels : Int) = ((UInt8.ofNat labels).toNat : Int) := by rw [D.nat_u8 _ hb]
  rw [q1, q2]
  clear q1 q2
  generalize UInt8.ofNat alg = x
  generalize UInt8.ofNat labels = y
  have R0 := hide (RowAt.new w 146 #[.int .u16 (type : Int), .int .u8 (x.toNat : Int), .int .u8 (y.toNat : Int), .int .u32 (ttl : Int), .int .u32 (expire : Int), .int .u32 (begin_ : Int), .int .u16 (tag : Int), .slice a1 n1 c1, .slice a2 n2 c2])
  have B0 := hide ((Below.refl w.heap.size w).alloc (Nat.le_refl _) (.cells #[.int .u16 (type : Int), .int .u8 (x.toNat : Int), .int .u8 (y.toNat : Int), .int .u32 (ttl : Int), .int .u32 (expire : Int), .int .u32 (begin_ : Int), .int .u16 (tag : Int), .slice a1 n1 c1, .slice a2 n2 c2] 146))
  have HL1 : Hid ((N.wire signer).length ≤ 1000) := by show _ ≤ _; omega
  clear l1
  go_enter Tryz.func152, Tryz.ntmps152
  go_wp2_with fail
  refine (append16_nil type ht _).mono ?_
  rintro e w1 ⟨v1, rfl, hO1, hb1⟩
  have z1 : w.heap.size ≤ w1.heap.size := Nat.le_trans (by simp) hb1.size
  have B1 := hide (B0.out.trans (hb1.mono (by simp)))
  have R1 := hide (R0.out.below hb1 (by simp))
  have O1 := hide (OwnB.lower (base' := w.heap.size) hO1 (by simp))
  have p1 : w1.cell? ⟨w.heap.size, 1, none⟩ = some (.int .u8 (x.toNat : Int)) := R1.out.cell 1
  have p1b : w1.cell? ⟨w.heap.size, 2, none⟩ = some (.int .u8 (y.toNat : Int)) := R1.out.cell 2
  clear hO1 hb1 R0 B0
  go_wp2_with (at_builtin; refine wpList_append_B rfl (.tmp 7) (.tmp 12) rfl w.heap.size _ (D.p16 type) rfl (by exact O1.out.alloc _) _ _ _ [x, y] rfl rfl (by exact SlL.litm w1 [x, y] _ 5 (0, 0) rfl) (by intro h; cases h) (by simp [p16_len]) (by simp; omega) ?_; intro v2 w2 hO2 hG2; have hK2 := Kp.app O1.out hG2 z1; have z2 : w.heap.size ≤ w2.heap.size := hK2.size z1; have B2 := hide (B1.out.trans hK2.1); have R2 := hide (hK2.2 _ _ _ R1.out (by decide)); have p2 : w2.cell? ⟨w.heap.size, 3, none⟩ = some (.int .u32 (ttl : Int)) := R2.out.cell 3; have O2 := hide hO2; clear hO2 hG2 hK2 p1 p1b R1 B1 O1)
  refine (append32_any ttl hc w.heap.size v2 (D.p16 type ++ [x, y]) _ (by exact O2.out) (by exact z2) (by simp only [List.length_append, p16_len, List.length_cons, List.length_nil]; omega)).mono ?_
  rintro e w3 ⟨v3, rfl, hO3, hK3⟩
  have z3 : w.heap.size ≤ w3.heap.size := hK3.size z2
  have B3 := hide (B2.out.trans hK3.1)
  have R3 := hide (hK3.2 _ _ _ R2.out (by decide))
  have p3 : w3.cell? ⟨w.heap.size, 4, none⟩ = some (.int .u32 (expire : Int)) := R3.out.cell 4
  have O3 := hide hO3
  clear hO3 hK3 p2 R2 O2 B2
  go_wp2_with fail
  refine (append32_any expire hd w.heap.size v3 (D.p16 type ++ [x, y] ++ D.p32 ttl) _ (by exact O3.out) (by exact z3) (by simp only [List.length_append, p32_len, p16_len, List.length_cons, List.length_nil]; omega)).mono ?_
  rintro e w4 ⟨v4, rfl, hO4, hK4⟩
  have z4 : w.heap.size ≤ w4.heap.size := hK4.size z3
  have B4 := hide (B3.out.trans hK4.1)
  have R4 := hide (hK4.2 _ _ _ R3.out (by decide))
  have p4 : w4.cell? ⟨w.heap.size, 5, none⟩ = some (.int .u32 (begin_ : Int)) := R4.out.cell 5
  have O4 := hide hO4
  clear hO4 hK4 p3 R3 O3 B3
  go_wp2_with fail
  refine (append32_any begin_ he w.heap.size v4 (D.p16 type ++ [x, y] ++ D.p32 ttl ++ D.p32 expire) _ (by exact O4.out) (by exact z4) (by simp only [List.length_append, p32_len, p16_len, List.length_cons, List.length_nil]; omega)).mono ?_
  rintro e w5 ⟨v5, rfl, hO5, hK5⟩
  have z5 : w.heap.size ≤ w5.heap.size := hK5.size z4
  have B5 := hide (B4.out.trans hK5.1)
  have R5 := hide (hK5.2 _ _ _ R4.out (by decide))
  have p5 : w5.cell? ⟨w.heap.size, 6, none⟩ = some (.int .u16 (tag : Int)) := R5.out.cell 6
  have O5 := hide hO5
  clear hO5 hK5 p4 R4 O4 B4
  go_wp2_with fail
  refine (append16_any tag hg w.heap.size v5 (D.p16 type ++ [x, y] ++ D.p32 ttl ++ D.p32 expire ++ D.p32 begin_) _ (by exact O5.out) (by exact z5) (by simp only [List.length_append, p32_len, p16_len, List.length_cons, List.length_nil]; omega)).mono ?_
  rintro e w6 ⟨v6, rfl, hO6, hK6⟩
  have z6 : w.heap.size ≤ w6.heap.size := hK6.size z5
  have B6 := hide (B5.out.trans hK6.1)
  have R6 := hide (hK6.2 _ _ _ R5.out (by decide))
  have p6 : w6.cell? ⟨w.heap.size, 7, none⟩ = some (.slice a1 n1 c1) := R6.out.cell 7
  have O6 := hide hO6
  clear hO6 hK6 p5 R5 O5 B5
  go_wp2_with fail
  refine (wire_any signer a1 n1 c1 _ h1 (by exact S1.out.below B6.out (Nat.le_refl _)) m1).mono ?_
  rintro e w7 ⟨v7, rfl, hO7, hb7⟩
  have z7 : w.heap.size ≤ w7.heap.size := Nat.le_trans z6 hb7.size
  have B7 := hide (B6.out.trans (hb7.mono z6))
  have R7 := hide (R6.out.below hb7 R6.out.lt)
  have O7 := hide (O6.out.below hb7)
  obtain ⟨a9, c9, rfl, hs9, hn9, _⟩ := hO7.open
  have S9 := hide hs9
  have N9 := hide hn9
  clear hs9 hn9 hO7 hb7 p6 R6 O6 B6
  go_wp2_with (first
    | (at_builtin; refine wpList_append_B rfl (.tmp 30) (.tmp 33) rfl w.heap.size _ (D.p16 type ++ [x, y] ++ D.p32 ttl ++ D.p32 expire ++ D.p32 begin_ ++ D.p16 tag) rfl (by exact O7.out) _ _ _ (N.wire signer) rfl rfl (by exact S9.out) N9.out (by have := HL1.out; simp only [List.length_append, p32_len, p16_len, List.length_cons, List.length_nil]; omega) z7 ?_; intro v8 w8 hO8 hG8; have hK8 := Kp.grown O7.out hG8 z7; have z8 : w.heap.size ≤ w8.heap.size := hK8.size z7; have B8 := hide (B7.out.trans hK8.1); have p8 : w8.cell? ⟨w.heap.size, 8, none⟩ = some (.slice a2 n2 c2) := (hK8.2 _ _ _ R7.out (by decide)).cell 8; have O8 := hide hO8; clear hO8 hG8 hK8 R7 B7 O7 S9)
    | (at_builtin; refine wpList_append_B rfl (.tmp 35) (.tmp 37) rfl w.heap.size _ (D.p16 type ++ [x, y] ++ D.p32 ttl ++ D.p32 expire ++ D.p32 begin_ ++ D.p16 tag ++ N.wire signer) rfl (by exact O8.out) _ _ _ sig rfl h2.out (by exact S2.out.below B8.out (Nat.le_refl _)) NI.out (by have := HL1.out; simp only [List.length_append, p32_len, p16_len, List.length_cons, List.length_nil]; omega) z8 ?_; intro v10 w10 hO10 hG10; have hK10 := Kp.grown O8.out hG10 z8; clear hG10))
  go_ret
  exact ⟨_, rfl, hO10, B8.out.trans hK10.1⟩
set_option maxHeartbeats 1600000 in
set_option maxRecDepth 5000 in
theorem chainBytes_any (c : D.Chain) (a1 a2 a3 : Option Addr) (n1 c1 n2 c2 n3 c3 : Nat) (w : World) (h1 : Hid (c.salt.length = n1)) (h2 : Hid (c.next.length = n2)) (h3 : Hid (c.types.length = n3)) (hs1 : SlL w a1 c.salt) (hs2 : SlL w a2 c.next) (hs3 : SlH w a3 c.types)
    (hn1 : a1 = none → c1 = 0) (hn2 : a2 = none → c2 = 0) (hn3 : a3 = none → c3 = 0) (l1 : n1 ≤ 10000) (l2 : n2 ≤ 10000) (l3 : n3 ≤ 70000) (hr : T.Rising c.types) (ha : c.hash < 256) (hb : c.flags < 256) (hi : c.iter < 65536) (hlb : (T.bmp c.types).length ≤ 100000) :
    Calls Tryz.prog 124 #[.agg #[.int .u8 (c.hash : Int), .int .u8 (c.flags : Int), .int .u16 (c.iter : Int), .slice a1 n1 c1, .slice a2 n2 c2, .slice a3 n3 c3]] w fun e w' => ∃ v', e = .returned v' ∧ OwnB w' w.heap.size v' (D.chainB c) ∧ Below w.heap.size w w' := by
  have S1 := hide hs1
  have S2 := hide hs2
  have S3 := hide hs3
  have N1 := hide hn1
  have N2 := hide hn2
  have N3 := hide hn3
  have HLB := hide hlb
  have HR := hide hr
  clear hs1 hs2 hs3 hn1 hn2 hn3 hlb hr
  unfold D.chainB
  obtain ⟨hash, flags, iter, salt, next, types⟩ := c
  simp only at h1 h2 h3 S1 S2 S3 HR HLB ha hb hi ⊢
  have q1 : (hash : Int) = ((UInt8.ofNat hash).toNat : Int) := by rw [D.nat_u8 _ ha]
  have q2 : (flags : Int) = ((UInt8.ofNat flags).toNat : Int) := by rw [D.nat_u8 _ hb]
  rw [q1, q2]
  clear q1 q2
  generalize UInt8.ofNat hash = x
  generalize UInt8.ofNat flags = y
  have R0 := hide ((RowAt.new w 154 #[.int .u8 (x.toNat : Int), .int .u8 (y.toNat : Int), .int .u16 (iter : Int), .slice a1 n1 c1, .slice a2 n2 c2, .slice a3 n3 c3]).alloc (.cells #[.int .u8 x.toNat, .int .u8 y.toNat] 5))
  have B0 := hide (((Below.refl w.heap.size w).alloc (Nat.le_refl _) (.cells #[.int .u8 (x.toNat : Int), .int .u8 (y.toNat : Int), .int .u16 (iter : Int), .slice a1 n1 c1, .slice a2 n2 c2, .slice a3 n3 c3] 154)).alloc (by simp) (.cells #[.int .u8 x.toNat, .int .u8 y.toNat] 5))
  have O0 := hide (OwnB.two (w.alloc (.cells #[.int .u8 (x.toNat : Int), .int .u8 (y.toNat : Int), .int .u16 (iter : Int), .slice a1 n1 c1, .slice a2 n2 c2, .slice a3 n3 c3] 154)) x y w.heap.size (by simp))
  rw [World.size_alloc] at O0
  have L1 : Hid ((D.pc salt).length ≤ 10001) := by show _ ≤ _; have := h1.out; simp [D.pc]; omega
  have L2 : Hid ((D.pc next).length ≤ 10001) := by show _ ≤ _; have := h2.out; simp [D.pc]; omega
  go_enter Tryz.func124, Tryz.ntmps124
  go_wp2_with fail
  refine (append16_any iter hi w.heap.size (.slice (some ⟨w.heap.size + 1, 0, none⟩) 2 2) [x, y] _ (by exact O0.out) (by simp <;> omega) (by simp)).mono ?_
  rintro e w1 ⟨v1, rfl, hO1, hK1⟩
  have z1 : w.heap.size ≤ w1.heap.size := hK1.size (by simp <;> omega)
  have B1 := hide (B0.out.trans hK1.1)
  have R1 := hide (hK1.2 _ _ _ R0.out (by decide))
  have p1 : w1.cell? ⟨w.heap.size, 3, none⟩ = some (.slice a1 n1 c1) := R1.out.cell 3
  have O1 := hide hO1
  clear hO1 hK1 R0 B0 O0
  go_wp2_with fail
  refine (appendCounted_any salt a1 n1 c1 w.heap.size v1 ([x, y] ++ D.p16 iter) _ (by exact O1.out) (by exact z1) (by have := L1.out; simp only [List.length_append, p16_len, List.length_cons, List.length_nil]; omega) h1 (by exact S1.out.below B1.out (Nat.le_refl _)) N1.out (by omega) (by exact S1.out.apart O1.out (Nat.le_refl _))).mono ?_
  rintro e w2 ⟨v2, rfl, hO2, hK2⟩
  have z2 : w.heap.size ≤ w2.heap.size := hK2.size z1
  have B2 := hide (B1.out.trans hK2.1)
  have R2 := hide (hK2.2 _ _ _ R1.out (by decide))
  have p2 : w2.cell? ⟨w.heap.size, 4, none⟩ = some (.slice a2 n2 c2) := R2.out.cell 4
  have O2 := hide hO2
  clear hO2 hK2 p1 R1 O1 B1
  go_wp2_with fail
  refine (appendCounted_any next a2 n2 c2 w.heap.size v2 ([x, y] ++ D.p16 iter ++ D.pc salt) _ (by exact O2.out) (by exact z2) (by have := L1.out; simp only [List.length_append, p16_len, List.length_cons, List.length_nil]; omega) h2 (by exact S2.out.below B2.out (Nat.le_refl _)) N2.out (by omega) (by exact S2.out.apart O2.out (Nat.le_refl _))).mono ?_
  rintro e w3 ⟨v3, rfl, hO3, hK3⟩
  have z3 : w.heap.size ≤ w3.heap.size := hK3.size z2
  have B3 := hide (B2.out.trans hK3.1)
  have R3 := hide (hK3.2 _ _ _ R2.out (by decide))
  have p3 : w3.cell? ⟨w.heap.size, 5, none⟩ = some (.slice a3 n3 c3) := R3.out.cell 5
  have O3 := hide hO3
  clear hO3 hK3 p2 R2 O2 B2
  go_wp2_with fail
  refine (bitmap_any types a3 n3 c3 _ h3 (by exact S3.out.below B3.out (Nat.le_refl _)) N3.out l3).mono ?_
  rintro e w4 ⟨v4, cl, rfl, hcl, _, hO4, hb4⟩
  have hcl2 := hcl.self HR.out
  rw [hcl2] at hO4
  have O5 := hide (O3.out.below hb4)
  have z4 : w.heap.size ≤ w4.heap.size := Nat.le_trans z3 hb4.size
  have B4 := hide (B3.out.trans (hb4.mono z3))
  obtain ⟨a9, c9, rfl, hs9, hn9, _⟩ := hO4.open
  have S9 := hide hs9
  have N9 := hide hn9
  clear hs9 hn9 hO4 hb4 p3 R3 O3 B3 hcl hcl2
  go_wp2_with (at_builtin; refine wpList_append_B rfl (.tmp 20) (.tmp 23) rfl w.heap.size _ ([x, y] ++ D.p16 iter ++ D.pc salt ++ D.pc next) rfl (by exact O5.out) _ _ _ (T.bmp types) rfl rfl (by exact S9.out) N9.out (by have := L1.out; have := L2.out; have := HLB.out; simp only [List.length_append, p16_len, List.length_cons, List.length_nil]; omega) z4 ?_; intro v6 w6 hO6 hG6; have hK6 := Kp.grown O5.out hG6 z4; clear hG6)
  go_ret
  exact ⟨_, rfl, hO6, B4.out.trans hK6.1⟩
end Go.Proofs.YtdldaphkiphpnaaGreat

/- stage5/Rdr3 -/
/- What the readings of parts answer; the reader beside other rows of memory. -/
namespace Go.Proofs.YtdldaphkiphpnaaGreat
open Go.RowKit
set_option maxRecDepth 5000 in
theorem Rdr.base {B T : Nat} {l : List UInt8} {w : World} (h : Rdr B T l w) : B ≤ w.heap.size := by
  obtain ⟨ao, c, _, _, _, _, _, _, h⟩ := h
  exact h
set_option maxRecDepth 5000 in
theorem Rdr.len {B T : Nat} {l : List UInt8} {w : World} (h : Rdr B T l w) : l.length ≤ 8192 := by
  obtain ⟨ao, c, _, _, _, _, _, h, _⟩ := h
  exact h
set_option maxRecDepth 5000 in
theorem Rdr.other {B T : Nat} {l : List UInt8} {w : World} (h : Rdr B T l w) (g j : Nat) (v : Value) (hg : T ≠ g) (hB : B ≤ g) : Rdr B T l (w.setCell ⟨g, j, none⟩ v) := by
  obtain ⟨ao, c, h1, h2, h3, h4, h5, h6, h7⟩ := h
  exact ⟨ao, c, h1.other _ _ hg, h2.below ((Below.refl B w).setCell hB _), h3, h4, h5, h6, by simp [World.setCell]; omega⟩
set_option maxRecDepth 5000 in
theorem Mv.setNew {T : Nat} {w w' : World} (h : Mv T w w') (g j : Nat) (v : Value) (hg : w.heap.size ≤ g) : Mv T w (w'.setCell ⟨g, j, none⟩ v) :=
  ⟨h.os, h.tape, h.output, by simp [World.setCell]; exact h.size, fun k hk hn => (Below.heap_setCell _ _ _ _ (by show k ≠ g; omega)).trans (h.block k hk hn)⟩
set_option maxRecDepth 5000 in
theorem RowAt.same {w : World} {g t : Nat} {c : Array Value} (h : RowAt w g t c) (j : Nat) {v : Value} (hv : c[j]? = some v) : RowAt (w.setCell ⟨g, j, none⟩ v) g t c := by
  have h1 := h.set j v
  have e : c.setIfInBounds j v = c := by
    apply Array.ext
    · simp
    · intro i h1 h2
      rw [Array.getElem_setIfInBounds]
      split
      · subst_vars; rw [Array.getElem?_eq_some_iff] at hv; obtain ⟨_, hv⟩ := hv; exact hv.symm
      · rfl
  rwa [e] at h1
/- one block alone is another -/
def Upd (g : Nat) (W F : World) : Prop := F.os = W.os ∧ F.tape = W.tape ∧ F.output = W.output ∧ F.heap.size = W.heap.size ∧ ∀ k, k ≠ g → F.heap[k]? = W.heap[k]?
set_option maxRecDepth 5000 in
theorem Upd.refl (g : Nat) (W : World) : Upd g W W := ⟨rfl, rfl, rfl, rfl, fun _ _ => rfl⟩
set_option maxRecDepth 5000 in
theorem Upd.set {g : Nat} {W F : World} (h : Upd g W F) (j : Nat) (v : Value) : Upd g W (F.setCell ⟨g, j, none⟩ v) :=
  ⟨h.1, h.2.1, h.2.2.1, by simp [World.setCell]; exact h.2.2.2.1, fun k hk => (Below.heap_setCell _ _ _ _ hk).trans (h.2.2.2.2 k hk)⟩
set_option maxRecDepth 5000 in
theorem Upd.mv {T g : Nat} {w W F : World} (u : Upd g W F) (h : Mv T w W) (hg : w.heap.size ≤ g) : Mv T w F :=
  ⟨u.1.trans h.os, u.2.1.trans h.tape, u.2.2.1.trans h.output, by rw [u.2.2.2.1]; exact h.size, fun k hk hn => (u.2.2.2.2 k (by omega)).trans (h.block k hk hn)⟩
set_option maxRecDepth 5000 in
theorem Upd.below {B g : Nat} {W F : World} (u : Upd g W F) (hg : B ≤ g) : Below B W F := ⟨u.1, u.2.1, u.2.2.1, by rw [u.2.2.2.1]; exact Nat.le_refl _, fun k hk => u.2.2.2.2 k (by omega)⟩
set_option maxRecDepth 5000 in
theorem Upd.rdr {B T g : Nat} {l : List UInt8} {W F : World} (u : Upd g W F) (h : Rdr B T l W) (hT : T ≠ g) (hB : B ≤ g) : Rdr B T l F := by
  obtain ⟨ao, c, h1, h2, h3, h4, h5, h6, h7⟩ := h
  exact ⟨ao, c, by unfold RowAt; rw [u.2.2.2.2 T hT]; exact h1, h2.below (u.below hB), h3, h4, h5, h6, by rw [u.2.2.2.1]; exact h7⟩
set_option maxRecDepth 5000 in
theorem Upd.own {g t B e n : Nat} {W F : World} {v : Value} {xs : List Value} {c : Array Value} (u : Upd g W F) (hT : RowAt W g t c) (hne : t ≠ e) (h : W.ownsRow B e 1 v n xs) : F.ownsRow B e 1 v n xs := by
  have hn := own_ne h hT hne
  refine ⟨h.1, ?_⟩
  rcases h.2 with h1 | ⟨g', cap, cur, e1, hb, hg', hr⟩
  · exact Or.inl h1
  · refine Or.inr ⟨g', cap, cur, e1, hb, ?_, hr⟩
    rw [u.2.2.2.2 g' (fun e2 => hn (by rw [e1, ← e2]; rfl))]; exact hg'
def KeyV (base : Nat) (k : D.Key) (v : Value) (w : World) : Prop := ∃ a c, v = .agg #[.int .u16 (k.flags : Int), .int .u8 (k.proto : Int), .int .u8 (k.alg : Int), .slice a k.key.length c] ∧ OwnB w base (.slice a k.key.length c) k.key
def SoaV (base : Nat) (s : D.Soa) (v : Value) (w : World) : Prop := ∃ a1 c1 a2 c2, v = .agg #[.slice a1 s.main.length c1, .slice a2 s.box.length c2, .int .u32 (s.a : Int), .int .u32 (s.b : Int), .int .u32 (s.c : Int), .int .u32 (s.d : Int), .int .u32 (s.e : Int)] ∧ OwnS w base (.slice a1 s.main.length c1) s.main ∧ OwnS w base (.slice a2 s.box.length c2) s.box
def SigV (base : Nat) (s : D.Sig) (v : Value) (w : World) : Prop := ∃ a1 c1 a2 c2, v = .agg #[.int .u16 (s.type : Int), .int .u8 (s.alg : Int), .int .u8 (s.labels : Int), .int .u32 (s.ttl : Int), .int .u32 (s.expire : Int), .int .u32 (s.begin_ : Int), .int .u16 (s.tag : Int), .slice a1 s.signer.length c1, .slice a2 s.sig.length c2] ∧ OwnS w base (.slice a1 s.signer.length c1) s.signer ∧ OwnB w base (.slice a2 s.sig.length c2) s.sig
def ChainV (base : Nat) (c : D.Chain) (v : Value) (w : World) : Prop := ∃ a1 c1 a2 c2 a3 c3, v = .agg #[.int .u8 (c.hash : Int), .int .u8 (c.flags : Int), .int .u16 (c.iter : Int), .slice a1 c.salt.length c1, .slice a2 c.next.length c2, .slice a3 c.types.length c3] ∧ OwnB w base (.slice a1 c.salt.length c1) c.salt ∧ OwnB w base (.slice a2 c.next.length c2) c.next ∧ OwnH w base (.slice a3 c.types.length c3) c.types
end Go.Proofs.YtdldaphkiphpnaaGreat

