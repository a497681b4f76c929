/- The reference's zone in memory; signetref15.Has. -/
import Derived.Test.YtbkegikdmmnkaaaGreatRefS
import Derived.Test.YtbkegikdmmnkaaaGreatTyB
import Derived.Deep.RegionHeld3
import Derived.Test.YtbkegikdmmnkaaaGreatRefY
import Derived.Deep.Cut
namespace Go.Proofs.YtbkegikdmmnkaaaGreat
set_option maxRecDepth 5000
open Go.RowKit
theorem cls23456 {W : World} {g t : Nat} {x0 x1 x2 x3 x4 x5 x6 : Value} (h : RowAt W g t #[x0, x1, x2, x3, x4, x5, x6]) : W.cell? ⟨g, 2, none⟩ = some x2 /\ W.cell? ⟨g, 3, none⟩ = some x3 /\ W.cell? ⟨g, 4, none⟩ = some x4 /\ W.cell? ⟨g, 5, none⟩ = some x5 /\ W.cell? ⟨g, 6, none⟩ = some x6 := ⟨h.cell 2, h.cell 3, h.cell 4, h.cell 5, h.cell 6⟩
theorem cls012 {W : World} {g t : Nat} {x0 x1 x2 x3 x4 x5 x6 x7 x8 : Value} (h : RowAt W g t #[x0, x1, x2, x3, x4, x5, x6, x7, x8]) : W.cell? ⟨g, 0, none⟩ = some x0 /\ W.cell? ⟨g, 1, none⟩ = some x1 /\ W.cell? ⟨g, 2, none⟩ = some x2 := ⟨h.cell 0, h.cell 1, h.cell 2⟩
theorem cls345 {W : World} {g t : Nat} {x0 x1 x2 x3 x4 x5 x6 x7 x8 : Value} (h : RowAt W g t #[x0, x1, x2, x3, x4, x5, x6, x7, x8]) : W.cell? ⟨g, 3, none⟩ = some x3 /\ W.cell? ⟨g, 4, none⟩ = some x4 /\ W.cell? ⟨g, 5, none⟩ = some x5 := ⟨h.cell 3, h.cell 4, h.cell 5⟩
theorem cls678 {W : World} {g t : Nat} {x0 x1 x2 x3 x4 x5 x6 x7 x8 : Value} (h : RowAt W g t #[x0, x1, x2, x3, x4, x5, x6, x7, x8]) : W.cell? ⟨g, 6, none⟩ = some x6 /\ W.cell? ⟨g, 7, none⟩ = some x7 /\ W.cell? ⟨g, 8, none⟩ = some x8 := ⟨h.cell 6, h.cell 7, h.cell 8⟩
set_option maxHeartbeats 3200000 in
theorem sSoaBytes_any (s : D.Soa) (a1 a2 : Option Addr) (n1 c1 n2 c2 : Nat) (w : World) (h1 : Hid (s.main.length = n1)) (h2 : Hid (s.box.length = n2)) (hs1 : SlS w a1 s.main) (hs2 : SlS w a2 s.box) (hz1 : N.size s.main <= 1000) (hz2 : N.size s.box <= 1000)
 (ha : s.a < 4294967296) (hb : s.b < 4294967296) (hc : s.c < 4294967296) (hd : s.d < 4294967296) (he : s.e < 4294967296) :
 Calls Tryz.prog 116 #[.agg #[.slice a1 n1 c1, .slice a2 n2 c2, .int .u32 (s.a : Int), .int .u32 (s.b : Int), .int .u32 (s.c : Int), .int .u32 (s.d : Int), .int .u32 (s.e : Int)]] w fun e w' => ∃ v', e = .returned v' /\ OwnB w' w.heap.size v' (D.soaB s) /\ Below w.heap.size w w' := by
 have S1 := hide hs1
 have S2 := hide hs2
 have m1 := hide (small_of hz1)
 have m2 := hide (small_of hz2)
 have l1 := N.wire_len s.main
 have l2 := N.wire_len s.box
 clear hs1 hs2
 unfold D.soaB
 obtain ⟨main, box, a, b, c, d, e⟩ := s
 simp only at h1 h2 S1 S2 m1 m2 l1 l2 hz1 hz2 ha hb hc hd he ⊢
 have HROW := hide (RowAt.new w 168 #[.slice a1 n1 c1, .slice a2 n2 c2, .int .u32 (a : Int), .int .u32 (b : Int), .int .u32 (c : Int), .int .u32 (d : Int), .int .u32 (e : Int)])
 have HB0 := hide ((Below.refl w.heap.size w).alloc (Nat.le_refl _) (.cells #[.slice a1 n1 c1, .slice a2 n2 c2, .int .u32 (a : Int), .int .u32 (b : Int), .int .u32 (c : Int), .int .u32 (d : Int), .int .u32 (e : Int)] 168))
 have HL1 : Hid ((N.wire main).length <= 1000) := by show _ <= _; omega
 have HL2 : Hid ((N.wire box).length <= 1000) := by show _ <= _; omega
 clear l1 l2
 go_enter Tryz.func116, Tryz.ntmps116
 go_wp2
 have x0 : (w.alloc (.cells #[.slice a1 n1 c1, .slice a2 n2 c2, .int .u32 (a : Int), .int .u32 (b : Int), .int .u32 (c : Int), .int .u32 (d : Int), .int .u32 (e : Int)] 168)).cell? ⟨w.heap.size, 0, none⟩ = some (.slice a1 n1 c1) := HROW.out.cell 0
 have x1 : (w.alloc (.cells #[.slice a1 n1 c1, .slice a2 n2 c2, .int .u32 (a : Int), .int .u32 (b : Int), .int .u32 (c : Int), .int .u32 (d : Int), .int .u32 (e : Int)] 168)).cell? ⟨w.heap.size, 1, none⟩ = some (.slice a2 n2 c2) := HROW.out.cell 1
 go_region_held3 (fun w' => w'.cell? ⟨w.heap.size, 0, none⟩ = some (.slice a1 n1 c1) /\ w'.cell? ⟨w.heap.size, 1, none⟩ = some (.slice a2 n2 c2)) ((first | (with_reducible exact ⟨x0, x1⟩) | exact ⟨x0, x1⟩)) ((first
  | (refine step_fn 114 #[.tmp 5] _ rfl rfl #[.slice a1 n1 c1] (by go_simp) (rWire_any main a1 n1 c1 _ h1 (by exact S1.out.alloc _) m1) (by rintro e w' ⟨v, rfl, _⟩; exact ⟨v, rfl⟩) ?_; rintro v1 w1 ⟨_, he, hO1, hb1⟩; cases he; have r1 := RowAt.below (by exact HROW.out) hb1 (by simp <;> omega); have p1 : w1.cell? ⟨w.heap.size, 1, none⟩ = some (.slice a2 n2 c2) := r1.cell 1; have x0 : w1.cell? ⟨w.heap.size, 0, none⟩ = some (.slice a1 n1 c1) := r1.cell 0; have x1 : w1.cell? ⟨w.heap.size, 1, none⟩ = some (.slice a2 n2 c2) := r1.cell 1; have R1 := hide r1; have O1 := hide (OwnB.lower (base' := w.heap.size) hO1 (by simp <;> omega)); have z1 : w.heap.size <= w1.heap.size := Nat.le_trans (by simp <;> omega) hb1.size; have B1 := hide ((below_allocs HB0.out (Nat.le_refl _) (Or.inl rfl)).trans (hb1.mono (by simp <;> omega))); clear r1 hO1 hb1)
  | (refine step_fn 114 #[.tmp 8] _ rfl rfl #[.slice a2 n2 c2] (by go_simp) (rWire_any box a2 n2 c2 _ h2 (by exact S2.out.below B1.out (Nat.le_refl _)) m2) (by rintro e w' ⟨v, rfl, _⟩; exact ⟨v, rfl⟩) ?_; rintro v2 w2 ⟨_, he, hO2, hb2⟩; cases he; have R2 := hide (R1.out.below hb2 R1.out.lt); have x0 : w2.cell? ⟨w.heap.size, 0, none⟩ = some (.slice a1 n1 c1) := R2.out.cell 0; have x1 : w2.cell? ⟨w.heap.size, 1, none⟩ = some (.slice a2 n2 c2) := R2.out.cell 1; have OM := hide (O1.out.below hb2); obtain ⟨g9, c9, rfl, _, _, _, _, _⟩ := hO2.form (by simp [N.wire]); have S9 := hide hO2.sl; have z2 : w.heap.size <= w2.heap.size := Nat.le_trans z1 hb2.size; have B2 := hide (B1.out.trans (hb2.mono z1)); clear hO2 hb2)
  | (refine step_append_B rfl (.tmp 6) (.tmp 9) rfl w.heap.size v1 (N.wire main) (by simp [Act.eval]) (by exact OM.out) ⟨g9, 0, none⟩ (N.wire box).length c9 (N.wire box) (by simp [Act.eval]) rfl (by exact S9.out) (by have := HL1.out; have := HL2.out; omega) (by exact z2) ?_; intro v4 w4 hO4 hG4; have K4 := hide (Kp.grown OM.out hG4 z2); have O4 := hide hO4; have R4 := hide (K4.out.2 _ _ _ R2.out (by decide)); have x0 : w4.cell? ⟨w.heap.size, 0, none⟩ = some (.slice a1 n1 c1) := R4.out.cell 0; have x1 : w4.cell? ⟨w.heap.size, 1, none⟩ = some (.slice a2 n2 c2) := R4.out.cell 1; clear hG4 hO4)))
 all_goals
  have z4 : w.heap.size <= w4.heap.size := K4.out.size z2
  have B4 := hide (B2.out.trans K4.out.1)
  have R4 := hide (K4.out.2 _ _ _ R2.out (by decide))
  have L4 : Hid ((N.wire main ++ N.wire box).length <= 2000) := by have := HL1.out; have := HL2.out; show _ <= _; rw [List.length_append]; omega
  obtain ⟨q, hq⟩ : ∃ q, N.wire main ++ N.wire box = q := ⟨_, rfl⟩
  rw [hq] at O4 L4
  have HQ := hide hq
  clear hq
  have m2 : w4.cell? ⟨w.heap.size, 2, none⟩ = some (.int .u32 (a : Int)) := R4.out.cell 2
  have m3 : w4.cell? ⟨w.heap.size, 3, none⟩ = some (.int .u32 (b : Int)) := R4.out.cell 3
  have m4 : w4.cell? ⟨w.heap.size, 4, none⟩ = some (.int .u32 (c : Int)) := R4.out.cell 4
  have m5 : w4.cell? ⟨w.heap.size, 5, none⟩ = some (.int .u32 (d : Int)) := R4.out.cell 5
  have m6 : w4.cell? ⟨w.heap.size, 6, none⟩ = some (.int .u32 (e : Int)) := R4.out.cell 6
  clear R2 B2 K4 S9 OM R1 B1 O1
  go_wp2
  replace O4 : Hid (OwnB w4.drew w.heap.size v4 q) := hide (by exact O4.out)
  replace B4 := hide B4.out.drew
  replace R4 := hide R4.out.drew
  replace z4 : w.heap.size <= w4.drew.heap.size := z4
  go_region_held3 (fun w' => w'.cell? ⟨w.heap.size, 2, none⟩ = some (.int .u32 (a : Int)) /\ w'.cell? ⟨w.heap.size, 3, none⟩ = some (.int .u32 (b : Int)) /\ w'.cell? ⟨w.heap.size, 4, none⟩ = some (.int .u32 (c : Int)) /\ w'.cell? ⟨w.heap.size, 5, none⟩ = some (.int .u32 (d : Int)) /\ w'.cell? ⟨w.heap.size, 6, none⟩ = some (.int .u32 (e : Int))) ((first | (with_reducible exact ⟨m2, m3, m4, m5, m6⟩) | exact ⟨m2, m3, m4, m5, m6⟩)) ((first
   | (refine step_fn 144 #[.tmp 11, .tmp 13, .const (.int .i64 4)] _ rfl rfl #[v4, .int .u32 (a : Int), .int .i64 ((4 : Nat) : Int)] (by go_simp) (put_any a 4 (by omega) w.heap.size v4 (q) _ O4.out z4 (by have := L4.out; first | omega | (simp only [List.length_append, p32_len]; omega))) (by rintro e w' ⟨v, rfl, _⟩; exact ⟨v, rfl⟩) ?_; rintro v5 w5 ⟨_, he, hO5, hK5⟩; cases he; have z5 : w.heap.size <= w5.heap.size := hK5.size z4; have B5 := hide (B4.out.trans hK5.1); have R5 := hide (hK5.2 _ _ _ R4.out (by decide)); rw [D.put_4] at hO5; have O5 := hide hO5; obtain ⟨m2, m3, m4, m5, m6⟩ := cls23456 R5.out; clear hO5 hK5)
   | (refine step_fn 144 #[.tmp 14, .tmp 16, .const (.int .i64 4)] _ rfl rfl #[v5, .int .u32 (b : Int), .int .i64 ((4 : Nat) : Int)] (by go_simp) (put_any b 4 (by omega) w.heap.size v5 (q ++ D.p32 a) _ O5.out z5 (by have := L4.out; first | omega | (simp only [List.length_append, p32_len]; omega))) (by rintro e w' ⟨v, rfl, _⟩; exact ⟨v, rfl⟩) ?_; rintro v6 w6 ⟨_, he, hO6, hK6⟩; cases he; have z6 : w.heap.size <= w6.heap.size := hK6.size z5; have B6 := hide (B5.out.trans hK6.1); have R6 := hide (hK6.2 _ _ _ R5.out (by decide)); rw [D.put_4] at hO6; have O6 := hide hO6; obtain ⟨m2, m3, m4, m5, m6⟩ := cls23456 R6.out; clear hO6 hK6)
   | (refine step_fn 144 #[.tmp 17, .tmp 19, .const (.int .i64 4)] _ rfl rfl #[v6, .int .u32 (c : Int), .int .i64 ((4 : Nat) : Int)] (by go_simp) (put_any c 4 (by omega) w.heap.size v6 (q ++ D.p32 a ++ D.p32 b) _ O6.out z6 (by have := L4.out; first | omega | (simp only [List.length_append, p32_len]; omega))) (by rintro e w' ⟨v, rfl, _⟩; exact ⟨v, rfl⟩) ?_; rintro v7 w7 ⟨_, he, hO7, hK7⟩; cases he; have z7 : w.heap.size <= w7.heap.size := hK7.size z6; have B7 := hide (B6.out.trans hK7.1); have R7 := hide (hK7.2 _ _ _ R6.out (by decide)); rw [D.put_4] at hO7; have O7 := hide hO7; obtain ⟨m2, m3, m4, m5, m6⟩ := cls23456 R7.out; clear hO7 hK7)
   | (refine step_fn 144 #[.tmp 20, .tmp 22, .const (.int .i64 4)] _ rfl rfl #[v7, .int .u32 (d : Int), .int .i64 ((4 : Nat) : Int)] (by go_simp) (put_any d 4 (by omega) w.heap.size v7 (q ++ D.p32 a ++ D.p32 b ++ D.p32 c) _ O7.out z7 (by have := L4.out; first | omega | (simp only [List.length_append, p32_len]; omega))) (by rintro e w' ⟨v, rfl, _⟩; exact ⟨v, rfl⟩) ?_; rintro v8 w8 ⟨_, he, hO8, hK8⟩; cases he; have z8 : w.heap.size <= w8.heap.size := hK8.size z7; have B8 := hide (B7.out.trans hK8.1); have R8 := hide (hK8.2 _ _ _ R7.out (by decide)); rw [D.put_4] at hO8; have O8 := hide hO8; obtain ⟨m2, m3, m4, m5, m6⟩ := cls23456 R8.out; clear hO8 hK8)
   | (refine step_fn 144 #[.tmp 23, .tmp 25, .const (.int .i64 4)] _ rfl rfl #[v8, .int .u32 (e : Int), .int .i64 ((4 : Nat) : Int)] (by go_simp) (put_any e 4 (by omega) w.heap.size v8 (q ++ D.p32 a ++ D.p32 b ++ D.p32 c ++ D.p32 d) _ O8.out z8 (by have := L4.out; first | omega | (simp only [List.length_append, p32_len]; omega))) (by rintro e w' ⟨v, rfl, _⟩; exact ⟨v, rfl⟩) ?_; rintro v9 w9 ⟨_, he, hO9, hK9⟩; cases he; have z9 : w.heap.size <= w9.heap.size := hK9.size z8; have B9 := hide (B8.out.trans hK9.1); have R9 := hide (hK9.2 _ _ _ R8.out (by decide)); rw [D.put_4] at hO9; have O9 := hide hO9; obtain ⟨m2, m3, m4, m5, m6⟩ := cls23456 R9.out; clear hO9 hK9)))
  all_goals
   go_wp2
   go_ret
   exact ⟨_, rfl, by rw [HQ.out]; exact O9.out, B9.out⟩
open Go.RowKit
theorem step_append_Bo {ops : Array Oper} {o : Oper} {a : Act} {w : World} {K : Act -> World -> Prop} {Q : Exit -> Act -> World -> Prop} {E : Prop} (hgd : o.guard = none) (s x : Operand)
 (ho : o.op = .call { callee := .builtin .append, args := #[s, x], argTypes := #[37, 37] }) (base : Nat) (v : Value) (l : List UInt8) (hs : a.eval s = v) (hown : OwnB w base v l)
 (ao : Option Addr) (m c : Nat) (l2 : List UInt8) (hx : a.eval x = .slice ao m c) (hm : l2.length = m) (hsrc : SlL w ao l2) (hnil : ao = none -> c = 0) (hbound : l.length + m <= 1099511627776) (hbase : base <= w.heap.size)
 (h : ∀ v' w', OwnB w' base v' (l ++ l2) -> w.grownBy w' v.ownBlock -> K (a.put o.dst v') w') : if Region.wanted o (yielded ops a.tmps) = true then Oper.wp Tryz.prog o a w K Q else E := by
 cases ao with
 | some ad => exact step_append_B hgd s x ho base v l hs hown ad m c l2 hx hm hsrc hbound hbase h
 | none =>
  subst hm
  have h0 : l2.length = 0 := by
   rcases Nat.eq_zero_or_pos l2.length with h | h
   ·exact h
   ·obtain ⟨b, o, e, _⟩ := hsrc h; cases e
  obtain rfl : l2 = [] := List.eq_nil_of_length_eq_zero h0
  obtain rfl := hnil rfl
  obtain ⟨i0, hi, _, _, _⟩ := info_parts infoB
  have hw : Region.wanted o (yielded ops a.tmps) = true := by simp [Region.wanted, hgd]
  rw [if_pos hw]
  have hrun := run_append_owned_none (P := Tryz.prog) (w := w) base 37 o.type 5 i0 1 Tryz.underlying37 hi v l.length (vb l) hown
  unfold Oper.wp
  simp [execOp, ho, resolve, invoke, builtin, hs, hx, hrun, Result.andThen]
  exact h v w (by rw [List.append_nil]; exact hown) ⟨rfl, rfl, rfl, Nat.le_refl _, fun _ _ _ => rfl⟩
set_option maxHeartbeats 3200000 in
theorem sSigBytes_any (s : D.Sig) (a1 a2 : Option Addr) (n1 c1 n2 c2 : Nat) (w : World) (h1 : Hid (s.signer.length = n1)) (h2 : Hid (s.sig.length = n2)) (hs1 : SlS w a1 s.signer) (hs2 : SlL w a2 s.sig) (hnil : a2 = none -> c2 = 0) (hz1 : N.size s.signer <= 1000) (hz2 : n2 <= 100000)
 (ht : s.type < 65536) (ha : s.alg < 256) (hb : s.labels < 256) (hc : s.ttl < 4294967296) (hd : s.expire < 4294967296) (he : s.begin_ < 4294967296) (hg : s.tag < 65536) :
 Calls Tryz.prog 163 #[.agg #[.int .u16 (s.type : Int), .int .u8 (s.alg : Int), .int .u8 (s.labels : Int), .int .u32 (s.ttl : Int), .int .u32 (s.expire : Int), .int .u32 (s.begin_ : Int), .int .u16 (s.tag : Int), .slice a1 n1 c1, .slice a2 n2 c2]] w fun e w' => ∃ v', e = .returned v' /\ OwnB w' w.heap.size v' (D.sigB s) /\ Below w.heap.size w w' := by
 have S1 := hide hs1
 have S2 := hide hs2
 have NI := hide hnil
 have m1' := hide (small_of hz1)
 have l1 := N.wire_len s.signer
 clear hs1 hs2 hnil
 unfold D.sigB
 obtain ⟨type, alg, labels, ttl, expire, begin_, tag, signer, sig⟩ := s
 simp only at h1 h2 S1 S2 m1' l1 hz1 ht ha hb hc hd he hg ⊢
 have q1 : (alg : Int) = ((UInt8.ofNat alg).toNat : Int) := by rw [D.nat_u8 _ ha]
 have q2 : (labels : Int) = ((UInt8.ofNat labels).toNat : Int) := by rw [D.nat_u8 _ hb]
 rw [q1, q2]
 clear q1 q2
 generalize UInt8.ofNat alg = x
 generalize UInt8.ofNat labels = y
 have R0 := hide (RowAt.new w 177 #[.int .u16 (type : Int), .int .u8 (x.toNat : Int), .int .u8 (y.toNat : Int), .int .u32 (ttl : Int), .int .u32 (expire : Int), .int .u32 (begin_ : Int), .int .u16 (tag : Int), .slice a1 n1 c1, .slice a2 n2 c2])
 have B0 := hide ((Below.refl w.heap.size w).alloc (Nat.le_refl _) (.cells #[.int .u16 (type : Int), .int .u8 (x.toNat : Int), .int .u8 (y.toNat : Int), .int .u32 (ttl : Int), .int .u32 (expire : Int), .int .u32 (begin_ : Int), .int .u16 (tag : Int), .slice a1 n1 c1, .slice a2 n2 c2] 177))
 have HL1 : Hid ((N.wire signer).length <= 1000) := by show _ <= _; omega
 clear l1
 go_enter Tryz.func163, Tryz.ntmps163
 go_wp2
 have m0 : (w.alloc (.cells #[.int .u16 (type : Int), .int .u8 (x.toNat : Int), .int .u8 (y.toNat : Int), .int .u32 (ttl : Int), .int .u32 (expire : Int), .int .u32 (begin_ : Int), .int .u16 (tag : Int), .slice a1 n1 c1, .slice a2 n2 c2] 177)).cell? ⟨w.heap.size, 0, none⟩ = some (.int .u16 (type : Int)) := R0.out.cell 0
 have m1 : (w.alloc (.cells #[.int .u16 (type : Int), .int .u8 (x.toNat : Int), .int .u8 (y.toNat : Int), .int .u32 (ttl : Int), .int .u32 (expire : Int), .int .u32 (begin_ : Int), .int .u16 (tag : Int), .slice a1 n1 c1, .slice a2 n2 c2] 177)).cell? ⟨w.heap.size, 1, none⟩ = some (.int .u8 (x.toNat : Int)) := R0.out.cell 1
 have m2 : (w.alloc (.cells #[.int .u16 (type : Int), .int .u8 (x.toNat : Int), .int .u8 (y.toNat : Int), .int .u32 (ttl : Int), .int .u32 (expire : Int), .int .u32 (begin_ : Int), .int .u16 (tag : Int), .slice a1 n1 c1, .slice a2 n2 c2] 177)).cell? ⟨w.heap.size, 2, none⟩ = some (.int .u8 (y.toNat : Int)) := R0.out.cell 2
 have hwt : IntKind.u32.wrap (type : Int) = (type : Int) := by rw [IntKind.wrap_u32]; omega
 have hwg : IntKind.u32.wrap (tag : Int) = (tag : Int) := by rw [IntKind.wrap_u32]; omega
 go_region_held3 (fun w' => w'.cell? ⟨w.heap.size, 0, none⟩ = some (.int .u16 (type : Int)) /\ w'.cell? ⟨w.heap.size, 1, none⟩ = some (.int .u8 (x.toNat : Int)) /\ w'.cell? ⟨w.heap.size, 2, none⟩ = some (.int .u8 (y.toNat : Int))) ((first | (with_reducible exact ⟨m0, m1, m2⟩) | exact ⟨m0, m1, m2⟩ | exact ⟨(R1.out.alloc _).cell 0, (R1.out.alloc _).cell 1, (R1.out.alloc _).cell 2⟩ | exact ⟨(R0.out.alloc _).cell 0, (R0.out.alloc _).cell 1, (R0.out.alloc _).cell 2⟩)) ((first
  | (refine step_fn 144 #[.const (.slice none 0 0), .tmp 6, .const (.int .i64 2)] _ rfl rfl #[.slice none 0 0, .int .u32 (type : Int), .int .i64 ((2 : Nat) : Int)] (by go_simp) (put_any type 2 (by omega) _ (.slice none 0 0) [] _ (OwnB.nil _ _) (Nat.le_refl _) (by simp)) (by rintro e w' ⟨v, rfl, _⟩; exact ⟨v, rfl⟩) ?_; rintro v1 w1 ⟨_, he, hO1, hK1⟩; cases he; have R1 := hide (RowAt.below (by exact R0.out) hK1.1 (by simp <;> omega)); have B1 := hide ((below_allocs B0.out (Nat.le_refl _) (Or.inl rfl)).trans (hK1.1.mono (by simp <;> omega))); have z1 : w.heap.size <= w1.heap.size := Nat.le_trans (by simp <;> omega) hK1.1.size; rw [D.put_2, List.nil_append] at hO1; have O1 := hide (OwnB.lower (base' := w.heap.size) hO1 (by simp <;> omega)); obtain ⟨m0, m1, m2⟩ := cls012 R1.out; clear hO1 hK1)
  | (refine step_fn 144 #[.const (.slice none 0 0), .tmp 6, .const (.int .i64 2)] _ rfl rfl #[.slice none 0 0, .int .u32 (type : Int), .int .i64 ((2 : Nat) : Int)] (by go_simp) (put_any type 2 (by omega) _ (.slice none 0 0) [] _ (OwnB.nil _ _) (Nat.le_refl _) (by simp)) (by rintro e w' ⟨v, rfl, _⟩; exact ⟨v, rfl⟩) ?_; rintro v1 w1 ⟨_, he, hO1, hK1⟩; cases he; have R1 := hide (RowAt.below (by exact R0.out.alloc _) hK1.1 (by simp <;> omega)); have B1 := hide ((below_allocs B0.out (Nat.le_refl _) (Or.inr ⟨_, rfl⟩)).trans (hK1.1.mono (by simp <;> omega))); have sl := SlL.below (by exact SlL.litm (w.alloc (.cells #[.int .u16 (type : Int), .int .u8 (x.toNat : Int), .int .u8 (y.toNat : Int), .int .u32 (ttl : Int), .int .u32 (expire : Int), .int .u32 (begin_ : Int), .int .u16 (tag : Int), .slice a1 n1 c1, .slice a2 n2 c2] 177)) [x, y] _ 5 (0, 0) rfl) hK1.1 (Nat.le_refl _); rw [show (w.alloc (.cells #[.int .u16 (type : Int), .int .u8 (x.toNat : Int), .int .u8 (y.toNat : Int), .int .u32 (ttl : Int), .int .u32 (expire : Int), .int .u32 (begin_ : Int), .int .u16 (tag : Int), .slice a1 n1 c1, .slice a2 n2 c2] 177)).heap.size = w.heap.size + 1 by simp] at sl; have SL := hide sl; clear sl; have z1 : w.heap.size <= w1.heap.size := Nat.le_trans (by simp <;> omega) hK1.1.size; rw [D.put_2, List.nil_append] at hO1; have O1 := hide (OwnB.lower (base' := w.heap.size) hO1 (by simp <;> omega)); obtain ⟨m0, m1, m2⟩ := cls012 R1.out; clear hO1 hK1)
  | (refine step_append_B rfl (.tmp 7) (.tmp 12) rfl w.heap.size v1 (D.p16 type) (by simp [Act.eval]) (by exact O1.out.alloc _) ⟨w1.heap.size, 0, none⟩ 2 2 [x, y] (by simp [Act.eval]) rfl (by exact SlL.litm w1 [x, y] _ 5 (0, 0) rfl) (by simp [p16_len]) (by simp; omega) ?_; intro v2 w2 hO2 hG2; have K2 := hide (Kp.app O1.out hG2 z1); have z2 : w.heap.size <= w2.heap.size := K2.out.size z1; have B2 := hide (B1.out.trans K2.out.1); have R2 := hide (K2.out.2 _ _ _ R1.out (by decide)); have O2 := hide hO2; obtain ⟨m0, m1, m2⟩ := cls012 R2.out; clear hG2 hO2)
  | (refine step_append_B rfl (.tmp 7) (.tmp 12) rfl w.heap.size v1 (D.p16 type) (by simp [Act.eval]) (by exact O1.out) _ 2 2 [x, y] (by simp [Act.eval]; rfl) rfl (by exact SL.out) (by simp [p16_len]) z1 ?_; intro v2 w2 hO2 hG2; have K2 := hide (Kp.grown O1.out hG2 z1); have z2 : w.heap.size <= w2.heap.size := K2.out.size z1; have B2 := hide (B1.out.trans K2.out.1); have R2 := hide (K2.out.2 _ _ _ R1.out (by decide)); have O2 := hide hO2; obtain ⟨m0, m1, m2⟩ := cls012 R2.out; clear hG2 hO2)))
 all_goals
  clear B0 R0 B1 R1 O1 m0 m1 m2 K2
  try clear SL
  have L2 : Hid ((D.p16 type ++ [x, y]).length <= 4) := by show _ <= _; simp [p16_len]
  obtain ⟨q, hq⟩ : ∃ q, D.p16 type ++ [x, y] = q := ⟨_, rfl⟩
  rw [hq] at O2 L2
  have HQ := hide hq
  clear hq
  go_wp2
  replace O2 : Hid (OwnB w2.drew w.heap.size v2 q) := hide (by exact O2.out)
  replace B2 := hide B2.out.drew
  replace R2 := hide R2.out.drew
  replace z2 : w.heap.size <= w2.drew.heap.size := z2
  have m3 : w2.drew.cell? ⟨w.heap.size, 3, none⟩ = some (.int .u32 (ttl : Int)) := R2.out.cell 3
  have m4 : w2.drew.cell? ⟨w.heap.size, 4, none⟩ = some (.int .u32 (expire : Int)) := R2.out.cell 4
  have m5 : w2.drew.cell? ⟨w.heap.size, 5, none⟩ = some (.int .u32 (begin_ : Int)) := R2.out.cell 5
  go_region_held3 (fun w' => w'.cell? ⟨w.heap.size, 3, none⟩ = some (.int .u32 (ttl : Int)) /\ w'.cell? ⟨w.heap.size, 4, none⟩ = some (.int .u32 (expire : Int)) /\ w'.cell? ⟨w.heap.size, 5, none⟩ = some (.int .u32 (begin_ : Int))) ((first | (with_reducible exact ⟨m3, m4, m5⟩) | exact ⟨m3, m4, m5⟩)) ((first
   | (refine step_fn 144 #[.tmp 14, .tmp 16, .const (.int .i64 4)] _ rfl rfl #[v2, .int .u32 (ttl : Int), .int .i64 ((4 : Nat) : Int)] (by go_simp) (put_any ttl 4 (by omega) w.heap.size v2 (q) _ O2.out z2 (by have := L2.out; first | omega | (simp only [List.length_append, p32_len]; omega))) (by rintro e w' ⟨v, rfl, _⟩; exact ⟨v, rfl⟩) ?_; rintro v3 w3 ⟨_, he, hO3, hK3⟩; cases he; have z3 : w.heap.size <= w3.heap.size := hK3.size z2; have B3 := hide (B2.out.trans hK3.1); have R3 := hide (hK3.2 _ _ _ R2.out (by decide)); rw [D.put_4] at hO3; have O3 := hide hO3; obtain ⟨m3, m4, m5⟩ := cls345 R3.out; clear hO3 hK3)
   | (refine step_fn 144 #[.tmp 17, .tmp 19, .const (.int .i64 4)] _ rfl rfl #[v3, .int .u32 (expire : Int), .int .i64 ((4 : Nat) : Int)] (by go_simp) (put_any expire 4 (by omega) w.heap.size v3 (q ++ D.p32 ttl) _ O3.out z3 (by have := L2.out; first | omega | (simp only [List.length_append, p32_len]; omega))) (by rintro e w' ⟨v, rfl, _⟩; exact ⟨v, rfl⟩) ?_; rintro v4 w4 ⟨_, he, hO4, hK4⟩; cases he; have z4 : w.heap.size <= w4.heap.size := hK4.size z3; have B4 := hide (B3.out.trans hK4.1); have R4 := hide (hK4.2 _ _ _ R3.out (by decide)); rw [D.put_4] at hO4; have O4 := hide hO4; obtain ⟨m3, m4, m5⟩ := cls345 R4.out; clear hO4 hK4)
   | (refine step_fn 144 #[.tmp 20, .tmp 22, .const (.int .i64 4)] _ rfl rfl #[v4, .int .u32 (begin_ : Int), .int .i64 ((4 : Nat) : Int)] (by go_simp) (put_any begin_ 4 (by omega) w.heap.size v4 (q ++ D.p32 ttl ++ D.p32 expire) _ O4.out z4 (by have := L2.out; first | omega | (simp only [List.length_append, p32_len]; omega))) (by rintro e w' ⟨v, rfl, _⟩; exact ⟨v, rfl⟩) ?_; rintro v5 w5 ⟨_, he, hO5, hK5⟩; cases he; have z5 : w.heap.size <= w5.heap.size := hK5.size z4; have B5 := hide (B4.out.trans hK5.1); have R5 := hide (hK5.2 _ _ _ R4.out (by decide)); rw [D.put_4] at hO5; have O5 := hide hO5; obtain ⟨m3, m4, m5⟩ := cls345 R5.out; clear hO5 hK5)))
  all_goals
   clear B2 R2 O2 B3 R3 O3 B4 R4 O4 m3 m4 m5
   have L5 : Hid ((q ++ D.p32 ttl ++ D.p32 expire ++ D.p32 begin_).length <= 16) := by have := L2.out; show _ <= _; simp only [List.length_append, p32_len]; omega
   obtain ⟨q5, hq5⟩ : ∃ q5, q ++ D.p32 ttl ++ D.p32 expire ++ D.p32 begin_ = q5 := ⟨_, rfl⟩
   rw [hq5] at O5 L5
   have HQ5 := hide hq5
   clear hq5
   go_wp2
   replace O5 : Hid (OwnB w5.drew w.heap.size v5 q5) := hide (by exact O5.out)
   replace B5 := hide B5.out.drew
   replace R5 := hide R5.out.drew
   replace z5 : w.heap.size <= w5.drew.heap.size := z5
   have m6 : w5.drew.cell? ⟨w.heap.size, 6, none⟩ = some (.int .u16 (tag : Int)) := R5.out.cell 6
   have m7 : w5.drew.cell? ⟨w.heap.size, 7, none⟩ = some (.slice a1 n1 c1) := R5.out.cell 7
   have m8 : w5.drew.cell? ⟨w.heap.size, 8, none⟩ = some (.slice a2 n2 c2) := R5.out.cell 8
   go_region_held3 (fun w' => w'.cell? ⟨w.heap.size, 6, none⟩ = some (.int .u16 (tag : Int)) /\ w'.cell? ⟨w.heap.size, 7, none⟩ = some (.slice a1 n1 c1) /\ w'.cell? ⟨w.heap.size, 8, none⟩ = some (.slice a2 n2 c2)) ((first | (with_reducible exact ⟨m6, m7, m8⟩) | exact ⟨m6, m7, m8⟩)) ((first
    | (refine step_fn 144 #[.tmp 24, .tmp 27, .const (.int .i64 2)] _ rfl rfl #[v5, .int .u32 (tag : Int), .int .i64 ((2 : Nat) : Int)] (by go_simp) (put_any tag 2 (by omega) w.heap.size v5 q5 _ O5.out z5 (by have := L5.out; omega)) (by rintro e w' ⟨v, rfl, _⟩; exact ⟨v, rfl⟩) ?_; rintro v6 w6 ⟨_, he, hO6, hK6⟩; cases he; have z6 : w.heap.size <= w6.heap.size := hK6.size z5; have B6 := hide (B5.out.trans hK6.1); have R6 := hide (hK6.2 _ _ _ R5.out (by decide)); rw [D.put_2] at hO6; have O6 := hide hO6; obtain ⟨m6, m7, m8⟩ := cls678 R6.out; clear hO6 hK6)
    | (refine step_fn 114 #[.tmp 30] _ rfl rfl #[.slice a1 n1 c1] (by go_simp) (rWire_any signer a1 n1 c1 _ h1 (S1.out.below B6.out (Nat.le_refl _)) m1') (by rintro e w' ⟨v, rfl, _⟩; exact ⟨v, rfl⟩) ?_; rintro v7 w7 ⟨_, he, hO7, hb7⟩; cases he; have R7 := hide (R6.out.below hb7 R6.out.lt); have OM := hide (O6.out.below hb7); obtain ⟨g9, c9, rfl, _, _, _, _, _⟩ := hO7.form (by simp [N.wire]); have S9 := hide hO7.sl; have z7 : w.heap.size <= w7.heap.size := Nat.le_trans z6 hb7.size; have B7 := hide (B6.out.trans (hb7.mono z6)); obtain ⟨m6, m7, m8⟩ := cls678 R7.out; clear hO7 hb7)
    | (refine step_append_B rfl (.tmp 28) (.tmp 31) rfl w.heap.size v6 (q5 ++ D.p16 tag) (by simp [Act.eval]) OM.out ⟨g9, 0, none⟩ (N.wire signer).length c9 (N.wire signer) (by simp [Act.eval]) rfl S9.out (by have := HL1.out; have := L5.out; simp only [List.length_append, p16_len]; omega) z7 ?_; intro v8 w8 hO8 hG8; have K8 := hide (Kp.grown OM.out hG8 z7); have z8 : w.heap.size <= w8.heap.size := K8.out.size z7; have B8 := hide (B7.out.trans K8.out.1); have R8 := hide (K8.out.2 _ _ _ R7.out (by decide)); have O8 := hide hO8; obtain ⟨m6, m7, m8⟩ := cls678 R8.out; clear hG8 hO8)
    | (refine step_append_Bo rfl (.tmp 32) (.tmp 34) rfl w.heap.size v8 (q5 ++ D.p16 tag ++ N.wire signer) (by simp [Act.eval]) O8.out a2 n2 c2 sig (by simp [Act.eval]) h2.out (S2.out.below B8.out (Nat.le_refl _)) NI.out (by have := HL1.out; have := L5.out; simp only [List.length_append, p16_len]; omega) z8 ?_; intro v9 w9 hO9 hG9; have K9 := hide (Kp.grown O8.out hG9 z8); have B9 := hide (B8.out.trans K9.out.1); have R9 := hide (K9.out.2 _ _ _ R8.out (by decide)); have O9 := hide hO9; obtain ⟨m6, m7, m8⟩ := cls678 R9.out; clear hG9 hO9)))
   all_goals
    go_wp2
    go_ret
    exact ⟨_, rfl, by rw [HQ.out, HQ5.out]; exact O9.out, B9.out⟩
open Go.RowKit
namespace D
theorem nm_inv {b r : List UInt8} {n : List (List UInt8)} (h : nm b = some (n, r)) : N.opn b = some n /\ N.size n <= 255 := by
 unfold nm at h
 rw [Option.bind_eq_some_iff] at h
 obtain ⟨m, h1, h⟩ := h
 split at h
 ·rename_i hz; cases h; exact ⟨h1, hz⟩
 ·cases h
theorem small_inv {b x r : List UInt8} (h : small b = some (x, r)) : ∃ n, nm b = some (n, r) /\ x = N.wire (N.lowN n) := by
 unfold small at h
 rw [Option.map_eq_some_iff] at h
 obtain ⟨⟨n, q⟩, h1, h2⟩ := h
 cases h2
 exact ⟨n, h1, rfl⟩
theorem by_inv {k : Nat} {b x r : List UInt8} (h : by_ k b = some (x, r)) : k <= b.length /\ x = b.take k /\ r = b.drop k := by
 unfold by_ at h
 split at h
 ·cases h
 ·cases h; exact ⟨by omega, rfl, rfl⟩
theorem can_plain {t : Nat} {b x : List UInt8} (h2 : t ≠ 2) (h5 : t ≠ 5) (h15 : t ≠ 15) (h6 : t ≠ 6) (h46 : t ≠ 46) (h : can t b = some (x, [])) : x = b := by
 by_cases h1 : t = 1
 ·subst h1; have := (by_back (show by_ 4 b = some (x, []) from h)).1; rw [List.append_nil] at this; exact this.symm
 by_cases h28 : t = 28
 ·subst h28; have := (by_back (show by_ 16 b = some (x, []) from h)).1; rw [List.append_nil] at this; exact this.symm
 by_cases h16 : t = 16
 ·subst h16
  have h : txt b = some (x, []) := h
  unfold txt at h
  split at h
  ·cases h; rfl
  ·cases h
 by_cases h43 : t = 43
 ·subst h43
  have h : ((by_ 5 b).map fun p => (p.1 ++ p.2, [])) = some (x, []) := h
  rw [Option.map_eq_some_iff] at h
  obtain ⟨⟨p, q⟩, g1, g2⟩ := h
  cases g2
  exact (by_back g1).1.symm
 by_cases h48 : t = 48
 ·subst h48
  have h : ((key b).map fun p => (keyB p.1, p.2)) = some (x, []) := h
  rw [Option.map_eq_some_iff] at h
  obtain ⟨⟨p, q⟩, g1, g2⟩ := h
  cases g2
  have := (key_back g1).1
  rw [List.append_nil] at this; exact this.symm
 by_cases h50 : t = 50
 ·subst h50
  have h : ((chain b).map fun p => (chainB p.1, p.2)) = some (x, []) := h
  rw [Option.map_eq_some_iff] at h
  obtain ⟨⟨p, q⟩, g1, g2⟩ := h
  cases g2
  have := (chain_back g1).1
  rw [List.append_nil] at this; exact this.symm
 by_cases h51 : t = 51
 ·subst h51
  have h : ((by_ 4 b).bind fun p => (cnt p.2).map fun q => (p.1 ++ pc q.1, q.2)) = some (x, []) := h
  rw [Option.bind_eq_some_iff] at h
  obtain ⟨⟨p, q⟩, g1, g2⟩ := h
  rw [Option.map_eq_some_iff] at g2
  obtain ⟨⟨p2, q2⟩, g3, g4⟩ := g2
  cases g4
  have e1 := (by_back g1).1
  have e2 := (cnt_back g3).1
  simp only at e2
  rw [List.append_nil] at e2
  rw [e1, e2]
 have e : can t b = some (b, []) := by simp [can, h1, h28, h2, h5, h15, h6, h16, h43, h46, h48, h50, h51]
 rw [e] at h
 cases h; rfl
end D
theorem rOpen_nm (b : List UInt8) (ao : Option Addr) (len cap : Nat) (w : World) (hl : Hid (b.length = len)) (hs : SlL w ao b) (hm : len <= 1000000000) (hcap : len <= cap) {n : List (List UInt8)} {r : List UInt8} (h : D.nm b = some (n, r)) :
 Calls Tryz.prog 143 #[.slice ao len cap] w fun e w' => ∃ a c, e = .returned (.tuple #[.slice a n.length c, .int .i64 (N.size n : Int), .int .i64 0]) /\ OwnS w' w.heap.size (.slice a n.length c) n /\ Below w.heap.size w w' := by
 obtain ⟨h1, h2⟩ := D.nm_inv h
 refine (rOpen_any b ao len cap w hl hs hm hcap).mono ?_
 rintro e w1 ⟨⟨m, v, hn, hz, rfl, hO⟩ | ⟨hn, rfl⟩ | ⟨m, hn, hz, rfl⟩, hb⟩
 ·rw [h1] at hn; cases hn
  obtain ⟨a, c, rfl, _⟩ := hO.open
  exact ⟨a, c, rfl, hO, hb⟩
 ·rw [h1] at hn; cases hn
 ·rw [h1] at hn; cases hn; omega
set_option maxHeartbeats 800000 in
theorem rcan_2 (b : List UInt8) (ao : Option Addr) (len cap : Nat) (w : World) (hl : Hid (b.length = len)) (hs : SlL w ao b) (hc : len <= cap) (hnil : ao = none -> cap = 0) (h8 : len <= 8192) :
 Calls Tryz.prog 127 #[.int .u16 2, .slice ao len cap] w fun e w' => Ans (D.full b (D.can 2 b)) BytesV (.slice none 0 0) w e w' := by
 have HS := hide hs
 have NI := hide hnil
 cases hx : D.full b (D.can 2 b) with
 | none =>
  have HC : Hid (codeOf (D.full b (D.can 2 b)) = 50) := by show _ = _; rw [hx]; rfl
  clear hs hnil
  go_enter Tryz.func127, Tryz.ntmps127
  go_wp2_with fail
  refine (chk_2 b ao len cap _ hl (by exact HS.out) hc NI.out h8).mono ?_
  rintro e w1 ⟨rfl, hb1⟩
  rw [HC.out]
  go_wp2
  go_ret2
  exact ⟨Or.inr ⟨rfl, rfl⟩, hb1⟩
 | some x =>
  have HC : Hid (codeOf (D.full b (D.can 2 b)) = 0) := by show _ = _; rw [hx]; rfl
  have hx2 := (D.full_iff.1 hx).2
  obtain ⟨n, hn, rfl⟩ := D.small_inv (show D.small b = some (x, []) from hx2)
  have hg := (D.nm_back hn).2
  have hz : N.size (N.lowN n) <= 1000 := by rw [D.size_low]; have := hg.2.2; omega
  have m1 := hide (good_small hg)
  have m2 := hide (small_of hz)
  have HN := hide hn
  clear hs hnil hn hg hx2 hx
  go_enter Tryz.func127, Tryz.ntmps127
  go_wp2_with fail
  refine (chk_2 b _ len cap _ hl (by exact HS.out) hc NI.out h8).mono ?_
  rintro e w1 ⟨rfl, hb1⟩
  rw [HC.out]
  have B1 := hide hb1
  clear hb1
  go_wp2_with fail
  refine (rOpen_nm b _ len cap _ hl (by exact HS.out.below B1.out (Nat.le_refl _)) (by omega) hc HN.out).mono ?_
  rintro e w2 ⟨a3, c3, rfl, hO, hb2⟩
  have B2 := hide (B1.out.trans (hb2.mono B1.out.size))
  have S2 := hide hO.sl
  clear hO hb2 B1
  go_wp2_with fail
  refine (rLower_any n a3 n.length c3 _ rfl (by exact S2.out) m1).mono ?_
  rintro e w3 ⟨v3, rfl, hO3, hb3⟩
  obtain ⟨a4, c4, rfl, hs4, _⟩ := hO3.open
  have B3 := hide (B2.out.trans (hb3.mono B2.out.size))
  have S4 := hide hs4
  clear hO3 hb3 hs4 B2
  go_wp2_with fail
  refine (rWire_any (N.lowN n) a4 (N.lowN n).length c4 _ rfl (by exact S4.out) m2).mono ?_
  rintro e w4 ⟨v4, rfl, hO4, hb4⟩
  go_wp2
  go_ret2
  exact ⟨Or.inl ⟨_, _, rfl, rfl, hO4.lower B3.out.size⟩, B3.out.trans (hb4.mono B3.out.size)⟩
set_option maxHeartbeats 800000 in
theorem rcan_5 (b : List UInt8) (ao : Option Addr) (len cap : Nat) (w : World) (hl : Hid (b.length = len)) (hs : SlL w ao b) (hc : len <= cap) (hnil : ao = none -> cap = 0) (h8 : len <= 8192) :
 Calls Tryz.prog 127 #[.int .u16 5, .slice ao len cap] w fun e w' => Ans (D.full b (D.can 5 b)) BytesV (.slice none 0 0) w e w' := by
 have HS := hide hs
 have NI := hide hnil
 cases hx : D.full b (D.can 5 b) with
 | none =>
  have HC : Hid (codeOf (D.full b (D.can 5 b)) = 50) := by show _ = _; rw [hx]; rfl
  clear hs hnil
  go_enter Tryz.func127, Tryz.ntmps127
  go_wp2_with fail
  refine (chk_5 b ao len cap _ hl (by exact HS.out) hc NI.out h8).mono ?_
  rintro e w1 ⟨rfl, hb1⟩
  rw [HC.out]
  go_wp2
  go_ret2
  exact ⟨Or.inr ⟨rfl, rfl⟩, hb1⟩
 | some x =>
  have HC : Hid (codeOf (D.full b (D.can 5 b)) = 0) := by show _ = _; rw [hx]; rfl
  have hx2 := (D.full_iff.1 hx).2
  obtain ⟨n, hn, rfl⟩ := D.small_inv (show D.small b = some (x, []) from hx2)
  have hg := (D.nm_back hn).2
  have hz : N.size (N.lowN n) <= 1000 := by rw [D.size_low]; have := hg.2.2; omega
  have m1 := hide (good_small hg)
  have m2 := hide (small_of hz)
  have HN := hide hn
  clear hs hnil hn hg hx2 hx
  go_enter Tryz.func127, Tryz.ntmps127
  go_wp2_with fail
  refine (chk_5 b _ len cap _ hl (by exact HS.out) hc NI.out h8).mono ?_
  rintro e w1 ⟨rfl, hb1⟩
  rw [HC.out]
  have B1 := hide hb1
  clear hb1
  go_wp2_with fail
  refine (rOpen_nm b _ len cap _ hl (by exact HS.out.below B1.out (Nat.le_refl _)) (by omega) hc HN.out).mono ?_
  rintro e w2 ⟨a3, c3, rfl, hO, hb2⟩
  have B2 := hide (B1.out.trans (hb2.mono B1.out.size))
  have S2 := hide hO.sl
  clear hO hb2 B1
  go_wp2_with fail
  refine (rLower_any n a3 n.length c3 _ rfl (by exact S2.out) m1).mono ?_
  rintro e w3 ⟨v3, rfl, hO3, hb3⟩
  obtain ⟨a4, c4, rfl, hs4, _⟩ := hO3.open
  have B3 := hide (B2.out.trans (hb3.mono B2.out.size))
  have S4 := hide hs4
  clear hO3 hb3 hs4 B2
  go_wp2_with fail
  refine (rWire_any (N.lowN n) a4 (N.lowN n).length c4 _ rfl (by exact S4.out) m2).mono ?_
  rintro e w4 ⟨v4, rfl, hO4, hb4⟩
  go_wp2
  go_ret2
  exact ⟨Or.inl ⟨_, _, rfl, rfl, hO4.lower B3.out.size⟩, B3.out.trans (hb4.mono B3.out.size)⟩
set_option maxHeartbeats 800000 in
theorem rcan_15 (b : List UInt8) (ao : Option Addr) (len cap : Nat) (w : World) (hl : Hid (b.length = len)) (hs : SlL w ao b) (hc : len <= cap) (hnil : ao = none -> cap = 0) (h8 : len <= 8192) :
 Calls Tryz.prog 127 #[.int .u16 15, .slice ao len cap] w fun e w' => Ans (D.full b (D.can 15 b)) BytesV (.slice none 0 0) w e w' := by
 have HS := hide hs
 have NI := hide hnil
 cases hx : D.full b (D.can 15 b) with
 | none =>
  have HC : Hid (codeOf (D.full b (D.can 15 b)) = 50) := by show _ = _; rw [hx]; rfl
  clear hs hnil
  go_enter Tryz.func127, Tryz.ntmps127
  go_wp2_with fail
  refine (chk_15 b ao len cap _ hl (by exact HS.out) hc NI.out h8).mono ?_
  rintro e w1 ⟨rfl, hb1⟩
  rw [HC.out]
  go_wp2
  go_ret2
  exact ⟨Or.inr ⟨rfl, rfl⟩, hb1⟩
 | some x =>
  have HC : Hid (codeOf (D.full b (D.can 15 b)) = 0) := by show _ = _; rw [hx]; rfl
  have hx2 := (D.full_iff.1 hx).2
  have hq : ((D.by_ 2 b).bind fun p => (D.small p.2).map fun q => (p.1 ++ q.1, q.2)) = some (x, []) := hx2
  rw [Option.bind_eq_some_iff] at hq
  obtain ⟨⟨p, q⟩, hp, hq⟩ := hq
  obtain ⟨k2, rfl, rfl⟩ := D.by_inv hp
  rw [Option.map_eq_some_iff] at hq
  obtain ⟨⟨y, r⟩, hy, he⟩ := hq
  simp only at he hy
  obtain ⟨n, hn, rfl⟩ := D.small_inv hy
  cases he
  have hg := (D.nm_back hn).2
  have hz : N.size (N.lowN n) <= 1000 := by rw [D.size_low]; have := hg.2.2; omega
  have HW := hide (N.wire_len (N.lowN n))
  have m1 := hide (good_small hg)
  have m2 := hide (small_of hz)
  have hlen := hl.out
  have hne : 0 < b.length := by omega
  obtain ⟨blk, o, rfl, hblt, hcell⟩ := hs hne
  obtain ⟨ad1, r1, s1⟩ := cut_hd 2 hs hl.out (by omega) hc
  obtain ⟨ad2, r2, s2⟩ := cut_tl 2 hs hl.out (by omega) hc
  replace r1 : ∀ W, (Instr.slice 37 (.slice (some ⟨blk, o, none⟩) len cap) none (some (.int .i64 2)) none).run Tryz.prog W = .ok (.slice (some ad1) 2 cap) W := r1
  replace r2 : ∀ W, (Instr.slice 37 (.slice (some ⟨blk, o, none⟩) len cap) (some (.int .i64 2)) none none).run Tryz.prog W = .ok (.slice (some ad2) (len - 2) (cap - 2)) W := r2
  have S1 := hide s1
  have S2 := hide s2
  have HN := hide hn
  have hd : Hid ((b.drop 2).length = len - 2) := by show _ = _; rw [List.length_drop]; omega
  have ht : (b.take 2).length = 2 := by rw [List.length_take]; omega
  clear hs hcell s1 s2 hnil hn hp hg hx2 hx hy
  go_enter Tryz.func127, Tryz.ntmps127
  go_wp2_with fail
  refine (chk_15 b _ len cap _ hl (by exact HS.out) hc NI.out h8).mono ?_
  rintro e w1 ⟨rfl, hb1⟩
  rw [HC.out]
  have B1 := hide hb1
  clear hb1
  go_wp2_with fail
  refine (rOpen_nm (b.drop 2) (some ad2) (len - 2) (cap - 2) _ hd (by exact S2.out.below B1.out (Nat.le_refl _)) (by omega) (by omega) HN.out).mono ?_
  rintro e w2 ⟨a3, c3, rfl, hO, hb2⟩
  have B2 := hide (B1.out.trans (hb2.mono B1.out.size))
  have O2 := hide hO
  clear hO hb2 B1
  go_wp2_with (at_builtin; refine wpList_append_B rfl (.const (.slice none 0 0)) (.tmp 43) rfl w2.heap.size _ [] rfl (by exact OwnB.nil _ _) _ _ _ (b.take 2) rfl ht (by exact S1.out.below B2.out (Nat.le_refl _)) (by intro h; cases h) (by simp) (Nat.le_refl _) ?_; intro v6 w6 hO6 hG6; have hb6 := nil_grown0 hG6; rw [List.nil_append] at hO6; have S2 := hide (O2.out.below hb6).sl; have B6 := hide (B2.out.trans (hb6.mono B2.out.size)); have O6 := hide (hO6.lower B2.out.size); clear hG6 hO6 hb6 O2 B2)
  refine (rLower_any n a3 n.length c3 _ rfl (by exact S2.out) m1).mono ?_
  rintro e w3 ⟨v3, rfl, hO3, hb3⟩
  obtain ⟨a4, c4, rfl, hs4, _⟩ := hO3.open
  have B3 := hide (B6.out.trans (hb3.mono B6.out.size))
  have O7 := hide (O6.out.below hb3)
  have S4 := hide hs4
  clear hO3 hb3 hs4 B6 O6 S2
  go_wp2_with fail
  refine (rWire_any (N.lowN n) a4 (N.lowN n).length c4 _ rfl (by exact S4.out) m2).mono ?_
  rintro e w4 ⟨v4, rfl, hO4, hb4⟩
  have B4 := hide (B3.out.trans (hb4.mono B3.out.size))
  have O8 := hide (O7.out.below hb4)
  obtain ⟨a9, c9, rfl, hs9, hn9, _⟩ := hO4.open
  have S9 := hide hs9
  have N9 := hide hn9
  have z4 : w.heap.size <= w4.heap.size := B4.out.size
  clear hO4 hb4 hs9 hn9 B3 O7 S4
  go_wp2_with (at_builtin; refine wpList_append_B rfl (.tmp 44) (.tmp 47) rfl w.heap.size _ (b.take 2) rfl (by exact O8.out) _ _ _ (N.wire (N.lowN n)) rfl rfl (by exact S9.out) N9.out (by have := HW.out; omega) z4 ?_; intro v10 w10 hO10 hG10; have hK10 := Kp.grown O8.out hG10 z4; clear hG10)
  go_ret2
  exact ⟨Or.inl ⟨_, _, rfl, rfl, hO10⟩, B4.out.trans hK10.1⟩
set_option maxHeartbeats 800000 in
theorem rcan_else (t : Nat) (b : List UInt8) (ao : Option Addr) (len cap : Nat) (w : World) (hl : Hid (b.length = len)) (hs : SlL w ao b) (hc : len <= cap) (hnil : ao = none -> cap = 0) (h8 : len <= 8192) (h2 : t ≠ 2) (h5 : t ≠ 5) (h15 : t ≠ 15) (h6 : t ≠ 6) (h46 : t ≠ 46) :
 Calls Tryz.prog 127 #[.int .u16 (t : Int), .slice ao len cap] w fun e w' => Ans (D.full b (D.can t b)) BytesV (.slice none 0 0) w e w' := by
 have HS := hide hs
 have NI := hide hnil
 cases hx : D.full b (D.can t b) with
 | none =>
  have HC : Hid (codeOf (D.full b (D.can t b)) = 50) := by show _ = _; rw [hx]; rfl
  clear hs hnil
  go_enter Tryz.func127, Tryz.ntmps127
  go_wp2_with fail
  refine (sCheck_any t b ao len cap _ hl (by exact HS.out) hc NI.out h8).mono ?_
  rintro e w1 ⟨rfl, hb1⟩
  rw [HC.out]
  go_wp2
  go_ret2
  exact ⟨Or.inr ⟨rfl, rfl⟩, hb1⟩
 | some x =>
  have HC : Hid (codeOf (D.full b (D.can t b)) = 0) := by show _ = _; rw [hx]; rfl
  obtain rfl := D.can_plain h2 h5 h15 h6 h46 (D.full_iff.1 hx).2
  have b2 : ((t : Int) == 2) = false := beq_eq_false_iff_ne.2 (by omega)
  have b5 : ((t : Int) == 5) = false := beq_eq_false_iff_ne.2 (by omega)
  have b15 : ((t : Int) == 15) = false := beq_eq_false_iff_ne.2 (by omega)
  have b6 : ((t : Int) == 6) = false := beq_eq_false_iff_ne.2 (by omega)
  have b46 : ((t : Int) == 46) = false := beq_eq_false_iff_ne.2 (by omega)
  clear hs hnil h2 h5 h15 h6 h46 hx
  go_enter Tryz.func127, Tryz.ntmps127
  go_wp2_with fail
  refine (sCheck_any t x ao len cap _ hl (by exact HS.out) hc NI.out h8).mono ?_
  rintro e w1 ⟨rfl, hb1⟩
  rw [HC.out]
  have B1 := hide hb1
  clear hb1
  go_wp2_with (at_builtin; refine wpList_append_B rfl (.const (.slice none 0 0)) (.tmp 79) rfl w1.heap.size _ [] rfl (by exact OwnB.nil _ _) _ _ _ x rfl hl.out (by exact HS.out.below B1.out (Nat.le_refl _)) NI.out (by simp; omega) (Nat.le_refl _) ?_; intro v6 w6 hO6 hG6; have hb6 := nil_grown0 hG6; rw [List.nil_append] at hO6; clear hG6)
  go_ret2
  exact ⟨Or.inl ⟨_, _, rfl, rfl, hO6.lower B1.out.size⟩, B1.out.trans (hb6.mono B1.out.size)⟩
open Go.RowKit
set_option maxHeartbeats 1600000 in
theorem rcan_6 (b : List UInt8) (ao : Option Addr) (len cap : Nat) (w : World) (hl : Hid (b.length = len)) (hs : SlL w ao b) (hc : len <= cap) (hnil : ao = none -> cap = 0) (h8 : len <= 8192) :
 Calls Tryz.prog 127 #[.int .u16 6, .slice ao len cap] w fun e w' => Ans (D.full b (D.can 6 b)) BytesV (.slice none 0 0) w e w' := by
 have HS := hide hs
 have NB := hide hnil
 cases hx : D.full b (D.can 6 b) with
 | none =>
  have HC : Hid (codeOf (D.full b (D.can 6 b)) = 50) := by show _ = _; rw [hx]; rfl
  clear hs hnil
  go_enter Tryz.func127, Tryz.ntmps127
  go_wp2_with fail
  refine (chk_6 b ao len cap _ hl (by exact HS.out) hc NB.out h8).mono ?_
  rintro e w1 ⟨rfl, hb1⟩
  rw [HC.out]
  go_wp2
  go_ret2
  exact ⟨Or.inr ⟨rfl, rfl⟩, hb1⟩
 | some x =>
  have HC : Hid (codeOf (D.full b (D.can 6 b)) = 0) := by show _ = _; rw [hx]; rfl
  obtain ⟨h8', hx2⟩ := D.full_iff.1 hx
  have hq : ((D.soa b).map fun p => (D.soaB p.1.low, p.2)) = some (x, []) := hx2
  rw [Option.map_eq_some_iff] at hq
  obtain ⟨⟨s, r⟩, hso, he⟩ := hq
  cases he
  have HSO : Hid (D.full b (D.soa b) = some s) := D.full_some h8' hso
  have hk := (D.soa_back hso).2
  have hlen := congrArg List.length (D.soa_back hso).1
  clear hs hnil hx2 hx hso
  go_enter Tryz.func127, Tryz.ntmps127
  go_wp2_with fail
  refine (chk_6 b ao len cap _ hl (by exact HS.out) hc NB.out h8).mono ?_
  rintro e p1 ⟨rfl, hb1⟩
  rw [HC.out]
  have P1 := hide hb1
  clear hb1
  go_wp2_with fail
  refine (sSoa_any b ao len cap _ hl (by exact HS.out.below P1.out (Nat.le_refl _)) hc NB.out h8).mono ?_
  rw [HSO.out]
  rintro e u ⟨⟨s', v, ho, rfl, hv⟩ | ⟨ho, _⟩, hb2⟩
  rotate_left
  ·cases ho
  cases ho
  have P2 := hide (P1.out.trans (hb2.mono P1.out.size))
  obtain ⟨a1, c1, a2, c2, rfl, hO1, hO2⟩ := hv
  clear hb2 P1 HSO
  clear hlen
  obtain ⟨main, box, a, b5, c, d, e⟩ := s
  obtain ⟨k1, k2, k3, k4, k5, k6, k7⟩ := hk
  have S1 := hide (OwnS.sl hO1)
  have S2 := hide (OwnS.sl hO2)
  clear hO1 hO2
  simp only at S1 S2 k1 k2 k3 k4 k5 k6 k7 ⊢
  have m1 := hide (good_small k1)
  have m2 := hide (good_small k2)
  have hz1 : N.size (N.lowN main) <= 1000 := by rw [D.size_low]; have := k1.2.2; omega
  have hz2 : N.size (N.lowN box) <= 1000 := by rw [D.size_low]; have := k2.2.2; omega
  have R0 := hide (RowAt.new u 168 #[.slice a1 main.length c1, .slice a2 box.length c2, .int .u32 (a : Int), .int .u32 (b5 : Int), .int .u32 (c : Int), .int .u32 (d : Int), .int .u32 (e : Int)])
  have B0 := hide ((Below.refl u.heap.size u).alloc (Nat.le_refl _) (.cells #[.slice a1 main.length c1, .slice a2 box.length c2, .int .u32 (a : Int), .int .u32 (b5 : Int), .int .u32 (c : Int), .int .u32 (d : Int), .int .u32 (e : Int)] 168))
  clear k1 k2
  go_wp2
  go_region_law (first
   | (refine step_fn 60 _ _ rfl rfl #[.slice a1 main.length c1] (by go_simp) (rLower_any main a1 main.length c1 _ rfl (by exact S1.out.alloc _) m1) (by rintro e w' ⟨v, rfl, _⟩; exact ⟨v, rfl⟩) ?_; rintro v1 w1 ⟨_, he, hO1, hb1⟩; cases he; have R1 := hide (RowAt.below (by exact R0.out) hb1 (by simp <;> omega)); have p1 : w1.cell? ⟨u.heap.size, 1, none⟩ = some (.slice a2 box.length c2) := R1.out.cell 1; have O1 := hide (OwnS.lower (base' := u.heap.size) hO1 (by simp <;> omega)); have z1 : u.heap.size <= w1.heap.size := Nat.le_trans (by simp <;> omega) hb1.size; have B1 := hide ((below_allocs B0.out (Nat.le_refl _) (Or.inl rfl)).trans (hb1.mono (by simp <;> omega))); clear hO1 hb1)
   | (refine step_fn 60 _ _ rfl rfl #[.slice a2 box.length c2] (by go_simp) (rLower_any box a2 box.length c2 _ rfl (by exact S2.out.below B1.out (Nat.le_refl _)) m2) (by rintro e w' ⟨v, rfl, _⟩; exact ⟨v, rfl⟩) ?_; rintro v2 w2 ⟨_, he, hO2, hb2⟩; cases he; have hrow := R1.out.below hb2 R1.out.lt; obtain ⟨a3, c3, rfl, _, _, _⟩ := O1.out.open; obtain ⟨a4, c4, rfl, _, _, _⟩ := hO2.open; have g0 : w2.cell? ⟨u.heap.size, 0, none⟩ = some (.slice a1 main.length c1) := hrow.cell 0; have g1 : w2.cell? ⟨u.heap.size, 1, none⟩ = some (.slice a2 box.length c2) := hrow.cell 1; have g2 : w2.cell? ⟨u.heap.size, 2, none⟩ = some (.int .u32 (a : Int)) := hrow.cell 2; have g3 : w2.cell? ⟨u.heap.size, 3, none⟩ = some (.int .u32 (b5 : Int)) := hrow.cell 3; have g4 : w2.cell? ⟨u.heap.size, 4, none⟩ = some (.int .u32 (c : Int)) := hrow.cell 4; have g5 : w2.cell? ⟨u.heap.size, 5, none⟩ = some (.int .u32 (d : Int)) := hrow.cell 5; have g6 : w2.cell? ⟨u.heap.size, 6, none⟩ = some (.int .u32 (e : Int)) := hrow.cell 6; have e0 := hrow.frozen 0; have e1 := hrow.frozen 1; have O3 := hide (O1.out.below hb2); have O4 := hide (OwnS.lower (base' := u.heap.size) hO2 z1); have R2 := hide hrow; have B2 := hide (B1.out.trans (hb2.mono z1)); clear hrow hO2 hb2 O1))
  all_goals
   have O5 := hide (own_set (own_set O3.out R2.out (by decide) 0 (.slice a3 (N.lowN main).length c3)) (R2.out.set 0 (.slice a3 (N.lowN main).length c3)) (by decide) 1 (.slice a4 (N.lowN box).length c4))
   have O6 := hide (own_set (own_set O4.out R2.out (by decide) 0 (.slice a3 (N.lowN main).length c3)) (R2.out.set 0 (.slice a3 (N.lowN main).length c3)) (by decide) 1 (.slice a4 (N.lowN box).length c4))
   have B5 := hide (setNew_below (g := u.heap.size) (j := 1) (v := .slice a4 (N.lowN box).length c4) (setNew_below (g := u.heap.size) (j := 0) (v := .slice a3 (N.lowN main).length c3) B2.out (Nat.le_refl _)) (Nat.le_refl _))
   clear O3 O4 B2 R2 R1 B1 R0 B0
   go_wp2_with fail
   refine (sSoaBytes_any ⟨N.lowN main, N.lowN box, a, b5, c, d, e⟩ a3 a4 (N.lowN main).length c3 (N.lowN box).length c4 _ rfl rfl (by exact OwnS.sl O5.out) (by exact OwnS.sl O6.out) hz1 hz2 k3 k4 k5 k6 k7).mono ?_
   rintro e w3 ⟨v3, rfl, hO3, hb3⟩
   go_wp2
   go_ret2
   have hz := B5.out.size
   exact ⟨Or.inl ⟨_, _, rfl, rfl, (hO3.lower hz).lower P2.out.size⟩, P2.out.trans ((B5.out.trans (hb3.mono hz)).mono P2.out.size)⟩
set_option maxHeartbeats 1600000 in
theorem rcan_46 (b : List UInt8) (ao : Option Addr) (len cap : Nat) (w : World) (hl : Hid (b.length = len)) (hs : SlL w ao b) (hc : len <= cap) (hnil : ao = none -> cap = 0) (h8 : len <= 8192) :
 Calls Tryz.prog 127 #[.int .u16 46, .slice ao len cap] w fun e w' => Ans (D.full b (D.can 46 b)) BytesV (.slice none 0 0) w e w' := by
 have HS := hide hs
 have NB := hide hnil
 cases hx : D.full b (D.can 46 b) with
 | none =>
  have HC : Hid (codeOf (D.full b (D.can 46 b)) = 50) := by show _ = _; rw [hx]; rfl
  clear hs hnil
  go_enter Tryz.func127, Tryz.ntmps127
  go_wp2_with fail
  refine (chk_46 b ao len cap _ hl (by exact HS.out) hc NB.out h8).mono ?_
  rintro e w1 ⟨rfl, hb1⟩
  rw [HC.out]
  go_wp2
  go_ret2
  exact ⟨Or.inr ⟨rfl, rfl⟩, hb1⟩
 | some x =>
  have HC : Hid (codeOf (D.full b (D.can 46 b)) = 0) := by show _ = _; rw [hx]; rfl
  obtain ⟨h8', hx2⟩ := D.full_iff.1 hx
  have hq : ((D.sig b).map fun p => (D.sigB p.1.low, p.2)) = some (x, []) := hx2
  rw [Option.map_eq_some_iff] at hq
  obtain ⟨⟨s, r⟩, hso, he⟩ := hq
  cases he
  have HSO : Hid (D.full b (D.sig b) = some s) := D.full_some h8' hso
  have hk := (D.sig_back hso).2.2
  have hlen := congrArg List.length (D.sig_back hso).1
  clear hs hnil hx2 hx hso
  go_enter Tryz.func127, Tryz.ntmps127
  go_wp2_with fail
  refine (chk_46 b ao len cap _ hl (by exact HS.out) hc NB.out h8).mono ?_
  rintro e p1 ⟨rfl, hb1⟩
  rw [HC.out]
  have P1 := hide hb1
  clear hb1
  go_wp2_with fail
  refine (sSig_any b ao len cap _ hl (by exact HS.out.below P1.out (Nat.le_refl _)) hc NB.out h8).mono ?_
  rw [HSO.out]
  rintro e u ⟨⟨s', v, ho, rfl, hv⟩ | ⟨ho, _⟩, hb2⟩
  rotate_left
  ·cases ho
  cases ho
  have P2 := hide (P1.out.trans (hb2.mono P1.out.size))
  obtain ⟨a1, c1, a2, c2, rfl, hO1, hO2⟩ := hv
  clear hb2 P1 HSO
  obtain ⟨type, alg, labels, ttl, expire, begin_, tag, signer, sig⟩ := s
  obtain ⟨k1, k2, k3, k4, k5, k6, k7, k8⟩ := hk
  have hz2 : sig.length <= 100000 := by rw [hl.out] at hlen; simp [D.sigB] at hlen; omega
  have S1 := hide (OwnS.sl hO1)
  have S2 := hide (OwnB.slOf hO2).1
  have NI := hide (OwnB.slOf hO2).2
  clear hO1 hO2 hlen
  simp only at S1 S2 NI k1 k2 k3 k4 k5 k6 k7 k8 ⊢
  have m1 := hide (good_small k8)
  have hz1 : N.size (N.lowN signer) <= 1000 := by rw [D.size_low]; have := k8.2.2; omega
  have R0 := hide (RowAt.new u 177 #[.int .u16 (type : Int), .int .u8 (alg : Int), .int .u8 (labels : Int), .int .u32 (ttl : Int), .int .u32 (expire : Int), .int .u32 (begin_ : Int), .int .u16 (tag : Int), .slice a1 signer.length c1, .slice a2 sig.length c2])
  have B0 := hide ((Below.refl u.heap.size u).alloc (Nat.le_refl _) (.cells #[.int .u16 (type : Int), .int .u8 (alg : Int), .int .u8 (labels : Int), .int .u32 (ttl : Int), .int .u32 (expire : Int), .int .u32 (begin_ : Int), .int .u16 (tag : Int), .slice a1 signer.length c1, .slice a2 sig.length c2] 177))
  clear k8
  go_wp2_with fail
  refine (rLower_any signer a1 signer.length c1 _ rfl (by exact S1.out.alloc _) m1).mono ?_
  rintro e w1 ⟨v1, rfl, hO1, hb1⟩
  have hrow := R0.out.below hb1 (by simp)
  obtain ⟨a3, c3, rfl, _, _, _⟩ := hO1.open
  have g0 : w1.cell? ⟨u.heap.size, 0, none⟩ = some (.int .u16 (type : Int)) := hrow.cell 0
  have g1 : w1.cell? ⟨u.heap.size, 1, none⟩ = some (.int .u8 (alg : Int)) := hrow.cell 1
  have g2 : w1.cell? ⟨u.heap.size, 2, none⟩ = some (.int .u8 (labels : Int)) := hrow.cell 2
  have g3 : w1.cell? ⟨u.heap.size, 3, none⟩ = some (.int .u32 (ttl : Int)) := hrow.cell 3
  have g4 : w1.cell? ⟨u.heap.size, 4, none⟩ = some (.int .u32 (expire : Int)) := hrow.cell 4
  have g5 : w1.cell? ⟨u.heap.size, 5, none⟩ = some (.int .u32 (begin_ : Int)) := hrow.cell 5
  have g6 : w1.cell? ⟨u.heap.size, 6, none⟩ = some (.int .u16 (tag : Int)) := hrow.cell 6
  have g7 : w1.cell? ⟨u.heap.size, 7, none⟩ = some (.slice a1 signer.length c1) := hrow.cell 7
  have g8 : w1.cell? ⟨u.heap.size, 8, none⟩ = some (.slice a2 sig.length c2) := hrow.cell 8
  have e7 := hrow.frozen 7
  have O1 := hide (own_set (OwnS.lower (base' := u.heap.size) hO1 (by simp)) hrow (by decide) 7 (.slice a3 (N.lowN signer).length c3))
  have B1 := hide (setNew_below (g := u.heap.size) (j := 7) (v := .slice a3 (N.lowN signer).length c3) (B0.out.trans (hb1.mono (by simp))) (Nat.le_refl _))
  clear hO1 hb1 R0 B0 hrow S1
  go_wp2_with fail
  refine (sSigBytes_any ⟨type, alg, labels, ttl, expire, begin_, tag, N.lowN signer, sig⟩ a3 a2 (N.lowN signer).length c3 sig.length c2 _ rfl rfl (by exact OwnS.sl O1.out) (by exact S2.out.below B1.out (Nat.le_refl _)) NI.out hz1 hz2 k1 k2 k3 k4 k5 k6 k7).mono ?_
  rintro e w2 ⟨v2, rfl, hO2, hb2⟩
  go_wp2
  go_ret2
  have hz := B1.out.size
  exact ⟨Or.inl ⟨_, _, rfl, rfl, (hO2.lower hz).lower P2.out.size⟩, P2.out.trans ((B1.out.trans (hb2.mono hz)).mono P2.out.size)⟩
theorem sCanon_any (t : Nat) (b : List UInt8) (ao : Option Addr) (len cap : Nat) (w : World) (hl : Hid (b.length = len)) (hs : SlL w ao b) (hc : len <= cap) (hnil : ao = none -> cap = 0) (h8 : len <= 8192) :
 Calls Tryz.prog 127 #[.int .u16 (t : Int), .slice ao len cap] w fun e w' => Ans (D.full b (D.can t b)) BytesV (.slice none 0 0) w e w' := by
 by_cases h2 : t = 2
 ·subst h2; exact rcan_2 b ao len cap w hl hs hc hnil h8
 by_cases h5 : t = 5
 ·subst h5; exact rcan_5 b ao len cap w hl hs hc hnil h8
 by_cases h15 : t = 15
 ·subst h15; exact rcan_15 b ao len cap w hl hs hc hnil h8
 by_cases h6 : t = 6
 ·subst h6; exact rcan_6 b ao len cap w hl hs hc hnil h8
 by_cases h46 : t = 46
 ·subst h46; exact rcan_46 b ao len cap w hl hs hc hnil h8
 exact rcan_else t b ao len cap w hl hs hc hnil h8 h2 h5 h15 h6 h46
open Go.RowKit
def canS (t : Nat) (d : List UInt8) : List UInt8 := (cn t d).getD d
theorem mcanon_any (t : Nat) (d : List UInt8) (ao : Option Addr) (len cap : Nat) (w : World) (hl : Hid (d.length = len)) (hs : SlL w ao d) (hc : len <= cap) (hnil : ao = none -> cap = 0) (h8 : len <= 8192) :
 Calls Tryz.prog 94 #[.int .u16 (t : Int), .slice ao len cap] w fun e w' => e = .returned (.string ⟨(canS t d).toArray⟩) /\ Below w.heap.size w w' := by
 have hcall := sCanon_any t d ao len cap w hl hs hc hnil h8
 have HS := hide hs
 cases hcn : cn t d with
 | none =>
  have e : canS t d = d := by unfold canS; rw [hcn]; rfl
  rw [e]
  clear hs e
  go_enter Tryz.func94, Tryz.ntmps94
  go_wp2_with (go_at_call 127; refine hcall.mono ?_; rintro e w1 ⟨⟨x, v, ho, _⟩ | ⟨_, rfl⟩, hb⟩; (· exact absurd (hcn.symm.trans ho) (by simp)); have hcv := run_str len cap (HS.out.below hb (Nat.le_refl _)) hl.out)
  go_ret
  exact ⟨rfl, hb⟩
 | some c =>
  have e : canS t d = c := by unfold canS; rw [hcn]; rfl
  rw [e]
  clear hs e
  go_enter Tryz.func94, Tryz.ntmps94
  go_wp2_with (go_at_call 127; refine hcall.mono ?_; rintro e w1 ⟨⟨x, v, ho, rfl, hx⟩ | ⟨ho, _⟩, hb⟩; rotate_left; (· exact absurd (hcn.symm.trans ho) (by simp)); (obtain rfl : c = x := Option.some.inj (hcn.symm.trans ho)); obtain ⟨ca, cc, rfl, hcT, _, hcc⟩ := OwnB.ty hx; have hcv := run_str c.length cc hcT.1 rfl)
  go_ret
  exact ⟨rfl, hb⟩
def ordV (n1 n2 : List (List UInt8)) (t1 t2 : Nat) (x y : List UInt8) : Int := if N.cmpN n1 n2 ≠ 0 then N.cmpN n1 n2 else if t1 ≠ t2 then (if t1 < t2 then -1 else 1) else N.cmpB x y
set_option maxHeartbeats 1000000 in
theorem morder_any (n1 n2 : List (List UInt8)) (a1 a2 : Option Addr) (l1 l2 c1 c2 t1 t2 : Nat) (k1 k2 : Int) (s1 s2 : Int) (d1 d2 : List UInt8) (b1 b2 : Option Addr) (m1 m2 e1 e2 : Nat) (w : World) (h1 : Hid (n1.length = l1)) (h2 : Hid (n2.length = l2)) (hs1 : SlS w a1 n1) (hs2 : SlS w a2 n2) (hm1 : Hid (N.Small n1)) (hm2 : Hid (N.Small n2))
 (hd1 : Hid (d1.length = m1)) (hd2 : Hid (d2.length = m2)) (hb1 : SlL w b1 d1) (hb2 : SlL w b2 d2) (hc1 : m1 <= e1) (hc2 : m2 <= e2) (hn1 : b1 = none -> e1 = 0) (hn2 : b2 = none -> e2 = 0) (h81 : m1 <= 8192) (h82 : m2 <= 8192) :
 Calls Tryz.prog 90 #[.agg #[.slice a1 l1 c1, .int .u16 (t1 : Int), .int .u16 k1, .int .u32 s1, .slice b1 m1 e1], .agg #[.slice a2 l2 c2, .int .u16 (t2 : Int), .int .u16 k2, .int .u32 s2, .slice b2 m2 e2]] w fun e w' => e = .returned (.int .i64 (ordV n1 n2 t1 t2 (canS t1 d1) (canS t2 d2))) /\ Below w.heap.size w w' := by
 obtain ⟨wB, hwB⟩ : ∃ wB, wB = (w.alloc (.cells #[.slice a1 l1 c1, .int .u16 (t1 : Int), .int .u16 k1, .int .u32 s1, .slice b1 m1 e1] 39)).alloc (.cells #[.slice a2 l2 c2, .int .u16 (t2 : Int), .int .u16 k2, .int .u32 s2, .slice b2 m2 e2] 39) := ⟨_, rfl⟩
 have hr1 : RowAt wB w.heap.size 39 #[.slice a1 l1 c1, .int .u16 (t1 : Int), .int .u16 k1, .int .u32 s1, .slice b1 m1 e1] := by rw [hwB]; exact (RowAt.new w _ _).alloc _
 have hr2 : RowAt wB (w.heap.size + 1) 39 #[.slice a2 l2 c2, .int .u16 (t2 : Int), .int .u16 k2, .int .u32 s2, .slice b2 m2 e2] := by
  rw [hwB]
  have := RowAt.new (w.alloc (.cells #[.slice a1 l1 c1, .int .u16 (t1 : Int), .int .u16 k1, .int .u32 s1, .slice b1 m1 e1] 39)) 39 #[.slice a2 l2 c2, .int .u16 (t2 : Int), .int .u16 k2, .int .u32 s2, .slice b2 m2 e2]
  rw [World.size_alloc] at this
  exact this
 have hb : Below w.heap.size w wB := by rw [hwB]; exact ((Below.refl _ w).alloc (Nat.le_refl _) _).alloc (by simp) _
 have hcmp := rCompare_any n1 n2 a1 a2 l1 l2 c1 c2 wB h1 h2 (hs1.below hb (Nat.le_refl _)) (hs2.below hb (Nat.le_refl _)) (by rw [<- h1.out]; exact hm1.out.1) (by rw [<- h2.out]; exact hm2.out.1) (Sane.small hm1.out) (Sane.small hm2.out)
 have HR1 := hide hr1
 have HR2 := hide hr2
 have HB := hide hb
 have HW := hide hwB
 have HB1 := hide (hb1.below hb (Nat.le_refl _))
 have HB2 := hide (hb2.below hb (Nat.le_refl _))
 clear hr1 hr2 hb hwB hb1 hb2 hs1 hs2
 obtain ⟨q, hq⟩ : ∃ q, q = N.cmpN n1 n2 := ⟨_, rfl⟩
 rw [<- hq] at hcmp
 unfold ordV
 rw [<- hq]
 clear hq
 have z1 : wB.cell? ⟨w.heap.size, 0, none⟩ = some (.slice a1 l1 c1) := HR1.out.cell 0
 have z2 : wB.cell? ⟨w.heap.size + 1, 0, none⟩ = some (.slice a2 l2 c2) := HR2.out.cell 0
 by_cases hq : q = 0
 ·have hqb : (q != 0) = false := by simp [hq]
  by_cases ht : t1 = t2
  ·have htb : ((t1 : Int) != (t2 : Int)) = false := by simp [ht]
   rw [if_neg (by simp [hq]), if_neg (by simp [ht])]
   have HQ := hide hq
   have HT := hide ht
   clear hq ht
   obtain ⟨X, hX⟩ : ∃ X, X = canS t1 d1 := ⟨_, rfl⟩
   obtain ⟨Y, hY⟩ : ∃ Y, Y = canS t2 d2 := ⟨_, rfl⟩
   rw [<- hX, <- hY]
   have hcn1 := fun W hW => mcanon_any t1 d1 b1 m1 e1 W hd1 hW hc1 hn1 h81
   have hcn2 := fun W hW => mcanon_any t2 d2 b2 m2 e2 W hd2 hW hc2 hn2 h82
   rw [<- hX] at hcn1
   rw [<- hY] at hcn2
   obtain ⟨V, hV⟩ : ∃ V : Int, V = N.cmpB X Y := ⟨_, rfl⟩
   rw [<- hV]
   have HV := hide hV
   clear hV
   have HC1 := hide hcn1
   have HC2 := hide hcn2
   clear hX hY hcn1 hcn2
   go_enter Tryz.func90, Tryz.ntmps90
   go_upto_region 8 with (go_at_call 126; rw [<- HW.out]; refine hcmp.mono ?_; rintro e w1 ⟨rfl, hb1⟩; have x1 : w1.cell? ⟨w.heap.size, 1, none⟩ = some (.int .u16 (t1 : Int)) := (HR1.out.below hb1 HR1.out.lt).cell 1; have x2 : w1.cell? ⟨w.heap.size + 1, 1, none⟩ = some (.int .u16 (t2 : Int)) := (HR2.out.below hb1 HR2.out.lt).cell 1)
   have hr1 := HR1.out.below hb1 HR1.out.lt
   have hr2 := HR2.out.below hb1 HR2.out.lt
   have x4 : w1.cell? ⟨w.heap.size, 4, none⟩ = some (.slice b1 m1 e1) := hr1.cell 4
   have y4 : w1.cell? ⟨w.heap.size + 1, 4, none⟩ = some (.slice b2 m2 e2) := hr2.cell 4
   have SB1 := hide (HB1.out.below hb1 (Nat.le_refl _))
   have SB2 := hide (HB2.out.below hb1 (Nat.le_refl _))
   have HRa := hide hr1
   have HRb := hide hr2
   have HBW := hide (HB.out.trans (hb1.mono HB.out.size))
   clear hr1 hr2 hb1
   have hT1 : True := trivial
   go_cut [6, 7] from 8 (fun s6 s7 wc => s6 = .string ⟨X.toArray⟩ /\ s7 = .string ⟨Y.toArray⟩ /\ Below w.heap.size w wc)
   case first =>
    go_region_held3 (fun w' => w'.cell? ⟨w.heap.size, 1, none⟩ = some (.int .u16 (t1 : Int)) /\ w'.cell? ⟨w.heap.size, 4, none⟩ = some (.slice b1 m1 e1) /\ w'.cell? ⟨w.heap.size + 1, 1, none⟩ = some (.int .u16 (t2 : Int)) /\ w'.cell? ⟨w.heap.size + 1, 4, none⟩ = some (.slice b2 m2 e2)) (first | exact ⟨x1, x4, x2, y4⟩ | exact ⟨u1, u4, u2, v4⟩ | exact ⟨p1, p4, p2, q4⟩) ((first
     | (go_at_call 94; have hb3q := HB3.out; clear hb3q; refine (HC2.out _ (by exact SB2c.out)).mono ?_; rintro e w4 ⟨rfl, hb4⟩; have hb4 : Below w3.heap.size w3 w4 := (by first | exact hb4 | exact (below_drewN (Below.refl _ w3) 1).trans hb4); have hra := HRa3.out.below hb4 HRa3.out.lt; have hrb := HRb3.out.below hb4 HRb3.out.lt; have p1 : w4.cell? ⟨w.heap.size, 1, none⟩ = some (.int .u16 (t1 : Int)) := hra.cell 1; have p4 : w4.cell? ⟨w.heap.size, 4, none⟩ = some (.slice b1 m1 e1) := hra.cell 4; have p2 : w4.cell? ⟨w.heap.size + 1, 1, none⟩ = some (.int .u16 (t2 : Int)) := hrb.cell 1; have q4 : w4.cell? ⟨w.heap.size + 1, 4, none⟩ = some (.slice b2 m2 e2) := hrb.cell 4; have HB4 := hide hb4; clear hb4 hra hrb)
     | (go_at_call 94; have hT1q := hT1; clear hT1q hT1; refine (HC1.out _ (by exact SB1.out)).mono ?_; rintro e w3 ⟨rfl, hb3⟩; have hb3 : Below w1.heap.size w1 w3 := (by first | exact hb3 | exact (below_drewN (Below.refl _ w1) 1).trans hb3); have HRa3 := hide (HRa.out.below hb3 HRa.out.lt); have HRb3 := hide (HRb.out.below hb3 HRb.out.lt); have SB2c := hide (SB2.out.below hb3 (Nat.le_refl _)); have u1 : w3.cell? ⟨w.heap.size, 1, none⟩ = some (.int .u16 (t1 : Int)) := HRa3.out.cell 1; have u4 : w3.cell? ⟨w.heap.size, 4, none⟩ = some (.slice b1 m1 e1) := HRa3.out.cell 4; have u2 : w3.cell? ⟨w.heap.size + 1, 1, none⟩ = some (.int .u16 (t2 : Int)) := HRb3.out.cell 1; have v4 : w3.cell? ⟨w.heap.size + 1, 4, none⟩ = some (.slice b2 m2 e2) := HRb3.out.cell 4; have HB3 := hide hb3; clear hb3)))
    all_goals go_wp2_with fail
    all_goals go_meet
    all_goals exact ⟨rfl, rfl, HBW.out.trans ((HB3.out.trans (HB4.out.mono HB3.out.size)).mono HBW.out.size)⟩
   case rest =>
    obtain ⟨rfl, rfl, hbc⟩ := hcut
    go_wp2
    ·rename_i h
     rw [N.less_is] at h
     have hv : V = -1 := by rw [HV.out]; simpa using h
     rw [hv]
     go_ret
     exact ⟨rfl, hbc⟩
    ·rename_i h h'
     rw [N.less_is] at h
     have hn1 : N.cmpB X Y ≠ -1 := by simpa using h
     have hn0 : N.cmpB X Y ≠ 0 := fun e => by rw [N.cmpB_zero.1 e] at h'; simp at h'
     have hbd := N.cmpB_bounds X Y
     have hv : V = 1 := by rw [HV.out]; omega
     rw [hv]
     go_ret
     exact ⟨rfl, hbc⟩
    ·rename_i h h'
     have hXY : X = Y := by simpa using h'
     have hv : V = 0 := by rw [HV.out]; exact N.cmpB_zero.2 hXY
     rw [hv]
     go_ret
     exact ⟨rfl, hbc⟩
  ·have htb : ((t1 : Int) != (t2 : Int)) = true := by simp; omega
   rw [if_neg (by simp [hq]), if_pos ht]
   by_cases hlt : t1 < t2
   ·have hlb : ((t1 : Int) < (t2 : Int)) := by omega
    rw [if_pos hlt]
    clear ht hq
    go_enter Tryz.func90, Tryz.ntmps90
    go_wp2_with (go_at_call 126; rw [<- HW.out]; refine hcmp.mono ?_; rintro e w1 ⟨rfl, hb1⟩; have x1 : w1.cell? ⟨w.heap.size, 1, none⟩ = some (.int .u16 (t1 : Int)) := (HR1.out.below hb1 HR1.out.lt).cell 1; have x2 : w1.cell? ⟨w.heap.size + 1, 1, none⟩ = some (.int .u16 (t2 : Int)) := (HR2.out.below hb1 HR2.out.lt).cell 1)
    go_ret
    exact ⟨rfl, HB.out.trans (hb1.mono HB.out.size)⟩
   ·have hlb : decide ((t1 : Int) < (t2 : Int)) = false := by simp; omega
    rw [if_neg hlt]
    clear ht hq
    go_enter Tryz.func90, Tryz.ntmps90
    go_wp2_with (go_at_call 126; rw [<- HW.out]; refine hcmp.mono ?_; rintro e w1 ⟨rfl, hb1⟩; have x1 : w1.cell? ⟨w.heap.size, 1, none⟩ = some (.int .u16 (t1 : Int)) := (HR1.out.below hb1 HR1.out.lt).cell 1; have x2 : w1.cell? ⟨w.heap.size + 1, 1, none⟩ = some (.int .u16 (t2 : Int)) := (HR2.out.below hb1 HR2.out.lt).cell 1)
    go_ret
    exact ⟨rfl, HB.out.trans (hb1.mono HB.out.size)⟩
 ·have hqb : (q != 0) = true := by simp [hq]
  rw [if_pos hq]
  clear hq
  go_enter Tryz.func90, Tryz.ntmps90
  go_wp2_with (go_at_call 126; rw [<- HW.out]; refine hcmp.mono ?_; rintro e w1 ⟨rfl, hb1⟩; have x1 : w1.cell? ⟨w.heap.size, 1, none⟩ = some (.int .u16 (t1 : Int)) := (HR1.out.below hb1 HR1.out.lt).cell 1; have x2 : w1.cell? ⟨w.heap.size + 1, 1, none⟩ = some (.int .u16 (t2 : Int)) := (HR2.out.below hb1 HR2.out.lt).cell 1)
  go_ret
  exact ⟨rfl, HB.out.trans (hb1.mono HB.out.size)⟩
theorem ordV_cmpK (n1 n2 : List (List UInt8)) (t1 t2 : Nat) (x y : List UInt8) (s1 s2 : Nat) (d1 d2 : List UInt8) : ordV n1 n2 t1 t2 x y = Z.cmpK ⟨path n1, t1, x, s1, d1⟩ ⟨path n2, t2, y, s2, d2⟩ := by
 have e : N.cmpR (path n1) (path n2) = N.cmpN n1 n2 := by
  unfold path N.cmpN
  have e1 : (N.lowN n1).reverse = N.lowN n1.reverse := (List.map_reverse).symm
  have e2 : (N.lowN n2).reverse = N.lowN n2.reverse := (List.map_reverse).symm
  rw [e1, e2, N.cmpR_lowN, N.cmpR_neg, N.cmpR_lowN, <- N.cmpR_neg]
 unfold ordV Z.cmpK
 rw [e]
 by_cases h : N.cmpN n1 n2 = 0
 ·rw [if_neg (by simp [h]), if_pos h]
  by_cases ht : t1 = t2
  ·rw [if_neg (by simp [ht]), if_pos ht]
  ·rw [if_pos ht, if_neg ht]
 ·rw [if_pos h, if_neg h]
open Go.RowKit
def RL (w : World) (base : Nat) (a : Option Addr) (c : Nat) (L : List Z.R) : Prop :=
 L.length <= c /\ (a = none -> c = 0) /\ (0 < L.length -> ∃ g cur, a = some ⟨g, 0, none⟩ /\ base <= g /\ w.heap[g]? = some (Obj.cells cur 39) /\ ∀ j x, L[j]? = some x -> ∃ us, us.length = 5 /\ (∀ u ∈ us, u.oneCell' = true) /\ ER w x us /\ ∀ t, t < 5 -> w.cell? ⟨g, j * 5 + t, none⟩ = us[t]?)
theorem RL.nil (w : World) (base : Nat) (a : Option Addr) (c : Nat) (h : a = none -> c = 0) : RL w base a c [] := ⟨Nat.zero_le _, h, fun h => absurd h (by simp)⟩
theorem RL.of_own {w : World} {base n c : Nat} {a : Option Addr} {L : List Z.R} (h : OwnL 39 5 ER w base (.slice a n c) L) : RL w base a c L := by
 obtain ⟨a', c', e, h1, h2⟩ := h.slice
 injection e with e1 e2 e3
 subst e1; subst e2; subst e3
 refine ⟨h2, h1, fun hn => ?_⟩
 obtain ⟨vss, hv, hE⟩ := h
 rcases hv.2 with ⟨_, h3⟩ | ⟨g, cap, cur, e, h3, h4, h5⟩
 ·omega
 ·injection e with e1 e2 e3
  subst e1; subst e3
  refine ⟨g, cur, rfl, h3, h4, fun j x hx => ?_⟩
  have hj : j < vss.length := by rw [hE.len]; exact (List.getElem?_eq_some_iff.1 hx).1
  obtain ⟨k1, k2, k3⟩ := hE.el j x vss[j] hx (List.getElem?_eq_getElem hj)
  refine ⟨vss[j], k1, k2, k3, fun t ht => ?_⟩
  have hfl := flat_get vss (fun us hus => (hE.sizes).1 us hus) j t vss[j] (List.getElem?_eq_getElem hj) ht
  have hlen := hE.sizes.2.2
  rw [World.ownsRow.cellAt hv (j * 5 + t) (by have : j < L.length := (List.getElem?_eq_some_iff.1 hx).1; omega)]
  exact hfl
theorem RL.kx {w w' : World} {base c : Nat} {a : Option Addr} {L : List Z.R} (h : RL w base a c L) (hk : KB w w') (hb : ∀ g cur, base <= g -> w.heap[g]? = some (Obj.cells cur 39) -> a = some ⟨g, 0, none⟩ -> w'.heap[g]? = w.heap[g]?) : RL w' base a c L := by
 refine ⟨h.1, h.2.1, fun hn => ?_⟩
 obtain ⟨g, cur, e, h1, h2, h3⟩ := h.2.2 hn
 have hg := hb g cur h1 h2 e
 refine ⟨g, cur, e, h1, hg.trans h2, fun j x hx => ?_⟩
 obtain ⟨us, k1, k2, k3, k4⟩ := h3 j x hx
 exact ⟨us, k1, k2, k3.kb hk, fun t ht => by rw [<- k4 t ht]; exact World.cell?_of_block hg⟩
theorem RL.bel {w w' : World} {base c : Nat} {a : Option Addr} {L : List Z.R} (h : RL w base a c L) (hb : Below w.heap.size w w') : RL w' base a c L :=
 h.kx (KB.of_below hb) fun g _ _ hg _ => hb.block g (Array.getElem?_eq_some_iff.1 hg).1
theorem RL.at_ {w : World} {base c : Nat} {a : Option Addr} {L : List Z.R} (h : RL w base a c L) {j : Nat} {x : Z.R} (hx : L[j]? = some x) : ∃ g na nc da dc, a = some ⟨g, 0, none⟩ /\ w.cell? ⟨g, j * 5, none⟩ = some (.slice na x.p.length nc) /\ w.cell? ⟨g, j * 5 + 1, none⟩ = some (.int .u16 (x.t : Int)) /\ w.cell? ⟨g, j * 5 + 2, none⟩ = some (.int .u16 1) /\ w.cell? ⟨g, j * 5 + 3, none⟩ = some (.int .u32 (x.ttl : Int)) /\ w.cell? ⟨g, j * 5 + 4, none⟩ = some (.slice da x.d.length dc) /\
 TyS w na x.p.reverse /\ x.p.length <= nc /\ (na = none -> nc = 0) /\ TyL w da x.d /\ (da = none -> dc = 0) /\ x.d.length <= dc := by
 have hj : j < L.length := (List.getElem?_eq_some_iff.1 hx).1
 obtain ⟨g, cur, e, _, _, h3⟩ := h.2.2 (by omega)
 obtain ⟨us, _, _, ⟨na, nc, da, dc, rfl, k⟩, k4⟩ := h3 j x hx
 exact ⟨g, na, nc, da, dc, e, k4 0 (by omega), k4 1 (by omega), k4 2 (by omega), k4 3 (by omega), k4 4 (by omega), k⟩
structure RZAt (w : World) (base m : Nat) (A : List (List UInt8)) (L : List Z.R) : Prop where
 row : ∃ aa ac a c, RowAt w m 33 #[.slice aa A.length ac, .slice a L.length c] /\ SlS w aa A /\ A.length <= ac /\ RL w base a c L
 rise : L.Pairwise Z.rlt
 lows : Z.Lows L
 num : L.length <= 2000
 thin : Z.Thin L
 okk : ∀ x ∈ L, x.t < 65536 /\ x.ttl < 4294967296 /\ cn x.t x.d = some x.c /\ x.d.length <= 8192 /\ x.p.length <= 128
 even : ∀ x ∈ L, ∀ y ∈ L, x.p = y.p -> x.t = y.t -> x.ttl = y.ttl
theorem RZAt.bel {w w' : World} {base m : Nat} {A : List (List UInt8)} {L : List Z.R} (h : RZAt w base m A L) (hb : Below w.heap.size w w') : RZAt w' base m A L := by
 obtain ⟨aa, ac, a, c, h1, h2, h3, h4⟩ := h.row
 exact { h with row := ⟨aa, ac, a, c, h1.below hb h1.lt, h2.below hb (Nat.le_refl _), h3, h4.bel hb⟩ }
theorem RZAt.small {w : World} {base m : Nat} {A : List (List UInt8)} {L : List Z.R} (h : RZAt w base m A L) {x : Z.R} (hx : x ∈ L) : N.Small x.p.reverse := by
 have h1 := (h.okk x hx).2.2.2.2
 refine ⟨by rw [List.length_reverse]; omega, fun l hl => ?_⟩
 have := h.thin x hx l (by simpa using hl)
 omega
theorem same_path {p n : List (List UInt8)} (hp : Z.Low p) : N.same p.reverse n = decide (p = path n) := by
 unfold N.same
 unfold Z.Low at hp
 have e1 : N.lowN p.reverse = p.reverse := by
  have : N.lowN p.reverse = (N.lowN p).reverse := List.map_reverse
  rw [this, hp]
 rw [e1]
 by_cases h : p = path n
 ·rw [h]; unfold path; simp
 ·have h2 : ¬ p.reverse = N.lowN n := fun e => h (by unfold path; rw [<- e, List.reverse_reverse])
  simp [h, h2]
end Go.Proofs.YtbkegikdmmnkaaaGreat
