/- The reference's SoaBytes, SigBytes (texts of stage 5, at this seat). -/
import Derived.Test.YtdldaphkiphpnaaGreatRefK
import Derived.Test.YtdldaphkiphpnaaGreatAsG
import Derived.Deep.RegionHeld3
/- stage5/RefQ -/
/- signetref3.SoaBytes. -/
namespace Go.Proofs.YtdldaphkiphpnaaGreat
open Go.RowKit
set_option maxHeartbeats 3200000 in
set_option maxRecDepth 5000 in
theorem sSoaBytes_any (s : D.Soa) (a1 a2 : Option Addr) (n1 c1 n2 c2 : Nat) (w : World) (h1 : Hid (s.main.length = n1)) (h2 : Hid (s.box.length = n2)) (hs1 : SlS w a1 s.main) (hs2 : SlS w a2 s.box) (hz1 : N.size s.main ≤ 1000) (hz2 : N.size s.box ≤ 1000)
    (ha : s.a < 4294967296) (hb : s.b < 4294967296) (hc : s.c < 4294967296) (hd : s.d < 4294967296) (he : s.e < 4294967296) :
    Calls Tryz.prog 93 #[.agg #[.slice a1 n1 c1, .slice a2 n2 c2, .int .u32 (s.a : Int), .int .u32 (s.b : Int), .int .u32 (s.c : Int), .int .u32 (s.d : Int), .int .u32 (s.e : Int)]] w fun e w' => ∃ v', e = .returned v' ∧ OwnB w' w.heap.size v' (D.soaB s) ∧ Below w.heap.size w w' := by
  have S1 := hide hs1
  have S2 := hide hs2
  have m1 := hide (small_of hz1)
  have m2 := hide (small_of hz2)
  have l1 := N.wire_len s.main
  have l2 := N.wire_len s.box
  clear hs1 hs2
  unfold D.soaB
  obtain ⟨main, box, a, b, c, d, e⟩ := s
  simp only at h1 h2 S1 S2 m1 m2 l1 l2 hz1 hz2 ha hb hc hd he ⊢
  have HROW := hide (RowAt.new w 142 #[.slice a1 n1 c1, .slice a2 n2 c2, .int .u32 (a : Int), .int .u32 (b : Int), .int .u32 (c : Int), .int .u32 (d : Int), .int .u32 (e : Int)])
  have HB0 := hide ((Below.refl w.heap.size w).alloc (Nat.le_refl _) (.cells #[.slice a1 n1 c1, .slice a2 n2 c2, .int .u32 (a : Int), .int .u32 (b : Int), .int .u32 (c : Int), .int .u32 (d : Int), .int .u32 (e : Int)] 142))
  have HL1 : Hid ((N.wire main).length ≤ 1000) := by show _ ≤ _; omega
  have HL2 : Hid ((N.wire box).length ≤ 1000) := by show _ ≤ _; omega
  clear l1 l2
  go_enter Tryz.func93, Tryz.ntmps93
  go_wp2
  have x0 : (w.alloc (.cells #[.slice a1 n1 c1, .slice a2 n2 c2, .int .u32 (a : Int), .int .u32 (b : Int), .int .u32 (c : Int), .int .u32 (d : Int), .int .u32 (e : Int)] 142)).cell? ⟨w.heap.size, 0, none⟩ = some (.slice a1 n1 c1) := HROW.out.cell 0
  have x1 : (w.alloc (.cells #[.slice a1 n1 c1, .slice a2 n2 c2, .int .u32 (a : Int), .int .u32 (b : Int), .int .u32 (c : Int), .int .u32 (d : Int), .int .u32 (e : Int)] 142)).cell? ⟨w.heap.size, 1, none⟩ = some (.slice a2 n2 c2) := HROW.out.cell 1
  go_region_held3 (fun w' => w'.cell? ⟨w.heap.size, 0, none⟩ = some (.slice a1 n1 c1) ∧ w'.cell? ⟨w.heap.size, 1, none⟩ = some (.slice a2 n2 c2)) ((first | (with_reducible exact ⟨x0, x1⟩) | exact ⟨x0, x1⟩)) ((first
    | (refine step_fn 91 #[.tmp 5] _ rfl rfl #[.slice a1 n1 c1] (by go_simp) (rWire_any main a1 n1 c1 _ h1 (by exact S1.out.alloc _) m1) (by rintro e w' ⟨v, rfl, _⟩; exact ⟨v, rfl⟩) ?_; rintro v1 w1 ⟨_, he, hO1, hb1⟩; cases he; have r1 := RowAt.below (by exact HROW.out) hb1 (by simp <;> omega); have p1 : w1.cell? ⟨w.heap.size, 1, none⟩ = some (.slice a2 n2 c2) := r1.cell 1; have x0 : w1.cell? ⟨w.heap.size, 0, none⟩ = some (.slice a1 n1 c1) := r1.cell 0; have x1 : w1.cell? ⟨w.heap.size, 1, none⟩ = some (.slice a2 n2 c2) := r1.cell 1; have R1 := hide r1; have O1 := hide (OwnB.lower (base' := w.heap.size) hO1 (by simp <;> omega)); have z1 : w.heap.size ≤ w1.heap.size := Nat.le_trans (by simp <;> omega) hb1.size; have B1 := hide ((below_allocs HB0.out (Nat.le_refl _) (Or.inl rfl)).trans (hb1.mono (by simp <;> omega))); clear r1 hO1 hb1)
    | (refine step_fn 91 #[.tmp 8] _ rfl rfl #[.slice a2 n2 c2] (by go_simp) (rWire_any box a2 n2 c2 _ h2 (by exact S2.out.below B1.out (Nat.le_refl _)) m2) (by rintro e w' ⟨v, rfl, _⟩; exact ⟨v, rfl⟩) ?_; rintro v2 w2 ⟨_, he, hO2, hb2⟩; cases he; have R2 := hide (R1.out.below hb2 R1.out.lt); have x0 : w2.cell? ⟨w.heap.size, 0, none⟩ = some (.slice a1 n1 c1) := R2.out.cell 0; have x1 : w2.cell? ⟨w.heap.size, 1, none⟩ = some (.slice a2 n2 c2) := R2.out.cell 1; have OM := hide (O1.out.below hb2); obtain ⟨g9, c9, rfl, _, _, _, _, _⟩ := hO2.form (by simp [N.wire]); have S9 := hide hO2.sl; have z2 : w.heap.size ≤ w2.heap.size := Nat.le_trans z1 hb2.size; have B2 := hide (B1.out.trans (hb2.mono z1)); clear hO2 hb2)
    | (refine step_append_B rfl (.tmp 6) (.tmp 9) rfl w.heap.size v1 (N.wire main) (by simp [Act.eval]) (by exact OM.out) ⟨g9, 0, none⟩ (N.wire box).length c9 (N.wire box) (by simp [Act.eval]) rfl (by exact S9.out) (by have := HL1.out; have := HL2.out; omega) (by exact z2) ?_; intro v4 w4 hO4 hG4; have K4 := hide (Kp.grown OM.out hG4 z2); have O4 := hide hO4; have R4 := hide (K4.out.2 _ _ _ R2.out (by decide)); have x0 : w4.cell? ⟨w.heap.size, 0, none⟩ = some (.slice a1 n1 c1) := R4.out.cell 0; have x1 : w4.cell? ⟨w.heap.size, 1, none⟩ = some (.slice a2 n2 c2) := R4.out.cell 1; clear hG4 hO4)))
  all_goals
    have z4 : w.heap.size ≤ w4.heap.size := K4.out.size z2
    have B4 := hide (B2.out.trans K4.out.1)
    have R4 := hide (K4.out.2 _ _ _ R2.out (by decide))
    have L4 : Hid ((N.wire main ++ N.wire box).length ≤ 2000) := by have := HL1.out; have := HL2.out; show _ ≤ _; rw [List.length_append]; omega
    obtain ⟨q, hq⟩ : ∃ q, N.wire main ++ N.wire box = q := ⟨_, rfl⟩
    rw [hq] at O4 L4
    have HQ := hide hq
    clear hq
    have m2 : w4.cell? ⟨w.heap.size, 2, none⟩ = some (.int .u32 (a : Int)) := R4.out.cell 2
    have m3 : w4.cell? ⟨w.heap.size, 3, none⟩ = some (.int .u32 (b : Int)) := R4.out.cell 3
    have m4 : w4.cell? ⟨w.heap.size, 4, none⟩ = some (.int .u32 (c : Int)) := R4.out.cell 4
    have m5 : w4.cell? ⟨w.heap.size, 5, none⟩ = some (.int .u32 (d : Int)) := R4.out.cell 5
    have m6 : w4.cell? ⟨w.heap.size, 6, none⟩ = some (.int .u32 (e : Int)) := R4.out.cell 6
    clear R2 B2 K4 S9 OM R1 B1 O1
    go_wp2
    replace O4 : Hid (OwnB w4.drew w.heap.size v4 q) := hide (by exact O4.out)
    replace B4 := hide B4.out.drew
    replace R4 := hide R4.out.drew
    replace z4 : w.heap.size ≤ w4.drew.heap.size := z4
    go_region_held3 (fun w' => w'.cell? ⟨w.heap.size, 2, none⟩ = some (.int .u32 (a : Int)) ∧ w'.cell? ⟨w.heap.size, 3, none⟩ = some (.int .u32 (b : Int)) ∧ w'.cell? ⟨w.heap.size, 4, none⟩ = some (.int .u32 (c : Int)) ∧ w'.cell? ⟨w.heap.size, 5, none⟩ = some (.int .u32 (d : Int)) ∧ w'.cell? ⟨w.heap.size, 6, none⟩ = some (.int .u32 (e : Int))) ((first | (with_reducible exact ⟨m2, m3, m4, m5, m6⟩) | exact ⟨m2, m3, m4, m5, m6⟩)) ((first
      | (refine step_fn 128 #[.tmp 11, .tmp 13, .const (.int .i64 4)] _ rfl rfl #[v4, .int .u32 (a : Int), .int .i64 ((4 : Nat) : Int)] (by go_simp) (put_any a 4 (by omega) w.heap.size v4 (q) _ O4.out z4 (by have := L4.out; first | omega | (simp only [List.length_append, p32_len]; omega))) (by rintro e w' ⟨v, rfl, _⟩; exact ⟨v, rfl⟩) ?_; rintro v5 w5 ⟨_, he, hO5, hK5⟩; cases he; have z5 : w.heap.size ≤ w5.heap.size := hK5.size z4; have B5 := hide (B4.out.trans hK5.1); have R5 := hide (hK5.2 _ _ _ R4.out (by decide)); rw [D.put_4] at hO5; have O5 := hide hO5; have m2 : w5.cell? ⟨w.heap.size, 2, none⟩ = some (.int .u32 (a : Int)) := R5.out.cell 2; have m3 : w5.cell? ⟨w.heap.size, 3, none⟩ = some (.int .u32 (b : Int)) := R5.out.cell 3; have m4 : w5.cell? ⟨w.heap.size, 4, none⟩ = some (.int .u32 (c : Int)) := R5.out.cell 4; have m5 : w5.cell? ⟨w.heap.size, 5, none⟩ = some (.int .u32 (d : Int)) := R5.out.cell 5; have m6 : w5.cell? ⟨w.heap.size, 6, none⟩ = some (.int .u32 (e : Int)) := R5.out.cell 6; clear hO5 hK5)
      | (refine step_fn 128 #[.tmp 14, .tmp 16, .const (.int .i64 4)] _ rfl rfl #[v5, .int .u32 (b : Int), .int .i64 ((4 : Nat) : Int)] (by go_simp) (put_any b 4 (by omega) w.heap.size v5 (q ++ D.p32 a) _ O5.out z5 (by have := L4.out; first | omega | (simp only [List.length_append, p32_len]; omega))) (by rintro e w' ⟨v, rfl, _⟩; exact ⟨v, rfl⟩) ?_; rintro v6 w6 ⟨_, he, hO6, hK6⟩; cases he; have z6 : w.heap.size ≤ w6.heap.size := hK6.size z5; have B6 := hide (B5.out.trans hK6.1); have R6 := hide (hK6.2 _ _ _ R5.out (by decide)); rw [D.put_4] at hO6; have O6 := hide hO6; have m2 : w6.cell? ⟨w.heap.size, 2, none⟩ = some (.int .u32 (a : Int)) := R6.out.cell 2; have m3 : w6.cell? ⟨w.heap.size, 3, none⟩ = some (.int .u32 (b : Int)) := R6.out.cell 3; have m4 : w6.cell? ⟨w.heap.size, 4, none⟩ = some (.int .u32 (c : Int)) := R6.out.cell 4; have m5 : w6.cell? ⟨w.heap.size, 5, none⟩ = some (.int .u32 (d : Int)) := R6.out.cell 5; have m6 : w6.cell? ⟨w.heap.size, 6, none⟩ = some (.int .u32 (e : Int)) := R6.out.cell 6; clear hO6 hK6)
      | (refine step_fn 128 #[.tmp 17, .tmp 19, .const (.int .i64 4)] _ rfl rfl #[v6, .int .u32 (c : Int), .int .i64 ((4 : Nat) : Int)] (by go_simp) (put_any c 4 (by omega) w.heap.size v6 (q ++ D.p32 a ++ D.p32 b) _ O6.out z6 (by have := L4.out; first | omega | (simp only [List.length_append, p32_len]; omega))) (by rintro e w' ⟨v, rfl, _⟩; exact ⟨v, rfl⟩) ?_; rintro v7 w7 ⟨_, he, hO7, hK7⟩; cases he; have z7 : w.heap.size ≤ w7.heap.size := hK7.size z6; have B7 := hide (B6.out.trans hK7.1); have R7 := hide (hK7.2 _ _ _ R6.out (by decide)); rw [D.put_4] at hO7; have O7 := hide hO7; have m2 : w7.cell? ⟨w.heap.size, 2, none⟩ = some (.int .u32 (a : Int)) := R7.out.cell 2; have m3 : w7.cell? ⟨w.heap.size, 3, none⟩ = some (.int .u32 (b : Int)) := R7.out.cell 3; have m4 : w7.cell? ⟨w.heap.size, 4, none⟩ = some (.int .u32 (c : Int)) := R7.out.cell 4; have m5 : w7.cell? ⟨w.heap.size, 5, none⟩ = some (.int .u32 (d : Int)) := R7.out.cell 5; have m6 : w7.cell? ⟨w.heap.size, 6, none⟩ = some (.int .u32 (e : Int)) := R7.out.cell 6; clear hO7 hK7)
      | (refine step_fn 128 #[.tmp 20, .tmp 22, .const (.int .i64 4)] _ rfl rfl #[v7, .int .u32 (d : Int), .int .i64 ((4 : Nat) : Int)] (by go_simp) (put_any d 4 (by omega) w.heap.size v7 (q ++ D.p32 a ++ D.p32 b ++ D.p32 c) _ O7.out z7 (by have := L4.out; first | omega | (simp only [List.length_append, p32_len]; omega))) (by rintro e w' ⟨v, rfl, _⟩; exact ⟨v, rfl⟩) ?_; rintro v8 w8 ⟨_, he, hO8, hK8⟩; cases he; have z8 : w.heap.size ≤ w8.heap.size := hK8.size z7; have B8 := hide (B7.out.trans hK8.1); have R8 := hide (hK8.2 _ _ _ R7.out (by decide)); rw [D.put_4] at hO8; have O8 := hide hO8; have m2 : w8.cell? ⟨w.heap.size, 2, none⟩ = some (.int .u32 (a : Int)) := R8.out.cell 2; have m3 : w8.cell? ⟨w.heap.size, 3, none⟩ = some (.int .u32 (b : Int)) := R8.out.cell 3; have m4 : w8.cell? ⟨w.heap.size, 4, none⟩ = some (.int .u32 (c : Int)) := R8.out.cell 4; have m5 : w8.cell? ⟨w.heap.size, 5, none⟩ = some (.int .u32 (d : Int)) := R8.out.cell 5; have m6 : w8.cell? ⟨w.heap.size, 6, none⟩ = some (.int .u32 (e : Int)) := R8.out.cell 6; clear hO8 hK8)
      | (refine step_fn 128 #[.tmp 23, .tmp 25, .const (.int .i64 4)] _ rfl rfl #[v8, .int .u32 (e : Int), .int .i64 ((4 : Nat) : Int)] (by go_simp) (put_any e 4 (by omega) w.heap.size v8 (q ++ D.p32 a ++ D.p32 b ++ D.p32 c ++ D.p32 d) _ O8.out z8 (by have := L4.out; first | omega | (simp only [List.length_append, p32_len]; omega))) (by rintro e w' ⟨v, rfl, _⟩; exact ⟨v, rfl⟩) ?_; rintro v9 w9 ⟨_, he, hO9, hK9⟩; cases he; have z9 : w.heap.size ≤ w9.heap.size := hK9.size z8; have B9 := hide (B8.out.trans hK9.1); have R9 := hide (hK9.2 _ _ _ R8.out (by decide)); rw [D.put_4] at hO9; have O9 := hide hO9; have m2 : w9.cell? ⟨w.heap.size, 2, none⟩ = some (.int .u32 (a : Int)) := R9.out.cell 2; have m3 : w9.cell? ⟨w.heap.size, 3, none⟩ = some (.int .u32 (b : Int)) := R9.out.cell 3; have m4 : w9.cell? ⟨w.heap.size, 4, none⟩ = some (.int .u32 (c : Int)) := R9.out.cell 4; have m5 : w9.cell? ⟨w.heap.size, 5, none⟩ = some (.int .u32 (d : Int)) := R9.out.cell 5; have m6 : w9.cell? ⟨w.heap.size, 6, none⟩ = some (.int .u32 (e : Int)) := R9.out.cell 6; clear hO9 hK9)))
    all_goals
      go_wp2
      go_ret
      exact ⟨_, rfl, by rw [HQ.out]; exact O9.out, B9.out⟩
end Go.Proofs.YtdldaphkiphpnaaGreat

/- stage5/RefV -/
/- signetref3.SigBytes. -/
namespace Go.Proofs.YtdldaphkiphpnaaGreat
open Go.RowKit
set_option maxRecDepth 5000 in
theorem step_append_Bo {ops : Array Oper} {o : Oper} {a : Act} {w : World} {K : Act → World → Prop} {Q : Exit → Act → World → Prop} {E : Prop} (hgd : o.guard = none) (s x : Operand)
    (ho : o.op = .call { callee := .builtin .append, args := #[s, x], argTypes := #[37, 37] }) (base : Nat) (v : Value) (l : List UInt8) (hs : a.eval s = v) (hown : OwnB w base v l)
    (ao : Option Addr) (m c : Nat) (l2 : List UInt8) (hx : a.eval x = .slice ao m c) (hm : l2.length = m) (hsrc : SlL w ao l2) (hnil : ao = none → c = 0) (hbound : l.length + m ≤ 1099511627776) (hbase : base ≤ w.heap.size)
    (h : ∀ v' w', OwnB w' base v' (l ++ l2) → w.grownBy w' v.ownBlock → K (a.put o.dst v') w') : if Region.wanted o (yielded ops a.tmps) = true then Oper.wp Tryz.prog o a w K Q else E := by
  cases ao with
  | some ad => exact step_append_B hgd s x ho base v l hs hown ad m c l2 hx hm hsrc hbound hbase h
  | none =>
    subst hm
    have h0 : l2.length = 0 := by
      rcases Nat.eq_zero_or_pos l2.length with h | h
      · exact h
      · obtain ⟨b, o, e, _⟩ := hsrc h; cases e
    obtain rfl : l2 = [] := List.eq_nil_of_length_eq_zero h0
    obtain rfl := hnil rfl
    obtain ⟨i0, hi, _, _, _⟩ := info_parts infoB
    have hw : Region.wanted o (yielded ops a.tmps) = true := by simp [Region.wanted, hgd]
    rw [if_pos hw]
    have hrun := run_append_owned_none (P := Tryz.prog) (w := w) base 37 o.type 5 i0 1 Tryz.underlying37 hi v l.length (vb l) hown
    unfold Oper.wp
    simp [execOp, ho, resolve, invoke, builtin, hs, hx, hrun, Result.andThen]
    exact h v w (by rw [List.append_nil]; exact hown) ⟨rfl, rfl, rfl, Nat.le_refl _, fun _ _ _ => rfl⟩
set_option maxHeartbeats 3200000 in
set_option maxRecDepth 5000 in
theorem sSigBytes_any (s : D.Sig) (a1 a2 : Option Addr) (n1 c1 n2 c2 : Nat) (w : World) (h1 : Hid (s.signer.length = n1)) (h2 : Hid (s.sig.length = n2)) (hs1 : SlS w a1 s.signer) (hs2 : SlL w a2 s.sig) (hnil : a2 = none → c2 = 0) (hz1 : N.size s.signer ≤ 1000) (hz2 : n2 ≤ 100000)
    (ht : s.type < 65536) (ha : s.alg < 256) (hb : s.labels < 256) (hc : s.ttl < 4294967296) (hd : s.expire < 4294967296) (he : s.begin_ < 4294967296) (hg : s.tag < 65536) :
    Calls Tryz.prog 132 #[.agg #[.int .u16 (s.type : Int), .int .u8 (s.alg : Int), .int .u8 (s.labels : Int), .int .u32 (s.ttl : Int), .int .u32 (s.expire : Int), .int .u32 (s.begin_ : Int), .int .u16 (s.tag : Int), .slice a1 n1 c1, .slice a2 n2 c2]] w fun e w' => ∃ v', e = .returned v' ∧ OwnB w' w.heap.size v' (D.sigB s) ∧ Below w.heap.size w w' := by
  have S1 := hide hs1
  have S2 := hide hs2
  have NI := hide hnil
  have m1' := hide (small_of hz1)
  have l1 := N.wire_len s.signer
  clear hs1 hs2 hnil
  unfold D.sigB
  obtain ⟨type, alg, labels, ttl, expire, begin_, tag, signer, sig⟩ := s
  simp only at h1 h2 S1 S2 m1' l1 hz1 ht ha hb hc hd he hg ⊢
  have q1 : (alg : Int) = ((UInt8.ofNat alg).toNat : Int) := by rw [D.nat_u8 _ ha]
  have q2 : (labels : Int) = ((UInt8.ofNat labels).toNat : Int) := by rw [D.nat_u8 _ hb]
  rw [q1, q2]
  clear q1 q2
  generalize UInt8.ofNat alg = x
  generalize UInt8.ofNat labels = y
  have R0 := hide (RowAt.new w 146 #[.int .u16 (type : Int), .int .u8 (x.toNat : Int), .int .u8 (y.toNat : Int), .int .u32 (ttl : Int), .int .u32 (expire : Int), .int .u32 (begin_ : Int), .int .u16 (tag : Int), .slice a1 n1 c1, .slice a2 n2 c2])
  have B0 := hide ((Below.refl w.heap.size w).alloc (Nat.le_refl _) (.cells #[.int .u16 (type : Int), .int .u8 (x.toNat : Int), .int .u8 (y.toNat : Int), .int .u32 (ttl : Int), .int .u32 (expire : Int), .int .u32 (begin_ : Int), .int .u16 (tag : Int), .slice a1 n1 c1, .slice a2 n2 c2] 146))
  have HL1 : Hid ((N.wire signer).length ≤ 1000) := by show _ ≤ _; omega
  clear l1
  go_enter Tryz.func132, Tryz.ntmps132
  go_wp2
  have m0 : (w.alloc (.cells #[.int .u16 (type : Int), .int .u8 (x.toNat : Int), .int .u8 (y.toNat : Int), .int .u32 (ttl : Int), .int .u32 (expire : Int), .int .u32 (begin_ : Int), .int .u16 (tag : Int), .slice a1 n1 c1, .slice a2 n2 c2] 146)).cell? ⟨w.heap.size, 0, none⟩ = some (.int .u16 (type : Int)) := R0.out.cell 0
  have m1 : (w.alloc (.cells #[.int .u16 (type : Int), .int .u8 (x.toNat : Int), .int .u8 (y.toNat : Int), .int .u32 (ttl : Int), .int .u32 (expire : Int), .int .u32 (begin_ : Int), .int .u16 (tag : Int), .slice a1 n1 c1, .slice a2 n2 c2] 146)).cell? ⟨w.heap.size, 1, none⟩ = some (.int .u8 (x.toNat : Int)) := R0.out.cell 1
  have m2 : (w.alloc (.cells #[.int .u16 (type : Int), .int .u8 (x.toNat : Int), .int .u8 (y.toNat : Int), .int .u32 (ttl : Int), .int .u32 (expire : Int), .int .u32 (begin_ : Int), .int .u16 (tag : Int), .slice a1 n1 c1, .slice a2 n2 c2] 146)).cell? ⟨w.heap.size, 2, none⟩ = some (.int .u8 (y.toNat : Int)) := R0.out.cell 2
  have hwt : IntKind.u32.wrap (type : Int) = (type : Int) := by rw [IntKind.wrap_u32]; omega
  have hwg : IntKind.u32.wrap (tag : Int) = (tag : Int) := by rw [IntKind.wrap_u32]; omega
  go_region_held3 (fun w' => w'.cell? ⟨w.heap.size, 0, none⟩ = some (.int .u16 (type : Int)) ∧ w'.cell? ⟨w.heap.size, 1, none⟩ = some (.int .u8 (x.toNat : Int)) ∧ w'.cell? ⟨w.heap.size, 2, none⟩ = some (.int .u8 (y.toNat : Int))) ((first | (with_reducible exact ⟨m0, m1, m2⟩) | exact ⟨m0, m1, m2⟩ | exact ⟨(R1.out.alloc _).cell 0, (R1.out.alloc _).cell 1, (R1.out.alloc _).cell 2⟩ | exact ⟨(R0.out.alloc _).cell 0, (R0.out.alloc _).cell 1, (R0.out.alloc _).cell 2⟩)) ((first
    | (refine step_fn 128 #[.const (.slice none 0 0), .tmp 6, .const (.int .i64 2)] _ rfl rfl #[.slice none 0 0, .int .u32 (type : Int), .int .i64 ((2 : Nat) : Int)] (by go_simp) (put_any type 2 (by omega) _ (.slice none 0 0) [] _ (OwnB.nil _ _) (Nat.le_refl _) (by simp)) (by rintro e w' ⟨v, rfl, _⟩; exact ⟨v, rfl⟩) ?_; rintro v1 w1 ⟨_, he, hO1, hK1⟩; cases he; have R1 := hide (RowAt.below (by exact R0.out) hK1.1 (by simp <;> omega)); have B1 := hide ((below_allocs B0.out (Nat.le_refl _) (Or.inl rfl)).trans (hK1.1.mono (by simp <;> omega))); have z1 : w.heap.size ≤ w1.heap.size := Nat.le_trans (by simp <;> omega) hK1.1.size; rw [D.put_2, List.nil_append] at hO1; have O1 := hide (OwnB.lower (base' := w.heap.size) hO1 (by simp <;> omega)); have m0 : w1.cell? ⟨w.heap.size, 0, none⟩ = some (.int .u16 (type : Int)) := R1.out.cell 0; have m1 : w1.cell? ⟨w.heap.size, 1, none⟩ = some (.int .u8 (x.toNat : Int)) := R1.out.cell 1; have m2 : w1.cell? ⟨w.heap.size, 2, none⟩ = some (.int .u8 (y.toNat : Int)) := R1.out.cell 2; clear hO1 hK1)
    | (refine step_fn 128 #[.const (.slice none 0 0), .tmp 6, .const (.int .i64 2)] _ rfl rfl #[.slice none 0 0, .int .u32 (type : Int), .int .i64 ((2 : Nat) : Int)] (by go_simp) (put_any type 2 (by omega) _ (.slice none 0 0) [] _ (OwnB.nil _ _) (Nat.le_refl _) (by simp)) (by rintro e w' ⟨v, rfl, _⟩; exact ⟨v, rfl⟩) ?_; rintro v1 w1 ⟨_, he, hO1, hK1⟩; cases he; have R1 := hide (RowAt.below (by exact R0.out.alloc _) hK1.1 (by simp <;> omega)); have B1 := hide ((below_allocs B0.out (Nat.le_refl _) (Or.inr ⟨_, rfl⟩)).trans (hK1.1.mono (by simp <;> omega))); have sl := SlL.below (by exact SlL.litm (w.alloc (.cells #[.int .u16 (type : Int), .int .u8 (x.toNat : Int), .int .u8 (y.toNat : Int), .int .u32 (ttl : Int), .int .u32 (expire : Int), .int .u32 (begin_ : Int), .int .u16 (tag : Int), .slice a1 n1 c1, .slice a2 n2 c2] 146)) [x, y] _ 5 (0, 0) rfl) hK1.1 (Nat.le_refl _); rw [show (w.alloc (.cells #[.int .u16 (type : Int), .int .u8 (x.toNat : Int), .int .u8 (y.toNat : Int), .int .u32 (ttl : Int), .int .u32 (expire : Int), .int .u32 (begin_ : Int), .int .u16 (tag : Int), .slice a1 n1 c1, .slice a2 n2 c2] 146)).heap.size = w.heap.size + 1 by simp] at sl; have SL := hide sl; clear sl; have z1 : w.heap.size ≤ w1.heap.size := Nat.le_trans (by simp <;> omega) hK1.1.size; rw [D.put_2, List.nil_append] at hO1; have O1 := hide (OwnB.lower (base' := w.heap.size) hO1 (by simp <;> omega)); have m0 : w1.cell? ⟨w.heap.size, 0, none⟩ = some (.int .u16 (type : Int)) := R1.out.cell 0; have m1 : w1.cell? ⟨w.heap.size, 1, none⟩ = some (.int .u8 (x.toNat : Int)) := R1.out.cell 1; have m2 : w1.cell? ⟨w.heap.size, 2, none⟩ = some (.int .u8 (y.toNat : Int)) := R1.out.cell 2; clear hO1 hK1)
    | (refine step_append_B rfl (.tmp 7) (.tmp 12) rfl w.heap.size v1 (D.p16 type) (by simp [Act.eval]) (by exact O1.out.alloc _) ⟨w1.heap.size, 0, none⟩ 2 2 [x, y] (by simp [Act.eval]) rfl (by exact SlL.litm w1 [x, y] _ 5 (0, 0) rfl) (by simp [p16_len]) (by simp; omega) ?_; intro v2 w2 hO2 hG2; have K2 := hide (Kp.app O1.out hG2 z1); have z2 : w.heap.size ≤ w2.heap.size := K2.out.size z1; have B2 := hide (B1.out.trans K2.out.1); have R2 := hide (K2.out.2 _ _ _ R1.out (by decide)); have O2 := hide hO2; have m0 : w2.cell? ⟨w.heap.size, 0, none⟩ = some (.int .u16 (type : Int)) := R2.out.cell 0; have m1 : w2.cell? ⟨w.heap.size, 1, none⟩ = some (.int .u8 (x.toNat : Int)) := R2.out.cell 1; have m2 : w2.cell? ⟨w.heap.size, 2, none⟩ = some (.int .u8 (y.toNat : Int)) := R2.out.cell 2; clear hG2 hO2)
    | (refine step_append_B rfl (.tmp 7) (.tmp 12) rfl w.heap.size v1 (D.p16 type) (by simp [Act.eval]) (by exact O1.out) _ 2 2 [x, y] (by simp [Act.eval]; rfl) rfl (by exact SL.out) (by simp [p16_len]) z1 ?_; intro v2 w2 hO2 hG2; have K2 := hide (Kp.grown O1.out hG2 z1); have z2 : w.heap.size ≤ w2.heap.size := K2.out.size z1; have B2 := hide (B1.out.trans K2.out.1); have R2 := hide (K2.out.2 _ _ _ R1.out (by decide)); have O2 := hide hO2; have m0 : w2.cell? ⟨w.heap.size, 0, none⟩ = some (.int .u16 (type : Int)) := R2.out.cell 0; have m1 : w2.cell? ⟨w.heap.size, 1, none⟩ = some (.int .u8 (x.toNat : Int)) := R2.out.cell 1; have m2 : w2.cell? ⟨w.heap.size, 2, none⟩ = some (.int .u8 (y.toNat : Int)) := R2.out.cell 2; clear hG2 hO2)))
  all_goals
    clear B0 R0 B1 R1 O1 m0 m1 m2 K2
    try clear SL
    have L2 : Hid ((D.p16 type ++ [x, y]).length ≤ 4) := by show _ ≤ _; simp [p16_len]
    obtain ⟨q, hq⟩ : ∃ q, D.p16 type ++ [x, y] = q := ⟨_, rfl⟩
    rw [hq] at O2 L2
    have HQ := hide hq
    clear hq
    go_wp2
    replace O2 : Hid (OwnB w2.drew w.heap.size v2 q) := hide (by exact O2.out)
    replace B2 := hide B2.out.drew
    replace R2 := hide R2.out.drew
    replace z2 : w.heap.size ≤ w2.drew.heap.size := z2
    have m3 : w2.drew.cell? ⟨w.heap.size, 3, none⟩ = some (.int .u32 (ttl : Int)) := R2.out.cell 3
    have m4 : w2.drew.cell? ⟨w.heap.size, 4, none⟩ = some (.int .u32 (expire : Int)) := R2.out.cell 4
    have m5 : w2.drew.cell? ⟨w.heap.size, 5, none⟩ = some (.int .u32 (begin_ : Int)) := R2.out.cell 5
    go_region_held3 (fun w' => w'.cell? ⟨w.heap.size, 3, none⟩ = some (.int .u32 (ttl : Int)) ∧ w'.cell? ⟨w.heap.size, 4, none⟩ = some (.int .u32 (expire : Int)) ∧ w'.cell? ⟨w.heap.size, 5, none⟩ = some (.int .u32 (begin_ : Int))) ((first | (with_reducible exact ⟨m3, m4, m5⟩) | exact ⟨m3, m4, m5⟩)) ((first
      | (refine step_fn 128 #[.tmp 14, .tmp 16, .const (.int .i64 4)] _ rfl rfl #[v2, .int .u32 (ttl : Int), .int .i64 ((4 : Nat) : Int)] (by go_simp) (put_any ttl 4 (by omega) w.heap.size v2 (q) _ O2.out z2 (by have := L2.out; first | omega | (simp only [List.length_append, p32_len]; omega))) (by rintro e w' ⟨v, rfl, _⟩; exact ⟨v, rfl⟩) ?_; rintro v3 w3 ⟨_, he, hO3, hK3⟩; cases he; have z3 : w.heap.size ≤ w3.heap.size := hK3.size z2; have B3 := hide (B2.out.trans hK3.1); have R3 := hide (hK3.2 _ _ _ R2.out (by decide)); rw [D.put_4] at hO3; have O3 := hide hO3; have m3 : w3.cell? ⟨w.heap.size, 3, none⟩ = some (.int .u32 (ttl : Int)) := R3.out.cell 3; have m4 : w3.cell? ⟨w.heap.size, 4, none⟩ = some (.int .u32 (expire : Int)) := R3.out.cell 4; have m5 : w3.cell? ⟨w.heap.size, 5, none⟩ = some (.int .u32 (begin_ : Int)) := R3.out.cell 5; clear hO3 hK3)
      | (refine step_fn 128 #[.tmp 17, .tmp 19, .const (.int .i64 4)] _ rfl rfl #[v3, .int .u32 (expire : Int), .int .i64 ((4 : Nat) : Int)] (by go_simp) (put_any expire 4 (by omega) w.heap.size v3 (q ++ D.p32 ttl) _ O3.out z3 (by have := L2.out; first | omega | (simp only [List.length_append, p32_len]; omega))) (by rintro e w' ⟨v, rfl, _⟩; exact ⟨v, rfl⟩) ?_; rintro v4 w4 ⟨_, he, hO4, hK4⟩; cases he; have z4 : w.heap.size ≤ w4.heap.size := hK4.size z3; have B4 := hide (B3.out.trans hK4.1); have R4 := hide (hK4.2 _ _ _ R3.out (by decide)); rw [D.put_4] at hO4; have O4 := hide hO4; have m3 : w4.cell? ⟨w.heap.size, 3, none⟩ = some (.int .u32 (ttl : Int)) := R4.out.cell 3; have m4 : w4.cell? ⟨w.heap.size, 4, none⟩ = some (.int .u32 (expire : Int)) := R4.out.cell 4; have m5 : w4.cell? ⟨w.heap.size, 5, none⟩ = some (.int .u32 (begin_ : Int)) := R4.out.cell 5; clear hO4 hK4)
      | (refine step_fn 128 #[.tmp 20, .tmp 22, .const (.int .i64 4)] _ rfl rfl #[v4, .int .u32 (begin_ : Int), .int .i64 ((4 : Nat) : Int)] (by go_simp) (put_any begin_ 4 (by omega) w.heap.size v4 (q ++ D.p32 ttl ++ D.p32 expire) _ O4.out z4 (by have := L2.out; first | omega | (simp only [List.length_append, p32_len]; omega))) (by rintro e w' ⟨v, rfl, _⟩; exact ⟨v, rfl⟩) ?_; rintro v5 w5 ⟨_, he, hO5, hK5⟩; cases he; have z5 : w.heap.size ≤ w5.heap.size := hK5.size z4; have B5 := hide (B4.out.trans hK5.1); have R5 := hide (hK5.2 _ _ _ R4.out (by decide)); rw [D.put_4] at hO5; have O5 := hide hO5; have m3 : w5.cell? ⟨w.heap.size, 3, none⟩ = some (.int .u32 (ttl : Int)) := R5.out.cell 3; have m4 : w5.cell? ⟨w.heap.size, 4, none⟩ = some (.int .u32 (expire : Int)) := R5.out.cell 4; have m5 : w5.cell? ⟨w.heap.size, 5, none⟩ = some (.int .u32 (begin_ : Int)) := R5.out.cell 5; clear hO5 hK5)))
    all_goals
      clear B2 R2 O2 B3 R3 O3 B4 R4 O4 m3 m4 m5
      have L5 : Hid ((q ++ D.p32 ttl ++ D.p32 expire ++ D.p32 begin_).length ≤ 16) := by have := L2.out; show _ ≤ _; simp only [List.length_append, p32_len]; omega
      obtain ⟨q5, hq5⟩ : ∃ q5, q ++ D.p32 ttl ++ D.p32 expire ++ D.p32 begin_ = q5 := ⟨_, rfl⟩
      rw [hq5] at O5 L5
      have HQ5 := hide hq5
      clear hq5
      go_wp2
      replace O5 : Hid (OwnB w5.drew w.heap.size v5 q5) := hide (by exact O5.out)
      replace B5 := hide B5.out.drew
      replace R5 := hide R5.out.drew
      replace z5 : w.heap.size ≤ w5.drew.heap.size := z5
      have m6 : w5.drew.cell? ⟨w.heap.size, 6, none⟩ = some (.int .u16 (tag : Int)) := R5.out.cell 6
      have m7 : w5.drew.cell? ⟨w.heap.size, 7, none⟩ = some (.slice a1 n1 c1) := R5.out.cell 7
      have m8 : w5.drew.cell? ⟨w.heap.size, 8, none⟩ = some (.slice a2 n2 c2) := R5.out.cell 8
      go_region_held3 (fun w' => w'.cell? ⟨w.heap.size, 6, none⟩ = some (.int .u16 (tag : Int)) ∧ w'.cell? ⟨w.heap.size, 7, none⟩ = some (.slice a1 n1 c1) ∧ w'.cell? ⟨w.heap.size, 8, none⟩ = some (.slice a2 n2 c2)) ((first | (with_reducible exact ⟨m6, m7, m8⟩) | exact ⟨m6, m7, m8⟩)) ((first
        | (refine step_fn 128 #[.tmp 24, .tmp 27, .const (.int .i64 2)] _ rfl rfl #[v5, .int .u32 (tag : Int), .int .i64 ((2 : Nat) : Int)] (by go_simp) (put_any tag 2 (by omega) w.heap.size v5 q5 _ O5.out z5 (by have := L5.out; omega)) (by rintro e w' ⟨v, rfl, _⟩; exact ⟨v, rfl⟩) ?_; rintro v6 w6 ⟨_, he, hO6, hK6⟩; cases he; have z6 : w.heap.size ≤ w6.heap.size := hK6.size z5; have B6 := hide (B5.out.trans hK6.1); have R6 := hide (hK6.2 _ _ _ R5.out (by decide)); rw [D.put_2] at hO6; have O6 := hide hO6; have m6 : w6.cell? ⟨w.heap.size, 6, none⟩ = some (.int .u16 (tag : Int)) := R6.out.cell 6; have m7 : w6.cell? ⟨w.heap.size, 7, none⟩ = some (.slice a1 n1 c1) := R6.out.cell 7; have m8 : w6.cell? ⟨w.heap.size, 8, none⟩ = some (.slice a2 n2 c2) := R6.out.cell 8; clear hO6 hK6)
        | (refine step_fn 91 #[.tmp 30] _ rfl rfl #[.slice a1 n1 c1] (by go_simp) (rWire_any signer a1 n1 c1 _ h1 (S1.out.below B6.out (Nat.le_refl _)) m1') (by rintro e w' ⟨v, rfl, _⟩; exact ⟨v, rfl⟩) ?_; rintro v7 w7 ⟨_, he, hO7, hb7⟩; cases he; have R7 := hide (R6.out.below hb7 R6.out.lt); have OM := hide (O6.out.below hb7); obtain ⟨g9, c9, rfl, _, _, _, _, _⟩ := hO7.form (by simp [N.wire]); have S9 := hide hO7.sl; have z7 : w.heap.size ≤ w7.heap.size := Nat.le_trans z6 hb7.size; have B7 := hide (B6.out.trans (hb7.mono z6)); have m6 : w7.cell? ⟨w.heap.size, 6, none⟩ = some (.int .u16 (tag : Int)) := R7.out.cell 6; have m7 : w7.cell? ⟨w.heap.size, 7, none⟩ = some (.slice a1 n1 c1) := R7.out.cell 7; have m8 : w7.cell? ⟨w.heap.size, 8, none⟩ = some (.slice a2 n2 c2) := R7.out.cell 8; clear hO7 hb7)
        | (refine step_append_B rfl (.tmp 28) (.tmp 31) rfl w.heap.size v6 (q5 ++ D.p16 tag) (by simp [Act.eval]) OM.out ⟨g9, 0, none⟩ (N.wire signer).length c9 (N.wire signer) (by simp [Act.eval]) rfl S9.out (by have := HL1.out; have := L5.out; simp only [List.length_append, p16_len]; omega) z7 ?_; intro v8 w8 hO8 hG8; have K8 := hide (Kp.grown OM.out hG8 z7); have z8 : w.heap.size ≤ w8.heap.size := K8.out.size z7; have B8 := hide (B7.out.trans K8.out.1); have R8 := hide (K8.out.2 _ _ _ R7.out (by decide)); have O8 := hide hO8; have m6 : w8.cell? ⟨w.heap.size, 6, none⟩ = some (.int .u16 (tag : Int)) := R8.out.cell 6; have m7 : w8.cell? ⟨w.heap.size, 7, none⟩ = some (.slice a1 n1 c1) := R8.out.cell 7; have m8 : w8.cell? ⟨w.heap.size, 8, none⟩ = some (.slice a2 n2 c2) := R8.out.cell 8; clear hG8 hO8)
        | (refine step_append_Bo rfl (.tmp 32) (.tmp 34) rfl w.heap.size v8 (q5 ++ D.p16 tag ++ N.wire signer) (by simp [Act.eval]) O8.out a2 n2 c2 sig (by simp [Act.eval]) h2.out (S2.out.below B8.out (Nat.le_refl _)) NI.out (by have := HL1.out; have := L5.out; simp only [List.length_append, p16_len]; omega) z8 ?_; intro v9 w9 hO9 hG9; have K9 := hide (Kp.grown O8.out hG9 z8); have B9 := hide (B8.out.trans K9.out.1); have R9 := hide (K9.out.2 _ _ _ R8.out (by decide)); have O9 := hide hO9; have m6 : w9.cell? ⟨w.heap.size, 6, none⟩ = some (.int .u16 (tag : Int)) := R9.out.cell 6; have m7 : w9.cell? ⟨w.heap.size, 7, none⟩ = some (.slice a1 n1 c1) := R9.out.cell 7; have m8 : w9.cell? ⟨w.heap.size, 8, none⟩ = some (.slice a2 n2 c2) := R9.out.cell 8; clear hG9 hO9)))
      all_goals
        go_wp2
        go_ret
        exact ⟨_, rfl, by rw [HQ.out, HQ5.out]; exact O9.out, B9.out⟩
end Go.Proofs.YtdldaphkiphpnaaGreat

