/- signetref3.SoaBytes. -/
import Derived.Test.YtagopkmehlpjpaaRefL
import Derived.Test.YtagopkmehlpjpaaAppS
import Derived.Deep.RegionHeld3
namespace Go.Proofs.Ytagopkmehlpjpaa
open Go.RowKit
set_option maxHeartbeats 3200000 in
set_option maxRecDepth 5000 in
theorem sSoaBytes_any (s : D.Soa) (a1 a2 : Option Addr) (n1 c1 n2 c2 : Nat) (w : World) (h1 : Hid (s.main.length = n1)) (h2 : Hid (s.box.length = n2)) (hs1 : SlS w a1 s.main) (hs2 : SlS w a2 s.box) (hz1 : N.size s.main ≤ 1000) (hz2 : N.size s.box ≤ 1000)
    (ha : s.a < 4294967296) (hb : s.b < 4294967296) (hc : s.c < 4294967296) (hd : s.d < 4294967296) (he : s.e < 4294967296) :
    Calls Try.prog 44 #[.agg #[.slice a1 n1 c1, .slice a2 n2 c2, .int .u32 (s.a : Int), .int .u32 (s.b : Int), .int .u32 (s.c : Int), .int .u32 (s.d : Int), .int .u32 (s.e : Int)]] w fun e w' => ∃ v', e = .returned v' ∧ OwnB w' w.heap.size v' (D.soaB s) ∧ Below w.heap.size w w' := by
  have S1 := hide hs1
  have S2 := hide hs2
  have m1 := hide (small_of hz1)
  have m2 := hide (small_of hz2)
  have l1 := N.wire_len s.main
  have l2 := N.wire_len s.box
  clear hs1 hs2
  unfold D.soaB
  obtain ⟨main, box, a, b, c, d, e⟩ := s
  simp only at h1 h2 S1 S2 m1 m2 l1 l2 hz1 hz2 ha hb hc hd he ⊢
  have HROW := hide (RowAt.new w 43 #[.slice a1 n1 c1, .slice a2 n2 c2, .int .u32 (a : Int), .int .u32 (b : Int), .int .u32 (c : Int), .int .u32 (d : Int), .int .u32 (e : Int)])
  have HB0 := hide ((Below.refl w.heap.size w).alloc (Nat.le_refl _) (.cells #[.slice a1 n1 c1, .slice a2 n2 c2, .int .u32 (a : Int), .int .u32 (b : Int), .int .u32 (c : Int), .int .u32 (d : Int), .int .u32 (e : Int)] 43))
  have HL1 : Hid ((N.wire main).length ≤ 1000) := by show _ ≤ _; omega
  have HL2 : Hid ((N.wire box).length ≤ 1000) := by show _ ≤ _; omega
  clear l1 l2
  go_enter Try.func44, Try.ntmps44
  go_wp2
  have x0 : (w.alloc (.cells #[.slice a1 n1 c1, .slice a2 n2 c2, .int .u32 (a : Int), .int .u32 (b : Int), .int .u32 (c : Int), .int .u32 (d : Int), .int .u32 (e : Int)] 43)).cell? ⟨w.heap.size, 0, none⟩ = some (.slice a1 n1 c1) := HROW.out.cell 0
  have x1 : (w.alloc (.cells #[.slice a1 n1 c1, .slice a2 n2 c2, .int .u32 (a : Int), .int .u32 (b : Int), .int .u32 (c : Int), .int .u32 (d : Int), .int .u32 (e : Int)] 43)).cell? ⟨w.heap.size, 1, none⟩ = some (.slice a2 n2 c2) := HROW.out.cell 1
  go_region_held3 (fun w' => w'.cell? ⟨w.heap.size, 0, none⟩ = some (.slice a1 n1 c1) ∧ w'.cell? ⟨w.heap.size, 1, none⟩ = some (.slice a2 n2 c2)) ((first | (with_reducible exact ⟨x0, x1⟩) | exact ⟨x0, x1⟩)) ((first
    | (refine step_fn 37 #[.tmp 5] _ rfl rfl #[.slice a1 n1 c1] (by go_simp) (rWire_any main a1 n1 c1 _ h1 (by exact S1.out.alloc _) m1) (by rintro e w' ⟨v, rfl, _⟩; exact ⟨v, rfl⟩) ?_; rintro v1 w1 ⟨_, he, hO1, hb1⟩; cases he; have r1 := RowAt.below (by exact HROW.out) hb1 (by simp <;> omega); have p1 : w1.cell? ⟨w.heap.size, 1, none⟩ = some (.slice a2 n2 c2) := r1.cell 1; have x0 : w1.cell? ⟨w.heap.size, 0, none⟩ = some (.slice a1 n1 c1) := r1.cell 0; have x1 : w1.cell? ⟨w.heap.size, 1, none⟩ = some (.slice a2 n2 c2) := r1.cell 1; have R1 := hide r1; have O1 := hide (OwnB.lower (base' := w.heap.size) hO1 (by simp <;> omega)); have z1 : w.heap.size ≤ w1.heap.size := Nat.le_trans (by simp <;> omega) hb1.size; have B1 := hide ((below_allocs HB0.out (Nat.le_refl _) (Or.inl rfl)).trans (hb1.mono (by simp <;> omega))); clear r1 hO1 hb1)
    | (refine step_fn 37 #[.tmp 8] _ rfl rfl #[.slice a2 n2 c2] (by go_simp) (rWire_any box a2 n2 c2 _ h2 (by exact S2.out.below B1.out (Nat.le_refl _)) m2) (by rintro e w' ⟨v, rfl, _⟩; exact ⟨v, rfl⟩) ?_; rintro v2 w2 ⟨_, he, hO2, hb2⟩; cases he; have R2 := hide (R1.out.below hb2 R1.out.lt); have x0 : w2.cell? ⟨w.heap.size, 0, none⟩ = some (.slice a1 n1 c1) := R2.out.cell 0; have x1 : w2.cell? ⟨w.heap.size, 1, none⟩ = some (.slice a2 n2 c2) := R2.out.cell 1; have OM := hide (O1.out.below hb2); obtain ⟨g9, c9, rfl, _, _, _, _, _⟩ := hO2.form (by simp [N.wire]); have S9 := hide hO2.sl; have z2 : w.heap.size ≤ w2.heap.size := Nat.le_trans z1 hb2.size; have B2 := hide (B1.out.trans (hb2.mono z1)); clear hO2 hb2)
    | (refine step_append_B rfl (.tmp 6) (.tmp 9) rfl w.heap.size v1 (N.wire main) (by simp [Act.eval]) (by exact OM.out) ⟨g9, 0, none⟩ (N.wire box).length c9 (N.wire box) (by simp [Act.eval]) rfl (by exact S9.out) (by have := HL1.out; have := HL2.out; omega) (by exact z2) ?_; intro v4 w4 hO4 hG4; have K4 := hide (Kp.grown OM.out hG4 z2); have O4 := hide hO4; have R4 := hide (K4.out.2 _ _ _ R2.out (by decide)); have x0 : w4.cell? ⟨w.heap.size, 0, none⟩ = some (.slice a1 n1 c1) := R4.out.cell 0; have x1 : w4.cell? ⟨w.heap.size, 1, none⟩ = some (.slice a2 n2 c2) := R4.out.cell 1; clear hG4 hO4)))
  all_goals
    have z4 : w.heap.size ≤ w4.heap.size := K4.out.size z2
    have B4 := hide (B2.out.trans K4.out.1)
    have R4 := hide (K4.out.2 _ _ _ R2.out (by decide))
    have L4 : Hid ((N.wire main ++ N.wire box).length ≤ 2000) := by have := HL1.out; have := HL2.out; show _ ≤ _; rw [List.length_append]; omega
    obtain ⟨q, hq⟩ : ∃ q, N.wire main ++ N.wire box = q := ⟨_, rfl⟩
    rw [hq] at O4 L4
    have HQ := hide hq
    clear hq
    have m2 : w4.cell? ⟨w.heap.size, 2, none⟩ = some (.int .u32 (a : Int)) := R4.out.cell 2
    have m3 : w4.cell? ⟨w.heap.size, 3, none⟩ = some (.int .u32 (b : Int)) := R4.out.cell 3
    have m4 : w4.cell? ⟨w.heap.size, 4, none⟩ = some (.int .u32 (c : Int)) := R4.out.cell 4
    have m5 : w4.cell? ⟨w.heap.size, 5, none⟩ = some (.int .u32 (d : Int)) := R4.out.cell 5
    have m6 : w4.cell? ⟨w.heap.size, 6, none⟩ = some (.int .u32 (e : Int)) := R4.out.cell 6
    clear R2 B2 K4 S9 OM R1 B1 O1
    go_wp2
    replace O4 : Hid (OwnB w4.drew w.heap.size v4 q) := hide (by exact O4.out)
    replace B4 := hide B4.out.drew
    replace R4 := hide R4.out.drew
    replace z4 : w.heap.size ≤ w4.drew.heap.size := z4
    go_region_held3 (fun w' => w'.cell? ⟨w.heap.size, 2, none⟩ = some (.int .u32 (a : Int)) ∧ w'.cell? ⟨w.heap.size, 3, none⟩ = some (.int .u32 (b : Int)) ∧ w'.cell? ⟨w.heap.size, 4, none⟩ = some (.int .u32 (c : Int)) ∧ w'.cell? ⟨w.heap.size, 5, none⟩ = some (.int .u32 (d : Int)) ∧ w'.cell? ⟨w.heap.size, 6, none⟩ = some (.int .u32 (e : Int))) ((first | (with_reducible exact ⟨m2, m3, m4, m5, m6⟩) | exact ⟨m2, m3, m4, m5, m6⟩)) ((first
      | (refine step_fn 38 #[.tmp 11, .tmp 13, .const (.int .i64 4)] _ rfl rfl #[v4, .int .u32 (a : Int), .int .i64 ((4 : Nat) : Int)] (by go_simp) (put_any a 4 (by omega) w.heap.size v4 (q) _ O4.out z4 (by have := L4.out; first | omega | (simp only [List.length_append, p32_len]; omega))) (by rintro e w' ⟨v, rfl, _⟩; exact ⟨v, rfl⟩) ?_; rintro v5 w5 ⟨_, he, hO5, hK5⟩; cases he; have z5 : w.heap.size ≤ w5.heap.size := hK5.size z4; have B5 := hide (B4.out.trans hK5.1); have R5 := hide (hK5.2 _ _ _ R4.out (by decide)); rw [D.put_4] at hO5; have O5 := hide hO5; have m2 : w5.cell? ⟨w.heap.size, 2, none⟩ = some (.int .u32 (a : Int)) := R5.out.cell 2; have m3 : w5.cell? ⟨w.heap.size, 3, none⟩ = some (.int .u32 (b : Int)) := R5.out.cell 3; have m4 : w5.cell? ⟨w.heap.size, 4, none⟩ = some (.int .u32 (c : Int)) := R5.out.cell 4; have m5 : w5.cell? ⟨w.heap.size, 5, none⟩ = some (.int .u32 (d : Int)) := R5.out.cell 5; have m6 : w5.cell? ⟨w.heap.size, 6, none⟩ = some (.int .u32 (e : Int)) := R5.out.cell 6; clear hO5 hK5)
      | (refine step_fn 38 #[.tmp 14, .tmp 16, .const (.int .i64 4)] _ rfl rfl #[v5, .int .u32 (b : Int), .int .i64 ((4 : Nat) : Int)] (by go_simp) (put_any b 4 (by omega) w.heap.size v5 (q ++ D.p32 a) _ O5.out z5 (by have := L4.out; first | omega | (simp only [List.length_append, p32_len]; omega))) (by rintro e w' ⟨v, rfl, _⟩; exact ⟨v, rfl⟩) ?_; rintro v6 w6 ⟨_, he, hO6, hK6⟩; cases he; have z6 : w.heap.size ≤ w6.heap.size := hK6.size z5; have B6 := hide (B5.out.trans hK6.1); have R6 := hide (hK6.2 _ _ _ R5.out (by decide)); rw [D.put_4] at hO6; have O6 := hide hO6; have m2 : w6.cell? ⟨w.heap.size, 2, none⟩ = some (.int .u32 (a : Int)) := R6.out.cell 2; have m3 : w6.cell? ⟨w.heap.size, 3, none⟩ = some (.int .u32 (b : Int)) := R6.out.cell 3; have m4 : w6.cell? ⟨w.heap.size, 4, none⟩ = some (.int .u32 (c : Int)) := R6.out.cell 4; have m5 : w6.cell? ⟨w.heap.size, 5, none⟩ = some (.int .u32 (d : Int)) := R6.out.cell 5; have m6 : w6.cell? ⟨w.heap.size, 6, none⟩ = some (.int .u32 (e : Int)) := R6.out.cell 6; clear hO6 hK6)
      | (refine step_fn 38 #[.tmp 17, .tmp 19, .const (.int .i64 4)] _ rfl rfl #[v6, .int .u32 (c : Int), .int .i64 ((4 : Nat) : Int)] (by go_simp) (put_any c 4 (by omega) w.heap.size v6 (q ++ D.p32 a ++ D.p32 b) _ O6.out z6 (by have := L4.out; first | omega | (simp only [List.length_append, p32_len]; omega))) (by rintro e w' ⟨v, rfl, _⟩; exact ⟨v, rfl⟩) ?_; rintro v7 w7 ⟨_, he, hO7, hK7⟩; cases he; have z7 : w.heap.size ≤ w7.heap.size := hK7.size z6; have B7 := hide (B6.out.trans hK7.1); have R7 := hide (hK7.2 _ _ _ R6.out (by decide)); rw [D.put_4] at hO7; have O7 := hide hO7; have m2 : w7.cell? ⟨w.heap.size, 2, none⟩ = some (.int .u32 (a : Int)) := R7.out.cell 2; have m3 : w7.cell? ⟨w.heap.size, 3, none⟩ = some (.int .u32 (b : Int)) := R7.out.cell 3; have m4 : w7.cell? ⟨w.heap.size, 4, none⟩ = some (.int .u32 (c : Int)) := R7.out.cell 4; have m5 : w7.cell? ⟨w.heap.size, 5, none⟩ = some (.int .u32 (d : Int)) := R7.out.cell 5; have m6 : w7.cell? ⟨w.heap.size, 6, none⟩ = some (.int .u32 (e : Int)) := R7.out.cell 6; clear hO7 hK7)
      | (refine step_fn 38 #[.tmp 20, .tmp 22, .const (.int .i64 4)] _ rfl rfl #[v7, .int .u32 (d : Int), .int .i64 ((4 : Nat) : Int)] (by go_simp) (put_any d 4 (by omega) w.heap.size v7 (q ++ D.p32 a ++ D.p32 b ++ D.p32 c) _ O7.out z7 (by have := L4.out; first | omega | (simp only [List.length_append, p32_len]; omega))) (by rintro e w' ⟨v, rfl, _⟩; exact ⟨v, rfl⟩) ?_; rintro v8 w8 ⟨_, he, hO8, hK8⟩; cases he; have z8 : w.heap.size ≤ w8.heap.size := hK8.size z7; have B8 := hide (B7.out.trans hK8.1); have R8 := hide (hK8.2 _ _ _ R7.out (by decide)); rw [D.put_4] at hO8; have O8 := hide hO8; have m2 : w8.cell? ⟨w.heap.size, 2, none⟩ = some (.int .u32 (a : Int)) := R8.out.cell 2; have m3 : w8.cell? ⟨w.heap.size, 3, none⟩ = some (.int .u32 (b : Int)) := R8.out.cell 3; have m4 : w8.cell? ⟨w.heap.size, 4, none⟩ = some (.int .u32 (c : Int)) := R8.out.cell 4; have m5 : w8.cell? ⟨w.heap.size, 5, none⟩ = some (.int .u32 (d : Int)) := R8.out.cell 5; have m6 : w8.cell? ⟨w.heap.size, 6, none⟩ = some (.int .u32 (e : Int)) := R8.out.cell 6; clear hO8 hK8)
      | (refine step_fn 38 #[.tmp 23, .tmp 25, .const (.int .i64 4)] _ rfl rfl #[v8, .int .u32 (e : Int), .int .i64 ((4 : Nat) : Int)] (by go_simp) (put_any e 4 (by omega) w.heap.size v8 (q ++ D.p32 a ++ D.p32 b ++ D.p32 c ++ D.p32 d) _ O8.out z8 (by have := L4.out; first | omega | (simp only [List.length_append, p32_len]; omega))) (by rintro e w' ⟨v, rfl, _⟩; exact ⟨v, rfl⟩) ?_; rintro v9 w9 ⟨_, he, hO9, hK9⟩; cases he; have z9 : w.heap.size ≤ w9.heap.size := hK9.size z8; have B9 := hide (B8.out.trans hK9.1); have R9 := hide (hK9.2 _ _ _ R8.out (by decide)); rw [D.put_4] at hO9; have O9 := hide hO9; have m2 : w9.cell? ⟨w.heap.size, 2, none⟩ = some (.int .u32 (a : Int)) := R9.out.cell 2; have m3 : w9.cell? ⟨w.heap.size, 3, none⟩ = some (.int .u32 (b : Int)) := R9.out.cell 3; have m4 : w9.cell? ⟨w.heap.size, 4, none⟩ = some (.int .u32 (c : Int)) := R9.out.cell 4; have m5 : w9.cell? ⟨w.heap.size, 5, none⟩ = some (.int .u32 (d : Int)) := R9.out.cell 5; have m6 : w9.cell? ⟨w.heap.size, 6, none⟩ = some (.int .u32 (e : Int)) := R9.out.cell 6; clear hO9 hK9)))
    all_goals
      go_wp2
      go_ret
      exact ⟨_, rfl, by rw [HQ.out]; exact O9.out, B9.out⟩
end Go.Proofs.Ytagopkmehlpjpaa
