/- rdata.SoaBytes, SigBytes, ChainBytes. -/
import Derived.Test.YtagopkmehlpjpaaAppK
import Derived.Test.YtagopkmehlpjpaaTyA
namespace Go.Proofs.Ytagopkmehlpjpaa
open Go.RowKit
set_option maxRecDepth 5000 in
theorem p16_len (n : Nat) : (D.p16 n).length = 2 := rfl
set_option maxRecDepth 5000 in
theorem p32_len (n : Nat) : (D.p32 n).length = 4 := rfl
set_option maxRecDepth 5000 in
theorem sum_len : ∀ (n : List (List UInt8)) (l : List UInt8), l ∈ n → l.length + 1 ≤ (n.map (fun l => l.length + 1)).sum
  | a :: n, l, h => by
    rw [List.map_cons, List.sum_cons]
    rcases List.mem_cons.1 h with rfl | h
    · omega
    · have := sum_len n l h; omega
set_option maxRecDepth 5000 in
theorem len_sum : ∀ (n : List (List UInt8)), n.length ≤ (n.map (fun l => l.length + 1)).sum
  | [] => by simp
  | a :: n => by
    have := len_sum n
    rw [List.map_cons, List.sum_cons, List.length_cons]; omega
set_option maxRecDepth 5000 in
theorem small_of {n : List (List UInt8)} (h : N.size n ≤ 1000) : N.Small n := by
  unfold N.size at h
  exact ⟨by have := len_sum n; omega, fun l hl => by have := sum_len n l hl; omega⟩
set_option maxHeartbeats 1600000 in
set_option maxRecDepth 5000 in
theorem soaBytes_any (s : D.Soa) (a1 a2 : Option Addr) (n1 c1 n2 c2 : Nat) (w : World) (h1 : Hid (s.main.length = n1)) (h2 : Hid (s.box.length = n2)) (hs1 : SlS w a1 s.main) (hs2 : SlS w a2 s.box) (hz1 : N.size s.main ≤ 1000) (hz2 : N.size s.box ≤ 1000)
    (ha : s.a < 4294967296) (hb : s.b < 4294967296) (hc : s.c < 4294967296) (hd : s.d < 4294967296) (he : s.e < 4294967296) :
    Calls Try.prog 21 #[.agg #[.slice a1 n1 c1, .slice a2 n2 c2, .int .u32 (s.a : Int), .int .u32 (s.b : Int), .int .u32 (s.c : Int), .int .u32 (s.d : Int), .int .u32 (s.e : Int)]] w fun e w' => ∃ v', e = .returned v' ∧ OwnB w' w.heap.size v' (D.soaB s) ∧ Below w.heap.size w w' := by
  have S1 := hide hs1
  have S2 := hide hs2
  have m1 := hide (small_of hz1)
  have m2 := hide (small_of hz2)
  have l1 := N.wire_len s.main
  have l2 := N.wire_len s.box
  clear hs1 hs2
  unfold D.soaB
  obtain ⟨main, box, a, b, c, d, e⟩ := s
  simp only at h1 h2 S1 S2 m1 m2 l1 l2 hz1 hz2 ha hb hc hd he ⊢
  have HROW := hide (RowAt.new w 43 #[.slice a1 n1 c1, .slice a2 n2 c2, .int .u32 (a : Int), .int .u32 (b : Int), .int .u32 (c : Int), .int .u32 (d : Int), .int .u32 (e : Int)])
  have HB0 := hide ((Below.refl w.heap.size w).alloc (Nat.le_refl _) (.cells #[.slice a1 n1 c1, .slice a2 n2 c2, .int .u32 (a : Int), .int .u32 (b : Int), .int .u32 (c : Int), .int .u32 (d : Int), .int .u32 (e : Int)] 43))
  have HL1 : Hid ((N.wire main).length ≤ 1000) := by show _ ≤ _; omega
  have HL2 : Hid ((N.wire box).length ≤ 1000) := by show _ ≤ _; omega
  clear l1 l2
  go_enter Try.func21, Try.ntmps21
  go_wp2
  go_region_law (first
    | (refine step_call rfl 53 #[.slice a1 n1 c1] (by go_simp) (wire_any main a1 n1 c1 _ h1 (by exact S1.out.alloc _) m1) (by rintro e w' ⟨v, rfl, _⟩; exact ⟨v, rfl⟩) ?_; rintro v1 w1 ⟨_, he, hO1, hb1⟩; cases he; have r1 := RowAt.below (by exact HROW.out) hb1 (by simp <;> omega); have p1 : w1.cell? ⟨w.heap.size, 1, none⟩ = some (.slice a2 n2 c2) := r1.cell 1; have R1 := hide r1; have O1 := hide (OwnB.lower (base' := w.heap.size) hO1 (by simp <;> omega)); have z1 : w.heap.size ≤ w1.heap.size := Nat.le_trans (by simp <;> omega) hb1.size; have B1 := hide ((below_allocs HB0.out (Nat.le_refl _) (Or.inl rfl)).trans (hb1.mono (by simp <;> omega))); clear r1 hO1 hb1)
    | (refine step_call rfl 53 #[.slice a2 n2 c2] (by go_simp) (wire_any box a2 n2 c2 _ h2 (by exact S2.out.below B1.out (Nat.le_refl _)) m2) (by rintro e w' ⟨v, rfl, _⟩; exact ⟨v, rfl⟩) ?_; rintro v2 w2 ⟨_, he, hO2, hb2⟩; cases he; have R2 := hide (R1.out.below hb2 R1.out.lt); have OM := hide (O1.out.below hb2); obtain ⟨g9, c9, rfl, _, _, _, _, _⟩ := hO2.form (by simp [N.wire]); have S9 := hide hO2.sl; have z2 : w.heap.size ≤ w2.heap.size := Nat.le_trans z1 hb2.size; have B2 := hide (B1.out.trans (hb2.mono z1)); clear hO2 hb2)
    | (refine step_append_B rfl (.tmp 6) (.tmp 9) rfl w.heap.size v1 (N.wire main) (by simp [Act.eval]) (by exact OM.out) ⟨g9, 0, none⟩ (N.wire box).length c9 (N.wire box) (by simp [Act.eval]) rfl (by exact S9.out) (by have := HL1.out; have := HL2.out; omega) (by exact z2) ?_; intro v4 w4 hO4 hG4; have K4 := hide (Kp.grown OM.out hG4 z2); have O4 := hide hO4; clear hG4 hO4))
  all_goals
    have z4 : w.heap.size ≤ w4.heap.size := K4.out.size z2
    have B4 := hide (B2.out.trans K4.out.1)
    have R4 := hide (K4.out.2 _ _ _ R2.out (by decide))
    have p4 : w4.cell? ⟨w.heap.size, 2, none⟩ = some (.int .u32 (a : Int)) := R4.out.cell 2
    have L4 : Hid ((N.wire main ++ N.wire box).length ≤ 2000) := by have := HL1.out; have := HL2.out; show _ ≤ _; rw [List.length_append]; omega
    obtain ⟨q, hq⟩ : ∃ q, N.wire main ++ N.wire box = q := ⟨_, rfl⟩
    rw [hq] at O4 L4
    have HQ := hide hq
    clear hq
    clear R2 B2 K4 S9 OM R1 B1 O1
    go_wp2_with fail
    refine (append32_any a ha w.heap.size v4 (q) _ (by exact O4.out) (by exact z4) (by have := L4.out; first | omega | (simp only [List.length_append, p32_len]; omega))).mono ?_
    rintro e w5 ⟨v5, rfl, hO5, hK5⟩
    have z5 : w.heap.size ≤ w5.heap.size := hK5.size z4
    have B5 := hide (B4.out.trans hK5.1)
    have R5 := hide (hK5.2 _ _ _ R4.out (by decide))
    have p5 : w5.cell? ⟨w.heap.size, 3, none⟩ = some (.int .u32 (b : Int)) := R5.out.cell 3
    have O5 := hide hO5
    clear hO5 hK5 p4 R4 O4
    go_wp2_with fail
    refine (append32_any b hb w.heap.size v5 (q ++ D.p32 a) _ (by exact O5.out) (by exact z5) (by have := L4.out; first | omega | (simp only [List.length_append, p32_len]; omega))).mono ?_
    rintro e w6 ⟨v6, rfl, hO6, hK6⟩
    have z6 : w.heap.size ≤ w6.heap.size := hK6.size z5
    have B6 := hide (B5.out.trans hK6.1)
    have R6 := hide (hK6.2 _ _ _ R5.out (by decide))
    have p6 : w6.cell? ⟨w.heap.size, 4, none⟩ = some (.int .u32 (c : Int)) := R6.out.cell 4
    have O6 := hide hO6
    clear hO6 hK6 p5 R5 O5
    go_wp2_with fail
    refine (append32_any c hc w.heap.size v6 (q ++ D.p32 a ++ D.p32 b) _ (by exact O6.out) (by exact z6) (by have := L4.out; first | omega | (simp only [List.length_append, p32_len]; omega))).mono ?_
    rintro e w7 ⟨v7, rfl, hO7, hK7⟩
    have z7 : w.heap.size ≤ w7.heap.size := hK7.size z6
    have B7 := hide (B6.out.trans hK7.1)
    have R7 := hide (hK7.2 _ _ _ R6.out (by decide))
    have p7 : w7.cell? ⟨w.heap.size, 5, none⟩ = some (.int .u32 (d : Int)) := R7.out.cell 5
    have O7 := hide hO7
    clear hO7 hK7 p6 R6 O6
    go_wp2_with fail
    refine (append32_any d hd w.heap.size v7 (q ++ D.p32 a ++ D.p32 b ++ D.p32 c) _ (by exact O7.out) (by exact z7) (by have := L4.out; first | omega | (simp only [List.length_append, p32_len]; omega))).mono ?_
    rintro e w8 ⟨v8, rfl, hO8, hK8⟩
    have z8 : w.heap.size ≤ w8.heap.size := hK8.size z7
    have B8 := hide (B7.out.trans hK8.1)
    have R8 := hide (hK8.2 _ _ _ R7.out (by decide))
    have p8 : w8.cell? ⟨w.heap.size, 6, none⟩ = some (.int .u32 (e : Int)) := R8.out.cell 6
    have O8 := hide hO8
    clear hO8 hK8 p7 R7 O7
    go_wp2_with fail
    refine (append32_any e he w.heap.size v8 (q ++ D.p32 a ++ D.p32 b ++ D.p32 c ++ D.p32 d) _ (by exact O8.out) (by exact z8) (by have := L4.out; first | omega | (simp only [List.length_append, p32_len]; omega))).mono ?_
    rintro e w9 ⟨v9, rfl, hO9, hK9⟩
    go_wp2
    go_ret
    exact ⟨_, rfl, by rw [HQ.out]; exact hO9, B8.out.trans hK9.1⟩
end Go.Proofs.Ytagopkmehlpjpaa
