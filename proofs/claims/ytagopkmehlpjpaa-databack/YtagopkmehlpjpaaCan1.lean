/- rdata.smallSig, smallSoa. -/
import Derived.Test.YtagopkmehlpjpaaCan0
namespace Go.Proofs.Ytagopkmehlpjpaa
open Go.RowKit
set_option maxRecDepth 5000 in
theorem setNew_below {w w1 : World} {g j : Nat} {v : Value} (h : Below w.heap.size w w1) (hg : w.heap.size ≤ g) : Below w.heap.size w (w1.setCell ⟨g, j, none⟩ v) := h.setCell hg v
set_option maxHeartbeats 800000 in
set_option maxRecDepth 5000 in
theorem smallSig_any (s : D.Sig) (a1 a2 : Option Addr) (n1 c1 n2 c2 : Nat) (w : World) (h1 : Hid (s.signer.length = n1)) (h2 : Hid (s.sig.length = n2)) (hs1 : SlS w a1 s.signer) (hs2 : SlL w a2 s.sig) (hnil : a2 = none → c2 = 0) (hz2 : n2 ≤ 100000) (hk : s.Ok) :
    Calls Try.prog 73 #[.agg #[.int .u16 (s.type : Int), .int .u8 (s.alg : Int), .int .u8 (s.labels : Int), .int .u32 (s.ttl : Int), .int .u32 (s.expire : Int), .int .u32 (s.begin_ : Int), .int .u16 (s.tag : Int), .slice a1 n1 c1, .slice a2 n2 c2]] w fun e w' => ∃ v', e = .returned v' ∧ OwnB w' w.heap.size v' (D.sigB s.low) ∧ Below w.heap.size w w' := by
  have S1 := hide hs1
  have S2 := hide hs2
  have NI := hide hnil
  clear hs1 hs2 hnil
  obtain ⟨type, alg, labels, ttl, expire, begin_, tag, signer, sig⟩ := s
  obtain ⟨k1, k2, k3, k4, k5, k6, k7, k8⟩ := hk
  simp only at h1 h2 S1 S2 k1 k2 k3 k4 k5 k6 k7 k8 ⊢
  have m1 := hide (good_small k8)
  have hz1 : N.size (N.lowN signer) ≤ 1000 := by rw [D.size_low]; have := k8.2.2; omega
  have R0 := hide (RowAt.new w 51 #[.int .u16 (type : Int), .int .u8 (alg : Int), .int .u8 (labels : Int), .int .u32 (ttl : Int), .int .u32 (expire : Int), .int .u32 (begin_ : Int), .int .u16 (tag : Int), .slice a1 n1 c1, .slice a2 n2 c2])
  have B0 := hide ((Below.refl w.heap.size w).alloc (Nat.le_refl _) (.cells #[.int .u16 (type : Int), .int .u8 (alg : Int), .int .u8 (labels : Int), .int .u32 (ttl : Int), .int .u32 (expire : Int), .int .u32 (begin_ : Int), .int .u16 (tag : Int), .slice a1 n1 c1, .slice a2 n2 c2] 51))
  clear k8
  go_enter Try.func73, Try.ntmps73
  go_wp2_with fail
  refine (lower_any signer a1 n1 c1 _ h1 (by exact S1.out.alloc _) m1).mono ?_
  rintro e w1 ⟨v1, rfl, hO1, hb1⟩
  have hrow := R0.out.below hb1 (by simp)
  obtain ⟨a3, c3, rfl, _, _, _⟩ := hO1.open
  have g0 : w1.cell? ⟨w.heap.size, 0, none⟩ = some (.int .u16 (type : Int)) := hrow.cell 0
  have g1 : w1.cell? ⟨w.heap.size, 1, none⟩ = some (.int .u8 (alg : Int)) := hrow.cell 1
  have g2 : w1.cell? ⟨w.heap.size, 2, none⟩ = some (.int .u8 (labels : Int)) := hrow.cell 2
  have g3 : w1.cell? ⟨w.heap.size, 3, none⟩ = some (.int .u32 (ttl : Int)) := hrow.cell 3
  have g4 : w1.cell? ⟨w.heap.size, 4, none⟩ = some (.int .u32 (expire : Int)) := hrow.cell 4
  have g5 : w1.cell? ⟨w.heap.size, 5, none⟩ = some (.int .u32 (begin_ : Int)) := hrow.cell 5
  have g6 : w1.cell? ⟨w.heap.size, 6, none⟩ = some (.int .u16 (tag : Int)) := hrow.cell 6
  have g7 : w1.cell? ⟨w.heap.size, 7, none⟩ = some (.slice a1 n1 c1) := hrow.cell 7
  have g8 : w1.cell? ⟨w.heap.size, 8, none⟩ = some (.slice a2 n2 c2) := hrow.cell 8
  have e7 := hrow.frozen 7
  have O1 := hide (own_set (OwnS.lower (base' := w.heap.size) hO1 (by simp)) hrow (by decide) 7 (.slice a3 (N.lowN signer).length c3))
  have B1 := hide (setNew_below (g := w.heap.size) (j := 7) (v := .slice a3 (N.lowN signer).length c3) (B0.out.trans (hb1.mono (by simp))) (Nat.le_refl _))
  clear hO1 hb1 R0 B0 hrow S1
  go_wp2_with fail
  refine (sigBytes_any ⟨type, alg, labels, ttl, expire, begin_, tag, N.lowN signer, sig⟩ a3 a2 (N.lowN signer).length c3 n2 c2 _ rfl h2 (by exact OwnS.sl O1.out) (by exact S2.out.below B1.out (Nat.le_refl _)) NI.out hz1 hz2 k1 k2 k3 k4 k5 k6 k7).mono ?_
  rintro e w2 ⟨v2, rfl, hO2, hb2⟩
  go_wp2
  go_ret
  have hz := B1.out.size
  exact ⟨_, rfl, hO2.lower hz, B1.out.trans (hb2.mono hz)⟩
set_option maxHeartbeats 1600000 in
set_option maxRecDepth 5000 in
theorem smallSoa_any (s : D.Soa) (a1 a2 : Option Addr) (n1 c1 n2 c2 : Nat) (w : World) (h1 : Hid (s.main.length = n1)) (h2 : Hid (s.box.length = n2)) (hs1 : SlS w a1 s.main) (hs2 : SlS w a2 s.box) (hk : s.Ok) :
    Calls Try.prog 70 #[.agg #[.slice a1 n1 c1, .slice a2 n2 c2, .int .u32 (s.a : Int), .int .u32 (s.b : Int), .int .u32 (s.c : Int), .int .u32 (s.d : Int), .int .u32 (s.e : Int)]] w fun e w' => ∃ v', e = .returned v' ∧ OwnB w' w.heap.size v' (D.soaB s.low) ∧ Below w.heap.size w w' := by
  have S1 := hide hs1
  have S2 := hide hs2
  clear hs1 hs2
  obtain ⟨main, box, a, b, c, d, e⟩ := s
  obtain ⟨k1, k2, k3, k4, k5, k6, k7⟩ := hk
  simp only at h1 h2 S1 S2 k1 k2 k3 k4 k5 k6 k7 ⊢
  have m1 := hide (good_small k1)
  have m2 := hide (good_small k2)
  have hz1 : N.size (N.lowN main) ≤ 1000 := by rw [D.size_low]; have := k1.2.2; omega
  have hz2 : N.size (N.lowN box) ≤ 1000 := by rw [D.size_low]; have := k2.2.2; omega
  have R0 := hide (RowAt.new w 43 #[.slice a1 n1 c1, .slice a2 n2 c2, .int .u32 (a : Int), .int .u32 (b : Int), .int .u32 (c : Int), .int .u32 (d : Int), .int .u32 (e : Int)])
  have B0 := hide ((Below.refl w.heap.size w).alloc (Nat.le_refl _) (.cells #[.slice a1 n1 c1, .slice a2 n2 c2, .int .u32 (a : Int), .int .u32 (b : Int), .int .u32 (c : Int), .int .u32 (d : Int), .int .u32 (e : Int)] 43))
  clear k1 k2
  go_enter Try.func70, Try.ntmps70
  go_wp2
  go_region_law (first
    | (refine step_call rfl 91 #[.slice a1 n1 c1] (by go_simp) (lower_any main a1 n1 c1 _ h1 (by exact S1.out.alloc _) m1) (by rintro e w' ⟨v, rfl, _⟩; exact ⟨v, rfl⟩) ?_; rintro v1 w1 ⟨_, he, hO1, hb1⟩; cases he; have R1 := hide (RowAt.below (by exact R0.out) hb1 (by simp <;> omega)); have p1 : w1.cell? ⟨w.heap.size, 1, none⟩ = some (.slice a2 n2 c2) := R1.out.cell 1; have O1 := hide (OwnS.lower (base' := w.heap.size) hO1 (by simp <;> omega)); have z1 : w.heap.size ≤ w1.heap.size := Nat.le_trans (by simp <;> omega) hb1.size; have B1 := hide ((below_allocs B0.out (Nat.le_refl _) (Or.inl rfl)).trans (hb1.mono (by simp <;> omega))); clear hO1 hb1)
    | (refine step_call rfl 91 #[.slice a2 n2 c2] (by go_simp) (lower_any box a2 n2 c2 _ h2 (by exact S2.out.below B1.out (Nat.le_refl _)) m2) (by rintro e w' ⟨v, rfl, _⟩; exact ⟨v, rfl⟩) ?_; rintro v2 w2 ⟨_, he, hO2, hb2⟩; cases he; have hrow := R1.out.below hb2 R1.out.lt; obtain ⟨a3, c3, rfl, _, _, _⟩ := O1.out.open; obtain ⟨a4, c4, rfl, _, _, _⟩ := hO2.open; have g0 : w2.cell? ⟨w.heap.size, 0, none⟩ = some (.slice a1 n1 c1) := hrow.cell 0; have g1 : w2.cell? ⟨w.heap.size, 1, none⟩ = some (.slice a2 n2 c2) := hrow.cell 1; have g2 : w2.cell? ⟨w.heap.size, 2, none⟩ = some (.int .u32 (a : Int)) := hrow.cell 2; have g3 : w2.cell? ⟨w.heap.size, 3, none⟩ = some (.int .u32 (b : Int)) := hrow.cell 3; have g4 : w2.cell? ⟨w.heap.size, 4, none⟩ = some (.int .u32 (c : Int)) := hrow.cell 4; have g5 : w2.cell? ⟨w.heap.size, 5, none⟩ = some (.int .u32 (d : Int)) := hrow.cell 5; have g6 : w2.cell? ⟨w.heap.size, 6, none⟩ = some (.int .u32 (e : Int)) := hrow.cell 6; have e0 := hrow.frozen 0; have e1 := hrow.frozen 1; have O3 := hide (O1.out.below hb2); have O4 := hide (OwnS.lower (base' := w.heap.size) hO2 z1); have R2 := hide hrow; have B2 := hide (B1.out.trans (hb2.mono z1)); clear hrow hO2 hb2 O1))
  all_goals
    have O5 := hide (own_set (own_set O3.out R2.out (by decide) 0 (.slice a3 (N.lowN main).length c3)) (R2.out.set 0 (.slice a3 (N.lowN main).length c3)) (by decide) 1 (.slice a4 (N.lowN box).length c4))
    have O6 := hide (own_set (own_set O4.out R2.out (by decide) 0 (.slice a3 (N.lowN main).length c3)) (R2.out.set 0 (.slice a3 (N.lowN main).length c3)) (by decide) 1 (.slice a4 (N.lowN box).length c4))
    have B5 := hide (setNew_below (g := w.heap.size) (j := 1) (v := .slice a4 (N.lowN box).length c4) (setNew_below (g := w.heap.size) (j := 0) (v := .slice a3 (N.lowN main).length c3) B2.out (Nat.le_refl _)) (Nat.le_refl _))
    clear O3 O4 B2 R2 R1 B1 R0 B0
    go_wp2_with fail
    refine (soaBytes_any ⟨N.lowN main, N.lowN box, a, b, c, d, e⟩ a3 a4 (N.lowN main).length c3 (N.lowN box).length c4 _ rfl rfl (by exact OwnS.sl O5.out) (by exact OwnS.sl O6.out) hz1 hz2 k3 k4 k5 k6 k7).mono ?_
    rintro e w3 ⟨v3, rfl, hO3, hb3⟩
    go_wp2
    go_ret
    have hz := B5.out.size
    exact ⟨_, rfl, hO3.lower hz, B5.out.trans (hb3.mono hz)⟩
end Go.Proofs.Ytagopkmehlpjpaa
