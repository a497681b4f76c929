/- signetref3.Canon of SOA and RRSIG, and of all types. -/
import Derived.Test.YtagopkmehlpjpaaRefZ
namespace Go.Proofs.Ytagopkmehlpjpaa
open Go.RowKit
set_option maxHeartbeats 1600000 in
set_option maxRecDepth 5000 in
theorem rcan_6 (b : List UInt8) (ao : Option Addr) (len cap : Nat) (w : World) (hl : Hid (b.length = len)) (hs : SlL w ao b) (hc : len ≤ cap) (hnil : ao = none → cap = 0) (h8 : len ≤ 8192) :
    Calls Try.prog 11 #[.int .u16 6, .slice ao len cap] w fun e w' => Ans (D.full b (D.can 6 b)) BytesV (.slice none 0 0) w e w' := by
  have HS := hide hs
  have NB := hide hnil
  cases hx : D.full b (D.can 6 b) with
  | none =>
    have HC : Hid (codeOf (D.full b (D.can 6 b)) = 50) := by show _ = _; rw [hx]; rfl
    clear hs hnil
    go_enter Try.func11, Try.ntmps11
    go_wp2_with fail
    refine (chk_6 b ao len cap _ hl (by exact HS.out) hc NB.out h8).mono ?_
    rintro e w1 ⟨rfl, hb1⟩
    rw [HC.out]
    go_wp2
    go_ret2
    exact ⟨Or.inr ⟨rfl, rfl⟩, hb1⟩
  | some x =>
    have HC : Hid (codeOf (D.full b (D.can 6 b)) = 0) := by show _ = _; rw [hx]; rfl
    obtain ⟨h8', hx2⟩ := D.full_iff.1 hx
    have hq : ((D.soa b).map fun p => (D.soaB p.1.low, p.2)) = some (x, []) := hx2
    rw [Option.map_eq_some_iff] at hq
    obtain ⟨⟨s, r⟩, hso, he⟩ := hq
    cases he
    have HSO : Hid (D.full b (D.soa b) = some s) := D.full_some h8' hso
    have hk := (D.soa_back hso).2
    have hlen := congrArg List.length (D.soa_back hso).1
    clear hs hnil hx2 hx hso
    go_enter Try.func11, Try.ntmps11
    go_wp2_with fail
    refine (chk_6 b ao len cap _ hl (by exact HS.out) hc NB.out h8).mono ?_
    rintro e p1 ⟨rfl, hb1⟩
    rw [HC.out]
    have P1 := hide hb1
    clear hb1
    go_wp2_with fail
    refine (sSoa_any b ao len cap _ hl (by exact HS.out.below P1.out (Nat.le_refl _)) hc NB.out h8).mono ?_
    rw [HSO.out]
    rintro e u ⟨⟨s', v, ho, rfl, hv⟩ | ⟨ho, _⟩, hb2⟩
    rotate_left
    · cases ho
    cases ho
    have P2 := hide (P1.out.trans (hb2.mono P1.out.size))
    obtain ⟨a1, c1, a2, c2, rfl, hO1, hO2⟩ := hv
    clear hb2 P1 HSO
    clear hlen
    obtain ⟨main, box, a, b5, c, d, e⟩ := s
    obtain ⟨k1, k2, k3, k4, k5, k6, k7⟩ := hk
    have S1 := hide (OwnS.sl hO1)
    have S2 := hide (OwnS.sl hO2)
    clear hO1 hO2
    simp only at S1 S2 k1 k2 k3 k4 k5 k6 k7 ⊢
    have m1 := hide (good_small k1)
    have m2 := hide (good_small k2)
    have hz1 : N.size (N.lowN main) ≤ 1000 := by rw [D.size_low]; have := k1.2.2; omega
    have hz2 : N.size (N.lowN box) ≤ 1000 := by rw [D.size_low]; have := k2.2.2; omega
    have R0 := hide (RowAt.new u 43 #[.slice a1 main.length c1, .slice a2 box.length c2, .int .u32 (a : Int), .int .u32 (b5 : Int), .int .u32 (c : Int), .int .u32 (d : Int), .int .u32 (e : Int)])
    have B0 := hide ((Below.refl u.heap.size u).alloc (Nat.le_refl _) (.cells #[.slice a1 main.length c1, .slice a2 box.length c2, .int .u32 (a : Int), .int .u32 (b5 : Int), .int .u32 (c : Int), .int .u32 (d : Int), .int .u32 (e : Int)] 43))
    clear k1 k2
    go_wp2
    go_region_law (first
      | (refine step_fn 43 _ _ rfl rfl #[.slice a1 main.length c1] (by go_simp) (rLower_any main a1 main.length c1 _ rfl (by exact S1.out.alloc _) m1) (by rintro e w' ⟨v, rfl, _⟩; exact ⟨v, rfl⟩) ?_; rintro v1 w1 ⟨_, he, hO1, hb1⟩; cases he; have R1 := hide (RowAt.below (by exact R0.out) hb1 (by simp <;> omega)); have p1 : w1.cell? ⟨u.heap.size, 1, none⟩ = some (.slice a2 box.length c2) := R1.out.cell 1; have O1 := hide (OwnS.lower (base' := u.heap.size) hO1 (by simp <;> omega)); have z1 : u.heap.size ≤ w1.heap.size := Nat.le_trans (by simp <;> omega) hb1.size; have B1 := hide ((below_allocs B0.out (Nat.le_refl _) (Or.inl rfl)).trans (hb1.mono (by simp <;> omega))); clear hO1 hb1)
      | (refine step_fn 43 _ _ rfl rfl #[.slice a2 box.length c2] (by go_simp) (rLower_any box a2 box.length c2 _ rfl (by exact S2.out.below B1.out (Nat.le_refl _)) m2) (by rintro e w' ⟨v, rfl, _⟩; exact ⟨v, rfl⟩) ?_; rintro v2 w2 ⟨_, he, hO2, hb2⟩; cases he; have hrow := R1.out.below hb2 R1.out.lt; obtain ⟨a3, c3, rfl, _, _, _⟩ := O1.out.open; obtain ⟨a4, c4, rfl, _, _, _⟩ := hO2.open; have g0 : w2.cell? ⟨u.heap.size, 0, none⟩ = some (.slice a1 main.length c1) := hrow.cell 0; have g1 : w2.cell? ⟨u.heap.size, 1, none⟩ = some (.slice a2 box.length c2) := hrow.cell 1; have g2 : w2.cell? ⟨u.heap.size, 2, none⟩ = some (.int .u32 (a : Int)) := hrow.cell 2; have g3 : w2.cell? ⟨u.heap.size, 3, none⟩ = some (.int .u32 (b5 : Int)) := hrow.cell 3; have g4 : w2.cell? ⟨u.heap.size, 4, none⟩ = some (.int .u32 (c : Int)) := hrow.cell 4; have g5 : w2.cell? ⟨u.heap.size, 5, none⟩ = some (.int .u32 (d : Int)) := hrow.cell 5; have g6 : w2.cell? ⟨u.heap.size, 6, none⟩ = some (.int .u32 (e : Int)) := hrow.cell 6; have e0 := hrow.frozen 0; have e1 := hrow.frozen 1; have O3 := hide (O1.out.below hb2); have O4 := hide (OwnS.lower (base' := u.heap.size) hO2 z1); have R2 := hide hrow; have B2 := hide (B1.out.trans (hb2.mono z1)); clear hrow hO2 hb2 O1))
    all_goals
      have O5 := hide (own_set (own_set O3.out R2.out (by decide) 0 (.slice a3 (N.lowN main).length c3)) (R2.out.set 0 (.slice a3 (N.lowN main).length c3)) (by decide) 1 (.slice a4 (N.lowN box).length c4))
      have O6 := hide (own_set (own_set O4.out R2.out (by decide) 0 (.slice a3 (N.lowN main).length c3)) (R2.out.set 0 (.slice a3 (N.lowN main).length c3)) (by decide) 1 (.slice a4 (N.lowN box).length c4))
      have B5 := hide (setNew_below (g := u.heap.size) (j := 1) (v := .slice a4 (N.lowN box).length c4) (setNew_below (g := u.heap.size) (j := 0) (v := .slice a3 (N.lowN main).length c3) B2.out (Nat.le_refl _)) (Nat.le_refl _))
      clear O3 O4 B2 R2 R1 B1 R0 B0
      go_wp2_with fail
      refine (sSoaBytes_any ⟨N.lowN main, N.lowN box, a, b5, c, d, e⟩ a3 a4 (N.lowN main).length c3 (N.lowN box).length c4 _ rfl rfl (by exact OwnS.sl O5.out) (by exact OwnS.sl O6.out) hz1 hz2 k3 k4 k5 k6 k7).mono ?_
      rintro e w3 ⟨v3, rfl, hO3, hb3⟩
      go_wp2
      go_ret2
      have hz := B5.out.size
      exact ⟨Or.inl ⟨_, _, rfl, rfl, (hO3.lower hz).lower P2.out.size⟩, P2.out.trans ((B5.out.trans (hb3.mono hz)).mono P2.out.size)⟩
set_option maxHeartbeats 1600000 in
set_option maxRecDepth 5000 in
theorem rcan_46 (b : List UInt8) (ao : Option Addr) (len cap : Nat) (w : World) (hl : Hid (b.length = len)) (hs : SlL w ao b) (hc : len ≤ cap) (hnil : ao = none → cap = 0) (h8 : len ≤ 8192) :
    Calls Try.prog 11 #[.int .u16 46, .slice ao len cap] w fun e w' => Ans (D.full b (D.can 46 b)) BytesV (.slice none 0 0) w e w' := by
  have HS := hide hs
  have NB := hide hnil
  cases hx : D.full b (D.can 46 b) with
  | none =>
    have HC : Hid (codeOf (D.full b (D.can 46 b)) = 50) := by show _ = _; rw [hx]; rfl
    clear hs hnil
    go_enter Try.func11, Try.ntmps11
    go_wp2_with fail
    refine (chk_46 b ao len cap _ hl (by exact HS.out) hc NB.out h8).mono ?_
    rintro e w1 ⟨rfl, hb1⟩
    rw [HC.out]
    go_wp2
    go_ret2
    exact ⟨Or.inr ⟨rfl, rfl⟩, hb1⟩
  | some x =>
    have HC : Hid (codeOf (D.full b (D.can 46 b)) = 0) := by show _ = _; rw [hx]; rfl
    obtain ⟨h8', hx2⟩ := D.full_iff.1 hx
    have hq : ((D.sig b).map fun p => (D.sigB p.1.low, p.2)) = some (x, []) := hx2
    rw [Option.map_eq_some_iff] at hq
    obtain ⟨⟨s, r⟩, hso, he⟩ := hq
    cases he
    have HSO : Hid (D.full b (D.sig b) = some s) := D.full_some h8' hso
    have hk := (D.sig_back hso).2.2
    have hlen := congrArg List.length (D.sig_back hso).1
    clear hs hnil hx2 hx hso
    go_enter Try.func11, Try.ntmps11
    go_wp2_with fail
    refine (chk_46 b ao len cap _ hl (by exact HS.out) hc NB.out h8).mono ?_
    rintro e p1 ⟨rfl, hb1⟩
    rw [HC.out]
    have P1 := hide hb1
    clear hb1
    go_wp2_with fail
    refine (sSig_any b ao len cap _ hl (by exact HS.out.below P1.out (Nat.le_refl _)) hc NB.out h8).mono ?_
    rw [HSO.out]
    rintro e u ⟨⟨s', v, ho, rfl, hv⟩ | ⟨ho, _⟩, hb2⟩
    rotate_left
    · cases ho
    cases ho
    have P2 := hide (P1.out.trans (hb2.mono P1.out.size))
    obtain ⟨a1, c1, a2, c2, rfl, hO1, hO2⟩ := hv
    clear hb2 P1 HSO
    obtain ⟨type, alg, labels, ttl, expire, begin_, tag, signer, sig⟩ := s
    obtain ⟨k1, k2, k3, k4, k5, k6, k7, k8⟩ := hk
    have hz2 : sig.length ≤ 100000 := by rw [hl.out] at hlen; simp [D.sigB] at hlen; omega
    have S1 := hide (OwnS.sl hO1)
    have S2 := hide (OwnB.slOf hO2).1
    have NI := hide (OwnB.slOf hO2).2
    clear hO1 hO2 hlen
    simp only at S1 S2 NI k1 k2 k3 k4 k5 k6 k7 k8 ⊢
    have m1 := hide (good_small k8)
    have hz1 : N.size (N.lowN signer) ≤ 1000 := by rw [D.size_low]; have := k8.2.2; omega
    have R0 := hide (RowAt.new u 51 #[.int .u16 (type : Int), .int .u8 (alg : Int), .int .u8 (labels : Int), .int .u32 (ttl : Int), .int .u32 (expire : Int), .int .u32 (begin_ : Int), .int .u16 (tag : Int), .slice a1 signer.length c1, .slice a2 sig.length c2])
    have B0 := hide ((Below.refl u.heap.size u).alloc (Nat.le_refl _) (.cells #[.int .u16 (type : Int), .int .u8 (alg : Int), .int .u8 (labels : Int), .int .u32 (ttl : Int), .int .u32 (expire : Int), .int .u32 (begin_ : Int), .int .u16 (tag : Int), .slice a1 signer.length c1, .slice a2 sig.length c2] 51))
    clear k8
    go_wp2_with fail
    refine (rLower_any signer a1 signer.length c1 _ rfl (by exact S1.out.alloc _) m1).mono ?_
    rintro e w1 ⟨v1, rfl, hO1, hb1⟩
    have hrow := R0.out.below hb1 (by simp)
    obtain ⟨a3, c3, rfl, _, _, _⟩ := hO1.open
    have g0 : w1.cell? ⟨u.heap.size, 0, none⟩ = some (.int .u16 (type : Int)) := hrow.cell 0
    have g1 : w1.cell? ⟨u.heap.size, 1, none⟩ = some (.int .u8 (alg : Int)) := hrow.cell 1
    have g2 : w1.cell? ⟨u.heap.size, 2, none⟩ = some (.int .u8 (labels : Int)) := hrow.cell 2
    have g3 : w1.cell? ⟨u.heap.size, 3, none⟩ = some (.int .u32 (ttl : Int)) := hrow.cell 3
    have g4 : w1.cell? ⟨u.heap.size, 4, none⟩ = some (.int .u32 (expire : Int)) := hrow.cell 4
    have g5 : w1.cell? ⟨u.heap.size, 5, none⟩ = some (.int .u32 (begin_ : Int)) := hrow.cell 5
    have g6 : w1.cell? ⟨u.heap.size, 6, none⟩ = some (.int .u16 (tag : Int)) := hrow.cell 6
    have g7 : w1.cell? ⟨u.heap.size, 7, none⟩ = some (.slice a1 signer.length c1) := hrow.cell 7
    have g8 : w1.cell? ⟨u.heap.size, 8, none⟩ = some (.slice a2 sig.length c2) := hrow.cell 8
    have e7 := hrow.frozen 7
    have O1 := hide (own_set (OwnS.lower (base' := u.heap.size) hO1 (by simp)) hrow (by decide) 7 (.slice a3 (N.lowN signer).length c3))
    have B1 := hide (setNew_below (g := u.heap.size) (j := 7) (v := .slice a3 (N.lowN signer).length c3) (B0.out.trans (hb1.mono (by simp))) (Nat.le_refl _))
    clear hO1 hb1 R0 B0 hrow S1
    go_wp2_with fail
    refine (sSigBytes_any ⟨type, alg, labels, ttl, expire, begin_, tag, N.lowN signer, sig⟩ a3 a2 (N.lowN signer).length c3 sig.length c2 _ rfl rfl (by exact OwnS.sl O1.out) (by exact S2.out.below B1.out (Nat.le_refl _)) NI.out hz1 hz2 k1 k2 k3 k4 k5 k6 k7).mono ?_
    rintro e w2 ⟨v2, rfl, hO2, hb2⟩
    go_wp2
    go_ret2
    have hz := B1.out.size
    exact ⟨Or.inl ⟨_, _, rfl, rfl, (hO2.lower hz).lower P2.out.size⟩, P2.out.trans ((B1.out.trans (hb2.mono hz)).mono P2.out.size)⟩
set_option maxRecDepth 5000 in
theorem sCanon_any (t : Nat) (b : List UInt8) (ao : Option Addr) (len cap : Nat) (w : World) (hl : Hid (b.length = len)) (hs : SlL w ao b) (hc : len ≤ cap) (hnil : ao = none → cap = 0) (h8 : len ≤ 8192) :
    Calls Try.prog 11 #[.int .u16 (t : Int), .slice ao len cap] w fun e w' => Ans (D.full b (D.can t b)) BytesV (.slice none 0 0) w e w' := by
  by_cases h2 : t = 2
  · subst h2; exact rcan_2 b ao len cap w hl hs hc hnil h8
  by_cases h5 : t = 5
  · subst h5; exact rcan_5 b ao len cap w hl hs hc hnil h8
  by_cases h15 : t = 15
  · subst h15; exact rcan_15 b ao len cap w hl hs hc hnil h8
  by_cases h6 : t = 6
  · subst h6; exact rcan_6 b ao len cap w hl hs hc hnil h8
  by_cases h46 : t = 46
  · subst h46; exact rcan_46 b ao len cap w hl hs hc hnil h8
  exact rcan_else t b ao len cap w hl hs hc hnil h8 h2 h5 h15 h6 h46
end Go.Proofs.Ytagopkmehlpjpaa
