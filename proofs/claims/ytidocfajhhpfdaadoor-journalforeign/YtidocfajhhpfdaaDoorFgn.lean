/- The law JournalForeign. -/
import Derived.Test.YtidocfajhhpfdaaDoorJox
import Derived.Test.YtidocfajhhpfdaaDoorRst
namespace Go.Proofs.YtidocfajhhpfdaaDoor
open Go.RowKit
/- numbers of 16 bits that came in -/
def AtL (w : World) (ao : Option Addr) (A : List Nat) : Prop := 0 < A.length → ∃ b o, ao = some ⟨b, o, none⟩ ∧ b < w.heap.size ∧ ∀ i, i < A.length → w.cell? ⟨b, o + i, none⟩ = some (.int .u16 (A.getD i 0 : Int)) ∧ A.getD i 0 < 65536
set_option maxRecDepth 5000 in
theorem AtL.below {w w' : World} {B : Nat} {ao : Option Addr} {A : List Nat} (h : AtL w ao A) (hb : Below B w w') (hB : w.heap.size ≤ B) : AtL w' ao A := fun hn => by
  obtain ⟨b, o, e, hlt, hc⟩ := h hn
  exact ⟨b, o, e, Nat.lt_of_lt_of_le hlt hb.size, fun i hi => ⟨(hb.cell (p := ⟨b, o + i, none⟩) (by show b < B; omega)).trans (hc i hi).1, (hc i hi).2⟩⟩
set_option maxRecDepth 5000 in
theorem b_xor8 (x y : UInt8) : ∃ z : UInt8, bits .xor .u8 (x.toNat : Int) (y.toNat : Int) = (z.toNat : Int) := by
  refine ⟨UInt8.ofNat (bits .xor .u8 (x.toNat : Int) (y.toNat : Int)).toNat, ?_⟩
  have hx := x.toNat_lt
  have hy := y.toNat_lt
  have h : bits .xor .u8 (x.toNat : Int) (y.toNat : Int) = IntKind.u8.wrap ((BitVec.ofInt 8 (x.toNat : Int) ^^^ BitVec.ofInt 8 (y.toNat : Int)).toNat : Int) := rfl
  rw [h, IntKind.wrap_u8, UInt8.toNat_ofNat']
  omega
set_option maxHeartbeats 4000000 in
set_option maxRecDepth 5000 in
theorem foreign_walk (w : World) (ht : Tab w) (a0 a1 a2 : Option Addr) (c0 c1 c2 : Nat) (A : List Nat) (X ls : List UInt8) (hs0 : AtL w a0 A) (hs1 : SlL w a1 X) (hs2 : SlL w a2 ls) (hm0 : A.length ≤ 9223372036854775807) (hm1 : X.length ≤ 9223372036854775807) (hm2 : ls.length ≤ 9223372036854775807) :
    Calls Tryd.prog 8 #[.slice a0 A.length c0, .slice a1 X.length c1, .slice a2 ls.length c2] w fun e w' => e = .returned (.bool true) ∧ Below w.heap.size w w' := by
  have hk := known_any w ht
  have HT := hide ht
  have hpos := ht.1
  have H0 := hide hs0
  have H1 := hide hs1
  have H2 := hide hs2
  clear ht hs0 hs1 hs2
  by_cases h30 : 30 < A.length
  · have g1 : decide ((30 : Int) < (A.length : Int)) = true := by simp; omega
    go_enter Tryd.func8, Tryd.ntmps8
    go_wp2_with (first | (go_at_call 9; refine hk.mono ?_; rintro e w1 ⟨rfl, hB⟩; have B1 := hide hB; clear hB) | fail)
    go_ret
    exact ⟨rfl, B1.out⟩
  have g1 : decide ((30 : Int) < (A.length : Int)) = false := by simp; omega
  by_cases hxa : X.length < A.length
  · have g2 : decide (X.length < A.length) = true := by simp; omega
    go_enter Tryd.func8, Tryd.ntmps8
    go_wp2_with (first | (go_at_call 9; refine hk.mono ?_; rintro e w1 ⟨rfl, hB⟩; have B1 := hide hB; clear hB) | fail)
    go_ret
    exact ⟨rfl, B1.out⟩
  have g2 : decide (X.length < A.length) = false := by simp; omega
  by_cases hl6 : 6 < ls.length
  · have g3 : decide ((6 : Int) < (ls.length : Int)) = true := by simp; omega
    go_enter Tryd.func8, Tryd.ntmps8
    go_wp2_with (first | (go_at_call 9; refine hk.mono ?_; rintro e w1 ⟨rfl, hB⟩; have B1 := hide hB; clear hB) | fail)
    go_ret
    exact ⟨rfl, B1.out⟩
  have g3 : decide ((6 : Int) < (ls.length : Int)) = false := by simp; omega
  go_enter Tryd.func8, Tryd.ntmps8
  go_wp2_with (first | (go_at_call 9; refine hk.mono ?_; rintro e w1 ⟨rfl, hB⟩; have B1 := hide hB; clear hB) | fail)
  refine (new_at FF w1 (fun _ h => h.elim) 40 512 40 512 (by omega) (by omega) (by omega) (by omega) (by decide) (by decide)).mono ?_
  rintro e w2 ⟨rfl, hD, hB2, hs2⟩
  have D2 : Hid (DiskAt FF w2 (w1.heap.size + 2) w1.heap.size (w1.heap.size + 1) (K.St.new 40 512)) := hD
  have B2 := hide (B1.out.trans (hB2.mono B1.out.size))
  have z1 := B1.out.size
  have HS2 := hide hs2
  clear hD hB2 hk hs2
  go_wp2_with fail
  refine (open_new w2 (HT.out.below B2.out hpos) _ _ _ 40 512 (by omega) D2.out (by have := HS2.out; omega)).mono ?_
  rintro e w3 ⟨v3, M3, rfl, J3, D3, V3, z3, O3⟩
  obtain ⟨a3, c3, hv3⟩ := O3.slice
  rw [hv3]
  have W3 : Hid (JW w (w1.heap.size + 2) w1.heap.size w2.heap.size M3 (newS 40 512) h0 [] w3) := ⟨V3.below B2.out B2.out.size (by omega) (by omega) (by omega), by omega, by omega, by have := HS2.out; omega, by have := HS2.out; omega, D3, newS_is 40 512 (by omega), J3⟩
  clear J3 D3 V3 z3 O3 hv3 D2
  obtain ⟨D, hDe⟩ : ∃ D, D = w1.heap.size + 2 := ⟨_, rfl⟩
  rw [← hDe] at W3 ⊢
  obtain ⟨SS, hSe⟩ : ∃ SS, SS = w1.heap.size := ⟨_, rfl⟩
  rw [← hSe] at W3
  generalize w2.heap.size = bJ at W3 ⊢
  clear hDe hSe HS2 z1
  have he1 : ∀ (g : Nat) (W : World), (binOp .eql 31 (.pointer (some ⟨g, 0, none⟩)) (.pointer none)).run Tryd.prog W = .ok (.bool false) W := fun _ _ => rfl
  have hars : J.arb (newS 40 512) = 9728 := by unfold J.arb J.ars; rw [newS_n, newS_sz]
  go_wp2_with fail
  refine (batch_any w3 3 (by omega) (by omega) a2 c2 ls (by omega) (H2.out.below W3.out.bl (Nat.le_refl _))).mono ?_
  rintro e w5 ⟨v5, rfl, R, O5, hRl, hRk, b5⟩
  have hfz : J.fsz R ≤ 1602 := by
    have h1 := J.fsz_bound 255 R (fun k hk => by rw [hRk k (by omega)]; have := (ls.getD k 0).toNat_lt; omega)
    have h2 : R.length * (255 + 12) ≤ 6 * (255 + 12) := Nat.mul_le_mul_right _ (by omega)
    omega
  have hRl6 : R.length ≤ 6 := by omega
  obtain ⟨a5, c5, hv5⟩ := O5.slice
  rw [hv5] at O5 ⊢
  have W5 := hide (W3.out.below b5)
  have S5 := hide O5.sl
  clear O5 hv5 b5 hRk hRl W3
  go_wp2_with fail
  refine (commit_is w5 (W5.out.tab HT.out) D SS M3 bJ (newS 40 512) h0 [] W5.out.is W5.out.dk W5.out.jr (W5.out.pos HT.out) a5 c5 R S5.out (by decide) (by show 0 + R.length ≤ _; omega) (by omega)).mono ?_
  rintro e w6 (⟨_, rfl, M6, s6, hl⟩ | ⟨hbad, _, _⟩)
  case inr => rw [hars] at hbad; exact absurd hbad (by show ¬ 9728 < 0 + J.fsz R; omega)
  have W6 := hide (W5.out.laid hl)
  have n6 := hl.n.trans (newS_n 40 512)
  have z6 := hl.sz.trans (newS_sz 40 512)
  have hp6 := hl.is.pw
  clear hl W5 S5 hars
  have HD6 := hide W6.out.dk
  have BD : w.heap.size ≤ D := W6.out.bD
  have BS : w.heap.size ≤ SS := W6.out.bS
  have BM6 := hide W6.out.bM
  have BW6 := hide W6.out.bl
  have HN6 := hide n6
  have HZ6 := hide z6
  have HP6 := hide hp6
  clear W6 n6 z6 hp6
  go_wp2
  go_loopw [11] (fun q wr => ∃ (i M : Nat) (s : K.St), i ≤ A.length ∧ q = .int .i64 (i : Int) ∧ DiskAt FF wr D SS M s ∧ Pw s ∧ s.n = 40 ∧ s.sz = 512 ∧ Below w.heap.size w wr ∧ w.heap.size ≤ M) (fun q wr => A.length - (intOf q).toNat)
  case atStart => exact ⟨0, M6, s6, by omega, rfl, HD6.out, HP6.out, HN6.out, HZ6.out, BW6.out, BM6.out⟩
  case round =>
    obtain ⟨i, M, s, hi, rfl, hd, hp, hsn, hsz, hbw, hbm⟩ := hrel
    have DA := hide hd
    have PA := hide hp
    have NA := hide hsn
    have ZA := hide hsz
    have BA := hide hbw
    obtain ⟨wA, rfl⟩ : ∃ wA, wA = wr := ⟨wr, rfl⟩
    by_cases hlt : i < A.length
    · have hlt' : (i : Int) < (A.length : Int) := by omega
      obtain ⟨b0, o0, rfl, hb0, hc0⟩ := (H0.out.below hbw (Nat.le_refl _)) (by omega)
      obtain ⟨x0, hn0⟩ := hc0 i hlt
      obtain ⟨b1, o1, rfl, hb1, hc1⟩ := (H1.out.below hbw (Nat.le_refl _)) (by omega)
      have x1 := hc1 i (by omega)
      have hltx : (i : Int) < (X.length : Int) := by omega
      generalize A.getD i 0 = n at x0 hn0
      generalize X.getD i 0 = y at x1
      obtain ⟨Q, hQ⟩ : ∃ Q, Q = n / 512 % 40 := ⟨_, rfl⟩
      obtain ⟨P, hP⟩ : ∃ P, P = n % 512 := ⟨_, rfl⟩
      have hQi : (n : Int) / 512 % 40 = (Q : Int) := by omega
      have hPi : (n : Int) % 512 = (P : Int) := by omega
      have hQ40 : Q < 40 := by omega
      have hP512 : P < 512 := by omega
      have hrd := read_ok wA D SS M s hd hp.1 Q (by rw [hsn]; exact hQ40)
      rw [hsz] at hrd
      obtain ⟨l, hl⟩ : ∃ l, l = s.rd Q := ⟨_, rfl⟩
      have hll := hide (hd.rdlen Q (by rw [hsn]; exact hQ40))
      rw [← hl, hsz] at hll
      rw [← hl] at hrd
      have hltA : b0 < wA.heap.size ∧ b1 < wA.heap.size := ⟨hb0, hb1⟩
      clear hc0 hc1 hd hp hsn hsz hbw hQ hP hl hb0 hb1
      have hP5 : (P : Int) < 512 := by omega
      go_wp2_with fail
      refine hrd.mono ?_
      rintro e w7 ⟨rfl, R7, b7⟩
      have x0' : w7.cell? ⟨b0, o0 + i, none⟩ = some (.int .u16 (n : Int)) := (b7.cell (p := ⟨b0, o0 + i, none⟩) hltA.1).trans x0
      have x1' : w7.cell? ⟨b1, o1 + i, none⟩ = some (.int .u8 (y.toNat : Int)) := (b7.cell (p := ⟨b1, o1 + i, none⟩) hltA.2).trans x1
      have x2' : w7.cell? ⟨wA.heap.size, P, none⟩ = some (.int .u8 (l.getD P 0).toNat) := by rw [R7.cell, List.getElem?_toArray]; exact vb_get l P (by have := hll.out; omega)
      have f2 := R7.frozen P
      obtain ⟨zz, hzz⟩ := b_xor8 (l.getD P 0) y
      generalize (l.getD P 0) = lp at x2' hzz
      have R8 := R7.set P (.int .u8 (zz.toNat : Int))
      rw [vb_set] at R8
      have R8H := hide R8.drew
      have b8 := (b7.setCell (p := ⟨wA.heap.size, P, none⟩) (Nat.le_refl _) (.int .u8 (zz.toNat : Int))).drew
      have B8H := hide b8
      have x3 : (w7.setCell ⟨wA.heap.size, P, none⟩ (.int .u8 (zz.toNat : Int))).drew.cell? ⟨b0, o0 + i, none⟩ = some (.int .u16 (n : Int)) := (b8.cell (p := ⟨b0, o0 + i, none⟩) hltA.1).trans x0
      have D8 := hide (DA.out.below b8 (Nat.le_refl _))
      clear hrd R7 R8 b7 b8 x0 x1
      have hw16 : IntKind.i64.wrap (n : Int) = (n : Int) := by rw [IntKind.wrap_i64]; omega
      have hPt : (n : Int).tmod 512 = (P : Int) := by rw [Int.tmod_eq_emod_of_nonneg (by omega)]; exact hPi
      go_wp2
      refine wp_region_X (S := fun w' => w'.cell? ⟨b0, o0 + i, none⟩ = some (.int .u16 (n : Int)) ∧ w'.cell? ⟨b1, o1 + i, none⟩ = some (.int .u8 (y.toNat : Int)) ∧ w'.cell? ⟨wA.heap.size, P, none⟩ = some (.int .u8 (lp.toNat : Int))) (jS := 15) (by kernel_rfl) ?_
      have SA : Hid (w7.drew.cell? ⟨b0, o0 + i, none⟩ = some (.int .u16 (n : Int)) ∧ w7.drew.cell? ⟨b1, o1 + i, none⟩ = some (.int .u8 (y.toNat : Int)) ∧ w7.drew.cell? ⟨wA.heap.size, P, none⟩ = some (.int .u8 (lp.toNat : Int))) := ⟨x0', x1', x2'⟩
      refine wpAnyX_take (i := 0) (v := ?v1) (gt0 _ _) (by kernel_rfl) (by kernel_rfl) (by kernel_rfl) (by kernel_rfl) (fun _ _ _ h => h) (Or.inl ⟨by rfl, ?hy1⟩) SA.out ?rest1
      case hy1 => (intro wq hSw; obtain ⟨s0, s1, s2⟩ := hSw; go_simp; try (with_reducible rfl))
      case' rest1 => try simp only [Act.put, List.setIfInBounds_toArray, List.set_cons_zero, List.set_cons_succ]
      refine wpAnyX_take (i := 1) (v := ?v2) (gt1 _ _ _) (by kernel_rfl) (by kernel_rfl) (by kernel_rfl) (by kernel_rfl) (fun _ _ _ h => h) (Or.inl ⟨by rfl, ?hy2⟩) SA.out ?rest2
      case hy2 => (intro wq hSw; obtain ⟨s0, s1, s2⟩ := hSw; go_simp; try (with_reducible rfl))
      case' rest2 => try simp only [Act.put, List.setIfInBounds_toArray, List.set_cons_zero, List.set_cons_succ]
      refine wpAnyX_take (i := 2) (v := ?v3) (gt2 _ _ _ _) (by kernel_rfl) (by kernel_rfl) (by kernel_rfl) (by kernel_rfl) (fun _ _ _ h => h) (Or.inl ⟨by rfl, ?hy3⟩) SA.out ?rest3
      case hy3 => (intro wq hSw; obtain ⟨s0, s1, s2⟩ := hSw; go_simp; try (with_reducible rfl))
      case' rest3 => try simp only [Act.put, List.setIfInBounds_toArray, List.set_cons_zero, List.set_cons_succ]
      refine wpAnyX_take (i := 3) (v := ?v4) (gt3 _ _ _ _ _) (by kernel_rfl) (by kernel_rfl) (by kernel_rfl) (by kernel_rfl) (fun _ _ _ h => h) (Or.inl ⟨by rfl, ?hy4⟩) SA.out ?rest4
      case hy4 => (intro wq hSw; obtain ⟨s0, s1, s2⟩ := hSw; go_simp; try (with_reducible rfl))
      case' rest4 => try simp only [Act.put, List.setIfInBounds_toArray, List.set_cons_zero, List.set_cons_succ]
      refine wpAnyX_take (i := 4) (v := ?v5) (gt4 _ _ _ _ _ _) (by kernel_rfl) (by kernel_rfl) (by kernel_rfl) (by kernel_rfl) (fun _ _ _ h => h) (Or.inl ⟨by rfl, ?hy5⟩) SA.out ?rest5
      case hy5 => (intro wq hSw; obtain ⟨s0, s1, s2⟩ := hSw; go_simp; try (with_reducible rfl))
      case' rest5 => try simp only [Act.put, List.setIfInBounds_toArray, List.set_cons_zero, List.set_cons_succ]
      refine wpAnyX_take (i := 5) (v := ?v6) (gt5 _ _ _ _ _ _ _) (by kernel_rfl) (by kernel_rfl) (by kernel_rfl) (by kernel_rfl) (fun _ _ _ h => h) (Or.inl ⟨by rfl, ?hy6⟩) SA.out ?rest6
      case hy6 => (intro wq hSw; obtain ⟨s0, s1, s2⟩ := hSw; go_simp; try (with_reducible rfl))
      case' rest6 => try simp only [Act.put, List.setIfInBounds_toArray, List.set_cons_zero, List.set_cons_succ]
      refine wpAnyX_take (i := 6) (v := ?v7) (gt6 _ _ _ _ _ _ _ _) (by kernel_rfl) (by kernel_rfl) (by kernel_rfl) (by kernel_rfl) (fun _ _ _ h => h) (Or.inl ⟨by rfl, ?hy7⟩) SA.out ?rest7
      case hy7 => (intro wq hSw; obtain ⟨s0, s1, s2⟩ := hSw; go_simp; try (with_reducible rfl))
      case' rest7 => try simp only [Act.put, List.setIfInBounds_toArray, List.set_cons_zero, List.set_cons_succ]
      refine wpAnyX_take (i := 7) (v := ?v8) (gt7 _ _ _ _ _ _ _ _ _) (by kernel_rfl) (by kernel_rfl) (by kernel_rfl) (by kernel_rfl) (fun _ _ _ h => h) (Or.inl ⟨by rfl, ?hy8⟩) SA.out ?rest8
      case hy8 => (intro wq hSw; obtain ⟨s0, s1, s2⟩ := hSw; go_simp; try (with_reducible rfl))
      case' rest8 => try simp only [Act.put, List.setIfInBounds_toArray, List.set_cons_zero, List.set_cons_succ]
      refine wpAnyX_take (i := 8) (v := ?v9) (gt8 _ _ _ _ _ _ _ _ _ _) (by kernel_rfl) (by kernel_rfl) (by kernel_rfl) (by kernel_rfl) (fun _ _ _ h => h) (Or.inl ⟨by rfl, ?hy9⟩) SA.out ?rest9
      case hy9 => (intro wq hSw; obtain ⟨s0, s1, s2⟩ := hSw; go_simp; try (with_reducible rfl))
      case' rest9 => try simp only [Act.put, List.setIfInBounds_toArray, List.set_cons_zero, List.set_cons_succ]
      refine wpAnyX_take (i := 9) (v := ?v10) (gt9 _ _ _ _ _ _ _ _ _ _ _) (by kernel_rfl) (by kernel_rfl) (by kernel_rfl) (by kernel_rfl) (fun _ _ _ h => h) (Or.inl ⟨by rfl, ?hy10⟩) SA.out ?rest10
      case hy10 => (intro wq hSw; obtain ⟨s0, s1, s2⟩ := hSw; go_simp; try (with_reducible rfl))
      case' rest10 => try simp only [Act.put, List.setIfInBounds_toArray, List.set_cons_zero, List.set_cons_succ]
      refine wpAnyX_take (i := 10) (v := ?v11) (gt10 _ _ _ _ _ _ _ _ _ _ _ _) (by kernel_rfl) (by kernel_rfl) (by kernel_rfl) (by kernel_rfl) (fun _ _ _ h => h) (Or.inl ⟨by rfl, ?hy11⟩) SA.out ?rest11
      case hy11 => (intro wq hSw; obtain ⟨s0, s1, s2⟩ := hSw; go_simp; try (with_reducible rfl))
      case' rest11 => try simp only [Act.put, List.setIfInBounds_toArray, List.set_cons_zero, List.set_cons_succ]
      refine wpAnyX_take (i := 11) (v := ?v12) (gt11 _ _ _ _ _ _ _ _ _ _ _ _ _) (by kernel_rfl) (by kernel_rfl) (by kernel_rfl) (by kernel_rfl) (fun _ _ _ h => h) (Or.inl ⟨by rfl, ?hy12⟩) SA.out ?rest12
      case hy12 => (intro wq hSw; obtain ⟨s0, s1, s2⟩ := hSw; go_simp; try (with_reducible rfl))
      case' rest12 => try simp only [Act.put, List.setIfInBounds_toArray, List.set_cons_zero, List.set_cons_succ]
      refine wpAnyX_take (i := 12) (v := ?v13) (gt12 _ _ _ _ _ _ _ _ _ _ _ _ _ _) (by kernel_rfl) (by kernel_rfl) (by kernel_rfl) (by kernel_rfl) (fun _ _ _ h => h) (Or.inl ⟨by rfl, ?hy13⟩) SA.out ?rest13
      case hy13 => (intro wq hSw; obtain ⟨s0, s1, s2⟩ := hSw; go_simp; try (with_reducible rfl))
      case' rest13 => try simp only [Act.put, List.setIfInBounds_toArray, List.set_cons_zero, List.set_cons_succ]
      refine wpAnyX_take (i := 13) (v := ?v14) (gt13 _ _ _ _ _ _ _ _ _ _ _ _ _ _ _) (by kernel_rfl) (by kernel_rfl) (by kernel_rfl) (by kernel_rfl) (fun _ _ _ h => h) (Or.inl ⟨by rfl, ?hy14⟩) SA.out ?rest14
      case hy14 => (intro wq hSw; obtain ⟨s0, s1, s2⟩ := hSw; go_simp; try (with_reducible rfl))
      case' rest14 => try simp only [Act.put, List.setIfInBounds_toArray, List.set_cons_zero, List.set_cons_succ]
      refine wpAnyX_take (i := 14) (v := ?v15) (gt14 _ _ _ _ _ _ _ _ _ _ _ _ _ _ _ _) (by kernel_rfl) (by kernel_rfl) (by kernel_rfl) (by kernel_rfl) (fun _ _ _ h => h) (Or.inl ⟨by rfl, ?hy15⟩) SA.out ?rest15
      case hy15 => (intro wq hSw; obtain ⟨s0, s1, s2⟩ := hSw; go_simp; try (with_reducible rfl))
      case' rest15 => try simp only [Act.put, List.setIfInBounds_toArray, List.set_cons_zero, List.set_cons_succ]
      refine wpAnyX_ready (rs := [15]) (by kernel_rfl) (by simp) (AllX.cons (gt15 _ _ _ _ _ _ _ _ _ _ _ _ _ _ _ _ _) (fun K hKK => ?br) AllX.nil)
      case br =>
        have x2d : w7.drew.cell? ⟨wA.heap.size, P, none⟩ = some (.int .u8 (lp.toNat : Int)) := x2'
        have f2d : w7.drew.frozen? ⟨wA.heap.size, P, none⟩ = false := f2
        go_simp
        refine hKK.out _ _ (Or.inl rfl) ?_
        clear hKK
        try simp only [Act.put, List.setIfInBounds_toArray, List.set_cons_zero, List.set_cons_succ]
        refine wpAnyX_done (by kernel_rfl) ?_ _
        clear SA x2d f2d x2' f2 x0' x1'
        generalize (w7.setCell ⟨wA.heap.size, P, none⟩ (.int .u8 (zz.toNat : Int))).drew = w8 at R8H B8H x3 D8 ⊢
        obtain ⟨l', hl'⟩ : ∃ l', l' = l.set P zz := ⟨_, rfl⟩
        rw [← hl'] at R8H
        have hll' : l'.length = 512 := by rw [hl', List.length_set]; exact hll.out
        have hwr := write_ok w8 D SS M s D8.out PA.out.1 Q (by rw [NA.out]; exact hQ40) (some ⟨wA.heap.size, 0, none⟩) 512 l' (by rw [ZA.out]; exact hll') (SlU.row R8H.out) PA.out.can
        rw [hll'] at hwr
        have HLL' := hide hll'
        clear hl' hll'
        go_wp2_with fail
        refine hwr.mono ?_
        rintro e w9 ⟨rfl, D9, M9⟩
        have D9H := hide D9
        have B9 := hide (M9.below (BA.out.trans (B8H.out.mono BA.out.size)) (Nat.le_trans BA.out.size B8H.out.size) BD BS hbm)
        clear D9 M9 hwr
        go_wp2
        go_roundw
        case rel => exact ⟨i + 1, M, s.put Q l', by omega, by go_num, D9H.out, put_pw PA.out _ _, by rw [put_n PA.out]; exact NA.out, by rw [put_sz PA.out]; exact ZA.out, B9.out, hbm⟩
        case measure => simp [intOf]; omega
    · have hlt' : ¬ (i : Int) < (A.length : Int) := by omega
      have hsy := sync_ok wA D SS M s hd hp.1 hp.can
      clear hd hp hsn hsz hbw
      go_wp2_with fail
      refine hsy.mono ?_
      rintro e w7 ⟨rfl, M7, D7, V7, z7, _⟩
      have B7 := hide (V7.below BA.out BA.out.size BD BS hbm)
      have D7H := hide D7
      have zM7 : w.heap.size ≤ M7 := Nat.le_trans BA.out.size z7
      have hop := open_odd w7 (HT.out.below B7.out hpos) D SS M7 s.synced D7 (synced_pw PA.out) (by rw [synced_n PA.out, NA.out]; omega) (by omega)
      clear D7 V7 z7 hsy
      go_wp2_with fail
      refine hop.mono ?_
      rintro e w8 ⟨⟨a8, n8, c8, rfl⟩ | rfl, M8⟩
      · have B8 := hide (M8.below B7.out B7.out.size BD BS zM7)
        clear M8 hop
        go_wp2
        go_ret
        exact ⟨rfl, B8.out⟩
      · have B8 := hide (M8.below B7.out B7.out.size BD BS zM7)
        have he2 : ∀ (W : World), (binOp .eql 31 (.pointer none) (.pointer none)).run Tryd.prog W = .ok (.bool true) W := fun _ => rfl
        clear M8 hop
        go_wp2
        go_ret
        exact ⟨rfl, B8.out⟩
end Go.Proofs.YtidocfajhhpfdaaDoor
