/- (journal.head).slot, (journal.head).bytes. -/
import Derived.Test.YtidocfajhhpfdaaDoorJmk
namespace Go.Proofs.YtidocfajhhpfdaaDoor
open Go.RowKit
def hrow (h : J.H) : Array Value := #[.int .u64 (h.c : Int), .int .i64 (h.a : Int), .int .i64 (h.u : Int), .int .i64 (h.b : Int)]
structure HOk (h : J.H) : Prop where
  c : h.c < 4611686018427387904
  a : h.a < 2
  u : h.u < 4294967296
  b : h.b ≤ 1048576
set_option maxRecDepth 5000 in
theorem slot_any (w : World) (h : J.H) (hh : HOk h) : Calls Tryd.prog 60 #[.agg (hrow h)] w fun e w' => e = .returned (.int .i64 ((h.c % 2 : Nat) : Int)) ∧ Below w.heap.size w w' := by
  have h1 := hh.c
  unfold hrow
  have e1 : (h.c : Int) % 2 = ((h.c % 2 : Nat) : Int) := by omega
  have e2 : IntKind.i64.wrap ((h.c % 2 : Nat) : Int) = ((h.c % 2 : Nat) : Int) := by rw [IntKind.wrap_i64]; omega
  have e3 : (h.c : Int).tmod 2 = ((h.c % 2 : Nat) : Int) := by rw [Int.tmod_eq_emod_of_nonneg (by omega)]; omega
  obtain ⟨x, hx⟩ : ∃ x, x = h.c % 2 := ⟨_, rfl⟩
  rw [← hx] at e1 e2 e3 ⊢
  clear hx
  go_enter Tryd.func60, Tryd.ntmps60
  go_wp2
  go_ret
  exact ⟨rfl, (Below.refl _ w).alloc (Nat.le_refl _) _⟩
set_option maxRecDepth 5000 in
theorem own_base {w : World} {B B' : Nat} {v : Value} {l : List UInt8} (h : OwnB w B v l) (hb : B' ≤ B) : OwnB w B' v l := by
  have h0 : w.ownsRow B 5 1 v l.length (vb l) := h
  refine ⟨h0.1, ?_⟩
  rcases h0.2 with h1 | ⟨g, cap, cur, e, h1, h2⟩
  · exact Or.inl h1
  · exact Or.inr ⟨g, cap, cur, e, by omega, h2⟩
set_option maxRecDepth 5000 in
theorem crc_at (w : World) (ht : Tab w) (ao : Option Addr) (c m : Nat) (l : List UInt8) (hm : l.length = m) (hl : m ≤ 1000000000000) (hs : SlL w ao l) :
    Calls Tryd.prog 10 #[.slice ao m c] w fun e w' => e = .returned (.int .u32 (J.crc l : Int)) ∧ w' = w := by
  subst hm; exact crc_tab w ht ao c l hl hs
set_option maxHeartbeats 2000000 in
set_option maxRecDepth 5000 in
theorem hbytes_any (w : World) (ht : Tab w) (h : J.H) (hh : HOk h) (sz : Nat) (hz1 : 64 ≤ sz) (hz2 : sz ≤ 4096) :
    Calls Tryd.prog 68 #[.agg (hrow h), .int .i64 (sz : Int)] w fun e w' => ∃ v', e = .returned v' ∧ OwnB w' w.heap.size v' (J.hb h sz) ∧ Below w.heap.size w w' := by
  have kc := run_conv
  obtain ⟨h1, h2, h3, h4⟩ := hh
  have hpos : 0 < w.heap.size := ht.1
  have HT := hide ht
  have e0 : Hid (J.hb h sz = J.mark ++ J.be 8 h.c ++ J.be 4 h.a ++ J.be 4 h.u ++ J.be 4 h.b ++ List.replicate (sz - 32) 0 ++ J.be 4 (J.crc (J.hpre h sz))) := rfl
  have e1 : Hid (J.mark ++ J.be 8 h.c ++ J.be 4 h.a ++ J.be 4 h.u ++ J.be 4 h.b ++ List.replicate (sz - 32) 0 = J.hpre h sz) := rfl
  clear ht
  unfold hrow
  obtain ⟨C, A, U, Bl⟩ := h
  simp only at h1 h2 h3 h4
  simp only
  go_enter Tryd.func68, Tryd.ntmps68
  go_wp2_with fail
  have R0 : RowAt ((w.alloc (.cells #[.int .u64 (C : Int), .int .i64 (A : Int), .int .i64 (U : Int), .int .i64 (Bl : Int)] 67)).alloc (.cells #[.int .u8 106, .int .u8 111, .int .u8 117, .int .u8 114, .int .u8 110, .int .u8 97, .int .u8 108, .int .u8 50] 5 (8, 9))) w.heap.size 67 #[.int .u64 (C : Int), .int .i64 (A : Int), .int .i64 (U : Int), .int .i64 (Bl : Int)] := (RowAt.new w _ _).alloc _
  have hM : SlL ((w.alloc (.cells #[.int .u64 (C : Int), .int .i64 (A : Int), .int .i64 (U : Int), .int .i64 (Bl : Int)] 67)).alloc (.cells #[.int .u8 106, .int .u8 111, .int .u8 117, .int .u8 114, .int .u8 110, .int .u8 97, .int .u8 108, .int .u8 50] 5 (8, 9))) (some ⟨w.heap.size + 1, 0, none⟩) J.mark := by
    have := SlL.litm (w.alloc (.cells #[.int .u64 (C : Int), .int .i64 (A : Int), .int .i64 (U : Int), .int .i64 (Bl : Int)] 67)) J.mark #[.int .u8 106, .int .u8 111, .int .u8 117, .int .u8 114, .int .u8 110, .int .u8 97, .int .u8 108, .int .u8 50] 5 (8, 9) rfl
    simpa using this
  have b0 : Below w.heap.size w ((w.alloc (.cells #[.int .u64 (C : Int), .int .i64 (A : Int), .int .i64 (U : Int), .int .i64 (Bl : Int)] 67)).alloc (.cells #[.int .u8 106, .int .u8 111, .int .u8 117, .int .u8 114, .int .u8 110, .int .u8 97, .int .u8 108, .int .u8 50] 5 (8, 9))) := ((Below.refl _ w).alloc (Nat.le_refl _) _).alloc (by simp) _
  have s0 : ((w.alloc (.cells #[.int .u64 (C : Int), .int .i64 (A : Int), .int .i64 (U : Int), .int .i64 (Bl : Int)] 67)).alloc (.cells #[.int .u8 106, .int .u8 111, .int .u8 117, .int .u8 114, .int .u8 110, .int .u8 97, .int .u8 108, .int .u8 50] 5 (8, 9))).heap.size = w.heap.size + 2 := by simp
  generalize (w.alloc (.cells #[.int .u64 (C : Int), .int .i64 (A : Int), .int .i64 (U : Int), .int .i64 (Bl : Int)] 67)).alloc (.cells #[.int .u8 106, .int .u8 111, .int .u8 117, .int .u8 114, .int .u8 110, .int .u8 97, .int .u8 108, .int .u8 50] 5 (8, 9)) = w1 at R0 hM b0 s0 ⊢
  generalize hg : w.heap.size = g at *
  have G1 : Gro w1 (g + 1) (.slice (some ⟨g + 1, 0, none⟩) 8 8) J.mark := Or.inr ⟨_, rfl, hM, by decide⟩
  refine (show Calls Tryd.prog 69 #[.slice (some ⟨g + 1, 0, none⟩) 8 8, .int .i64 8, .int .u64 (C : Int)] w1 _ from appNum_any w1 (g + 1) _ J.mark 8 C G1 (by omega) (by omega) (by rw [J.mark_len]; omega) (by omega)).mono ?_
  rintro e w2 ⟨v2, rfl, O2, b2⟩
  have R2 := R0.below b2 (by omega)
  have bb2 := b0.trans (b2.mono (Nat.le_succ _))
  have z2 : g + 1 ≤ w2.heap.size := by have := b2.size; omega
  have d1 : w2.cell? ⟨g, 1, none⟩ = some (.int .i64 (A : Int)) := R2.cell 1
  have w64a : IntKind.u64.wrap (A : Int) = (A : Int) := by rw [IntKind.wrap_u64]; omega
  have w64u : IntKind.u64.wrap (U : Int) = (U : Int) := by rw [IntKind.wrap_u64]; omega
  have w64b : IntKind.u64.wrap (Bl : Int) = (Bl : Int) := by rw [IntKind.wrap_u64]; omega
  clear R0 hM G1 s0 b0 b2 kc
  have HO2 := hide O2
  clear O2
  go_wp2_with fail
  refine (show Calls Tryd.prog 69 #[v2, .int .i64 4, .int .u64 (A : Int)] w2 _ from appNum_any w2 (g + 1) _ _ 4 A (Or.inl HO2.out) (by omega) (by omega) (by simp only [List.length_append, J.mark_len, J.be_len]; omega) (by omega)).mono ?_
  rintro e w3 ⟨v3, rfl, O3, b3⟩
  have R3 := R2.below b3 (by omega)
  have bb3 := bb2.trans (b3.mono (Nat.le_succ _))
  have z3 : g + 1 ≤ w3.heap.size := by have := b3.size; omega
  have d2 : w3.cell? ⟨g, 2, none⟩ = some (.int .i64 (U : Int)) := R3.cell 2
  clear R2 HO2 bb2 z2 b3 d1
  have HO3 := hide O3
  clear O3
  go_wp2_with fail
  refine (show Calls Tryd.prog 69 #[v3, .int .i64 4, .int .u64 (U : Int)] w3 _ from appNum_any w3 (g + 1) _ _ 4 U (Or.inl HO3.out) (by omega) (by omega) (by simp only [List.length_append, J.mark_len, J.be_len]; omega) (by omega)).mono ?_
  rintro e w4 ⟨v4, rfl, O4, b4⟩
  have R4 := R3.below b4 (by omega)
  have bb4 := bb3.trans (b4.mono (Nat.le_succ _))
  have z4 : g + 1 ≤ w4.heap.size := by have := b4.size; omega
  have d3 : w4.cell? ⟨g, 3, none⟩ = some (.int .i64 (Bl : Int)) := R4.cell 3
  clear R3 HO3 bb3 z3 b4 d2
  have HO4 := hide O4
  clear O4
  go_wp2_with fail
  refine (show Calls Tryd.prog 69 #[v4, .int .i64 4, .int .u64 (Bl : Int)] w4 _ from appNum_any w4 (g + 1) _ _ 4 Bl (Or.inl HO4.out) (by omega) (by omega) (by simp only [List.length_append, J.mark_len, J.be_len]; omega) (by omega)).mono ?_
  rintro e w5 ⟨v5, rfl, O5, b5⟩
  have bb5 := bb4.trans (b5.mono (Nat.le_succ _))
  have z5 : g + 1 ≤ w5.heap.size := by have := b5.size; omega
  clear R4 HO4 bb4 z4 b5 d3
  have hl5 : (J.mark ++ J.be 8 C ++ J.be 4 A ++ J.be 4 U ++ J.be 4 Bl).length = 28 := by simp only [List.length_append, J.mark_len, J.be_len]
  obtain ⟨g5, c5, hv5, hq⟩ := O5.form (by omega)
  clear hq
  rw [hl5] at hv5
  have HO5 := hide O5
  rw [hv5]
  rw [hv5] at HO5
  clear O5 hv5
  have hw6 : (sz : Int) - 4 - 28 = ((sz - 32 : Nat) : Int) := by omega
  have T5 := hide (HT.out.below bb5 (by omega))
  go_wp2_with (at_builtin; refine wpList_append_zeros rfl (.tmp 27) (.tmp 32) rfl (g + 1) _ _ rfl HO5.out (sz - 32) (by rw [← hw6]; rfl) (by omega) (by rw [hl5]; omega) (by omega) ?_; intro v6 w6 O6 b6; have bb6 := hide (bb5.trans (b6.mono (Nat.le_succ g))); have T6 := hide (T5.out.below b6 (Nat.succ_pos g)); have z6 : g + 1 ≤ w6.heap.size := (by have := b6.size; omega); rw [e1.out] at O6; have HO6 := hide O6; obtain ⟨g6, c6, hv6, hq1, hq2, hq3, hq4, hq5⟩ := O6.form (by rw [J.hpre_len _ _ (by omega)]; omega); rw [J.hpre_len _ _ (by omega)] at hv6; have S6 := hide (show SlL w6 (some ⟨g6, 0, none⟩) (J.hpre ⟨C, A, U, Bl⟩ sz) from fun _ => ⟨g6, 0, rfl, hq4, fun j hj => by rw [Nat.zero_add]; exact hq5 j hj⟩); clear hq1 hq2 hq3 hq4 hq5 O6 b6; rw [hv6] at HO6; rw [hv6]; clear hv6)
  have hpl := J.hpre_len ⟨C, A, U, Bl⟩ sz (by omega)
  refine (crc_at w6 T6.out (some ⟨g6, 0, none⟩) c6 (sz - 4) _ hpl (by omega) S6.out).mono ?_
  rintro e w' ⟨rfl, hw'⟩
  rw [hw']
  clear hw' w' S6
  have hcl := J.crc_lt (J.hpre ⟨C, A, U, Bl⟩ sz)
  obtain ⟨X, hX⟩ : ∃ X, X = J.crc (J.hpre ⟨C, A, U, Bl⟩ sz) := ⟨_, rfl⟩
  rw [← hX] at hcl e0 ⊢
  clear hX
  go_wp2_with fail
  refine (show Calls Tryd.prog 69 #[.slice (some ⟨g6, 0, none⟩) (sz - 4) c6, .int .i64 4, .int .u64 (X : Int)] w6 _ from appNum_any w6 (g + 1) _ _ 4 X (Or.inl HO6.out) (by omega) (by omega) (by rw [hpl]; omega) (by omega)).mono ?_
  rintro e w7 ⟨v7, rfl, O7, b7⟩
  rw [e1.out] at e0
  rw [← e0.out] at O7
  have HO7 := hide O7
  have bb7 := hide (bb6.out.trans (b7.mono (Nat.le_succ g)))
  clear O7 b7 HO6 T6 HO5 T5 e0 e1
  go_wp2
  go_ret
  rw [hg]
  refine ⟨_, rfl, ?_, bb7.out⟩
  exact own_base HO7.out (Nat.le_succ g)
end Go.Proofs.YtidocfajhhpfdaaDoor
