/- frameEnd and openFrames of any bytes. -/
import Derived.Test.YtidocfajhhpfdaaDoorJoa
namespace Go.Proofs.YtidocfajhhpfdaaDoor
open Go.RowKit
set_option maxHeartbeats 2000000 in
set_option maxRecDepth 5000 in
theorem frameEnd_any (w : World) (ht : Tab w) (g o c : Nat) (b : List UInt8) (hl : b.length ≤ 1000000000) (hc : b.length ≤ c) (hs : SlL w (some ⟨g, o, none⟩) b) :
    Calls Tryd.prog 49 #[.slice (some ⟨g, o, none⟩) b.length c] w fun e w' => ((∃ E : Nat, 12 < E ∧ E ≤ b.length ∧ e = .returned (.int .i64 (E : Int))) ∨ e = fell 91) ∧ ∃ n, w' = w.drewN n := by
  by_cases h12 : b.length < 12
  · have f3 : (b.length : Int) < 12 := by omega
    generalize b.length = n at *
    go_enter Tryd.func49, Tryd.ntmps49
    go_wp2
    exact ⟨rfl, Or.inr rfl, 0, rfl⟩
  obtain ⟨R, hR⟩ : ∃ R, J.num ((b.drop 4).take 4) = R := ⟨_, rfl⟩
  have hRlt : R < 4294967296 := by have := J.num_lt ((b.drop 4).take 4); rw [hR, List.length_take, List.length_drop, Nat.min_eq_left (by omega)] at this; exact this
  have n1 : Calls Tryd.prog 50 #[.slice (some ⟨g, o + 4, none⟩) 4 (c - 4)] w fun e w' => e = .returned (.int .u64 (R : Int)) ∧ w' = w := by
    have := number_any w (some ⟨g, o + 4, none⟩) (c - 4) 4 ((b.drop 4).take 4) (by rw [List.length_take, List.length_drop]; omega) (by omega) (hs.sub 4 4)
    rw [hR] at this; exact this
  have f3 : ¬ (b.length : Int) < 12 := by omega
  have f1 : IntKind.u64.wrap ((b.length : Int) - 12) = (b.length : Int) - 12 := by rw [IntKind.wrap_u64]; omega
  by_cases hR0 : R = 0
  · subst hR0
    have n1' : Calls Tryd.prog 50 #[.slice (some ⟨g, o + 4, none⟩) 4 (c - 4)] w fun e w' => e = .returned (.int .u64 0) ∧ w' = w := n1
    clear hs ht n1
    have hn : 12 ≤ b.length := by omega
    have hb9 : (b.length : Int) ≤ 1000000000 := by omega
    generalize b.length = n at *
    go_enter Tryd.func49, Tryd.ntmps49
    go_wp2_with (go_at_call 50; refine n1'.mono ?_; rintro e w' ⟨rfl, hw⟩; rw [hw]; clear hw w')
    exact ⟨rfl, Or.inr rfl, 0, rfl⟩
  have f5 : ((R : Int) == 0) = false := by simp; omega
  by_cases hR2 : R + 12 ≤ b.length
  rotate_left
  · have f4 : decide ((b.length : Int) - 12 < (R : Int)) = true := by simp; omega
    clear hs ht
    have hn : 12 ≤ b.length := by omega
    generalize b.length = n at *
    go_enter Tryd.func49, Tryd.ntmps49
    go_wp2_with (go_at_call 50; refine n1.mono ?_; rintro e w' ⟨rfl, hw⟩; rw [hw]; clear hw w')
    exact ⟨rfl, Or.inr rfl, 0, rfl⟩
  obtain ⟨X1, hX1⟩ : ∃ X1, J.num ((b.drop (R + 8)).take 4) = X1 := ⟨_, rfl⟩
  have hX1lt : X1 < 4294967296 := by have := J.num_lt ((b.drop (R + 8)).take 4); rw [hX1, List.length_take, List.length_drop, Nat.min_eq_left (by omega)] at this; exact this
  have n2 : ∀ (W : World) (m : Nat), W = w.drewN m → Calls Tryd.prog 50 #[.slice (some ⟨g, o + (R + 8), none⟩) 4 (c - (R + 8))] W fun e w' => e = .returned (.int .u64 (X1 : Int)) ∧ w' = W := fun W m hW => by
    have := number_any W (some ⟨g, o + (R + 8), none⟩) (c - (R + 8)) 4 ((b.drop (R + 8)).take 4) (by rw [List.length_take, List.length_drop]; omega) (by omega) (by rw [hW]; exact hs.sub (R + 8) 4)
    rw [hX1] at this; exact this
  have n3 : ∀ (W : World) (m : Nat), W = w.drewN m → Calls Tryd.prog 10 #[.slice (some ⟨g, o, none⟩) (R + 8) c] W fun e w' => e = .returned (.int .u32 (J.crc (b.take (R + 8)) : Int)) ∧ w' = W := fun W m hW => by
    exact crc_at W (by rw [hW]; exact ht) (some ⟨g, o, none⟩) c (R + 8) (b.take (R + 8)) (by rw [List.length_take]; omega) (by omega) (by rw [hW]; exact hs.pre (R + 8))
  have hcl := J.crc_lt (b.take (R + 8))
  generalize J.crc (b.take (R + 8)) = X at n3 hcl
  have hbc : R + 12 ≤ c := by omega
  have hb9 : R ≤ 1000000000 := by omega
  have f4 : decide ((b.length : Int) - 12 < (R : Int)) = false := by simp; omega
  have HB2 : Hid (R + 12 ≤ b.length) := hR2
  have HR0 : Hid (0 < R) := Nat.pos_of_ne_zero hR0
  have hn : 12 ≤ b.length := by omega
  clear hs ht hR hX1 hR0 hR2 h12
  generalize b.length = n at *
  have f2 : IntKind.i64.wrap (R : Int) = (R : Int) := by rw [IntKind.wrap_i64]; omega
  have f7 : IntKind.u64.wrap (X : Int) = (X : Int) := by rw [IntKind.wrap_u64]; omega
  go_enter Tryd.func49, Tryd.ntmps49
  go_wp2_with (go_at_call 50; refine n1.mono ?_; rintro e w' ⟨rfl, hw⟩; rw [hw]; clear hw w')
  obtain ⟨E, hE⟩ : ∃ E : Nat, (R : Int) + 12 = (E : Int) := ⟨R + 12, by omega⟩
  obtain ⟨Q, hQ⟩ : ∃ Q : Nat, R + 8 = Q := ⟨_, rfl⟩
  rw [hE]
  rw [hQ] at n2 n3
  have hEQ : (E : Int) - 4 = (Q : Int) := by omega
  have hQE : Q ≤ E := by omega
  have f8 : IntKind.i64.wrap ((E : Int) - 4) = (Q : Int) := by rw [IntKind.wrap_i64]; omega
  have f9 : E ≤ 1000000012 := by omega
  have hEc : E ≤ c := by omega
  have hQc : Q ≤ c := by omega
  have hd4 : E - Q = 4 := by omega
  have HE : Hid (12 < E ∧ E ≤ n) := by have := HB2.out; have := HR0.out; exact ⟨by omega, by omega⟩
  have s1 := sl_mid g o n c Q E hQE hEc (by omega)
  rw [hd4] at s1
  have s2 := sl_pre g o n c Q hQc
  generalize o + Q = oQ at s1 n2
  generalize c - Q = cQ at s1 n2
  have HEQ := hide hEQ
  clear hEQ hQE hEc hQc hd4
  clear hE hQ n1 f1 f2 f3 f4 f5 hc hbc hb9 hn HB2 HR0
  by_cases hXX : X1 = X
  · subst hXX
    go_region_held3 (fun _ => True) (first | trivial) (first
      | (go_at_call 50; refine (n2 _ _ rfl).mono ?_; rintro e w' ⟨rfl, hw⟩; rw [hw]; clear hw w')
      | (go_at_call 10; refine (n3 _ _ rfl).mono ?_; rintro e w' ⟨rfl, hw⟩; rw [hw]; clear hw w'))
    all_goals
      go_wp2
      go_ret
      exact ⟨Or.inl ⟨E, HE.out.1, HE.out.2, rfl⟩, _, rfl⟩
  · have hne : ((X1 : Int) != (X : Int)) = true := by simp; omega
    go_region_held3 (fun _ => True) (first | trivial) (first
      | (go_at_call 50; refine (n2 _ _ rfl).mono ?_; rintro e w' ⟨rfl, hw⟩; rw [hw]; clear hw w')
      | (go_at_call 10; refine (n3 _ _ rfl).mono ?_; rintro e w' ⟨rfl, hw⟩; rw [hw]; clear hw w'))
    all_goals
      go_wp2
      exact ⟨rfl, Or.inr rfl, _, rfl⟩
set_option maxHeartbeats 4000000 in
set_option maxRecDepth 5000 in
theorem openFrames_some (w : World) (ht : Tab w) (g o c n : Nat) (b : List UInt8) (hn : n ≤ 1048576) (hl : b.length ≤ 1000000000) (hc : b.length ≤ c) (hs : SlL w (some ⟨g, o, none⟩) b) :
    Calls Tryd.prog 32 #[.slice (some ⟨g, o, none⟩) b.length c, .int .i64 (n : Int)] w fun e w' => ((∃ v, e = .returned v ∧ ∃ L, OwnBs w' w.heap.size v L ∧ L.length = n) ∨ e = fell 91) ∧ Below w.heap.size w w' := by
  have HS := hide hs
  have HT := hide ht
  have hpos : 0 < w.heap.size := ht.1
  have hmk := make_bs n (by omega)
  have M0 : Hid (Mad (w.alloc (.cells (List.replicate n (.slice none 0 0)).toArray 22)) w.heap.size n (J.dec [] n)) := ⟨J.dec_len [] n, _, List.length_replicate, RowAt.new w _ _, each_nils _ n⟩
  have B0 : Hid (Below w.heap.size w (w.alloc (.cells (List.replicate n (.slice none 0 0)).toArray 22))) := (Below.refl _ w).alloc (Nat.le_refl _) _
  generalize (Obj.cells (List.replicate n (.slice none 0 0)).toArray 22) = ob at hmk M0 B0
  clear hs ht
  go_enter Tryd.func32, Tryd.ntmps32
  go_wp2
  go_loopw [0, 6] (fun v q wr => ∃ (r : List UInt8) (o' c' k : Nat) (L : List (List UInt8)), k ≤ n ∧ q = .int .u64 (k : Int) ∧ v = .slice (some ⟨g, o', none⟩) r.length c' ∧ r.length ≤ c' ∧ r.length ≤ 1000000000 ∧ SlL w (some ⟨g, o', none⟩) r ∧ Mad wr w.heap.size n L ∧ Below w.heap.size w wr) (fun v q wr => (match v with | .slice _ n _ => n | _ => 0))
  case atStart => exact ⟨b, o, c, 0, _, Nat.zero_le _, rfl, rfl, hc, hl, HS.out, M0.out, B0.out⟩
  case round =>
    obtain ⟨r, o', c', k, L, hkn, rfl, rfl, hc', hl', hs', hM, hBw⟩ := hrel
    have hzw : w.heap.size ≤ wr.heap.size := hBw.size
    by_cases hr0 : r.length = 0
    · have hle : ¬ (0 : Int) < (r.length : Int) := by omega
      have HBw := hide hBw
      have HM := hide hM
      clear hBw hs' hc' hl' hM
      generalize r.length = m at *
      go_wp2
      go_ret
      exact ⟨Or.inl ⟨_, rfl, L, HM.out.own (Nat.le_refl _) (by omega), HM.out.1⟩, HBw.out⟩
    have hpr : (0 : Int) < (r.length : Int) := by omega
    have hfe := frameEnd_any wr (HT.out.below hBw hpos) g o' c' r hl' hc' (hs'.below hBw (Nat.le_refl _))
    have HM := hide hM
    have HBw := hide hBw
    have HS' := hide hs'
    clear hM hBw hs'
    obtain ⟨m, hm⟩ : ∃ m, m = r.length := ⟨_, rfl⟩
    rw [← hm] at hfe hpr hc' hl' ⊢
    have HMM := hide hm
    clear hm hr0
    go_wp2_with fail
    refine hfe.mono ?_
    rintro e w1 ⟨⟨E, hE1, hE2, rfl⟩ | rfl, m1, hw1⟩
    rotate_left
    · have B1 : Hid (Below w.heap.size w w1) := by rw [hw1]; exact below_drewN HBw.out m1
      clear hw1
      unfold fell
      go_wp2
      exact ⟨rfl, Or.inr rfl, B1.out⟩
    have B1 : Hid (Below w.heap.size w w1) := by rw [hw1]; exact below_drewN HBw.out m1
    have M1 : Hid (Mad w1 w.heap.size n L) := by rw [hw1]; exact HM.out.drewN m1
    have z1 : w.heap.size ≤ w1.heap.size := B1.out.size
    clear hw1 hfe
    obtain ⟨P, hP⟩ : ∃ P, J.num (r.take 4) = P := ⟨_, rfl⟩
    have hPlt : P < 4294967296 := by have := J.num_lt (r.take 4); rw [hP, List.length_take, ← HMM.out, Nat.min_eq_left (by omega)] at this; exact this
    have hnu : Calls Tryd.prog 50 #[.slice (some ⟨g, o', none⟩) 4 c'] w1 fun e w' => e = .returned (.int .u64 (P : Int)) ∧ w' = w1 := by
      have := number_any w1 (some ⟨g, o', none⟩) c' 4 (r.take 4) (by rw [List.length_take, ← HMM.out]; omega) (by omega) ((HS'.out.below B1.out (Nat.le_refl _)).pre 4)
      rw [hP] at this; exact this
    have sx1 : ∀ W : World, (Instr.sliceAt 22 (.slice (some ⟨g, o', none⟩) m c') none (some (.int .i64 4)) none).run Tryd.prog W = .ok (.slice (some ⟨g, o', none⟩) 4 c') W := sl_pre g o' m c' 4 (by omega)
    have fp3 : IntKind.u64.wrap (n : Int) = (n : Int) := by rw [IntKind.wrap_u64]; omega
    by_cases hPk : P < k
    · have fp1 : decide (P < k) = true := by simp; omega
      go_wp2_with (first | (go_at_call 50; refine hnu.mono ?_; rintro e w' ⟨rfl, hw⟩; rw [hw]; clear hw w') | fail)
      exact ⟨rfl, Or.inr rfl, B1.out⟩
    have fp1 : decide (P < k) = false := by simp; omega
    by_cases hPn : n ≤ P
    · have fp2 : decide (n ≤ P) = true := by simp; omega
      go_wp2_with (first | (go_at_call 50; refine hnu.mono ?_; rintro e w' ⟨rfl, hw⟩; rw [hw]; clear hw w') | fail)
      exact ⟨rfl, Or.inr rfl, B1.out⟩
    have fp2 : decide (n ≤ P) = false := by simp; omega
    have fp4 : (P : Int) < (n : Int) := by omega
    have fp5 : IntKind.u64.wrap ((P : Int) + 1) = ((P + 1 : Nat) : Int) := by rw [IntKind.wrap_u64]; omega
    obtain ⟨Q, hQ⟩ : ∃ Q, Q = E - 4 := ⟨_, rfl⟩
    have fQ : IntKind.i64.wrap ((E : Int) - 4) = (Q : Int) := by rw [IntKind.wrap_i64]; omega
    obtain ⟨T, hT⟩ : ∃ T, T = (r.drop 8).take (Q - 8) := ⟨_, rfl⟩
    have hTl : T.length = Q - 8 := by rw [hT, List.length_take, List.length_drop, ← HMM.out]; omega
    have sx4 : ∀ W : World, (Instr.sliceAt 22 (.slice (some ⟨g, o', none⟩) m c') (some (.int .i64 8)) (some (.int .i64 (Q : Int))) none).run Tryd.prog W = .ok (.slice (some ⟨g, o' + 8, none⟩) (Q - 8) (c' - 8)) W := sl_mid g o' m c' 8 Q (by omega) (by omega) (by omega)
    have sx3 := sl_suf g o' m c' E hE2
    have hcl : Calls Tryd.prog 51 #[.slice (some ⟨g, o' + 8, none⟩) (Q - 8) (c' - 8)] w1 fun e w' => ∃ v, e = .returned v ∧ OwnB w' w1.heap.size v T ∧ Below w1.heap.size w1 w' := by
      have := bClone_any w1 g (o' + 8) (c' - 8) (Q - 8) T hTl (by omega) (by rw [hT]; exact (HS'.out.below B1.out (Nat.le_refl _)).sub 8 (Q - 8))
      exact this
    rw [← hTl] at hcl sx4
    have HSE : Hid (SlL w (some ⟨g, if c' = E then o' else o' + E, none⟩) (r.drop E)) := by
      by_cases h : c' = E
      · have : r.drop E = [] := List.drop_of_length_le (by rw [← HMM.out]; omega)
        rw [this]; exact SlL.nil _ _
      · rw [if_neg h]; exact HS'.out.suf E
    have HDL : Hid ((r.drop E).length = m - E) := by show _ = _; rw [List.length_drop, ← HMM.out]
    have hcE : m - E ≤ c' - E := by omega
    have hlE : m - E ≤ 1000000000 := by omega
    have hmeas : Hid (m - E < m) := by show _ < _; omega
    have HPn : Hid (P < n) := by show _ < _; omega
    have hE9 : E ≤ 1000000000 := by omega
    have hTb : T.length ≤ 1000000000 := by omega
    generalize (if c' = E then o' else o' + E) = oE at HSE sx3
    generalize c' - E = cE at hcE sx3
    generalize o' + 8 = o8 at hcl sx4
    generalize c' - 8 = c8 at hcl sx4
    obtain ⟨m2, hm2⟩ : ∃ m2, m2 = m - E := ⟨_, rfl⟩
    rw [← hm2] at sx3 hcE hlE hmeas HDL
    clear hT hTl hm2 hQ hP hE2 hE1
    go_wp2_with (first
      | (go_at_call 50; refine hnu.mono ?_; rintro e w' ⟨rfl, hw⟩; rw [hw]; clear hw w')
      | (go_at_call 51; refine hcl.mono ?_; rintro e w3 ⟨v3, rfl, O3, b3⟩; obtain ⟨a3, c3, hv3, hi3, hn3⟩ := O3.inb; rw [hv3]; have B3 := hide (B1.out.trans (b3.mono z1)); have M3 := M1.out.below b3 rfl; obtain ⟨⟨vold, hvold⟩, hfro⟩ := M3.cell P HPn.out; have M4 := hide (M3.set P a3 c3 T hi3 hn3); have B4 := hide (B3.out.setCell (p := ⟨w.heap.size, P, none⟩) (Nat.le_refl _) (.slice a3 T.length c3)); clear O3 b3 hv3 hi3 hn3 M3)
      | fail)
    go_roundw
    case rel => exact ⟨r.drop E, oE, cE, P + 1, _, HPn.out, by go_num, by rw [HDL.out], by rw [HDL.out]; exact hcE, by rw [HDL.out]; exact hlE, HSE.out, M4.out, B4.out⟩
    case measure => exact hmeas.out
set_option maxRecDepth 5000 in
theorem openFrames_any (w : World) (ht : Tab w) (ao : Option Addr) (m c n : Nat) (b : List UInt8) (hm : b.length = m) (hn : n ≤ 1048576) (hl : m ≤ 1000000000) (hc : m ≤ c) (hs : SlL w ao b)
    (h0 : ao = none → m = 0 ∧ c = 0) (h1 : ∀ ad, ao = some ad → ∃ g, ad = ⟨g, 0, none⟩) :
    Calls Tryd.prog 32 #[.slice ao m c, .int .i64 (n : Int)] w fun e w' => ((∃ v, e = .returned v ∧ ∃ L, OwnBs w' w.heap.size v L ∧ L.length = n) ∨ e = fell 91) ∧ Below w.heap.size w w' := by
  cases ao with
  | none =>
    obtain ⟨rfl, rfl⟩ := h0 rfl
    refine (openFrames_nil w n hn).mono ?_
    rintro e w' ⟨v, rfl, h2, h3⟩
    exact ⟨Or.inl ⟨v, rfl, _, h2, J.dec_len [] n⟩, h3⟩
  | some ad =>
    obtain ⟨g, rfl⟩ := h1 ad rfl
    have := openFrames_some w ht g 0 c n b hn (by omega) (by omega) hs
    rw [hm] at this; exact this
end Go.Proofs.YtidocfajhhpfdaaDoor
