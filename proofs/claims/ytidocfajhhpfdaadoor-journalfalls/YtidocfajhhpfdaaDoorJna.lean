/- frameEnd and openFrames of any bytes. -/
import Derived.Test.YtidocfajhhpfdaaDoorJoa
namespace Go.Proofs.YtidocfajhhpfdaaDoor
open Go.RowKit
set_option maxHeartbeats 2000000 in
set_option maxRecDepth 5000 in
theorem frameEnd_any (w : World) (ht : Tab w) (g o c : Nat) (b : List UInt8) (hl : b.length ≤ 1000000000) (hc : b.length ≤ c) (hs : SlL w (some ⟨g, o, none⟩) b) :
    Calls Tryd.prog 49 #[.slice (some ⟨g, o, none⟩) b.length c] w fun e w' => ((∃ E : Nat, 12 < E ∧ E ≤ b.length ∧ e = .returned (.int .i64 (E : Int))) ∨ e = fell 91) ∧ ∃ n, w' = w.drewN n := by
  by_cases h12 : b.length < 12
  · have f3 : (b.length : Int) < 12 := by omega
    generalize b.length = n at *
    go_enter Tryd.func49, Tryd.ntmps49
    go_wp2
    exact ⟨rfl, Or.inr rfl, 0, rfl⟩
  obtain ⟨R, hR⟩ : ∃ R, J.num ((b.drop 4).take 4) = R := ⟨_, rfl⟩
  have hRlt : R < 4294967296 := by have := J.num_lt ((b.drop 4).take 4); rw [hR, List.length_take, List.length_drop, Nat.min_eq_left (by omega)] at this; exact this
  have n1 : Calls Tryd.prog 50 #[.slice (some ⟨g, o + 4, none⟩) 4 (c - 4)] w fun e w' => e = .returned (.int .u64 (R : Int)) ∧ w' = w := by
    have := number_any w (some ⟨g, o + 4, none⟩) (c - 4) 4 ((b.drop 4).take 4) (by rw [List.length_take, List.length_drop]; omega) (by omega) (hs.sub 4 4)
    rw [hR] at this; exact this
  have f3 : ¬ (b.length : Int) < 12 := by omega
  have f1 : IntKind.u64.wrap ((b.length : Int) - 12) = (b.length : Int) - 12 := by rw [IntKind.wrap_u64]; omega
  by_cases hR0 : R = 0
  · subst hR0
    have n1' : Calls Tryd.prog 50 #[.slice (some ⟨g, o + 4, none⟩) 4 (c - 4)] w fun e w' => e = .returned (.int .u64 0) ∧ w' = w := n1
    clear hs ht n1
    have hn : 12 ≤ b.length := by omega
    have hb9 : (b.length : Int) ≤ 1000000000 := by omega
    generalize b.length = n at *
    go_enter Tryd.func49, Tryd.ntmps49
    go_wp2_with (go_at_call 50; refine n1'.mono ?_; rintro e w' ⟨rfl, hw⟩; rw [hw]; clear hw w')
    exact ⟨rfl, Or.inr rfl, 0, rfl⟩
  have f5 : ((R : Int) == 0) = false := by simp; omega
  by_cases hR2 : R + 12 ≤ b.length
  rotate_left
  · have f4 : decide ((b.length : Int) - 12 < (R : Int)) = true := by simp; omega
    clear hs ht
    have hn : 12 ≤ b.length := by omega
    generalize b.length = n at *
    go_enter Tryd.func49, Tryd.ntmps49
    go_wp2_with (go_at_call 50; refine n1.mono ?_; rintro e w' ⟨rfl, hw⟩; rw [hw]; clear hw w')
    exact ⟨rfl, Or.inr rfl, 0, rfl⟩
  obtain ⟨X1, hX1⟩ : ∃ X1, J.num ((b.drop (R + 8)).take 4) = X1 := ⟨_, rfl⟩
  have hX1lt : X1 < 4294967296 := by have := J.num_lt ((b.drop (R + 8)).take 4); rw [hX1, List.length_take, List.length_drop, Nat.min_eq_left (by omega)] at this; exact this
  have n2 : ∀ (W : World) (m : Nat), W = w.drewN m → Calls Tryd.prog 50 #[.slice (some ⟨g, o + (R + 8), none⟩) 4 (c - (R + 8))] W fun e w' => e = .returned (.int .u64 (X1 : Int)) ∧ w' = W := fun W m hW => by
    have := number_any W (some ⟨g, o + (R + 8), none⟩) (c - (R + 8)) 4 ((b.drop (R + 8)).take 4) (by rw [List.length_take, List.length_drop]; omega) (by omega) (by rw [hW]; exact hs.sub (R + 8) 4)
    rw [hX1] at this; exact this
  have n3 : ∀ (W : World) (m : Nat), W = w.drewN m → Calls Tryd.prog 10 #[.slice (some ⟨g, o, none⟩) (R + 8) c] W fun e w' => e = .returned (.int .u32 (J.crc (b.take (R + 8)) : Int)) ∧ w' = W := fun W m hW => by
    exact crc_at W (by rw [hW]; exact ht) (some ⟨g, o, none⟩) c (R + 8) (b.take (R + 8)) (by rw [List.length_take]; omega) (by omega) (by rw [hW]; exact hs.pre (R + 8))
  have hcl := J.crc_lt (b.take (R + 8))
  generalize J.crc (b.take (R + 8)) = X at n3 hcl
  have hbc : R + 12 ≤ c := by omega
  have hb9 : R ≤ 1000000000 := by omega
  have f4 : decide ((b.length : Int) - 12 < (R : Int)) = false := by simp; omega
  have HB2 : Hid (R + 12 ≤ b.length) := hR2
  have HR0 : Hid (0 < R) := Nat.pos_of_ne_zero hR0
  have hn : 12 ≤ b.length := by omega
  clear hs ht hR hX1 hR0 hR2 h12
  generalize b.length = n at *
  have f2 : IntKind.i64.wrap (R : Int) = (R : Int) := by rw [IntKind.wrap_i64]; omega
  have f7 : IntKind.u64.wrap (X : Int) = (X : Int) := by rw [IntKind.wrap_u64]; omega
  go_enter Tryd.func49, Tryd.ntmps49
  go_wp2_with (go_at_call 50; refine n1.mono ?_; rintro e w' ⟨rfl, hw⟩; rw [hw]; clear hw w')
  obtain ⟨E, hE⟩ : ∃ E : Nat, (R : Int) + 12 = (E : Int) := ⟨R + 12, by omega⟩
  obtain ⟨Q, hQ⟩ : ∃ Q : Nat, R + 8 = Q := ⟨_, rfl⟩
  rw [hE]
  rw [hQ] at n2 n3
  have hEQ : (E : Int) - 4 = (Q : Int) := by omega
  have hQE : Q ≤ E := by omega
  have f8 : IntKind.i64.wrap ((E : Int) - 4) = (Q : Int) := by rw [IntKind.wrap_i64]; omega
  have f9 : E ≤ 1000000012 := by omega
  have hEc : E ≤ c := by omega
  have hQc : Q ≤ c := by omega
  have hd4 : E - Q = 4 := by omega
  have HE : Hid (12 < E ∧ E ≤ n) := by have := HB2.out; have := HR0.out; exact ⟨by omega, by omega⟩
  have s1 := sl_mid g o n c Q E hQE hEc (by omega)
  rw [hd4] at s1
  have s2 := sl_pre g o n c Q hQc
  generalize o + Q = oQ at s1 n2
  generalize c - Q = cQ at s1 n2
  have HEQ := hide hEQ
  clear hEQ hQE hEc hQc hd4
  clear hE hQ n1 f1 f2 f3 f4 f5 hc hbc hb9 hn HB2 HR0
  by_cases hXX : X1 = X
  · subst hXX
    go_region_held3 (fun _ => True) (first | trivial) (first
      | (go_at_call 50; refine (n2 _ _ rfl).mono ?_; rintro e w' ⟨rfl, hw⟩; rw [hw]; clear hw w')
      | (go_at_call 10; refine (n3 _ _ rfl).mono ?_; rintro e w' ⟨rfl, hw⟩; rw [hw]; clear hw w'))
    all_goals
      go_wp2
      go_ret
      exact ⟨Or.inl ⟨E, HE.out.1, HE.out.2, rfl⟩, _, rfl⟩
  · have hne : ((X1 : Int) != (X : Int)) = true := by simp; omega
    go_region_held3 (fun _ => True) (first | trivial) (first
      | (go_at_call 50; refine (n2 _ _ rfl).mono ?_; rintro e w' ⟨rfl, hw⟩; rw [hw]; clear hw w')
      | (go_at_call 10; refine (n3 _ _ rfl).mono ?_; rintro e w' ⟨rfl, hw⟩; rw [hw]; clear hw w'))
    all_goals
      go_wp2
      exact ⟨rfl, Or.inr rfl, _, rfl⟩
set_option maxHeartbeats 4000000 in
set_option maxRecDepth 5000 in
theorem openFrames_some (w : World) (ht : Tab w) (g o c n : Nat) (b : List UInt8) (hn : n ≤ 1048576) (hl : b.length ≤ 1000000000) (hc : b.length ≤ c) (hs : SlL w (some ⟨g, o, none⟩) b) :
    Calls Tryd.prog 32 #[.slice (some ⟨g, o, none⟩) b.length c, .int .i64 (n : Int)] w fun e w' => ((∃ v, e = .returned v ∧ ∃ L, OwnBs w' w.heap.size v L ∧ L.length = n) ∨ e = fell 91) ∧ Below w.heap.size w w' := by
  have HS := hide hs
  have HT := hide ht
  have hpos : 0 < w.heap.size := ht.1
  have hmk := make_bs n (by omega)
  have M0 : Hid (Mad (w.alloc (.cells (List.replicate n (.slice none 0 0)).toArray 22)) w.heap.size n (J.dec [] n)) := ⟨J.dec_len [] n, _, List.length_replicate, RowAt.new w _ _, each_nils _ n⟩
  have B0 : Hid (Below w.heap.size w (w.alloc (.cells (List.replicate n (.slice none 0 0)).toArray 22))) := (Below.refl _ w).alloc (Nat.le_refl _) _
  generalize (Obj.cells (List.replicate n (.slice none 0 0)).toArray 22) = ob at hmk M0 B0
  clear hs ht
  go_enter Tryd.func32, Tryd.ntmps32
  go_wp2
  go_loopw [0, 6] (fun v q wr => ∃ (r : List UInt8) (o' c' k : Nat) (L : List (List UInt8)), k ≤ n ∧ q = .int .u64 (k : Int) ∧ v = .slice (some ⟨g, o', none⟩) r.length c' ∧ r.length ≤ c' ∧ r.length ≤ 1000000000 ∧ SlL w (some ⟨g, o', none⟩) r ∧ Mad wr w.heap.size n L ∧ Below w.heap.size w wr) (fun v q wr => (match v with | .slice _ n _ => n | _ => 0))
  case atStart => exact ⟨b, o, c, 0, _, Nat.zero_le _, rfl, rfl, hc, hl, HS.out, M0.out, B0.out⟩
  case round =>
    obtain ⟨r, o', c', k, L, hkn, rfl, rfl, hc', hl', hs', hM, hBw⟩ := hrel
    have hzw : w.heap.size ≤ wr.heap.size := hBw.size
    by_cases hr0 : r.length = 0
    · have hle : ¬ (0 : Int) < (r.length : Int) := by omega
      have HBw := hide hBw
      have HM := hide hM
      clear hBw hs' hc' hl' hM
      generalize r.length = m at *
      go_wp2
      go_ret
      exact ⟨Or.inl ⟨_, rfl, L, HM.out.own (Nat.le_refl _) (by omega), HM.out.1⟩, HBw.out⟩
    have hpr : (0 : Int) < (r.length : Int) := by omega
    have hfe := frameEnd_any wr (HT.out.below hBw hpos) g o' c' r hl' hc' (hs'.below hBw (Nat.le_refl _))
    have HM := hide hM
    have HBw := hide hBw
    have HS' := hide hs'
    clear hM hBw hs'
    obtain ⟨m, hm⟩ : ∃ m, m = r.length := ⟨_, rfl⟩
    rw [← hm] at hfe hpr hc' hl' ⊢
    have HMM := hide hm
    clear hm hr0
    go_wp2_with fail
    refine hfe.mono ?_
    rintro e w1 ⟨⟨E, hE1, hE2, rfl⟩ | rfl, m1, hw1⟩
    rotate_left
    · have B1 : Hid (Below w.heap.size w w1) := by rw [hw1]; exact below_drewN HBw.out m1
      clear hw1
      unfold fell
      go_wp2
      exact ⟨rfl, Or.inr rfl, B1.out⟩
    have B1 : Hid (Below w.heap.size w w1) := by rw [hw1]; exact below_drewN HBw.out m1
    have M1 : Hid (Mad w1 w.heap.size n L) := by rw [hw1]; exact HM.out.drewN m1
    have z1 : w.heap.size ≤ w1.heap.size := B1.out.size
    clear hw1 hfe
    obtain ⟨P, hP⟩ : ∃ P, J.num (r.take 4) = P := ⟨_, rfl⟩
    have hPlt : P < 4294967296 := by have := J.num_lt (r.take 4); rw [hP, List.length_take, ← HMM.out, Nat.min_eq_left (by omega)] at this; exact this
    have hnu : Calls Tryd.prog 50 #[.slice (some ⟨g, o', none⟩) 4 c'] w1 fun e w' => e = .returned (.int .u64 (P : Int)) ∧ w' = w1 := by
      have := number_any w1 (some ⟨g, o', none⟩) c' 4 (r.take 4) (by rw [List.length_take, ← HMM.out]; omega) (by omega) ((HS'.out.below B1.out (Nat.le_refl _)).pre 4)
      rw [hP] at this; exact this
    have sx1 : ∀ W : World, (Instr.sliceAt 22 (.slice (some ⟨g, o', none⟩) m c') none (some (.int .i64 4)) none).run Tryd.prog W = .ok (.slice (some ⟨g, o', none⟩) 4 c') W := sl_pre g o' m c' 4 (by omega)
    have fp3 : IntKind.u64.wrap (n : Int) = (n : Int) := by rw [IntKind.wrap_u64]; omega
    by_cases hPk : P < k
    · have fp1 : decide (P < k) = true := by simp; omega
      go_wp2_with (first | (go_at_call 50; refine hnu.mono ?_; rintro e w' ⟨rfl, hw⟩; rw [hw]; clear hw w') | fail)
      exact ⟨rfl, Or.inr rfl, B1.out⟩
    have fp1 : decide (P < k) = false := by simp; omega
    by_cases hPn : n ≤ P
    · have fp2 : decide (n ≤ P) = true := by simp; omega
      go_wp2_with (first | (go_at_call 50; refine hnu.mono ?_; rintro e w' ⟨rfl, hw⟩; rw [hw]; clear hw w') | fail)
      exact ⟨rfl, Or.inr rfl, B1.out⟩
    have fp2 : decide (n ≤ P) = false := by simp; omega
    have fp4 : (P : Int) < (n : Int) := by omega
    have fp5 : IntKind.u64.wrap ((P : Int) + 1) = ((P + 1 : Nat) : Int) := by rw [IntKind.wrap_u64]; omega
    obtain ⟨Q, hQ⟩ : ∃ Q, Q = E - 4 := ⟨_, rfl⟩
    have fQ : IntKind.i64.wrap ((E : Int) - 4) = (Q : Int) := by rw [IntKind.wrap_i64]; omega
    obtain ⟨T, hT⟩ : ∃ T, T = (r.drop 8).take (Q - 8) := ⟨_, rfl⟩
    have hTl : T.length = Q - 8 := by rw [hT, List.length_take, List.length_drop, ← HMM.out]; omega
    have sx4 : ∀ W : World, (Instr.sliceAt 22 (.slice (some ⟨g, o', none⟩) m c') (some (.int .i64 8)) (some (.int .i64 (Q : Int))) none).run Tryd.prog W = .ok (.slice (some ⟨g, o' + 8, none⟩) (Q - 8) (c' - 8)) W := sl_mid g o' m c' 8 Q (by omega) (by omega) (by omega)
    have sx3 := sl_suf g o' m c' E hE2
    have hcl : Calls Tryd.prog 51 #[.slice (some ⟨g, o' + 8, none⟩) (Q - 8) (c' - 8)] w1 fun e w' => ∃ v, e = .returned v ∧ OwnB w' w1.heap.size v T ∧ Below w1.heap.size w1 w' := by
      have := bClone_any w1 g (o' + 8) (c' - 8) (Q - 8) T hTl (by omega) (by rw [hT]; exact (HS'.out.below B1.out (Nat.le_refl _)).sub 8 (Q - 8))
      exact this
    rw [← hTl] at hcl sx4
    have HSE : Hid (SlL w (some ⟨g, if c' = E then o' else o' + E, none⟩) (r.drop E)) := by
      by_cases h : c' = E
      · have : r.drop E = [] := List.drop_of_length_le (by rw [← HMM.out]; omega)
        rw [this]; exact SlL.nil _ _
      · rw [if_neg h]; exact HS'.out.suf E
    have HDL : Hid ((r.drop E).length = m - E) := by show _ = _; rw [List.length_drop, ← HMM.out]
    have hcE : m - E ≤ c' - E := by omega
    have hlE : m - E ≤ 1000000000 := by omega
    have hmeas : Hid (m - E < m) := by show _ < _; omega
    have HPn : Hid (P < n) := by show _ < _; omega
    have hE9 : E ≤ 1000000000 := by omega
    have hTb : T.length ≤ 1000000000 := by omega
    generalize (if c' = E then o' else o' + E) = oE at HSE sx3
    generalize c' - E = cE at hcE sx3
    generalize o' + 8 = o8 at hcl sx4
    generalize c' - 8 = c8 at hcl sx4
    obtain ⟨m2, hm2⟩ : ∃ m2, m2 = m - E := ⟨_, rfl⟩
    rw [← hm2] at sx3 hcE hlE hmeas HDL
    clear hT hTl hm2 hQ hP hE2 hE1
    go_wp2_with (first
      | (go_at_call 50; refine hnu.mono ?_; rintro e w' ⟨rfl, hw⟩; rw [hw]; clear hw w')
      | (go_at_call 51; refine hcl.mono ?_; rintro e w3 ⟨v3, rfl, O3, b3⟩; obtain ⟨a3, c3, hv3, hi3, hn3⟩ := O3.inb; rw [hv3]; have B3 := hide (B1.out.trans (b3.mono z1)); have M3 := M1.out.below b3 rfl; obtain ⟨⟨vold, hvold⟩, hfro⟩ := M3.cell P HPn.out; have M4 := hide (M3.set P a3 c3 T hi3 hn3); have B4 := hide (B3.out.setCell (p := ⟨w.heap.size, P, none⟩) (Nat.le_refl _) (.slice a3 T.length c3)); clear O3 b3 hv3 hi3 hn3 M3)
      | fail)
    go_roundw
    case rel => exact ⟨r.drop E, oE, cE, P + 1, _, HPn.out, by go_num, by rw [HDL.out], by rw [HDL.out]; exact hcE, by rw [HDL.out]; exact hlE, HSE.out, M4.out, B4.out⟩
    case measure => exact hmeas.out
set_option maxRecDepth 5000 in
theorem openFrames_any (w : World) (ht : Tab w) (ao : Option Addr) (m c n : Nat) (b : List UInt8) (hm : b.length = m) (hn : n ≤ 1048576) (hl : m ≤ 1000000000) (hc : m ≤ c) (hs : SlL w ao b)
    (h0 : ao = none → m = 0 ∧ c = 0) (h1 : ∀ ad, ao = some ad → ∃ g, ad = ⟨g, 0, none⟩) :
    Calls Tryd.prog 32 #[.slice ao m c, .int .i64 (n : Int)] w fun e w' => ((∃ v, e = .returned v ∧ ∃ L, OwnBs w' w.heap.size v L ∧ L.length = n) ∨ e = fell 91) ∧ Below w.heap.size w w' := by
  cases ao with
  | none =>
    obtain ⟨rfl, rfl⟩ := h0 rfl
    refine (openFrames_nil w n hn).mono ?_
    rintro e w' ⟨v, rfl, h2, h3⟩
    exact ⟨Or.inl ⟨v, rfl, _, h2, J.dec_len [] n⟩, h3⟩
  | some ad =>
    obtain ⟨g, rfl⟩ := h1 ad rfl
    have := openFrames_some w ht g 0 c n b hn (by omega) (by omega) hs
    rw [hm] at this; exact this
end Go.Proofs.YtidocfajhhpfdaaDoor

/- begin and newest of any bytes that are not all noughts. -/
namespace Go.Proofs.YtidocfajhhpfdaaDoor
open Go.RowKit
set_option maxRecDepth 5000 in
theorem least_bad (p : Nat → Prop) : ∀ n, (¬ ∀ i, i < n → p i) → ∃ i, i < n ∧ ¬ p i ∧ ∀ j, j < i → p j
  | 0, h => absurd (fun i hi => absurd hi (by omega)) h
  | n + 1, h => by
    by_cases h1 : ∀ i, i < n → p i
    · exact ⟨n, by omega, fun h2 => h (fun i hi => by
        by_cases e : i = n
        · rw [e]; exact h2
        · exact h1 i (by omega)), h1⟩
    · obtain ⟨i, h2, h3, h4⟩ := least_bad p n h1
      exact ⟨i, by omega, h3, h4⟩
set_option maxHeartbeats 800000 in
set_option maxRecDepth 5000 in
theorem begin_bad (w : World) (D S M : Nat) (s : K.St) (h : DiskAt FF w D S M s) (hp : Pw s) (i0 : Nat) (hi0 : i0 < s.n) (hbad : s.rd i0 ≠ List.replicate s.sz 0) (hz : ∀ i, i < i0 → s.rd i = List.replicate s.sz 0) :
    Calls Tryd.prog 47 #[.agg #[.pointer (some ⟨D, 0, none⟩)]] w fun e w' => e = fell 91 ∧ Below w.heap.size w w' := by
  obtain ⟨hb1, hb2, hb3, hb4⟩ := h.bds
  have R0 : RowAt ((w.alloc (.cells #[.pointer (some ⟨D, 0, none⟩)] 65)).alloc (.cells h0row 67)) w.heap.size 65 #[.pointer (some ⟨D, 0, none⟩)] := (RowAt.new w _ _).alloc _
  have B1 : Below w.heap.size w ((w.alloc (.cells #[.pointer (some ⟨D, 0, none⟩)] 65)).alloc (.cells h0row 67)) := ((Below.refl _ w).alloc (Nat.le_refl _) _).alloc (by simp) _
  have HD := hide h
  have HZ := hide hz
  have HP := hide hp
  have HBAD := hide hbad
  unfold h0row at R0 B1
  clear h hz hp hbad
  go_enter Tryd.func47, Tryd.ntmps47
  have hse : ∀ W, DiskAt FF W D S M s → Calls Tryd.prog 28 #[.pointer (some ⟨D, 0, none⟩)] W fun e w' => e = .returned (.int .i64 (s.n : Int)) ∧ w' = W := fun W hW => sectors_any W D S M s hW
  go_wp2_with (go_at_call 28; refine (hse _ (by exact HD.out.below B1 (Nat.le_refl _))).mono ?_; rintro e w' ⟨rfl, hw⟩; rw [hw]; clear hw w')
  generalize (w.alloc (.cells #[.pointer (some ⟨D, 0, none⟩)] 65)).alloc (.cells #[.int .u64 0, .int .i64 0, .int .i64 0, .int .i64 0] 67) = w1 at R0 B1 ⊢
  go_loopw [8] (fun i wr => ∃ k : Nat, k ≤ i0 ∧ i = .int .i64 (k : Int) ∧ RowAt wr w.heap.size 65 #[.pointer (some ⟨D, 0, none⟩)] ∧ Below w.heap.size w wr) (fun i wr => s.n - (intOf i).toNat)
  case atStart => exact ⟨0, by omega, rfl, R0, B1⟩
  case round =>
    clear R0 B1
    obtain ⟨k, hk, rfl, R0, B1⟩ := hrel
    have x0 : wr.cell? ⟨w.heap.size, 0, none⟩ = some (.pointer (some ⟨D, 0, none⟩)) := R0.cell 0
    have hlt : k < s.n := by omega
    have hrd := sread_ok wr D S M s (HD.out.below B1 (Nat.le_refl _)) HP.out.1 k hlt
    have hrl := hide (HD.out.rdlen k hlt)
    unfold stv at hrd
    have hlt' : (k : Int) < (s.n : Int) := by omega
    have R0H := hide R0
    have B1H := hide B1
    clear R0 B1
    by_cases hki : k = i0
    · subst hki
      have hdec : Hid (decide (s.rd k = List.replicate s.sz 0) = false) := by show _ = _; exact decide_eq_false HBAD.out
      go_wp2_with (first
        | (go_at_call 45; refine hrd.mono ?_; rintro e w2 ⟨g2, rfl, hg2, R2, b2⟩; have S2 := hide (SlU.sl (SlU.row R2)); have B2 := hide (B1H.out.trans (b2.mono B1H.out.size)); have R02 := hide (R0H.out.below b2 R0H.out.lt); clear R2 b2)
        | (go_at_call 46; refine (blank_any _ g2 0 s.sz s.sz (s.rd k) hrl.out (by omega) S2.out).mono ?_; rintro e w3 ⟨rfl, b3⟩; rw [hdec.out]; have B3 := hide (B2.out.trans (b3.mono B2.out.size)); clear b3)
        | fail)
      exact ⟨rfl, rfl, B3.out⟩
    · have hdec : Hid (decide (s.rd k = List.replicate s.sz 0) = true) := by show _ = _; rw [HZ.out k (by omega)]; exact decide_eq_true rfl
      go_wp2_with (first
        | (go_at_call 45; refine hrd.mono ?_; rintro e w2 ⟨g2, rfl, hg2, R2, b2⟩; have S2 := hide (SlU.sl (SlU.row R2)); have B2 := hide (B1H.out.trans (b2.mono B1H.out.size)); have R02 := hide (R0H.out.below b2 R0H.out.lt); clear R2 b2)
        | (go_at_call 46; refine (blank_any _ g2 0 s.sz s.sz (s.rd k) hrl.out (by omega) S2.out).mono ?_; rintro e w3 ⟨rfl, b3⟩; rw [hdec.out]; have B3 := hide (B2.out.trans (b3.mono B2.out.size)); have R03 := hide (R02.out.below b3 R02.out.lt); clear b3)
        | fail)
      go_roundw
      case rel => exact ⟨k + 1, by omega, by go_num, R03.out, B3.out⟩
      case measure => simp [intOf]; omega
/- what newest has at hand -/
structure NW (w : World) (D gA gB : Nat) (l0 l1 : List UInt8) (W : World) : Prop where
  st : RowAt W w.heap.size 65 #[.pointer (some ⟨D, 0, none⟩)]
  hd : RowAt W (w.heap.size + 1) 67 #[.int .u64 0, .int .i64 0, .int .i64 0, .int .i64 0]
  bl : Below w.heap.size w W
  ra : SlL W (some ⟨gA, 0, none⟩) l0
  rb : SlL W (some ⟨gB, 0, none⟩) l1
set_option maxRecDepth 5000 in
theorem NW.below {w W W' : World} {D gA gB : Nat} {l0 l1 : List UInt8} (h : NW w D gA gB l0 l1 W) (hb : Below W.heap.size W W') : NW w D gA gB l0 l1 W' :=
  ⟨h.st.below hb h.st.lt, h.hd.below hb h.hd.lt, h.bl.trans (hb.mono h.bl.size), h.ra.below hb (Nat.le_refl _), h.rb.below hb (Nat.le_refl _)⟩
set_option maxHeartbeats 1600000 in
set_option maxRecDepth 5000 in
theorem newest_odd (w : World) (ht : Tab w) (D S M : Nat) (s : K.St) (h : DiskAt FF w D S M s) (hp : Pw s) (hn : 8 ≤ s.n) (hz : ¬ ∀ i, i < s.n → s.rd i = List.replicate s.sz 0) :
    Calls Tryd.prog 31 #[.agg #[.pointer (some ⟨D, 0, none⟩)]] w fun e w' => ((∃ h, HOw h ∧ h.u ≤ J.arb s ∧ e = .returned (.agg (hrow h))) ∨ e = fell 91) ∧ Below w.heap.size w w' := by
  obtain ⟨hb1, hb2, hb3, hb4⟩ := h.bds
  have hpos := ht.1
  have hab : J.arb s ≤ 1000000000 := by
    have : J.arb s ≤ 4096 * 4096 := Nat.mul_le_mul (by unfold J.ars; omega) hb2
    omega
  have R0 : RowAt ((w.alloc (.cells #[.pointer (some ⟨D, 0, none⟩)] 65)).alloc (.cells h0row 67)) w.heap.size 65 #[.pointer (some ⟨D, 0, none⟩)] := (RowAt.new w _ _).alloc _
  have R1 : RowAt ((w.alloc (.cells #[.pointer (some ⟨D, 0, none⟩)] 65)).alloc (.cells h0row 67)) (w.heap.size + 1) 67 h0row := by
    have := RowAt.new (w.alloc (.cells #[.pointer (some ⟨D, 0, none⟩)] 65)) 67 h0row
    rwa [World.size_alloc] at this
  have B1 : Below w.heap.size w ((w.alloc (.cells #[.pointer (some ⟨D, 0, none⟩)] 65)).alloc (.cells h0row 67)) := ((Below.refl _ w).alloc (Nat.le_refl _) _).alloc (by simp) _
  have HT := hide ht
  have HD := hide h
  unfold h0row at R0 R1 B1
  have hrd0 : ∀ (W : World), DiskAt FF W D S M s → Calls Tryd.prog 45 #[.agg #[.pointer (some ⟨D, 0, none⟩)], .int .i64 0] W fun e w' => ∃ g, e = .returned (.slice (some ⟨g, 0, none⟩) s.sz s.sz) ∧ RowAt w' g 5 (vb (s.rd 0)).toArray ∧ Below W.heap.size W w' := fun W hW => by
    refine (sread_int W D S M s hW hp.1 0 (by omega) (by omega)).mono ?_
    rintro e w' ⟨g, e1, _, e3, e4⟩
    exact ⟨g, e1, e3, e4⟩
  have hrd1 : ∀ (W : World), DiskAt FF W D S M s → Calls Tryd.prog 45 #[.agg #[.pointer (some ⟨D, 0, none⟩)], .int .i64 1] W fun e w' => ∃ g, e = .returned (.slice (some ⟨g, 0, none⟩) s.sz s.sz) ∧ RowAt w' g 5 (vb (s.rd 1)).toArray ∧ Below W.heap.size W w' := fun W hW => by
    refine (sread_int W D S M s hW hp.1 1 (by omega) (by omega)).mono ?_
    rintro e w' ⟨g, e1, _, e3, e4⟩
    exact ⟨g, e1, e3, e4⟩
  have hl0 := hide (h.rdlen 0 (by omega))
  have hl1 := hide (h.rdlen 1 (by omega))
  have hbg : s.rd 0 = List.replicate s.sz 0 → ∀ W, Below w.heap.size w W → Calls Tryd.prog 47 #[.agg #[.pointer (some ⟨D, 0, none⟩)]] W fun e w' => e = fell 91 ∧ Below W.heap.size W w' := fun _ W hW => by
    obtain ⟨i0, hi0, hbad, hlow⟩ := least_bad _ s.n hz
    exact begin_bad W D S M s (HD.out.below hW (Nat.le_refl _)) hp i0 hi0 hbad hlow
  have hab1 : ∀ W, Below w.heap.size w W → Calls Tryd.prog 35 #[.agg #[.pointer (some ⟨D, 0, none⟩)]] W fun e w' => e = .returned (.int .i64 (J.arb s : Int)) ∧ Below W.heap.size W w' := fun W hW => areaBytes_any W D S M s (HD.out.below hW (Nat.le_refl _)) hn
  clear ht h hz hp
  go_enter Tryd.func31, Tryd.ntmps31
  go_wp2
  generalize (w.alloc (.cells #[.pointer (some ⟨D, 0, none⟩)] 65)).alloc (.cells #[.int .u64 0, .int .i64 0, .int .i64 0, .int .i64 0] 67) = w1 at R0 R1 B1 ⊢
  have x0 : w1.cell? ⟨w.heap.size, 0, none⟩ = some (.pointer (some ⟨D, 0, none⟩)) := R0.cell 0
  have FL : Hid (RowAt w1 w.heap.size 65 #[.pointer (some ⟨D, 0, none⟩)] ∧ RowAt w1 (w.heap.size + 1) 67 #[.int .u64 0, .int .i64 0, .int .i64 0, .int .i64 0] ∧ Below w.heap.size w w1) := ⟨R0, R1, B1⟩
  clear R0 R1 B1
  go_region_held3 (fun w' => w'.cell? ⟨w.heap.size, 0, none⟩ = some (.pointer (some ⟨D, 0, none⟩))) (first | exact x0 | exact cLwB | exact cLwA | fail) (first
    | (go_at_call 45; have hchk := RA.out; clear hchk; refine (hrd1 _ (by first | exact (HD.out.below FL.out.2.2 (Nat.le_refl _)) | exact DiskAt.drewN (HD.out.below FL.out.2.2 (Nat.le_refl _)) _)).mono ?_; rintro e wB ⟨gB, rfl, RB0, bB⟩; have cB := below_re (w := wA) bB rfl rfl rfl rfl; have RA2 := RA.out.below cB RA.out.lt; clear RA; have RA := hide RA2; clear RA2; have fl := FL.out; clear FL; have FL : Hid (RowAt wB w.heap.size 65 #[.pointer (some ⟨D, 0, none⟩)] ∧ RowAt wB (w.heap.size + 1) 67 #[.int .u64 0, .int .i64 0, .int .i64 0, .int .i64 0] ∧ Below w.heap.size w wB) := ⟨fl.1.below cB fl.1.lt, fl.2.1.below cB fl.2.1.lt, fl.2.2.trans (cB.mono fl.2.2.size)⟩; clear fl; have cLwB : wB.cell? ⟨w.heap.size, 0, none⟩ = some (.pointer (some ⟨D, 0, none⟩)) := FL.out.1.cell 0; clear bB cB; have RB := hide RB0; clear RB0)
    | (go_at_call 45; refine (hrd0 _ (by first | exact (HD.out.below FL.out.2.2 (Nat.le_refl _)) | exact DiskAt.drewN (HD.out.below FL.out.2.2 (Nat.le_refl _)) _)).mono ?_; rintro e wA ⟨gA, rfl, RA0, bA⟩; have cA := below_re (w := w1) bA rfl rfl rfl rfl; have fl := FL.out; clear FL; have FL : Hid (RowAt wA w.heap.size 65 #[.pointer (some ⟨D, 0, none⟩)] ∧ RowAt wA (w.heap.size + 1) 67 #[.int .u64 0, .int .i64 0, .int .i64 0, .int .i64 0] ∧ Below w.heap.size w wA) := ⟨fl.1.below cA fl.1.lt, fl.2.1.below cA fl.2.1.lt, fl.2.2.trans (cA.mono fl.2.2.size)⟩; clear fl; have cLwA : wA.cell? ⟨w.heap.size, 0, none⟩ = some (.pointer (some ⟨D, 0, none⟩)) := FL.out.1.cell 0; clear bA cA; have RA := hide RA0; clear RA0))
  have NB : Hid (NW w D gA gB (s.rd 0) (s.rd 1) wB) := ⟨FL.out.1, FL.out.2.1, FL.out.2.2, SlU.sl (SlU.row RA.out), SlU.sl (SlU.row RB.out)⟩
  clear FL RA RB x0 cLwA cLwB hrd0 hrd1
  obtain ⟨l0, hl0e⟩ : ∃ l0, l0 = s.rd 0 := ⟨_, rfl⟩
  obtain ⟨l1, hl1e⟩ : ∃ l1, l1 = s.rd 1 := ⟨_, rfl⟩
  rw [← hl0e] at NB hl0 hbg
  rw [← hl1e] at NB hl1
  clear hl0e hl1e
  obtain ⟨Z, hZ⟩ : ∃ Z, Z = s.sz := ⟨_, rfl⟩
  rw [← hZ] at hl0 hl1 hb1 hb2 hbg
  try rw [← hZ]
  obtain ⟨AB, hAB⟩ : ∃ AB, AB = J.arb s := ⟨_, rfl⟩
  rw [← hAB] at hab hab1
  have HAB := hide hAB
  clear hZ hAB
  go_wp2_with fail
  refine (blank_any _ gA 0 Z Z l0 hl0.out (by omega) NB.out.ra).mono ?_
  rintro e wC ⟨rfl, bC⟩
  have NC := hide (NB.out.below bC)
  clear bC NB
  have y0 : wC.cell? ⟨w.heap.size, 0, none⟩ = some (.pointer (some ⟨D, 0, none⟩)) := NC.out.st.cell 0
  by_cases hbl0 : l0 = List.replicate Z 0
  · rw [decide_eq_true hbl0]
    have hb0 := hbg hbl0 wC NC.out.bl
    go_wp2_with fail
    refine hb0.mono ?_
    rintro e wD ⟨rfl, bD⟩
    have BD := hide (NC.out.bl.trans (bD.mono NC.out.bl.size))
    clear bD hb0
    unfold fell
    go_wp2
    exact ⟨rfl, Or.inr rfl, BD.out⟩
  rw [decide_eq_false hbl0]
  clear hbl0 hbg
  go_wp2_with fail
  refine (hab1 wC NC.out.bl).mono ?_
  rintro e wD ⟨rfl, bD⟩
  have ND := hide (NC.out.below bD)
  clear bD NC y0
  go_wp2_with fail
  refine (openHead_any wD (HT.out.below ND.out.bl hpos) l0 Z AB gA 0 Z hb1 hb2 (Nat.le_refl _) hab hl0.out ND.out.ra).mono ?_
  rintro e wE ⟨⟨⟨Ac, Aa, Au, Ab⟩, hAo, hAu, rfl⟩ | rfl, bE⟩
  rotate_left
  · have BE := hide (ND.out.bl.trans (bE.mono ND.out.bl.size))
    clear bE
    unfold fell
    go_wp2
    exact ⟨rfl, Or.inr rfl, BE.out⟩
  have NE := hide (ND.out.below bE)
  have HAO := hide hAo
  have HAU := hide hAu
  have hAc : Ac < 18446744073709551616 := hAo.c
  clear bE ND hAo hAu
  have Ra : Hid (RowAt (wE.alloc (.cells #[.int .u64 (Ac : Int), .int .i64 (Aa : Int), .int .i64 (Au : Int), .int .i64 (Ab : Int)] 67)) wE.heap.size 67 #[.int .u64 (Ac : Int), .int .i64 (Aa : Int), .int .i64 (Au : Int), .int .i64 (Ab : Int)]) := RowAt.new wE _ _
  have NF : Hid (NW w D gA gB l0 l1 (wE.alloc (.cells #[.int .u64 (Ac : Int), .int .i64 (Aa : Int), .int .i64 (Au : Int), .int .i64 (Ab : Int)] 67))) := NE.out.below ((Below.refl wE.heap.size wE).alloc (Nat.le_refl _) _)
  unfold hrow
  simp only
  generalize hwF : wE.alloc (.cells #[.int .u64 (Ac : Int), .int .i64 (Aa : Int), .int .i64 (Au : Int), .int .i64 (Ab : Int)] 67) = wF at Ra NF
  obtain ⟨gE, hgE⟩ : ∃ gE, gE = wE.heap.size := ⟨_, rfl⟩
  have hgE' : wE.heap.size = gE := hgE.symm
  rw [← hgE] at Ra
  clear NE hgE
  have a0 : wF.cell? ⟨gE, 0, none⟩ = some (.int .u64 (Ac : Int)) := Ra.out.cell 0
  have a1 : wF.cell? ⟨gE, 1, none⟩ = some (.int .i64 (Aa : Int)) := Ra.out.cell 1
  have a2 : wF.cell? ⟨gE, 2, none⟩ = some (.int .i64 (Au : Int)) := Ra.out.cell 2
  have a3 : wF.cell? ⟨gE, 3, none⟩ = some (.int .i64 (Ab : Int)) := Ra.out.cell 3
  by_cases hc0 : Ac = 0
  · have e0 : ((Ac : Int) == 0) = true := by rw [hc0]; rfl
    clear hc0
    go_wp2_with fail
    clear hwF hgE'
    refine (blank_any wF gB 0 Z Z l1 hl1.out (by omega) NF.out.rb).mono ?_
    rintro e wG ⟨rfl, bG⟩
    have NG := hide (NF.out.below bG)
    have RG := hide (Ra.out.below bG Ra.out.lt)
    clear bG NF Ra a0 a1 a2 a3
    have Ra := RG
    clear RG
    have a0 : wG.cell? ⟨gE, 0, none⟩ = some (.int .u64 (Ac : Int)) := Ra.out.cell 0
    have a1 : wG.cell? ⟨gE, 1, none⟩ = some (.int .i64 (Aa : Int)) := Ra.out.cell 1
    have a2 : wG.cell? ⟨gE, 2, none⟩ = some (.int .i64 (Au : Int)) := Ra.out.cell 2
    have a3 : wG.cell? ⟨gE, 3, none⟩ = some (.int .i64 (Ab : Int)) := Ra.out.cell 3
    by_cases hb1l : l1 = List.replicate Z 0
    · rw [decide_eq_true hb1l]
      clear hb1l
      have q0 : wG.cell? ⟨w.heap.size + 1, 0, none⟩ = some (.int .u64 0) := NG.out.hd.cell 0
      have q1 : wG.cell? ⟨w.heap.size + 1, 1, none⟩ = some (.int .i64 0) := NG.out.hd.cell 1
      have q2 : wG.cell? ⟨w.heap.size + 1, 2, none⟩ = some (.int .i64 0) := NG.out.hd.cell 2
      have q3 : wG.cell? ⟨w.heap.size + 1, 3, none⟩ = some (.int .i64 0) := NG.out.hd.cell 3
      have f0 := NG.out.hd.frozen 0
      have f1 := NG.out.hd.frozen 1
      have f2 := NG.out.hd.frozen 2
      have f3 := NG.out.hd.frozen 3
      go_wp2
      obtain ⟨w5, hw5, R5, BB5, _⟩ := four_sets NG.out.hd rfl (Ac : Int) (Aa : Int) (Au : Int) (Ab : Int)
      rw [show ((((wG.setCell ⟨w.heap.size + 1, 0, none⟩ (.int .u64 (Ac : Int))).setCell ⟨w.heap.size + 1, 1, none⟩ (.int .i64 (Aa : Int))).setCell ⟨w.heap.size + 1, 2, none⟩ (.int .i64 (Au : Int))).setCell ⟨w.heap.size + 1, 3, none⟩ (.int .i64 (Ab : Int))) = w5 from hw5.symm]
      exact bodyPost_ret (v := .agg #[.int .u64 (Ac : Int), .int .i64 (Aa : Int), .int .i64 (Au : Int), .int .i64 (Ab : Int)]) (results_cell_row Tryd.results31 _ _ (w.heap.size + 1) 67 _ (0, 0) _ rfl R5 Tryd.underlying67 rfl (by exact infoHead)) rfl ⟨Or.inl ⟨⟨Ac, Aa, Au, Ab⟩, HAO.out, by rw [← HAB.out]; exact HAU.out, rfl⟩, NG.out.bl.trans (BB5.mono (Nat.le_succ _))⟩
    · rw [decide_eq_false hb1l]
      clear hb1l a0 a1 a2 a3
      have y0 : wG.cell? ⟨w.heap.size, 0, none⟩ = some (.pointer (some ⟨D, 0, none⟩)) := NG.out.st.cell 0
      go_wp2_with fail
      refine (hab1 wG NG.out.bl).mono ?_
      rintro e wI ⟨rfl, bI⟩
      have NI := hide (NG.out.below bI)
      have RI := hide (Ra.out.below bI Ra.out.lt)
      clear bI NG Ra y0
      go_wp2_with fail
      refine (openHead_any wI (HT.out.below NI.out.bl hpos) l1 Z AB gB 0 Z hb1 hb2 (Nat.le_refl _) hab hl1.out NI.out.rb).mono ?_
      rintro e wJ ⟨⟨⟨Bc, Ba, Bu, Bb⟩, hBo, hBu, rfl⟩ | rfl, bJ⟩
      rotate_left
      · have BJ := hide (NI.out.bl.trans (bJ.mono NI.out.bl.size))
        clear bJ
        unfold fell
        go_wp2
        exact ⟨rfl, Or.inr rfl, BJ.out⟩
      have NJ := hide (NI.out.below bJ)
      have RJ := hide (RI.out.below bJ RI.out.lt)
      have HBO := hide hBo
      have HBU := hide hBu
      have hBc : Bc < 18446744073709551616 := hBo.c
      clear bJ NI RI hBo hBu
      unfold hrow
      simp only
      have bK := (Below.refl wJ.heap.size wJ).alloc (Nat.le_refl _) (.cells #[.int .u64 (Bc : Int), .int .i64 (Ba : Int), .int .i64 (Bu : Int), .int .i64 (Bb : Int)] 67)
      have Rb : Hid (RowAt (wJ.alloc (.cells #[.int .u64 (Bc : Int), .int .i64 (Ba : Int), .int .i64 (Bu : Int), .int .i64 (Bb : Int)] 67)) wJ.heap.size 67 #[.int .u64 (Bc : Int), .int .i64 (Ba : Int), .int .i64 (Bu : Int), .int .i64 (Bb : Int)]) := RowAt.new wJ _ _
      have NK := hide (NJ.out.below bK)
      have Ra := hide (RJ.out.below bK RJ.out.lt)
      generalize hwK : wJ.alloc (.cells #[.int .u64 (Bc : Int), .int .i64 (Ba : Int), .int .i64 (Bu : Int), .int .i64 (Bb : Int)] 67) = wK at Rb NK Ra
      clear bK NJ RJ
      have a0 : wK.cell? ⟨gE, 0, none⟩ = some (.int .u64 (Ac : Int)) := Ra.out.cell 0
      have a1 : wK.cell? ⟨gE, 1, none⟩ = some (.int .i64 (Aa : Int)) := Ra.out.cell 1
      have a2 : wK.cell? ⟨gE, 2, none⟩ = some (.int .i64 (Au : Int)) := Ra.out.cell 2
      have a3 : wK.cell? ⟨gE, 3, none⟩ = some (.int .i64 (Ab : Int)) := Ra.out.cell 3
      have b0 : wK.cell? ⟨wJ.heap.size, 0, none⟩ = some (.int .u64 (Bc : Int)) := Rb.out.cell 0
      have b1 : wK.cell? ⟨wJ.heap.size, 1, none⟩ = some (.int .i64 (Ba : Int)) := Rb.out.cell 1
      have b2 : wK.cell? ⟨wJ.heap.size, 2, none⟩ = some (.int .i64 (Bu : Int)) := Rb.out.cell 2
      have b3 : wK.cell? ⟨wJ.heap.size, 3, none⟩ = some (.int .i64 (Bb : Int)) := Rb.out.cell 3
      obtain ⟨Y1, hY1⟩ : ∃ Y1, IntKind.u64.wrap ((Bc : Int) - (Ac : Int)) = Y1 := ⟨_, rfl⟩
      obtain ⟨Y, hY⟩ : ∃ Y, IntKind.i64.wrap Y1 = Y := ⟨_, rfl⟩
      by_cases hYp : 0 < Y
      · have q0 : wK.cell? ⟨w.heap.size + 1, 0, none⟩ = some (.int .u64 0) := NK.out.hd.cell 0
        have q1 : wK.cell? ⟨w.heap.size + 1, 1, none⟩ = some (.int .i64 0) := NK.out.hd.cell 1
        have q2 : wK.cell? ⟨w.heap.size + 1, 2, none⟩ = some (.int .i64 0) := NK.out.hd.cell 2
        have q3 : wK.cell? ⟨w.heap.size + 1, 3, none⟩ = some (.int .i64 0) := NK.out.hd.cell 3
        have f0 := NK.out.hd.frozen 0
        have f1 := NK.out.hd.frozen 1
        have f2 := NK.out.hd.frozen 2
        have f3 := NK.out.hd.frozen 3
        go_wp2
        obtain ⟨w5, hw5, R5, BB5, _⟩ := four_sets NK.out.hd rfl (Bc : Int) (Ba : Int) (Bu : Int) (Bb : Int)
        rw [show ((((wK.setCell ⟨w.heap.size + 1, 0, none⟩ (.int .u64 (Bc : Int))).setCell ⟨w.heap.size + 1, 1, none⟩ (.int .i64 (Ba : Int))).setCell ⟨w.heap.size + 1, 2, none⟩ (.int .i64 (Bu : Int))).setCell ⟨w.heap.size + 1, 3, none⟩ (.int .i64 (Bb : Int))) = w5 from hw5.symm]
        exact bodyPost_ret (v := .agg #[.int .u64 (Bc : Int), .int .i64 (Ba : Int), .int .i64 (Bu : Int), .int .i64 (Bb : Int)]) (results_cell_row Tryd.results31 _ _ (w.heap.size + 1) 67 _ (0, 0) _ rfl R5 Tryd.underlying67 rfl (by exact infoHead)) rfl ⟨Or.inl ⟨⟨Bc, Ba, Bu, Bb⟩, HBO.out, by rw [← HAB.out]; exact HBU.out, rfl⟩, NK.out.bl.trans (BB5.mono (Nat.le_succ _))⟩
      · have q0 : wK.cell? ⟨w.heap.size + 1, 0, none⟩ = some (.int .u64 0) := NK.out.hd.cell 0
        have q1 : wK.cell? ⟨w.heap.size + 1, 1, none⟩ = some (.int .i64 0) := NK.out.hd.cell 1
        have q2 : wK.cell? ⟨w.heap.size + 1, 2, none⟩ = some (.int .i64 0) := NK.out.hd.cell 2
        have q3 : wK.cell? ⟨w.heap.size + 1, 3, none⟩ = some (.int .i64 0) := NK.out.hd.cell 3
        have f0 := NK.out.hd.frozen 0
        have f1 := NK.out.hd.frozen 1
        have f2 := NK.out.hd.frozen 2
        have f3 := NK.out.hd.frozen 3
        go_wp2
        obtain ⟨w5, hw5, R5, BB5, _⟩ := four_sets NK.out.hd rfl (Ac : Int) (Aa : Int) (Au : Int) (Ab : Int)
        rw [show ((((wK.setCell ⟨w.heap.size + 1, 0, none⟩ (.int .u64 (Ac : Int))).setCell ⟨w.heap.size + 1, 1, none⟩ (.int .i64 (Aa : Int))).setCell ⟨w.heap.size + 1, 2, none⟩ (.int .i64 (Au : Int))).setCell ⟨w.heap.size + 1, 3, none⟩ (.int .i64 (Ab : Int))) = w5 from hw5.symm]
        exact bodyPost_ret (v := .agg #[.int .u64 (Ac : Int), .int .i64 (Aa : Int), .int .i64 (Au : Int), .int .i64 (Ab : Int)]) (results_cell_row Tryd.results31 _ _ (w.heap.size + 1) 67 _ (0, 0) _ rfl R5 Tryd.underlying67 rfl (by exact infoHead)) rfl ⟨Or.inl ⟨⟨Ac, Aa, Au, Ab⟩, HAO.out, by rw [← HAB.out]; exact HAU.out, rfl⟩, NK.out.bl.trans (BB5.mono (Nat.le_succ _))⟩
  · have e0 : ((Ac : Int) == 0) = false := by simp; omega
    clear hc0
    have y0 : wF.cell? ⟨w.heap.size, 0, none⟩ = some (.pointer (some ⟨D, 0, none⟩)) := NF.out.st.cell 0
    go_wp2_with fail
    refine (hab1 wF NF.out.bl).mono ?_
    rintro e wI ⟨rfl, bI⟩
    have NI := hide (NF.out.below bI)
    have RI := hide (Ra.out.below bI Ra.out.lt)
    clear bI NF Ra y0
    go_wp2_with fail
    refine (openHead_any wI (HT.out.below NI.out.bl hpos) l1 Z AB gB 0 Z hb1 hb2 (Nat.le_refl _) hab hl1.out NI.out.rb).mono ?_
    rintro e wJ ⟨⟨⟨Bc, Ba, Bu, Bb⟩, hBo, hBu, rfl⟩ | rfl, bJ⟩
    rotate_left
    · have BJ := hide (NI.out.bl.trans (bJ.mono NI.out.bl.size))
      clear bJ
      unfold fell
      go_wp2
      exact ⟨rfl, Or.inr rfl, BJ.out⟩
    have NJ := hide (NI.out.below bJ)
    have RJ := hide (RI.out.below bJ RI.out.lt)
    have HBO := hide hBo
    have HBU := hide hBu
    have hBc : Bc < 18446744073709551616 := hBo.c
    clear bJ NI RI hBo hBu
    unfold hrow
    simp only
    have bK := (Below.refl wJ.heap.size wJ).alloc (Nat.le_refl _) (.cells #[.int .u64 (Bc : Int), .int .i64 (Ba : Int), .int .i64 (Bu : Int), .int .i64 (Bb : Int)] 67)
    have Rb : Hid (RowAt (wJ.alloc (.cells #[.int .u64 (Bc : Int), .int .i64 (Ba : Int), .int .i64 (Bu : Int), .int .i64 (Bb : Int)] 67)) wJ.heap.size 67 #[.int .u64 (Bc : Int), .int .i64 (Ba : Int), .int .i64 (Bu : Int), .int .i64 (Bb : Int)]) := RowAt.new wJ _ _
    have NK := hide (NJ.out.below bK)
    have Ra := hide (RJ.out.below bK RJ.out.lt)
    generalize hwK : wJ.alloc (.cells #[.int .u64 (Bc : Int), .int .i64 (Ba : Int), .int .i64 (Bu : Int), .int .i64 (Bb : Int)] 67) = wK at Rb NK Ra
    clear bK NJ RJ
    have a0 : wK.cell? ⟨gE, 0, none⟩ = some (.int .u64 (Ac : Int)) := Ra.out.cell 0
    have a1 : wK.cell? ⟨gE, 1, none⟩ = some (.int .i64 (Aa : Int)) := Ra.out.cell 1
    have a2 : wK.cell? ⟨gE, 2, none⟩ = some (.int .i64 (Au : Int)) := Ra.out.cell 2
    have a3 : wK.cell? ⟨gE, 3, none⟩ = some (.int .i64 (Ab : Int)) := Ra.out.cell 3
    have b0 : wK.cell? ⟨wJ.heap.size, 0, none⟩ = some (.int .u64 (Bc : Int)) := Rb.out.cell 0
    have b1 : wK.cell? ⟨wJ.heap.size, 1, none⟩ = some (.int .i64 (Ba : Int)) := Rb.out.cell 1
    have b2 : wK.cell? ⟨wJ.heap.size, 2, none⟩ = some (.int .i64 (Bu : Int)) := Rb.out.cell 2
    have b3 : wK.cell? ⟨wJ.heap.size, 3, none⟩ = some (.int .i64 (Bb : Int)) := Rb.out.cell 3
    obtain ⟨Y1, hY1⟩ : ∃ Y1, IntKind.u64.wrap ((Bc : Int) - (Ac : Int)) = Y1 := ⟨_, rfl⟩
    obtain ⟨Y, hY⟩ : ∃ Y, IntKind.i64.wrap Y1 = Y := ⟨_, rfl⟩
    by_cases hYp : 0 < Y
    · have q0 : wK.cell? ⟨w.heap.size + 1, 0, none⟩ = some (.int .u64 0) := NK.out.hd.cell 0
      have q1 : wK.cell? ⟨w.heap.size + 1, 1, none⟩ = some (.int .i64 0) := NK.out.hd.cell 1
      have q2 : wK.cell? ⟨w.heap.size + 1, 2, none⟩ = some (.int .i64 0) := NK.out.hd.cell 2
      have q3 : wK.cell? ⟨w.heap.size + 1, 3, none⟩ = some (.int .i64 0) := NK.out.hd.cell 3
      have f0 := NK.out.hd.frozen 0
      have f1 := NK.out.hd.frozen 1
      have f2 := NK.out.hd.frozen 2
      have f3 := NK.out.hd.frozen 3
      go_wp2
      obtain ⟨w5, hw5, R5, BB5, _⟩ := four_sets NK.out.hd rfl (Bc : Int) (Ba : Int) (Bu : Int) (Bb : Int)
      rw [show ((((wK.setCell ⟨w.heap.size + 1, 0, none⟩ (.int .u64 (Bc : Int))).setCell ⟨w.heap.size + 1, 1, none⟩ (.int .i64 (Ba : Int))).setCell ⟨w.heap.size + 1, 2, none⟩ (.int .i64 (Bu : Int))).setCell ⟨w.heap.size + 1, 3, none⟩ (.int .i64 (Bb : Int))) = w5 from hw5.symm]
      exact bodyPost_ret (v := .agg #[.int .u64 (Bc : Int), .int .i64 (Ba : Int), .int .i64 (Bu : Int), .int .i64 (Bb : Int)]) (results_cell_row Tryd.results31 _ _ (w.heap.size + 1) 67 _ (0, 0) _ rfl R5 Tryd.underlying67 rfl (by exact infoHead)) rfl ⟨Or.inl ⟨⟨Bc, Ba, Bu, Bb⟩, HBO.out, by rw [← HAB.out]; exact HBU.out, rfl⟩, NK.out.bl.trans (BB5.mono (Nat.le_succ _))⟩
    · have q0 : wK.cell? ⟨w.heap.size + 1, 0, none⟩ = some (.int .u64 0) := NK.out.hd.cell 0
      have q1 : wK.cell? ⟨w.heap.size + 1, 1, none⟩ = some (.int .i64 0) := NK.out.hd.cell 1
      have q2 : wK.cell? ⟨w.heap.size + 1, 2, none⟩ = some (.int .i64 0) := NK.out.hd.cell 2
      have q3 : wK.cell? ⟨w.heap.size + 1, 3, none⟩ = some (.int .i64 0) := NK.out.hd.cell 3
      have f0 := NK.out.hd.frozen 0
      have f1 := NK.out.hd.frozen 1
      have f2 := NK.out.hd.frozen 2
      have f3 := NK.out.hd.frozen 3
      go_wp2
      obtain ⟨w5, hw5, R5, BB5, _⟩ := four_sets NK.out.hd rfl (Ac : Int) (Aa : Int) (Au : Int) (Ab : Int)
      rw [show ((((wK.setCell ⟨w.heap.size + 1, 0, none⟩ (.int .u64 (Ac : Int))).setCell ⟨w.heap.size + 1, 1, none⟩ (.int .i64 (Aa : Int))).setCell ⟨w.heap.size + 1, 2, none⟩ (.int .i64 (Au : Int))).setCell ⟨w.heap.size + 1, 3, none⟩ (.int .i64 (Ab : Int))) = w5 from hw5.symm]
      exact bodyPost_ret (v := .agg #[.int .u64 (Ac : Int), .int .i64 (Aa : Int), .int .i64 (Au : Int), .int .i64 (Ab : Int)]) (results_cell_row Tryd.results31 _ _ (w.heap.size + 1) 67 _ (0, 0) _ rfl R5 Tryd.underlying67 rfl (by exact infoHead)) rfl ⟨Or.inl ⟨⟨Ac, Aa, Au, Ab⟩, HAO.out, by rw [← HAB.out]; exact HAU.out, rfl⟩, NK.out.bl.trans (BB5.mono (Nat.le_succ _))⟩
end Go.Proofs.YtidocfajhhpfdaaDoor
