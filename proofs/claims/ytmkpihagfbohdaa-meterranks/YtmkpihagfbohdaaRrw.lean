/- The reference's Rank: the walk. -/
import Derived.Test.YtmkpihagfbohdaaRrk
namespace Go.Proofs.Ytmkpihagfbohdaa
open Go.RowKit
set_option maxHeartbeats 4000000 in
set_option maxRecDepth 5000 in
theorem rrank_any (l : List Nat) (q : Nat) (ao : Option Addr) (n cap : Nat) (w : World) (hl : Hid (l.length = n)) (hs : SlF w ao l) (hsm : Small l) (hq : q < 2 ^ 64) (hn : n ≤ 1000) :
    Calls Try.prog 20 #[.slice ao n cap, .float .f64 q] w fun e w' => e = .returned (.float .f64 (F.rank l q)) ∧ Below w.heap.size w w' := by
  have HS := hide hs
  clear hs
  go_enter Try.func20, Try.ntmps20
  go_wp2
  go_loopw [6, 5] (fun i v wr => ∃ (j : Nat) (m : List Nat), i = .int .i64 (j : Int) ∧ j ≤ n ∧ OwnF wr w.heap.size v m ∧ (m = [] → v = .slice none 0 0) ∧ Hid (m.Perm (F.nums (l.take j)) ∧ m.Pairwise (fun a b => F.okey a ≤ F.okey b)) ∧ m.length ≤ j ∧ Below w.heap.size w wr) (fun i _ _ => n - (intOf i).toNat)
  case atStart => exact ⟨0, [], rfl, by omega, OwnF.nil _ _, fun _ => rfl, hide ⟨List.Perm.refl _, List.Pairwise.nil⟩, by simp, Below.refl _ _⟩
  case round =>
    obtain ⟨j, m, rfl, hj, hO, hnil, hPS, hmj, hB⟩ := hrel
    have hz := hB.size
    have HO := hide hO
    clear hO
    by_cases hlt : j < n
    · have hjl : j < l.length := by have := hl.out; omega
      obtain ⟨b, o, rfl, hblt, hc⟩ := (HS.out.below hB (Nat.le_refl _)) (by omega)
      have hbw : b < w.heap.size := by
        obtain ⟨b', o', e, h, _⟩ := HS.out (by omega)
        cases e; exact h
      have hcj := hc j hjl
      have hcx : w.cell? ⟨b, o + j, none⟩ = some (.float .f64 (l.getD j 0)) := by
        obtain ⟨b', o', e, _, h⟩ := HS.out (by omega)
        cases e; exact h j hjl
      have HX := hide hcx
      clear hc hcx
      have hx := hsm (l.getD j 0) (by
        have : l.getD j 0 = l[j] := by simp [hjl]
        rw [this]; exact List.getElem_mem hjl)
      cases hnx : F.nan (l.getD j 0)
      · have HN := hide (F.nums_snoc l j hjl hnx)
        generalize l.getD j 0 = x at *
        by_cases hm0 : m = []
        · obtain rfl := hnil hm0
          subst hm0
          clear hnil HO
          go_wp2_with (go_at_call 34; refine (rnan_any _ _).mono ?_; rintro e w' ⟨rfl, hw⟩; rw [hw, hnx]; clear hw w')
          go_loopw [7] (fun at' wi => at' = .int .i64 0 ∧ wi = wr) (fun _ _ => 0)
          case atStart => exact ⟨rfl, rfl⟩
          case round =>
            obtain ⟨rfl, rfl⟩ := hrel
            go_wp2
            go_quiet (fail)
            go_wp2
            have hcw : (wr.drewN nq).cell? ⟨b, o + j, none⟩ = some (.float .f64 x) := hcj
            have hBw := below_drewN hB nq
            clear hcj hB hz hblt
            generalize wr.drewN nq = W at *
            have hzw := hBw.size
            have hca : ∀ ob, (W.alloc ob).cell? ⟨b, o + j, none⟩ = some (.float .f64 x) := fun ob => (((Below.refl W.heap.size W).alloc (Nat.le_refl _) ob).cell (p := ⟨b, o + j, none⟩) (by show b < _; omega)).trans hcw
            have hji : (j : Int) < (n : Int) := by omega
            go_region_held3 (fun w' => w'.cell? ⟨b, o + j, none⟩ = some (.float .f64 x)) ((first | exact hx5 | exact hca _ | exact hcw)) ((first
              | (refine step_append_one_nil rfl (.tmp 47) (.tmp 50) rfl W.heap.size (by rfl) (by rfl) ?_)
              | (refine step_append_F rfl (.tmp 42) (.tmp 51) rfl w.heap.size (.slice none 0 0) [] (by rfl) (OwnF.nil _ _) ⟨W.heap.size, 0, none⟩ 1 1 [x] (by rfl) rfl (by exact SlF.one W x 25) (by simp) (by simp; omega) ?_; intro v5 w5 hO5 hG5; have hB5 := grown_belowF (w := (W.alloc (.cells #[.float .f64 x] 25)).drew) (OwnF.nil _ _) hG5 (below_drew (hBw.alloc hzw _)) (by show _ ≤ (W.alloc _).heap.size; simp; omega); have hx5 : w5.cell? ⟨b, o + j, none⟩ = some (.float .f64 x) := (hB5.cell (p := ⟨b, o + j, none⟩) hbw).trans HX.out; have O5 := hide hO5; have B5 := hide hB5; clear hG5 hO5 hB5)))
            all_goals
              go_wp2
              go_roundw
              case rel => exact ⟨j + 1, [x], by go_num, by omega, O5.out, fun h => by simp at h, hide ⟨by rw [HN.out]; have := hPS.out.1.length_eq; rw [List.eq_nil_of_length_eq_zero this.symm]; exact List.Perm.refl _, List.pairwise_singleton _ _⟩, by simp, B5.out⟩
              case measure => simp [intOf]; omega
        · have hml : 0 < m.length := List.length_pos_iff.2 hm0
          obtain ⟨g, C, rfl, hg, hLC, hC, hgl, hcc⟩ := HO.out.form hml
          clear hnil
          have hmsm : ∀ i, i < m.length → m.getD i 0 < 2 ^ 64 := fun i hi => by
            have h1 : m.getD i 0 = m[i] := by simp [hi]
            rw [h1]
            have h2 := hPS.out.1.mem_iff.1 (List.getElem_mem hi)
            exact F.nums_small (l := l.take j) (fun y hy => hsm y (List.mem_of_mem_take hy)) _ h2
          have HC := hide hcc
          have HM := hide hmsm
          clear hcc hmsm
          generalize hL : m.length = L at *
          replace hL := hide hL
          have hLi : (0 : Int) < (L : Int) := by omega
          go_wp2_with (go_at_call 34; refine (rnan_any _ _).mono ?_; rintro e w' ⟨rfl, hw⟩; rw [hw, hnx]; clear hw w')
          go_loopw [7] (fun at' wi => ∃ (A q' : Nat), at' = .int .i64 (A : Int) ∧ A ≤ L ∧ wi = wr.drewN q' ∧ Hid (∀ i, A ≤ i → i < m.length → F.okey x < F.okey (m.getD i 0))) (fun i _ => (intOf i).toNat)
          case atStart => exact ⟨L, 0, rfl, Nat.le_refl _, rfl, hide fun i h1 h2 => by have := hL.out; omega⟩
          case round =>
            obtain ⟨A, q', rfl, hA, rfl, hGT⟩ := hrel
            by_cases hA0 : A = 0
            · subst hA0
              go_wp2
              go_quiet (fail)
              go_wp2
              have hcw : ((wr.drewN q').drewN nq).cell? ⟨b, o + j, none⟩ = some (.float .f64 x) := hcj
              have hBw := below_drewN (below_drewN hB q') nq
              have HOw : Hid (OwnF ((wr.drewN q').drewN nq) w.heap.size (.slice (some ⟨g, 0, none⟩) L C) m) := hide HO.out
              clear hcj hB hz hblt HO
              generalize (wr.drewN q').drewN nq = W at *
              have hzw := hBw.size
              have hgW : g < W.heap.size := by
                obtain ⟨g', c', e, _, _, _, hlt', _⟩ := HOw.out.form (by have := hL.out; omega)
                cases e; exact hlt'
              have hSm : SlF W (some ⟨g, 0, none⟩) m := by
                have h := HOw.out
                rw [← hL.out] at h
                exact h.sl
              have HSm := hide hSm
              clear hSm
              have hca : ∀ ob, (W.alloc ob).cell? ⟨b, o + j, none⟩ = some (.float .f64 x) := fun ob => (((Below.refl W.heap.size W).alloc (Nat.le_refl _) ob).cell (p := ⟨b, o + j, none⟩) (by show b < _; omega)).trans hcw
              have hji : (j : Int) < (n : Int) := by omega
              have HF : Hid ((F.ins m (0) x).Perm (F.nums (l.take (j + 1))) ∧ (F.ins m (0) x).Pairwise (fun a b => F.okey a ≤ F.okey b)) := by
                refine ⟨?_, F.ins_sorted hPS.out.2 (by have := hL.out; omega) hGT.out (fun h => by omega)⟩
                rw [HN.out]
                exact (F.ins_perm m (0) x).trans (hPS.out.1.append_right _)
              have hC0 : ¬ C = 0 := by omega
              have HD : Hid (m.length = L) := hL
              have HSd : Hid (SlF W (some ⟨g, 0, none⟩) m) := HSm
              have HSt : Hid (SlF W (some ⟨g, 0, none⟩) ([] : List Nat)) := hide (SlF.nil _ _)
              have HT : Hid (([] : List Nat).length = 0) := hide rfl
              go_region_held3 (fun w' => w'.cell? ⟨b, o + j, none⟩ = some (.float .f64 x)) ((first | exact hx5 | exact hx4 | exact hca _ | exact hcw)) ((first
                | (refine step_append_F rfl (.tmp 47) (.tmp 50) rfl W.heap.size (.slice (some ⟨W.heap.size, 0, none⟩) 1 1) [x] (by rfl) (by exact OwnF.build W x W.heap.size (Nat.le_refl _)) ⟨g, 0, none⟩ (L) (C) (m) (by rfl) HD.out (by exact HSd.out.alloc _) (by simp; omega) (by simp) ?_; intro v4 w4 hO4 hG4; have hB4 : Below W.heap.size W w4 := grown_belowF (w := (W.alloc (.cells #[.float .f64 x] 25)).drew) (OwnF.build W x W.heap.size (Nat.le_refl _)) hG4 (below_drew ((Below.refl W.heap.size W).alloc (Nat.le_refl _) _)) (by show _ ≤ (W.alloc _).heap.size; simp); obtain ⟨g4, c4, rfl, hg4, _, _, hg4l, _⟩ := hO4.form (by simp); have hx4 : w4.cell? ⟨b, o + j, none⟩ = some (.float .f64 x) := (hB4.cell (p := ⟨b, o + j, none⟩) (by show b < _; omega)).trans hcw; have S4 := hide hO4.sl; have T4 := hide (HSt.out.below hB4 (Nat.le_refl _)); have B4 := hide (hBw.trans (hB4.mono hzw)); clear hG4 hO4 hB4)
                | (refine step_append_new rfl (.tmp 42) (.tmp 51) rfl w.heap.size ([]) g (0) (by rfl) HT.out (by exact T4.out) ⟨g4, 0, none⟩ _ c4 ([x] ++ m) (by rfl) rfl (by exact S4.out) (by simp) (by have := HD.out; simp; omega) (by exact B4.out.size) ?_; intro v5 w5 hO5 hB5; have hx5 : w5.cell? ⟨b, o + j, none⟩ = some (.float .f64 x) := (hB5.cell (p := ⟨b, o + j, none⟩) (by have := B4.out.size; show b < _; omega)).trans hx4; have O5 := hide hO5; have B5 := hide (B4.out.trans (hB5.mono B4.out.size)); clear hO5 hB5)))
              all_goals
                go_wp2
                go_roundw
                case rel => exact ⟨j + 1, F.ins m (0) x, by go_num, by omega, O5.out, fun h => by simp [F.ins] at h, HF, by rw [(F.ins_perm m (0) x).length_eq]; simp; have := hL.out; omega, B5.out⟩
                case measure => simp [intOf]; omega
            · obtain ⟨A', hAA⟩ : ∃ A', A = A' + 1 := ⟨A - 1, by omega⟩
              have eA : IntKind.i64.wrap ((A : Int) - 1) = (A' : Int) := by rw [hAA, IntKind.wrap_i64]; omega
              have eA2 : (A : Int) - 1 = (A' : Int) := by omega
              have hA1 : (0 : Int) < (A : Int) := by omega
              have hA3 : 0 < A := by omega
              have hA5 : A' < L := by omega
              have eA3 : IntKind.i64.wrap (A' : Int) = (A' : Int) := wrap_nat A' (by omega)
              have hA4 : decide (0 < A) = true := decide_eq_true hA3
              have hA2 : (A' : Int) < (L : Int) := by omega
              have hji : (j : Int) < (n : Int) := by omega
              replace hAA := hide hAA
              have hc1 := HC.out A' (by have := hAA.out; omega)
              have hy := HM.out A' (by have := hAA.out; omega)
              have HG1 : Hid (m.getD (A - 1) 0 = m.getD A' 0) := hide (by rw [hAA.out]; rfl)
              rcases F.cmp_three (m.getD A' 0) x with ⟨hcm, hk⟩ | ⟨hcm, hk⟩ | ⟨hcm, hk⟩
              · have HF : Hid ((F.ins m A x).Perm (F.nums (l.take (j + 1))) ∧ (F.ins m A x).Pairwise (fun a b => F.okey a ≤ F.okey b)) := by
                  refine ⟨?_, F.ins_sorted hPS.out.2 (by have := hL.out; omega) hGT.out (fun _ => by rw [HG1.out]; omega)⟩
                  rw [HN.out]
                  exact (F.ins_perm m A x).trans (hPS.out.1.append_right _)
                generalize m.getD A' 0 = y at *
                go_wp2
                go_quiet ((go_at_call 12; exact quiet_same2 (rorder_any _ _ hy hx _)))
                go_wp2
                have hcw : ((wr.drewN q').drewN nq).cell? ⟨b, o + j, none⟩ = some (.float .f64 x) := hcj
                have hBw := below_drewN (below_drewN hB q') nq
                have HOw : Hid (OwnF ((wr.drewN q').drewN nq) w.heap.size (.slice (some ⟨g, 0, none⟩) L C) m) := hide HO.out
                clear hcj hB hz hblt HO hc1
                generalize (wr.drewN q').drewN nq = W at *
                have hzw := hBw.size
                have hgW : g < W.heap.size := by
                  obtain ⟨g', c', e, _, _, _, hlt', _⟩ := HOw.out.form (by have := hL.out; omega)
                  cases e; exact hlt'
                have hSm : SlF W (some ⟨g, 0, none⟩) m := by
                  have h := HOw.out
                  rw [← hL.out] at h
                  exact h.sl
                have HSm := hide hSm
                clear hSm
                have hca : ∀ ob, (W.alloc ob).cell? ⟨b, o + j, none⟩ = some (.float .f64 x) := fun ob => (((Below.refl W.heap.size W).alloc (Nat.le_refl _) ob).cell (p := ⟨b, o + j, none⟩) (by show b < _; omega)).trans hcw
                have HSt : Hid (SlF W (some ⟨g, 0, none⟩) (m.take A)) := hide fun hn => by
                  obtain ⟨b', o', e, h1, h2⟩ := HSm.out (by have := hL.out; omega)
                  cases e
                  refine ⟨g, 0, rfl, h1, fun i hi => ?_⟩
                  rw [List.length_take] at hi
                  rw [h2 i (by omega)]
                  simp [show i < A by omega]
                have HT : Hid ((m.take A).length = A) := hide (by rw [List.length_take]; have := hL.out; omega)
                have HLE : Hid ((m.take A ++ ([x] ++ m.drop A)).length ≤ j + 1) := hide (by have := HT.out; have := hL.out; simp only [List.length_append, List.length_cons, List.length_nil, List.length_drop]; omega)
                have sl1 := slice_head g L C A (by omega)
                have sl2 := slice_tail g L C A hA
                have HSd0 : SlF W (some ⟨g, if C = A then 0 else A, none⟩) (m.drop A) := by
                  by_cases hCA : C = A
                  · rw [List.drop_of_length_le (by rw [hL.out]; omega)]; exact SlF.nil _ _
                  · rw [if_neg hCA]
                    have h := SlF.drop (k := A) HSm.out (by rw [hL.out]; exact hA)
                    rw [Nat.zero_add] at h
                    exact h
                have HD0 : (m.drop A).length = L - A := by rw [List.length_drop, hL.out]
                have hDL : L - A ≤ 1000 := by omega
                generalize (if C = A then 0 else A) = O at sl2 HSd0
                generalize L - A = D at sl2 HD0 hDL
                generalize C - A = E at sl2
                have HD := hide HD0
                have HSd := hide HSd0
                clear HD0 HSd0
                go_region_held3 (fun w' => w'.cell? ⟨b, o + j, none⟩ = some (.float .f64 x)) ((first | exact hx5 | exact hx4 | exact hca _ | exact hcw)) ((first
                  | (refine step_append_F rfl (.tmp 47) (.tmp 50) rfl W.heap.size (.slice (some ⟨W.heap.size, 0, none⟩) 1 1) [x] (by rfl) (by exact OwnF.build W x W.heap.size (Nat.le_refl _)) ⟨g, O, none⟩ (D) (E) (m.drop A) (by rfl) HD.out (by exact HSd.out.alloc _) (by simp; omega) (by simp) ?_; intro v4 w4 hO4 hG4; have hB4 : Below W.heap.size W w4 := grown_belowF (w := (W.alloc (.cells #[.float .f64 x] 25)).drew) (OwnF.build W x W.heap.size (Nat.le_refl _)) hG4 (below_drew ((Below.refl W.heap.size W).alloc (Nat.le_refl _) _)) (by show _ ≤ (W.alloc _).heap.size; simp); obtain ⟨g4, c4, rfl, hg4, _, _, hg4l, _⟩ := hO4.form (by simp); have hx4 : w4.cell? ⟨b, o + j, none⟩ = some (.float .f64 x) := (hB4.cell (p := ⟨b, o + j, none⟩) (by show b < _; omega)).trans hcw; have S4 := hide hO4.sl; have T4 := hide (HSt.out.below hB4 (Nat.le_refl _)); have B4 := hide (hBw.trans (hB4.mono hzw)); clear hG4 hO4 hB4)
                  | (refine step_append_new rfl (.tmp 42) (.tmp 51) rfl w.heap.size (m.take A) g (A) (by rfl) HT.out (by exact T4.out) ⟨g4, 0, none⟩ _ c4 ([x] ++ m.drop A) (by rfl) rfl (by exact S4.out) (by simp) (by rw [List.length_append, HD.out]; simp only [List.length_cons, List.length_nil]; omega) (by exact B4.out.size) ?_; intro v5 w5 hO5 hB5; have hx5 : w5.cell? ⟨b, o + j, none⟩ = some (.float .f64 x) := (hB5.cell (p := ⟨b, o + j, none⟩) (by have := B4.out.size; show b < _; omega)).trans hx4; have O5 := hide hO5; have B5 := hide (B4.out.trans (hB5.mono B4.out.size)); clear hO5 hB5)))
                all_goals
                  go_wp2
                  go_roundw
                  case rel => exact ⟨j + 1, _, by go_num, by omega, O5.out, fun h => by simp at h, HF, HLE.out, B5.out⟩
                  case measure => simp [intOf]; omega
              · have HF : Hid ((F.ins m A x).Perm (F.nums (l.take (j + 1))) ∧ (F.ins m A x).Pairwise (fun a b => F.okey a ≤ F.okey b)) := by
                  refine ⟨?_, F.ins_sorted hPS.out.2 (by have := hL.out; omega) hGT.out (fun _ => by rw [HG1.out]; omega)⟩
                  rw [HN.out]
                  exact (F.ins_perm m A x).trans (hPS.out.1.append_right _)
                generalize m.getD A' 0 = y at *
                go_wp2
                go_quiet ((go_at_call 12; exact quiet_same2 (rorder_any _ _ hy hx _)))
                go_wp2
                have hcw : ((wr.drewN q').drewN nq).cell? ⟨b, o + j, none⟩ = some (.float .f64 x) := hcj
                have hBw := below_drewN (below_drewN hB q') nq
                have HOw : Hid (OwnF ((wr.drewN q').drewN nq) w.heap.size (.slice (some ⟨g, 0, none⟩) L C) m) := hide HO.out
                clear hcj hB hz hblt HO hc1
                generalize (wr.drewN q').drewN nq = W at *
                have hzw := hBw.size
                have hgW : g < W.heap.size := by
                  obtain ⟨g', c', e, _, _, _, hlt', _⟩ := HOw.out.form (by have := hL.out; omega)
                  cases e; exact hlt'
                have hSm : SlF W (some ⟨g, 0, none⟩) m := by
                  have h := HOw.out
                  rw [← hL.out] at h
                  exact h.sl
                have HSm := hide hSm
                clear hSm
                have hca : ∀ ob, (W.alloc ob).cell? ⟨b, o + j, none⟩ = some (.float .f64 x) := fun ob => (((Below.refl W.heap.size W).alloc (Nat.le_refl _) ob).cell (p := ⟨b, o + j, none⟩) (by show b < _; omega)).trans hcw
                have HSt : Hid (SlF W (some ⟨g, 0, none⟩) (m.take A)) := hide fun hn => by
                  obtain ⟨b', o', e, h1, h2⟩ := HSm.out (by have := hL.out; omega)
                  cases e
                  refine ⟨g, 0, rfl, h1, fun i hi => ?_⟩
                  rw [List.length_take] at hi
                  rw [h2 i (by omega)]
                  simp [show i < A by omega]
                have HT : Hid ((m.take A).length = A) := hide (by rw [List.length_take]; have := hL.out; omega)
                have HLE : Hid ((m.take A ++ ([x] ++ m.drop A)).length ≤ j + 1) := hide (by have := HT.out; have := hL.out; simp only [List.length_append, List.length_cons, List.length_nil, List.length_drop]; omega)
                have sl1 := slice_head g L C A (by omega)
                have sl2 := slice_tail g L C A hA
                have HSd0 : SlF W (some ⟨g, if C = A then 0 else A, none⟩) (m.drop A) := by
                  by_cases hCA : C = A
                  · rw [List.drop_of_length_le (by rw [hL.out]; omega)]; exact SlF.nil _ _
                  · rw [if_neg hCA]
                    have h := SlF.drop (k := A) HSm.out (by rw [hL.out]; exact hA)
                    rw [Nat.zero_add] at h
                    exact h
                have HD0 : (m.drop A).length = L - A := by rw [List.length_drop, hL.out]
                have hDL : L - A ≤ 1000 := by omega
                generalize (if C = A then 0 else A) = O at sl2 HSd0
                generalize L - A = D at sl2 HD0 hDL
                generalize C - A = E at sl2
                have HD := hide HD0
                have HSd := hide HSd0
                clear HD0 HSd0
                go_region_held3 (fun w' => w'.cell? ⟨b, o + j, none⟩ = some (.float .f64 x)) ((first | exact hx5 | exact hx4 | exact hca _ | exact hcw)) ((first
                  | (refine step_append_F rfl (.tmp 47) (.tmp 50) rfl W.heap.size (.slice (some ⟨W.heap.size, 0, none⟩) 1 1) [x] (by rfl) (by exact OwnF.build W x W.heap.size (Nat.le_refl _)) ⟨g, O, none⟩ (D) (E) (m.drop A) (by rfl) HD.out (by exact HSd.out.alloc _) (by simp; omega) (by simp) ?_; intro v4 w4 hO4 hG4; have hB4 : Below W.heap.size W w4 := grown_belowF (w := (W.alloc (.cells #[.float .f64 x] 25)).drew) (OwnF.build W x W.heap.size (Nat.le_refl _)) hG4 (below_drew ((Below.refl W.heap.size W).alloc (Nat.le_refl _) _)) (by show _ ≤ (W.alloc _).heap.size; simp); obtain ⟨g4, c4, rfl, hg4, _, _, hg4l, _⟩ := hO4.form (by simp); have hx4 : w4.cell? ⟨b, o + j, none⟩ = some (.float .f64 x) := (hB4.cell (p := ⟨b, o + j, none⟩) (by show b < _; omega)).trans hcw; have S4 := hide hO4.sl; have T4 := hide (HSt.out.below hB4 (Nat.le_refl _)); have B4 := hide (hBw.trans (hB4.mono hzw)); clear hG4 hO4 hB4)
                  | (refine step_append_new rfl (.tmp 42) (.tmp 51) rfl w.heap.size (m.take A) g (A) (by rfl) HT.out (by exact T4.out) ⟨g4, 0, none⟩ _ c4 ([x] ++ m.drop A) (by rfl) rfl (by exact S4.out) (by simp) (by rw [List.length_append, HD.out]; simp only [List.length_cons, List.length_nil]; omega) (by exact B4.out.size) ?_; intro v5 w5 hO5 hB5; have hx5 : w5.cell? ⟨b, o + j, none⟩ = some (.float .f64 x) := (hB5.cell (p := ⟨b, o + j, none⟩) (by have := B4.out.size; show b < _; omega)).trans hx4; have O5 := hide hO5; have B5 := hide (B4.out.trans (hB5.mono B4.out.size)); clear hO5 hB5)))
                all_goals
                  go_wp2
                  go_roundw
                  case rel => exact ⟨j + 1, _, by go_num, by omega, O5.out, fun h => by simp at h, HF, HLE.out, B5.out⟩
                  case measure => simp [intOf]; omega
              · have HK : Hid (∀ i, A' ≤ i → i < m.length → F.okey x < F.okey (m.getD i 0)) := hide fun i h1 h2 => by
                  by_cases e : i = A'
                  · rw [e]; exact hk
                  · exact hGT.out i (by have := hAA.out; omega) h2
                generalize m.getD A' 0 = y at *
                go_wp2
                go_quiet ((go_at_call 12; exact quiet_same2 (rorder_any _ _ hy hx _)))
                go_wp2
                go_roundw
                case rel => exact ⟨A', q' + nq, by go_num, by have := hAA.out; omega, rfl, HK⟩
                case measure => simp [intOf]; have := hAA.out; omega
      · have HN := hide (F.nums_skip l j hjl hnx)
        generalize l.getD j 0 = x at *
        go_wp2_with (go_at_call 34; refine (rnan_any _ _).mono ?_; rintro e w' ⟨rfl, hw⟩; rw [hw, hnx]; clear hw w')
        go_roundw
        case rel => exact ⟨j + 1, m, by go_num, by omega, HO.out, hnil, by rw [HN.out]; exact hPS, by omega, hB⟩
        case measure => simp [intOf]; omega
    · obtain rfl : j = n := by omega
      have hT : l.take j = l := List.take_of_length_le (by rw [hl.out]; exact Nat.le_refl _)
      rw [hT] at hPS
      have hS := F.srt_only hsm hPS.out.1 hPS.out.2
      have hML : m.length = (F.nums l).length := hPS.out.1.length_eq
      by_cases hm0 : m = []
      · obtain rfl := hnil hm0
        subst hm0
        have HR : Hid (F.rank l q = 9221120237041090561) := by
          show _ = _
          unfold F.rank; rw [if_pos (by rw [← hML]; rfl)]
        clear hS hML
        go_wp2_with (go_at_call 28; refine (nanF_any _).mono ?_; rintro e w' ⟨rfl, hw⟩; rw [hw]; clear hw w')
        go_ret
        exact ⟨by rw [HR.out]; rfl, hB⟩
      · have hml : 0 < m.length := List.length_pos_iff.2 hm0
        obtain ⟨g, C, rfl, hg, hLC, hC, hgl, hcc⟩ := HO.out.form hml
        have HR : Hid (F.rank l q = m.getD (F.plc q m.length) 0) := by
          show _ = _
          unfold F.rank; rw [if_neg (by omega), ← hS, ← hML]
        have hpl := F.plc_lt (q := q) (n := m.length) hml
        have hcell := hcc (F.plc q m.length) hpl
        clear hcc hS hML hnil
        have hlt0 := F.lt0_of hq
        cases h0 : F.ge0 q
        · rw [h0] at hlt0
          have h1 : F.ge1 q = false := by
            cases h : F.ge1 q
            · rfl
            · rw [F.ge1_ge0 hq h] at h0; cases h0
          have hP : F.plc q m.length = 0 := by unfold F.plc; rw [h1, h0]; rfl
          rw [hP] at HR hcell hpl
          generalize m.getD 0 0 = R at HR hcell
          generalize m.length = L at *
          cases hnq : F.nan q
          · rw [hnq, Bool.false_or] at hlt0
            go_wp2_with (go_at_call 34; refine (rnan_any _ _).mono ?_; rintro e w' ⟨rfl, hw⟩; rw [hw, hnq]; clear hw w')
            go_ret
            exact ⟨by rw [HR.out]; rfl, hB⟩
          · clear hlt0
            go_wp2_with (go_at_call 34; refine (rnan_any _ _).mono ?_; rintro e w' ⟨rfl, hw⟩; rw [hw, hnq]; clear hw w')
            go_ret
            exact ⟨by rw [HR.out]; rfl, hB⟩
        · rw [h0] at hlt0
          simp only [Bool.not_true, Bool.or_eq_false_iff] at hlt0
          obtain ⟨hnq, hlq⟩ := hlt0
          cases h1 : F.ge1 q
          · obtain ⟨bb, cc, hb, ht1, hnb, hc, ht2, hle⟩ := F.place_ok (n := m.length) hq h0 h1 (by omega)
            have hP : F.plc q m.length = min (F.tr q m.length) (m.length - 1) := by unfold F.plc; rw [h1, h0]; rfl
            generalize F.tr q m.length = T at *
            generalize hPn : F.plc q m.length = P at *
            generalize m.getD P 0 = R at HR hcell
            generalize m.length = L at *
            unfold F.ge1 at h1
            have r1 : ∀ (t : TypeId) (W : World), (binOp .mul t (.float .f64 q) (.float .f64 (floatOfInt .f64 (L : Int)))).run Try.prog W = .ok (.float .f64 bb) W := fun t W => run_float_arith W .mul t .f64 q _ bb hb
            have r2 : ∀ (W : World), (convert 25 3 (.float .f64 bb)).run Try.prog W = .ok (.int .i64 (T : Int)) W := fun W => run_convert_float_int W _ _ .f64 .i64 bb _ (by rw [Try.underlying25]; rfl) Try.underlying3 ht1
            clear hb ht1 hnb hc ht2 hPn h0
            have hmin : min (T : Int) ((L : Int) - 1) = (P : Int) := by rw [hP]; omega
            clear hP
            go_wp2_with (go_at_call 34; refine (rnan_any _ _).mono ?_; rintro e w' ⟨rfl, hw⟩; rw [hw, hnq]; clear hw w')
            go_ret
            exact ⟨by rw [HR.out]; rfl, hB⟩
          · have hP : F.plc q m.length = m.length - 1 := by unfold F.plc; rw [h1]; rfl
            rw [hP] at HR hcell hpl
            generalize m.getD (m.length - 1) 0 = R at HR hcell
            generalize m.length = L at *
            unfold F.ge1 at h1
            have e1 : (L : Int) - 1 = ((L - 1 : Nat) : Int) := by omega
            clear h0
            go_wp2_with (go_at_call 34; refine (rnan_any _ _).mono ?_; rintro e w' ⟨rfl, hw⟩; rw [hw, hnq]; clear hw w')
            go_ret
            exact ⟨by rw [HR.out]; rfl, hB⟩
end Go.Proofs.Ytmkpihagfbohdaa
