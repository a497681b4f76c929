/- signetref7.Up; signethelp.Place. -/
import Derived.Test.YtpiehjfoojipiaaDoorTrl
namespace Go.Proofs.YtpiehjfoojipiaaDoor
open Go.RowKit
set_option maxRecDepth 3000 in
set_option maxHeartbeats 1000000 in
theorem up_any (a b F : Nat → BitVec 8) (w : World) (HF : Hid (T.upl (O.lst a) (O.lst b) = F)) :
    Calls Tryd.prog 32 #[.agg (rowB 8 a), .agg (rowB 8 b)] w fun e w' => e = .returned (.agg (rowB 8 F)) ∧ Below w.heap.size w w' := by
  have hz : (((w.alloc (.cells (rowB 8 a) 22)).alloc (.cells (rowB 8 b) 22)).alloc (.cells z8 22)).drew.heap.size = w.heap.size + 3 := by simp
  have hb : Below w.heap.size w (((w.alloc (.cells (rowB 8 a) 22)).alloc (.cells (rowB 8 b) 22)).alloc (.cells z8 22)).drew := ((((Below.refl _ _).alloc (Nat.le_refl _) _).alloc (by simp) _).alloc (by simp; omega) _).drew
  have hA : SlL (((w.alloc (.cells (rowB 8 a) 22)).alloc (.cells (rowB 8 b) 22)).alloc (.cells z8 22)).drew (some ⟨w.heap.size, 0, none⟩) (O.lst a) := ((((RowAt.new w 22 (rowB 8 a)).alloc _).alloc _).drew).sl8
  have hB : SlL (((w.alloc (.cells (rowB 8 a) 22)).alloc (.cells (rowB 8 b) 22)).alloc (.cells z8 22)).drew (some ⟨w.heap.size + 1, 0, none⟩) (O.lst b) := by
    have := (((RowAt.new (w.alloc (.cells (rowB 8 a) 22)) 22 (rowB 8 b)).alloc (.cells z8 22)).drew).sl8
    simpa using this
  have hR : RowAt (((w.alloc (.cells (rowB 8 a) 22)).alloc (.cells (rowB 8 b) 22)).alloc (.cells z8 22)).drew (w.heap.size + 2) 22 z8 := by
    have := (RowAt.new ((w.alloc (.cells (rowB 8 a) 22)).alloc (.cells (rowB 8 b) 22)) 22 z8).drew
    simpa using this
  have hP := parts_pr _ _ _ _ _ 8 8 34 hA hB (by simp) (by simp) (by rw [O.lst_len]; omega) (by rw [O.lst_len]; omega)
  rw [O.lst_len, O.lst_len, hz] at hP
  have HP := hide hP
  have hR1 := hR.alloc (.cells #[.slice (some ⟨w.heap.size, 0, none⟩) 8 8, .slice (some ⟨w.heap.size + 1, 0, none⟩) 8 8] 34)
  have HR := hide hR1
  have HB := hide (hb.alloc (by rw [hz]; omega) (.cells #[.slice (some ⟨w.heap.size, 0, none⟩) 8 8, .slice (some ⟨w.heap.size + 1, 0, none⟩) 8 8] 34))
  clear hA hB hR hP hR1 hb hz
  go_enter Tryd.func32, Tryd.ntmps32
  go_wp2_with fail
  go_region_held3 (fun _ => True) (trivial) ((go_at_call 45; refine (refShort_any 4 [O.lst a, O.lst b] _ 2 2 _ rfl (by exact HP.out) (by omega) (two_le _ _ (by rw [O.lst_len]; omega) (by rw [O.lst_len]; omega))).mono ?_; rintro e w1 ⟨rfl, hB1⟩; rw [show sumF (4 :: ptext [O.lst a, O.lst b]) = F from HF.out]; have hR1 := HR.out.below hB1 HR.out.lt; have hb1 := HB.out.trans (hB1.mono (by simp; omega)); have hst := run_store8 hR1 rfl F; clear hB1))
  all_goals go_wp2
  exact bodyPost_ret (v := .agg (rowB 8 F)) (results_rowAt Tryd.results32 _ _ (w.heap.size + 2) 22 _ _ rfl (setRow_same hR1 _) Tryd.underlying22 rfl (by rw [rowB_size]; exact info28)) rfl ⟨rfl, below_setRow hb1 (by omega) _⟩
set_option maxRecDepth 5000 in
theorem up_lit (a b F : Nat → BitVec 8) (w : World) (HF : Hid (T.upl (O.lst a) (O.lst b) = F)) :
    Calls Tryd.prog 32 #[.agg #[.int .u8 (a 0).toNat, .int .u8 (a 1).toNat, .int .u8 (a 2).toNat, .int .u8 (a 3).toNat, .int .u8 (a 4).toNat, .int .u8 (a 5).toNat, .int .u8 (a 6).toNat, .int .u8 (a 7).toNat], .agg #[.int .u8 (b 0).toNat, .int .u8 (b 1).toNat, .int .u8 (b 2).toNat, .int .u8 (b 3).toNat, .int .u8 (b 4).toNat, .int .u8 (b 5).toNat, .int .u8 (b 6).toNat, .int .u8 (b 7).toNat]] w fun e w' => e = .returned (.agg (rowB 8 F)) ∧ Below w.heap.size w w' := by
  rw [lit8, lit8]; exact up_any a b F w HF
set_option maxRecDepth 5000 in
theorem place_any (k : Int) (n : Nat) (w : World) (h0 : 0 < n) (hn : n < 1000000) : Calls Tryd.prog 10 #[.int .i64 k, .int .i64 (n : Int)] w fun e w' => ∃ r : Nat, r < n ∧ e = .returned (.int .i64 (r : Int)) ∧ w' = w := by
  have e1 : Int.tmod k (n : Int) < (n : Int) := Int.tmod_lt_of_pos k (by omega)
  have e2 : -(n : Int) < Int.tmod k (n : Int) := by
    have h3 := Int.natAbs_tmod k (n : Int)
    have h4 : k.natAbs % (n : Int).natAbs < n := by rw [Int.natAbs_natCast]; exact Nat.mod_lt _ h0
    omega
  have hnz : ¬ ((n : Int) = 0) := by omega
  have hn1 : ¬ ((n : Int) = -1) := by omega
  obtain ⟨t, ht⟩ : ∃ t, Int.tmod k (n : Int) = t := ⟨_, rfl⟩
  rw [ht] at e1 e2
  have hw : IntKind.i64.wrap t = t := by rw [IntKind.wrap_i64]; omega
  by_cases h1 : t < 0
  · have q : decide (t < 0) = true := by simpa using h1
    obtain ⟨r, hr⟩ : ∃ r : Nat, t + (n : Int) = (r : Int) := ⟨(t + n).toNat, by omega⟩
    have hr2 : r < n := by omega
    have hw2 : IntKind.i64.wrap (t + (n : Int)) = (r : Int) := by rw [IntKind.wrap_i64]; omega
    clear hr
    go_enter Tryd.func10, Tryd.ntmps10
    go_wp2
    go_ret
    exact ⟨r, hr2, rfl, rfl⟩
  · have q : decide (t < 0) = false := by simpa using h1
    obtain ⟨r, rfl⟩ : ∃ r : Nat, t = (r : Int) := ⟨t.toNat, by omega⟩
    go_enter Tryd.func10, Tryd.ntmps10
    go_wp2
    go_ret
    exact ⟨r, by omega, rfl, rfl⟩
end Go.Proofs.YtpiehjfoojipiaaDoor

/- signetref7.Nodes. -/
namespace Go.Proofs.YtpiehjfoojipiaaDoor
open Go.RowKit
/- the same of the reference: the levels of a tree of height h, the first k + 1 of them, as the values xs of slices -/
def LevA (w : World) (f : Nat → BitVec 8) (h k : Nat) (xs : List Value) : Prop := xs.length = k + 1 ∧ ∀ j v, xs[j]? = some v → SlN 22 w v (levL f j (2 ^ (h - j)))
set_option maxRecDepth 5000 in
theorem LevA.below {w w' : World} {f : Nat → BitVec 8} {h k : Nat} {xs : List Value} (H : LevA w f h k xs) (hb : Below w.heap.size w w') : LevA w' f h k xs := ⟨H.1, fun j v hj => (H.2 j v hj).below hb (Nat.le_refl _)⟩
set_option maxRecDepth 5000 in
theorem LevA.grown {w w' : World} {f : Nat → BitVec 8} {h k : Nat} {xs : List Value} (H : LevA w f h k xs) {base n : Nat} {u : Value} {ys : List Value} (ho : w.ownsRow base 49 1 u n ys) (hg : w.grownBy w' u.ownBlock) : LevA w' f h k xs := ⟨H.1, fun j v hj => (H.2 j v hj).grown ho (by decide) hg⟩
set_option maxRecDepth 5000 in
theorem LevA.step {w : World} {f : Nat → BitVec 8} {h k : Nat} {xs : List Value} (H : LevA w f h k xs) {v : Value} (hv : SlN 22 w v (levL f (k + 1) (2 ^ (h - (k + 1))))) : LevA w f h (k + 1) (xs ++ [v]) := by
  refine ⟨by rw [List.length_append, H.1]; rfl, fun j u hj => ?_⟩
  by_cases e : j < xs.length
  · rw [List.getElem?_append_left e] at hj; exact H.2 j u hj
  · have hl := (List.getElem?_eq_some_iff.1 hj).1
    rw [List.length_append] at hl
    simp only [List.length_cons, List.length_nil, Nat.zero_add] at hl
    have h1 := H.1
    obtain rfl : j = k + 1 := by omega
    rw [List.getElem?_append_right (by omega), H.1] at hj
    simp at hj
    subst hj; exact hv
set_option maxRecDepth 5000 in
theorem LevA.one {w : World} {f : Nat → BitVec 8} {h : Nat} {v : Value} (hv : SlN 22 w v (levL f 0 (2 ^ h))) : LevA w f h 0 [v] := ⟨rfl, fun j u hj => by
  have hl := (List.getElem?_eq_some_iff.1 hj).1
  simp only [List.length_cons, List.length_nil, Nat.zero_add] at hl
  obtain rfl : j = 0 := by omega
  simp at hj; subst hj; exact hv⟩
set_option maxRecDepth 5000 in
theorem cells_of {w : World} {g o : Nat} {F : Nat → BitVec 8} (h : w.rangeAt g o (bsL 8 F)) : w.cell? ⟨g, o, none⟩ = some (.int .u8 (F 0).toNat) ∧ w.cell? ⟨g, o + 1, none⟩ = some (.int .u8 (F 1).toNat) ∧ w.cell? ⟨g, o + 2, none⟩ = some (.int .u8 (F 2).toNat) ∧ w.cell? ⟨g, o + 3, none⟩ = some (.int .u8 (F 3).toNat) ∧ w.cell? ⟨g, o + 4, none⟩ = some (.int .u8 (F 4).toNat) ∧ w.cell? ⟨g, o + 5, none⟩ = some (.int .u8 (F 5).toNat) ∧ w.cell? ⟨g, o + 6, none⟩ = some (.int .u8 (F 6).toNat) ∧ w.cell? ⟨g, o + 7, none⟩ = some (.int .u8 (F 7).toNat) := by
  have hx : ∀ j, j < 8 → w.cell? ⟨g, o + j, none⟩ = some (.int .u8 (F j).toNat) := fun j hj => h j _ (by simp [bsL, fb, hj])
  exact ⟨hx 0 (by omega), hx 1 (by omega), hx 2 (by omega), hx 3 (by omega), hx 4 (by omega), hx 5 (by omega), hx 6 (by omega), hx 7 (by omega)⟩
set_option maxRecDepth 3000 in
set_option maxHeartbeats 2000000 in
theorem nodes_any (f : Nat → BitVec 8) (h : Nat) (w : World) (hh : h ≤ 10) :
    Calls Tryd.prog 21 #[.agg (rowB 8 f), .int .i64 (h : Int)] w fun e w' => ∃ u xs, e = .returned u ∧ w'.ownsRow w.heap.size 49 1 u (h + 1) xs ∧ LevA w' f h h xs ∧ Below w.heap.size w w' := by
  have hI0 := QInv.first f w
  have hlt0 := hI0.lt
  have hm64 : min h 64 = h := by omega
  obtain ⟨N0, HN0⟩ : ∃ N0, Hid (2 ^ h = N0) := ⟨_, hide rfl⟩
  have hN01 : N0 ≤ 1024 := by rw [← HN0.out]; exact pow_le10 h hh
  have hN00 : 0 < N0 := by rw [← HN0.out]; exact Nat.pow_pos (by omega)
  have hw0 : IntKind.i64.wrap ((2 : Int) ^ h) = (N0 : Int) := by
    have : ((2 : Int) ^ h) = ((2 ^ h : Nat) : Int) := by simp
    rw [this, HN0.out, IntKind.wrap_i64]; omega
  go_enter Tryd.func21, Tryd.ntmps21
  go_wp2
  go_loopw [5, 6] (fun v i wr => ∃ k : Nat, k ≤ N0 ∧ i = .int .i64 (k : Int) ∧ Hid (wr.ownsRow (w.heap.size + 1) 22 8 v (levL f 0 k).length (nfl (levL f 0 k))) ∧ QInv f w wr) (fun _ i _ => N0 - (intOf i).toNat)
  case atStart => exact ⟨0, by omega, rfl, hide (World.ownsRow_nil _ _ _ _), hI0⟩
  case round =>
    clear hI0 hlt0
    obtain ⟨k, hk, rfl, HO, hI⟩ := hrel
    have hlt1 := hI.lt
    by_cases hlt : k < N0
    · have q1 : decide ((k : Int) < (N0 : Int)) = true := by simpa using hlt
      have hku : IntKind.u32.wrap (k : Int) = (k : Int) := by rw [IntKind.wrap_u32]; omega
      go_wp2_with (refine wpList_load_rowAt rfl 22 (.tmp 2) rfl w.heap.size rfl 22 _ _ (by exact hI.seed) Tryd.underlying22 rfl (by rw [rowB_size]; exact info28) ?_)
      refine (rpublic_any f k _ (by omega)).mono ?_
      rintro e w2 ⟨rfl, hB2⟩
      have hI2 := hI.next (hB2.mono hlt1)
      have HO2 := hide (owns_below HO.out hB2)
      have hlt2 := hI2.lt
      clear hB2 hI HO
      go_wp2_with (first
        | (refine wpList_build8 rfl 49 22 (.tmp 20) rfl (O.pub f k) rfl Tryd.underlying49 infoA ?_)
        | (at_builtin; refine wpList_append1 rfl (.tmp 16) (.tmp 21) 49 22 rfl (.agg z8) 8 8 Tryd.underlying49 infoA rfl (by omega) (w.heap.size + 1) _ (levL f 0 k).length (nfl (levL f 0 k)) rfl (by exact World.ownsRow.alloc HO2.out _) w2.heap.size 22 (bsL 8 (O.pub f k)) rfl (by exact RowAt.new w2 22 (rowB 8 (O.pub f k))) (bsL_len _ _) (bsL_one8 _) (by rw [levL_len]; omega) (by omega) (by simp; omega) ?_; intro v3 w3 ho3 hG3; have hI3 := (hI2.next ((Below.refl _ _).alloc hlt2 _)).next (owns_grown (World.ownsRow.alloc HO2.out _) hG3 (Below.refl _ _) (by simp; omega)); have HO3 := hide ho3; clear ho3 hG3))
      refine ⟨⟨k + 1, by omega, by go_num, ?_, hI3⟩, by simp [intOf]; omega⟩
      have h3 := HO3.out
      rw [levL_len] at h3
      exact own_next h3
    · obtain rfl : k = N0 := by omega
      have q1 : decide ((k : Int) < (k : Int)) = false := by simp
      have HB := hide hI.below
      have hS := SlN.own HO.out (by rw [levL_len]; exact hN00)
      obtain ⟨g0, c0, cur0, rfl, _, _, _⟩ := id hS
      rw [levL_len, ← HN0.out] at hS
      rw [levL_len]
      have HX0 : Hid (LevA (wr.alloc (.cells #[.slice (some ⟨g0, 0, none⟩) k c0] 49)) f h 0 [.slice (some ⟨g0, 0, none⟩) k c0]) := by
        have := LevA.one (hS.alloc (.cells #[.slice (some ⟨g0, 0, none⟩) k c0] 49))
        rwa [HN0.out] at this
      have HO0 : Hid ((wr.alloc (.cells #[.slice (some ⟨g0, 0, none⟩) k c0] 49)).ownsRow w.heap.size 49 1 (.slice (some ⟨wr.heap.size, 0, none⟩) 1 1) (0 + 1) [.slice (some ⟨g0, 0, none⟩) k c0]) := ⟨rfl, .inr ⟨wr.heap.size, 1, _, rfl, HB.out.size, heap_alloc_last wr _, by omega, by unfold maxLen; omega, rfl, rfl⟩⟩
      have HB0 : Hid (Below w.heap.size w (wr.alloc (.cells #[.slice (some ⟨g0, 0, none⟩) k c0] 49))) := HB.out.alloc HB.out.size _
      clear HO hI hS
      go_wp2
      go_loopw [5, 7] (fun s5 s7 wr => ∃ (j : Nat) (xs : List Value), j ≤ h ∧ Hid (wr.ownsRow w.heap.size 49 1 s7 (j + 1) xs) ∧ Hid (LevA wr f h j xs) ∧ Hid (xs[j]? = some s5) ∧ Hid (Below w.heap.size w wr)) (fun s5 _ _ => lenV s5)
      case atStart => exact ⟨0, _, by omega, HO0, HX0, rfl, HB0⟩
      case round =>
        clear HX0 HO0 HB0 q1
        obtain ⟨i, xs, hi, HO, HX, HK, HB⟩ := hrel
        obtain ⟨g, c, cur, rfl, hc, hg, hrg⟩ := HX.out.2 i _ HK.out
        rw [levL_len] at hc hrg HK ⊢
        have hglt : g < wr.heap.size := (Array.getElem?_eq_some_iff.1 hg).1
        have hbz := HB.out.size
        by_cases hkh : i < h
        · obtain ⟨M, HM⟩ : ∃ M, Hid (2 ^ (h - (i + 1)) = M) := ⟨_, hide rfl⟩
          have HN : Hid (2 ^ (h - i) = 2 * M) := by
            show _ = _
            rw [← HM.out, show h - i = (h - (i + 1)) + 1 by omega, Nat.pow_succ]; omega
          have hM1 : M ≤ 1024 := by rw [← HM.out]; exact pow_le10 _ (by omega)
          have hM0 : 0 < M := by rw [← HM.out]; exact Nat.pow_pos (by omega)
          obtain ⟨N, hN1, hN2, HNM⟩ : ∃ N : Nat, N ≤ 2 * M ∧ 2 * M ≤ N ∧ Hid (2 * M = N) := ⟨2 * M, Nat.le_refl _, Nat.le_refl _, hide rfl⟩
          rw [HN.out, HNM.out] at hc hrg HK ⊢
          have HR : Hid (∀ j, j < N → wr.rangeAt g (8 * j) (bsL 8 (T.nd f i j))) := fun j hj => by
            have := hrg j hj
            rwa [levL_get f i _ j (by omega)] at this
          clear hrg hg
          have q0 : decide ((1 : Int) < (N : Int)) = true := by simp; omega
          go_wp2
          generalize wr = wo at HO HX HB hglt hbz HR ⊢
          have HO1 : Hid (wo.ownsRow wo.heap.size 22 8 (.slice none 0 0) (levL f (i + 1) 0).length (nfl (levL f (i + 1) 0))) := World.ownsRow_nil _ _ _ _
          have HB1 := hide (Below.refl wo.heap.size wo)
          go_loopw [8, 9] (fun s8 s9 wz => ∃ j L : Nat, j ≤ M ∧ L ≤ 2 * j ∧ 2 * j ≤ L ∧ s9 = .int .i64 (L : Int) ∧ Hid (wz.ownsRow wo.heap.size 22 8 s8 (levL f (i + 1) j).length (nfl (levL f (i + 1) j))) ∧ Hid (Below wo.heap.size wo wz)) (fun _ s9 _ => N - (intOf s9).toNat)
          case atStart => exact ⟨0, 0, by omega, by omega, by omega, rfl, HO1, HB1⟩
          case round =>
            clear HO1 HB1
            obtain ⟨j, L, hj, hL1, hL2, rfl, HO2, HB2⟩ := hrel
            have hzz := HB2.out.size
            by_cases hjM : j < M
            · obtain ⟨R, hR1, hR2, HRL⟩ : ∃ R : Nat, R ≤ L + 1 ∧ L + 1 ≤ R ∧ Hid (L + 1 = R) := ⟨L + 1, Nat.le_refl _, Nat.le_refl _, hide rfl⟩
              have q1 : decide ((L : Int) < (N : Int)) = true := by simp; omega
              have q2 : IntKind.i64.wrap ((L : Int) + 1) = (R : Int) := by rw [IntKind.wrap_i64]; omega
              have q5 : (L : Int) < (N : Int) := by omega
              have q6 : (R : Int) < (N : Int) := by omega
              obtain ⟨A, HA⟩ : ∃ A, Hid (T.nd f i L = A) := ⟨_, hide rfl⟩
              obtain ⟨B, HBb⟩ : ∃ B, Hid (T.nd f i R = B) := ⟨_, hide rfl⟩
              obtain ⟨F, HF⟩ : ∃ F, Hid (T.upl (O.lst A) (O.lst B) = F) := ⟨_, hide rfl⟩
              have HSX : Hid (∀ W, Below wo.heap.size wo W → True ∧ W.cell? ⟨g, L * 8, none⟩ = some (.int .u8 (A 0).toNat) ∧ W.cell? ⟨g, L * 8 + 1, none⟩ = some (.int .u8 (A 1).toNat) ∧ W.cell? ⟨g, L * 8 + 2, none⟩ = some (.int .u8 (A 2).toNat) ∧ W.cell? ⟨g, L * 8 + 3, none⟩ = some (.int .u8 (A 3).toNat) ∧ W.cell? ⟨g, L * 8 + 4, none⟩ = some (.int .u8 (A 4).toNat) ∧ W.cell? ⟨g, L * 8 + 5, none⟩ = some (.int .u8 (A 5).toNat) ∧ W.cell? ⟨g, L * 8 + 6, none⟩ = some (.int .u8 (A 6).toNat) ∧ W.cell? ⟨g, L * 8 + 7, none⟩ = some (.int .u8 (A 7).toNat) ∧ W.cell? ⟨g, R * 8, none⟩ = some (.int .u8 (B 0).toNat) ∧ W.cell? ⟨g, R * 8 + 1, none⟩ = some (.int .u8 (B 1).toNat) ∧ W.cell? ⟨g, R * 8 + 2, none⟩ = some (.int .u8 (B 2).toNat) ∧ W.cell? ⟨g, R * 8 + 3, none⟩ = some (.int .u8 (B 3).toNat) ∧ W.cell? ⟨g, R * 8 + 4, none⟩ = some (.int .u8 (B 4).toNat) ∧ W.cell? ⟨g, R * 8 + 5, none⟩ = some (.int .u8 (B 5).toNat) ∧ W.cell? ⟨g, R * 8 + 6, none⟩ = some (.int .u8 (B 6).toNat) ∧ W.cell? ⟨g, R * 8 + 7, none⟩ = some (.int .u8 (B 7).toNat)) := fun W hb => by
                have hA := HR.out L (by omega)
                have hB := HR.out R (by omega)
                rw [HA.out, Nat.mul_comm] at hA
                rw [HBb.out, Nat.mul_comm] at hB
                obtain ⟨a0, a1, a2, a3, a4, a5, a6, a7⟩ := cells_of (rangeAt_block hA (hb.block g hglt))
                obtain ⟨b0, b1, b2, b3, b4, b5, b6, b7⟩ := cells_of (rangeAt_block hB (hb.block g hglt))
                exact ⟨trivial, a0, a1, a2, a3, a4, a5, a6, a7, b0, b1, b2, b3, b4, b5, b6, b7⟩
              go_wp2
              go_region_held3 (fun w' => True ∧ w'.cell? ⟨g, L * 8, none⟩ = some (.int .u8 (A 0).toNat) ∧ w'.cell? ⟨g, L * 8 + 1, none⟩ = some (.int .u8 (A 1).toNat) ∧ w'.cell? ⟨g, L * 8 + 2, none⟩ = some (.int .u8 (A 2).toNat) ∧ w'.cell? ⟨g, L * 8 + 3, none⟩ = some (.int .u8 (A 3).toNat) ∧ w'.cell? ⟨g, L * 8 + 4, none⟩ = some (.int .u8 (A 4).toNat) ∧ w'.cell? ⟨g, L * 8 + 5, none⟩ = some (.int .u8 (A 5).toNat) ∧ w'.cell? ⟨g, L * 8 + 6, none⟩ = some (.int .u8 (A 6).toNat) ∧ w'.cell? ⟨g, L * 8 + 7, none⟩ = some (.int .u8 (A 7).toNat) ∧ w'.cell? ⟨g, R * 8, none⟩ = some (.int .u8 (B 0).toNat) ∧ w'.cell? ⟨g, R * 8 + 1, none⟩ = some (.int .u8 (B 1).toNat) ∧ w'.cell? ⟨g, R * 8 + 2, none⟩ = some (.int .u8 (B 2).toNat) ∧ w'.cell? ⟨g, R * 8 + 3, none⟩ = some (.int .u8 (B 3).toNat) ∧ w'.cell? ⟨g, R * 8 + 4, none⟩ = some (.int .u8 (B 4).toNat) ∧ w'.cell? ⟨g, R * 8 + 5, none⟩ = some (.int .u8 (B 5).toNat) ∧ w'.cell? ⟨g, R * 8 + 6, none⟩ = some (.int .u8 (B 6).toNat) ∧ w'.cell? ⟨g, R * 8 + 7, none⟩ = some (.int .u8 (B 7).toNat))
                (first | exact HSX.out _ HB2.out | exact HSX.out _ HB2.out.drew | exact HSX.out _ HB3.out | exact HSX.out _ (HB3.out.alloc hzz3 _) | exact HSX.out _ HB4.out | fail)
                (first
                  | ((go_at_call 32; refine (up_lit A B F _ HF).mono ?_; rintro e w2 ⟨rfl, hB2⟩; have hsz8 := rowB_size 8 F; have hfo := fold8 F; have HO3 := hide (owns_below (show World.ownsRow wr.drew _ _ _ _ _ _ from HO2.out) hB2); have HB3 := hide (HB2.out.drew.trans (hB2.mono hzz)); have hzz3 := HB3.out.size; clear hB2))
                  | ((refine step_append1 rfl (.tmp 34) (.tmp 45) 49 22 rfl (.agg z8) 8 8 Tryd.underlying49 infoA rfl (by omega) wo.heap.size _ (levL f (i + 1) j).length (nfl (levL f (i + 1) j)) (by rfl) (by exact World.ownsRow.alloc HO3.out _) w2.heap.size 22 (bsL 8 F) (by rfl) (by exact RowAt.new w2 22 (rowB 8 F)) (bsL_len _ _) (bsL_one8 _) (by rw [levL_len]; omega) (by omega) (by simp; omega) ?_; intro v4 w4 ho4 hG4; have HB4 := hide (HB3.out.trans (owns_grown (World.ownsRow.alloc HO3.out _) hG4 ((Below.refl _ _).alloc hzz3 _) (by simp; omega))); have HO4 := hide ho4; clear ho4 hG4)))
              all_goals go_wp2
              refine ⟨⟨j + 1, L + 2, by omega, by omega, by omega, by go_num, ?_, HB4⟩, by simp [intOf]; omega⟩
              have hFn : F = T.nd f (i + 1) j := by rw [← HF.out, ← HA.out, ← HBb.out, show L = 2 * j by omega, show R = 2 * j + 1 by omega]; rfl
              have h4 := HO4.out
              rw [levL_len, hFn] at h4
              exact own_next h4
            · obtain rfl : j = M := by omega
              have q1 : decide ((L : Int) < (N : Int)) = false := by simp; omega
              have hS := SlN.own HO2.out (by rw [levL_len]; exact hM0)
              obtain ⟨g', c', cur', rfl, hc', hg', hr'⟩ := id hS
              rw [levL_len] at hc' hS ⊢
              have HS := hide hS
              have HX2 := hide (HX.out.below HB2.out)
              have HO5 := hide (owns_below HO.out HB2.out)
              have HB5 := hide (HB.out.trans (HB2.out.mono hbz))
              have hbz5 := HB5.out.size
              have hxl := HX.out.1
              have HXL := hide hxl
              clear hg' hr' hS HO2 hxl
              go_wp2_with (at_builtin; refine wpList_append1 rfl (.tmp 47) (.tmp 49) 47 49 rfl (.slice none 0 0) 1 24 Tryd.underlying47 infoAs rfl (by omega) w.heap.size _ (i + 1) xs rfl (by exact World.ownsRow.alloc HO5.out _) wr.heap.size 49 [.slice (some ⟨g', 0, none⟩) j c'] rfl (by exact RowAt.new wr 49 _) rfl (by simp [Value.oneCell']) (by omega) (by omega) (by simp; omega) ?_; intro v6 w6 ho6 hG6; have HB6 := hide (HB5.out.trans (owns_grown (World.ownsRow.alloc HO5.out _) hG6 ((Below.refl _ _).alloc hbz5 _) (by simp; omega))); have HX6 := hide (LevA.grown (LevA.below HX2.out ((Below.refl _ _).alloc (Nat.le_refl _) _)) (World.ownsRow.alloc HO5.out _) hG6); have HS6 := hide (SlN.grown (SlN.alloc HS.out _) (World.ownsRow.alloc HO5.out _) (by decide) hG6); have HO6 := hide ho6; clear ho6 hG6)
              refine ⟨⟨i + 1, _, by omega, HO6, ?_, ?_, HB6⟩, by simp [lenV]; omega⟩
              · exact LevA.step HX6.out (by rw [HM.out]; exact HS6.out)
              · show _ = _
                rw [List.getElem?_append_right (by rw [HXL.out]; omega), HXL.out]; simp
        · obtain rfl : i = h := by omega
          rw [show 2 ^ (i - i) = 1 by simp] at hc hrg HK ⊢
          clear hrg hg
          go_wp2
          go_ret
          exact ⟨_, _, rfl, HO.out, HX.out, HB.out⟩
end Go.Proofs.YtpiehjfoojipiaaDoor
