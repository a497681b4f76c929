/- tree.grown: all levels over the leaves. -/
import Derived.Test.YtpiehjfoojipiaaDoorLvs
import Derived.Test.YtpiehjfoojipiaaDoorROpn
import Derived.WalkMore
import Derived.Deep.RegionHeld3
namespace Go.Proofs.YtpiehjfoojipiaaDoor
open Go.RowKit
/- the levels of a tree of height h, the first k + 1 of them, as the values xs of slices -/
def LevX (w : World) (f : Nat → BitVec 8) (h k : Nat) (xs : List Value) : Prop := xs.length = k + 1 ∧ ∀ j v, xs[j]? = some v → SlN 58 w v (levL f j (2 ^ (h - j)))
set_option maxRecDepth 5000 in
theorem LevX.below {w w' : World} {f : Nat → BitVec 8} {h k : Nat} {xs : List Value} (H : LevX w f h k xs) (hb : Below w.heap.size w w') : LevX w' f h k xs := ⟨H.1, fun j v hj => (H.2 j v hj).below hb (Nat.le_refl _)⟩
set_option maxRecDepth 5000 in
theorem LevX.grown {w w' : World} {f : Nat → BitVec 8} {h k : Nat} {xs : List Value} (H : LevX w f h k xs) {base n : Nat} {u : Value} {ys : List Value} (ho : w.ownsRow base 54 1 u n ys) (hg : w.grownBy w' u.ownBlock) : LevX w' f h k xs := ⟨H.1, fun j v hj => (H.2 j v hj).grown ho (by decide) hg⟩
set_option maxRecDepth 5000 in
theorem LevX.step {w : World} {f : Nat → BitVec 8} {h k : Nat} {xs : List Value} (H : LevX w f h k xs) {v : Value} (hv : SlN 58 w v (levL f (k + 1) (2 ^ (h - (k + 1))))) : LevX w f h (k + 1) (xs ++ [v]) := by
  refine ⟨by rw [List.length_append, H.1]; rfl, fun j u hj => ?_⟩
  by_cases e : j < xs.length
  · rw [List.getElem?_append_left e] at hj; exact H.2 j u hj
  · have hl := (List.getElem?_eq_some_iff.1 hj).1
    rw [List.length_append] at hl
    simp only [List.length_cons, List.length_nil, Nat.zero_add] at hl
    have h1 := H.1
    obtain rfl : j = k + 1 := by omega
    rw [List.getElem?_append_right (by omega), H.1] at hj
    simp at hj
    subst hj; exact hv
set_option maxRecDepth 5000 in
theorem LevX.one {w : World} {f : Nat → BitVec 8} {h : Nat} {v : Value} (hv : SlN 58 w v (levL f 0 (2 ^ h))) : LevX w f h 0 [v] := ⟨rfl, fun j u hj => by
  have hl := (List.getElem?_eq_some_iff.1 hj).1
  simp only [List.length_cons, List.length_nil, Nat.zero_add] at hl
  obtain rfl : j = 0 := by omega
  simp at hj; subst hj; exact hv⟩
set_option maxRecDepth 5000 in
theorem slN_sl {w : World} {g : Nat} {F : Nat → BitVec 8} {o : Nat} (h : w.rangeAt g o (bsL 8 F)) (hg : g < w.heap.size) : SlL w (some ⟨g, o, none⟩) (O.lst F) := fun _ => by
  refine ⟨g, o, rfl, hg, fun j hj => ?_⟩
  rw [O.lst_len] at hj
  have := h j (.int .u8 (F j).toNat) (by simp [bsL, fb, hj])
  rw [this]; simp [O.lst, hj]
set_option maxRecDepth 5000 in
theorem fold8 (F : Nat → BitVec 8) : Array.foldl (fun (cs : Array Value) (x : Value × Nat) => cs.setIfInBounds x.snd x.fst) #[.int .u8 0, .int .u8 0, .int .u8 0, .int .u8 0, .int .u8 0, .int .u8 0, .int .u8 0, .int .u8 0] (rowB 8 F).zipIdx 0 8 = rowB 8 F := by kernel_rfl
def lenV : Value → Nat
  | .slice _ n _ => n
  | _ => 0
set_option maxRecDepth 3000 in
set_option maxHeartbeats 2000000 in
theorem grown_any (f : Nat → BitVec 8) (h : Nat) (v : Value) (w : World) (hh : h ≤ 10) (hv : SlN 58 w v (levL f 0 (2 ^ h))) (hT : Tab w) :
    Calls Tryd.prog 23 #[v] w fun e w' => ∃ u xs, e = .returned u ∧ w'.ownsRow w.heap.size 54 1 u (h + 1) xs ∧ LevX w' f h h xs ∧ Below w.heap.size w w' := by
  obtain ⟨i0, hi, hz0, hz1, hz2⟩ := infoN
  have hT0 := hT.1
  have HX0 : Hid (LevX (w.alloc (.cells #[v] 54)) f h 0 [v]) := LevX.one (hv.alloc _)
  have HO0 : Hid ((w.alloc (.cells #[v] 54)).ownsRow w.heap.size 54 1 (.slice (some ⟨w.heap.size, 0, none⟩) 1 1) (0 + 1) [v]) := ⟨rfl, .inr ⟨w.heap.size, 1, #[v], rfl, Nat.le_refl _, heap_alloc_last w _, by omega, by unfold maxLen; omega, rfl, rfl⟩⟩
  have HB0 : Hid (Below w.heap.size w (w.alloc (.cells #[v] 54))) := (Below.refl _ _).alloc (Nat.le_refl _) _
  obtain ⟨g0, c0, cur0, rfl, _, _, _⟩ := hv
  rw [levL_len] at HX0 HO0 HB0 ⊢
  go_enter Tryd.func23, Tryd.ntmps23
  go_wp2
  go_step3
  go_wp2
  go_step3
  go_wp2
  go_loopw [3, 4] (fun s3 s4 wr => ∃ (k : Nat) (xs : List Value), k ≤ h ∧ Hid (wr.ownsRow w.heap.size 54 1 s3 (k + 1) xs) ∧ Hid (LevX wr f h k xs) ∧ Hid (xs[k]? = some s4) ∧ Hid (Below w.heap.size w wr)) (fun _ s4 _ => lenV s4)
  case atStart => exact ⟨0, _, by omega, HO0, HX0, rfl, HB0⟩
  case round =>
    clear HX0 HO0 HB0
    obtain ⟨k, xs, hk, HO, HX, HK, HB⟩ := hrel
    obtain ⟨g, c, cur, rfl, hc, hg, hrg⟩ := HX.out.2 k _ HK.out
    rw [levL_len] at hc hrg HK ⊢
    have hglt : g < wr.heap.size := (Array.getElem?_eq_some_iff.1 hg).1
    have hbz := HB.out.size
    have hTr := hT.below HB.out hT0
    by_cases hkh : k < h
    · obtain ⟨M, HM⟩ : ∃ M, Hid (2 ^ (h - (k + 1)) = M) := ⟨_, hide rfl⟩
      have HN : Hid (2 ^ (h - k) = 2 * M) := by
        show _ = _
        rw [← HM.out, show h - k = (h - (k + 1)) + 1 by omega, Nat.pow_succ]; omega
      have hM1 : M ≤ 1024 := by rw [← HM.out]; exact pow_le10 _ (by omega)
      have hM0 : 0 < M := by rw [← HM.out]; exact Nat.pow_pos (by omega)
      obtain ⟨N, hN1, hN2, HNM⟩ : ∃ N : Nat, N ≤ 2 * M ∧ 2 * M ≤ N ∧ Hid (2 * M = N) := ⟨2 * M, Nat.le_refl _, Nat.le_refl _, hide rfl⟩
      rw [HN.out, HNM.out] at hc hrg HK ⊢
      have HR : Hid (∀ i, i < N → wr.rangeAt g (8 * i) (bsL 8 (T.nd f k i))) := fun i hi => by
        have := hrg i hi
        rwa [levL_get f k _ i (by omega)] at this
      clear hrg hg
      have hq : Int.tdiv (N : Int) 2 = (M : Int) := by rw [Int.tdiv_eq_ediv_of_nonneg (by omega)]; omega
      go_wp2_with (at_make; go_must (refine wpList_make_own _ rfl (.const (.int .i64 0)) (.tmp 13) 54 rfl wr.heap.size 58 i0 (.agg z8) 8 Tryd.underlying54 hi hz0 hz1 .i64 .i64 (M : Int) M rfl rfl rfl (by rw [hz2]; omega) (by unfold maxLen; omega) (Nat.le_refl _) ?_); intro w1 hO1 hG1)
      have HO1 : Hid (w1.ownsRow wr.heap.size 58 8 (.slice (some ⟨wr.heap.size, 0, none⟩) 0 M) (levL f (k + 1) 0).length (nfl (levL f (k + 1) 0))) := by simpa [levL, nfl, Hid] using hO1
      have HB1 := hide ((Below.refl wr.heap.size wr).grown hG1 (Nat.le_refl _) (fun k hk => by cases hk))
      clear hO1 hG1 hq
      generalize wr = wo at HO HX HB hglt hbz hTr HR HO1 HB1 ⊢
      go_loopw [5, 6] (fun s5 s6 wz => ∃ j L : Nat, j ≤ M ∧ L ≤ 2 * j ∧ 2 * j ≤ L ∧ s6 = .int .i64 (L : Int) ∧ Hid (wz.ownsRow wo.heap.size 58 8 s5 (levL f (k + 1) j).length (nfl (levL f (k + 1) j))) ∧ Hid (Below wo.heap.size wo wz)) (fun _ s6 _ => N - (intOf s6).toNat)
      case atStart => exact ⟨0, 0, by omega, by omega, by omega, rfl, HO1, HB1⟩
      case round =>
        clear HO1 HB1
        obtain ⟨j, L, hj, hL1, hL2, rfl, HO2, HB2⟩ := hrel
        have hzz := HB2.out.size
        by_cases hjM : j < M
        · obtain ⟨R, hR1, hR2, HRL⟩ : ∃ R : Nat, R ≤ L + 1 ∧ L + 1 ≤ R ∧ Hid (L + 1 = R) := ⟨L + 1, Nat.le_refl _, Nat.le_refl _, hide rfl⟩
          have q1 : decide ((L : Int) < (N : Int)) = true := by simp; omega
          have q2 : IntKind.i64.wrap ((L : Int) + 1) = (R : Int) := by rw [IntKind.wrap_i64]; omega
          have q3 : ((R : Int) == (N : Int)) = false := by simp; omega
          have q5 : (L : Int) < (N : Int) := by omega
          have q6 : (R : Int) < (N : Int) := by omega
          have HLl : Hid (SlL wr (some ⟨g, L * 8, none⟩) (O.lst (T.nd f k L))) := by rw [Nat.mul_comm L 8]; exact (slN_sl (HR.out L (by omega)) hglt).below HB2.out (Nat.le_refl _)
          have HRr : Hid (SlL wr (some ⟨g, R * 8, none⟩) (O.lst (T.nd f k R))) := by rw [Nat.mul_comm R 8]; exact (slN_sl (HR.out R (by omega)) hglt).below HB2.out (Nat.le_refl _)
          obtain ⟨F, HF⟩ : ∃ F, Hid (T.upl (O.lst (T.nd f k L)) (O.lst (T.nd f k R)) = F) := ⟨_, hide rfl⟩
          have HT2 := hide (hTr.below HB2.out (by omega))
          go_wp2
          go_region_held3 (fun _ => True) (trivial) (first
            | ((go_at_call 37; refine (above_F F (O.lst (T.nd f k L)) (O.lst (T.nd f k R)) _ _ 8 8 8 8 _ HF (O.lst_len _) (O.lst_len _) (by exact HLl.out.drew) (by exact HRr.out.drew) (by simp) (by simp) (by omega) (by omega) (by omega) (by omega) (by exact HT2.out)).mono ?_; rintro e w2 ⟨rfl, hB2⟩; have hsz8 := rowB_size 8 F; have hfo := fold8 F; have HO3 := hide (owns_below (show World.ownsRow wr.drew _ _ _ _ _ _ from HO2.out) hB2); have HB3 := hide (HB2.out.drew.trans (hB2.mono hzz)); have hzz3 := HB3.out.size; clear hB2))
            | ((refine step_append1 rfl (.tmp 27) (.tmp 37) 54 58 rfl (.agg z8) 8 8 Tryd.underlying54 infoN rfl (by omega) wo.heap.size _ (levL f (k + 1) j).length (nfl (levL f (k + 1) j)) (by rfl) (by exact World.ownsRow.alloc HO3.out _) w2.heap.size 58 (bsL 8 F) (by rfl) (by exact RowAt.new w2 58 (rowB 8 F)) (bsL_len _ _) (bsL_one8 _) (by rw [levL_len]; omega) (by omega) (by simp; omega) ?_; intro v4 w4 ho4 hG4; have HB4 := hide (HB3.out.trans (owns_grown (World.ownsRow.alloc HO3.out _) hG4 ((Below.refl _ _).alloc hzz3 _) (by simp; omega))); have HO4 := hide ho4; clear ho4 hG4)))
          all_goals go_wp2
          refine ⟨⟨j + 1, L + 2, by omega, by omega, by omega, by go_num, ?_, HB4⟩, by simp [intOf]; omega⟩
          have hFn : F = T.nd f (k + 1) j := by rw [← HF.out, show L = 2 * j by omega, show R = 2 * j + 1 by omega]; rfl
          have h4 := HO4.out
          rw [levL_len, hFn] at h4
          exact own_next h4
        · obtain rfl : j = M := by omega
          have q1 : decide ((L : Int) < (N : Int)) = false := by simp; omega
          have hS := SlN.own HO2.out (by rw [levL_len]; exact hM0)
          obtain ⟨g', c', cur', rfl, hc', hg', hr'⟩ := id hS
          rw [levL_len] at hc' hS ⊢
          have HS := hide hS
          have HX2 := hide (HX.out.below HB2.out)
          have HO5 := hide (owns_below HO.out HB2.out)
          have HB5 := hide (HB.out.trans (HB2.out.mono hbz))
          have hbz5 := HB5.out.size
          have hxl := HX.out.1
          have HXL := hide hxl
          clear hg' hr' hS HO2 hxl
          go_wp2_with (at_builtin; refine wpList_append1 rfl (.tmp 39) (.tmp 41) 52 54 rfl (.slice none 0 0) 1 24 Tryd.underlying52 infoNs rfl (by omega) w.heap.size _ (k + 1) xs rfl (by exact World.ownsRow.alloc HO5.out _) wr.heap.size 54 [.slice (some ⟨g', 0, none⟩) j c'] rfl (by exact RowAt.new wr 54 _) rfl (by simp [Value.oneCell']) (by omega) (by omega) (by simp; omega) ?_; intro v6 w6 ho6 hG6; have HB6 := hide (HB5.out.trans (owns_grown (World.ownsRow.alloc HO5.out _) hG6 ((Below.refl _ _).alloc hbz5 _) (by simp; omega))); have HX6 := hide (LevX.grown (LevX.below HX2.out ((Below.refl _ _).alloc (Nat.le_refl _) _)) (World.ownsRow.alloc HO5.out _) hG6); have HS6 := hide (SlN.grown (SlN.alloc HS.out _) (World.ownsRow.alloc HO5.out _) (by decide) hG6); have HO6 := hide ho6; clear ho6 hG6)
          refine ⟨⟨k + 1, _, by omega, HO6, ?_, ?_, HB6⟩, by simp [lenV]; omega⟩
          · exact LevX.step HX6.out (by rw [HM.out]; exact HS6.out)
          · show _ = _
            rw [List.getElem?_append_right (by rw [HXL.out]; omega), HXL.out]; simp
    · obtain rfl : k = h := by omega
      rw [show 2 ^ (k - k) = 1 by simp] at hc hrg HK ⊢
      clear hrg hg
      go_wp2_with (at_make; go_must (refine wpList_make_own _ rfl (.const (.int .i64 0)) (.tmp 13) 54 rfl wr.heap.size 58 i0 (.agg z8) 8 Tryd.underlying54 hi hz0 hz1 .i64 .i64 0 0 rfl rfl rfl (by rw [hz2]; omega) (by unfold maxLen; omega) (Nat.le_refl _) ?_); intro w1 hO1 hG1)
      have HB1 := hide ((Below.refl wr.heap.size wr).grown hG1 (Nat.le_refl _) (fun k hk => by cases hk))
      have HX1 := hide (HX.out.below HB1.out)
      have HO7 := hide (owns_below HO.out HB1.out)
      have HB7 := hide (HB.out.trans (HB1.out.mono hbz))
      clear hO1 hG1
      go_loopw [6] (fun s6 wz => s6 = .int .i64 0 ∧ wz = w1) (fun _ _ => 0)
      case atStart => exact ⟨rfl, rfl⟩
      case round =>
        obtain ⟨rfl, rfl⟩ := hrel
        go_wp2
        rw [Exit.noGoto_ret]
        go_ret
        exact ⟨_, _, rfl, HO7.out, HX1.out, HB7.out⟩
end Go.Proofs.YtpiehjfoojipiaaDoor
