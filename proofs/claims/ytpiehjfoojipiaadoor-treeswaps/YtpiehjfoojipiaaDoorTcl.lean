/- tree.climbed: the way up. -/
import Derived.Test.YtpiehjfoojipiaaDoorTrl
namespace Go.Proofs.YtpiehjfoojipiaaDoor
open Go.RowKit
/- what a call keeps: the answer's place, the node on the way -/
structure CInv (w wr : World) (X : Nat → BitVec 8) : Prop where
  below : Below w.heap.size w wr
  res : ∃ c, RowAt wr (w.heap.size + 1) 58 c ∧ c.size = 8
  top : RowAt wr (w.heap.size + 2) 58 (rowB 8 X)
set_option maxRecDepth 5000 in
theorem CInv.called {w wr w' : World} {X : Nat → BitVec 8} (h : CInv w wr X) (hb : Below wr.heap.size wr w') : CInv w w' X := by
  obtain ⟨c, hr, hs⟩ := h.res
  exact ⟨h.below.trans (hb.mono h.below.size), ⟨c, hr.below hb hr.lt, hs⟩, h.top.below hb h.top.lt⟩
set_option maxRecDepth 5000 in
theorem CInv.stored {w wr : World} {X : Nat → BitVec 8} (h : CInv w wr X) (Y : Nat → BitVec 8) : CInv w (wr.setRow (w.heap.size + 2) (rowB 8 Y)) Y := by
  obtain ⟨c, hr, hs⟩ := h.res
  exact ⟨below_setRow h.below (by omega) _, ⟨c, setRow_other hr _ (by omega), hs⟩, setRow_same h.top _⟩
set_option maxRecDepth 5000 in
theorem CInv.drew {w wr : World} {X : Nat → BitVec 8} (h : CInv w wr X) : CInv w wr.drew X := ⟨h.below.drew, h.res, h.top⟩
set_option maxRecDepth 5000 in
theorem SlL_nil (w : World) (a : Option Addr) {r : List (BitVec 8)} (h : r.length ≤ 0) : Hid (SlL w a r) := fun hr => by omega
set_option maxRecDepth 5000 in
theorem slice_eq {a : Option Addr} {l l' d d' : Nat} {v : Value} (h : v = .slice a l d) (h1 : l = l') (h2 : d = d') : v = .slice a l' d' := by subst h1 h2; exact h
set_option maxRecDepth 5000 in
theorem SlL.rest {w : World} {b o : Nat} {s : List (BitVec 8)} (h : SlL w (some ⟨b, o, none⟩) s) (p : Nat) (hp : p ≤ s.length) : SlL w (some ⟨b, o + p, none⟩) (s.drop p) := by
  have := h.part p (s.length - p) (by omega)
  rwa [List.take_of_length_le (by simp)] at this
set_option maxRecDepth 3000 in
set_option maxHeartbeats 1000000 in
theorem climbed_any (x : Nat → BitVec 8) (h p : Nat) (s : List (BitVec 8)) (ao : Option Addr) (n c : Nat) (w : World) (hp : p < 4294967296) (hl : Hid (s.length = n)) (hn1 : n ≤ 8 * h) (hn2 : 8 * h ≤ n) (hs : SlL w ao s) (hc : n ≤ c) (hT : Tab w) :
    Calls Tryd.prog 28 #[.agg (rowB 8 x), .int .u32 (p : Int), .slice ao n c] w fun e w' => e = .returned (.agg (rowB 8 (T.clb h x p s))) ∧ Below w.heap.size w w' := by
  have hT0 := hT.1
  have HT := hide hT
  have HS := hide hs
  obtain ⟨R, HR⟩ : ∃ R, Hid (T.clb h x p s = R) := ⟨_, hide rfl⟩
  rw [HR.out]
  have hRx := RowAt.new w 58 (rowB 8 x)
  have hc0 : CInv w (((w.alloc (.cells (rowB 8 x) 58)).alloc (.cells z8 58)).alloc (.cells z8 58)) (fun _ => 0) := by
    refine ⟨(((Below.refl _ _).alloc (Nat.le_refl _) _).alloc (by simp) _).alloc (by simp; omega) _, ⟨z8, ?_, rfl⟩, ?_⟩
    · have := (RowAt.new (w.alloc (.cells (rowB 8 x) 58)) 58 z8).alloc (.cells z8 58)
      simpa using this
    · have := RowAt.new ((w.alloc (.cells (rowB 8 x) 58)).alloc (.cells z8 58)) 58 z8
      rw [← z8_row]
      simpa using this
  have HC1 := hide (hc0.stored x)
  have hRy := hRx.alloc (.cells z8 58)
  have hzz : ((w.alloc (.cells (rowB 8 x) 58)).alloc (.cells z8 58)).heap.size = w.heap.size + 2 := by simp
  have hRz := RowAt.new ((w.alloc (.cells (rowB 8 x) 58)).alloc (.cells z8 58)) 58 z8
  rw [hzz] at hRz
  clear hT hs
  go_enter Tryd.func28, Tryd.ntmps28
  go_wp2
  go_step3
  go_wp2_with (first
    | (refine wpList_load_rowAt rfl 58 (.tmp 3) rfl w.heap.size rfl 58 _ _ (by exact hRy) Tryd.underlying58 rfl (by rw [rowB_size]; exact info58) ?_)
    | (refine wpList_store_rowAt rfl 58 (.tmp 7) (.tmp 8) rfl (w.heap.size + 2) (rowB 8 x) rfl rfl 58 z8 (by exact hRz) (by rw [rowB_size]; exact info58) (by rw [rowB_size]; rfl) (rowB_one _ _) ?_))
  go_step3
  go_wp2
  clear hc0 hRx hRy hRz hzz
  simp only [Act.put]
  go_loopw [1, 2] (fun s1 s2 wz => ∃ (k q : Nat) (a : Option Addr) (l d : Nat) (X : Nat → BitVec 8) (r : List (BitVec 8)), k ≤ h ∧ l ≤ 8 * k ∧ 8 * k ≤ l ∧ s1 = .int .u32 (q : Int) ∧ s2 = .slice a l d ∧ q < 4294967296 ∧ l ≤ d ∧ Hid (T.clb k X q r = R) ∧ Hid (r.length = l) ∧ Hid (SlL w a r) ∧ Hid (CInv w wz X)) (fun _ s2 _ => lenV s2)
  case atStart => exact ⟨h, p, ao, n, c, x, s, Nat.le_refl _, by omega, by omega, rfl, rfl, hp, hc, HR, hl, HS, HC1⟩
  case round =>
    clear HC1
    obtain ⟨k, q, a, l, d, X, r, hk, hl1, hl2, rfl, rfl, hq, hld, HCl, HLl, HSl, HI⟩ := hrel
    cases k with
    | zero =>
      obtain rfl : l = 0 := by omega
      have hRt := HI.out.top
      obtain ⟨cr, hRr, hsr⟩ := HI.out.res
      have hXR : X = R := HCl.out
      rw [hXR] at hRt
      have HB := hide HI.out.below
      go_wp2_with (first
        | (refine wpList_load_rowAt rfl 58 (.tmp 7) rfl (w.heap.size + 2) rfl 58 _ _ (by exact hRt) Tryd.underlying58 rfl (by rw [rowB_size]; exact info58) ?_)
        | (refine wpList_store_rowAt rfl 58 (.tmp 6) (.tmp 29) rfl (w.heap.size + 1) (rowB 8 R) rfl rfl 58 cr (by exact hRr) (by rw [rowB_size]; exact info58) (by rw [rowB_size]; exact hsr) (rowB_one _ _) ?_))
      rw [Exit.noGoto_ret]
      exact bodyPost_ret (v := .agg (rowB 8 R)) (results_rowAt Tryd.results28 _ _ (w.heap.size + 1) 58 _ _ rfl (setRow_same hRr _) Tryd.underlying58 rfl (by rw [rowB_size]; exact info58)) rfl ⟨rfl, below_setRow HB.out (by omega) _⟩
    | succ k =>
      have q1 : ((l : Int) == 0) = false := by simp; omega
      obtain ⟨pe, HPE⟩ : ∃ pe, Hid (q % 2 = pe) := ⟨_, hide rfl⟩
      obtain ⟨p2, HP2⟩ : ∃ p2, Hid (q / 2 = p2) := ⟨_, hide rfl⟩
      have hp2 : p2 < 4294967296 := by have := HP2.out; omega
      have hpe : pe < 2 := by have := HPE.out; omega
      have hmo : Int.tmod (q : Int) 2 = (pe : Int) := by have := HPE.out; rw [Int.tmod_eq_emod_of_nonneg (by omega)]; omega
      have hqu : Int.tdiv (q : Int) 2 = (p2 : Int) := by have := HP2.out; rw [Int.tdiv_eq_ediv_of_nonneg (by omega)]; omega
      have hll := HLl.out
      have HTk : Hid ((r.take 8).length = 8) := by show _ = _; rw [List.length_take]; omega
      obtain ⟨N8, n81, n82⟩ : ∃ N8 : Nat, N8 ≤ l - 8 ∧ l - 8 ≤ N8 := ⟨l - 8, Nat.le_refl _, Nat.le_refl _⟩
      have HLr : Hid ((r.drop 8).length = N8) := by show _ = _; rw [List.length_drop]; omega
      obtain ⟨b, o, rfl, hb⟩ := HSl.out.at (by omega)
      have HR8 : Hid (SlL wr (some ⟨b, o, none⟩) (r.take 8)) := by
        have := (HSl.out.part 0 8 (by omega)).below HI.out.below (Nat.le_refl _)
        show SlL _ _ _
        simpa using this
      have HSr : Hid (SlL w (some ⟨b, o + 8, none⟩) (r.drop 8)) := HSl.out.rest 8 (by omega)
      have HTop := hide HI.out.top.sl8
      have HT2 := hide (HT.out.below HI.out.below hT0)
      have i1 : (8 : Int) ≤ (l : Int) := by omega
      have i2 : (8 : Int) ≤ (d : Int) := by omega
      clear hll
      by_cases hpar : pe = 0
      · by_cases hd8 : d = 8
        · subst hd8
          have q2 : ((pe : Int) == 0) = true := by simp; omega
          obtain ⟨F, HF⟩ : ∃ F, Hid (T.upl (O.lst X) (r.take 8) = F) := ⟨_, hide rfl⟩
          have HC2 : Hid (T.clb k F p2 (r.drop 8) = R) := by
            show _ = _
            rw [← HCl.out, T.clb, if_pos (by have := HPE.out; omega), HF.out, HP2.out]
          go_wp2
          go_region_held3 (fun _ => True) (trivial) ((go_at_call 37; refine (above_F F (O.lst X) (r.take 8) _ _ 8 8 8 _ _ HF (O.lst_len _) HTk (by exact HTop.out.drew) (by exact HR8.out.drew) (by simp) (by simp) (by omega) (by omega) (by omega) (by omega) (by exact HT2.out)).mono ?_; rintro e w2 ⟨rfl, hB2⟩; have hI2 := HI.out.drew.called hB2; have hst := run_store8 hI2.top (rowB_size 8 X) F; have HI3 := hide (hI2.stored F); clear hB2 hI2))
          all_goals go_wp2
          exact ⟨⟨k, p2, _, N8, 0, F, r.drop 8, by omega, by omega, by omega, by first | rfl | go_num, by first | rfl | exact slice_eq rfl (by omega) (by omega), by omega, by omega, HC2, HLr, by exact SlL_nil _ _ (by rw [HLr.out]; omega), HI3⟩, by simp [lenV]; omega⟩
        · have hd8' : ¬ (d = 8) := hd8
          have q2 : ((pe : Int) == 0) = true := by simp; omega
          obtain ⟨F, HF⟩ : ∃ F, Hid (T.upl (O.lst X) (r.take 8) = F) := ⟨_, hide rfl⟩
          have HC2 : Hid (T.clb k F p2 (r.drop 8) = R) := by
            show _ = _
            rw [← HCl.out, T.clb, if_pos (by have := HPE.out; omega), HF.out, HP2.out]
          go_wp2
          go_region_held3 (fun _ => True) (trivial) ((go_at_call 37; refine (above_F F (O.lst X) (r.take 8) _ _ 8 8 8 _ _ HF (O.lst_len _) HTk (by exact HTop.out.drew) (by exact HR8.out.drew) (by simp) (by simp) (by omega) (by omega) (by omega) (by omega) (by exact HT2.out)).mono ?_; rintro e w2 ⟨rfl, hB2⟩; have hI2 := HI.out.drew.called hB2; have hst := run_store8 hI2.top (rowB_size 8 X) F; have HI3 := hide (hI2.stored F); clear hB2 hI2))
          all_goals go_wp2
          exact ⟨⟨k, p2, _, N8, d - 8, F, r.drop 8, by omega, by omega, by omega, by first | rfl | go_num, by first | rfl | exact slice_eq rfl (by omega) (by omega), by omega, by omega, HC2, HLr, HSr, HI3⟩, by simp [lenV]; omega⟩
      · by_cases hd8 : d = 8
        · subst hd8
          have q2 : ((pe : Int) == 0) = false := by simp; omega
          obtain ⟨F, HF⟩ : ∃ F, Hid (T.upl (r.take 8) (O.lst X) = F) := ⟨_, hide rfl⟩
          have HC2 : Hid (T.clb k F p2 (r.drop 8) = R) := by
            show _ = _
            rw [← HCl.out, T.clb, if_neg (by have := HPE.out; omega), HF.out, HP2.out]
          go_wp2
          go_region_held3 (fun _ => True) (trivial) ((go_at_call 37; refine (above_F F (r.take 8) (O.lst X) _ _ 8 _ 8 8 _ HF HTk (O.lst_len _) (by exact HR8.out.drew) (by exact HTop.out.drew) (by simp) (by simp) (by omega) (by omega) (by omega) (by omega) (by exact HT2.out)).mono ?_; rintro e w2 ⟨rfl, hB2⟩; have hI2 := HI.out.drew.called hB2; have hst := run_store8 hI2.top (rowB_size 8 X) F; have HI3 := hide (hI2.stored F); clear hB2 hI2))
          all_goals go_wp2
          exact ⟨⟨k, p2, _, N8, 0, F, r.drop 8, by omega, by omega, by omega, by first | rfl | go_num, by first | rfl | exact slice_eq rfl (by omega) (by omega), by omega, by omega, HC2, HLr, by exact SlL_nil _ _ (by rw [HLr.out]; omega), HI3⟩, by simp [lenV]; omega⟩
        · have hd8' : ¬ (d = 8) := hd8
          have q2 : ((pe : Int) == 0) = false := by simp; omega
          obtain ⟨F, HF⟩ : ∃ F, Hid (T.upl (r.take 8) (O.lst X) = F) := ⟨_, hide rfl⟩
          have HC2 : Hid (T.clb k F p2 (r.drop 8) = R) := by
            show _ = _
            rw [← HCl.out, T.clb, if_neg (by have := HPE.out; omega), HF.out, HP2.out]
          go_wp2
          go_region_held3 (fun _ => True) (trivial) ((go_at_call 37; refine (above_F F (r.take 8) (O.lst X) _ _ 8 _ 8 8 _ HF HTk (O.lst_len _) (by exact HR8.out.drew) (by exact HTop.out.drew) (by simp) (by simp) (by omega) (by omega) (by omega) (by omega) (by exact HT2.out)).mono ?_; rintro e w2 ⟨rfl, hB2⟩; have hI2 := HI.out.drew.called hB2; have hst := run_store8 hI2.top (rowB_size 8 X) F; have HI3 := hide (hI2.stored F); clear hB2 hI2))
          all_goals go_wp2
          exact ⟨⟨k, p2, _, N8, d - 8, F, r.drop 8, by omega, by omega, by omega, by first | rfl | go_num, by first | rfl | exact slice_eq rfl (by omega) (by omega), by omega, by omega, HC2, HLr, HSr, HI3⟩, by simp [lenV]; omega⟩
end Go.Proofs.YtpiehjfoojipiaaDoor
