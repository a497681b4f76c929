/- signetref7.Open. -/
import Derived.Test.YtpiehjfoojipiaaDoorRSgn
import Derived.Deep.RegionHeld3
namespace Go.Proofs.YtpiehjfoojipiaaDoor
open Go.RowKit
set_option maxRecDepth 5000 in
theorem ShInv.allocd {w wr : World} (h : ShInv w wr) (o : Obj) : ShInv w (wr.alloc o) := h.next ((Below.refl _ _).alloc h.lt _)
set_option maxRecDepth 5000 in
theorem ShInv.called {w wr w' : World} (h : ShInv w wr) (hb : Below wr.heap.size wr w') : ShInv w w' := h.next (hb.mono h.lt)
set_option maxRecDepth 5000 in
theorem ShInv.stored {w wr : World} (h : ShInv w wr) (g : Nat) (c : Array Value) (hg : w.heap.size < g) : ShInv w (wr.setRow g c) := h.next (below_setRow (Below.refl _ _) hg _)
set_option maxRecDepth 5000 in
theorem OwnB.setRow {w : World} {base g : Nat} {t : TypeId} {v : Value} {l : List (BitVec 8)} {c : Array Value} (h : OwnB w base v l) (hr : RowAt w g t c) (hne : t ≠ 5) (c' : Array Value) : OwnB (w.setRow g c') base v l := by
  have h1 := own_ne h hr hne
  have h0 : w.ownsRow base 5 1 v l.length (vb l) := h
  refine ⟨h0.1, ?_⟩
  rcases h0.2 with h2 | ⟨g', cap, cur, rfl, h3, hg, h4⟩
  · exact Or.inl h2
  · refine Or.inr ⟨g', cap, cur, rfl, h3, ?_, h4⟩
    have hne' : g' ≠ g := fun e => h1 (by simp [Value.ownBlock, e])
    exact setRow_other hg c' hne'
set_option maxRecDepth 5000 in
theorem OwnB.drew {w : World} {base : Nat} {v : Value} {l : List (BitVec 8)} (h : OwnB w base v l) : OwnB w.drew base v l := h
set_option maxRecDepth 3000 in
set_option maxHeartbeats 1000000 in
theorem ropen_bad (am ao : Option Addr) (nm cm n cap : Nat) (w : World) (hn : n ≠ 512) :
    Calls Tryd.prog 31 #[.slice am nm cm, .slice ao n cap] w fun e w' => e = .returned (.tuple #[.agg (rowB 8 (fun _ => 0)), .bool false]) ∧ Below w.heap.size w w' := by
  have hb : Below w.heap.size w (w.alloc (.cells z8 22)) := (Below.refl _ _).alloc (Nat.le_refl _) _
  have hR := RowAt.new w 22 z8
  have hne : ((n : Int) != 512) = true := by simp; omega
  go_enter Tryd.func31, Tryd.ntmps31
  go_wp2_with (refine wpList_store_rowAt rfl 22 (.tmp 4) (.tmp 14) rfl w.heap.size (rowB 8 (fun _ => 0)) rfl (by first | exact congrArg Value.agg z8_row | rfl) 22 z8 hR (by rw [rowB_size]; exact info28) (by rw [rowB_size]; rfl) (rowB_one _ _) ?_)
  exact bodyPost_ret (v := .tuple #[.agg (rowB 8 (fun _ => 0)), .bool false]) (results_rowAt_tmp Tryd.results31 _ _ w.heap.size 22 _ _ _ rfl rfl (setRow_same hR _) Tryd.underlying22 rfl (by rw [rowB_size]; exact info28)) rfl ⟨rfl, below_setRow hb (Nat.le_refl _) _⟩
set_option maxRecDepth 3000 in
set_option maxHeartbeats 2000000 in
theorem ropen_any (m s : List (BitVec 8)) (am ao : Option Addr) (nm cm cap : Nat) (w : World) (hlm : Hid (m.length = nm)) (hsm : SlL w am m) (hnilm : am = none → cm = 0) (hnm : nm < 1000000000) (hls : Hid (s.length = 512)) (hss : SlL w ao s) (hcs : 512 ≤ cap) :
    Calls Tryd.prog 31 #[.slice am nm cm, .slice ao 512 cap] w fun e w' => e = .returned (.tuple #[.agg (rowB 8 (O.opened (O.dig m) s)), .bool true]) ∧ Below w.heap.size w w' := by
  have hd := O.dig_lt m
  obtain ⟨b, o, rfl, hbl⟩ := hss.at (by rw [hls.out]; omega)
  have HS := hide (hsm.alloc (.cells z8 22))
  have HN := hide hnilm
  have HSS := hide hss
  have hI0 : ShInv w (w.alloc (.cells z8 22)) := ⟨(Below.refl _ _).alloc (Nat.le_refl _) _, _, RowAt.new _ _ _, rfl⟩
  have hlt0 := hI0.lt
  clear hsm hss hnilm
  go_enter Tryd.func31, Tryd.ntmps31
  go_wp2_with fail
  refine (rdigest_any m am nm cm _ hlm (by exact HS.out) HN.out hnm).mono ?_
  rintro e w0 ⟨rfl, hB0⟩
  obtain ⟨d, HD⟩ : ∃ d, Hid (O.dig m = d) := ⟨_, rfl⟩
  rw [HD.out] at hd ⊢
  have hI00 := hI0.next (hB0.mono hlt0)
  clear hB0 hI0 hlt0
  go_wp2
  go_loopw [7, 8] (fun v i wr => ∃ k : Nat, k ≤ 32 ∧ i = .int .i64 (k : Int) ∧ OwnB wr (w.heap.size + 1) v (O.openL d s k) ∧ ShInv w wr) (fun _ i _ => 32 - (intOf i).toNat)
  case atStart => exact ⟨0, by omega, rfl, OwnB.nil _ _, hI00⟩
  case round =>
    clear hI00
    obtain ⟨k, hk, rfl, hO, hI⟩ := hrel
    have hlt1 := hI.lt
    have hlen := O.openL_len d s k (by rw [hls.out]; omega)
    by_cases hlt : k < 32
    · have HLE := hide hlen
      clear hlen
      have HLO := hide (O.own_len s k (by rw [hls.out]; omega))
      have HLT := hide (O.oth_len s k (by rw [hls.out]; omega))
      obtain ⟨P, HP⟩ : ∃ P : Nat, Hid (P = 16 * k) := ⟨_, rfl⟩
      obtain ⟨P8, HP8⟩ : ∃ P8 : Nat, Hid (P8 = 16 * k + 8) := ⟨_, rfl⟩
      obtain ⟨E, HE⟩ : ∃ E : Nat, Hid (E = 16 * k + 16) := ⟨_, rfl⟩
      have hp := HP.out
      have hp8 := HP8.out
      have he := HE.out
      have HOWN : Hid (∀ W, Below w.heap.size w W → SlL W (some ⟨b, o + P, none⟩) (O.own s k)) := fun W hW => by
        rw [hp]; exact (HSS.out.below hW (Nat.le_refl _)).part (16 * k) 8 (by rw [hls.out]; omega)
      have HOTH : Hid (∀ W, Below w.heap.size w W → SlL W (some ⟨b, o + P8, none⟩) (O.oth s k)) := fun W hW => by
        rw [hp8]; exact (HSS.out.below hW (Nat.le_refl _)).part (16 * k + 8) 8 (by rw [hls.out]; omega)
      have hm1 : IntKind.i64.wrap (16 * (k : Int)) = (P : Int) := by rw [IntKind.wrap_i64]; omega
      have hm2 : IntKind.i64.wrap ((P : Int) + 8) = (P8 : Int) := by rw [IntKind.wrap_i64]; omega
      have hm3 : IntKind.i64.wrap ((P : Int) + 16) = (E : Int) := by rw [IntKind.wrap_i64]; omega
      have hq1 : P8 - P = 8 := by omega
      have hq2 : E - P8 = 8 := by omega
      have g1 : (0 : Int) ≤ (P : Int) := by omega
      have g2 : (P : Int) ≤ (P8 : Int) := by omega
      have g3 : (P8 : Int) ≤ (cap : Int) := by omega
      have g4 : (0 : Int) ≤ (P8 : Int) := by omega
      have g5 : (P8 : Int) ≤ (E : Int) := by omega
      have g6 : (E : Int) ≤ (cap : Int) := by omega
      have n1 : P ≤ P8 := by omega
      have n2 : P8 ≤ cap := by omega
      have n3 : P8 ≤ E := by omega
      have n4 : E ≤ cap := by omega
      have hb01 := O.bit_le d k
      obtain ⟨bt, HBe⟩ : ∃ bt, Hid (O.bit d k = bt) := ⟨_, rfl⟩
      have hband := bit_and d k hd
      rw [HBe.out] at hb01 hband
      obtain ⟨c31, hc31⟩ : ∃ c : Nat, c = 31 - k := ⟨_, rfl⟩
      have h0 : IntKind.i64.wrap (31 - (k : Int)) = (c31 : Int) := by rw [IntKind.wrap_i64]; omega
      have hmin : min c31 32 = c31 := by omega
      have HOP := hide (O.openL_succ d s k)
      rw [← hc31] at hband
      have hcc : 16 ≤ cap - P := by omega
      have hne1 : ¬ (cap = P) := by omega
      have hne2 : ¬ (cap = P8) := by omega
      have HO := hide hO
      clear hc31 hp hp8 he hO
      go_wp2
      go_region_held3 (fun w' => ShInv w w') (first | assumption | exact hI | exact ShInv.drew (by assumption) | exact ShInv.allocd (by assumption) _ | exact hI2 | exact ShInv.stored (by assumption) _ _ (by omega))
        ((go_at_call 35; refine (rlock_any (O.own s k) _ 8 _ _ HLO (by exact HOWN.out _ (ShInv.below (by assumption))) (by simp) (by omega) (by omega)).mono ?_; rintro e w2 ⟨rfl, hB2⟩; have hI2 := ShInv.called (by assumption) hB2; have hz2 : w.heap.size < w2.heap.size := hI2.lt; have hstB := run_store8 (RowAt.new w2 22 #[.int .u8 0, .int .u8 0, .int .u8 0, .int .u8 0, .int .u8 0, .int .u8 0, .int .u8 0, .int .u8 0]) rfl (O.lock (O.own s k)); try (have hRA := RowAt.below (RowAt.new wr 22 #[.int .u8 0, .int .u8 0, .int .u8 0, .int .u8 0, .int .u8 0, .int .u8 0, .int .u8 0, .int .u8 0]).drew hB2 (by simp); have hstA := run_store8 hRA rfl (O.lock (O.own s k)))))
      all_goals (first
        | (have ho3 := ((HO.out.alloc (.cells #[.int .u8 0, .int .u8 0, .int .u8 0, .int .u8 0, .int .u8 0, .int .u8 0, .int .u8 0, .int .u8 0] 22)).drew.below hB2).setRow hRA (by decide) (rowB 8 (O.lock (O.own s k))); have hR3 := setRow_same hRA (rowB 8 (O.lock (O.own s k))); have hI3 := ShInv.stored hI2 wr.heap.size (rowB 8 (O.lock (O.own s k))) hlt1; clear hstA hRA)
        | (have ho3 := ((HO.out.drew.below hB2).alloc (.cells #[.int .u8 0, .int .u8 0, .int .u8 0, .int .u8 0, .int .u8 0, .int .u8 0, .int .u8 0, .int .u8 0] 22)).setRow (RowAt.new w2 22 #[.int .u8 0, .int .u8 0, .int .u8 0, .int .u8 0, .int .u8 0, .int .u8 0, .int .u8 0, .int .u8 0]) (by decide) (rowB 8 (O.lock (O.own s k))); have hR3 := setRow_same (RowAt.new w2 22 #[.int .u8 0, .int .u8 0, .int .u8 0, .int .u8 0, .int .u8 0, .int .u8 0, .int .u8 0, .int .u8 0]) (rowB 8 (O.lock (O.own s k))); have hI3 := ShInv.stored (hI2.allocd (.cells #[.int .u8 0, .int .u8 0, .int .u8 0, .int .u8 0, .int .u8 0, .int .u8 0, .int .u8 0, .int .u8 0] 22)) w2.heap.size (rowB 8 (O.lock (O.own s k))) hz2))
      all_goals have hlt3 := hI3.lt
      all_goals have hS3 := HOTH.out _ hI3.below
      all_goals clear hstB hB2
      all_goals rcases (show bt = 0 ∨ bt = 1 by omega) with rfl | rfl
      all_goals (generalize World.setRow _ _ _ = w3 at ho3 hR3 hI3 hlt3 hS3 ⊢)
      all_goals (clear hm1 hm2 hm3 g1 g2 g3 g4 g5 g6 n1 n3 hq1 hq2)
      · go_wp2_with (first
          | (at_builtin; refine wpList_append_B rfl (.tmp 43) (.tmp 44) rfl (w.heap.size + 1) _ _ rfl ho3 _ _ _ (O.lst (O.lock (O.own s k))) rfl (O.lst_len _) hR3.sl8 (by simp) (by rw [HLE.out]; omega) hlt3 ?_; intro v6 w6 ho6 hG6; have hI6 := hI3.next (grown_next ho3 hG6 hlt3); have hlt6 := hI6.lt; have hS6 := HOTH.out _ hI6.below; clear hG6 ho3 hI3 hR3)
          | (at_builtin; refine wpList_append_B rfl (.tmp 45) (.tmp 46) rfl (w.heap.size + 1) _ _ rfl ho6 _ _ _ (O.oth s k) rfl HLT.out hS6 (by simp) (by simp [O.lst_len, HLE.out]; omega) hlt6 ?_; intro v7 w7 ho7 hG7; have hI7 := hI6.next (grown_next ho6 hG7 hlt6); clear hG7 ho6 hI6 hS6))
        refine ⟨⟨k + 1, by omega, by go_num, ?_, hI7⟩, by simp [intOf]; omega⟩
        rw [HOP.out]
        unfold O.opn
        rw [if_pos HBe.out, ← List.append_assoc]; exact ho7
      · have HO3 := hide ho3
        have HI3 := hide hI3
        have HR3 := hide hR3
        have HS3 := hide hS3
        clear ho3 hI3 hR3 hS3
        go_wp2
        go_region_law (first
          | ((refine step_append_B rfl (.tmp 48) (.tmp 49) rfl (w.heap.size + 1) _ (O.openL d s k) (by rfl) (by exact HO3.out) ⟨b, o + P8, none⟩ 8 (cap - P8) (O.oth s k) (by rfl) HLT.out (by exact HS3.out) (by rw [HLE.out]; omega) (by exact hlt3) ?_; intro v8 w8 ho8 hG8; have HR8 := hide (row_grown (w := w3.drew) HO3.out HR3.out (by decide) hG8); have HI8 := hide (HI3.out.drew.next (grown_next (w := w3.drew) HO3.out hG8 hlt3)); have HO8 := hide ho8; have hlt8 := HI8.out.lt; clear hG8 ho8))
          | ((refine step_append_B rfl (.tmp 50) (.tmp 51) rfl (w.heap.size + 1) _ _ (by rfl) (by exact HO8.out) ⟨w2.heap.size, 0, none⟩ 8 8 (O.lst (O.lock (O.own s k))) (by rfl) (O.lst_len _) (by exact HR8.out.sl8) (by simp [HLT.out, HLE.out]; omega) (by exact hlt8) ?_; intro v9 w9 ho9 hG9; have HI9 := hide (HI8.out.next (grown_next HO8.out hG9 hlt8)); have HO9 := hide ho9; clear hG9 ho9)))
        go_wp2
        refine ⟨⟨k + 1, by omega, by go_num, ?_, HI9.out⟩, by simp [intOf]; omega⟩
        rw [HOP.out]
        unfold O.opn
        rw [if_neg (by rw [HBe.out]; omega), ← List.append_assoc]; exact HO9.out
      · go_wp2_with (first
          | (at_builtin; refine wpList_append_B rfl (.tmp 43) (.tmp 44) rfl (w.heap.size + 1) _ _ rfl ho3 _ _ _ (O.lst (O.lock (O.own s k))) rfl (O.lst_len _) hR3.sl8 (by simp) (by rw [HLE.out]; omega) hlt3 ?_; intro v6 w6 ho6 hG6; have hI6 := hI3.next (grown_next ho3 hG6 hlt3); have hlt6 := hI6.lt; have hS6 := HOTH.out _ hI6.below; clear hG6 ho3 hI3 hR3)
          | (at_builtin; refine wpList_append_B rfl (.tmp 45) (.tmp 46) rfl (w.heap.size + 1) _ _ rfl ho6 _ _ _ (O.oth s k) rfl HLT.out hS6 (by simp) (by simp [O.lst_len, HLE.out]; omega) hlt6 ?_; intro v7 w7 ho7 hG7; have hI7 := hI6.next (grown_next ho6 hG7 hlt6); clear hG7 ho6 hI6 hS6))
        refine ⟨⟨k + 1, by omega, by go_num, ?_, hI7⟩, by simp [intOf]; omega⟩
        rw [HOP.out]
        unfold O.opn
        rw [if_pos HBe.out, ← List.append_assoc]; exact ho7
      · have HO3 := hide ho3
        have HI3 := hide hI3
        have HR3 := hide hR3
        have HS3 := hide hS3
        clear ho3 hI3 hR3 hS3
        go_wp2
        go_region_law (first
          | ((refine step_append_B rfl (.tmp 48) (.tmp 49) rfl (w.heap.size + 1) _ (O.openL d s k) (by rfl) (by exact HO3.out) ⟨b, o + P8, none⟩ 8 (cap - P8) (O.oth s k) (by rfl) HLT.out (by exact HS3.out) (by rw [HLE.out]; omega) (by exact hlt3) ?_; intro v8 w8 ho8 hG8; have HR8 := hide (row_grown (w := w3.drew) HO3.out HR3.out (by decide) hG8); have HI8 := hide (HI3.out.drew.next (grown_next (w := w3.drew) HO3.out hG8 hlt3)); have HO8 := hide ho8; have hlt8 := HI8.out.lt; clear hG8 ho8))
          | ((refine step_append_B rfl (.tmp 50) (.tmp 51) rfl (w.heap.size + 1) _ _ (by rfl) (by exact HO8.out) ⟨wr.heap.size, 0, none⟩ 8 8 (O.lst (O.lock (O.own s k))) (by rfl) (O.lst_len _) (by exact HR8.out.sl8) (by simp [HLT.out, HLE.out]; omega) (by exact hlt8) ?_; intro v9 w9 ho9 hG9; have HI9 := hide (HI8.out.next (grown_next HO8.out hG9 hlt8)); have HO9 := hide ho9; clear hG9 ho9)))
        go_wp2
        refine ⟨⟨k + 1, by omega, by go_num, ?_, HI9.out⟩, by simp [intOf]; omega⟩
        rw [HOP.out]
        unfold O.opn
        rw [if_neg (by rw [HBe.out]; omega), ← List.append_assoc]; exact HO9.out
    · obtain rfl : k = 32 := by omega
      obtain ⟨L, HLL⟩ : ∃ L, Hid (O.openL d s 32 = L) := ⟨_, rfl⟩
      rw [HLL.out] at hO hlen
      obtain ⟨g, c, rfl, hg1, hg2, hg3, hg4, _⟩ := hO.form (by omega)
      have hsl := hO.sl
      replace hlen : L.length = 512 := hlen
      rw [hlen] at hg2
      rw [hlen]
      have HLE := hide hlen
      have HOE : Hid (sumF (3 :: ptext [L]) = O.opened (O.dig m) s) := by show _ = _; rw [HD.out]; unfold O.opened; rw [HLL.out]
      clear hO hg3 hlen
      go_wp2_with fail
      refine (rshort_one 3 L _ 512 c _ HLE (by exact hsl) (by simp) (by omega) (by omega)).mono ?_
      rintro e w6 ⟨rfl, hB6⟩
      rw [HOE.out]
      have hI6 := hI.next (hB6.mono hlt1)
      obtain ⟨cr, hRr, hsr⟩ := hI6.res
      have hB9 := hI6.below
      clear hB6 hI hsl hI6
      go_wp2_with (refine wpList_store_rowAt rfl 22 (.tmp 4) (.tmp 55) rfl w.heap.size _ rfl rfl 22 cr hRr (by rw [rowB_size]; exact info28) (by rw [rowB_size]; exact hsr) (rowB_one _ _) ?_)
      exact bodyPost_ret (v := .tuple #[.agg (rowB 8 (O.opened (O.dig m) s)), .bool true]) (results_rowAt_tmp Tryd.results31 _ _ w.heap.size 22 _ _ _ rfl rfl (setRow_same hRr _) Tryd.underlying22 rfl (by rw [rowB_size]; exact info28)) rfl ⟨rfl, below_setRow hB9 (Nat.le_refl _) _⟩
end Go.Proofs.YtpiehjfoojipiaaDoor
