/- onetime.Open. -/
import Derived.Test.YtpiehjfoojipiaaDoorSgn
namespace Go.Proofs.YtpiehjfoojipiaaDoor
open Go.RowKit
set_option maxRecDepth 5000 in
theorem z8_row : z8 = rowB 8 (fun _ => 0) := by kernel_rfl
/- parts of bytes that came in -/
set_option maxRecDepth 5000 in
theorem SlL.part {w : World} {b o : Nat} {s : List (BitVec 8)} (h : SlL w (some ⟨b, o, none⟩) s) (p n : Nat) (hp : p + n ≤ s.length) : SlL w (some ⟨b, o + p, none⟩) ((s.drop p).take n) := fun hn => by
  have hl : ((s.drop p).take n).length = n := by simp; omega
  rw [hl] at hn
  obtain ⟨b', o', e, hlt, hc⟩ := h (by omega)
  cases e
  refine ⟨b, o + p, rfl, hlt, fun j hj => ?_⟩
  rw [hl] at hj
  rw [show o + p + j = o + (p + j) by omega, hc (p + j) (by omega)]
  have e1 : ((s.drop p).take n).getD j 0 = s.getD (p + j) 0 := by
    rw [List.getD_eq_getElem?_getD, List.getD_eq_getElem?_getD, List.getElem?_take, if_pos hj, List.getElem?_drop]
  rw [e1]
set_option maxRecDepth 5000 in
theorem SlL.at {w : World} {ao : Option Addr} {s : List (BitVec 8)} (h : SlL w ao s) (hl : 0 < s.length) : ∃ b o, ao = some ⟨b, o, none⟩ ∧ b < w.heap.size := by
  obtain ⟨b, o, e, hlt, _⟩ := h hl
  exact ⟨b, o, e, hlt⟩
set_option maxRecDepth 3000 in
set_option maxHeartbeats 1000000 in
theorem open_bad (am ao : Option Addr) (nm cm n cap : Nat) (w : World) (hn : n ≠ 512) :
    Calls Tryd.prog 27 #[.slice am nm cm, .slice ao n cap] w fun e w' => e = .returned (.tuple #[.agg (rowB 8 (fun _ => 0)), .bool false]) ∧ Below w.heap.size w w' := by
  have hb : Below w.heap.size w (w.alloc (.cells z8 22)) := (Below.refl _ _).alloc (Nat.le_refl _) _
  have hR := RowAt.new w 22 z8
  have hne : ((n : Int) != 512) = true := by simp; omega
  go_enter Tryd.func27, Tryd.ntmps27
  go_wp2_with (refine wpList_store_rowAt rfl 22 (.tmp 4) (.tmp 15) rfl w.heap.size (rowB 8 (fun _ => 0)) rfl (by first | exact congrArg Value.agg z8_row | rfl) 22 z8 hR (by rw [rowB_size]; exact info28) (by rw [rowB_size]; rfl) (rowB_one _ _) ?_)
  exact bodyPost_ret (v := .tuple #[.agg (rowB 8 (fun _ => 0)), .bool false]) (results_rowAt_tmp Tryd.results27 _ _ w.heap.size 22 _ _ _ rfl rfl (setRow_same hR _) Tryd.underlying22 rfl (by rw [rowB_size]; exact info28)) rfl ⟨rfl, below_setRow hb (Nat.le_refl _) _⟩
set_option maxRecDepth 3000 in
set_option maxHeartbeats 1000000 in
theorem open_any (m s : List (BitVec 8)) (am ao : Option Addr) (nm cm cap : Nat) (w : World) (hlm : Hid (m.length = nm)) (hsm : SlL w am m) (hcm : nm ≤ cm) (hnm : nm < 1000000000) (hls : Hid (s.length = 512)) (hss : SlL w ao s) (hcs : 512 ≤ cap) (hT : Tab w) :
    Calls Tryd.prog 27 #[.slice am nm cm, .slice ao 512 cap] w fun e w' => e = .returned (.tuple #[.agg (rowB 8 (O.opened (O.dig m) s)), .bool true]) ∧ Below w.heap.size w w' := by
  obtain ⟨i0, hi, hz0, hz1, hz2⟩ := info_parts info5
  have hT0 := hT.1
  have hd := O.dig_lt m
  obtain ⟨b, o, rfl, hbl⟩ := hss.at (by rw [hls.out]; omega)
  have HS := hide (hsm.alloc (.cells z8 22))
  have HSS := hide hss
  have hTa := hT.alloc (.cells z8 22)
  have hI0 : ShInv w (w.alloc (.cells z8 22)) := ⟨(Below.refl _ _).alloc (Nat.le_refl _) _, _, RowAt.new _ _ _, rfl⟩
  have hlt0 := hI0.lt
  clear hsm hss
  go_enter Tryd.func27, Tryd.ntmps27
  go_wp2_with fail
  refine (digest_any m am nm cm _ hlm (by exact HS.out) hcm hnm (by exact hTa)).mono ?_
  rintro e w0 ⟨rfl, hB0⟩
  obtain ⟨d, HD⟩ : ∃ d, Hid (O.dig m = d) := ⟨_, rfl⟩
  rw [HD.out] at hd ⊢
  have hI00 := hI0.next (hB0.mono hlt0)
  have hlt00 := hI00.lt
  clear hB0 hTa hI0 hlt0
  go_wp2_with (at_make; go_must (refine wpList_make_own _ rfl (.const (.int .i64 0)) (.const (.int .i64 512)) 34 rfl (w.heap.size + 1) 5 i0 (.int .u8 0) 1 Tryd.underlying34 hi hz0 hz1 .i64 .i64 512 512 rfl rfl rfl (by rw [hz2]; omega) (by unfold maxLen; omega) (by omega) ?_); intro w1 hO1 hG1; go_must (have hb1 := (Below.refl (w.heap.size + 1) _).grown hG1 (by omega) (fun k hk => by cases hk); have ho1 : OwnB w1 (w.heap.size + 1) (.slice (some ⟨w0.heap.size, 0, none⟩) 0 512) [] := (by simpa [OwnB, vb] using hO1)); clear hG1 hO1)
  have hI1 : ShInv w w1 := hI00.next hb1
  clear hb1 hI00
  go_loopw [7, 19] (fun v i wr => ∃ k : Nat, k ≤ 32 ∧ i = .int .i64 (k : Int) ∧ OwnB wr (w.heap.size + 1) v (O.openL d s k) ∧ ShInv w wr) (fun _ i _ => 32 - (intOf i).toNat)
  case atStart => exact ⟨0, by omega, rfl, ho1, hI1⟩
  case round =>
    clear ho1 hI1 hlt00
    obtain ⟨k, hk, rfl, hO, hI⟩ := hrel
    have hlt1 := hI.lt
    have hlen := O.openL_len d s k (by rw [hls.out]; omega)
    by_cases hlt : k < 32
    · have HLE := hide hlen
      clear hlen
      have hT2 := hT.below hI.below hT0
      have hown : SlL wr (some ⟨b, o + 16 * k, none⟩) (O.own s k) := (HSS.out.below hI.below (Nat.le_refl _)).part (16 * k) 8 (by rw [hls.out]; omega)
      have hoth : SlL w (some ⟨b, o + (16 * k + 8), none⟩) (O.oth s k) := HSS.out.part (16 * k + 8) 8 (by rw [hls.out]; omega)
      have HOT := hide hoth
      have HLO := hide (O.own_len s k (by rw [hls.out]; omega))
      have HLT := hide (O.oth_len s k (by rw [hls.out]; omega))
      clear hoth
      obtain ⟨P, HP⟩ : ∃ P : Nat, Hid (P = 16 * k) := ⟨_, rfl⟩
      obtain ⟨E, HE⟩ : ∃ E : Nat, Hid (E = 16 * k + 16) := ⟨_, rfl⟩
      have hmul : IntKind.i64.wrap ((k : Int) * 16) = (P : Int) := by have := HP.out; rw [IntKind.wrap_i64]; omega
      have hmul2 : IntKind.i64.wrap (((k : Int) + 1) * 16) = (E : Int) := by have := HE.out; rw [IntKind.wrap_i64]; omega
      have hPE : P + 16 = E := by have := HP.out; have := HE.out; omega
      have hE5 : E ≤ 512 := by have := HE.out; omega
      rw [← HP.out] at hown
      have hEP : E - P = 16 := by omega
      have hcP : E ≤ cap := by omega
      have hop := O.openL_succ d s k
      obtain ⟨c1, hc1⟩ : ∃ c1 : Nat, Hid (c1 = cap - P) := ⟨_, rfl⟩
      have hcc : 16 ≤ c1 := by have := hc1.out; omega
      have HOP := hide hop
      clear hop
      have hb01 := O.bit_le d k
      obtain ⟨bt, HBe⟩ : ∃ bt, Hid (O.bit d k = bt) := ⟨_, rfl⟩
      rw [HBe.out] at hb01
      go_wp2_with fail
      rw [← hc1.out]
      refine (lock_any (O.own s k) _ 8 c1 _ HLO (by exact hown) (by simp) (by omega) (by omega) (by exact hT2)).mono ?_
      rintro e w2 ⟨rfl, hB2⟩
      have hI2 := hI.next (hB2.mono hlt1)
      have ho2 := hO.below hB2
      have hlt2 := hI2.lt
      clear hB2 hI hO hT2 hown hmul hmul2
      rcases (show bt = 0 ∨ bt = 1 by omega) with rfl | rfl
      · go_wp2_with (first
          | (refine wpList_store_abs rfl 22 (.tmp 10) (.tmp 31) rfl w2.heap.size (rowB 8 (O.lock (O.own s k))) rfl rfl 22 _ (RowAt.new w2 22 _) (by rw [rowB_size]; exact info28) (by rw [rowB_size]; rfl) (rowB_one _ _) w2.heap.size (Nat.le_refl _) ?_; intro w3 hR3 hO3 hz3 hB3; have hb3 : Below w2.heap.size w2 w3 := ((Below.refl _ _).alloc (Nat.le_refl _) _).trans hB3; have hI3 := hI2.next (hb3.mono hlt2); have ho3 := ho2.below hb3; have hlt3 := hI3.lt; clear hO3 hz3 hB3 hb3 ho2 hI2)
          | (go_at_call 40; refine (bitOf_any d k _ hd hlt).mono ?_; rintro e w' ⟨rfl, rfl⟩; rw [HBe.out])
          | (at_builtin; refine wpList_append_B rfl (.tmp 38) (.tmp 39) rfl (w.heap.size + 1) _ _ rfl ho3 _ _ _ (O.lst (O.lock (O.own s k))) rfl (O.lst_len _) hR3.sl8 (by simp) (by rw [HLE.out]; omega) hlt3 ?_; intro v6 w6 ho6 hG6; have hI6 := hI3.next (grown_next ho3 hG6 hlt3); have hlt6 := hI6.lt; have hS6 := HOT.out.below hI6.below (Nat.le_refl _); clear hG6 ho3 hI3 hR3)
          | (at_builtin; refine wpList_append_B rfl (.tmp 41) (.tmp 42) rfl (w.heap.size + 1) _ _ rfl ho6 _ _ _ (O.oth s k) rfl HLT.out (by rw [← HP.out] at hS6; exact hS6) (by simp) (by simp [O.lst_len, HLE.out]; omega) hlt6 ?_; intro v7 w7 ho7 hG7; have hI7 := hI6.next (grown_next ho6 hG7 hlt6); clear hG7 ho6 hI6 hS6))
        refine ⟨⟨k + 1, by omega, by go_num, ?_, hI7⟩, by simp [intOf]; omega⟩
        rw [HOP.out]
        unfold O.opn
        rw [if_pos HBe.out, ← List.append_assoc]; exact ho7
      · go_wp2_with (first
          | (refine wpList_store_abs rfl 22 (.tmp 10) (.tmp 31) rfl w2.heap.size (rowB 8 (O.lock (O.own s k))) rfl rfl 22 _ (RowAt.new w2 22 _) (by rw [rowB_size]; exact info28) (by rw [rowB_size]; rfl) (rowB_one _ _) w2.heap.size (Nat.le_refl _) ?_; intro w3 hR3 hO3 hz3 hB3; have hb3 : Below w2.heap.size w2 w3 := ((Below.refl _ _).alloc (Nat.le_refl _) _).trans hB3; have hI3 := hI2.next (hb3.mono hlt2); have ho3 := ho2.below hb3; have hlt3 := hI3.lt; have hS3 := HOT.out.below hI3.below (Nat.le_refl _); clear hO3 hz3 hB3 hb3 ho2 hI2)
          | (go_at_call 40; refine (bitOf_any d k _ hd hlt).mono ?_; rintro e w' ⟨rfl, rfl⟩; rw [HBe.out])
          | (at_builtin; refine wpList_append_B rfl (.tmp 44) (.tmp 45) rfl (w.heap.size + 1) _ _ rfl ho3 _ _ _ (O.oth s k) rfl HLT.out (by rw [← HP.out] at hS3; exact hS3) (by simp) (by rw [HLE.out]; omega) hlt3 ?_; intro v6 w6 ho6 hG6; have hR6 := row_grown ho3 hR3 (by decide) hG6; have hI6 := hI3.next (grown_next ho3 hG6 hlt3); have hlt6 := hI6.lt; clear hG6 ho3 hI3 hR3 hS3)
          | (at_builtin; refine wpList_append_B rfl (.tmp 47) (.tmp 48) rfl (w.heap.size + 1) _ _ rfl ho6 _ _ _ (O.lst (O.lock (O.own s k))) rfl (O.lst_len _) hR6.sl8 (by simp) (by simp [HLT.out, HLE.out]; omega) hlt6 ?_; intro v7 w7 ho7 hG7; have hI7 := hI6.next (grown_next ho6 hG7 hlt6); clear hG7 ho6 hI6 hR6))
        refine ⟨⟨k + 1, by omega, by go_num, ?_, hI7⟩, by simp [intOf]; omega⟩
        rw [HOP.out]
        unfold O.opn
        rw [if_neg (by rw [HBe.out]; omega), ← List.append_assoc]; exact ho7
    · obtain rfl : k = 32 := by omega
      have hTr := hT.below hI.below hT0
      obtain ⟨L, HLL⟩ : ∃ L, Hid (O.openL d s 32 = L) := ⟨_, rfl⟩
      rw [HLL.out] at hO hlen
      obtain ⟨g, c, rfl, hg1, hg2, hg3, hg4, _⟩ := hO.form (by omega)
      have hsl := hO.sl
      replace hlen : L.length = 512 := hlen
      rw [hlen] at hg2
      rw [hlen]
      have HLE := hide hlen
      have HOE : Hid (sumF (3 :: ptext [L]) = O.opened (O.dig m) s) := by show _ = _; rw [HD.out]; unfold O.opened; rw [HLL.out]
      clear hO hg3 hlen
      go_wp2_with fail
      refine (short_one 3 L _ 512 c _ HLE (by exact hsl) (by simp) (by omega) (by omega) (by exact hTr)).mono ?_
      rintro e w6 ⟨rfl, hB6⟩
      rw [HOE.out]
      have hI6 := hI.next (hB6.mono hlt1)
      obtain ⟨cr, hRr, hsr⟩ := hI6.res
      have hB9 := hI6.below
      clear hB6 hI hsl hTr hI6
      go_wp2_with (refine wpList_store_rowAt rfl 22 (.tmp 4) (.tmp 53) rfl w.heap.size _ rfl rfl 22 cr hRr (by rw [rowB_size]; exact info28) (by rw [rowB_size]; exact hsr) (rowB_one _ _) ?_)
      exact bodyPost_ret (v := .tuple #[.agg (rowB 8 (O.opened (O.dig m) s)), .bool true]) (results_rowAt_tmp Tryd.results27 _ _ w.heap.size 22 _ _ _ rfl rfl (setRow_same hRr _) Tryd.underlying22 rfl (by rw [rowB_size]; exact info28)) rfl ⟨rfl, below_setRow hB9 (Nat.le_refl _) _⟩
end Go.Proofs.YtpiehjfoojipiaaDoor
