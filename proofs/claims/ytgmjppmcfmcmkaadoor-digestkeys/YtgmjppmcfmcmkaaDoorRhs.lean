/- signetref7.Hash. -/
import Derived.Test.YtgmjppmcfmcmkaaDoorRds
namespace Go.Proofs.YtgmjppmcfmcmkaaDoor
open Go.RowKit
structure HJnv (w wr : World) (g : Nat) (f : Nat → BitVec 8) : Prop where
  below : Below w.heap.size w wr
  res : ∃ c, H.RowAt wr w.heap.size 33 c ∧ c.size = 20
  row : H.RowAt wr g 42 (H.rowB 32 f)
  lt : w.heap.size < g
set_option maxRecDepth 5000 in
theorem HJnv.next {w wr w' : World} {g : Nat} {f : Nat → BitVec 8} (h : HJnv w wr g f) (hb : Below wr.heap.size wr w') : HJnv w w' g f := by
  obtain ⟨c, hc, hz⟩ := h.res
  have h1 := h.row.lt
  have h2 := h.lt
  exact ⟨h.below.trans (hb.mono (by omega)), ⟨c, hc.below hb (by omega), hz⟩, h.row.below hb h1, h2⟩
set_option maxRecDepth 5000 in
theorem HJnv.put {w wr : World} {g : Nat} {f : Nat → BitVec 8} (h : HJnv w wr g f) (f' : Nat → BitVec 8) : HJnv w (wr.setRow g (H.rowB 32 f')) g f' := by
  obtain ⟨c, hc, hz⟩ := h.res
  have h2 := h.lt
  exact ⟨H.below_setRow h.below (by omega) _, ⟨c, H.setRow_other hc _ (by omega), hz⟩, H.setRow_same h.row _, h2⟩
set_option maxRecDepth 5000 in
theorem row_range9 {w : World} {g : Nat} {t : TypeId} {n m : Nat} {f : Nat → BitVec 8} (h : H.RowAt w g t (H.rowB n f)) (hm : m ≤ n) : w.rangeAt g 0 (H.bsL m f) := fun j v hv => by
  have hj : j < m := by have := (List.getElem?_eq_some_iff.1 hv).1; rwa [H.bsL_len] at this
  rw [Nat.zero_add, h.cell, H.rowB_get _ _ _ (by omega)]
  simp [H.bsL, hj, H.fb] at hv
  rw [hv]
set_option maxRecDepth 5000 in
theorem run_arr20 (a : Addr) (c : Nat) (w : World) : (Instr.arrayAt 33 (.slice (some a) 20 c)).run Tryd.prog w = .ok (.pointer (some a)) w := by
  simp [Instr.arrayAt, run_underlying Tryd.underlying33]
set_option maxRecDepth 5000 in
theorem OwnB.below_of {w w' : World} {base : Nat} {v : Value} {l : List UInt8} (h : OwnB w base v l) (hb : Below w.heap.size w w') : OwnB w' base v l := h.below hb
set_option maxRecDepth 3000 in
set_option maxHeartbeats 2000000 in
theorem rhash_mid (n : List (List UInt8)) (salt : List UInt8) (R : Nat) (hR : R ≤ 50) (ao so : Option Addr) (len cap m sc : Nat) (w : World) (hl : Hid (n.length = len)) (hm : Hid (salt.length = m)) (hs : SlS w ao n) (hss : SlL w so salt) (hn : so = none → sc = 0) (hW : Hid (Wd n)) (h2 : m ≤ 1000000) :
    Calls Tryd.prog 16 #[.slice ao len cap, .slice so m sc, .int .i64 (R : Int)] w fun e w' => e = .returned (.agg (H.rowB 20 (G.hsh n salt R))) ∧ Below w.heap.size w w' := by
  have HS := hide hs
  have HD := hide hss
  have HN := hide hn
  have harr := run_arr20
  clear hs hss hn
  go_enter Tryd.func16, Tryd.ntmps16
  go_wp2_with fail
  refine (rLower_any n ao len cap _ hl (by exact HS.out.alloc _) hW.out.1).mono ?_
  rintro e w1 ⟨v, rfl, hO, hB⟩
  have hb1 : Below w.heap.size w w1 := ((Below.refl w.heap.size w).alloc (Nat.le_refl _) _).trans (hB.mono (by simp))
  have hr1 : ∃ c, H.RowAt w1 w.heap.size 33 c ∧ c.size = 20 := ⟨_, (H.RowAt.new w 33 _).below hB (by simp), rfl⟩
  have hz1 : w.heap.size + 1 ≤ w1.heap.size := by have := hB.size; simp at this; omega
  obtain ⟨ao1, c1, rfl, hs1, _, _, _⟩ := hO.open
  have HL : Hid ((N.lowN n).length = len) := by show _ = _; rw [N.lowN_len]; exact hl.out
  have HS1 := hide hs1
  have e1 : (N.lowN n).length = len := HL.out
  rw [e1]
  clear hO hs1 e1 hB
  go_wp2_with fail
  refine (rWire_any (N.lowN n) ao1 len c1 _ HL HS1.out (low_small hW.out.1)).mono ?_
  rintro e w2 ⟨v2, rfl, hO2, hB2⟩
  have hb2 : Below w.heap.size w w2 := hb1.trans (hB2.mono (by omega))
  obtain ⟨c0, hr1, hc0⟩ := hr1
  have hr2 := hr1.below hB2 (by omega)
  have hz2 : w1.heap.size ≤ w2.heap.size := hB2.size
  have hw1 := hW.out.2
  have HH0 : Hid (G.hsh n salt 0 = G.sum (N.wire (N.lowN n) ++ salt)) := rfl
  generalize hX : N.wire (N.lowN n) = X at hO2 hw1 HH0 ⊢
  have HD2 := hide (HD.out.below hb2 (Nat.le_refl _))
  clear hB2 hX HS1 hr1 hb1
  go_wp2_with (at_builtin; refine wpList_append_B rfl (.tmp 14) (.tmp 15) rfl w1.heap.size _ X rfl (by exact hO2) so m sc salt rfl hm.out (by exact HD2.out) HN.out (by omega) (by exact hz2) ?_; intro v3 w3 hO3 hG3; have hB3 := grown_below hO2 hG3 (Below.refl w1.heap.size w2) hz2; clear hG3 hO2)
  have hb3 : Below w.heap.size w w3 := hb2.trans (hB3.mono (by omega))
  have hr3 := hr2.below hB3 (by omega)
  have hz3 := hB3.size
  obtain ⟨co, cc, rfl, hs3, hn3, hle3, _⟩ := hO3.open
  have hLL : (X ++ salt).length ≤ 1000000 + m := by rw [List.length_append, hm.out]; omega
  generalize hL2 : (X ++ salt).length = L2 at hle3 hLL ⊢
  have HL2 := hide hL2
  have HS3 := hide hs3
  clear hO3 hL2 hs3 HD2 hB3 hr2 hb2
  go_wp2_with fail
  refine (rsum_any (X ++ salt) co L2 cc _ HL2 HS3.out hn3 (by omega)).mono ?_
  rintro e w4 ⟨rfl, hB4⟩
  have hb4 : Below w.heap.size w w4 := hb3.trans (hB4.mono (by omega))
  have hr4 := hr3.below hB4 (by omega)
  have hz4 := hB4.size
  rw [← HH0.out]
  clear hB4 HS3 hb3 hr3
  go_wp2_with (refine H.wpList_store_abs rfl 42 (.tmp 7) (.tmp 17) rfl w4.heap.size _ rfl rfl 42 _ (H.RowAt.new w4 42 _) (by rw [H.rowB_size]; exact H.info24) (by rw [H.rowB_size]; rfl) (H.rowB_one _ _) w4.heap.size (Nat.le_refl _) ?_; intro w5 hR5 hO5 hz5 hB5)
  have hI5 : HJnv w w5 w4.heap.size (G.hsh n salt 0) := ⟨(hb4.alloc (by omega) _).trans (hB5.mono (by omega)), ⟨c0, hO5 _ _ _ (by omega) (hr4.alloc _), hc0⟩, hR5, by omega⟩
  generalize w4.heap.size = g at hI5
  clear hO5 hz5 hB5 hb4 hr4 hR5 hc0 hz4 hz3 hz2 hz1
  go_loopw [8] (fun z wr => ∃ k : Nat, z = .int .i64 (k : Int) ∧ k ≤ R ∧ HJnv w wr g (G.hsh n salt k)) (fun z _ => R - (intOf z).toNat)
  case atStart => exact ⟨0, rfl, by omega, hI5⟩
  case round =>
    clear hI5
    obtain ⟨k, rfl, hk, hI⟩ := hrel
    have hgl := hI.row.lt
    by_cases hlt : k < R
    · have HS6 := hide (row_sl hI.row (show 20 ≤ 32 by omega))
      have HH1 : Hid (G.hsh n salt (k + 1) = G.sum (G.u8s 20 (G.hsh n salt k) ++ salt)) := rfl
      generalize hU : G.u8s 20 (G.hsh n salt k) = U at HS6 HH1
      have HU : Hid (U.length = 20) := by show _ = _; rw [← hU]; exact G.u8s_len _ _
      clear hU
      go_wp2_with (first
        | (at_builtin; refine wpList_append_B rfl (.const (.slice none 0 0)) (.tmp 23) rfl wr.heap.size _ [] rfl (OwnB.nil _ _) (some ⟨g, 0, none⟩) 20 32 U rfl HU.out (by exact HS6.out) (by simp) (by simp) (Nat.le_refl _) ?_; intro v6 w6 hO6 hG6; have hB6 := grown_below (OwnB.nil _ _) hG6 (Below.refl wr.heap.size wr) (Nat.le_refl _); have hI6 := hI.next hB6; have hz6 := hB6.size; have HS7 := hide (HD.out.below hI6.below (Nat.le_refl _)); clear hG6 hB6 hI HS6)
        | (at_builtin; refine wpList_append_B rfl (.tmp 24) (.tmp 25) rfl wr.heap.size _ _ rfl (by exact hO6) so m sc salt rfl hm.out (by exact HS7.out) HN.out (by simp [HU.out]; omega) (by exact hz6) ?_; intro v7 w7 hO7 hG7; have HHI : Hid (HJnv w w6 g (G.hsh n salt k)) := hI6))
      have hgw : g < wr.heap.size := hgl
      have hlw : w.heap.size ≤ wr.heap.size := by have := HHI.out.lt; omega
      have hB7 := grown_below hO6 hG7 (Below.refl wr.heap.size w6) hz6
      have hI7 : HJnv w w7 g (G.hsh n salt k) := by
        obtain ⟨c, hc, hz⟩ := HHI.out.res
        exact ⟨HHI.out.below.trans (hB7.mono hlw), ⟨c, hc.below hB7 (by have := HHI.out.lt; omega), hz⟩, HHI.out.row.below hB7 hgw, HHI.out.lt⟩
      obtain ⟨co, cc, rfl, hs8, hn8, hle8, _⟩ := hO7.open
      have hLL : (([] ++ U) ++ salt).length ≤ 20 + m := by simp [HU.out, hm.out]
      have HSM : Hid (([] ++ U) ++ salt = U ++ salt) := by show _ = _; simp
      rw [HSM.out] at hs8 hle8 hLL ⊢
      generalize hL2 : (U ++ salt).length = L2 at hle8 hLL ⊢
      have HL2 := hide hL2
      have HS8 := hide hs8
      clear hO7 hL2 hs8 hB7 hG7 hO6 HHI HS7 hI6
      go_wp2_with fail
      refine (rsum_any (U ++ salt) co L2 cc _ HL2 HS8.out hn8 (by omega)).mono ?_
      rintro e w9 ⟨rfl, hB9⟩
      have hI9 := hI7.next hB9
      rw [← HH1.out]
      have hr9 := hI9.row
      clear hB9 hI7 HS8
      go_wp2_with (refine H.wpList_store_rowAt rfl 42 (.tmp 7) (.tmp 27) rfl g _ rfl rfl 42 _ hr9 (by rw [H.rowB_size]; exact H.info24) (by rw [H.rowB_size, H.rowB_size]) (H.rowB_one _ _) ?_)
      go_roundw
      case rel => exact ⟨k + 1, by go_num, by omega, hI9.put _⟩
      case measure => simp [intOf]; omega
    · obtain rfl : k = R := by omega
      obtain ⟨cr, hRr, hsr⟩ := hI.res
      have hR6 := hI.row
      have hB9 := hI.below
      clear hI
      go_wp2_with (first
        | (refine wpList_load_mid rfl 33 (.tmp 29) rfl g 0 rfl (H.bsL 20 _) _ (row_range9 hR6 (by omega)) Tryd.underlying33 rfl (by rw [H.bsL_len]; exact info33) ?_)
        | (refine H.wpList_store_rowAt rfl 33 (.tmp 6) (.tmp 30) rfl w.heap.size (H.rowB 20 _) rfl rfl 33 cr hRr (by rw [H.rowB_size]; exact info33) (by rw [H.rowB_size]; exact hsr) (H.rowB_one _ _) ?_))
      exact bodyPost_ret (v := .agg (H.rowB 20 (G.hsh n salt k))) (H.results_rowAt Tryd.results16 _ _ w.heap.size 33 _ _ rfl (H.setRow_same hRr _) Tryd.underlying33 rfl (by rw [H.rowB_size]; exact info33)) rfl ⟨rfl, H.below_setRow hB9 (Nat.le_refl _) _⟩
set_option maxRecDepth 3000 in
set_option maxHeartbeats 2000000 in
theorem rhash_hi (n : List (List UInt8)) (salt : List UInt8) (i : Int) (hi : 50 < i) (_hi2 : i ≤ 9223372036854775807) (ao so : Option Addr) (len cap m sc : Nat) (w : World) (hl : Hid (n.length = len)) (hm : Hid (salt.length = m)) (hs : SlS w ao n) (hss : SlL w so salt) (hn : so = none → sc = 0) (hW : Hid (Wd n)) (h2 : m ≤ 1000000) :
    Calls Tryd.prog 16 #[.slice ao len cap, .slice so m sc, .int .i64 i] w fun e w' => e = .returned (.agg (H.rowB 20 (G.hsh n salt 50))) ∧ Below w.heap.size w w' := by
  have HS := hide hs
  have HD := hide hss
  have HN := hide hn
  have harr := run_arr20
  clear hs hss hn
  go_enter Tryd.func16, Tryd.ntmps16
  go_wp2_with fail
  refine (rLower_any n ao len cap _ hl (by exact HS.out.alloc _) hW.out.1).mono ?_
  rintro e w1 ⟨v, rfl, hO, hB⟩
  have hb1 : Below w.heap.size w w1 := ((Below.refl w.heap.size w).alloc (Nat.le_refl _) _).trans (hB.mono (by simp))
  have hr1 : ∃ c, H.RowAt w1 w.heap.size 33 c ∧ c.size = 20 := ⟨_, (H.RowAt.new w 33 _).below hB (by simp), rfl⟩
  have hz1 : w.heap.size + 1 ≤ w1.heap.size := by have := hB.size; simp at this; omega
  obtain ⟨ao1, c1, rfl, hs1, _, _, _⟩ := hO.open
  have HL : Hid ((N.lowN n).length = len) := by show _ = _; rw [N.lowN_len]; exact hl.out
  have HS1 := hide hs1
  have e1 : (N.lowN n).length = len := HL.out
  rw [e1]
  clear hO hs1 e1 hB
  go_wp2_with fail
  refine (rWire_any (N.lowN n) ao1 len c1 _ HL HS1.out (low_small hW.out.1)).mono ?_
  rintro e w2 ⟨v2, rfl, hO2, hB2⟩
  have hb2 : Below w.heap.size w w2 := hb1.trans (hB2.mono (by omega))
  obtain ⟨c0, hr1, hc0⟩ := hr1
  have hr2 := hr1.below hB2 (by omega)
  have hz2 : w1.heap.size ≤ w2.heap.size := hB2.size
  have hw1 := hW.out.2
  have HH0 : Hid (G.hsh n salt 0 = G.sum (N.wire (N.lowN n) ++ salt)) := rfl
  generalize hX : N.wire (N.lowN n) = X at hO2 hw1 HH0 ⊢
  have HD2 := hide (HD.out.below hb2 (Nat.le_refl _))
  clear hB2 hX HS1 hr1 hb1
  go_wp2_with (at_builtin; refine wpList_append_B rfl (.tmp 14) (.tmp 15) rfl w1.heap.size _ X rfl (by exact hO2) so m sc salt rfl hm.out (by exact HD2.out) HN.out (by omega) (by exact hz2) ?_; intro v3 w3 hO3 hG3; have hB3 := grown_below hO2 hG3 (Below.refl w1.heap.size w2) hz2; clear hG3 hO2)
  have hb3 : Below w.heap.size w w3 := hb2.trans (hB3.mono (by omega))
  have hr3 := hr2.below hB3 (by omega)
  have hz3 := hB3.size
  obtain ⟨co, cc, rfl, hs3, hn3, hle3, _⟩ := hO3.open
  have hLL : (X ++ salt).length ≤ 1000000 + m := by rw [List.length_append, hm.out]; omega
  generalize hL2 : (X ++ salt).length = L2 at hle3 hLL ⊢
  have HL2 := hide hL2
  have HS3 := hide hs3
  clear hO3 hL2 hs3 HD2 hB3 hr2 hb2
  go_wp2_with fail
  refine (rsum_any (X ++ salt) co L2 cc _ HL2 HS3.out hn3 (by omega)).mono ?_
  rintro e w4 ⟨rfl, hB4⟩
  have hb4 : Below w.heap.size w w4 := hb3.trans (hB4.mono (by omega))
  have hr4 := hr3.below hB4 (by omega)
  have hz4 := hB4.size
  rw [← HH0.out]
  clear hB4 HS3 hb3 hr3
  go_wp2_with (refine H.wpList_store_abs rfl 42 (.tmp 7) (.tmp 17) rfl w4.heap.size _ rfl rfl 42 _ (H.RowAt.new w4 42 _) (by rw [H.rowB_size]; exact H.info24) (by rw [H.rowB_size]; rfl) (H.rowB_one _ _) w4.heap.size (Nat.le_refl _) ?_; intro w5 hR5 hO5 hz5 hB5)
  have hI5 : HJnv w w5 w4.heap.size (G.hsh n salt 0) := ⟨(hb4.alloc (by omega) _).trans (hB5.mono (by omega)), ⟨c0, hO5 _ _ _ (by omega) (hr4.alloc _), hc0⟩, hR5, by omega⟩
  generalize w4.heap.size = g at hI5
  clear hO5 hz5 hB5 hb4 hr4 hR5 hc0 hz4 hz3 hz2 hz1
  go_loopw [8] (fun z wr => ∃ k : Nat, z = .int .i64 (k : Int) ∧ k ≤ 50 ∧ HJnv w wr g (G.hsh n salt k)) (fun z _ => 50 - (intOf z).toNat)
  case atStart => exact ⟨0, rfl, by omega, hI5⟩
  case round =>
    clear hI5
    obtain ⟨k, rfl, hk, hI⟩ := hrel
    have hgl := hI.row.lt
    by_cases hlt : k < 50
    · have HS6 := hide (row_sl hI.row (show 20 ≤ 32 by omega))
      have HH1 : Hid (G.hsh n salt (k + 1) = G.sum (G.u8s 20 (G.hsh n salt k) ++ salt)) := rfl
      generalize hU : G.u8s 20 (G.hsh n salt k) = U at HS6 HH1
      have HU : Hid (U.length = 20) := by show _ = _; rw [← hU]; exact G.u8s_len _ _
      clear hU
      go_wp2_with (first
        | (at_builtin; refine wpList_append_B rfl (.const (.slice none 0 0)) (.tmp 23) rfl wr.heap.size _ [] rfl (OwnB.nil _ _) (some ⟨g, 0, none⟩) 20 32 U rfl HU.out (by exact HS6.out) (by simp) (by simp) (Nat.le_refl _) ?_; intro v6 w6 hO6 hG6; have hB6 := grown_below (OwnB.nil _ _) hG6 (Below.refl wr.heap.size wr) (Nat.le_refl _); have hI6 := hI.next hB6; have hz6 := hB6.size; have HS7 := hide (HD.out.below hI6.below (Nat.le_refl _)); clear hG6 hB6 hI HS6)
        | (at_builtin; refine wpList_append_B rfl (.tmp 24) (.tmp 25) rfl wr.heap.size _ _ rfl (by exact hO6) so m sc salt rfl hm.out (by exact HS7.out) HN.out (by simp [HU.out]; omega) (by exact hz6) ?_; intro v7 w7 hO7 hG7; have HHI : Hid (HJnv w w6 g (G.hsh n salt k)) := hI6))
      have hgw : g < wr.heap.size := hgl
      have hlw : w.heap.size ≤ wr.heap.size := by have := HHI.out.lt; omega
      have hB7 := grown_below hO6 hG7 (Below.refl wr.heap.size w6) hz6
      have hI7 : HJnv w w7 g (G.hsh n salt k) := by
        obtain ⟨c, hc, hz⟩ := HHI.out.res
        exact ⟨HHI.out.below.trans (hB7.mono hlw), ⟨c, hc.below hB7 (by have := HHI.out.lt; omega), hz⟩, HHI.out.row.below hB7 hgw, HHI.out.lt⟩
      obtain ⟨co, cc, rfl, hs8, hn8, hle8, _⟩ := hO7.open
      have hLL : (([] ++ U) ++ salt).length ≤ 20 + m := by simp [HU.out, hm.out]
      have HSM : Hid (([] ++ U) ++ salt = U ++ salt) := by show _ = _; simp
      rw [HSM.out] at hs8 hle8 hLL ⊢
      generalize hL2 : (U ++ salt).length = L2 at hle8 hLL ⊢
      have HL2 := hide hL2
      have HS8 := hide hs8
      clear hO7 hL2 hs8 hB7 hG7 hO6 HHI HS7 hI6
      go_wp2_with fail
      refine (rsum_any (U ++ salt) co L2 cc _ HL2 HS8.out hn8 (by omega)).mono ?_
      rintro e w9 ⟨rfl, hB9⟩
      have hI9 := hI7.next hB9
      rw [← HH1.out]
      have hr9 := hI9.row
      clear hB9 hI7 HS8
      go_wp2_with (refine H.wpList_store_rowAt rfl 42 (.tmp 7) (.tmp 27) rfl g _ rfl rfl 42 _ hr9 (by rw [H.rowB_size]; exact H.info24) (by rw [H.rowB_size, H.rowB_size]) (H.rowB_one _ _) ?_)
      go_roundw
      case rel => exact ⟨k + 1, by go_num, by omega, hI9.put _⟩
      case measure => simp [intOf]; omega
    · obtain rfl : k = 50 := by omega
      obtain ⟨cr, hRr, hsr⟩ := hI.res
      have hR6 := hI.row
      have hB9 := hI.below
      clear hI
      go_wp2_with (first
        | (refine wpList_load_mid rfl 33 (.tmp 29) rfl g 0 rfl (H.bsL 20 _) _ (row_range9 hR6 (by omega)) Tryd.underlying33 rfl (by rw [H.bsL_len]; exact info33) ?_)
        | (refine H.wpList_store_rowAt rfl 33 (.tmp 6) (.tmp 30) rfl w.heap.size (H.rowB 20 _) rfl rfl 33 cr hRr (by rw [H.rowB_size]; exact info33) (by rw [H.rowB_size]; exact hsr) (H.rowB_one _ _) ?_))
      exact bodyPost_ret (v := .agg (H.rowB 20 (G.hsh n salt 50))) (H.results_rowAt Tryd.results16 _ _ w.heap.size 33 _ _ rfl (H.setRow_same hRr _) Tryd.underlying33 rfl (by rw [H.rowB_size]; exact info33)) rfl ⟨rfl, H.below_setRow hB9 (Nat.le_refl _) _⟩
set_option maxRecDepth 3000 in
set_option maxHeartbeats 2000000 in
theorem rhash_lo (n : List (List UInt8)) (salt : List UInt8) (i : Int) (hi : i < 0) (ao so : Option Addr) (len cap m sc : Nat) (w : World) (hl : Hid (n.length = len)) (hm : Hid (salt.length = m)) (hs : SlS w ao n) (hss : SlL w so salt) (hn : so = none → sc = 0) (hW : Hid (Wd n)) (h2 : m ≤ 1000000) :
    Calls Tryd.prog 16 #[.slice ao len cap, .slice so m sc, .int .i64 i] w fun e w' => e = .returned (.agg (H.rowB 20 (G.hsh n salt 0))) ∧ Below w.heap.size w w' := by
  have HS := hide hs
  have HD := hide hss
  have HN := hide hn
  have harr := run_arr20
  clear hs hss hn
  go_enter Tryd.func16, Tryd.ntmps16
  go_wp2_with fail
  refine (rLower_any n ao len cap _ hl (by exact HS.out.alloc _) hW.out.1).mono ?_
  rintro e w1 ⟨v, rfl, hO, hB⟩
  have hb1 : Below w.heap.size w w1 := ((Below.refl w.heap.size w).alloc (Nat.le_refl _) _).trans (hB.mono (by simp))
  have hr1 : ∃ c, H.RowAt w1 w.heap.size 33 c ∧ c.size = 20 := ⟨_, (H.RowAt.new w 33 _).below hB (by simp), rfl⟩
  have hz1 : w.heap.size + 1 ≤ w1.heap.size := by have := hB.size; simp at this; omega
  obtain ⟨ao1, c1, rfl, hs1, _, _, _⟩ := hO.open
  have HL : Hid ((N.lowN n).length = len) := by show _ = _; rw [N.lowN_len]; exact hl.out
  have HS1 := hide hs1
  have e1 : (N.lowN n).length = len := HL.out
  rw [e1]
  clear hO hs1 e1 hB
  go_wp2_with fail
  refine (rWire_any (N.lowN n) ao1 len c1 _ HL HS1.out (low_small hW.out.1)).mono ?_
  rintro e w2 ⟨v2, rfl, hO2, hB2⟩
  have hb2 : Below w.heap.size w w2 := hb1.trans (hB2.mono (by omega))
  obtain ⟨c0, hr1, hc0⟩ := hr1
  have hr2 := hr1.below hB2 (by omega)
  have hz2 : w1.heap.size ≤ w2.heap.size := hB2.size
  have hw1 := hW.out.2
  have HH0 : Hid (G.hsh n salt 0 = G.sum (N.wire (N.lowN n) ++ salt)) := rfl
  generalize hX : N.wire (N.lowN n) = X at hO2 hw1 HH0 ⊢
  have HD2 := hide (HD.out.below hb2 (Nat.le_refl _))
  clear hB2 hX HS1 hr1 hb1
  go_wp2_with (at_builtin; refine wpList_append_B rfl (.tmp 14) (.tmp 15) rfl w1.heap.size _ X rfl (by exact hO2) so m sc salt rfl hm.out (by exact HD2.out) HN.out (by omega) (by exact hz2) ?_; intro v3 w3 hO3 hG3; have hB3 := grown_below hO2 hG3 (Below.refl w1.heap.size w2) hz2; clear hG3 hO2)
  have hb3 : Below w.heap.size w w3 := hb2.trans (hB3.mono (by omega))
  have hr3 := hr2.below hB3 (by omega)
  have hz3 := hB3.size
  obtain ⟨co, cc, rfl, hs3, hn3, hle3, _⟩ := hO3.open
  have hLL : (X ++ salt).length ≤ 1000000 + m := by rw [List.length_append, hm.out]; omega
  generalize hL2 : (X ++ salt).length = L2 at hle3 hLL ⊢
  have HL2 := hide hL2
  have HS3 := hide hs3
  clear hO3 hL2 hs3 HD2 hB3 hr2 hb2
  go_wp2_with fail
  refine (rsum_any (X ++ salt) co L2 cc _ HL2 HS3.out hn3 (by omega)).mono ?_
  rintro e w4 ⟨rfl, hB4⟩
  have hb4 : Below w.heap.size w w4 := hb3.trans (hB4.mono (by omega))
  have hr4 := hr3.below hB4 (by omega)
  have hz4 := hB4.size
  rw [← HH0.out]
  clear hB4 HS3 hb3 hr3
  go_wp2_with (refine H.wpList_store_abs rfl 42 (.tmp 7) (.tmp 17) rfl w4.heap.size _ rfl rfl 42 _ (H.RowAt.new w4 42 _) (by rw [H.rowB_size]; exact H.info24) (by rw [H.rowB_size]; rfl) (H.rowB_one _ _) w4.heap.size (Nat.le_refl _) ?_; intro w5 hR5 hO5 hz5 hB5)
  have hI5 : HJnv w w5 w4.heap.size (G.hsh n salt 0) := ⟨(hb4.alloc (by omega) _).trans (hB5.mono (by omega)), ⟨c0, hO5 _ _ _ (by omega) (hr4.alloc _), hc0⟩, hR5, by omega⟩
  generalize w4.heap.size = g at hI5
  clear hO5 hz5 hB5 hb4 hr4 hR5 hc0 hz4 hz3 hz2 hz1
  go_loopw [8] (fun z wr => ∃ k : Nat, z = .int .i64 (k : Int) ∧ k ≤ 0 ∧ HJnv w wr g (G.hsh n salt k)) (fun z _ => 0 - (intOf z).toNat)
  case atStart => exact ⟨0, rfl, by omega, hI5⟩
  case round =>
    clear hI5
    obtain ⟨k, rfl, hk, hI⟩ := hrel
    have hgl := hI.row.lt
    have hlt : ¬ k < 0 := by omega
    · obtain rfl : k = 0 := by omega
      obtain ⟨cr, hRr, hsr⟩ := hI.res
      have hR6 := hI.row
      have hB9 := hI.below
      clear hI
      go_wp2_with (first
        | (refine wpList_load_mid rfl 33 (.tmp 29) rfl g 0 rfl (H.bsL 20 _) _ (row_range9 hR6 (by omega)) Tryd.underlying33 rfl (by rw [H.bsL_len]; exact info33) ?_)
        | (refine H.wpList_store_rowAt rfl 33 (.tmp 6) (.tmp 30) rfl w.heap.size (H.rowB 20 _) rfl rfl 33 cr hRr (by rw [H.rowB_size]; exact info33) (by rw [H.rowB_size]; exact hsr) (H.rowB_one _ _) ?_))
      exact bodyPost_ret (v := .agg (H.rowB 20 (G.hsh n salt 0))) (H.results_rowAt Tryd.results16 _ _ w.heap.size 33 _ _ rfl (H.setRow_same hRr _) Tryd.underlying33 rfl (by rw [H.rowB_size]; exact info33)) rfl ⟨rfl, H.below_setRow hB9 (Nat.le_refl _) _⟩
set_option maxRecDepth 5000 in
theorem rhash_any (n : List (List UInt8)) (salt : List UInt8) (i : Int) (ao so : Option Addr) (len cap m sc : Nat) (w : World) (hi : i ≤ 9223372036854775807) (hl : Hid (n.length = len)) (hm : Hid (salt.length = m)) (hs : SlS w ao n) (hss : SlL w so salt) (hn : so = none → sc = 0) (hW : Hid (Wd n)) (h2 : m ≤ 1000000) :
    Calls Tryd.prog 16 #[.slice ao len cap, .slice so m sc, .int .i64 i] w fun e w' => e = .returned (.agg (H.rowB 20 (G.hsh n salt (G.rds i)))) ∧ Below w.heap.size w w' := by
  rcases (show i < 0 ∨ (0 ≤ i ∧ i ≤ 50) ∨ 50 < i by omega) with h | ⟨h, h3⟩ | h
  · have e : G.rds i = 0 := by have := rds_lo h; omega
    rw [e]
    exact rhash_lo n salt i h ao so len cap m sc w hl hm hs hss hn hW h2
  · obtain ⟨R, rfl⟩ : ∃ R : Nat, i = (R : Int) := ⟨i.toNat, by omega⟩
    have e : G.rds (R : Int) = R := by have := rds_mid h h3; omega
    rw [e]
    exact rhash_mid n salt R (by omega) ao so len cap m sc w hl hm hs hss hn hW h2
  · have e : G.rds i = 50 := by have := rds_hi h; omega
    rw [e]
    exact rhash_hi n salt i h hi ao so len cap m sc w hl hm hs hss hn hW h2
end Go.Proofs.YtgmjppmcfmcmkaaDoor
