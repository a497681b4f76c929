/- Tree.Sign. -/
import Derived.Test.YtpiehjfoojipiaaDoorTrl
namespace Go.Proofs.YtpiehjfoojipiaaDoor
open Go.RowKit
set_option maxRecDepth 5000 in
theorem nat_xor_one (p : Nat) : p ^^^ 1 = T.sib p := by
  have h1 : (p ^^^ 1) / 2 = p / 2 := by rw [Nat.xor_div_two]; simp
  have h2 : ((p ^^^ 1) % 2 = 1) ↔ ¬ ((p % 2 = 1) ↔ (1 % 2 = 1)) := Nat.xor_mod_two_eq_one
  generalize p ^^^ 1 = y at h1 h2
  unfold T.sib
  by_cases e : p % 2 = 0
  · rw [if_pos e]
    have h3 : y % 2 = 1 := h2.2 (by omega)
    omega
  · rw [if_neg e]
    have h3 : ¬ y % 2 = 1 := fun h => by have := h2.1 h; omega
    omega
set_option maxRecDepth 5000 in
theorem xor_one (p : Nat) (h : p < 4294967296) : bits .xor .u32 (p : Int) 1 = (T.sib p : Int) := by
  have h1 := w_xor (BitVec.ofNat 32 p) 1
  rw [BitVec.toNat_ofNat, Nat.mod_eq_of_lt (by omega)] at h1
  have h2 : (Sha.xor (BitVec.ofNat 32 p) 1).toNat = T.sib p := by
    unfold Sha.xor
    rw [BitVec.toNat_xor, BitVec.toNat_ofNat, Nat.mod_eq_of_lt (by omega)]
    exact nat_xor_one p
  rw [h2] at h1
  exact h1
set_option maxRecDepth 5000 in
theorem sib_lt (h leaf k : Nat) (hk : k < h) (hl : leaf < 2 ^ h) : T.sib (leaf / 2 ^ k) < 2 ^ (h - k) := by
  have h1 : leaf / 2 ^ k < 2 ^ (h - k) := by
    rw [Nat.div_lt_iff_lt_mul (Nat.pow_pos (by omega)), ← Nat.pow_add, show h - k + k = h by omega]; exact hl
  have h2 : 2 ^ (h - k) = 2 * 2 ^ (h - k - 1) := by
    rw [← Nat.pow_succ', show (h - k - 1).succ = h - k by omega]
  unfold T.sib
  generalize leaf / 2 ^ k = p at h1
  generalize 2 ^ (h - k - 1) = q at h2
  rw [h2] at h1 ⊢
  split <;> omega
set_option maxRecDepth 5000 in
theorem sign_bad (f : Nat → BitVec 8) (h t leaf : Nat) (ao : Option Addr) (n c : Nat) (w : World) (hh : h ≤ 10) (H : TreeAt w t f h) (hl : 2 ^ h ≤ leaf) :
    Calls Tryd.prog 15 #[.pointer (some ⟨t, 0, none⟩), .int .u32 (leaf : Int), .slice ao n c] w fun e w' => e = .returned (.tuple #[.slice none 0 0, .int .i64 70]) ∧ w' = w := by
  have HC := hide (leaves_any f h t w hh H)
  generalize 2 ^ h = N at hl HC
  have q : decide ((N : Int) ≤ (leaf : Int)) = true := by simp; omega
  clear H
  go_enter Tryd.func15, Tryd.ntmps15
  go_wp2_with (go_at_call 14; refine (HC.out).mono ?_; rintro e w' ⟨rfl, hw'⟩; rw [hw']; clear hw' w')
  go_ret2
  exact ⟨rfl, rfl⟩
/- what a call keeps: the tree, as it was; all below -/
structure SInv (t : Nat) (f : Nat → BitVec 8) (h : Nat) (w wr : World) : Prop where
  below : Below w.heap.size w wr
  tree : TreeAt wr t f h
set_option maxRecDepth 5000 in
theorem SInv.next {t : Nat} {f : Nat → BitVec 8} {h : Nat} {w wr w' : World} (H : SInv t f h w wr) (H0 : TreeAt w t f h) (hb : Below w.heap.size wr w') : SInv t f h w w' :=
  ⟨H.below.trans hb, H0.below (H.below.trans hb)⟩
set_option maxRecDepth 3000 in
set_option maxHeartbeats 2000000 in
theorem sign_ok (f : Nat → BitVec 8) (h t leaf : Nat) (m : List (BitVec 8)) (ao : Option Addr) (n c : Nat) (w : World) (hh : h ≤ 10) (H : TreeAt w t f h) (hl : leaf < 2 ^ h) (hm : Hid (m.length = n)) (hs : SlL w ao m) (hnc : n ≤ c) (hn : n < 1000000) (hT : Tab w) :
    Calls Tryd.prog 15 #[.pointer (some ⟨t, 0, none⟩), .int .u32 (leaf : Int), .slice ao n c] w fun e w' => ∃ v, e = .returned (.tuple #[v, .int .i64 0]) ∧ OwnB w' w.heap.size v (T.sig f h leaf m) ∧ Below w.heap.size w w' := by
  obtain ⟨i0, hi, hz0, hz1, hz2⟩ := info_parts info5
  have HH := hide H
  have HS := hide hs
  have HT := hide hT
  have hT0 := hT.1
  have HC := hide (leaves_any f h t w hh H)
  have HL := hide hl
  have hp10 := pow_le10 h hh
  have h32 : leaf < 4294967296 := by omega
  obtain ⟨L, cc, hc, h1, h2, h3⟩ := H.levels
  have htl := H.lt
  obtain ⟨K, hK1, hK2, HK⟩ : ∃ K : Nat, K ≤ h + 1 ∧ h + 1 ≤ K ∧ Hid (h + 1 = K) := ⟨h + 1, Nat.le_refl _, Nat.le_refl _, hide rfl⟩
  rw [HK.out] at hc
  have HLV := hide h3
  have HSD := hide H.seed
  have q0 : decide (2 ^ h ≤ leaf) = false := by simp only [decide_eq_false_iff_not]; omega
  generalize 2 ^ h = N at hl HC q0 hp10
  have hsub : IntKind.i64.wrap ((K : Int) - 1) = (h : Int) := by rw [IntKind.wrap_i64]; omega
  have hhc : (h : Int) ≤ (cc : Int) := by omega
  clear h3 H hs hT hl
  go_enter Tryd.func15, Tryd.ntmps15
  go_wp2_with (go_at_call 14; refine (HC.out).mono ?_; rintro e w' ⟨rfl, hw'⟩; rw [hw']; clear hw' w')
  go_quiet (fail)
  generalize hw1 : w.drewN nq = w1
  have HB1 : Hid (Below w.heap.size w w1) := by rw [← hw1]; exact below_drewN' _ _
  clear hw1 hsub hhc hc
  obtain ⟨H8, e81, e82⟩ : ∃ H8 : Nat, H8 ≤ 8 * h ∧ 8 * h ≤ H8 := ⟨8 * h, Nat.le_refl _, Nat.le_refl _⟩
  obtain ⟨SZ, es1, es2⟩ : ∃ SZ : Nat, SZ ≤ 516 + H8 ∧ 516 + H8 ≤ SZ := ⟨516 + H8, Nat.le_refl _, Nat.le_refl _⟩
  have hm1 : IntKind.i64.wrap ((h : Int) * 8) = (H8 : Int) := by rw [IntKind.wrap_i64]; omega
  have hm2 : IntKind.i64.wrap (516 + (H8 : Int)) = (SZ : Int) := by rw [IntKind.wrap_i64]; omega
  have hbz1 := HB1.out.size
  have hr1 := rangeAt_block HSD.out (HB1.out.block t htl)
  go_wp2_with (first
    | (at_make; go_must (refine wpList_make_own _ rfl (.const (.int .i64 0)) (.tmp 32) 34 rfl w.heap.size 5 i0 (.int .u8 0) 1 Tryd.underlying34 hi hz0 hz1 .i64 .i64 (SZ : Int) SZ rfl rfl rfl (by rw [hz2]; omega) (by unfold maxLen; omega) (by exact hbz1) ?_); intro w2 hO2 hG2; go_must (have HB2 := hide (HB1.out.trans ((Below.refl w1.heap.size w1).grown hG2 (Nat.le_refl _) (fun k hk => by cases hk) |>.mono hbz1)); have hbz2 := HB2.out.size; have HO2 : Hid (OwnB w2 w.heap.size (.slice (some ⟨w1.heap.size, 0, none⟩) 0 SZ) []) := (by simpa [OwnB, vb, Hid] using hO2)); clear hG2 hO2)
    | (at_builtin; refine wpList_append_B rfl (.tmp 34) (.tmp 46) rfl w.heap.size _ [] rfl (by exact HO2.out.alloc _) _ 4 4 (Sha.len4 leaf) rfl rfl (SlL.four w2 leaf h32 5 _ _ _ _ (by first | rfl | omega) (by first | rfl | omega) (by first | rfl | omega) (by first | rfl | omega)) (by simp) (by simp) (by simp; omega) ?_; intro v3 w3 hO3 hG3; have HB3 := hide (HB2.out.trans (grown_below (HO2.out.alloc _) hG3 ((Below.refl _ _).alloc hbz2 _) (by simp; omega))); have HO3 := hide hO3; clear hO3 hG3)
    | (refine wpList_load_mid rfl 22 (.tmp 51) rfl t 0 rfl (bsL 8 f) _ (by exact rangeAt_block HSD.out (HB3.out.block t htl)) Tryd.underlying22 rfl (by rw [bsL_len]; exact info28) ?_))
  obtain ⟨G, HG⟩ : ∃ G, Hid (O.sigL f leaf (O.dig m) 32 = G) := ⟨_, hide rfl⟩
  have HGl : Hid (G.length = 512) := by show _ = _; rw [← HG.out, O.sigL_len]
  refine (sign_any f leaf m ao n c _ hm (by exact HS.out.below HB3.out (Nat.le_refl _)) hnc (by omega) h32 (by exact HT.out.below HB3.out hT0)).mono ?_
  rintro e w4 ⟨v4, rfl, hM4, hB4⟩
  rw [HG.out] at hM4
  obtain ⟨g4, c4, rfl, _, _, hS4⟩ := hM4.at512 HGl.out
  have HS4 := hide hS4
  have HO4 := hide (HO3.out.below hB4)
  have HB4 := hide (HB3.out.trans (hB4.mono HB3.out.size))
  have hbz4 := HB4.out.size
  clear hM4 hB4 hS4 hr1
  go_wp2_with (at_builtin; refine wpList_append_B rfl (.tmp 48) (.tmp 55) rfl w.heap.size _ _ rfl (by exact HO4.out) _ 512 c4 G rfl HGl.out (by exact HS4.out) (by simp) (by simp [Sha.len4]) (by exact hbz4) ?_; intro v5 w5 hO5 hG5; have HB5 := hide (HB4.out.trans (grown_below HO4.out hG5 (Below.refl _ _) hbz4)); have HO5 := hide hO5; clear hO5 hG5)
  go_loopw [9, 10, 60] (fun s9 s10 s60 wz => ∃ k p : Nat, k ≤ h ∧ s60 = .int .i64 (k : Int) ∧ s10 = .int .u32 (p : Int) ∧ Hid (leaf / 2 ^ k = p) ∧ Hid (OwnB wz w.heap.size s9 (Sha.len4 leaf ++ G ++ T.sis f leaf 0 k)) ∧ Hid (Below w.heap.size w wz)) (fun _ _ s60 _ => h - (intOf s60).toNat)
  case atStart => exact ⟨0, leaf, by omega, rfl, rfl, by show _ = _; simp, by simpa [T.sis] using HO5, HB5⟩
  case round =>
    clear HO5 HB5 HO4 HB4 HO3 HB3 HO2 HB2
    obtain ⟨k, p, hk, rfl, rfl, HP, HO, HB⟩ := hrel
    have hzr := HB.out.size
    have HLen : Hid ((Sha.len4 leaf ++ G ++ T.sis f leaf 0 k).length = 516 + 8 * k) := by show _ = _; rw [List.length_append, List.length_append, T.len4_len, HGl.out, T.sis_len]
    by_cases hlt : k < h
    · obtain ⟨g, d, hd, hd2, hg, hrg⟩ := HLV.out k (by omega)
      have hsl := sib_lt h leaf k hlt HL.out
      rw [HP.out] at hsl
      have hple : p ≤ leaf := by rw [← HP.out]; exact Nat.div_le_self _ _
      have hx := xor_one p (by omega)
      obtain ⟨S, HSb⟩ : ∃ S, Hid (T.sib p = S) := ⟨_, hide rfl⟩
      rw [HSb.out] at hx hsl
      have hrS := hrg S hsl
      obtain ⟨F, HF⟩ : ∃ F, Hid (T.nd f k S = F) := ⟨_, hide rfl⟩
      rw [HF.out] at hrS
      have HRS := hide (rangeAt_block hrS (HB.out.block g hg))
      generalize 2 ^ (h - k) = N2 at hd hd2 hsl hrg
      have hcl := (HB.out.cell (p := ⟨L, k, none⟩) h2).trans hd
      have q1 : decide ((k : Int) < (h : Int)) = true := by simpa using hlt
      have i1 : (k : Int) < (h : Int) := by omega
      have i2 : (S : Int) < (N2 : Int) := by omega
      obtain ⟨p2, HP2⟩ : ∃ p2, Hid (p / 2 = p2) := ⟨_, hide rfl⟩
      have hq : Int.tdiv (p : Int) 2 = (p2 : Int) := by have := HP2.out; rw [Int.tdiv_eq_ediv_of_nonneg (by omega)]; omega
      have hp2 : p2 < 4294967296 := by have := HP2.out; omega
      clear hrg hrS hd hd2 hsl
      go_wp2_with (first
        | (refine wpList_load_mid rfl 58 (.tmp 67) rfl g (S * 8) rfl (bsL 8 F) _ (by exact HRS.out) Tryd.underlying58 rfl (by rw [bsL_len]; exact info58) ?_)
        | (refine wpList_store_abs rfl 58 (.tmp 13) (.tmp 68) rfl wr.heap.size (rowB 8 F) rfl rfl 58 _ (RowAt.new wr 58 _) (by rw [rowB_size]; exact info58) (by rw [rowB_size]; rfl) (rowB_one _ _) wr.heap.size (Nat.le_refl _) ?_; intro w6 hR6 hO6 hz6 hB6; have hb6 : Below wr.heap.size wr w6 := ((Below.refl _ _).alloc (Nat.le_refl _) _).trans hB6; have HO6 := hide (HO.out.below hb6); have HB6 := hide (HB.out.trans (hb6.mono hzr)); have hz6' := HB6.out.size; have HR6 := hide hR6; clear hO6 hz6 hB6 hb6 hR6)
        | (at_builtin; refine wpList_append_B rfl (.tmp 69) (.tmp 70) rfl w.heap.size _ _ rfl (by exact HO6.out) _ 8 8 (O.lst F) rfl (O.lst_len _) (by exact HR6.out.sl8) (by simp) (by rw [HLen.out]; omega) (by exact hz6') ?_; intro v7 w7 hO7 hG7; have HB7 := hide (HB6.out.trans (grown_below HO6.out hG7 (Below.refl _ _) hz6')); have HO7 := hide hO7; clear hO7 hG7))
      refine ⟨⟨k + 1, p2, by omega, by go_num, by first | rfl | go_num, ?_, ?_, HB7⟩, by simp [intOf]; omega⟩
      · show _ = _
        rw [← HP2.out, ← HP.out, Nat.div_div_eq_div_mul, Nat.pow_succ]
      · have h7 := HO7.out
        show OwnB _ _ _ _
        rw [T.sis_succ, Nat.zero_add, HP.out, HSb.out, HF.out, ← List.append_assoc]
        exact h7
    · obtain rfl : k = h := by omega
      have q1 : decide ((k : Int) < (k : Int)) = false := by simp
      go_wp2
      go_ret2
      refine ⟨_, rfl, ?_, HB.out⟩
      unfold T.sig
      rw [HG.out]; exact HO.out
end Go.Proofs.YtpiehjfoojipiaaDoor
