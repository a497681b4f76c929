/- The law TreePaths. -/
import Derived.Test.YtpiehjfoojipiaaDoorKno
import Derived.Test.YtpiehjfoojipiaaDoorRnd
namespace Go.Proofs.YtpiehjfoojipiaaDoor
open Go.RowKit
set_option maxRecDepth 5000 in
theorem sis_drop (f : Nat → BitVec 8) (leaf : Nat) : ∀ (i n k : Nat), i ≤ n → (T.sis f leaf k n).drop (8 * i) = T.sis f leaf (k + i) (n - i)
  | 0, n, k, _ => by simp
  | i + 1, 0, k, h => by omega
  | i + 1, n + 1, k, h => by
    rw [T.sis, List.drop_append, List.drop_of_length_le (by rw [O.lst_len]; omega), O.lst_len, List.nil_append, show 8 * (i + 1) - 8 = 8 * i by omega, sis_drop f leaf i n (k + 1) (by omega), show k + 1 + i = k + (i + 1) by omega, show n + 1 - (i + 1) = n - i by omega]
set_option maxRecDepth 5000 in
theorem sig_sis (f : Nat → BitVec 8) (h leaf : Nat) (m : List (BitVec 8)) (i : Nat) (hi : i < h) : ((T.sig f h leaf m).drop (516 + 8 * i)).take 8 = O.lst (T.nd f i (T.sib (leaf / 2 ^ i))) := by
  rw [← List.drop_drop, sig_end, sis_drop f leaf i h 0 (by omega), Nat.zero_add, show h - i = (h - i - 1) + 1 by omega, T.sis, List.take_append_of_le_length (by rw [O.lst_len]; omega), List.take_of_length_le (by rw [O.lst_len]; omega)]
/- the levels that signetref7.Nodes made, in memory -/
def NdAt (w : World) (b : Nat) (f : Nat → BitVec 8) (h : Nat) : Prop := b < w.heap.size ∧ ∀ k, k ≤ h → ∃ g d, w.cell? ⟨b, k, none⟩ = some (.slice (some ⟨g, 0, none⟩) (2 ^ (h - k)) d) ∧ g < w.heap.size ∧ ∀ i, i < 2 ^ (h - k) → w.rangeAt g (i * 8) (bsL 8 (T.nd f k i))
set_option maxRecDepth 5000 in
theorem NdAt.below {w w' : World} {b : Nat} {f : Nat → BitVec 8} {h : Nat} (H : NdAt w b f h) (hb : Below w.heap.size w w') : NdAt w' b f h := by
  refine ⟨Nat.lt_of_lt_of_le H.1 hb.size, fun k hk => ?_⟩
  obtain ⟨g, d, h1, h2, h3⟩ := H.2 k hk
  exact ⟨g, d, by rw [hb.cell (p := ⟨b, k, none⟩) H.1]; exact h1, Nat.lt_of_lt_of_le h2 hb.size, fun i hi => rangeAt_block (h3 i hi) (hb.block g h2)⟩
set_option maxRecDepth 5000 in
theorem nodes_at {w : World} {base : Nat} {u : Value} {xs : List Value} {f : Nat → BitVec 8} {h : Nat} (ho : w.ownsRow base 49 1 u (h + 1) xs) (hx : LevA w f h h xs) : ∃ b c, u = .slice (some ⟨b, 0, none⟩) (h + 1) c ∧ NdAt w b f h := by
  have h0 := ho
  rcases ho.2 with ⟨_, h'⟩ | ⟨b, cap, cur, rfl, hb, hg, hc, hm, _, _⟩
  · omega
  · refine ⟨b, cap, rfl, (Array.getElem?_eq_some_iff.1 hg).1, fun k hk => ?_⟩
    obtain ⟨v, hv⟩ : ∃ v, xs[k]? = some v := ⟨_, List.getElem?_eq_getElem (by rw [hx.1]; omega)⟩
    have h1 := World.ownsRow.cells h0 (g := b) rfl k v hv
    rw [Addr.add_mid, Nat.zero_add] at h1
    obtain ⟨g, d, cu, rfl, h6, h7, h8⟩ := hx.2 k v hv
    rw [levL_len] at h1 h8
    refine ⟨g, d, h1, (Array.getElem?_eq_some_iff.1 h7).1, fun i hi => ?_⟩
    have := h8 i hi
    rwa [levL_get f k _ i hi, Nat.mul_comm] at this
structure PT (w : World) (t b g : Nat) (f : Nat → BitVec 8) (H : Nat) (L : List (BitVec 8)) (wr : World) : Prop where
  below : Below w.heap.size w wr
  tree : TreeAt wr t f H
  nds : NdAt wr b f H
  sl : SlL wr (some ⟨g, 0, none⟩) L
set_option maxRecDepth 5000 in
theorem PT.called {w : World} {t b g : Nat} {f : Nat → BitVec 8} {H : Nat} {L : List (BitVec 8)} {wr w' : World} (h : PT w t b g f H L wr) (hb : Below wr.heap.size wr w') : PT w t b g f H L w' :=
  ⟨below_call h.below hb, h.tree.below hb, h.nds.below hb, h.sl.below hb (Nat.le_refl _)⟩
set_option maxRecDepth 5000 in
theorem run_eqr (F : Nat → BitVec 8) (w : World) : (Op.equalIn 10000 22 (.agg (rowB 8 F)) (.agg #[.int .u8 (F 0).toNat, .int .u8 (F 1).toNat, .int .u8 (F 2).toNat, .int .u8 (F 3).toNat, .int .u8 (F 4).toNat, .int .u8 (F 5).toNat, .int .u8 (F 6).toNat, .int .u8 (F 7).toNat])).run Tryd.prog w = .ok true w := by rw [lit8]; exact run_eqB_same Tryd.underlying22 F w
set_option maxRecDepth 3000 in
set_option maxHeartbeats 1000000 in
theorem paths_walk (f : Nat → BitVec 8) (h0 : Int) (lf : Nat) (m : List (BitVec 8)) (ao : Option Addr) (n cap : Nat) (w : World) (hlf : lf < 4294967296) (hl : Hid (m.length = n)) (hs : SlL w ao m) (hc : n ≤ cap) (hT : Tab w) :
    Calls Tryd.prog 7 #[.agg (rowB 8 f), .int .i64 h0, .int .u32 (lf : Int), .slice ao n cap] w fun e w' => e = .returned (.bool true) ∧ Below w.heap.size w w' := by
  have hT0 := hT.1
  have HT := hide hT
  have HS := hide hs
  have hb0 : Below w.heap.size w (w.alloc (.cells (rowB 8 f) 22)) := (Below.refl _ _).alloc (Nat.le_refl _) _
  have HB0 := hide hb0
  have HR0 := hide (RowAt.new w 22 (rowB 8 f))
  have HTa := hide (hT.alloc (.cells (rowB 8 f) 22))
  clear hs hT hb0
  by_cases hbig : 100 < n
  · have q : decide ((100 : Int) < (n : Int)) = true := by simp; omega
    go_enter Tryd.func7, Tryd.ntmps7
    go_wp2_with ((go_at_call 9; refine (known_any _ (by exact HTa.out)).mono ?_; rintro e w1 ⟨rfl, hB1⟩; have HB1 := hide (HB0.out.trans (hB1.mono (by simp))); have HR1 := hide (HR0.out.below hB1 (by simp)); clear hB1))
    go_ret
    exact ⟨rfl, HB1.out⟩
  have q : decide ((100 : Int) < (n : Int)) = false := by simp; omega
  go_enter Tryd.func7, Tryd.ntmps7
  go_wp2_with ((go_at_call 9; refine (known_any _ (by exact HTa.out)).mono ?_; rintro e w1 ⟨rfl, hB1⟩; have HB1 := hide (HB0.out.trans (hB1.mono (by simp))); have HR1 := hide (HR0.out.below hB1 (by simp)); clear hB1))
  refine (place_any h0 5 _ (by omega) (by omega)).mono ?_
  rintro e w' ⟨H, hH, rfl, hw'⟩
  rw [hw']; clear hw' w'
  obtain ⟨N, HN⟩ : ∃ N, Hid (2 ^ H = N) := ⟨_, hide rfl⟩
  have hpw := pow_le10 H (by omega)
  have hpos : 0 < 2 ^ H := Nat.pow_pos (by omega)
  have hm32 : min H 32 = H := by omega
  have hw0 : IntKind.u32.wrap ((2 : Int) ^ H) = (N : Int) := by
    have : ((2 : Int) ^ H) = ((2 ^ H : Nat) : Int) := by simp
    rw [this, HN.out, IntKind.wrap_u32]
    rw [HN.out] at hpw
    omega
  rw [HN.out] at hpw hpos
  obtain ⟨LF, hLF, HLF, HLFN⟩ : ∃ LF : Nat, LF < 2 ^ H ∧ Hid (lf % N = LF) ∧ (LF < N) := ⟨lf % N, by rw [HN.out]; exact Nat.mod_lt _ hpos, hide rfl, Nat.mod_lt _ hpos⟩
  have hmod : Int.tmod (lf : Int) (N : Int) = (LF : Int) := by rw [Int.tmod_eq_emod_of_nonneg (by omega), ← Int.natCast_emod, HLF.out]
  have hNz : ¬ ((N : Int) = 0) := by omega
  have HLFP := hide hLF
  clear hLF
  go_wp2_with ((refine wpList_load_rowAt rfl 22 (.tmp 4) rfl w.heap.size rfl 22 _ _ (by exact HR1.out) Tryd.underlying22 rfl (by rw [rowB_size]; exact info28) ?_))
  refine (new_any f H _ (by omega) (by exact HT.out.below HB1.out hT0)).mono ?_
  rintro e w2 ⟨t, rfl, hT2, _, hB2⟩
  have HT2 := hide hT2
  have HR2 := hide (HR1.out.below hB2 HR1.out.lt)
  have HB2 := hide (below_call HB1.out hB2)
  clear hT2 hB2
  obtain ⟨R, HR⟩ : ∃ R, Hid (T.nd f H 0 = R) := ⟨_, hide rfl⟩
  obtain ⟨L, HL⟩ : ∃ L, Hid (T.sig f H LF m = L) := ⟨_, hide rfl⟩
  obtain ⟨NS, ns1, ns2⟩ : ∃ NS : Nat, NS ≤ 516 + 8 * H ∧ 516 + 8 * H ≤ NS := ⟨516 + 8 * H, Nat.le_refl _, Nat.le_refl _⟩
  obtain ⟨H8, e81, e82⟩ : ∃ H8 : Nat, H8 ≤ 8 * H ∧ 8 * H ≤ H8 := ⟨8 * H, Nat.le_refl _, Nat.le_refl _⟩
  have HLl : Hid (L.length = NS) := by show _ = _; rw [← HL.out, T.sig_len]; omega
  have hm1 : IntKind.i64.wrap (8 * (H : Int)) = (H8 : Int) := by rw [IntKind.wrap_i64]; omega
  have hm2 : IntKind.i64.wrap (516 + (H8 : Int)) = (NS : Int) := by rw [IntKind.wrap_i64]; omega
  go_wp2_with fail
  refine (sign_ok f H t LF m ao n cap _ (by omega) (by exact HT2.out) HLFP.out hl (by exact HS.out.below HB2.out (Nat.le_refl _)) hc (by omega) (by exact HT.out.below HB2.out hT0)).mono ?_
  rintro e w3 ⟨v3, rfl, hO3, hB3⟩
  rw [HL.out] at hO3
  obtain ⟨g, c, rfl, _, hgc, hS3⟩ := sig_form hO3 HLl.out (by omega)
  have HG3 := hide hS3
  have HT3 := hide (HT2.out.below hB3)
  have HR3 := hide (HR2.out.below hB3 HR2.out.lt)
  have HB3 := hide (below_call HB2.out hB3)
  clear hO3 hB3 hS3
  go_wp2_with ((refine wpList_load_rowAt rfl 22 (.tmp 4) rfl w.heap.size rfl 22 _ _ (by exact HR3.out) Tryd.underlying22 rfl (by rw [rowB_size]; exact info28) ?_))
  refine (nodes_any f H _ (by omega)).mono ?_
  rintro e w4 ⟨u, xs, rfl, hO4, hX4, hB4⟩
  obtain ⟨b, cb, rfl, hN4⟩ := nodes_at hO4 hX4
  have HP4 : Hid (PT w t b g f H L w4) := ⟨below_call HB3.out hB4, HT3.out.below hB4, hN4, HG3.out.below hB4 (Nat.le_refl _)⟩
  clear hO4 hX4 hB4 hN4 hm1 hm2 hw0 hmod
  obtain ⟨K, hK1, hK2, HK⟩ : ∃ K : Nat, K ≤ H + 1 ∧ H + 1 ≤ K ∧ Hid (H + 1 = K) := ⟨H + 1, Nat.le_refl _, Nat.le_refl _, hide rfl⟩
  rw [HK.out]
  go_wp2
  go_loopw [14] (fun s14 wz => ∃ i : Nat, i ≤ H ∧ s14 = .int .i64 (i : Int) ∧ Hid (PT w t b g f H L wz)) (fun s14 _ => H - (intOf s14).toNat)
  case atStart => exact ⟨0, by omega, rfl, HP4⟩
  case round =>
    clear HP4
    obtain ⟨i, hi, rfl, HP⟩ := hrel
    by_cases hlt : i < H
    · have q1 : decide ((i : Int) < (H : Int)) = true := by simpa using hlt
      have i1 : (i : Int) < (K : Int) := by omega
      obtain ⟨gk, d, hd, hgk, hrg⟩ := HP.out.nds.2 i (by omega)
      have hbl := HP.out.nds.1
      have hsl := sib_lt H LF i hlt HLFP.out
      obtain ⟨p, HPp⟩ : ∃ p, Hid (LF / 2 ^ i = p) := ⟨_, hide rfl⟩
      have hple : p ≤ LF := by rw [← HPp.out]; exact Nat.div_le_self _ _
      have hshr : ((LF : Int) / 2 ^ i) = (p : Int) := by rw [← HPp.out, Int.natCast_ediv, Int.natCast_pow]; rfl
      rw [HPp.out] at hsl
      have hx := xor_one p (by omega)
      obtain ⟨S, HSb⟩ : ∃ S, Hid (T.sib p = S) := ⟨_, hide rfl⟩
      rw [HSb.out] at hx hsl
      have hrS := hrg S hsl
      obtain ⟨F, HF⟩ : ∃ F, Hid (T.nd f i S = F) := ⟨_, hide rfl⟩
      rw [HF.out] at hrS
      have HFL : Hid ((L.drop (516 + 8 * i)).take 8 = O.lst F) := by show _ = _; rw [← HL.out, sig_sis f H LF m i hlt, HPp.out, HSb.out, HF.out]
      generalize 2 ^ (H - i) = N2 at hd hsl hrg
      have i2 : (S : Int) < (N2 : Int) := by omega
      have hmi : min i 32 = i := by omega
      have HSX : Hid (∀ W, Below wr.heap.size wr W → PT w t b g f H L W ∧ W.cell? ⟨b, i, none⟩ = some (.slice (some ⟨gk, 0, none⟩) N2 d) ∧ W.cell? ⟨gk, S * 8, none⟩ = some (.int .u8 (F 0).toNat) ∧ W.cell? ⟨gk, S * 8 + 1, none⟩ = some (.int .u8 (F 1).toNat) ∧ W.cell? ⟨gk, S * 8 + 2, none⟩ = some (.int .u8 (F 2).toNat) ∧ W.cell? ⟨gk, S * 8 + 3, none⟩ = some (.int .u8 (F 3).toNat) ∧ W.cell? ⟨gk, S * 8 + 4, none⟩ = some (.int .u8 (F 4).toNat) ∧ W.cell? ⟨gk, S * 8 + 5, none⟩ = some (.int .u8 (F 5).toNat) ∧ W.cell? ⟨gk, S * 8 + 6, none⟩ = some (.int .u8 (F 6).toNat) ∧ W.cell? ⟨gk, S * 8 + 7, none⟩ = some (.int .u8 (F 7).toNat)) := fun W hb => by
        refine ⟨HP.out.called hb, (hb.cell (p := ⟨b, i, none⟩) hbl).trans hd, ?_⟩
        exact cells_of (rangeAt_block hrS (hb.block gk hgk))
      have hI9 : Below wr.heap.size wr (wr.alloc (.cells #[.int .u8 (F 0).toNat, .int .u8 (F 1).toNat, .int .u8 (F 2).toNat, .int .u8 (F 3).toNat, .int .u8 (F 4).toNat, .int .u8 (F 5).toNat, .int .u8 (F 6).toNat, .int .u8 (F 7).toNat] 22)) := (Below.refl _ _).alloc (Nat.le_refl _) _
      have HI9 := hide hI9
      clear hrg hrS hd hI9
      go_wp2_with fail
      go_region_held3 (fun w' => PT w t b g f H L w' ∧ w'.cell? ⟨b, i, none⟩ = some (.slice (some ⟨gk, 0, none⟩) N2 d) ∧ w'.cell? ⟨gk, S * 8, none⟩ = some (.int .u8 (F 0).toNat) ∧ w'.cell? ⟨gk, S * 8 + 1, none⟩ = some (.int .u8 (F 1).toNat) ∧ w'.cell? ⟨gk, S * 8 + 2, none⟩ = some (.int .u8 (F 2).toNat) ∧ w'.cell? ⟨gk, S * 8 + 3, none⟩ = some (.int .u8 (F 3).toNat) ∧ w'.cell? ⟨gk, S * 8 + 4, none⟩ = some (.int .u8 (F 4).toNat) ∧ w'.cell? ⟨gk, S * 8 + 5, none⟩ = some (.int .u8 (F 5).toNat) ∧ w'.cell? ⟨gk, S * 8 + 6, none⟩ = some (.int .u8 (F 6).toNat) ∧ w'.cell? ⟨gk, S * 8 + 7, none⟩ = some (.int .u8 (F 7).toNat))
        (first | exact HSX.out _ (Below.refl _ _) | exact HSX.out _ (Below.refl _ _).drew | exact HSX.out _ ((Below.refl _ _).drew.alloc (Nat.le_refl _) _) | exact HSX.out _ ((Below.refl _ _).alloc (Nat.le_refl _) _).drew | exact HSX.out _ HI9.out.drew | fail)
        (fail)
      have HR6 : Hid (RowAt (wr.alloc (.cells #[.int .u8 (F 0).toNat, .int .u8 (F 1).toNat, .int .u8 (F 2).toNat, .int .u8 (F 3).toNat, .int .u8 (F 4).toNat, .int .u8 (F 5).toNat, .int .u8 (F 6).toNat, .int .u8 (F 7).toNat] 22)).drew wr.heap.size 22 (rowB 8 F)) := by
        show RowAt _ _ _ _
        rw [← lit8]; exact (RowAt.new wr 22 _).drew
      have HP6 := hide (HP.out.called HI9.out.drew)
      generalize (wr.alloc (.cells #[.int .u8 (F 0).toNat, .int .u8 (F 1).toNat, .int .u8 (F 2).toNat, .int .u8 (F 3).toNat, .int .u8 (F 4).toNat, .int .u8 (F 5).toNat, .int .u8 (F 6).toNat, .int .u8 (F 7).toNat] 22)).drew = w6 at HR6 HP6 ⊢
      obtain ⟨A8, a81, a82⟩ : ∃ A8 : Nat, A8 ≤ 8 * i ∧ 8 * i ≤ A8 := ⟨8 * i, Nat.le_refl _, Nat.le_refl _⟩
      obtain ⟨AT, at1, at2⟩ : ∃ AT : Nat, AT ≤ 516 + A8 ∧ 516 + A8 ≤ AT := ⟨516 + A8, Nat.le_refl _, Nat.le_refl _⟩
      obtain ⟨AE, ae1, ae2⟩ : ∃ AE : Nat, AE ≤ AT + 8 ∧ AT + 8 ≤ AE := ⟨AT + 8, Nat.le_refl _, Nat.le_refl _⟩
      have e1 : IntKind.i64.wrap (8 * (i : Int)) = (A8 : Int) := by rw [IntKind.wrap_i64]; omega
      have e2 : IntKind.i64.wrap (516 + (A8 : Int)) = (AT : Int) := by rw [IntKind.wrap_i64]; omega
      have e3 : IntKind.i64.wrap (524 + (A8 : Int)) = (AE : Int) := by rw [IntKind.wrap_i64]; omega
      have b1 : (AE : Int) ≤ (c : Int) := by omega
      have b2 : (AT : Int) ≤ (AE : Int) := by omega
      have b3 : ¬ (c = AT) := by omega
      have b4 : AE - AT = 8 := by omega
      have HSP : Hid (SlL w6.drew (some ⟨g, AT, none⟩) (O.lst F)) := by
        have h9 := (HP6.out.sl.part AT 8 (by have := HLl.out; omega)).drew
        rw [show AT = 516 + 8 * i by omega, HFL.out, Nat.zero_add] at h9
        show SlL _ _ _
        rw [show AT = 516 + 8 * i by omega]; exact h9
      clear hshr hx
      go_wp2_with fail
      go_region_held3 (fun _ => True) (trivial) ((go_at_call 19; refine (bytes_same (O.lst F) _ _ 8 8 _ _ _ (by exact HSP.out) (by exact HR6.out.drew.sl8) (O.lst_len _) (O.lst_len _)).mono ?_; rintro e w' ⟨rfl, hw'⟩; rw [hw']; clear hw' w'))
      all_goals go_wp2
      exact ⟨⟨i + 1, by omega, by go_num, hide (HP6.out.called (Below.refl _ _).drew)⟩, by simp [intOf]; omega⟩
    · obtain rfl : i = H := by omega
      have q1 : decide ((i : Int) < (i : Int)) = false := by simp
      have i1 : (i : Int) < (K : Int) := by omega
      obtain ⟨gk, d, hd, hgk, hrg⟩ := HP.out.nds.2 i (by omega)
      have hbl := HP.out.nds.1
      rw [show 2 ^ (i - i) = 1 by simp] at hd hrg
      have hr0 := hrg 0 (by omega)
      rw [HR.out, Nat.zero_mul] at hr0
      have heq := run_eqr R
      have HSX : Hid (∀ W, Below wr.heap.size wr W → PT w t b g f i L W ∧ W.cell? ⟨b, i, none⟩ = some (.slice (some ⟨gk, 0, none⟩) 1 d) ∧ W.cell? ⟨gk, 0, none⟩ = some (.int .u8 (R 0).toNat) ∧ W.cell? ⟨gk, 1, none⟩ = some (.int .u8 (R 1).toNat) ∧ W.cell? ⟨gk, 2, none⟩ = some (.int .u8 (R 2).toNat) ∧ W.cell? ⟨gk, 3, none⟩ = some (.int .u8 (R 3).toNat) ∧ W.cell? ⟨gk, 4, none⟩ = some (.int .u8 (R 4).toNat) ∧ W.cell? ⟨gk, 5, none⟩ = some (.int .u8 (R 5).toNat) ∧ W.cell? ⟨gk, 6, none⟩ = some (.int .u8 (R 6).toNat) ∧ W.cell? ⟨gk, 7, none⟩ = some (.int .u8 (R 7).toNat)) := fun W hb => by
        refine ⟨HP.out.called hb, (hb.cell (p := ⟨b, i, none⟩) hbl).trans hd, ?_⟩
        have := cells_of (rangeAt_block hr0 (hb.block gk hgk))
        simpa using this
      clear hrg hr0 hd
      go_wp2_with fail
      go_region_held3 (fun w' => PT w t b g f i L w' ∧ w'.cell? ⟨b, i, none⟩ = some (.slice (some ⟨gk, 0, none⟩) 1 d) ∧ w'.cell? ⟨gk, 0, none⟩ = some (.int .u8 (R 0).toNat) ∧ w'.cell? ⟨gk, 1, none⟩ = some (.int .u8 (R 1).toNat) ∧ w'.cell? ⟨gk, 2, none⟩ = some (.int .u8 (R 2).toNat) ∧ w'.cell? ⟨gk, 3, none⟩ = some (.int .u8 (R 3).toNat) ∧ w'.cell? ⟨gk, 4, none⟩ = some (.int .u8 (R 4).toNat) ∧ w'.cell? ⟨gk, 5, none⟩ = some (.int .u8 (R 5).toNat) ∧ w'.cell? ⟨gk, 6, none⟩ = some (.int .u8 (R 6).toNat) ∧ w'.cell? ⟨gk, 7, none⟩ = some (.int .u8 (R 7).toNat))
        (first | exact HSX.out _ (Below.refl _ _) | exact HSX.out _ (Below.refl _ _).drew | exact HSX.out _ HB9.out | fail)
        ((go_at_call 12; refine (root_any f i t _ (by omega) (by exact (HP.out.called (Below.refl _ _).drew).tree)).mono ?_; rintro e w9 ⟨rfl, hB9⟩; rw [HR.out]; have HB9 := hide ((Below.refl wr.heap.size wr).drew.trans hB9); clear hB9))
      all_goals go_wp2
      all_goals go_ret
      all_goals exact ⟨rfl, below_call HP.out.below HB9.out⟩
end Go.Proofs.YtpiehjfoojipiaaDoor
