/- The law DigestHashes. -/
import Derived.Test.YtgmjppmcfmcmkaaDoorKn9
import Derived.Test.YtgmjppmcfmcmkaaDoorRds
namespace Go.Proofs.YtgmjppmcfmcmkaaDoor
open Go.RowKit
set_option maxRecDepth 5000 in
theorem rangeAt_below {B : Nat} {w w' : World} {g o : Nat} {cs : List Value} (h : w.rangeAt g o cs) (hb : Below B w w') (hg : g < B) : w'.rangeAt g o cs := fun j v hv => (hb.cell (p := ⟨g, o + j, none⟩) hg).trans (h j v hv)
set_option maxRecDepth 5000 in
theorem run_eq20 (f : Nat → BitVec 8) (w : World) : (Op.equalIn 10000 33 (.agg (H.bsL 20 f).toArray) (.agg (H.rowB 20 f))).run Tryd.prog w = .ok true w := H.run_eqB_same Tryd.underlying33 f w
set_option maxRecDepth 3000 in
set_option maxHeartbeats 2000000 in
theorem hashes_walk (n apex : List (List UInt8)) (salt : List UInt8) (i : Int) (raw : Bool) (ao po so : Option Addr) (len cap pl pc m sc : Nat) (w : World) (hi : i ≤ 9223372036854775807) (hT : H.Tab w) (hl : Hid (n.length = len)) (hp : Hid (apex.length = pl)) (hm : Hid (salt.length = m)) (hs : SlS w ao n) (hps : SlS w po apex) (hd : SlL w so salt) (hpn : po = none → pc = 0) (hn : so = none → sc = 0) (hlm : len ≤ 9223372036854775807) (hpm : pl ≤ 9223372036854775807) (hmm : m ≤ 9223372036854775807) :
    Calls Tryd.prog 4 #[.slice ao len cap, .slice po pl pc, .slice so m sc, .int .i64 i, .bool raw] w fun e w' => e = .returned (.bool true) ∧ Below w.heap.size w w' := by
  have hT0 := hT.1
  have HTa : Hid (∀ w1, Below w.heap.size w w1 → H.Tab w1) := fun w1 h => hT.below h hT0
  have HS := hide hs
  have HP := hide hps
  have HD := hide hd
  have HN := hide hn
  have HPN := hide hpn
  clear hs hps hd hn hpn
  go_enter Tryd.func4, Tryd.ntmps4
  go_wp2_with fail
  refine (known_any w hT).mono ?_
  rintro e w1 ⟨rfl, hB1⟩
  have hz1 := hB1.size
  have HS1 := hide (HS.out.below hB1 (Nat.le_refl _))
  have HP1 := hide (HP.out.below hB1 (Nat.le_refl _))
  have HD1 := hide (HD.out.below hB1 (Nat.le_refl _))
  go_wp2_with fail
  refine (light_any n ao len cap _ hl HS1.out hlm).mono ?_
  rintro e w' ⟨t, rfl, hlt, hw⟩
  rw [hw]; clear hw w'
  cases t with
  | false =>
    go_wp2
    go_ret
    exact ⟨rfl, hB1⟩
  | true =>
  have HW := hide (hlt rfl).wd
  clear hlt
  go_wp2_with fail
  refine (light_any apex po pl pc _ hp HP1.out hpm).mono ?_
  rintro e w' ⟨t, rfl, hlt, hw⟩
  rw [hw]; clear hw w'
  cases t with
  | false =>
    go_wp2
    go_ret
    exact ⟨rfl, hB1⟩
  | true =>
  have hpl : pl ≤ 200 := by rw [← hp.out]; exact (hlt rfl).1
  clear hlt
  rcases Nat.lt_or_ge 300 m with hbig | h3
  · have q1 : decide (300 < (m : Int)) = true := by simp; omega
    go_wp2
    go_ret
    exact ⟨rfl, hB1⟩
  have q1 : decide (300 < (m : Int)) = false := by simp; omega
  have hg20 := guard33
  have hu20 := Tryd.underlying33
  have hi20 : (Tryd.prog.info? 33).map (·.size) = some 20 := info33
  cases raw with
  | true =>
    go_wp2_with fail
    refine (dhash_any n salt i ao so len cap m sc _ hl hm HS1.out HD1.out HN.out HW (by omega) (HTa.out _ hB1)).mono ?_
    rintro e w2 ⟨rfl, hB2⟩
    have hb2 : Below w.heap.size w w2 := hB1.trans (hB2.mono hz1)
    have hz2 := hb2.size
    obtain ⟨F, HF⟩ : ∃ F, Hid (G.hsh n salt (G.rds i) = F) := ⟨_, rfl⟩
    rw [HF.out]
    clear hB2
    go_wp2_with (refine H.wpList_store_abs rfl 33 (.tmp 11) (.tmp 34) rfl w2.heap.size _ rfl rfl 33 _ (H.RowAt.new w2 33 _) (by rw [H.rowB_size]; exact info33) (by rw [H.rowB_size]; rfl) (H.rowB_one _ _) w2.heap.size (Nat.le_refl _) ?_; intro w3 hR3 hO3 hz3 hB3)
    have hb3 : Below w.heap.size w w3 := (hb2.alloc hz2 _).trans (hB3.mono hz2)
    have hz3' := hb3.size
    have hg3 := hR3.lt
    have r3 := row_range9 hR3 (Nat.le_refl 20)
    generalize w2.heap.size = g at hR3 hg3 r3 ⊢
    have SA : Hid (∀ w', Below w3.heap.size w3 w' → Below w3.heap.size w3 w' ∧ w'.rangeAt g 0 (H.bsL 20 F)) := fun w' hb => ⟨hb, rangeAt_below r3 hb hg3⟩
    have HS3 := hide (HS.out.below hb3 (Nat.le_refl _))
    have HP3 := hide (HP.out.below hb3 (Nat.le_refl _))
    have HD3 := hide (HD.out.below hb3 (Nat.le_refl _))
    have B3 := hide (Below.refl w3.heap.size w3).drew
    have S3 := hide (SA.out _ B3.out)
    have heq := run_eq20 F
    have hbl : (H.bsL 20 F).length = 20 := H.bsL_len _ _
    clear hO3 hz3 hB3 hb2 hR3 r3 HS1 HP1 HD1
    go_wp2
    go_region_held3 (fun w' => Below w3.heap.size w3 w' ∧ w'.rangeAt g 0 (H.bsL 20 F)) (first | exact S3.out | exact S4.out | exact S5.out | exact S6.out | exact S7.out | assumption) (first
      | (have hk := HO6.out; clear hk; (go_at_call 17; refine (name_same (B.txt D :: apex) _ _ PL PL _ _ _ HLL HLL (by exact HO5b.out) (by exact HO6.out) (by omega)).mono ?_; rintro e w7 ⟨rfl, m7, hw7⟩; have B7 := hide (show Below w3.heap.size w3 w7 from (by rw [hw7]; exact H.below_drewN B6.out m7)); have S7 := hide (SA.out _ B7.out); clear hw7))
      | (have hk := HO5.out; clear hk; (go_at_call 19; refine (rowner_any n apex salt i D ao po so len cap pl pc m sc _ HDG (by omega) hl hp hm (by exact HS5.out) (by exact HP5.out) (by exact HD5.out) HPN.out HN.out HW (by omega) (by omega)).mono ?_; rintro e w6 ⟨v6, rfl, hO6, hB6⟩; obtain ⟨a6, c6, rfl, hs6, _, _, _⟩ := hO6.open; rw [HLL.out]; have HO6 := hide hs6; have HO5b := hide (HO5.out.below hB6 (Nat.le_refl _)); have B6 := hide (B5.out.trans (hB6.mono B5.out.size)); have S6 := hide (SA.out _ B6.out); clear hO6 hB6 hs6))
      | (have hk := B4.out; clear hk; (go_at_call 18; refine (downer_any n apex salt i ao po so len cap pl pc m sc _ hl hp hm (by exact HS4.out) (by exact HP4.out) (by exact HD4.out) HPN.out HN.out HW (by omega) (by omega) (HTa.out _ (hb3.trans (B4.out.mono hz3')))).mono ?_; rintro e w5 ⟨v5, D, hDG, rfl, hO5, hB5⟩; obtain ⟨a5, c5, rfl, hs5, _, _, _⟩ := hO5.open; have HDG := hide hDG; have HO5 := hide hs5; obtain ⟨PL, HLL⟩ : ∃ PL, Hid ((B.txt D :: apex).length = PL) := ⟨_, rfl⟩; have hPL : PL ≤ 201 := (by rw [← HLL.out, List.length_cons, hp.out]; omega); rw [HLL.out]; have B5 := hide (B4.out.trans (hB5.mono B4.out.size)); have S5 := hide (SA.out _ B5.out); have HS5 := hide (HS3.out.below B5.out (Nat.le_refl _)); have HP5 := hide (HP3.out.below B5.out (Nat.le_refl _)); have HD5 := hide (HD3.out.below B5.out (Nat.le_refl _)); clear hO5 hB5 hs5 hDG))
      | (go_at_call 16; refine (rhash_any n salt i ao so len cap m sc _ (by omega) hl hm (by exact HS3.out) (by exact HD3.out) HN.out HW (by omega)).mono ?_; rintro e w4 ⟨rfl, hB4⟩; rw [HF.out]; have B4 := hide (B3.out.trans hB4); have S4 := hide (SA.out _ B4.out); have HS4 := hide (HS3.out.below B4.out (Nat.le_refl _)); have HP4 := hide (HP3.out.below B4.out (Nat.le_refl _)); have HD4 := hide (HD3.out.below B4.out (Nat.le_refl _)); clear hB4))
    all_goals
      go_wp2
      go_ret
      exact ⟨rfl, hb3.trans (B7.out.mono hz3')⟩
  | false =>
    go_wp2_with fail
    refine (place_any i 10 _ (by omega) (by omega)).mono ?_
    rintro e w' ⟨r, hr, rfl, hw⟩
    rw [hw]; clear hw w'
    go_wp2_with fail
    refine (dhash_any n salt (r : Int) ao so len cap m sc _ hl hm HS1.out HD1.out HN.out HW (by omega) (HTa.out _ hB1)).mono ?_
    rintro e w2 ⟨rfl, hB2⟩
    have hb2 : Below w.heap.size w w2 := hB1.trans (hB2.mono hz1)
    have hz2 := hb2.size
    obtain ⟨F, HF⟩ : ∃ F, Hid (G.hsh n salt (G.rds (r : Int)) = F) := ⟨_, rfl⟩
    rw [HF.out]
    clear hB2
    go_wp2_with (refine H.wpList_store_abs rfl 33 (.tmp 11) (.tmp 34) rfl w2.heap.size _ rfl rfl 33 _ (H.RowAt.new w2 33 _) (by rw [H.rowB_size]; exact info33) (by rw [H.rowB_size]; rfl) (H.rowB_one _ _) w2.heap.size (Nat.le_refl _) ?_; intro w3 hR3 hO3 hz3 hB3)
    have hb3 : Below w.heap.size w w3 := (hb2.alloc hz2 _).trans (hB3.mono hz2)
    have hz3' := hb3.size
    have hg3 := hR3.lt
    have r3 := row_range9 hR3 (Nat.le_refl 20)
    generalize w2.heap.size = g at hR3 hg3 r3 ⊢
    have SA : Hid (∀ w', Below w3.heap.size w3 w' → Below w3.heap.size w3 w' ∧ w'.rangeAt g 0 (H.bsL 20 F)) := fun w' hb => ⟨hb, rangeAt_below r3 hb hg3⟩
    have HS3 := hide (HS.out.below hb3 (Nat.le_refl _))
    have HP3 := hide (HP.out.below hb3 (Nat.le_refl _))
    have HD3 := hide (HD.out.below hb3 (Nat.le_refl _))
    have B3 := hide (Below.refl w3.heap.size w3).drew
    have S3 := hide (SA.out _ B3.out)
    have heq := run_eq20 F
    have hbl : (H.bsL 20 F).length = 20 := H.bsL_len _ _
    clear hO3 hz3 hB3 hb2 hR3 r3 HS1 HP1 HD1
    go_wp2
    go_region_held3 (fun w' => Below w3.heap.size w3 w' ∧ w'.rangeAt g 0 (H.bsL 20 F)) (first | exact S3.out | exact S4.out | exact S5.out | exact S6.out | exact S7.out | assumption) (first
      | (have hk := HO6.out; clear hk; (go_at_call 17; refine (name_same (B.txt D :: apex) _ _ PL PL _ _ _ HLL HLL (by exact HO5b.out) (by exact HO6.out) (by omega)).mono ?_; rintro e w7 ⟨rfl, m7, hw7⟩; have B7 := hide (show Below w3.heap.size w3 w7 from (by rw [hw7]; exact H.below_drewN B6.out m7)); have S7 := hide (SA.out _ B7.out); clear hw7))
      | (have hk := HO5.out; clear hk; (go_at_call 19; refine (rowner_any n apex salt (r : Int) D ao po so len cap pl pc m sc _ HDG (by omega) hl hp hm (by exact HS5.out) (by exact HP5.out) (by exact HD5.out) HPN.out HN.out HW (by omega) (by omega)).mono ?_; rintro e w6 ⟨v6, rfl, hO6, hB6⟩; obtain ⟨a6, c6, rfl, hs6, _, _, _⟩ := hO6.open; rw [HLL.out]; have HO6 := hide hs6; have HO5b := hide (HO5.out.below hB6 (Nat.le_refl _)); have B6 := hide (B5.out.trans (hB6.mono B5.out.size)); have S6 := hide (SA.out _ B6.out); clear hO6 hB6 hs6))
      | (have hk := B4.out; clear hk; (go_at_call 18; refine (downer_any n apex salt (r : Int) ao po so len cap pl pc m sc _ hl hp hm (by exact HS4.out) (by exact HP4.out) (by exact HD4.out) HPN.out HN.out HW (by omega) (by omega) (HTa.out _ (hb3.trans (B4.out.mono hz3')))).mono ?_; rintro e w5 ⟨v5, D, hDG, rfl, hO5, hB5⟩; obtain ⟨a5, c5, rfl, hs5, _, _, _⟩ := hO5.open; have HDG := hide hDG; have HO5 := hide hs5; obtain ⟨PL, HLL⟩ : ∃ PL, Hid ((B.txt D :: apex).length = PL) := ⟨_, rfl⟩; have hPL : PL ≤ 201 := (by rw [← HLL.out, List.length_cons, hp.out]; omega); rw [HLL.out]; have B5 := hide (B4.out.trans (hB5.mono B4.out.size)); have S5 := hide (SA.out _ B5.out); have HS5 := hide (HS3.out.below B5.out (Nat.le_refl _)); have HP5 := hide (HP3.out.below B5.out (Nat.le_refl _)); have HD5 := hide (HD3.out.below B5.out (Nat.le_refl _)); clear hO5 hB5 hs5 hDG))
      | (go_at_call 16; refine (rhash_any n salt (r : Int) ao so len cap m sc _ (by omega) hl hm (by exact HS3.out) (by exact HD3.out) HN.out HW (by omega)).mono ?_; rintro e w4 ⟨rfl, hB4⟩; rw [HF.out]; have B4 := hide (B3.out.trans hB4); have S4 := hide (SA.out _ B4.out); have HS4 := hide (HS3.out.below B4.out (Nat.le_refl _)); have HP4 := hide (HP3.out.below B4.out (Nat.le_refl _)); have HD4 := hide (HD3.out.below B4.out (Nat.le_refl _)); clear hB4))
    all_goals
      go_wp2
      go_ret
      exact ⟨rfl, hb3.trans (B7.out.mono hz3')⟩
end Go.Proofs.YtgmjppmcfmcmkaaDoor
