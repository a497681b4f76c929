/- The law DigestKeys. -/
import Derived.Test.YtgmjppmcfmcmkaaDoorKn9
import Derived.Deep.RegionHeld3
namespace Go.Proofs.YtgmjppmcfmcmkaaDoor
open Go.RowKit
set_option maxRecDepth 5000 in
theorem own_form {w : World} {base : Nat} {v : Value} {l : List UInt8} (h : OwnB w base v l) (k : Nat) (hk : l.length = k) (h0 : 0 < k) : ∃ g c, v = .slice (some ⟨g, 0, none⟩) k c ∧ k ≤ c ∧ g < w.heap.size ∧ SlL w (some ⟨g, 0, none⟩) l ∧ ∀ j, j < k → w.cell? ⟨g, j, none⟩ = some (.int .u8 (l.getD j 0).toNat) := by
  subst hk
  obtain ⟨g, c, rfl, _, hc, _, hlt, hcs⟩ := h.form h0
  exact ⟨g, c, rfl, hc, hlt, h.sl, hcs⟩
set_option maxRecDepth 3000 in
set_option maxHeartbeats 2000000 in
theorem keys_walk (n p : List (List UInt8)) (data : List UInt8) (ao po bo : Option Addr) (len cap pl pc m c : Nat) (w : World) (hT : H.Tab w) (hl : Hid (n.length = len)) (hp : Hid (p.length = pl)) (hm : Hid (data.length = m)) (hs : SlS w ao n) (hps : SlS w po p) (hd : SlL w bo data) (hn : bo = none → c = 0) (hlm : len ≤ 9223372036854775807) (hpm : pl ≤ 9223372036854775807) (hmm : m ≤ 9223372036854775807) :
    Calls Tryd.prog 6 #[.slice ao len cap, .slice po pl pc, .slice bo m c] w fun e w' => e = .returned (.bool true) ∧ Below w.heap.size w w' := by
  have hT0 := hT.1
  have HTa : Hid (∀ w1, Below w.heap.size w w1 → H.Tab w1) := fun w1 h => hT.below h hT0
  have HS := hide hs
  have HP := hide hps
  have HD := hide hd
  have HN := hide hn
  clear hs hps hd hn
  go_enter Tryd.func6, Tryd.ntmps6
  go_wp2_with fail
  refine (known_any w hT).mono ?_
  rintro e w1 ⟨rfl, hB1⟩
  have hz1 := hB1.size
  have HS1 := hide (HS.out.below hB1 (Nat.le_refl _))
  have HP1 := hide (HP.out.below hB1 (Nat.le_refl _))
  have HD1 := hide (HD.out.below hB1 (Nat.le_refl _))
  go_wp2_with fail
  refine (light_any n ao len cap _ hl HS1.out hlm).mono ?_
  rintro e w' ⟨t, rfl, hlt, hw⟩
  rw [hw]; clear hw w'
  cases t with
  | false =>
    go_wp2
    go_ret
    exact ⟨rfl, hB1⟩
  | true =>
  have HW := hide (hlt rfl).wd
  clear hlt
  go_wp2_with fail
  refine (light_any p po pl pc _ hp HP1.out hpm).mono ?_
  rintro e w' ⟨t, rfl, hlt, hw⟩
  rw [hw]; clear hw w'
  cases t with
  | false =>
    go_wp2
    go_ret
    exact ⟨rfl, hB1⟩
  | true =>
  have HV := hide (hlt rfl).wd
  clear hlt
  rcases Nat.lt_or_ge 500 m with hbig | h3
  · have q1 : decide (500 < (m : Int)) = true := by simp; omega
    go_wp2
    go_ret
    exact ⟨rfl, hB1⟩
  have q1 : decide (500 < (m : Int)) = false := by simp; omega
  go_wp2_with fail
  refine (dds_any n data ao bo len cap m c _ hl hm HS1.out HD1.out HN.out HW (by omega) (HTa.out _ hB1)).mono ?_
  rintro e w2 ⟨v2, rfl, hO2, hB2⟩
  have hb2 : Below w.heap.size w w2 := hB1.trans (hB2.mono hz1)
  have hz2 := hb2.size
  obtain ⟨ga, ca, rfl, hca, hga, hsa, hcs⟩ := own_form hO2 36 (G.ds_len _ _) (by omega)
  have HP2 := hide (HP.out.below hb2 (Nat.le_refl _))
  have HD2 := hide (HD.out.below hb2 (Nat.le_refl _))
  have htl := G.tag_lt data
  obtain ⟨T, HTT⟩ : ∃ T, Hid (G.tag data = T) := ⟨_, rfl⟩
  rw [HTT.out] at htl
  have k0 : w2.cell? ⟨ga, 0, none⟩ = some (.int .u8 ((T : Int) / 256)) := by
    have h := hcs 0 (by omega)
    have e : ((G.ds n data).getD 0 0).toNat = T / 256 := by
      show (UInt8.ofNat (G.tag data / 256)).toNat = _
      rw [HTT.out, UInt8.toNat_ofNat']; omega
    rw [h, e]; rfl
  have k1 : w2.cell? ⟨ga, 1, none⟩ = some (.int .u8 ((T : Int) % 256)) := by
    have h := hcs 1 (by omega)
    have e : ((G.ds n data).getD 1 0).toNat = T % 256 := by
      show (UInt8.ofNat (G.tag data)).toNat = _
      rw [HTT.out, UInt8.toNat_ofNat']
    rw [h, e]; rfl
  have k3 : w2.cell? ⟨ga, 3, none⟩ = some (.int .u8 2) := hcs 3 (by omega)
  clear hO2 hB2 HS1 HP1 HD1 hcs
  go_wp2_with fail
  refine (dds_any p data po bo pl pc m c _ hp hm HP2.out HD2.out HN.out HV (by omega) (HTa.out _ hb2)).mono ?_
  rintro e w3 ⟨v3, rfl, hO3, hB3⟩
  have hb3 : Below w.heap.size w w3 := hb2.trans (hB3.mono hz2)
  have hz3 := hb3.size
  obtain ⟨gb, cb, rfl, hcb, hgb, hsb, _⟩ := own_form hO3 36 (G.ds_len _ _) (by omega)
  have j0 := (hB3.cell (p := ⟨ga, 0, none⟩) hga).trans k0
  have j1 := (hB3.cell (p := ⟨ga, 1, none⟩) hga).trans k1
  have j3 := (hB3.cell (p := ⟨ga, 3, none⟩) hga).trans k3
  have hga3 : ga < w3.heap.size := Nat.lt_of_lt_of_le hga hB3.size
  have SA : Hid (∀ w', Below w3.heap.size w3 w' → Below w3.heap.size w3 w' ∧ w'.cell? ⟨ga, 0, none⟩ = some (.int .u8 ((T : Int) / 256)) ∧ w'.cell? ⟨ga, 1, none⟩ = some (.int .u8 ((T : Int) % 256)) ∧ w'.cell? ⟨ga, 3, none⟩ = some (.int .u8 2)) := fun w' hb => ⟨hb, (hb.cell (p := ⟨ga, 0, none⟩) hga3).trans j0, (hb.cell (p := ⟨ga, 1, none⟩) hga3).trans j1, (hb.cell (p := ⟨ga, 3, none⟩) hga3).trans j3⟩
  have HSA3 := hide (hsa.below hB3 (Nat.le_refl _))
  have HSB3 := hide hsb
  have HS3 := hide (HS.out.below hb3 (Nat.le_refl _))
  have HP3 := hide (HP.out.below hb3 (Nat.le_refl _))
  have HD3 := hide (HD.out.below hb3 (Nat.le_refl _))
  have B3 := hide (Below.refl w3.heap.size w3).drew
  have S3 := hide (SA.out _ B3.out)
  obtain ⟨t, Ht⟩ : ∃ t, Hid ((G.ds n data == G.ds p data) = t) := ⟨_, rfl⟩
  have htt : (t == t) = true := by simp
  clear hO3 hB3 k0 k1 k3 j0 j1 j3 hsa hsb HP2 HD2
  obtain ⟨A0, m0⟩ : ∃ A0 : Nat, (T : Int) / 256 = (A0 : Int) := ⟨T / 256, by omega⟩
  obtain ⟨A1, m1⟩ : ∃ A1 : Nat, (T : Int) % 256 = (A1 : Int) := ⟨T % 256, by omega⟩
  have a0 : A0 < 256 := by omega
  have a1 : A1 < 256 := by omega
  rw [m0, m1] at SA S3
  have m2 : IntKind.u8.wrap (A0 : Int) = (A0 : Int) := by rw [IntKind.wrap_u8]; omega
  have m3 : IntKind.u8.wrap (T : Int) = (A1 : Int) := by rw [IntKind.wrap_u8]; omega
  have m4 : ((A0 : Int) == (A0 : Int)) = true := by simp
  have m5 : ((A1 : Int) == (A1 : Int)) = true := by simp
  have m6 : IntKind.u16.wrap (A0 : Int) = (A0 : Int) := by rw [IntKind.wrap_u16]; omega
  go_wp2
  go_region_held3 (fun w' => Below w3.heap.size w3 w' ∧ w'.cell? ⟨ga, 0, none⟩ = some (.int .u8 (A0 : Int)) ∧ w'.cell? ⟨ga, 1, none⟩ = some (.int .u8 (A1 : Int)) ∧ w'.cell? ⟨ga, 3, none⟩ = some (.int .u8 2)) (first | exact S3.out | exact S4.out | exact S5.out | assumption) (first
    | (have hk := HD5.out; clear hk; (go_at_call 9; refine (dtag_any data bo m c _ hm (by exact HD5.out) (by omega)).mono ?_; rintro e w' ⟨rfl, hw'⟩; rw [hw', HTT.out]; clear hw' w'))
    | (have hk := HD5.out; clear hk; (go_at_call 11; refine (bytes_any (G.ds n data) (G.ds p data) _ _ 36 36 _ _ _ (by exact HS5.out) (by exact HSB5.out) (G.ds_len _ _) (G.ds_len _ _)).mono ?_; rintro e w' ⟨rfl, hw'⟩; rw [hw', Ht.out]; clear hw' w'))
    | (have hk := HS4.out; clear hk; (go_at_call 13; refine (rds_any p data po bo pl pc m c _ hp hm (by exact HP4.out) (by exact HD4.out) HN.out HV (by omega)).mono ?_; rintro e w5 ⟨v5, rfl, hO5, hB5⟩; obtain ⟨g5, c5, rfl, _, _, hs5, _⟩ := own_form hO5 36 (G.ds_len _ _) (by omega); have HSB5 := hide hs5; have HS5 := hide (HS4.out.below hB5 (Nat.le_refl _)); have B5 := hide (B4.out.trans (hB5.mono B4.out.size)); have S5 := hide (SA.out _ B5.out); have HD5 := hide (HD4.out.below hB5 (Nat.le_refl _)); clear hO5 hB5 hs5))
    | (go_at_call 13; refine (rds_any n data ao bo len cap m c _ hl hm (by exact HS3.out) (by exact HD3.out) HN.out HW (by omega)).mono ?_; rintro e w4 ⟨v4, rfl, hO4, hB4⟩; obtain ⟨g4, c4, rfl, _, _, hs4, _⟩ := own_form hO4 36 (G.ds_len _ _) (by omega); have HS4 := hide hs4; have B4 := hide (B3.out.trans hB4); have S4 := hide (SA.out _ B4.out); have HP4 := hide (HP3.out.below B4.out (Nat.le_refl _)); have HD4 := hide (HD3.out.below B4.out (Nat.le_refl _)); clear hO4 hB4 hs4)
    | (go_at_call 11; refine (bytes_any (G.ds n data) (G.ds p data) _ _ 36 36 _ _ _ (by exact HSA3.out) (by exact HSB3.out) (G.ds_len _ _) (G.ds_len _ _)).mono ?_; rintro e w' ⟨rfl, hw'⟩; rw [hw', Ht.out]; clear hw' w'))
  all_goals
    go_wp2
    go_ret
    exact ⟨rfl, hb3.trans (B5.out.mono hz3)⟩
end Go.Proofs.YtgmjppmcfmcmkaaDoor
