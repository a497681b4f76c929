/- Many records of one set, plain. -/
import Derived.Test.YtdldaphkiphpnaaGreatZlw
import Derived.Test.YtdldaphkiphpnaaGreatZkn
namespace Go.Proofs.YtdldaphkiphpnaaGreat
open Go.RowKit
namespace Z
def dj (i : Nat) : List UInt8 := [UInt8.ofNat (i / 256), UInt8.ofNat i]
set_option maxRecDepth 5000 in
theorem dj_lt {i j : Nat} (h : i < j) (hj : j < 65536) : dj i < dj j := by
  unfold dj
  rw [List.cons_lt_cons_iff, List.cons_lt_cons_iff, UInt8.lt_iff_toNat_lt, UInt8.lt_iff_toNat_lt, ← UInt8.toNat_inj]
  have h1 : (UInt8.ofNat (i / 256)).toNat = i / 256 := UInt8.toNat_ofNat_of_lt' (by show _ < 256; omega)
  have h2 : (UInt8.ofNat (j / 256)).toNat = j / 256 := UInt8.toNat_ofNat_of_lt' (by show _ < 256; omega)
  have h3 : (UInt8.ofNat i).toNat = i % 256 := UInt8.toNat_ofNat
  have h4 : (UInt8.ofNat j).toNat = j % 256 := UInt8.toNat_ofNat
  rw [h1, h2, h3, h4]
  omega
set_option maxRecDepth 5000 in
theorem cn_99 (x y : UInt8) : cn 99 [x, y] = some [x, y] := by rfl
def Q (p : List (List UInt8)) (ttl m : Nat) : List R := (List.range m).map fun j => ⟨p, 99, dj j, ttl, dj j⟩
set_option maxRecDepth 5000 in
theorem Q_len (p : List (List UInt8)) (ttl m : Nat) : (Q p ttl m).length = m := by simp [Q]
set_option maxRecDepth 5000 in
theorem mem_Q {p : List (List UInt8)} {ttl m : Nat} {x : R} : x ∈ Q p ttl m ↔ ∃ j, j < m ∧ x = ⟨p, 99, dj j, ttl, dj j⟩ := by
  unfold Q
  rw [List.mem_map]
  constructor
  · rintro ⟨j, hj, rfl⟩; exact ⟨j, List.mem_range.1 hj, rfl⟩
  · rintro ⟨j, hj, rfl⟩; exact ⟨j, List.mem_range.2 hj, rfl⟩
set_option maxRecDepth 5000 in
theorem Q_rise (p : List (List UInt8)) (ttl m : Nat) (hm : m ≤ 65536) : (Q p ttl m).Pairwise rlt := by
  unfold Q
  rw [List.pairwise_map]
  refine (List.pairwise_lt_range (n := m)).imp_of_mem fun {i j} hi hj hij => ?_
  exact (rlt_can (x := ⟨p, 99, dj i, ttl, dj i⟩) (y := ⟨p, 99, dj j, ttl, dj j⟩) rfl rfl).2 (dj_lt hij (by have := List.mem_range.1 hj; omega))
set_option maxRecDepth 5000 in
theorem Q_there (p : List (List UInt8)) (ttl m i ttl' : Nat) (hm : m ≤ i) (hi : i < 65536) (d : List UInt8) : there (Q p ttl m) ⟨p, 99, dj i, ttl', d⟩ = false := by
  cases h : there (Q p ttl m) ⟨p, 99, dj i, ttl', d⟩ with
  | false => rfl
  | true =>
    obtain ⟨x, hx, _, _, h3⟩ := there_iff.1 h
    obtain ⟨j, hj, rfl⟩ := mem_Q.1 hx
    have h3 : dj j = dj i := h3
    have := dj_lt (i := j) (j := i) (by omega) hi
    rw [h3] at this
    exact absurd this (blt_irr _)
set_option maxRecDepth 5000 in
theorem setT_same (p : List (List UInt8)) (ttl ttl' m : Nat) : (Q p ttl m).map (setT p 99 ttl') = Q p ttl' m := by
  unfold Q
  rw [List.map_map]
  refine List.map_congr_left fun j _ => ?_
  show setT p 99 ttl' ⟨p, 99, dj j, ttl, dj j⟩ = _
  unfold setT; rw [if_pos ⟨rfl, rfl⟩]
set_option maxRecDepth 5000 in
theorem Q_put (p : List (List UInt8)) (ttl m : Nat) (hm : m < 65536) : put (Q p ttl m) ⟨p, 99, dj m, ttl, dj m⟩ = Q p ttl (m + 1) := by
  have h0 := Q_there p ttl m m ttl (Nat.le_refl _) hm (dj m)
  have hall : ∀ x ∈ Q p ttl m, rlt x ⟨p, 99, dj m, ttl, dj m⟩ := fun x hx => by
    obtain ⟨j, hj, rfl⟩ := mem_Q.1 hx
    exact (rlt_can (x := ⟨p, 99, dj j, ttl, dj j⟩) (y := ⟨p, 99, dj m, ttl, dj m⟩) rfl rfl).2 (dj_lt hj hm)
  have hrear : rear (Q p ttl m) ⟨p, 99, dj m, ttl, dj m⟩ = [] := by
    refine List.eq_nil_iff_forall_not_mem.2 fun x hx => ?_
    have h1 := rear_ge (Q_rise p ttl m (by omega)) _ x hx
    exact h1 (hall x (by rw [← lead_rear (Q p ttl m) ⟨p, 99, dj m, ttl, dj m⟩]; exact List.mem_append_right _ hx))
  have hlead : lead (Q p ttl m) ⟨p, 99, dj m, ttl, dj m⟩ = Q p ttl m := by
    have := lead_rear (Q p ttl m) ⟨p, 99, dj m, ttl, dj m⟩
    rw [hrear, List.append_nil] at this
    exact this
  have hq : Q p ttl (m + 1) = Q p ttl m ++ [⟨p, 99, dj m, ttl, dj m⟩] := by
    unfold Q; rw [List.range_succ, List.map_append]; rfl
  unfold put
  rw [if_neg (by rw [h0]; simp)]
  unfold ins
  rw [hlead, hrear, ← hq]
  exact setT_same p ttl ttl (m + 1)
set_option maxRecDepth 5000 in
theorem Q_ttl (p : List (List UInt8)) (ttl m : Nat) (hm : 0 < m) : ttlAt (Q p ttl m) p 99 = ttl ∧ setAt (Q p ttl m) p 99 ≠ [] := by
  have h : setAt (Q p ttl m) p 99 = Q p ttl m := by
    unfold setAt
    refine List.filter_eq_self.2 fun x hx => ?_
    obtain ⟨j, _, rfl⟩ := mem_Q.1 hx
    simp
  obtain ⟨m, rfl⟩ : ∃ m', m = m' + 1 := ⟨m - 1, by omega⟩
  unfold ttlAt
  rw [h]
  have h2 : Q p ttl (m + 1) = ⟨p, 99, dj 0, ttl, dj 0⟩ :: ((List.range m).map Nat.succ).map fun j => ⟨p, 99, dj j, ttl, dj j⟩ := by
    unfold Q; rw [List.range_succ_eq_map]; rfl
  rw [h2]
  exact ⟨rfl, by simp⟩
set_option maxRecDepth 5000 in
theorem Q_putR {A n : List (List UInt8)} (h1 : N.chk n = 0) (h2 : N.within n A = true) (i : Nat) (hi : i < 65536) : putR A (Q (path n) 5 (min i 2000)) n 99 1 5 (dj i) = (decide (i < 2000), (if i < 2000 then 0 else 111), Q (path n) 5 (min (i + 1) 2000)) := by
  have hf : Fine A n 99 (dj i) (dj i) := ⟨h1, h2, cn_99 _ _⟩
  rw [putR_fine hf, Q_there (path n) 5 _ i 5 (Nat.min_le_left _ _) hi (dj i), if_neg (by simp), Q_len]
  by_cases h : i < 2000
  · have e1 : min i 2000 = i := by omega
    have e2 : min (i + 1) 2000 = i + 1 := by omega
    rw [e1, e2, if_neg (by omega), Q_put _ _ _ (by omega)]
    simp [h]
  · have e1 : min i 2000 = 2000 := by omega
    have e2 : min (i + 1) 2000 = 2000 := by omega
    rw [e1, e2, if_pos (by omega)]
    simp [h]
set_option maxRecDepth 5000 in
theorem Q_again {A n : List (List UInt8)} (h1 : N.chk n = 0) (h2 : N.within n A = true) (m : Nat) (hm : 2 ≤ m) : putR A (Q (path n) 5 m) n 99 1 6 [0, 1] = (true, 0, Q (path n) 6 m) := by
  have hf : Fine A n 99 [0, 1] [0, 1] := ⟨h1, h2, cn_99 _ _⟩
  have ht : there (Q (path n) 5 m) ⟨path n, 99, [0, 1], 6, [0, 1]⟩ = true := there_iff.2 ⟨⟨path n, 99, dj 1, 5, dj 1⟩, mem_Q.2 ⟨1, by omega, rfl⟩, rfl, rfl, rfl⟩
  rw [putR_fine hf, ht, if_pos rfl, (Q_ttl (path n) 5 m (by omega)).1, if_neg (by omega)]
  have e : put (Q (path n) 5 m) ⟨path n, 99, [0, 1], 6, [0, 1]⟩ = Q (path n) 6 m := by
    unfold put
    rw [if_pos ht]
    exact setT_same (path n) 5 6 m
  rw [e]
end Z
end Go.Proofs.YtdldaphkiphpnaaGreat

/- The law ZoneFull returns true, for every two numbers. -/
namespace Go.Proofs.YtdldaphkiphpnaaGreat
open Go.RowKit
set_option maxRecDepth 5000 in
theorem dj_lit (w : World) (i : Nat) (hi : i < 65536) : SlL (w.alloc (.cells #[.int .u8 ((i : Int) / 256), .int .u8 ((i : Int) % 256)] 5)) (some ⟨w.heap.size, 0, none⟩) (Z.dj i) :=
  SlL.litm w (Z.dj i) _ 5 (0, 0) (by
    have h1 : (UInt8.ofNat (i / 256)).toNat = i / 256 := UInt8.toNat_ofNat_of_lt' (by show _ < 256; omega)
    have h2 : (UInt8.ofNat i).toNat = i % 256 := UInt8.toNat_ofNat
    simp only [Z.dj, vb, List.map_cons, List.map_nil]
    rw [h1, h2]
    congr 2)
set_option maxRecDepth 100000 in
set_option maxHeartbeats 2000000 in
theorem zoneFull_walk (n0 k : Nat) (hn0 : n0 < 256) (hk : k < 256) (w : World) : Calls Tryz.prog 6 #[.int .u8 (n0 : Int), .int .u8 (k : Int)] w fun e w' => e = .returned (.bool true) ∧ Below w.heap.size w w' := by
  obtain ⟨X, hX⟩ : ∃ X : Nat → Prop, X = fun i => i < w.heap.size := ⟨_, rfl⟩
  have hX1 : ∀ i, X i → i < w.heap.size := fun i h => by rw [hX] at h; exact h
  have hX2 : ∀ i, i < w.heap.size → X i := fun i h => by rw [hX]; exact h
  obtain ⟨n, hn⟩ : ∃ n, n = Z.owner k := ⟨_, rfl⟩
  have hown := fun W => owner_any k hk W
  rw [← hn] at hown
  have hch : N.chk n = 0 := by rw [hn]; exact (Z.owner_good _).1
  have hwi : N.within n Z.exA = true := by rw [hn]; exact (Z.owner_good _).2.1
  have hsm : Hid (N.Small n) := by rw [hn]; exact Z.owner_small _
  have hnl4 : n.length ≤ 4 := by rw [hn]; exact (Z.owner_good _).2.2.1
  obtain ⟨nl, hnl⟩ : ∃ nl, nl = n.length := ⟨_, rfl⟩
  rw [← hnl] at hnl4
  have HNL : Hid (n.length = nl) := hide hnl.symm
  obtain ⟨a, ha⟩ : ∃ a, a = n0 % 4 := ⟨_, rfl⟩
  have ha4 : a < 4 := by omega
  have hadd : (n0 : Int) % 4 = (a : Int) := by omega
  have HX1 := hide hX1
  have HX2 := hide hX2
  have HOWN := hide hown
  have HCH := hide hch
  have HWI := hide hwi
  clear hX hX1 hX2 hn hown hch hwi hnl ha
  go_enter Tryz.func6, Tryz.ntmps6
  go_upto_region 4 with (first
    | (go_at_call 9; refine (known_any w).mono ?_; rintro e w0 ⟨rfl, hB0⟩)
    | (go_at_call 12; refine (apex_any w0).mono ?_; rintro e wa ⟨va, rfl, hOa, hBa⟩; obtain ⟨aa, ca, rfl, hSa, _, hca, _⟩ := hOa.open; have hB0a := hB0.trans (hBa.mono hB0.size))
    | (go_at_call 11; refine (znew_live X wa (fun i hi => Nat.lt_of_lt_of_le (HX1.out i hi) hB0a.size) Z.exA aa _ ca (hide rfl) hSa (hide exA_small)).mono ?_; rintro e w1 ⟨Zb, rfl, hZb, hZ1, hB1⟩; rw [exA_low] at hZ1)
    | fail)
  have hb1 : Below w.heap.size w w1 := hB0a.trans (hB1.mono hB0a.size)
  clear hBa hOa hSa hca hB1 hB0 hB0a
  have hQ0 : Z.Q (path n) 5 (min 0 2000) = [] := rfl
  have hZ1' : ZLive X w1 Zb Z.exA (Z.Q (path n) 5 (min 0 2000)) (0 * 6) := by rw [hQ0]; exact hZ1
  clear hQ0 hZ1
  go_wp2
  clear hadd
  go_loopw [7] (fun i wr => ∃ j : Nat, i = .int .i64 (j : Int) ∧ j ≤ 1998 + a ∧ ZLive X wr Zb Z.exA (Z.Q (path n) 5 (min j 2000)) (j * 6) ∧ Below w.heap.size w wr) (fun i _ => 1998 + a - (intOf i).toNat)
  case atStart => exact ⟨0, rfl, by omega, hZ1', hb1⟩
  case round =>
    obtain ⟨j, rfl, hj, hZ, hB⟩ := hrel
    clear hZ1' hb1
    have HZ := hide hZ
    have HB := hide hB
    clear hZ hB
    by_cases hlt : j < 1998 + a
    · have hjl : (j : Int) < 1998 + (a : Int) := by omega
      have hj2 : j ≤ 2000 := by omega
      go_upto_region 9 with (go_at_call 21; refine (HOWN.out wr).mono ?_; rintro e w3 ⟨v3, rfl, hO3, hB3⟩; obtain ⟨a3, c3, hv3, hS3, _, hc3, _⟩ := hO3.open; rw [HNL.out] at hv3 hc3; subst hv3)
      have hr5 : RowAt ((w3.alloc (.cells #[.int .u8 ((j : Int) / 256), .int .u8 ((j : Int) % 256)] 5)).alloc (.cells #[.slice a3 nl c3, .int .u16 99, .int .u16 1, .int .u32 5, .slice (some ⟨w3.heap.size, 0, none⟩) 2 2] 39)) (w3.heap.size + 1) 39 #[.slice a3 nl c3, .int .u16 99, .int .u16 1, .int .u32 5, .slice (some ⟨w3.heap.size, 0, none⟩) 2 2] := by
        have := RowAt.new (w3.alloc (.cells #[.int .u8 ((j : Int) / 256), .int .u8 ((j : Int) % 256)] 5)) 39 #[.slice a3 nl c3, .int .u16 99, .int .u16 1, .int .u32 5, .slice (some ⟨w3.heap.size, 0, none⟩) 2 2]
        rw [World.size_alloc] at this
        exact this
      obtain ⟨w5, hw5⟩ : ∃ w5, w5 = (w3.alloc (.cells #[.int .u8 ((j : Int) / 256), .int .u8 ((j : Int) % 256)] 5)).alloc (.cells #[.slice a3 nl c3, .int .u16 99, .int .u16 1, .int .u32 5, .slice (some ⟨w3.heap.size, 0, none⟩) 2 2] 39) := ⟨_, rfl⟩
      have hb35 : Below w3.heap.size w3 w5 := by rw [hw5]; exact ((Below.refl _ w3).alloc (Nat.le_refl _) _).alloc (by simp) _
      have hsd : SlL w5 (some ⟨w3.heap.size, 0, none⟩) (Z.dj j) := by rw [hw5]; exact (dj_lit w3 j (by omega)).alloc _
      rw [← hw5] at hr5 ⊢
      have hb5 : Below wr.heap.size wr w5 := hB3.trans (hb35.mono hB3.size)
      obtain ⟨x0, x1, x2, x3, x4⟩ := rc_facts hr5
      have HZ5 := hide (HZ.out.bel hb5)
      have HB5 := hide (HB.out.trans (hb5.mono HB.out.size))
      have HSN := hide (hS3.below hb35 (Nat.le_refl _))
      have HSD := hide hsd
      have hdl : Hid ((Z.dj j).length = 2) := hide rfl
      have hput := Z.Q_putR HCH.out HWI.out j (by omega)
      have HPUT := hide hput
      clear hr5 hw5 hb35 hsd hb5 hB3 hO3 hS3 hput
      by_cases h2 : j < 2000
      · have e1 : Z.putR Z.exA (Z.Q (path n) 5 (min j 2000)) n 99 1 5 (Z.dj j) = (true, 0, Z.Q (path n) 5 (min (j + 1) 2000)) := by rw [HPUT.out]; simp [h2]
        have E1 := hide e1
        have hj2k : (j : Int) < 2000 := by omega
        have hge : decide ((2000 : Int) ≤ (j : Int)) = false := by simp; omega
        have hge2 : ¬ (2000 : Int) ≤ (j : Int) := by omega
        clear e1
        go_wp2_with (go_at_call 36; refine (zput_live HZ5.out (hide exA_small) n a3 nl c3 HNL hc3 HSN.out hsm 99 1 5 (Z.dj j) _ 2 2 hdl HSD.out (fun h => by cases h) (Nat.le_refl _) (by decide) (by decide) (by omega)).mono ?_; rintro e w6 ⟨he, hZ6, hK6⟩; rw [E1.out] at he hZ6; subst he; have HZ6 := hide (hZ6.mono (K' := (j + 1) * 6) (by omega)); have HB6 := hide (HB5.out.trans (hK6.below (fun i hi => HX2.out i hi) HB5.out.size)); clear hZ6 hK6)
        go_roundw
        case rel => exact ⟨j + 1, by go_num, by omega, HZ6.out, HB6.out⟩
        case measure => simp [intOf]; omega
      · have e1 : Z.putR Z.exA (Z.Q (path n) 5 (min j 2000)) n 99 1 5 (Z.dj j) = (false, 111, Z.Q (path n) 5 (min (j + 1) 2000)) := by rw [HPUT.out]; simp [h2]
        have E1 := hide e1
        have hj2k : ¬ (j : Int) < 2000 := by omega
        have hlt3 : decide ((j : Int) < 2000) = false := by simp; omega
        have hge2 : (2000 : Int) ≤ (j : Int) := by omega
        clear e1
        go_wp2_with (go_at_call 36; refine (zput_live HZ5.out (hide exA_small) n a3 nl c3 HNL hc3 HSN.out hsm 99 1 5 (Z.dj j) _ 2 2 hdl HSD.out (fun h => by cases h) (Nat.le_refl _) (by decide) (by decide) (by omega)).mono ?_; rintro e w6 ⟨he, hZ6, hK6⟩; rw [E1.out] at he hZ6; subst he; have HZ6 := hide (hZ6.mono (K' := (j + 1) * 6) (by omega)); have HB6 := hide (HB5.out.trans (hK6.below (fun i hi => HX2.out i hi) HB5.out.size)); clear hZ6 hK6)
        go_roundw
        case rel => exact ⟨j + 1, by go_num, by omega, HZ6.out, HB6.out⟩
        case measure => simp [intOf]; omega
    · obtain rfl : j = 1998 + a := by omega
      obtain ⟨m, hm⟩ : ∃ m, m = min (1998 + a) 2000 := ⟨_, rfl⟩
      rw [← hm] at HZ
      have hm2 : 2 ≤ m := by omega
      have hag := Z.Q_again HCH.out HWI.out m hm2
      have hq6 := Z.Q_ttl (path n) 6 m (by omega)
      have hlen6 := Z.Q_len (path n) 6 m
      have HAG := hide hag
      have HQ6 := hide hq6
      have HL6 := hide hlen6
      have HM := hide hm
      clear hm hag hq6 hlen6
      go_upto_region 13 with (first
        | (go_at_call 21; refine (HOWN.out wr).mono ?_; rintro e w3 ⟨v3, rfl, hO3, hB3⟩; obtain ⟨a3, c3, hv3, hS3, _, hc3, _⟩ := hO3.open; rw [HNL.out] at hv3 hc3; subst hv3)
        | (go_at_call 36; refine (zput_live ((HZ.out.bel hB3).bel ((Below.refl _ w3).alloc (Nat.le_refl _) _)) (hide exA_small) n a3 nl c3 HNL hc3 (hS3.alloc _) hsm 99 1 6 [0, 1] (some ⟨w3.heap.size, 0, none⟩) 2 2 (hide rfl) (SlL.litm w3 [0, 1] _ 5 (0, 0) rfl) (fun h => by cases h) (Nat.le_refl _) (by decide) (by decide) (by omega)).mono ?_; rintro e w5 ⟨he, hZ5, hK5⟩; rw [HAG.out] at he hZ5; subst he)
        | fail)
      have hb4 : Below wr.heap.size wr (w3.alloc (.cells #[.int .u8 0, .int .u8 1] 5)) := hB3.trans (((Below.refl _ w3).alloc (Nat.le_refl _) _).mono hB3.size)
      have hb04 := HB.out.trans (hb4.mono HB.out.size)
      have HB5 := hide (hb04.trans (hK5.below (fun i hi => HX2.out i hi) hb04.size))
      have HZ5 := hide hZ5
      clear hb4 hb04 hK5 hZ5 hB3 hO3 hS3 hc3
      go_upto_region 14 with (first
        | (go_at_call 21; refine (HOWN.out w5).mono ?_; rintro e w6 ⟨v6, rfl, hO6, hB6⟩; obtain ⟨a6, c6, hv6, hS6, _, hc6, _⟩ := hO6.open; rw [HNL.out] at hv6 hc6; subst hv6)
        | (go_at_call 23; refine (zset_live (HZ5.out.bel hB6) (by omega) n a6 nl c6 HNL hS6 hsm 99 (by decide)).mono ?_; rintro e w7 ⟨hB7, ⟨hno, _⟩ | ⟨_, na7, nc7, v7, rfl, hT7, hnc7, hO7⟩⟩; (· exact absurd hno HQ6.out.2); rw [HQ6.out.1]; obtain ⟨a7, c7, hv7, _, _⟩ := hO7.slice; generalize List.length _ = l7 at hv7; subst hv7; have q2 := (RowAt.new w7 54 #[.slice na7 nl nc7, .int .u16 99, .int .u32 6, .slice a7 l7 c7]).cell 2)
        | fail)
      have hb8 : Below w5.heap.size w5 (w7.alloc (.cells #[.slice na7 nl nc7, .int .u16 99, .int .u32 6, .slice a7 l7 c7] 54)) := hB6.trans ((hB7.trans (((Below.refl _ w7).alloc (Nat.le_refl _) _).mono hB7.size)).mono hB6.size)
      have HZ8 := hide (HZ5.out.bel hb8)
      have HB8 := hide (HB5.out.trans (hb8.mono HB5.out.size))
      have hmi : ((m : Int) = 1998 + (a : Int) ∧ (a : Int) ≤ 2) ∨ ((m : Int) = 2000 ∧ (a : Int) = 3) := by have := HM.out; omega
      clear hb8 hB6 hB7 hO6 hS6 hO7 hT7
      go_wp2_with (go_at_call 14; refine (zlen_live HZ8.out).mono ?_; rintro e wq ⟨he, hwq⟩; rw [HL6.out] at he; rw [he, hwq]; clear he hwq wq)
      all_goals
        go_ret
        exact ⟨rfl, HB8.out⟩
end Go.Proofs.YtdldaphkiphpnaaGreat
