/- One record put, put again, dropped, plain; the seat's records. -/
import Derived.Test.YtdldaphkiphpnaaGreatZsp0
import Derived.Test.YtdldaphkiphpnaaGreatZlv
import Derived.Test.YtdldaphkiphpnaaGreatZsr
import Derived.Deep.Cut
import Derived.Deep.RegionHeld3
namespace Go.Proofs.YtdldaphkiphpnaaGreat
open Go.RowKit
namespace Z
set_option maxRecDepth 5000 in
theorem data_ok (k j : Nat) (hk : k < 256) : ∃ c, cn (typeK j) (dataK (typeK j) k) = some c := by
  have h : ∀ k, k < 256 → ∀ j, j < 10 → (cn (kinds.getD j 0) (dataK (kinds.getD j 0) k)).isSome = true := by decide +kernel
  exact Option.isSome_iff_exists.1 (h k hk (j % 10) (Nat.mod_lt _ (by decide)))
set_option maxRecDepth 5000 in
theorem put_nil (r : R) : put [] r = [r] := by
  have h : there [] r = false := rfl
  unfold put
  rw [h, if_neg (by simp)]
  show [setT r.p r.t r.ttl r] = [r]
  unfold setT; rw [if_pos ⟨rfl, rfl⟩]
set_option maxRecDepth 5000 in
theorem there_one (r : R) (ttl : Nat) (d : List UInt8) : there [r] ⟨r.p, r.t, r.c, ttl, d⟩ = true := there_iff.2 ⟨r, by simp, rfl, rfl, rfl⟩
set_option maxRecDepth 5000 in
theorem ttlAt_one (r : R) : ttlAt [r] r.p r.t = r.ttl := by
  have h : setAt [r] r.p r.t = [r] := by unfold setAt; simp
  unfold ttlAt; rw [h]; rfl
set_option maxRecDepth 5000 in
theorem put_one (r : R) (ttl : Nat) (d : List UInt8) : put [r] ⟨r.p, r.t, r.c, ttl, d⟩ = [⟨r.p, r.t, r.c, ttl, r.d⟩] := by
  unfold put
  rw [there_one, if_pos rfl]
  show [setT r.p r.t ttl r] = _
  unfold setT; rw [if_pos ⟨rfl, rfl⟩]
set_option maxRecDepth 5000 in
theorem drop_one (r : R) : drop [r] r.p r.t r.c = [] := by
  unfold drop
  have h : isK r.p r.t r.c r = true := isK_iff.2 ⟨rfl, rfl, rfl⟩
  simp [h]
/- a name and data that may be put -/
structure Fine (A n : List (List UInt8)) (t : Nat) (d c : List UInt8) : Prop where
  chk : N.chk n = 0
  win : N.within n A = true
  cn_ : cn t d = some c
set_option maxRecDepth 5000 in
theorem putR_fine {A n : List (List UInt8)} {t : Nat} {d c : List UInt8} (h : Fine A n t d c) (L : List R) (ttl : Nat) : putR A L n t 1 ttl d = if there L ⟨path n, t, c, ttl, d⟩ = true then (if ttlAt L (path n) t = ttl then (false, 0, L) else (true, 0, put L ⟨path n, t, c, ttl, d⟩)) else if 2000 ≤ L.length then (false, 111, L) else (true, 0, put L ⟨path n, t, c, ttl, d⟩) := by
  unfold putR
  rw [if_neg (by rintro (h1 | h1); exact h1 h.chk; rw [h.win] at h1; cases h1), if_neg (by simp), h.cn_]
set_option maxRecDepth 5000 in
theorem putR_nil {A n : List (List UInt8)} {t : Nat} {d c : List UInt8} (h : Fine A n t d c) (ttl : Nat) : putR A [] n t 1 ttl d = (true, 0, [⟨path n, t, c, ttl, d⟩]) := by
  rw [putR_fine h, put_nil]
  have : there [] (⟨path n, t, c, ttl, d⟩ : R) = false := rfl
  rw [this, if_neg (by simp), if_neg (by simp)]
set_option maxRecDepth 5000 in
theorem putR_one {A n : List (List UInt8)} {t : Nat} {d c : List UInt8} (h : Fine A n t d c) (ttl ttl' : Nat) : putR A [⟨path n, t, c, ttl, d⟩] n t 1 ttl' d = (!decide (ttl' = ttl), 0, [⟨path n, t, c, ttl', d⟩]) := by
  rw [putR_fine h, put_one (⟨path n, t, c, ttl, d⟩ : R), there_one (⟨path n, t, c, ttl, d⟩ : R), if_pos rfl]
  have := ttlAt_one (⟨path n, t, c, ttl, d⟩ : R)
  rw [this]
  by_cases e : ttl' = ttl
  · subst e; simp
  · rw [if_neg (fun h => e h.symm)]; simp [e]
set_option maxRecDepth 5000 in
theorem putR_far {A n : List (List UInt8)} (h : N.within n A = false) (L : List R) (t cl ttl : Nat) (d : List UInt8) : putR A L n t cl ttl d = (false, 110, L) := by
  unfold putR; rw [if_pos (Or.inr h)]
set_option maxRecDepth 5000 in
theorem dropR_one {A n : List (List UInt8)} {t : Nat} {d c : List UInt8} (h : Fine A n t d c) (ttl : Nat) : dropR [⟨path n, t, c, ttl, d⟩] n t d = (true, []) := by
  unfold dropR
  rw [h.cn_]
  have h1 := there_one (⟨path n, t, c, ttl, d⟩ : R) 0 d
  have h2 := drop_one (⟨path n, t, c, ttl, d⟩ : R)
  show (if _ then _ else _) = _
  rw [if_pos h1, h2]
set_option maxRecDepth 5000 in
theorem dropR_nil {A n : List (List UInt8)} {t : Nat} {d c : List UInt8} (h : Fine A n t d c) : dropR [] n t d = (false, []) := by
  unfold dropR
  rw [h.cn_]
  show (if _ then _ else _) = _
  rw [if_neg (by have : there [] (⟨path n, t, c, 0, d⟩ : R) = false := rfl; rw [this]; simp)]
set_option maxRecDepth 5000 in
theorem setAt_one (p : List (List UInt8)) (t : Nat) (c d : List UInt8) (ttl : Nat) : setAt [⟨p, t, c, ttl, d⟩] p t = [⟨p, t, c, ttl, d⟩] := by unfold setAt; simp
set_option maxRecDepth 5000 in
theorem seat_fine (k : Nat) : ∃ c, Fine exA (owner (k % 256)) (typeK (k / 256 % 256)) (dataK (typeK (k / 256 % 256)) (k / 65536 % 256)) c := by
  obtain ⟨c, hc⟩ := data_ok (k / 65536 % 256) (k / 256 % 256) (Nat.mod_lt _ (by decide))
  exact ⟨c, (owner_good _).1, (owner_good _).2.1, hc⟩
set_option maxRecDepth 5000 in
theorem ttlK_lt (k : Nat) : ttlK k < 4294967296 := by
  have h : ∀ j, j < 4 → [30, 30, 60, 5].getD j 0 < 4294967296 := by decide
  exact h _ (Nat.mod_lt _ (by decide))
end Z
set_option maxRecDepth 5000 in
theorem exA_small : N.Small Z.exA := by
  have h2 : Z.exA.length ≤ 1000000 ∧ ∀ l ∈ Z.exA, l.length ≤ 1000000 := by decide
  exact h2
set_option maxRecDepth 5000 in
theorem exA_low : N.lowN Z.exA = Z.exA := by decide +kernel
end Go.Proofs.YtdldaphkiphpnaaGreat

/- signetlaw15.known: a record that stands there. -/
namespace Go.Proofs.YtdldaphkiphpnaaGreat
open Go.RowKit
/- a record in a box: its cells -/
def recC (na : Option Addr) (nl nc t cl ttl : Nat) (da : Option Addr) (dl dc : Nat) : Array Value := #[.slice na nl nc, .int .u16 (t : Int), .int .u16 (cl : Int), .int .u32 (ttl : Int), .slice da dl dc]
set_option maxRecDepth 5000 in
theorem rc_facts {W : World} {g : Nat} {v0 v1 v2 v3 v4 : Value} (h : RowAt W g 39 #[v0, v1, v2, v3, v4]) : W.cell? ⟨g, 0, none⟩ = some v0 ∧ W.cell? ⟨g, 1, none⟩ = some v1 ∧ W.cell? ⟨g, 2, none⟩ = some v2 ∧ W.cell? ⟨g, 3, none⟩ = some v3 ∧ W.cell? ⟨g, 4, none⟩ = some v4 :=
  ⟨h.cell 0, h.cell 1, h.cell 2, h.cell 3, h.cell 4⟩
set_option maxRecDepth 5000 in
theorem as_facts {W : World} {g : Nat} {v0 v1 v2 v3 : Value} (h : RowAt W g 54 #[v0, v1, v2, v3]) : W.cell? ⟨g, 0, none⟩ = some v0 ∧ W.cell? ⟨g, 1, none⟩ = some v1 ∧ W.cell? ⟨g, 2, none⟩ = some v2 ∧ W.cell? ⟨g, 3, none⟩ = some v3 :=
  ⟨h.cell 0, h.cell 1, h.cell 2, h.cell 3⟩
set_option maxRecDepth 5000 in
theorem far_chk : N.within [[102, 97, 114]] Z.exA = false := by decide +kernel
set_option maxRecDepth 5000 in
theorem far_ok : N.Small [[102, 97, 114]] := by
  have h2 : ([[102, 97, 114]] : List (List UInt8)).length ≤ 1000000 ∧ ∀ l ∈ ([[102, 97, 114]] : List (List UInt8)), l.length ≤ 1000000 := by decide
  exact h2
set_option maxRecDepth 100000 in
set_option maxHeartbeats 2000000 in
theorem known_any (w : World) : Calls Tryz.prog 9 #[] w fun e w' => e = .returned (.bool true) ∧ Below w.heap.size w w' := by
  obtain ⟨X, hX⟩ : ∃ X : Nat → Prop, X = fun i => i < w.heap.size := ⟨_, rfl⟩
  have hX1 : ∀ i, X i → i < w.heap.size := fun i h => by rw [hX] at h; exact h
  have hX2 : ∀ i, i < w.heap.size → X i := fun i h => by rw [hX]; exact h
  obtain ⟨c, hfine⟩ := Z.seat_fine 1
  obtain ⟨n, hn⟩ : ∃ n, n = Z.owner (1 % 256) := ⟨_, rfl⟩
  obtain ⟨t, ht⟩ : ∃ t, t = Z.typeK (1 / 256 % 256) := ⟨_, rfl⟩
  obtain ⟨d, hd⟩ : ∃ d, d = Z.dataK t (1 / 65536 % 256) := ⟨_, rfl⟩
  obtain ⟨ttl, httl⟩ : ∃ ttl, ttl = Z.ttlK 1 := ⟨_, rfl⟩
  have hrec := fun W => seatRecord_any 1 (by decide) W
  rw [← hn, ← ht, ← hd] at hfine
  rw [← hn, ← ht, ← httl, ← hd] at hrec
  have ht16 : t < 65536 := by rw [ht]; exact Z.typeK_lt _
  have httl32 : ttl < 4294967296 := by rw [httl]; exact Z.ttlK_lt _
  have hsm : Hid (N.Small n) := by rw [hn]; exact Z.owner_small _
  have hnl4 : n.length ≤ 4 := by rw [hn]; exact (Z.owner_good _).2.2.1
  obtain ⟨nl, hnl⟩ : ∃ nl, nl = n.length := ⟨_, rfl⟩
  obtain ⟨dl, hdl⟩ : ∃ dl, dl = d.length := ⟨_, rfl⟩
  rw [← hnl] at hnl4
  rw [← hnl, ← hdl] at hrec
  have hhas : Z.has [⟨path n, t, c, ttl, d⟩] (path Z.exA) = true := by
    rw [Z.has_iff]
    refine ⟨⟨path n, t, c, ttl, d⟩, by simp, ?_⟩
    show path Z.exA <+: path n
    rw [hn]; decide +kernel
  have hp1 := Z.putR_nil hfine ttl
  have hp2 := Z.putR_one hfine ttl ttl
  have hset1 := Z.setAt_one (path n) t c d ttl
  have HX1 := hide hX1
  have HX2 := hide hX2
  have HREC := hide hrec
  have HP1 := hide hp1
  have HP2 := hide hp2
  have HS1 := hide hset1
  have HHAS := hide hhas
  have HNL : Hid (n.length = nl) := hide hnl.symm
  have HDL : Hid (d.length = dl) := hide hdl.symm
  clear hX hX1 hX2 hfine hn ht hd httl hrec hp1 hp2 hset1 hhas hnl hdl
  go_enter Tryz.func9, Tryz.ntmps9
  go_upto_region 4 with (first
    | (go_at_call 12; refine (apex_any w).mono ?_; rintro e wa ⟨va, rfl, hOa, hBa⟩; obtain ⟨aa, ca, rfl, hSa, _, hca, _⟩ := hOa.open)
    | (go_at_call 11; refine (znew_live X wa (fun i hi => Nat.lt_of_lt_of_le (HX1.out i hi) hBa.size) Z.exA aa _ ca (hide rfl) hSa (hide exA_small)).mono ?_; rintro e w1 ⟨Zb, rfl, hZb, hZ1, hB1⟩; rw [exA_low] at hZ1)
    | fail)
  have HZ1 := hide hZ1
  have hb1 : Below w.heap.size w w1 := hBa.trans (hB1.mono hBa.size)
  have HB1 := hide hb1
  clear hZ1 hb1 hBa hOa hSa hca hB1
  go_upto_region 5 with (go_at_call 38; refine (HREC.out w1).mono ?_; rintro e w2 ⟨na, nc, da, dc, rfl, hSn, hnc, hSd, hnd, hdc, hB2⟩)
  have hr3 := RowAt.new w2 39 #[.slice na nl nc, .int .u16 (t : Int), .int .u16 1, .int .u32 (ttl : Int), .slice da dl dc]
  obtain ⟨w3, hw3⟩ : ∃ w3, w3 = w2.alloc (.cells #[.slice na nl nc, .int .u16 (t : Int), .int .u16 1, .int .u32 (ttl : Int), .slice da dl dc] 39) := ⟨_, rfl⟩
  rw [← hw3] at hr3 ⊢
  have hb23 : Below w2.heap.size w2 w3 := by rw [hw3]; exact (Below.refl _ w2).alloc (Nat.le_refl _) _
  have hb13 := hB2.trans (hb23.mono hB2.size)
  obtain ⟨x0, x1, x2, x3, x4⟩ := rc_facts hr3
  have HZ3 := hide (HZ1.out.bel hb13)
  have HB3 := hide (HB1.out.trans (hb13.mono HB1.out.size))
  have HSN := hide (hSn.below hb23 (Nat.le_refl _))
  have HSD := hide (hSd.below hb23 (Nat.le_refl _))
  have HR3 := hide hr3
  obtain ⟨g2, hg2⟩ : ∃ g2, g2 = w2.heap.size := ⟨_, rfl⟩
  rw [← hg2] at x0 x1 x2 x3 x4 HR3 ⊢
  clear hw3 hr3 hb23 hb13 hB2 hSn hSd hg2
  go_upto_region 6 with (go_at_call 36; refine (zput_live HZ3.out (hide exA_small) n na nl nc HNL hnc HSN.out hsm t 1 ttl d da dl dc HDL HSD.out hnd hdc ht16 httl32 (by omega)).mono ?_; rintro e w4 ⟨he, hZ4, hK4⟩; rw [HP1.out] at he hZ4; subst he; have hr4 := hK4.row HR3.out (by decide) (by decide); obtain ⟨y0, y1, y2, y3, y4⟩ := rc_facts hr4)
  have HZ4 := hide hZ4
  have HK4 := hide hK4
  have HR4 := hide hr4
  have HSN4 := hide (hK4.ss _ _ HSN.out)
  have HSD4 := hide (hK4.sl _ _ HSD.out)
  have HB4 := hide (HB3.out.trans (hK4.below (fun i hi => HX2.out i hi) HB3.out.size))
  clear hZ4 hK4 hr4 x0 x1 x2 x3 x4
  go_upto_region 7 with (go_at_call 36; refine (zput_live HZ4.out (hide exA_small) n na nl nc HNL hnc HSN4.out hsm t 1 ttl d da dl dc HDL HSD4.out hnd hdc ht16 httl32 (by omega)).mono ?_; rintro e w5 ⟨he, hZ5, hK5⟩; rw [HP2.out] at he hZ5; subst he; have hr5 := hK5.row HR4.out (by decide) (by decide))
  have HZ5 := hide hZ5
  have HR5 := hide hr5
  have HSN5 := hide (hK5.ss _ _ HSN4.out)
  have HB5 := hide (HB4.out.trans (hK5.below (fun i hi => HX2.out i hi) HB4.out.size))
  clear hZ5 hK5 hr5 y0 y1 y2 y3 y4
  have hfar : Calls Tryz.prog 36 #[.pointer (some ⟨Zb, 0, none⟩), .agg #[.slice (some ⟨w5.heap.size, 0, none⟩) 1 1, .int .u16 0, .int .u16 1, .int .u32 0, .slice none 0 0]] (w5.alloc (.cells #[.string ⟨#[102, 97, 114]⟩] 9)) fun e w' => e = .returned (.tuple #[.bool false, .int .i64 110]) ∧ ZLive X w' Zb Z.exA [⟨path n, t, c, ttl, d⟩] 1000 ∧ ZKp X w5 w' := by
    have hb : Below w5.heap.size w5 (w5.alloc (.cells #[.string ⟨#[102, 97, 114]⟩] 9)) := (Below.refl _ w5).alloc (Nat.le_refl _) _
    refine (zput_live (HZ5.out.bel hb) (hide exA_small) [[102, 97, 114]] (some ⟨w5.heap.size, 0, none⟩) 1 1 (hide rfl) (Nat.le_refl _) (SlS.litm w5 _ _ 9 (0, 0) rfl) (hide far_ok) 0 1 0 [] none 0 0 (hide rfl) (fun h => absurd h (by simp)) (fun _ => rfl) (Nat.le_refl _) (by decide) (by decide) (by omega)).mono ?_
    rintro e w' ⟨he, hZ, hK⟩
    rw [Z.putR_far far_chk] at he hZ
    exact ⟨he, hZ.mono (by omega), (ZKp.of_below hb).trans hK⟩
  go_upto_region 8 with (go_at_call 36; refine hfar.mono ?_; rintro e w6 ⟨rfl, hZ6, hK6⟩; have hr6 := hK6.row HR5.out (by decide) (by decide); obtain ⟨x0, x1, x2, x3, x4⟩ := rc_facts hr6)
  have HZ6 := hide hZ6
  have HSN6 := hide (hK6.ss _ _ HSN5.out)
  have HB6 := hide (HB5.out.trans (hK6.below (fun i hi => HX2.out i hi) HB5.out.size))
  clear hZ6 hK6 hr6 hfar x2 x3 x4
  go_upto_region 9 with (go_at_call 23; refine (zset_live HZ6.out (by omega) n na nl nc HNL HSN6.out hsm t ht16).mono ?_; rintro e w7 ⟨hB7, ⟨hno, _⟩ | ⟨_, na7, nc7, v7, rfl, hT7, hnc7, hO7⟩⟩; (· exact absurd hno (by rw [HS1.out]; simp)); rw [HS1.out] at hO7; obtain ⟨a7, c7, hv7, _, hc7⟩ := hO7.slice; rw [List.length_map, List.length_singleton] at hv7; subst hv7; have q3 := (RowAt.new w7 54 #[.slice na7 nl nc7, .int .u16 (t : Int), .int .u32 ((Z.ttlAt [⟨path n, t, c, ttl, d⟩] (path n) t : Nat) : Int), .slice a7 1 c7]).cell 3)
  have hb8 : Below w6.heap.size w6 (w7.alloc (.cells #[.slice na7 nl nc7, .int .u16 (t : Int), .int .u32 ((Z.ttlAt [⟨path n, t, c, ttl, d⟩] (path n) t : Nat) : Int), .slice a7 1 c7] 54)) := hB7.trans (((Below.refl _ w7).alloc (Nat.le_refl _) _).mono hB7.size)
  have HZ8 := hide (HZ6.out.bel hb8)
  have HB8 := hide (HB6.out.trans (hb8.mono HB6.out.size))
  obtain ⟨w8, hw8⟩ : ∃ w8, w8 = w7.alloc (.cells #[.slice na7 nl nc7, .int .u16 (t : Int), .int .u32 ((Z.ttlAt [⟨path n, t, c, ttl, d⟩] (path n) t : Nat) : Int), .slice a7 1 c7] 54) := ⟨_, rfl⟩
  rw [← hw8] at HZ8 HB8 q3 ⊢
  obtain ⟨g7, hg7⟩ : ∃ g7, g7 = w7.heap.size := ⟨_, rfl⟩
  rw [← hg7] at q3 ⊢
  have e0 : (!decide (ttl = ttl)) = false := by simp
  clear hb8 hw8 hg7 hB7 hO7 hT7 hc7
  go_wp2_with (first
    | (go_at_call 14; refine (zlen_live HZ8.out).mono ?_; rintro e wq ⟨he, hwq⟩; rw [he, hwq]; clear he hwq wq)
    | (go_at_call 12; refine (apex_any w8).mono ?_; rintro e w9 ⟨v9, rfl, hO9, hB9⟩; obtain ⟨a9, c9, hv9, hS9, _, hc9, _⟩ := hO9.open; subst hv9)
    | (go_at_call 29; refine (zhas_live (HZ8.out.bel hB9) Z.exA a9 _ c9 (hide rfl) hS9 (hide exA_small)).mono ?_; rintro e w10 ⟨he, hB10⟩; rw [HHAS.out] at he; subst he; have HB10 := hide (HB8.out.trans ((hB9.trans (hB10.mono hB9.size)).mono HB8.out.size)); have HZ10 := hide ((HZ8.out.bel hB9).bel hB10))
    | (go_at_call 16; refine (zrecords_live HZ10.out (by omega)).mono ?_; rintro e w11 ⟨v11, rfl, hO11, hB11⟩; obtain ⟨a11, c11, hv11, _, _⟩ := hO11.slice; rw [List.length_singleton] at hv11; subst hv11)
    | fail)
  go_ret
  exact ⟨rfl, HB10.out.trans (hB11.mono HB10.out.size)⟩
end Go.Proofs.YtdldaphkiphpnaaGreat

/- The law ZoneTwice returns true, for every two numbers. -/
namespace Go.Proofs.YtdldaphkiphpnaaGreat
open Go.RowKit
set_option maxRecDepth 5000 in
theorem has_nil (p : List (List UInt8)) : Z.has [] p = false := rfl
set_option maxRecDepth 5000 in
theorem dropSet_nil (p : List (List UInt8)) (t : Nat) : Z.dropSet [] p t = [] := rfl
set_option maxRecDepth 5000 in
theorem slL_rec {w : World} {g : Nat} {na da : Option Addr} {nl nc dl dc : Nat} {a b c : Int} (hr : RowAt w g 39 #[.slice na nl nc, .int .u16 a, .int .u16 b, .int .u32 c, .slice da dl dc]) (j : Nat) (v : Value) {ao : Option Addr} {l : List UInt8} (hs : SlL w ao l) : SlL (w.setCell ⟨g, j, none⟩ v) ao l := fun hn => by
  obtain ⟨b1, o, e, hlt, hc⟩ := hs hn
  have hg : b1 ≠ g := fun e2 => by
    have := hc 0 hn
    rw [e2, hr.cell] at this
    match o with
    | 0 => simp at this
    | 1 => simp at this
    | 2 => simp at this
    | 3 => simp at this
    | 4 => simp at this
    | o + 5 => simp at this
  refine ⟨b1, o, e, by rw [World.size_setCell]; exact hlt, fun i hi => ?_⟩
  rw [← hc i hi]; exact World.cell?_of_block (heap_setCell_other _ _ _ _ hg)
set_option maxRecDepth 5000 in
theorem slS_rec {w : World} {g : Nat} {na da : Option Addr} {nl nc dl dc : Nat} {a b c : Int} (hr : RowAt w g 39 #[.slice na nl nc, .int .u16 a, .int .u16 b, .int .u32 c, .slice da dl dc]) (j : Nat) (v : Value) {ao : Option Addr} {l : List (List UInt8)} (hs : SlS w ao l) : SlS (w.setCell ⟨g, j, none⟩ v) ao l := fun hn => by
  obtain ⟨b1, o, e, hlt, hc⟩ := hs hn
  have hg : b1 ≠ g := fun e2 => by
    have := hc 0 hn
    rw [e2, hr.cell] at this
    match o with
    | 0 => simp at this
    | 1 => simp at this
    | 2 => simp at this
    | 3 => simp at this
    | 4 => simp at this
    | o + 5 => simp at this
  refine ⟨b1, o, e, by rw [World.size_setCell]; exact hlt, fun i hi => ?_⟩
  rw [← hc i hi]; exact World.cell?_of_block (heap_setCell_other _ _ _ _ hg)
set_option maxRecDepth 5000 in
theorem ZLive.rec {X : Nat → Prop} {w : World} {Zb : Nat} {A : List (List UInt8)} {L : List Z.R} {K : Nat} (h : ZLive X w Zb A L K) {g : Nat} {na da : Option Addr} {nl nc dl dc : Nat} {a b c : Int} (hr : RowAt w g 39 #[.slice na nl nc, .int .u16 a, .int .u16 b, .int .u32 c, .slice da dl dc]) (j : Nat) (v : Value) : ZLive X (w.setCell ⟨g, j, none⟩ v) Zb A L K := by
  obtain ⟨ρ, G, C, h1, h2, h3⟩ := h
  obtain ⟨ao, cap, hz, _, _⟩ := h1.row
  have hr' : w.heap[g]? = some (Obj.cells #[.slice na nl nc, .int .u16 a, .int .u16 b, .int .u32 c, .slice da dl dc] 39) := hr
  have hgz : Zb ≠ g := fun e => by
    have hz' : w.heap[Zb]? = some (Obj.cells #[.slice ao A.length cap, ptr (nodeN G []), .int .i64 (L.length : Int)] 83) := hz
    rw [e, hr'] at hz'; injection hz' with hz'; injection hz' with _ hz' _
    exact absurd hz' (by decide)
  refine ⟨ρ, G, C, h1.keep (heap_setCell_other _ _ _ _ hgz) (fun i hi => heap_setCell_other _ _ _ _ (fun e => ?_)) (fun _ _ hs => slL_rec hr j v hs) (fun _ _ hs => slS_rec hr j v hs), fun i hi => ⟨by rw [World.size_setCell]; exact (h2 i hi).1, (h2 i hi).2⟩, h3⟩
  rcases h1.kind i hi with ⟨es, k, hb⟩ | ⟨x, y, hb⟩
  · rw [e, hr'] at hb; cases hb
  · rw [e, hr'] at hb; injection hb with hb; injection hb with _ hb _; exact absurd hb (by decide)
set_option maxRecDepth 100000 in
set_option maxHeartbeats 2000000 in
theorem zoneTwice_walk (k ttl2 : Nat) (hk : k < 4294967296) (httl2 : ttl2 < 4294967296) (w : World) : Calls Tryz.prog 8 #[.int .u32 (k : Int), .int .u32 (ttl2 : Int)] w fun e w' => e = .returned (.bool true) ∧ Below w.heap.size w w' := by
  obtain ⟨X, hX⟩ : ∃ X : Nat → Prop, X = fun i => i < w.heap.size := ⟨_, rfl⟩
  have hX1 : ∀ i, X i → i < w.heap.size := fun i h => by rw [hX] at h; exact h
  have hX2 : ∀ i, i < w.heap.size → X i := fun i h => by rw [hX]; exact h
  obtain ⟨c, hfine⟩ := Z.seat_fine k
  obtain ⟨n, hn⟩ : ∃ n, n = Z.owner (k % 256) := ⟨_, rfl⟩
  obtain ⟨t, ht⟩ : ∃ t, t = Z.typeK (k / 256 % 256) := ⟨_, rfl⟩
  obtain ⟨d, hd⟩ : ∃ d, d = Z.dataK t (k / 65536 % 256) := ⟨_, rfl⟩
  obtain ⟨ttl, httl⟩ : ∃ ttl, ttl = Z.ttlK k := ⟨_, rfl⟩
  have hrec := fun W => seatRecord_any k hk W
  rw [← hn, ← ht, ← hd] at hfine
  rw [← hn, ← ht, ← httl, ← hd] at hrec
  have ht16 : t < 65536 := by rw [ht]; exact Z.typeK_lt _
  have httl32 : ttl < 4294967296 := by rw [httl]; exact Z.ttlK_lt _
  have hsm : Hid (N.Small n) := by rw [hn]; exact Z.owner_small _
  have hnl4 : n.length ≤ 4 := by rw [hn]; exact (Z.owner_good _).2.2.1
  obtain ⟨nl, hnl⟩ : ∃ nl, nl = n.length := ⟨_, rfl⟩
  obtain ⟨dl, hdl⟩ : ∃ dl, dl = d.length := ⟨_, rfl⟩
  rw [← hnl] at hnl4
  rw [← hnl, ← hdl] at hrec
  obtain ⟨cb, hcb⟩ : ∃ cb, cb = !decide (ttl2 = ttl) := ⟨_, rfl⟩
  have hp1 := Z.putR_nil hfine ttl
  have hp2 := Z.putR_one hfine ttl ttl
  have e0 : (!decide (ttl = ttl)) = false := by simp
  rw [e0] at hp2
  have hp3 := Z.putR_one hfine ttl ttl2
  rw [← hcb] at hp3
  have hset1 := Z.setAt_one (path n) t c d ttl2
  have htat := Z.ttlAt_one ⟨path n, t, c, ttl2, d⟩
  have hd1 := Z.dropR_one hfine ttl2
  have hd2 := Z.dropR_nil hfine
  have hcmp : ((ttl2 : Int) != (ttl : Int)) = cb := by
    rw [hcb]
    by_cases e : ttl2 = ttl
    · subst e; simp
    · simp [e]; omega
  have hcc : (cb == cb) = true := by simp
  have HX1 := hide hX1
  have HX2 := hide hX2
  have HREC := hide hrec
  have HP1 := hide hp1
  have HP2 := hide hp2
  have HP3 := hide hp3
  have HS1 := hide hset1
  have HTA := hide htat
  have HD1 := hide hd1
  have HD2 := hide hd2
  have HNL : Hid (n.length = nl) := hide hnl.symm
  have HDL : Hid (d.length = dl) := hide hdl.symm
  clear hX hX1 hX2 hfine hn ht hd httl hrec hp1 hp2 hp3 hset1 hd1 hd2 hnl hdl hcb e0 htat
  go_enter Tryz.func8, Tryz.ntmps8
  go_upto_region 4 with (first
    | (go_at_call 9; refine (known_any w).mono ?_; rintro e w0 ⟨rfl, hB0⟩)
    | (go_at_call 12; refine (apex_any w0).mono ?_; rintro e wa ⟨va, rfl, hOa, hBa⟩; obtain ⟨aa, ca, rfl, hSa, _, hca, _⟩ := hOa.open; have hB0a := hB0.trans (hBa.mono hB0.size))
    | (go_at_call 11; refine (znew_live X wa (fun i hi => Nat.lt_of_lt_of_le (HX1.out i hi) hB0a.size) Z.exA aa _ ca (hide rfl) hSa (hide exA_small)).mono ?_; rintro e w1 ⟨Zb, rfl, hZb, hZ1, hB1⟩; rw [exA_low] at hZ1)
    | fail)
  have HZ1 := hide hZ1
  have hb1 : Below w.heap.size w w1 := hB0a.trans (hB1.mono hB0a.size)
  have HB1 := hide hb1
  clear hZ1 hb1 hBa hOa hSa hca hB1 hB0 hB0a
  go_upto_region 5 with (go_at_call 38; refine (HREC.out w1).mono ?_; rintro e w2 ⟨na, nc, da, dc, rfl, hSn, hnc, hSd, hnd, hdc, hB2⟩)
  have hr3 := RowAt.new w2 39 #[.slice na nl nc, .int .u16 (t : Int), .int .u16 1, .int .u32 (ttl : Int), .slice da dl dc]
  obtain ⟨w3, hw3⟩ : ∃ w3, w3 = w2.alloc (.cells #[.slice na nl nc, .int .u16 (t : Int), .int .u16 1, .int .u32 (ttl : Int), .slice da dl dc] 39) := ⟨_, rfl⟩
  rw [← hw3] at hr3 ⊢
  have hb23 : Below w2.heap.size w2 w3 := by rw [hw3]; exact (Below.refl _ w2).alloc (Nat.le_refl _) _
  have hb13 := hB2.trans (hb23.mono hB2.size)
  obtain ⟨x0, x1, x2, x3, x4⟩ := rc_facts hr3
  have HZ3 := hide (HZ1.out.bel hb13)
  have HB3 := hide (HB1.out.trans (hb13.mono HB1.out.size))
  have HSN := hide (hSn.below hb23 (Nat.le_refl _))
  have HSD := hide (hSd.below hb23 (Nat.le_refl _))
  have HR3 := hide hr3
  have hge : w.heap.size ≤ w2.heap.size := Nat.le_trans HB1.out.size hB2.size
  obtain ⟨g2, hg2⟩ : ∃ g2, g2 = w2.heap.size := ⟨_, rfl⟩
  rw [← hg2] at x0 x1 x2 x3 x4 HR3 hge ⊢
  have HGE := hide hge
  have HBW2 := hide hB2
  clear hw3 hr3 hb23 hb13 hB2 hSn hSd hg2 hge
  go_upto_region 6 with (go_at_call 36; refine (zput_live HZ3.out (hide exA_small) n na nl nc HNL hnc HSN.out hsm t 1 ttl d da dl dc HDL HSD.out hnd hdc ht16 httl32 (by omega)).mono ?_; rintro e w4 ⟨he, hZ4, hK4⟩; rw [HP1.out] at he hZ4; subst he; have hr4 := hK4.row HR3.out (by decide) (by decide); obtain ⟨y0, y1, y2, y3, y4⟩ := rc_facts hr4)
  have HZ4 := hide hZ4
  have HR4 := hide hr4
  have HSN4 := hide (hK4.ss _ _ HSN.out)
  have HSD4 := hide (hK4.sl _ _ HSD.out)
  have HB4 := hide (HB3.out.trans (hK4.below (fun i hi => HX2.out i hi) HB3.out.size))
  clear hZ4 hK4 hr4 x0 x1 x2 x3 x4
  go_upto_region 7 with (go_at_call 36; refine (zput_live HZ4.out (hide exA_small) n na nl nc HNL hnc HSN4.out hsm t 1 ttl d da dl dc HDL HSD4.out hnd hdc ht16 httl32 (by omega)).mono ?_; rintro e w5 ⟨he, hZ5, hK5⟩; rw [HP2.out] at he hZ5; subst he; have hr5 := hK5.row HR4.out (by decide) (by decide))
  have x3 : w5.cell? ⟨g2, 3, none⟩ = some (.int .u32 (ttl : Int)) := hr5.cell 3
  have f3 : w5.frozen? ⟨g2, 3, none⟩ = false := hr5.frozen 3
  have hr6 := hr5.set 3 (.int .u32 (ttl2 : Int))
  go_upto_region 8 with fail
  have hz6 := hZ5.rec hr5 3 (.int .u32 (ttl2 : Int))
  have HSN6 := hide (slS_rec hr5 3 (.int .u32 (ttl2 : Int)) (hK5.ss _ _ HSN4.out))
  have HSD6 := hide (slL_rec hr5 3 (.int .u32 (ttl2 : Int)) (hK5.sl _ _ HSD4.out))
  have hb6 := (HB4.out.trans (hK5.below (fun i hi => HX2.out i hi) HB4.out.size)).setCell (p := ⟨g2, 3, none⟩) HGE.out (.int .u32 (ttl2 : Int))
  obtain ⟨w6, hw6⟩ : ∃ w6, w6 = w5.setCell ⟨g2, 3, none⟩ (.int .u32 (ttl2 : Int)) := ⟨_, rfl⟩
  have hr6 : RowAt w6 g2 39 #[.slice na nl nc, .int .u16 (t : Int), .int .u16 1, .int .u32 (ttl2 : Int), .slice da dl dc] := by rw [hw6]; exact hr6
  rw [← hw6] at hz6 HSN6 HSD6 hb6 ⊢
  obtain ⟨x0, x1, x2, x3, x4⟩ := rc_facts hr6
  have HZ6 := hide hz6
  have HB6 := hide hb6
  have HR6 := hide hr6
  clear hZ5 hK5 hr5 f3 hr6 hz6 hb6 hw6 y0 y1 y2 y3 y4
  go_upto_region 9 with (go_at_call 36; refine (zput_live HZ6.out (hide exA_small) n na nl nc HNL hnc HSN6.out hsm t 1 ttl2 d da dl dc HDL HSD6.out hnd hdc ht16 httl2 (by omega)).mono ?_; rintro e w7 ⟨he, hZ7, hK7⟩; rw [HP3.out] at he hZ7; subst he; have hr7 := hK7.row HR6.out (by decide) (by decide); obtain ⟨y0, y1, y2, y3, y4⟩ := rc_facts hr7)
  have HZ7 := hide hZ7
  have HR7 := hide hr7
  have HSN7 := hide (hK7.ss _ _ HSN6.out)
  have HSD7 := hide (hK7.sl _ _ HSD6.out)
  have HB7 := hide (HB6.out.trans (hK7.below (fun i hi => HX2.out i hi) HB6.out.size))
  clear hZ7 hK7 hr7 x0 x1 x2 x3 x4
  go_upto_region 10 with (go_at_call 23; refine (zset_live HZ7.out (by omega) n na nl nc HNL HSN7.out hsm t ht16).mono ?_; rintro e w8 ⟨hB8, ⟨hno, _⟩ | ⟨_, na8, nc8, v8, rfl, hT8, hnc8, hO8⟩⟩; (· exact absurd hno (by rw [HS1.out]; simp)); rw [HS1.out] at hO8; rw [HTA.out]; obtain ⟨a8, c8, hv8, _, hc8⟩ := hO8.slice; rw [List.length_map, List.length_singleton] at hv8; subst hv8)
  have hb79 : Below w7.heap.size w7 (w8.alloc (.cells #[.slice na8 nl nc8, .int .u16 (t : Int), .int .u32 (ttl2 : Int), .slice a8 1 c8] 54)) := hB8.trans (((Below.refl _ w8).alloc (Nat.le_refl _) _).mono hB8.size)
  have has9 := RowAt.new w8 54 #[.slice na8 nl nc8, .int .u16 (t : Int), .int .u32 (ttl2 : Int), .slice a8 1 c8]
  obtain ⟨w9, hw9⟩ : ∃ w9, w9 = w8.alloc (.cells #[.slice na8 nl nc8, .int .u16 (t : Int), .int .u32 (ttl2 : Int), .slice a8 1 c8] 54) := ⟨_, rfl⟩
  rw [← hw9] at hb79 has9 ⊢
  have HZ9 := hide (HZ7.out.bel hb79)
  have HB9 := hide (HB7.out.trans (hb79.mono HB7.out.size))
  have HSN9 := hide (HSN7.out.below hb79 (Nat.le_refl _))
  have HSD9 := hide (HSD7.out.below hb79 (Nat.le_refl _))
  have hr9 := HR7.out.below hb79 HR7.out.lt
  obtain ⟨x0, x1, x2, x3, x4⟩ := rc_facts hr9
  have HR9 := hide hr9
  have HAS9 := hide has9
  obtain ⟨g8, hg8⟩ : ∃ g8, g8 = w8.heap.size := ⟨_, rfl⟩
  rw [← hg8] at HAS9 ⊢
  clear hb79 has9 hw9 hr9 hB8 hO8 hT8 hc8 hnc8 y0 y1 y2 y3 y4 hg8
  go_region_held3 (fun w' => w'.cell? ⟨g2, 0, none⟩ = some (.slice na nl nc) ∧ w'.cell? ⟨g2, 1, none⟩ = some (.int .u16 (t : Int)) ∧ w'.cell? ⟨g2, 2, none⟩ = some (.int .u16 1) ∧ w'.cell? ⟨g2, 3, none⟩ = some (.int .u32 (ttl2 : Int)) ∧ w'.cell? ⟨g2, 4, none⟩ = some (.slice da dl dc)) (first | exact ⟨x0, x1, x2, x3, x4⟩ | exact ⟨u0, u1, u2, u3, u4⟩ | exact ⟨z0, z1, z2, z3, z4⟩) ((first
    | (go_at_call 39; refine (zdrop_live (X := X) (A := Z.exA) (L := []) (by first | exact HZ10.out | exact HZ10.out.bel (below_drewN (Below.refl _ w10) 1)) n na nl nc HNL (by exact HSN10.out) hsm t 1 ttl2 d da dl dc HDL (by exact HSD10.out) hnd hdc ht16).mono ?_; rintro e w11 ⟨he, hZ11, hK11⟩; rw [HD2.out] at he hZ11; subst he; have HK11 : Hid (ZKp X w10 w11) := hide (by first | exact hK11 | exact (ZKp.drewN w10 1).trans hK11); have HZ11 := hide hZ11; have HR11 := hide (HK11.out.row HR10.out (by decide) (by decide)); obtain ⟨z0, z1, z2, z3, z4⟩ := rc_facts HR11.out; clear hK11 hZ11)
    | (go_at_call 39; refine (zdrop_live (X := X) (A := Z.exA) (L := [⟨path n, t, c, ttl2, d⟩]) (by first | exact HZ9.out | exact HZ9.out.bel (below_drewN (Below.refl _ w9) 1)) n na nl nc HNL (by exact HSN9.out) hsm t 1 ttl2 d da dl dc HDL (by exact HSD9.out) hnd hdc ht16).mono ?_; rintro e w10 ⟨he, hZ10, hK10⟩; rw [HD1.out] at he hZ10; subst he; have HK10 : Hid (ZKp X w9 w10) := hide (by first | exact hK10 | exact (ZKp.drewN w9 1).trans hK10); have HZ10 := hide hZ10; have HR10 := hide (HK10.out.row HR9.out (by decide) (by decide)); have HSN10 := hide (HK10.out.ss _ _ HSN9.out); have HSD10 := hide (HK10.out.sl _ _ HSD9.out); obtain ⟨u0, u1, u2, u3, u4⟩ := rc_facts HR10.out; clear hK10 hZ10)))
  all_goals
    have hk := HK10.out.trans HK11.out
    have HAS11 := hide (hk.row HAS9.out (by decide) (by decide))
    have HB11 := hide (HB9.out.trans (hk.below (fun i hi => HX2.out i hi) HB9.out.size))
    have HSN11 := hide (hk.ss _ _ HSN9.out)
    clear hk x0 x1 x2 x3 x4 u0 u1 u2 u3 u4
    have HRX := hide HR11.out
    go_upto_region 12 with (go_at_call 23; refine (zset_live HZ11.out (by omega) n na nl nc HNL HSN11.out hsm t ht16).mono ?_; rintro e w12 ⟨hB12, ⟨_, rfl⟩ | ⟨hne, _⟩⟩; rotate_left; (· exact absurd rfl hne); unfold asetZ)
    have hb13 : Below w11.heap.size w11 (w12.alloc (.cells #[.slice none 0 0, .int .u16 0, .int .u32 0, .slice none 0 0] 54)) := hB12.trans (((Below.refl _ w12).alloc (Nat.le_refl _) _).mono hB12.size)
    obtain ⟨w13, hw13⟩ : ∃ w13, w13 = w12.alloc (.cells #[.slice none 0 0, .int .u16 0, .int .u32 0, .slice none 0 0] 54) := ⟨_, rfl⟩
    rw [← hw13] at hb13 ⊢
    have HB13 := hide (HB11.out.trans (hb13.mono HB11.out.size))
    have HZ13 := hide (HZ11.out.bel hb13)
    have HR13 := hide (HRX.out.below hb13 HRX.out.lt)
    have HAS13 := hide (HAS11.out.below hb13 HAS11.out.lt)
    have HSN13 := hide (HSN11.out.below hb13 (Nat.le_refl _))
    clear hb13 hw13 hB12 z0 z1 z2 z3 z4
    go_wp2_with (first
      | (go_at_call 38; refine (HREC.out w13).mono ?_; rintro e w14 ⟨na', nc', da', dc', rfl, _, _, _, _, _, hB14⟩; have hfd : (Instr.field 39 (.agg #[.slice na' nl nc', .int .u16 (t : Int), .int .u16 1, .int .u32 (ttl : Int), .slice da' dl dc']) 3).run Tryz.prog w14 = .ok (.int .u32 (ttl : Int)) w14 := (by rfl); have hr14 := HR13.out.below hB14 HR13.out.lt; have ha14 := HAS13.out.below hB14 HAS13.out.lt; have x0 : w14.cell? ⟨g2, 0, none⟩ = some (.slice na nl nc) := hr14.cell 0; have q2 : w14.cell? ⟨g8, 2, none⟩ = some (.int .u32 (ttl2 : Int)) := ha14.cell 2; have q3 : w14.cell? ⟨g8, 3, none⟩ = some (.slice a8 1 c8) := ha14.cell 3; have HR14 := hide hr14; have HZ14 := hide (HZ13.out.bel hB14); have HSN14 := hide (HSN13.out.below hB14 (Nat.le_refl _)); have HB14 := hide (HB13.out.trans (hB14.mono HB13.out.size)); clear hr14 ha14 hB14)
      | (go_at_call 14; refine (zlen_live HZ14.out).mono ?_; rintro e wq ⟨he, hwq⟩; rw [he, hwq]; clear he hwq wq)
      | (go_at_call 29; refine (zhas_live HZ14.out n na nl nc HNL HSN14.out hsm).mono ?_; rintro e w15 ⟨he, hB15⟩; rw [has_nil] at he; subst he; have y0 : w15.cell? ⟨g2, 0, none⟩ = some (.slice na nl nc) := (HR14.out.below hB15 HR14.out.lt).cell 0)
      | (go_at_call 40; refine (zdropSet_live (HZ14.out.bel hB15) (by omega) n na nl nc HNL (HSN14.out.below hB15 (Nat.le_refl _)) hsm 255 (by decide)).mono ?_; rintro e w16 ⟨he, _, hK16⟩; rw [dropSet_nil] at he; have he : e = .returned (.int .i64 0) := he; subst he)
      | fail)
    go_ret
    have hb15 := HB14.out.trans (hB15.mono HB14.out.size)
    exact ⟨rfl, hb15.trans (hK16.below (fun i hi => HX2.out i hi) hb15.size)⟩
end Go.Proofs.YtdldaphkiphpnaaGreat
