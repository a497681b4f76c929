/- signetlaw15.known: a record that stands there. -/
import Derived.Test.YtdldaphkiphpnaaGreatZlw
import Derived.Test.YtdldaphkiphpnaaGreatZsr
import Derived.Deep.Cut
namespace Go.Proofs.YtdldaphkiphpnaaGreat
open Go.RowKit
/- a record in a box: its cells -/
def recC (na : Option Addr) (nl nc t cl ttl : Nat) (da : Option Addr) (dl dc : Nat) : Array Value := #[.slice na nl nc, .int .u16 (t : Int), .int .u16 (cl : Int), .int .u32 (ttl : Int), .slice da dl dc]
set_option maxRecDepth 5000 in
theorem rc_facts {W : World} {g : Nat} {v0 v1 v2 v3 v4 : Value} (h : RowAt W g 39 #[v0, v1, v2, v3, v4]) : W.cell? ⟨g, 0, none⟩ = some v0 ∧ W.cell? ⟨g, 1, none⟩ = some v1 ∧ W.cell? ⟨g, 2, none⟩ = some v2 ∧ W.cell? ⟨g, 3, none⟩ = some v3 ∧ W.cell? ⟨g, 4, none⟩ = some v4 :=
  ⟨h.cell 0, h.cell 1, h.cell 2, h.cell 3, h.cell 4⟩
set_option maxRecDepth 5000 in
theorem as_facts {W : World} {g : Nat} {v0 v1 v2 v3 : Value} (h : RowAt W g 54 #[v0, v1, v2, v3]) : W.cell? ⟨g, 0, none⟩ = some v0 ∧ W.cell? ⟨g, 1, none⟩ = some v1 ∧ W.cell? ⟨g, 2, none⟩ = some v2 ∧ W.cell? ⟨g, 3, none⟩ = some v3 :=
  ⟨h.cell 0, h.cell 1, h.cell 2, h.cell 3⟩
set_option maxRecDepth 5000 in
theorem far_chk : N.within [[102, 97, 114]] Z.exA = false := by decide +kernel
set_option maxRecDepth 5000 in
theorem far_ok : N.Small [[102, 97, 114]] := by
  have h2 : ([[102, 97, 114]] : List (List UInt8)).length ≤ 1000000 ∧ ∀ l ∈ ([[102, 97, 114]] : List (List UInt8)), l.length ≤ 1000000 := by decide
  exact h2
set_option maxRecDepth 100000 in
set_option maxHeartbeats 2000000 in
theorem known_any (w : World) : Calls Tryz.prog 9 #[] w fun e w' => e = .returned (.bool true) ∧ Below w.heap.size w w' := by
  obtain ⟨X, hX⟩ : ∃ X : Nat → Prop, X = fun i => i < w.heap.size := ⟨_, rfl⟩
  have hX1 : ∀ i, X i → i < w.heap.size := fun i h => by rw [hX] at h; exact h
  have hX2 : ∀ i, i < w.heap.size → X i := fun i h => by rw [hX]; exact h
  obtain ⟨c, hfine⟩ := Z.seat_fine 1
  obtain ⟨n, hn⟩ : ∃ n, n = Z.owner (1 % 256) := ⟨_, rfl⟩
  obtain ⟨t, ht⟩ : ∃ t, t = Z.typeK (1 / 256 % 256) := ⟨_, rfl⟩
  obtain ⟨d, hd⟩ : ∃ d, d = Z.dataK t (1 / 65536 % 256) := ⟨_, rfl⟩
  obtain ⟨ttl, httl⟩ : ∃ ttl, ttl = Z.ttlK 1 := ⟨_, rfl⟩
  have hrec := fun W => seatRecord_any 1 (by decide) W
  rw [← hn, ← ht, ← hd] at hfine
  rw [← hn, ← ht, ← httl, ← hd] at hrec
  have ht16 : t < 65536 := by rw [ht]; exact Z.typeK_lt _
  have httl32 : ttl < 4294967296 := by rw [httl]; exact Z.ttlK_lt _
  have hsm : Hid (N.Small n) := by rw [hn]; exact Z.owner_small _
  have hnl4 : n.length ≤ 4 := by rw [hn]; exact (Z.owner_good _).2.2.1
  obtain ⟨nl, hnl⟩ : ∃ nl, nl = n.length := ⟨_, rfl⟩
  obtain ⟨dl, hdl⟩ : ∃ dl, dl = d.length := ⟨_, rfl⟩
  rw [← hnl] at hnl4
  rw [← hnl, ← hdl] at hrec
  have hhas : Z.has [⟨path n, t, c, ttl, d⟩] (path Z.exA) = true := by
    rw [Z.has_iff]
    refine ⟨⟨path n, t, c, ttl, d⟩, by simp, ?_⟩
    show path Z.exA <+: path n
    rw [hn]; decide +kernel
  have hp1 := Z.putR_nil hfine ttl
  have hp2 := Z.putR_one hfine ttl ttl
  have hset1 := Z.setAt_one (path n) t c d ttl
  have HX1 := hide hX1
  have HX2 := hide hX2
  have HREC := hide hrec
  have HP1 := hide hp1
  have HP2 := hide hp2
  have HS1 := hide hset1
  have HHAS := hide hhas
  have HNL : Hid (n.length = nl) := hide hnl.symm
  have HDL : Hid (d.length = dl) := hide hdl.symm
  clear hX hX1 hX2 hfine hn ht hd httl hrec hp1 hp2 hset1 hhas hnl hdl
  go_enter Tryz.func9, Tryz.ntmps9
  go_upto_region 4 with (first
    | (go_at_call 12; refine (apex_any w).mono ?_; rintro e wa ⟨va, rfl, hOa, hBa⟩; obtain ⟨aa, ca, rfl, hSa, _, hca, _⟩ := hOa.open)
    | (go_at_call 11; refine (znew_live X wa (fun i hi => Nat.lt_of_lt_of_le (HX1.out i hi) hBa.size) Z.exA aa _ ca (hide rfl) hSa (hide exA_small)).mono ?_; rintro e w1 ⟨Zb, rfl, hZb, hZ1, hB1⟩; rw [exA_low] at hZ1)
    | fail)
  have HZ1 := hide hZ1
  have hb1 : Below w.heap.size w w1 := hBa.trans (hB1.mono hBa.size)
  have HB1 := hide hb1
  clear hZ1 hb1 hBa hOa hSa hca hB1
  go_upto_region 5 with (go_at_call 38; refine (HREC.out w1).mono ?_; rintro e w2 ⟨na, nc, da, dc, rfl, hSn, hnc, hSd, hnd, hdc, hB2⟩)
  have hr3 := RowAt.new w2 39 #[.slice na nl nc, .int .u16 (t : Int), .int .u16 1, .int .u32 (ttl : Int), .slice da dl dc]
  obtain ⟨w3, hw3⟩ : ∃ w3, w3 = w2.alloc (.cells #[.slice na nl nc, .int .u16 (t : Int), .int .u16 1, .int .u32 (ttl : Int), .slice da dl dc] 39) := ⟨_, rfl⟩
  rw [← hw3] at hr3 ⊢
  have hb23 : Below w2.heap.size w2 w3 := by rw [hw3]; exact (Below.refl _ w2).alloc (Nat.le_refl _) _
  have hb13 := hB2.trans (hb23.mono hB2.size)
  obtain ⟨x0, x1, x2, x3, x4⟩ := rc_facts hr3
  have HZ3 := hide (HZ1.out.bel hb13)
  have HB3 := hide (HB1.out.trans (hb13.mono HB1.out.size))
  have HSN := hide (hSn.below hb23 (Nat.le_refl _))
  have HSD := hide (hSd.below hb23 (Nat.le_refl _))
  have HR3 := hide hr3
  obtain ⟨g2, hg2⟩ : ∃ g2, g2 = w2.heap.size := ⟨_, rfl⟩
  rw [← hg2] at x0 x1 x2 x3 x4 HR3 ⊢
  clear hw3 hr3 hb23 hb13 hB2 hSn hSd hg2
  go_upto_region 6 with (go_at_call 36; refine (zput_live HZ3.out (hide exA_small) n na nl nc HNL hnc HSN.out hsm t 1 ttl d da dl dc HDL HSD.out hnd hdc ht16 httl32 (by omega)).mono ?_; rintro e w4 ⟨he, hZ4, hK4⟩; rw [HP1.out] at he hZ4; subst he; have hr4 := hK4.row HR3.out (by decide) (by decide); obtain ⟨y0, y1, y2, y3, y4⟩ := rc_facts hr4)
  have HZ4 := hide hZ4
  have HK4 := hide hK4
  have HR4 := hide hr4
  have HSN4 := hide (hK4.ss _ _ HSN.out)
  have HSD4 := hide (hK4.sl _ _ HSD.out)
  have HB4 := hide (HB3.out.trans (hK4.below (fun i hi => HX2.out i hi) HB3.out.size))
  clear hZ4 hK4 hr4 x0 x1 x2 x3 x4
  go_upto_region 7 with (go_at_call 36; refine (zput_live HZ4.out (hide exA_small) n na nl nc HNL hnc HSN4.out hsm t 1 ttl d da dl dc HDL HSD4.out hnd hdc ht16 httl32 (by omega)).mono ?_; rintro e w5 ⟨he, hZ5, hK5⟩; rw [HP2.out] at he hZ5; subst he; have hr5 := hK5.row HR4.out (by decide) (by decide))
  have HZ5 := hide hZ5
  have HR5 := hide hr5
  have HSN5 := hide (hK5.ss _ _ HSN4.out)
  have HB5 := hide (HB4.out.trans (hK5.below (fun i hi => HX2.out i hi) HB4.out.size))
  clear hZ5 hK5 hr5 y0 y1 y2 y3 y4
  have hfar : Calls Tryz.prog 36 #[.pointer (some ⟨Zb, 0, none⟩), .agg #[.slice (some ⟨w5.heap.size, 0, none⟩) 1 1, .int .u16 0, .int .u16 1, .int .u32 0, .slice none 0 0]] (w5.alloc (.cells #[.string ⟨#[102, 97, 114]⟩] 9)) fun e w' => e = .returned (.tuple #[.bool false, .int .i64 110]) ∧ ZLive X w' Zb Z.exA [⟨path n, t, c, ttl, d⟩] 1000 ∧ ZKp X w5 w' := by
    have hb : Below w5.heap.size w5 (w5.alloc (.cells #[.string ⟨#[102, 97, 114]⟩] 9)) := (Below.refl _ w5).alloc (Nat.le_refl _) _
    refine (zput_live (HZ5.out.bel hb) (hide exA_small) [[102, 97, 114]] (some ⟨w5.heap.size, 0, none⟩) 1 1 (hide rfl) (Nat.le_refl _) (SlS.litm w5 _ _ 9 (0, 0) rfl) (hide far_ok) 0 1 0 [] none 0 0 (hide rfl) (fun h => absurd h (by simp)) (fun _ => rfl) (Nat.le_refl _) (by decide) (by decide) (by omega)).mono ?_
    rintro e w' ⟨he, hZ, hK⟩
    rw [Z.putR_far far_chk] at he hZ
    exact ⟨he, hZ.mono (by omega), (ZKp.of_below hb).trans hK⟩
  go_upto_region 8 with (go_at_call 36; refine hfar.mono ?_; rintro e w6 ⟨rfl, hZ6, hK6⟩; have hr6 := hK6.row HR5.out (by decide) (by decide); obtain ⟨x0, x1, x2, x3, x4⟩ := rc_facts hr6)
  have HZ6 := hide hZ6
  have HSN6 := hide (hK6.ss _ _ HSN5.out)
  have HB6 := hide (HB5.out.trans (hK6.below (fun i hi => HX2.out i hi) HB5.out.size))
  clear hZ6 hK6 hr6 hfar x2 x3 x4
  go_upto_region 9 with (go_at_call 23; refine (zset_live HZ6.out (by omega) n na nl nc HNL HSN6.out hsm t ht16).mono ?_; rintro e w7 ⟨hB7, ⟨hno, _⟩ | ⟨_, na7, nc7, v7, rfl, hT7, hnc7, hO7⟩⟩; (· exact absurd hno (by rw [HS1.out]; simp)); rw [HS1.out] at hO7; obtain ⟨a7, c7, hv7, _, hc7⟩ := hO7.slice; rw [List.length_map, List.length_singleton] at hv7; subst hv7; have q3 := (RowAt.new w7 54 #[.slice na7 nl nc7, .int .u16 (t : Int), .int .u32 ((Z.ttlAt [⟨path n, t, c, ttl, d⟩] (path n) t : Nat) : Int), .slice a7 1 c7]).cell 3)
  have hb8 : Below w6.heap.size w6 (w7.alloc (.cells #[.slice na7 nl nc7, .int .u16 (t : Int), .int .u32 ((Z.ttlAt [⟨path n, t, c, ttl, d⟩] (path n) t : Nat) : Int), .slice a7 1 c7] 54)) := hB7.trans (((Below.refl _ w7).alloc (Nat.le_refl _) _).mono hB7.size)
  have HZ8 := hide (HZ6.out.bel hb8)
  have HB8 := hide (HB6.out.trans (hb8.mono HB6.out.size))
  obtain ⟨w8, hw8⟩ : ∃ w8, w8 = w7.alloc (.cells #[.slice na7 nl nc7, .int .u16 (t : Int), .int .u32 ((Z.ttlAt [⟨path n, t, c, ttl, d⟩] (path n) t : Nat) : Int), .slice a7 1 c7] 54) := ⟨_, rfl⟩
  rw [← hw8] at HZ8 HB8 q3 ⊢
  obtain ⟨g7, hg7⟩ : ∃ g7, g7 = w7.heap.size := ⟨_, rfl⟩
  rw [← hg7] at q3 ⊢
  have e0 : (!decide (ttl = ttl)) = false := by simp
  clear hb8 hw8 hg7 hB7 hO7 hT7 hc7
  go_wp2_with (first
    | (go_at_call 14; refine (zlen_live HZ8.out).mono ?_; rintro e wq ⟨he, hwq⟩; rw [he, hwq]; clear he hwq wq)
    | (go_at_call 12; refine (apex_any w8).mono ?_; rintro e w9 ⟨v9, rfl, hO9, hB9⟩; obtain ⟨a9, c9, hv9, hS9, _, hc9, _⟩ := hO9.open; subst hv9)
    | (go_at_call 29; refine (zhas_live (HZ8.out.bel hB9) Z.exA a9 _ c9 (hide rfl) hS9 (hide exA_small)).mono ?_; rintro e w10 ⟨he, hB10⟩; rw [HHAS.out] at he; subst he; have HB10 := hide (HB8.out.trans ((hB9.trans (hB10.mono hB9.size)).mono HB8.out.size)); have HZ10 := hide ((HZ8.out.bel hB9).bel hB10))
    | (go_at_call 16; refine (zrecords_live HZ10.out (by omega)).mono ?_; rintro e w11 ⟨v11, rfl, hO11, hB11⟩; obtain ⟨a11, c11, hv11, _, _⟩ := hO11.slice; rw [List.length_singleton] at hv11; subst hv11)
    | fail)
  go_ret
  exact ⟨rfl, HB10.out.trans (hB11.mono HB10.out.size)⟩
end Go.Proofs.YtdldaphkiphpnaaGreat
