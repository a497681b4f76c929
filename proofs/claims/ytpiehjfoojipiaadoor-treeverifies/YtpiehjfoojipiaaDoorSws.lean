/- The law TreeSwaps. -/
import Derived.Test.YtpiehjfoojipiaaDoorKno
namespace Go.Proofs.YtpiehjfoojipiaaDoor
open Go.RowKit
set_option maxRecDepth 5000 in
theorem own_row {w : World} {base : Nat} {v : Value} {l : List (BitVec 8)} (h : OwnB w base v l) (hl : 0 < l.length) : ∃ g cap cur, v = .slice (some ⟨g, 0, none⟩) l.length cap ∧ base ≤ g ∧ l.length ≤ cap ∧ RowAt w g 5 cur ∧ ∀ j, j < l.length → cur[j]? = some (.int .u8 (l.getD j 0).toNat) := by
  have h0 : w.ownsRow base 5 1 v l.length (vb l) := h
  rcases h0.2 with ⟨_, h'⟩ | ⟨g, cap, cur, rfl, hb, hg, hc, hm, _, _⟩
  · omega
  · refine ⟨g, cap, cur, rfl, hb, hc, hg, fun j hj => ?_⟩
    have h1 := World.ownsRow.cells h0 (g := g) rfl j _ (vb_get l j hj)
    rw [Addr.add_mid, Nat.zero_add] at h1
    rw [← h1]; exact (cell_of_row w g j cur 5 (0, 0) hg).symm
set_option maxRecDepth 5000 in
theorem sl_set {w : World} {g : Nat} {cur : Array Value} {l : List (BitVec 8)} (hr : RowAt w g 5 cur) (hc : ∀ j, j < l.length → cur[j]? = some (.int .u8 (l.getD j 0).toNat)) (i : Nat) (b : BitVec 8) (x : Int) (hx : x = (b.toNat : Int)) (hi : i < l.length) :
    SlL (w.setCell ⟨g, i, none⟩ (.int .u8 x)) (some ⟨g, 0, none⟩) (l.set i b) := fun _ => by
  subst hx
  have hr2 := hr.set i (.int .u8 (b.toNat : Int))
  refine ⟨g, 0, rfl, hr2.lt, fun j hj => ?_⟩
  rw [List.length_set] at hj
  rw [Nat.zero_add, hr2.cell, Array.getElem?_setIfInBounds]
  have hsz : i < cur.size := by have := hc i hi; exact (Array.getElem?_eq_some_iff.1 this).1
  by_cases e : i = j
  · subst e
    rw [if_pos rfl, if_pos hsz]
    simp [List.getD_eq_getElem?_getD, hi]
  · rw [if_neg e, hc j hj]
    simp [List.getD_eq_getElem?_getD, e]
structure SW (w : World) (gR gS : Nat) (R S : Nat → BitVec 8) (g gc : Nat) (L L' : List (BitVec 8)) (wr : World) : Prop where
  below : Below w.heap.size w wr
  r : RowAt wr gR 22 (rowB 8 R)
  s : RowAt wr gS 22 (rowB 8 S)
  sg : SlL wr (some ⟨g, 0, none⟩) L
  sc : SlL wr (some ⟨gc, 0, none⟩) L'
set_option maxRecDepth 5000 in
theorem SW.called {w : World} {gR gS : Nat} {R S : Nat → BitVec 8} {g gc : Nat} {L L' : List (BitVec 8)} {wr w' : World} (h : SW w gR gS R S g gc L L' wr) (hb : Below wr.heap.size wr w') : SW w gR gS R S g gc L L' w' :=
  ⟨below_call h.below hb, h.r.below hb h.r.lt, h.s.below hb h.s.lt, h.sg.below hb (Nat.le_refl _), h.sc.below hb (Nat.le_refl _)⟩
set_option maxRecDepth 5000 in
theorem SW.drew {w : World} {gR gS : Nat} {R S : Nat → BitVec 8} {g gc : Nat} {L L' : List (BitVec 8)} {wr : World} (h : SW w gR gS R S g gc L L' wr) : SW w gR gS R S g gc L L' wr.drew := h.called (Below.refl _ _).drew
set_option maxRecDepth 3000 in
set_option maxHeartbeats 2000000 in
theorem swaps_walk (f fb : Nat → BitVec 8) (lf ot : Nat) (m : List (BitVec 8)) (ao : Option Addr) (n cap : Nat) (w : World) (_hlf : lf < 4294967296) (_hot : ot < 4294967296) (hl : Hid (m.length = n)) (hs : SlL w ao m) (hnil : ao = none → cap = 0) (hc : n ≤ cap) (hT : Tab w) :
    Calls Tryd.prog 8 #[.agg (rowB 8 f), .agg (rowB 8 fb), .int .u32 (lf : Int), .int .u32 (ot : Int), .slice ao n cap] w fun e w' => e = .returned (.bool true) ∧ Below w.heap.size w w' := by
  have hT0 := hT.1
  have HT := hide hT
  have HS := hide hs
  have HNIL := hide hnil
  have hb0 : Below w.heap.size w ((w.alloc (.cells (rowB 8 f) 22)).alloc (.cells (rowB 8 fb) 22)) := ((Below.refl _ _).alloc (Nat.le_refl _) _).alloc (by simp) _
  have HB0 := hide hb0
  have HR0 := hide ((RowAt.new w 22 (rowB 8 f)).alloc (.cells (rowB 8 fb) 22))
  have HQ0 : Hid (RowAt ((w.alloc (.cells (rowB 8 f) 22)).alloc (.cells (rowB 8 fb) 22)) (w.heap.size + 1) 22 (rowB 8 fb)) := by
    have := RowAt.new (w.alloc (.cells (rowB 8 f) 22)) 22 (rowB 8 fb)
    show RowAt _ _ _ _
    simpa using this
  have HTa := hide ((hT.alloc (.cells (rowB 8 f) 22)).alloc (.cells (rowB 8 fb) 22))
  clear hs hT hb0 hnil
  by_cases hbig : 100 < n
  · have q : decide ((100 : Int) < (n : Int)) = true := by simp; omega
    go_enter Tryd.func8, Tryd.ntmps8
    go_wp2_with ((go_at_call 9; refine (known_any _ (by exact HTa.out)).mono ?_; rintro e w1 ⟨rfl, hB1⟩; have HB1 := hide (HB0.out.trans (hB1.mono (by simp; omega))); have HR1 := hide (HR0.out.below hB1 (by simp; omega)); have HQ1 := hide (HQ0.out.below hB1 (by simp)); clear hB1))
    go_ret
    exact ⟨rfl, HB1.out⟩
  have q : decide ((100 : Int) < (n : Int)) = false := by simp; omega
  obtain ⟨LF, HLF⟩ : ∃ LF, Hid (lf % 8 = LF) := ⟨_, hide rfl⟩
  have hLF : LF < 8 := by have := HLF.out; omega
  have hmod : Int.tmod (lf : Int) 8 = (LF : Int) := by have := HLF.out; rw [Int.tmod_eq_emod_of_nonneg (by omega)]; omega
  obtain ⟨X, HX⟩ : ∃ X, Hid (ot % 9 = X) := ⟨_, hide rfl⟩
  have hX : X < 9 := by have := HX.out; omega
  have hmod9 : Int.tmod (ot : Int) 9 = (X : Int) := by have := HX.out; rw [Int.tmod_eq_emod_of_nonneg (by omega)]; omega
  have hwX : IntKind.u8.wrap (X : Int) = (X : Int) := by rw [IntKind.wrap_u8]; omega
  obtain ⟨R, HR⟩ : ∃ R, Hid (T.nd f 3 0 = R) := ⟨_, hide rfl⟩
  obtain ⟨S, HSr⟩ : ∃ S, Hid (T.nd fb 3 0 = S) := ⟨_, hide rfl⟩
  obtain ⟨L, HL⟩ : ∃ L, Hid (T.sig f 3 LF m = L) := ⟨_, hide rfl⟩
  obtain ⟨L', HL'⟩ : ∃ L', Hid (L.set 3 (BitVec.ofNat 8 X) = L') := ⟨_, hide rfl⟩
  have HLl : Hid (L.length = 540) := by show _ = _; rw [← HL.out, T.sig_len]
  have HLl' : Hid (L'.length = 540) := by show _ = _; rw [← HL'.out, List.length_set, HLl.out]
  have HV3 : Hid (T.ver (O.lst R) 3 m L = true) := by show _ = _; rw [← HR.out, ← HL.out]; exact T.ver_sig f 3 LF m (by omega) (by omega)
  obtain ⟨b1, HV1⟩ : ∃ b1, Hid (T.ver (O.lst S) 3 m L = b1) := ⟨_, hide rfl⟩
  obtain ⟨b2, HV2⟩ : ∃ b2, Hid (T.ver (O.lst R) 3 m L' = b2) := ⟨_, hide rfl⟩
  go_enter Tryd.func8, Tryd.ntmps8
  go_wp2_with (first | (go_at_call 9; refine (known_any _ (by exact HTa.out)).mono ?_; rintro e w1 ⟨rfl, hB1⟩; have HB1 := hide (HB0.out.trans (hB1.mono (by simp; omega))); have HR1 := hide (HR0.out.below hB1 (by simp; omega)); have HQ1 := hide (HQ0.out.below hB1 (by simp)); clear hB1) | (refine wpList_load_rowAt rfl 22 (.tmp 5) rfl w.heap.size rfl 22 _ _ (by exact HR1.out) Tryd.underlying22 rfl (by rw [rowB_size]; exact info28) ?_))
  refine (new_any f 3 _ (by omega) (by exact HT.out.below HB1.out hT0)).mono ?_
  rintro e w2 ⟨t, rfl, hT2, _, hB2⟩
  have HT2 := hide hT2
  have HQ2 := hide (HQ1.out.below hB2 HQ1.out.lt)
  have HB2 := hide (below_call HB1.out hB2)
  clear hT2 hB2
  go_wp2_with ((refine wpList_load_rowAt rfl 22 (.tmp 6) rfl (w.heap.size + 1) rfl 22 _ _ (by exact HQ2.out) Tryd.underlying22 rfl (by rw [rowB_size]; exact info28) ?_))
  refine (new_any fb 3 _ (by omega) (by exact HT.out.below HB2.out hT0)).mono ?_
  rintro e w3 ⟨u, rfl, hU3, _, hB3⟩
  have HU3 := hide hU3
  have HT3 := hide (HT2.out.below hB3)
  have HB3 := hide (below_call HB2.out hB3)
  clear hU3 hB3
  go_wp2_with fail
  refine (sign_ok f 3 t LF m ao n cap _ (by omega) (by exact HT3.out) (by omega) hl (by exact HS.out.below HB3.out (Nat.le_refl _)) hc (by omega) (by exact HT.out.below HB3.out hT0)).mono ?_
  rintro e w4 ⟨v4, rfl, hO4, hB4⟩
  rw [HL.out] at hO4
  obtain ⟨g, c, rfl, _, hgc, hS4⟩ := sig_form hO4 HLl.out (by omega)
  have HG4 := hide hS4
  have HT4 := hide (HT3.out.below hB4)
  have HU4 := hide (HU3.out.below hB4)
  have HB4 := hide (below_call HB3.out hB4)
  clear hO4 hB4 hS4
  go_wp2_with fail
  refine (root_any f 3 t _ (by omega) (by exact HT4.out)).mono ?_
  rintro e w5 ⟨rfl, hB5⟩
  rw [HR.out]
  have HG5 := hide (HG4.out.below hB5 (Nat.le_refl _))
  have HU5 := hide (HU4.out.below hB5)
  have HB5 := hide (below_call HB4.out hB5)
  clear hB5
  go_wp2_with fail
  refine (root_any fb 3 u _ (by omega) (by exact HU5.out)).mono ?_
  rintro e w6 ⟨rfl, hB6⟩
  rw [HSr.out]
  have HG6 := hide (HG5.out.below hB6 (Nat.le_refl _))
  have HB6 := hide (below_call HB5.out hB6)
  clear hB6
  have hz7 : ((w6.alloc (.cells z8 22)).alloc (.cells z8 22)).heap.size = w6.heap.size + 2 := by simp
  have HA7 := hide ((RowAt.new w6 22 z8).alloc (.cells z8 22))
  have HE7 : Hid (RowAt ((w6.alloc (.cells z8 22)).alloc (.cells z8 22)) (w6.heap.size + 1) 22 z8) := by
    have := RowAt.new (w6.alloc (.cells z8 22)) 22 z8
    show RowAt _ _ _ _
    simpa using this
  have HD7 : Hid (Below w6.heap.size w6 ((w6.alloc (.cells z8 22)).alloc (.cells z8 22))) := ((Below.refl _ _).alloc (Nat.le_refl _) _).alloc (by simp) _
  go_wp2_with (first
    | (refine wpList_store_abs rfl 22 (.tmp 17) (.tmp 53) rfl w6.heap.size (rowB 8 R) rfl rfl 22 z8 (by exact HA7.out) (by rw [rowB_size]; exact info28) (by rw [rowB_size]; rfl) (rowB_one _ _) w6.heap.size (Nat.le_refl _) ?_; intro w7 hR7 hO7 hz7' hB7; have HE8 := hide (hO7 _ _ _ (by omega) HE7.out); have HR8 := hide hR7; have HD8 := hide (HD7.out.trans hB7); clear hO7 hz7' hB7 hR7)
    | (refine wpList_store_abs rfl 22 (.tmp 18) (.tmp 55) rfl (w6.heap.size + 1) (rowB 8 S) rfl rfl 22 z8 (by exact HE8.out) (by rw [rowB_size]; exact info28) (by rw [rowB_size]; rfl) (rowB_one _ _) w6.heap.size (by omega) ?_; intro w8 hR8 hO8 hz8 hB8; have HR9 := hide (hO8 _ _ _ (by omega) HR8.out); have HS9 := hide hR8; have hd9 := HD8.out.trans hB8; have HG9 := hide (HG6.out.below hd9 (Nat.le_refl _)); have HB9 := hide (below_call HB6.out hd9); have hlt9 := HS9.out.lt; clear hO8 hz8 hB8 hR8 hd9)
    | (at_builtin; refine wpList_append_B rfl (.const (.slice none 0 0)) (.tmp 56) rfl w8.heap.size _ [] rfl (by exact OwnB.nil _ _) _ 540 c L rfl HLl.out (by exact HG9.out) (by simp) (by simp) (Nat.le_refl _) ?_; intro v10 w10 hO10 hG10; have hb10 := grown_below (OwnB.nil w8 w8.heap.size) hG10 (Below.refl _ _) (Nat.le_refl _); rw [List.nil_append] at hO10; obtain ⟨gc, cc, cur, rfl, hgc1, hgc2, hrow, hcel⟩ := own_row hO10 (by rw [HLl.out]; omega); rw [HLl.out] at hgc2; have hc3 := hrow.cell 3; rw [hcel 3 (by rw [HLl.out]; omega)] at hc3; have hf3 := hrow.frozen 3; clear hG10; rw [HLl.out]))
  have HSC := hide (sl_set hrow hcel 3 (BitVec.ofNat 8 X) (X : Int) (by rw [BitVec.toNat_ofNat]; omega) (by rw [HLl.out]; omega))
  have hbs : Below w8.heap.size w8 (w10.setCell ⟨gc, 3, none⟩ (.int .u8 (X : Int))) := hb10.setCell hgc1 _
  rw [HL'.out] at HSC
  have HK0 : Hid (SW w w6.heap.size (w6.heap.size + 1) R S g gc L L' (w10.setCell ⟨gc, 3, none⟩ (.int .u8 (X : Int)))) := ⟨below_call HB9.out hbs, HR9.out.below hbs HR9.out.lt, HS9.out.below hbs HS9.out.lt, HG9.out.below hbs (Nat.le_refl _), HSC.out⟩
  clear hc3 hf3 hrow hcel hO10 hb10 hbs HSC
  generalize World.setCell _ _ _ = w11 at HK0 ⊢
  go_region_held3 (fun _ => True) (trivial) (first
    | ((have hk := HK4.out; clear hk; go_at_call 17; refine (verify_any (O.lst R) m L 3 (some ⟨w6.heap.size, 0, none⟩) ao g 8 8 n cap 540 c _ (O.lst_len _) HLl hl hgc (by exact HK4.out.r.sl8) (by exact HS.out.below HK4.out.below (Nat.le_refl _)) (by exact HK4.out.sg) hc (by omega) (by exact HT.out.below HK4.out.below hT0)).mono ?_; rintro e w16 ⟨rfl, hB16⟩; rw [HV3.out]; have HK5 := hide (HK4.out.called hB16); clear hB16))
    | ((have hk := HK3.out; clear hk; go_at_call 18; refine (rverify_any (O.lst R) m L' 3 (some ⟨w6.heap.size, 0, none⟩) ao gc 8 8 n cap 540 cc _ (O.lst_len _) HLl' hl hgc2 (by exact HK3.out.r.sl8) (by exact HS.out.below HK3.out.below (Nat.le_refl _)) (by exact HK3.out.sc) HNIL.out (by omega)).mono ?_; rintro e w15 ⟨rfl, hB15⟩; rw [HV2.out]; have HK4 := hide (HK3.out.called hB15); clear hB15))
    | ((have hk := HK2.out; clear hk; go_at_call 17; refine (verify_any (O.lst R) m L' 3 (some ⟨w6.heap.size, 0, none⟩) ao gc 8 8 n cap 540 cc _ (O.lst_len _) HLl' hl hgc2 (by exact HK2.out.r.sl8) (by exact HS.out.below HK2.out.below (Nat.le_refl _)) (by exact HK2.out.sc) hc (by omega) (by exact HT.out.below HK2.out.below hT0)).mono ?_; rintro e w14 ⟨rfl, hB14⟩; rw [HV2.out]; have HK3 := hide (HK2.out.called hB14); clear hB14))
    | ((have hk := HK1.out; clear hk; go_at_call 18; refine (rverify_any (O.lst S) m L 3 (some ⟨w6.heap.size + 1, 0, none⟩) ao g 8 8 n cap 540 c _ (O.lst_len _) HLl hl hgc (by exact HK1.out.s.sl8) (by exact HS.out.below HK1.out.below (Nat.le_refl _)) (by exact HK1.out.sg) HNIL.out (by omega)).mono ?_; rintro e w13 ⟨rfl, hB13⟩; rw [HV1.out]; have HK2 := hide (HK1.out.called hB13); clear hB13))
    | ((have hk := HK0.out; clear hk; go_at_call 17; refine (verify_any (O.lst S) m L 3 (some ⟨w6.heap.size + 1, 0, none⟩) ao g 8 8 n cap 540 c _ (O.lst_len _) HLl hl hgc (by exact HK0.out.drew.s.sl8) (by exact HS.out.below HK0.out.drew.below (Nat.le_refl _)) (by exact HK0.out.drew.sg) hc (by omega) (by exact HT.out.below HK0.out.drew.below hT0)).mono ?_; rintro e w12 ⟨rfl, hB12⟩; rw [HV1.out]; have HK1 := hide (HK0.out.drew.called hB12); clear hB12)))
  all_goals go_wp2
  all_goals go_ret
  all_goals exact ⟨rfl, HK5.out.below⟩
end Go.Proofs.YtpiehjfoojipiaaDoor
