/- package digest: smallWire, salted. -/
import Derived.Test.YtgmjppmcfmcmkaaDoorDtg
import Derived.Test.YtgmjppmcfmcmkaaDoorCnb
namespace Go.Proofs.YtgmjppmcfmcmkaaDoor
open Go.RowKit
set_option maxRecDepth 5000 in
theorem low_small {n : List (List UInt8)} (h : N.Small n) : N.Small (N.lowN n) := ⟨by rw [N.lowN_len]; exact h.1, fun l hl => by
  simp only [N.lowN, List.mem_map] at hl
  obtain ⟨x, hx, rfl⟩ := hl
  simpa [N.lowL] using h.2 x hx⟩
set_option maxRecDepth 3000 in
theorem small_any (n : List (List UInt8)) (ao : Option Addr) (len cap : Nat) (w : World) (hl : Hid (n.length = len)) (hs : SlS w ao n) (hm : Hid (N.Small n)) :
    Calls Tryd.prog 22 #[.slice ao len cap] w fun e w' => ∃ v, e = .returned v ∧ OwnB w' w.heap.size v (N.wire (N.lowN n)) ∧ Below w.heap.size w w' := by
  have HS := hide hs
  clear hs
  go_enter Tryd.func22, Tryd.ntmps22
  go_wp2_with fail
  refine (lower_any n ao len cap _ hl HS.out hm).mono ?_
  rintro e w1 ⟨v, rfl, hO, hB⟩
  obtain ⟨ao1, c1, rfl, hs1, _, _, _⟩ := hO.open
  have hz := hB.size
  have HL : Hid ((N.lowN n).length = len) := by show _ = _; rw [N.lowN_len]; exact hl.out
  have HS1 := hide hs1
  have e1 : (N.lowN n).length = len := HL.out
  rw [e1]
  clear hO hs1 e1
  go_wp2_with fail
  refine (wire_any (N.lowN n) ao1 len c1 _ HL HS1.out (low_small hm.out)).mono ?_
  rintro e w2 ⟨v2, rfl, hO2, hB2⟩
  have HO2 := hide hO2
  clear hO2
  go_wp2
  go_ret
  refine ⟨_, rfl, ?_, hB.trans (hB2.mono hz)⟩
  have h0 := HO2.out
  refine ⟨h0.1, ?_⟩
  rcases h0.2 with h1 | ⟨g, cap, cur, e, h1, h2, h3⟩
  · exact Or.inl h1
  · exact Or.inr ⟨g, cap, cur, e, Nat.le_trans hz h1, h2, h3⟩
set_option maxRecDepth 5000 in
theorem OwnB.lower {w : World} {base base' : Nat} {v : Value} {l : List UInt8} (h : OwnB w base v l) (hb : base' ≤ base) : OwnB w base' v l := by
  have h0 : w.ownsRow base 5 1 v l.length (vb l) := h
  refine ⟨h0.1, ?_⟩
  rcases h0.2 with h1 | ⟨g, cap, cur, e, h1, h2, h3⟩
  · exact Or.inl h1
  · exact Or.inr ⟨g, cap, cur, e, Nat.le_trans hb h1, h2, h3⟩
def two {α : Type} (x y : α) : Nat → α
  | 0 => x
  | _ + 1 => y
set_option maxRecDepth 5000 in
theorem concat2_any (l s : List UInt8) (ao so : Option Addr) (n m cap sc g : Nat) (w : World) (hl : Hid (l.length = n)) (hm : Hid (s.length = m)) (hR : H.RowAt w g 24 #[.slice ao n cap, .slice so m sc]) (hs : SlL w ao l) (hss : SlL w so s) (hn : ao = none → cap = 0) (hsn : so = none → sc = 0) (h1 : n ≤ 1000000) (h2 : m ≤ 1000000) :
    Calls Tryd.prog 21 #[.slice (some ⟨g, 0, none⟩) 2 2] w fun e w' => ∃ v, e = .returned v ∧ OwnB w' w.heap.size v (l ++ s) ∧ Below w.heap.size w w' := by
  have e1 := hl.out
  have e2 := hm.out
  subst e1 e2
  have h12 : ∀ j, j < 2 → j = 0 ∨ j = 1 := fun j hj => by omega
  refine (concatB_any 2 g (two ao so) (two l s) (two cap sc) w (by omega) hR.lt ?_ ?_ ?_ ?_).mono ?_
  · intro j hj
    rcases h12 j hj with rfl | rfl
    · exact hR.cell 0
    · exact hR.cell 1
  · intro j hj
    rcases h12 j hj with rfl | rfl
    · exact hs
    · exact hss
  · intro j hj
    rcases h12 j hj with rfl | rfl
    · exact hn
    · exact hsn
  · intro j hj
    rcases h12 j hj with rfl | rfl
    · exact h1
    · exact h2
  · rintro e w' ⟨v, rfl, hO, hB⟩
    exact ⟨v, rfl, by simpa [catB, two] using hO, hB⟩
set_option maxRecDepth 5000 in
theorem info33 : (Tryd.prog.info? 33).map (·.size) = some 20 := by kernel_rfl
set_option maxRecDepth 5000 in
theorem slAt_row {w : World} {g : Nat} {t : TypeId} {n m : Nat} {f : Nat → BitVec 8} (h : H.RowAt w g t (H.rowB n f)) (hm : m ≤ n) : H.SlAt w (some ⟨g, 0, none⟩) m f := fun _ =>
  ⟨g, 0, rfl, h.lt, fun j hj => by rw [Nat.zero_add, h.cell, H.rowB_get _ _ _ (by omega)]⟩
def zero20 : List Value := [.int .u8 0, .int .u8 0, .int .u8 0, .int .u8 0, .int .u8 0, .int .u8 0, .int .u8 0, .int .u8 0, .int .u8 0, .int .u8 0, .int .u8 0, .int .u8 0, .int .u8 0, .int .u8 0, .int .u8 0, .int .u8 0, .int .u8 0, .int .u8 0, .int .u8 0, .int .u8 0]
set_option maxRecDepth 5000 in
theorem spl20 (f : Nat → BitVec 8) : (splice zero20 0 (H.bsL 20 f)).toArray = H.rowB 20 f := by
  unfold splice H.rowB H.bsL zero20; simp
set_option maxRecDepth 3000 in
set_option maxHeartbeats 1000000 in
theorem salted_any (l s : List UInt8) (ao so : Option Addr) (n m cap sc : Nat) (w : World) (hl : Hid (l.length = n)) (hm : Hid (s.length = m)) (hs : SlL w ao l) (hss : SlL w so s) (hn : ao = none → cap = 0) (hsn : so = none → sc = 0) (h1 : n ≤ 1000000) (h2 : m ≤ 1000000) (hT : H.Tab w) :
    Calls Tryd.prog 28 #[.slice ao n cap, .slice so m sc] w fun e w' => e = .returned (.agg (H.rowB 20 (G.sum (l ++ s)))) ∧ Below w.heap.size w w' := by
  have HS := hide hs
  have HSS := hide hss
  have HN := hide hn
  have HSN := hide hsn
  have hT0 := hT.1
  clear hs hss hn hsn
  go_enter Tryd.func28, Tryd.ntmps28
  go_wp2_with fail
  refine (concat2_any l s ao so n m cap sc (w.heap.size + 1) _ hl hm (by exact H.row_snd _ _ _ _) (by exact (HS.out.alloc _).alloc _) (by exact (HSS.out.alloc _).alloc _) HN.out HSN.out h1 h2).mono ?_
  rintro e w1 ⟨v1, rfl, hO1, hB1⟩
  have hb1 : Below w.heap.size w w1 := (((Below.refl w.heap.size w).alloc (Nat.le_refl _) _).alloc (by simp) _).trans (hB1.mono (by simp; omega))
  have hr1 : ∃ c, H.RowAt w1 w.heap.size 33 c ∧ c.size = 20 := ⟨_, ((H.RowAt.new w 33 _).alloc _).below hB1 (by simp; omega), rfl⟩
  have hz1 : w.heap.size + 2 ≤ w1.heap.size := by have := hB1.size; simp at this; omega
  obtain ⟨co, cc, rfl, hs1, hn1, hle1, _⟩ := hO1.open
  have hLL : (l ++ s).length ≤ n + m := by rw [List.length_append, hl.out, hm.out]; exact Nat.le_refl _
  generalize hL : (l ++ s).length = L at hle1 hLL ⊢
  have HL := hide hL
  have HS1 := hide hs1
  have hT1 := hT.below hb1 hT0
  clear hO1 hB1 hL hs1
  go_wp2_with fail
  refine (dsum_any (l ++ s) co L cc _ HL HS1.out hle1 (by omega) hT1).mono ?_
  rintro e w2 ⟨rfl, hB2⟩
  have hb2 : Below w.heap.size w w2 := hb1.trans (hB2.mono (by omega))
  obtain ⟨c0, hr1, hc0⟩ := hr1
  have hr2 := hr1.below hB2 (by omega)
  have hz2 := hB2.size
  clear hB2 hr1 hb1 HS1
  go_wp2_with (refine H.wpList_store_abs rfl 42 (.tmp 5) (.tmp 11) rfl w2.heap.size _ rfl rfl 42 _ (H.RowAt.new w2 42 _) (by rw [H.rowB_size]; exact H.info24) (by rw [H.rowB_size]; rfl) (H.rowB_one _ _) w2.heap.size (Nat.le_refl _) ?_; intro w3 hR3 hO3 hz3 hB3)
  have hz3' : w3.heap.size = w2.heap.size + 1 := by rw [hz3]; simp
  have hb3 : Below w.heap.size w w3 := (hb2.alloc (by omega) _).trans (hB3.mono (by omega))
  have hr3 := hO3 _ _ _ (by omega) (hr2.alloc _)
  have hR4 := H.RowAt.new w3 33 zero20.toArray
  rw [hz3'] at hR4
  have hS4 := slAt_row (hR3.alloc (.cells zero20.toArray 33)) (m := 20) (by omega)
  have hr4 := hr3.alloc (.cells zero20.toArray 33)
  have hb4 : Below w.heap.size w (w3.alloc (.cells zero20.toArray 33)) := hb3.alloc (by omega) _
  clear hO3 hz3 hB3 hb2 hr2 hb3 hr3
  go_region_law (refine step_copy_splice rfl (.tmp 12) (.tmp 13) 24 24 rfl 5 Tryd.underlying24 H.size5 _ _ 20 20 32 32 rfl rfl (w2.heap.size + 1) 0 zero20 33 (by exact hR4) (H.bsL 20 (G.sum (l ++ s))) (by rw [H.bsL_len]; rfl) (by exact H.src_of _ _ _ _ hS4 _) (by rw [H.bsL_len]; simp [zero20]) (H.bsL_one _ _) (w2.heap.size + 1) _ (Below.refl _ _) (Nat.le_refl _) ?_; intro w5 HR5 hB5)
  have hR6 : H.RowAt w5 (w2.heap.size + 1) 33 (H.rowB 20 (G.sum (l ++ s))) := by
    have h9 := HR5.out
    rw [spl20] at h9; exact h9
  have hb6 : Below w.heap.size w w5 := hb4.drew.trans (hB5.mono (by omega))
  have hr6 : H.RowAt w5 w.heap.size 33 c0 := hr4.drew.below hB5 (by omega)
  clear HR5 hB5 hb4 hr4 hR4 hS4 hR3
  go_wp2_with (first
    | (refine H.wpList_load_rowAt rfl 33 (.tmp 6) rfl (w2.heap.size + 1) rfl 33 _ _ hR6 Tryd.underlying33 rfl (by rw [H.rowB_size]; exact info33) ?_)
    | (refine H.wpList_store_rowAt rfl 33 (.tmp 4) (.tmp 15) rfl w.heap.size _ rfl rfl 33 c0 hr6 (by rw [H.rowB_size]; exact info33) (by rw [H.rowB_size]; exact hc0) (H.rowB_one _ _) ?_))
  exact bodyPost_ret (v := .agg (H.rowB 20 (G.sum (l ++ s)))) (H.results_rowAt Tryd.results28 _ _ w.heap.size 33 _ _ rfl (H.setRow_same hr6 _) Tryd.underlying33 rfl (by rw [H.rowB_size]; exact info33)) rfl ⟨rfl, H.below_setRow hb6 (Nat.le_refl _) _⟩
end Go.Proofs.YtgmjppmcfmcmkaaDoor
