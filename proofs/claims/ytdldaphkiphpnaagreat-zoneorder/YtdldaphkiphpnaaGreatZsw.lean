/- The seat's names, types, data: signetseat's functions. -/
import Derived.Test.YtdldaphkiphpnaaGreatZsp0
import Derived.Test.YtdldaphkiphpnaaGreatApn
import Derived.Deep.Cut
import Derived.Deep.RegionWith
namespace Go.Proofs.YtdldaphkiphpnaaGreat
open Go.RowKit
set_option maxRecDepth 5000 in
theorem apex_any (w : World) : Calls Tryz.prog 12 #[] w fun e w' => ∃ v, e = .returned v ∧ OwnS w' w.heap.size v Z.exA ∧ Below w.heap.size w w' := by
  go_enter Tryz.func12, Tryz.ntmps12
  go_wp2
  go_ret
  exact ⟨_, rfl, OwnS.lit w Z.exA _ _ (Nat.le_refl _) rfl (by decide) 1 rfl, (Below.refl _ w).alloc (Nat.le_refl _) _⟩
/- lists of texts, laid one behind another -/
def lay (w : World) : List (List (List UInt8)) → World
  | [] => w
  | l :: r => lay (w.alloc (.cells (vs l).toArray 9)) r
set_option maxRecDepth 5000 in
theorem lay_size : ∀ (r : List (List (List UInt8))) (w : World), (lay w r).heap.size = w.heap.size + r.length
  | [], w => rfl
  | l :: r, w => by
    show (lay (w.alloc _) r).heap.size = _
    rw [lay_size r, World.size_alloc, List.length_cons]; omega
set_option maxRecDepth 5000 in
theorem lay_below : ∀ (r : List (List (List UInt8))) (w : World), Below w.heap.size w (lay w r)
  | [], w => Below.refl _ w
  | l :: r, w => by
    have h := lay_below r (w.alloc (.cells (vs l).toArray 9))
    exact ((Below.refl _ w).alloc (Nat.le_refl _) _).trans (h.mono (by rw [World.size_alloc]; omega))
set_option maxRecDepth 5000 in
theorem lay_at : ∀ (r : List (List (List UInt8))) (w : World) (j : Nat), j < r.length → SlS (lay w r) (some ⟨w.heap.size + j, 0, none⟩) (r.getD j [])
  | [], w, j, h => absurd h (Nat.not_lt_zero j)
  | l :: r, w, 0, h => by
    have h1 := SlS.litm w l _ 9 (0, 0) rfl
    exact h1.below (lay_below r _) (Nat.le_refl _)
  | l :: r, w, j + 1, h => by
    have h1 := lay_at r (w.alloc (.cells (vs l).toArray 9)) j (by simpa using h)
    rw [World.size_alloc] at h1
    have e : w.heap.size + 1 + j = w.heap.size + (j + 1) := by omega
    rw [e] at h1
    exact h1
def ownCells (b : Nat) : Array Value := #[.slice (some ⟨b, 0, none⟩) 0 0, .slice (some ⟨b + 1, 0, none⟩) 1 1, .slice (some ⟨b + 2, 0, none⟩) 1 1, .slice (some ⟨b + 3, 0, none⟩) 2 2, .slice (some ⟨b + 4, 0, none⟩) 2 2, .slice (some ⟨b + 5, 0, none⟩) 2 2, .slice (some ⟨b + 6, 0, none⟩) 3 3, .slice (some ⟨b + 7, 0, none⟩) 1 1, .slice (some ⟨b + 8, 0, none⟩) 2 2, .slice (some ⟨b + 9, 0, none⟩) 1 1, .slice (some ⟨b + 10, 0, none⟩) 3 3, .slice (some ⟨b + 11, 0, none⟩) 1 1, .slice (some ⟨b + 12, 0, none⟩) 1 1]
set_option maxRecDepth 5000 in
theorem ownCells_get (b : Nat) : ∀ j, j < 13 → (ownCells b)[j]? = some (.slice (some ⟨b + j, 0, none⟩) (Z.owns.getD j []).length (Z.owns.getD j []).length)
  | 0, _ => rfl | 1, _ => rfl | 2, _ => rfl | 3, _ => rfl | 4, _ => rfl | 5, _ => rfl | 6, _ => rfl | 7, _ => rfl | 8, _ => rfl | 9, _ => rfl | 10, _ => rfl | 11, _ => rfl | 12, _ => rfl
  | j + 13, h => absurd h (by omega)
set_option maxHeartbeats 1000000 in
set_option maxRecDepth 5000 in
theorem owner_any (k : Nat) (hk : k < 256) (w : World) : Calls Tryz.prog 21 #[.int .u8 (k : Int)] w fun e w' => ∃ v, e = .returned v ∧ OwnS w' w.heap.size v (Z.owner k) ∧ Below w.heap.size w w' := by
  obtain ⟨j, hj⟩ : ∃ j, j = k % 13 := ⟨_, rfl⟩
  have hj13 : j < 13 := by rw [hj]; exact Nat.mod_lt _ (by decide)
  have hmod : ((k : Int) % 13) = (j : Int) := by omega
  have howner : Z.owner k = Z.owns.getD j [] ++ Z.exA := by unfold Z.owner; rw [hj]
  obtain ⟨n, hn⟩ : ∃ n, n = Z.owns.getD j [] := ⟨_, rfl⟩
  have hnl : n.length ≤ 3 := by
    rw [hn]
    have h : ∀ j, j < 13 → (Z.owns.getD j []).length ≤ 3 := by decide
    exact h j hj13
  obtain ⟨nl, hnl2⟩ : ∃ nl, nl = n.length := ⟨_, rfl⟩
  obtain ⟨W, hW⟩ : ∃ W, W = (lay w Z.owns).alloc (.cells (ownCells w.heap.size) 28) := ⟨_, rfl⟩
  have hL : (lay w Z.owns).heap.size = w.heap.size + 13 := lay_size _ _
  have hWs : W.heap.size = w.heap.size + 14 := by rw [hW, World.size_alloc, hL]
  have hWb : Below w.heap.size w W := by rw [hW]; exact (lay_below _ _).alloc (by rw [hL]; omega) _
  have hcell : W.cell? ⟨w.heap.size + 13, j, none⟩ = some (.slice (some ⟨w.heap.size + j, 0, none⟩) nl nl) := by
    have h1 : RowAt W (w.heap.size + 13) 28 (ownCells w.heap.size) := by rw [hW, ← hL]; exact RowAt.new _ _ _
    rw [h1.cell, ownCells_get _ j hj13, ← hn, ← hnl2]
  have hsl : SlS W (some ⟨w.heap.size + j, 0, none⟩) n := by
    rw [hW, hn]; exact (lay_at _ w j (by show j < 13; exact hj13)).alloc _
  have hnb : nl ≤ 3 := by omega
  have HW := hide hW
  have HN := hide hn
  have HNL := hide hnl2
  have HWB := hide hWb
  have HWS := hide hWs
  have HSL := hide hsl
  have HO := hide howner
  clear hW hn hnl2 hWb hWs hsl howner hj hL
  go_enter Tryz.func21, Tryz.ntmps21
  go_upto_region 1 with fail
  go_cut [3] from 4 (fun v wc => v = .slice (some ⟨w.heap.size + 13, 0, none⟩) 13 13 ∧ wc = W)
  case first =>
    go_wp2
    go_meet
    refine ⟨rfl, ?_⟩
    rw [HW.out]; rfl
  case rest =>
    obtain ⟨rfl, rfl⟩ := hcut
    have hjb : (j : Int) < 13 := by omega
    have hz : wc.heap.size = w.heap.size + 14 := HWS.out
    go_wp2_with (first
      | (at_builtin; refine wpList_append_S rfl (.const (.slice none 0 0)) (.tmp 27) rfl wc.heap.size (.slice none 0 0) [] rfl (OwnS.nil _ _) ⟨w.heap.size + j, 0, none⟩ nl nl n rfl HNL.out.symm HSL.out (by simp; omega) (Nat.le_refl _) ?_; intro v5 w5 hO5 hG5; have HB5 := hide (grown_belowS (OwnS.nil wc wc.heap.size) hG5 (Below.refl _ _) (Nat.le_refl _)))
      | (go_at_call 12; refine (apex_any w5).mono ?_; rintro e w6 ⟨v6, rfl, hO6, hB6⟩; obtain ⟨a6, c6, rfl, hS6, hn6, hc6, _⟩ := hO6.open)
      | (at_builtin; go_loud (refine wpList_append_SN rfl (.tmp 28) (.tmp 29) rfl wc.heap.size v5 n rfl (by simpa using hO5.below hB6) a6 _ c6 Z.exA rfl rfl hS6 hn6 (by simp [Z.exA]; omega) (by have := HB5.out.size; have := hB6.size; omega) ?_); intro v7 w7 hO7 hG7)
      | fail)
    go_ret
    have b7 := grown_belowS (hO5.below hB6) hG7 (HB5.out.trans (hB6.mono HB5.out.size)) (by have := HB5.out.size; have := hB6.size; omega)
    refine ⟨_, rfl, ?_, HWB.out.trans (b7.mono HWB.out.size)⟩
    rw [HO.out, ← HN.out]
    exact hO7.lower (by omega)
set_option maxRecDepth 5000 in
theorem under_any (k : Nat) (hk : k < 256) (w : World) : Calls Tryz.prog 92 #[.int .u8 (k : Int)] w fun e w' => ∃ v, e = .returned v ∧ OwnS w' w.heap.size v (Z.underK k) ∧ Below w.heap.size w w' := by
  by_cases h6 : k % 7 = 6
  · have hm : ((k : Int) % 7 == 6) = true := by simp; omega
    have e : Z.underK k = Z.farN := by unfold Z.underK; rw [if_pos h6]
    rw [e]
    go_enter Tryz.func92, Tryz.ntmps92
    go_wp2
    go_ret
    exact ⟨_, rfl, OwnS.lit w Z.farN _ _ (Nat.le_refl _) rfl (by decide) 2 rfl, (Below.refl _ w).alloc (Nat.le_refl _) _⟩
  · have hm : ((k : Int) % 7 == 6) = false := by simp; omega
    have e : Z.underK k = Z.owner k := by unfold Z.underK; rw [if_neg h6]
    rw [e]
    go_enter Tryz.func92, Tryz.ntmps92
    go_wp2_with (go_at_call 21; refine (owner_any k hk w).mono ?_; rintro e w1 ⟨v, rfl, hO, hB⟩)
    go_ret
    exact ⟨v, rfl, hO, hB⟩
set_option maxRecDepth 5000 in
theorem kinds_get (k : Nat) : ((#[.int .u16 1, .int .u16 1, .int .u16 28, .int .u16 15, .int .u16 16, .int .u16 2, .int .u16 5, .int .u16 43, .int .u16 6, .int .u16 99] : Array Value))[k % 10]? = some (.int .u16 (Z.typeK k : Int)) := by
  have h : ∀ j, j < 10 → ((#[.int .u16 1, .int .u16 1, .int .u16 28, .int .u16 15, .int .u16 16, .int .u16 2, .int .u16 5, .int .u16 43, .int .u16 6, .int .u16 99] : Array Value))[j]? = some (.int .u16 ((Z.kinds.getD j 0 : Nat) : Int))
    | 0, _ => rfl | 1, _ => rfl | 2, _ => rfl | 3, _ => rfl | 4, _ => rfl | 5, _ => rfl | 6, _ => rfl | 7, _ => rfl | 8, _ => rfl | 9, _ => rfl
    | j + 10, h => absurd h (by omega)
  exact h _ (Nat.mod_lt _ (by decide))
set_option maxRecDepth 5000 in
theorem seatType_any (k : Nat) (hk : k < 256) (w : World) : Calls Tryz.prog 22 #[.int .u8 (k : Int)] w fun e w' => e = .returned (.int .u16 (Z.typeK k : Int)) ∧ Below w.heap.size w w' := by
  obtain ⟨j, hj⟩ : ∃ j, j = k % 10 := ⟨_, rfl⟩
  have hj10 : j < 10 := by rw [hj]; exact Nat.mod_lt _ (by decide)
  have hmod : ((k : Int) % 10) = (j : Int) := by omega
  have hjb : (j : Int) < 10 := by omega
  have hc := (RowAt.new w 36 #[.int .u16 1, .int .u16 1, .int .u16 28, .int .u16 15, .int .u16 16, .int .u16 2, .int .u16 5, .int .u16 43, .int .u16 6, .int .u16 99]).cell j
  rw [hj, kinds_get k, ← hj] at hc
  obtain ⟨t, ht⟩ : ∃ t, t = Z.typeK k := ⟨_, rfl⟩
  rw [← ht] at hc ⊢
  clear ht hj
  go_enter Tryz.func22, Tryz.ntmps22
  go_wp2
  go_ret
  exact ⟨rfl, (Below.refl _ w).alloc (Nat.le_refl _) _⟩
end Go.Proofs.YtdldaphkiphpnaaGreat
