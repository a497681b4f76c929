/- tree.New: a tree in memory. -/
import Derived.Test.YtpiehjfoojipiaaDoorGwn
import Derived.Deep.QuietTactic
import Derived.BigQuiet
namespace Go.Proofs.YtpiehjfoojipiaaDoor
open Go.RowKit
set_option maxRecDepth 5000 in
theorem QInv.allocd {f : Nat → BitVec 8} {w wr : World} (h : QInv f w wr) (o : Obj) : QInv f w (wr.alloc o) := h.next ((Below.refl _ _).alloc h.lt _)
set_option maxRecDepth 5000 in
theorem QInv.called {f : Nat → BitVec 8} {w wr w' : World} (h : QInv f w wr) (hb : Below wr.heap.size wr w') : QInv f w w' := h.next (hb.mono h.lt)
set_option maxRecDepth 5000 in
theorem QInv.loads {f : Nat → BitVec 8} {w w' : World} (h : QInv f w w') : QInv f w w' ∧ w'.cell? ⟨w.heap.size, 0, none⟩ = some (.int .u8 (f 0).toNat) ∧ w'.cell? ⟨w.heap.size, 1, none⟩ = some (.int .u8 (f 1).toNat) ∧ w'.cell? ⟨w.heap.size, 2, none⟩ = some (.int .u8 (f 2).toNat) ∧ w'.cell? ⟨w.heap.size, 3, none⟩ = some (.int .u8 (f 3).toNat) ∧ w'.cell? ⟨w.heap.size, 4, none⟩ = some (.int .u8 (f 4).toNat) ∧ w'.cell? ⟨w.heap.size, 5, none⟩ = some (.int .u8 (f 5).toNat) ∧ w'.cell? ⟨w.heap.size, 6, none⟩ = some (.int .u8 (f 6).toNat) ∧ w'.cell? ⟨w.heap.size, 7, none⟩ = some (.int .u8 (f 7).toNat) := ⟨h, cells8 h.seed⟩
def trow (f : Nat → BitVec 8) (v : Value) : Array Value := #[.int .u8 (f 0).toNat, .int .u8 (f 1).toNat, .int .u8 (f 2).toNat, .int .u8 (f 3).toNat, .int .u8 (f 4).toNat, .int .u8 (f 5).toNat, .int .u8 (f 6).toNat, .int .u8 (f 7).toNat, v]
/- block t holds the tree of height h of the seed f -/
def TreeAt (w : World) (t : Nat) (f : Nat → BitVec 8) (h : Nat) : Prop := ∃ L c xs, RowAt w t 57 (trow f (.slice (some ⟨L, 0, none⟩) (h + 1) c)) ∧ h + 1 ≤ c ∧ L < w.heap.size ∧ LevX w f h h xs ∧ ∀ j, j < h + 1 → w.cell? ⟨L, j, none⟩ = xs[j]?
set_option maxRecDepth 5000 in
theorem TreeAt.below {w w' : World} {t : Nat} {f : Nat → BitVec 8} {h : Nat} (H : TreeAt w t f h) (hb : Below w.heap.size w w') : TreeAt w' t f h := by
  obtain ⟨L, c, xs, h1, h2, h3, h4, h5⟩ := H
  exact ⟨L, c, xs, h1.below hb h1.lt, h2, Nat.lt_of_lt_of_le h3 hb.size, h4.below hb, fun j hj => by rw [hb.cell (p := ⟨L, j, none⟩) h3]; exact h5 j hj⟩
set_option maxRecDepth 5000 in
theorem TreeAt.alloc {w : World} {t : Nat} {f : Nat → BitVec 8} {h : Nat} (H : TreeAt w t f h) (o : Obj) : TreeAt (w.alloc o) t f h := H.below ((Below.refl _ _).alloc (Nat.le_refl _) o)
set_option maxRecDepth 5000 in
theorem TreeAt.drew {w : World} {t : Nat} {f : Nat → BitVec 8} {h : Nat} (H : TreeAt w t f h) : TreeAt w.drew t f h := H.below (Below.refl _ _).drew
set_option maxRecDepth 5000 in
theorem TreeAt.lt {w : World} {t : Nat} {f : Nat → BitVec 8} {h : Nat} (H : TreeAt w t f h) : t < w.heap.size := by
  obtain ⟨L, c, xs, h1, _⟩ := H
  exact h1.lt
set_option maxRecDepth 5000 in
theorem leafNodes_lit (f : Nat → BitVec 8) (h : Nat) (w : World) (hh : h ≤ 10) (hT : Tab w) :
    Calls Tryd.prog 24 #[.agg #[.int .u8 (f 0).toNat, .int .u8 (f 1).toNat, .int .u8 (f 2).toNat, .int .u8 (f 3).toNat, .int .u8 (f 4).toNat, .int .u8 (f 5).toNat, .int .u8 (f 6).toNat, .int .u8 (f 7).toNat], .int .i64 (h : Int)] w fun e w' => ∃ v, e = .returned v ∧ SlN 58 w' v (levL f 0 (2 ^ h)) ∧ Below w.heap.size w w' := by
  rw [lit8]; exact leafNodes_any f h w hh hT
set_option maxRecDepth 5000 in
theorem tree_of {w0 w : World} {f : Nat → BitVec 8} {h : Nat} {base : Nat} {u : Value} {xs : List Value} (ho : w.ownsRow base 54 1 u (h + 1) xs) (hx : LevX w f h h xs) (e : w0 = w.alloc (.cells (trow f u) 57)) : TreeAt w0 w.heap.size f h := by
  subst e
  have h0 := ho
  rcases ho.2 with ⟨_, h'⟩ | ⟨g, cap, cur, rfl, hb, hg, hc, hm, _, _⟩
  · omega
  · have hglt : g < w.heap.size := (Array.getElem?_eq_some_iff.1 hg).1
    have hbl : Below w.heap.size w (w.alloc (.cells (trow f (.slice (some ⟨g, 0, none⟩) (h + 1) cap)) 57)) := (Below.refl _ _).alloc (Nat.le_refl _) _
    refine ⟨g, cap, xs, RowAt.new _ _ _, hc, Nat.lt_of_lt_of_le hglt hbl.size, hx.below hbl, fun j hj => ?_⟩
    rw [hbl.cell (p := ⟨g, j, none⟩) hglt]
    obtain ⟨v, hv⟩ : ∃ v, xs[j]? = some v := ⟨_, List.getElem?_eq_getElem (by rw [hx.1]; exact hj)⟩
    have h1 := World.ownsRow.cells h0 (g := g) rfl j v hv
    rw [Addr.add_mid, Nat.zero_add] at h1
    rw [h1, hv]
set_option maxRecDepth 5000 in
theorem own_form {w : World} {base e sz n : Nat} {v : Value} {xs : List Value} (h : w.ownsRow base e sz v (n + 1) xs) : ∃ g c, v = .slice (some ⟨g, 0, none⟩) (n + 1) c := by
  rcases h.2 with ⟨_, h'⟩ | ⟨g, cap, cur, rfl, _⟩
  · omega
  · exact ⟨g, cap, rfl⟩
set_option maxRecDepth 5000 in
theorem new_bad (f : Nat → BitVec 8) (h : Int) (w : World) (hh : ¬ (0 ≤ h ∧ h ≤ 10)) :
    Calls Tryd.prog 11 #[.agg (rowB 8 f), .int .i64 h] w fun e w' => e = .returned (.tuple #[.pointer none, .int .i64 70]) ∧ Below w.heap.size w w' := by
  have HB : Hid (Below w.heap.size w (w.alloc (.cells (rowB 8 f) 22))) := (Below.refl _ _).alloc (Nat.le_refl _) _
  have HC : Hid (∀ W : World, Calls Tryd.prog 22 #[.int .i64 h] W fun e w' => e = .returned (.bool false) ∧ w' = W) := fun W => by
    have := isHeight_any h W
    rwa [decide_eq_false hh] at this
  go_enter Tryd.func11, Tryd.ntmps11
  go_wp2_with (go_at_call 22; refine (HC.out _).mono ?_; rintro e w' ⟨rfl, hw'⟩; rw [hw']; clear hw' w')
  go_ret2
  exact ⟨rfl, HB.out⟩
set_option maxRecDepth 3000 in
set_option maxHeartbeats 2000000 in
theorem new_any (f : Nat → BitVec 8) (h : Nat) (w : World) (hh : h ≤ 10) (hT : Tab w) :
    Calls Tryd.prog 11 #[.agg (rowB 8 f), .int .i64 (h : Int)] w fun e w' => ∃ t, e = .returned (.tuple #[.pointer (some ⟨t, 0, none⟩), .int .i64 0]) ∧ TreeAt w' t f h ∧ w.heap.size ≤ t ∧ Below w.heap.size w w' := by
  have hT0 := hT.1
  have HT := hide hT
  have hI0 := QInv.first f w
  have hlt0 := hI0.lt
  have HC : Hid (∀ W : World, Calls Tryd.prog 22 #[.int .i64 (h : Int)] W fun e w' => e = .returned (.bool true) ∧ w' = W) := fun W => by
    have := isHeight_any (h : Int) W
    rwa [decide_eq_true (by omega)] at this
  clear hT
  go_enter Tryd.func11, Tryd.ntmps11
  go_wp2_with (go_at_call 22; refine (HC.out _).mono ?_; rintro e w' ⟨rfl, hw'⟩; rw [hw']; clear hw' w')
  go_region_held3 (fun w' => QInv f w w' ∧ w'.cell? ⟨w.heap.size, 0, none⟩ = some (.int .u8 (f 0).toNat) ∧ w'.cell? ⟨w.heap.size, 1, none⟩ = some (.int .u8 (f 1).toNat) ∧ w'.cell? ⟨w.heap.size, 2, none⟩ = some (.int .u8 (f 2).toNat) ∧ w'.cell? ⟨w.heap.size, 3, none⟩ = some (.int .u8 (f 3).toNat) ∧ w'.cell? ⟨w.heap.size, 4, none⟩ = some (.int .u8 (f 4).toNat) ∧ w'.cell? ⟨w.heap.size, 5, none⟩ = some (.int .u8 (f 5).toNat) ∧ w'.cell? ⟨w.heap.size, 6, none⟩ = some (.int .u8 (f 6).toNat) ∧ w'.cell? ⟨w.heap.size, 7, none⟩ = some (.int .u8 (f 7).toNat))
    (first | exact hI0.loads | exact hI0.drew.loads | exact hI1.loads | exact hI2.loads | exact (hI2.allocd _).loads | fail)
    (first
      | ((go_at_call 24; refine (leafNodes_lit f h _ hh (by exact HT.out.below hI0.drew.below hT0)).mono ?_; rintro e w1 ⟨v1, rfl, hS1, hB1⟩; have hI1 := hI0.drew.called hB1; have HS1 := hide hS1; clear hB1 hS1))
      | ((go_at_call 23; refine (grown_any f h v1 _ hh (by exact HS1.out) (by exact HT.out.below hI1.below hT0)).mono ?_; rintro e w2 ⟨u2, xs2, rfl, hO2, hX2, hB2⟩; obtain ⟨g2, c2, rfl⟩ := own_form hO2; have hI2 := hI1.called hB2; have HO2 := hide hO2; have HX2 := hide hX2; clear hB2 hO2 hX2)))
  all_goals go_wp2
  all_goals go_ret2
  all_goals exact ⟨_, rfl, tree_of HO2.out HX2.out rfl, Nat.le_trans (by omega) hI2.below.size, (hI2.allocd _).below⟩
end Go.Proofs.YtpiehjfoojipiaaDoor

/- Tree.Root, Tree.Leaves, tree.Leaf. -/
namespace Go.Proofs.YtpiehjfoojipiaaDoor
open Go.RowKit
/- what is read of a tree: its slice of levels, the level k -/
set_option maxRecDepth 5000 in
theorem TreeAt.levels {w : World} {t : Nat} {f : Nat → BitVec 8} {h : Nat} (H : TreeAt w t f h) : ∃ L c, w.cell? ⟨t, 8, none⟩ = some (.slice (some ⟨L, 0, none⟩) (h + 1) c) ∧ h + 1 ≤ c ∧ L < w.heap.size ∧ ∀ k, k ≤ h → ∃ g d, w.cell? ⟨L, k, none⟩ = some (.slice (some ⟨g, 0, none⟩) (2 ^ (h - k)) d) ∧ 2 ^ (h - k) ≤ d ∧ g < w.heap.size ∧ ∀ i, i < 2 ^ (h - k) → w.rangeAt g (i * 8) (bsL 8 (T.nd f k i)) := by
  obtain ⟨L, c, xs, h1, h2, h3, h4, h5⟩ := H
  refine ⟨L, c, by rw [h1.cell]; rfl, h2, h3, fun k hk => ?_⟩
  obtain ⟨v, hv⟩ : ∃ v, xs[k]? = some v := ⟨_, List.getElem?_eq_getElem (by rw [h4.1]; omega)⟩
  obtain ⟨g, d, cur, rfl, h6, h7, h8⟩ := h4.2 k v hv
  rw [levL_len] at h6 h8 hv
  refine ⟨g, d, by rw [h5 k (by omega), hv], h6, (Array.getElem?_eq_some_iff.1 h7).1, fun i hi => ?_⟩
  have := h8 i hi
  rwa [levL_get f k _ i hi, Nat.mul_comm] at this
set_option maxRecDepth 5000 in
theorem TreeAt.seed {w : World} {t : Nat} {f : Nat → BitVec 8} {h : Nat} (H : TreeAt w t f h) : w.rangeAt t 0 (bsL 8 f) := by
  obtain ⟨L, c, xs, h1, _⟩ := H
  intro j v hv
  rw [Nat.zero_add, h1.cell]
  have hj : j < 8 := by have := (List.getElem?_eq_some_iff.1 hv).1; rwa [bsL_len] at this
  rw [← hv]
  rcases (show j = 0 ∨ j = 1 ∨ j = 2 ∨ j = 3 ∨ j = 4 ∨ j = 5 ∨ j = 6 ∨ j = 7 by omega) with rfl | rfl | rfl | rfl | rfl | rfl | rfl | rfl <;> rfl
set_option maxRecDepth 3000 in
theorem leaves_any (f : Nat → BitVec 8) (h t : Nat) (w : World) (hh : h ≤ 10) (H : TreeAt w t f h) :
    Calls Tryd.prog 14 #[.pointer (some ⟨t, 0, none⟩)] w fun e w' => e = .returned (.int .u32 ((2 ^ h : Nat) : Int)) ∧ w' = w := by
  obtain ⟨L, c, hc, h1, h2, h3⟩ := H.levels
  obtain ⟨g, d, hd, h4, h5, h6⟩ := h3 0 (by omega)
  rw [Nat.sub_zero] at hd
  have hp := pow_le10 h hh
  generalize 2 ^ h = N at hd hp ⊢
  have hN : IntKind.u32.wrap (N : Int) = (N : Int) := by rw [IntKind.wrap_u32]; omega
  clear h3 h6 H h4
  go_enter Tryd.func14, Tryd.ntmps14
  go_wp2
  go_ret
  exact ⟨by simp, rfl⟩
set_option maxRecDepth 5000 in
theorem leaf_bad (ao : Option Addr) (n c : Nat) (w : World) (hn : n < 4) : Calls Tryd.prog 16 #[.slice ao n c] w fun e w' => e = .returned (.tuple #[.int .u32 0, .bool false]) ∧ w' = w := by
  have q : decide ((n : Int) < 4) = true := by simp; omega
  go_enter Tryd.func16, Tryd.ntmps16
  go_wp2
  go_ret2
  exact ⟨by simp, rfl⟩
end Go.Proofs.YtpiehjfoojipiaaDoor

/- tree.Leaf of four bytes and more; Tree.Root. -/
namespace Go.Proofs.YtpiehjfoojipiaaDoor
open Go.RowKit
set_option maxRecDepth 5000 in
theorem below_drewN' (w : World) (n : Nat) : Below w.heap.size w (w.drewN n) := below_drewN (Below.refl _ _) n
set_option maxRecDepth 3000 in
set_option maxHeartbeats 1000000 in
theorem leaf_any (s : List (BitVec 8)) (g n c : Nat) (w : World) (hl : Hid (s.length = n)) (hs : SlL w (some ⟨g, 0, none⟩) s) (hn : 4 ≤ n) :
    Calls Tryd.prog 16 #[.slice (some ⟨g, 0, none⟩) n c] w fun e w' => e = .returned (.tuple #[.int .u32 (T.num s : Int), .bool true]) ∧ Below w.heap.size w w' := by
  have hln := hl.out
  obtain ⟨b, o, e, hb, hc⟩ := hs (by omega)
  cases e
  have c0 := hc 0 (by omega)
  have c1 := hc 1 (by omega)
  have c2 := hc 2 (by omega)
  have c3 := hc 3 (by omega)
  simp only [Nat.zero_add] at c0 c1 c2 c3
  have HW := hide (w_be (s.getD 0 0) (s.getD 1 0) (s.getD 2 0) (s.getD 3 0))
  have HNUM : Hid ((Sha.be (s.getD 0 0) (s.getD 1 0) (s.getD 2 0) (s.getD 3 0)).toNat = T.num s) := rfl
  generalize s.getD 0 0 = s0 at c0 HW HNUM
  generalize s.getD 1 0 = s1 at c1 HW HNUM
  generalize s.getD 2 0 = s2 at c2 HW HNUM
  generalize s.getD 3 0 = s3 at c3 HW HNUM
  have q : decide ((n : Int) < 4) = false := by simp; omega
  have i0 : (0 : Int) < (n : Int) := by omega
  have i1 : (1 : Int) < (n : Int) := by omega
  have i2 : (2 : Int) < (n : Int) := by omega
  have i3 : (3 : Int) < (n : Int) := by omega
  clear hc hs hln hl
  go_enter Tryd.func16, Tryd.ntmps16
  go_wp2_with fail
  go_quiet (fail)
  go_wp2
  go_ret2
  exact ⟨by rw [← HNUM.out, ← HW.out]; rfl, below_drewN' _ _⟩
set_option maxRecDepth 3000 in
set_option maxHeartbeats 1000000 in
theorem root_any (f : Nat → BitVec 8) (h t : Nat) (w : World) (hh : h ≤ 10) (H : TreeAt w t f h) :
    Calls Tryd.prog 12 #[.pointer (some ⟨t, 0, none⟩)] w fun e w' => e = .returned (.agg (rowB 8 (T.nd f h 0))) ∧ Below w.heap.size w w' := by
  obtain ⟨L, c, hc, h1, h2, h3⟩ := H.levels
  obtain ⟨g, d, hd, h4, h5, h6⟩ := h3 h (by omega)
  rw [show 2 ^ (h - h) = 1 by simp] at hd h4 h6
  have hr := h6 0 (by omega)
  have htl := H.lt
  obtain ⟨K, hK1, hK2, HK⟩ : ∃ K : Nat, K ≤ h + 1 ∧ h + 1 ≤ K ∧ Hid (h + 1 = K) := ⟨h + 1, Nat.le_refl _, Nat.le_refl _, hide rfl⟩
  rw [HK.out] at hc
  obtain ⟨F, HF⟩ : ∃ F, Hid (T.nd f h 0 = F) := ⟨_, hide rfl⟩
  rw [HF.out] at hr ⊢
  have HS : Hid (∀ w', Below w.heap.size w w' → w'.cell? ⟨t, 8, none⟩ = some (.slice (some ⟨L, 0, none⟩) K c) ∧ w'.cell? ⟨L, h, none⟩ = some (.slice (some ⟨g, 0, none⟩) 1 d) ∧ w'.cell? ⟨g, 0, none⟩ = some (.int .u8 (F 0).toNat) ∧ w'.cell? ⟨g, 1, none⟩ = some (.int .u8 (F 1).toNat) ∧ w'.cell? ⟨g, 2, none⟩ = some (.int .u8 (F 2).toNat) ∧ w'.cell? ⟨g, 3, none⟩ = some (.int .u8 (F 3).toNat) ∧ w'.cell? ⟨g, 4, none⟩ = some (.int .u8 (F 4).toNat) ∧ w'.cell? ⟨g, 5, none⟩ = some (.int .u8 (F 5).toNat) ∧ w'.cell? ⟨g, 6, none⟩ = some (.int .u8 (F 6).toNat) ∧ w'.cell? ⟨g, 7, none⟩ = some (.int .u8 (F 7).toNat)) := fun w' hb => by
    have hx : ∀ j, j < 8 → w'.cell? ⟨g, j, none⟩ = some (.int .u8 (F j).toNat) := fun j hj => by
      rw [hb.cell (p := ⟨g, j, none⟩) h5]
      have := hr j (.int .u8 (F j).toNat) (by simp [bsL, fb, hj])
      simpa using this
    exact ⟨(hb.cell (p := ⟨t, 8, none⟩) htl).trans hc, (hb.cell (p := ⟨L, h, none⟩) h2).trans hd, hx 0 (by omega), hx 1 (by omega), hx 2 (by omega), hx 3 (by omega), hx 4 (by omega), hx 5 (by omega), hx 6 (by omega), hx 7 (by omega)⟩
  have hI0 : ShInv w (w.alloc (.cells z8 22)) := ⟨(Below.refl _ _).alloc (Nat.le_refl _) _, _, RowAt.new _ _ _, rfl⟩
  have hsub : IntKind.i64.wrap ((K : Int) - 1) = (h : Int) := by rw [IntKind.wrap_i64]; omega
  have hidx : (h : Int) < (K : Int) := by omega
  have hI9 : ShInv w (w.alloc (.cells #[.int .u8 (F 0).toNat, .int .u8 (F 1).toNat, .int .u8 (F 2).toNat, .int .u8 (F 3).toNat, .int .u8 (F 4).toNat, .int .u8 (F 5).toNat, .int .u8 (F 6).toNat, .int .u8 (F 7).toNat] 22)).drew := ShInv.drew ⟨(Below.refl _ _).alloc (Nat.le_refl _) _, _, RowAt.new _ _ _, rfl⟩
  clear h3 h6 H h4 hc hd hr
  go_enter Tryd.func12, Tryd.ntmps12
  go_wp2_with fail
  go_region_held3 (fun w' => ShInv w w' ∧ w'.cell? ⟨t, 8, none⟩ = some (.slice (some ⟨L, 0, none⟩) K c) ∧ w'.cell? ⟨L, h, none⟩ = some (.slice (some ⟨g, 0, none⟩) 1 d) ∧ w'.cell? ⟨g, 0, none⟩ = some (.int .u8 (F 0).toNat) ∧ w'.cell? ⟨g, 1, none⟩ = some (.int .u8 (F 1).toNat) ∧ w'.cell? ⟨g, 2, none⟩ = some (.int .u8 (F 2).toNat) ∧ w'.cell? ⟨g, 3, none⟩ = some (.int .u8 (F 3).toNat) ∧ w'.cell? ⟨g, 4, none⟩ = some (.int .u8 (F 4).toNat) ∧ w'.cell? ⟨g, 5, none⟩ = some (.int .u8 (F 5).toNat) ∧ w'.cell? ⟨g, 6, none⟩ = some (.int .u8 (F 6).toNat) ∧ w'.cell? ⟨g, 7, none⟩ = some (.int .u8 (F 7).toNat))
    (first | exact ⟨hI0, HS.out _ hI0.below⟩ | exact ⟨hI0.drew, HS.out _ hI0.drew.below⟩ | exact ⟨hI9, HS.out _ hI9.below⟩ | fail)
    (fail)
  all_goals go_wp2
  exact bodyPost_ret (v := .agg (rowB 8 F)) (results_rowAt Tryd.results12 _ _ w.heap.size 22 (rowB 8 F) _ rfl (by rw [← lit8]; exact (RowAt.new w 22 #[.int .u8 (F 0).toNat, .int .u8 (F 1).toNat, .int .u8 (F 2).toNat, .int .u8 (F 3).toNat, .int .u8 (F 4).toNat, .int .u8 (F 5).toNat, .int .u8 (F 6).toNat, .int .u8 (F 7).toNat]).drew) Tryd.underlying22 rfl (by rw [rowB_size]; exact info28)) rfl ⟨rfl, hI9.below⟩
end Go.Proofs.YtpiehjfoojipiaaDoor
