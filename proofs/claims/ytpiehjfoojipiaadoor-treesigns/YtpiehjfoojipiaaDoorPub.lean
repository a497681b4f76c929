/- onetime.Public. -/
import Derived.Test.YtpiehjfoojipiaaDoorBit
namespace Go.Proofs.YtpiehjfoojipiaaDoor
open Go.RowKit
/- what a call keeps in all its rounds: the seed in its first block, the answer's place in its second -/
structure PInv (f : Nat → BitVec 8) (w wr : World) : Prop where
  below : Below w.heap.size w wr
  seed : RowAt wr w.heap.size 22 (rowB 8 f)
  res : ∃ c, RowAt wr (w.heap.size + 1) 22 c ∧ c.size = 8
set_option maxRecDepth 5000 in
theorem PInv.next {f : Nat → BitVec 8} {w wr w' : World} (h : PInv f w wr) (hb : Below (w.heap.size + 1 + 1) wr w') : PInv f w w' := by
  obtain ⟨c, hr, hs⟩ := h.res
  exact ⟨h.below.trans (hb.mono (by omega)), h.seed.below hb (by omega), c, hr.below hb (by omega), hs⟩
set_option maxRecDepth 5000 in
theorem PInv.lt {f : Nat → BitVec 8} {w wr : World} (h : PInv f w wr) : w.heap.size + 1 + 1 ≤ wr.heap.size := by
  obtain ⟨c, hr, _⟩ := h.res
  exact hr.lt
set_option maxRecDepth 5000 in
theorem PInv.drew {f : Nat → BitVec 8} {w wr : World} (h : PInv f w wr) : PInv f w wr.drew := ⟨h.below.drew, h.seed, h.res⟩
set_option maxRecDepth 5000 in
theorem PInv.first (f : Nat → BitVec 8) (w : World) : PInv f w ((w.alloc (.cells (rowB 8 f) 22)).alloc (.cells z8 22)) :=
  ⟨((Below.refl _ _).alloc (Nat.le_refl _) _).alloc (by simp) _, (RowAt.new w 22 (rowB 8 f)).alloc _, z8, row_snd w _ 22 _, rfl⟩
set_option maxRecDepth 5000 in
theorem own_ne {w : World} {B e n T t : Nat} {v : Value} {xs : List Value} {c : Array Value} (h : w.ownsRow B e 1 v n xs) (hT : RowAt w T t c) (hne : t ≠ e) : some T ≠ v.ownBlock := by
  rcases h.2 with ⟨rfl, _⟩ | ⟨g, cap, cur, rfl, _, h2, _⟩
  · simp [Value.ownBlock]
  · intro e1
    simp only [Value.ownBlock, Option.some.injEq] at e1
    subst e1
    unfold RowAt at hT
    rw [h2] at hT
    injection hT with hT
    injection hT with _ hT2
    exact hne hT2.symm
set_option maxRecDepth 5000 in
theorem row_grown {w w' : World} {B T t : Nat} {v : Value} {l : List (BitVec 8)} {c : Array Value} (h : OwnB w B v l) (hT : RowAt w T t c) (hne : t ≠ 5) (hg : w.grownBy w' v.ownBlock) : RowAt w' T t c := by
  have h1 := own_ne h hT hne
  unfold RowAt at *
  rw [hg.block T (Array.getElem?_eq_some_iff.1 hT).1 h1]
  exact hT
set_option maxRecDepth 5000 in
theorem one_le (p : List (BitVec 8)) (h : p.length ≤ 1000000) : ∀ q ∈ [p], q.length ≤ 1000000 := fun q hq => by
  simp only [List.mem_singleton] at hq; subst hq; exact h
set_option maxRecDepth 5000 in
theorem short_one (tag : BitVec 8) (p : List (BitVec 8)) (ao : Option Addr) (n cap : Nat) (w : World) (hl : Hid (p.length = n)) (hs : SlL w ao p) (hnil : ao = none → cap = 0) (hc : n ≤ cap) (hn : n ≤ 1000000) (hT : Tab w) :
    Calls Tryd.prog 44 #[.int .u8 tag.toNat, .slice (some ⟨w.heap.size, 0, none⟩) 1 1] (w.alloc (.cells #[.slice ao n cap] 34)) fun e w' => e = .returned (.agg (rowB 8 (sumF (tag :: ptext [p])))) ∧ Below w.heap.size w w' := by
  have hp := parts_one w ao p cap 34 hs hnil (by rw [hl.out]; exact hc)
  rw [hl.out] at hp
  refine (short_any tag [p] _ 1 1 _ rfl hp (by omega) (one_le p (by have := hl.out; omega)) (hT.alloc _)).mono ?_
  rintro e w1 ⟨rfl, hB1⟩
  exact ⟨rfl, ((Below.refl _ _).alloc (Nat.le_refl _) _).trans (hB1.mono (by simp))⟩
set_option maxRecDepth 3000 in
set_option maxHeartbeats 1000000 in
theorem public_any (f : Nat → BitVec 8) (leaf : Nat) (w : World) (hleaf : leaf < 4294967296) (hT : Tab w) :
    Calls Tryd.prog 38 #[.agg (rowB 8 f), .int .u32 (leaf : Int)] w fun e w' => e = .returned (.agg (rowB 8 (O.pub f leaf))) ∧ Below w.heap.size w w' := by
  obtain ⟨i0, hi, hz0, hz1, hz2⟩ := info_parts info5
  have hT0 := hT.1
  have hI0 := PInv.first f w
  have hlt0 := hI0.lt
  go_enter Tryd.func38, Tryd.ntmps38
  go_wp2_with (at_make; go_must (refine wpList_make_own _ rfl (.const (.int .i64 0)) (.const (.int .i64 512)) 34 rfl (w.heap.size + 1 + 1) 5 i0 (.int .u8 0) 1 Tryd.underlying34 hi hz0 hz1 .i64 .i64 512 512 rfl rfl rfl (by rw [hz2]; omega) (by unfold maxLen; omega) (by simp) ?_); intro w1 hO1 hG1; go_must (have hb1 := (Below.refl (w.heap.size + 1 + 1) _).grown hG1 (by simp) (fun k hk => by cases hk); have ho1 : OwnB w1 (w.heap.size + 1 + 1) (.slice (some ⟨w.heap.size + 1 + 1, 0, none⟩) 0 512) [] := (by simpa [OwnB, vb] using hO1)); clear hG1 hO1)
  have hI1 : PInv f w w1 := hI0.next hb1
  clear hb1 hI0
  go_loopw [5, 10] (fun v i wr => ∃ k : Nat, k ≤ 32 ∧ i = .int .i64 (k : Int) ∧ OwnB wr (w.heap.size + 1 + 1) v (O.pubL f leaf k) ∧ PInv f w wr) (fun _ i _ => 32 - (intOf i).toNat)
  case atStart => exact ⟨0, by omega, rfl, ho1, hI1⟩
  case round =>
    clear ho1 hI1 hlt0
    obtain ⟨k, hk, rfl, hO, hI⟩ := hrel
    have hlt1 := hI.lt
    have hlen := O.pubL_len f leaf k
    by_cases hlt : k < 32
    · have HLE := hide hlen
      clear hlen
      have hT2 := hT.below hI.below hT0
      go_wp2_with (refine wpList_load_rowAt rfl 22 (.tmp 2) rfl w.heap.size rfl 22 _ _ (by exact hI.seed) Tryd.underlying22 rfl (by rw [rowB_size]; exact info28) ?_)
      refine (lockOf_any f leaf k 0 _ hleaf hlt (by omega) (by exact hT2)).mono ?_
      rintro e w2 ⟨rfl, hB2⟩
      have hI2 := hI.next (hB2.mono hlt1)
      have ho2 := hO.below hB2
      have hlt2 := hI2.lt
      clear hB2 hI hO hT2
      go_wp2_with (first
        | (refine wpList_store_abs rfl 22 (.tmp 7) (.tmp 16) rfl w2.heap.size (rowB 8 (O.lockOf f leaf k 0)) rfl rfl 22 _ (RowAt.new w2 22 _) (by rw [rowB_size]; exact info28) (by rw [rowB_size]; rfl) (rowB_one _ _) w2.heap.size (Nat.le_refl _) ?_; intro w3 hR3 hO3 hz3 hB3; have hb3 : Below w2.heap.size w2 w3 := ((Below.refl _ _).alloc (Nat.le_refl _) _).trans hB3; have hI3 := hI2.next (hb3.mono hlt2); have ho3 := ho2.below hb3; have hlt3 := hI3.lt; have hz3' : w2.heap.size < w3.heap.size := hR3.lt; have hT3 := hT.below hI3.below hT0; clear hO3 hz3 hB3 hb3 ho2 hI2)
        | (refine wpList_load_rowAt rfl 22 (.tmp 2) rfl w.heap.size rfl 22 _ _ (by exact hI3.seed) Tryd.underlying22 rfl (by rw [rowB_size]; exact info28) ?_))
      refine (lockOf_any f leaf k 1 _ hleaf hlt (by omega) (by exact hT3)).mono ?_
      rintro e w4 ⟨rfl, hB4⟩
      have hI4 := hI3.next (hB4.mono hlt3)
      have ho4 := ho3.below hB4
      have hR4 := hR3.below hB4 hz3'
      have hz4' : w2.heap.size < w4.heap.size := Nat.lt_of_lt_of_le hz3' hB4.size
      have hlt4 := hI4.lt
      clear hB4 hI3 ho3 hR3 hT3
      go_wp2_with (first
        | (refine wpList_store_abs rfl 22 (.tmp 8) (.tmp 20) rfl w4.heap.size (rowB 8 (O.lockOf f leaf k 1)) rfl rfl 22 _ (RowAt.new w4 22 _) (by rw [rowB_size]; exact info28) (by rw [rowB_size]; rfl) (rowB_one _ _) w4.heap.size (Nat.le_refl _) ?_; intro w5 hR5 hO5 hz5 hB5; have hb5 : Below w4.heap.size w4 w5 := ((Below.refl _ _).alloc (Nat.le_refl _) _).trans hB5; have hI5 := hI4.next (hb5.mono hlt4); have ho5 := ho4.below hb5; have hQ5 := hR4.below hb5 hz4'; have hlt5 := hI5.lt; clear hO5 hz5 hB5 hb5 ho4 hI4 hR4)
        | (at_builtin; refine wpList_append_B rfl (.tmp 21) (.tmp 22) rfl (w.heap.size + 1 + 1) _ _ rfl ho5 _ _ _ (O.lst (O.lockOf f leaf k 0)) rfl (O.lst_len _) hQ5.sl8 (by simp) (by rw [HLE.out]; omega) hlt5 ?_; intro v6 w6 ho6 hG6; have hR6 := row_grown ho5 hR5 (by decide) hG6; have hI6 := hI5.next (grown_next ho5 hG6 hlt5); have hlt6 := hI6.lt; clear hG6 ho5 hI5 hR5 hQ5)
        | (at_builtin; refine wpList_append_B rfl (.tmp 24) (.tmp 25) rfl (w.heap.size + 1 + 1) _ _ rfl ho6 _ _ _ (O.lst (O.lockOf f leaf k 1)) rfl (O.lst_len _) hR6.sl8 (by simp) (by simp [O.lst_len, HLE.out]; omega) hlt6 ?_; intro v7 w7 ho7 hG7; have hI7 := hI6.next (grown_next ho6 hG7 hlt6); clear hG7 ho6 hI6 hR6))
      refine ⟨⟨k + 1, by omega, by go_num, ?_, hI7⟩, by simp [intOf]; omega⟩
      rw [O.pubL_succ]
      unfold O.pair
      rw [← List.append_assoc]; exact ho7
    · obtain rfl : k = 32 := by omega
      have hTr := hT.below hI.below hT0
      obtain ⟨g, c, rfl, hg1, hg2, hg3, hg4, _⟩ := hO.form (by omega)
      have hsl := hO.sl
      replace hlen : (O.pubL f leaf 32).length = 512 := hlen
      rw [hlen] at hg2
      rw [hlen]
      have HLE := hide hlen
      clear hO hg3 hlen
      go_wp2_with fail
      refine (short_one 3 (O.pubL f leaf 32) _ 512 c _ HLE (by exact hsl) (by simp) (by omega) (by omega) (by exact hTr)).mono ?_
      rintro e w6 ⟨rfl, hB6⟩
      have hI6 := hI.next (hB6.mono hlt1)
      obtain ⟨cr, hRr, hsr⟩ := hI6.res
      have hB9 := hI6.below
      clear hB6 hI hsl hTr hI6
      go_wp2_with (refine wpList_store_rowAt rfl 22 (.tmp 4) (.tmp 30) rfl (w.heap.size + 1) _ rfl rfl 22 cr hRr (by rw [rowB_size]; exact info28) (by rw [rowB_size]; exact hsr) (rowB_one _ _) ?_)
      exact bodyPost_ret (v := .agg (rowB 8 (O.pub f leaf))) (results_rowAt Tryd.results38 _ _ (w.heap.size + 1) 22 _ _ rfl (setRow_same hRr _) Tryd.underlying22 rfl (by rw [rowB_size]; exact info28)) rfl ⟨rfl, below_setRow hB9 (by omega) _⟩
end Go.Proofs.YtpiehjfoojipiaaDoor
