/- signetref7.Public. -/
import Derived.Test.YtpiehjfoojipiaaDoorRScr
namespace Go.Proofs.YtpiehjfoojipiaaDoor
open Go.RowKit
def half (f : Nat → BitVec 8) (leaf k : Nat) : Nat → List (BitVec 8)
  | 0 => []
  | 1 => O.lst (O.lockOf f leaf k 0)
  | _ => O.pair f leaf k
set_option maxRecDepth 5000 in
theorem half_succ (f : Nat → BitVec 8) (leaf k j : Nat) (h : j < 2) : half f leaf k (j + 1) = half f leaf k j ++ O.lst (O.lockOf f leaf k j) := by
  rcases (show j = 0 ∨ j = 1 by omega) with rfl | rfl <;> rfl
set_option maxRecDepth 5000 in
theorem half_len (f : Nat → BitVec 8) (leaf k j : Nat) : (half f leaf k j).length ≤ 16 := by
  unfold half; split <;> simp [O.lst_len, O.pair_len]
set_option maxRecDepth 5000 in
theorem rshort_one (tag : BitVec 8) (p : List (BitVec 8)) (ao : Option Addr) (n cap : Nat) (w : World) (hl : Hid (p.length = n)) (hs : SlL w ao p) (hnil : ao = none → cap = 0) (hc : n ≤ cap) (hn : n ≤ 1000000) :
    Calls Tryd.prog 45 #[.int .u8 tag.toNat, .slice (some ⟨w.heap.size, 0, none⟩) 1 1] (w.alloc (.cells #[.slice ao n cap] 34)) fun e w' => e = .returned (.agg (rowB 8 (sumF (tag :: ptext [p])))) ∧ Below w.heap.size w w' := by
  have hp := parts_one w ao p cap 34 hs hnil (by rw [hl.out]; exact hc)
  rw [hl.out] at hp
  refine (refShort_any tag [p] _ 1 1 _ rfl hp (by omega) (one_le p (by have := hl.out; omega))).mono ?_
  rintro e w1 ⟨rfl, hB1⟩
  exact ⟨rfl, ((Below.refl _ _).alloc (Nat.le_refl _) _).trans (hB1.mono (by simp))⟩
set_option maxRecDepth 3000 in
set_option maxHeartbeats 1000000 in
theorem rpublic_any (f : Nat → BitVec 8) (leaf : Nat) (w : World) (hleaf : leaf < 4294967296) :
    Calls Tryd.prog 36 #[.agg (rowB 8 f), .int .u32 (leaf : Int)] w fun e w' => e = .returned (.agg (rowB 8 (O.pub f leaf))) ∧ Below w.heap.size w w' := by
  have hI0 := PInv.first f w
  unfold z8 at hI0
  go_enter Tryd.func36, Tryd.ntmps36
  go_wp2
  go_loopw [5, 6] (fun v i wr => ∃ k : Nat, k ≤ 32 ∧ i = .int .i64 (k : Int) ∧ OwnB wr (w.heap.size + 1 + 1) v (O.pubL f leaf k) ∧ PInv f w wr) (fun _ i _ => 32 - (intOf i).toNat)
  case atStart => exact ⟨0, by omega, rfl, OwnB.nil _ _, hI0⟩
  case round =>
    clear hI0
    obtain ⟨k, hk, rfl, hO, hI⟩ := hrel
    have hlt1 := hI.lt
    have hlen := O.pubL_len f leaf k
    by_cases hlt : k < 32
    · have hdk : decide ((k : Int) < 32) = true := by simp; omega
      have hwk : IntKind.u8.wrap (k : Int) = (k : Int) := by rw [IntKind.wrap_u8]; omega
      have HO : Hid (OwnB wr (w.heap.size + 1 + 1) u5 (O.pubL f leaf k ++ half f leaf k 0)) := by show OwnB _ _ _ _; rw [show half f leaf k 0 = [] from rfl, List.append_nil]; exact hO
      have HLE : Hid (∀ j, (O.pubL f leaf k ++ half f leaf k j).length ≤ 600) := fun j => by
        have h1 := half_len f leaf k j
        rw [List.length_append]; omega
      clear hO hlen
      go_wp2
      go_loopw [5, 7] (fun v i wx => ∃ j : Nat, j ≤ 2 ∧ i = .int .i64 (j : Int) ∧ OwnB wx (w.heap.size + 1 + 1) v (O.pubL f leaf k ++ half f leaf k j) ∧ PInv f w wx) (fun _ i _ => 2 - (intOf i).toNat)
      case atStart => exact ⟨0, by omega, rfl, HO.out, hI⟩
      case round =>
        clear HO hI hlt1
        obtain ⟨j, hj, rfl, hO, hI⟩ := hrel
        have hlt1 := hI.lt
        by_cases hj2 : j < 2
        · have hwj : IntKind.u8.wrap (j : Int) = (j : Int) := by rw [IntKind.wrap_u8]; omega
          go_wp2_with (refine wpList_load_rowAt rfl 22 (.tmp 2) rfl w.heap.size rfl 22 _ _ (by exact hI.seed) Tryd.underlying22 rfl (by rw [rowB_size]; exact info28) ?_)
          refine (rsecret_any f leaf k j _ hleaf (by omega) (by omega)).mono ?_
          rintro e w2 ⟨rfl, hB2⟩
          have hI2 := hI.next (hB2.mono hlt1)
          have ho2 := hO.below hB2
          have hlt2 := hI2.lt
          clear hB2 hI hO
          go_wp2_with (refine wpList_store_abs rfl 22 (.tmp 8) (.tmp 24) rfl w2.heap.size (rowB 8 (O.sec f leaf k j)) rfl rfl 22 _ (RowAt.new w2 22 _) (by rw [rowB_size]; exact info28) (by rw [rowB_size]; rfl) (rowB_one _ _) w2.heap.size (Nat.le_refl _) ?_; intro w3 hR3 hO3 hz3 hB3; have hb3 : Below w2.heap.size w2 w3 := ((Below.refl _ _).alloc (Nat.le_refl _) _).trans hB3; have hI3 := hI2.next (hb3.mono hlt2); have ho3 := ho2.below hb3; have hlt3 := hI3.lt; clear hO3 hz3 hB3 hb3 ho2 hI2)
          refine (rlock_any (O.lst (O.sec f leaf k j)) _ 8 8 _ (by exact O.lst_len _) (by exact hR3.sl8) (by simp) (by omega) (by omega)).mono ?_
          rintro e w4 ⟨rfl, hB4⟩
          have hI4 := hI3.next (hB4.mono hlt3)
          have ho4 := ho3.below hB4
          have hlt4 := hI4.lt
          clear hB4 hI3 ho3 hR3
          go_wp2_with (first
            | (refine wpList_store_abs rfl 22 (.tmp 9) (.tmp 26) rfl w4.heap.size (rowB 8 (O.lock (O.lst (O.sec f leaf k j)))) rfl rfl 22 _ (RowAt.new w4 22 _) (by rw [rowB_size]; exact info28) (by rw [rowB_size]; rfl) (rowB_one _ _) w4.heap.size (Nat.le_refl _) ?_; intro w5 hR5 hO5 hz5 hB5; have hb5 : Below w4.heap.size w4 w5 := ((Below.refl _ _).alloc (Nat.le_refl _) _).trans hB5; have hI5 := hI4.next (hb5.mono hlt4); have ho5 := ho4.below hb5; have hlt5 := hI5.lt; clear hO5 hz5 hB5 hb5 ho4 hI4)
            | (at_builtin; refine wpList_append_B rfl (.tmp 27) (.tmp 28) rfl (w.heap.size + 1 + 1) _ _ rfl ho5 _ _ _ (O.lst (O.lock (O.lst (O.sec f leaf k j)))) rfl (O.lst_len _) hR5.sl8 (by simp) (by have := HLE.out j; omega) hlt5 ?_; intro v6 w6 ho6 hG6; have hI6 := hI5.next (grown_next ho5 hG6 hlt5); have hlt6 := hI6.lt; clear hG6 ho5 hI5 hR5))
          refine ⟨⟨j + 1, by omega, by go_num, ?_, hI6⟩, by simp [intOf]; omega⟩
          rw [half_succ f leaf k j hj2, ← List.append_assoc]; exact ho6
        · obtain rfl : j = 2 := by omega
          go_wp2
          refine ⟨⟨k + 1, by omega, by go_num, ?_, hI⟩, by simp [intOf]; omega⟩
          rw [O.pubL_succ]; exact hO
    · obtain rfl : k = 32 := by omega
      obtain ⟨g, c, rfl, hg1, hg2, hg3, hg4, _⟩ := hO.form (by omega)
      have hsl := hO.sl
      replace hlen : (O.pubL f leaf 32).length = 512 := hlen
      rw [hlen] at hg2
      rw [hlen]
      have HLE := hide hlen
      clear hO hg3 hlen
      go_wp2_with fail
      refine (rshort_one 3 (O.pubL f leaf 32) _ 512 c _ HLE (by exact hsl) (by simp) (by omega) (by omega)).mono ?_
      rintro e w6 ⟨rfl, hB6⟩
      have hI6 := hI.next (hB6.mono hlt1)
      obtain ⟨cr, hRr, hsr⟩ := hI6.res
      have hB9 := hI6.below
      clear hB6 hI hsl hI6
      go_wp2_with (refine wpList_store_rowAt rfl 22 (.tmp 4) (.tmp 32) rfl (w.heap.size + 1) _ rfl rfl 22 cr hRr (by rw [rowB_size]; exact info28) (by rw [rowB_size]; exact hsr) (rowB_one _ _) ?_)
      exact bodyPost_ret (v := .agg (rowB 8 (O.pub f leaf))) (results_rowAt Tryd.results36 _ _ (w.heap.size + 1) 22 _ _ rfl (setRow_same hRr _) Tryd.underlying22 rfl (by rw [rowB_size]; exact info28)) rfl ⟨rfl, below_setRow hB9 (by omega) _⟩
end Go.Proofs.YtpiehjfoojipiaaDoor
