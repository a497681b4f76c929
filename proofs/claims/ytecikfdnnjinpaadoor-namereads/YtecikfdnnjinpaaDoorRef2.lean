/- signetref3's Check, Wire. -/
import Derived.Test.YtecikfdnnjinpaaDoorRef
import Derived.BigRegion
namespace Go.Proofs.YtecikfdnnjinpaaDoor
open Go.RowKit
namespace N
theorem chk_long {n : List (List UInt8)} (h0 : ∀ l ∈ n, l ≠ []) (h : (∃ l ∈ n, 63 < l.length) ∨ 255 < size n) : chk n = 31 := by
  unfold chk
  rw [if_neg (fun e => h0 [] e rfl), if_pos (h.elim Or.inr Or.inl)]
theorem size_take_le (n : List (List UInt8)) (j : Nat) : size (n.take j) ≤ size n := by
  conv => rhs; rw [← List.take_append_drop j n]
  rw [size_app]; omega
theorem mem_at (n : List (List UInt8)) (j : Nat) (h : j < n.length) : n.getD j [] ∈ n := by
  have : n.getD j [] = n[j] := by simp [h]
  rw [this]; exact List.getElem_mem h
end N
set_option maxRecDepth 3000 in
set_option maxHeartbeats 400000 in
theorem rCheck_any (n : List (List UInt8)) (ao : Option Addr) (len cap : Nat) (w : World) (hl : Hid (n.length = len)) (hs : SlS w ao n) (hm : Hid (N.Small n)) :
    Calls Tryd.prog 17 #[.slice ao len cap] w fun e w' => e = .returned (.int .i64 (N.chk n)) ∧ w' = w := by
  have HS := hide hs
  have hlen : len ≤ 1000000 := by rw [← hl.out]; exact hm.out.1
  clear hs
  go_enter Tryd.func17, Tryd.ntmps17
  go_wp2
  go_loopw [4] (fun i wr => ∃ j : Nat, i = .int .i64 (j : Int) ∧ j ≤ len ∧ Hid (∀ l ∈ n.take j, l ≠ []) ∧ wr = w) (fun i _ => len - (intOf i).toNat)
  case atStart => exact ⟨0, rfl, by omega, (fun l hl => by simp at hl), rfl⟩
  case round =>
    obtain ⟨j, rfl, hj, HE, rfl⟩ := hrel
    by_cases hlt : j < len
    · obtain ⟨b1, o1, rfl, _, hc1⟩ := HS.out (by have := hl.out; omega)
      have hx := hc1 j (by have := hl.out; omega)
      have hbad := @N.chk_bad n j (by have := hl.out; omega)
      have ht := N.take_nextN n j (by have := hl.out; omega)
      clear hc1
      generalize n.getD j [] = x at hx hbad ht
      have HB := hide hbad
      have HT := hide ht
      clear hbad ht
      by_cases hx0 : x = []
      · have HB0 := hide (HB.out hx0)
        clear HB
        subst hx0
        go_wp2
        go_ret
        exact ⟨by rw [HB0.out]; rfl, rfl⟩
      · have hx1 : x.isEmpty = false := by cases x <;> simp_all
        have hx2 : (x == []) = false := by cases x <;> simp_all
        go_wp2
        go_roundw
        case rel => exact ⟨j + 1, by go_num, by omega, (by rw [HT.out]; intro l hl; rcases List.mem_append.1 hl with h | h; exact HE.out l h; rw [List.mem_singleton.1 h]; exact hx0), trivial⟩
        case measure => simp [intOf]; omega
    · obtain rfl : j = len := by omega
      have ht : n.take j = n := by rw [← hl.out]; exact List.take_length
      rw [ht] at HE
      clear ht
      go_wp2
      go_loopw [3, 5] (fun a i wr' => ∃ k sz : Nat, i = .int .i64 (k : Int) ∧ a = .int .i64 (sz : Int) ∧ k ≤ j ∧ sz ≤ 255 ∧ Hid (sz = N.size (n.take k)) ∧ Hid (∀ l ∈ n.take k, l.length ≤ 63) ∧ wr' = wr) (fun _ i _ => j - (intOf i).toNat)
      case atStart => exact ⟨0, 1, rfl, rfl, by omega, by omega, rfl, (fun l hl => by simp at hl), rfl⟩
      case round =>
        obtain ⟨k, sz, rfl, rfl, hk, hsz, HZ, H63, rfl⟩ := hrel
        by_cases hlt2 : k < j
        · obtain ⟨b1, o1, rfl, _, hc1⟩ := HS.out (by have := hl.out; omega)
          have hx := hc1 k (by have := hl.out; omega)
          have hn := N.size_next n k (by have := hl.out; omega)
          have ht := N.take_nextN n k (by have := hl.out; omega)
          have hme := N.mem_at n k (by have := hl.out; omega)
          have hxl := hm.out.at k
          have hle := N.size_take_le n (k + 1)
          clear hc1
          generalize n.getD k [] = x at hx hn ht hme hxl
          have HME := hide hme
          have HT := hide ht
          rw [hn, ← HZ.out] at hle
          have HN := hide hn
          have HLE := hide hle
          clear hn ht hme hle
          rcases Nat.lt_or_ge 63 x.length with h63 | h63
          · have HC := hide (N.chk_long HE.out (Or.inl ⟨x, HME.out, h63⟩))
            go_wp2
            go_ret
            exact ⟨by rw [HC.out]; rfl, rfl⟩
          · rcases Nat.lt_or_ge 255 (sz + (x.length + 1)) with h255 | h255
            · have HC := hide (N.chk_long HE.out (Or.inr (Nat.lt_of_lt_of_le h255 HLE.out)))
              go_wp2
              go_ret
              exact ⟨by rw [HC.out]; rfl, rfl⟩
            · go_wp2
              go_roundw
              case rel => exact ⟨k + 1, sz + (x.length + 1), by go_num, by go_num, by omega, by omega, (by show _ = _; rw [HZ.out]; exact HN.out.symm), (by rw [HT.out]; intro l hl; rcases List.mem_append.1 hl with h | h; exact H63.out l h; rw [List.mem_singleton.1 h]; exact h63), trivial⟩
              case measure => simp [intOf]; omega
        · obtain rfl : k = j := by omega
          have ht : n.take k = n := by rw [← hl.out]; exact List.take_length
          rw [ht] at HZ H63
          have HC := hide (N.chk_ok (fun e => HE.out [] e rfl) (by rw [← HZ.out]; exact hsz) H63.out)
          clear ht
          go_wp2
          go_ret
          exact ⟨by rw [HC.out]; rfl, rfl⟩
set_option maxRecDepth 3000 in
set_option maxHeartbeats 800000 in
theorem rWire_any (n : List (List UInt8)) (ao : Option Addr) (len cap : Nat) (w : World) (hl : Hid (n.length = len)) (hs : SlS w ao n) (hm : Hid (N.Small n)) :
    Calls Tryd.prog 22 #[.slice ao len cap] w fun e w' => ∃ v, e = .returned v ∧ OwnB w' w.heap.size v (N.wire n) ∧ Below w.heap.size w w' := by
  have HS := hide hs
  have hlen : len ≤ 1000000 := by rw [← hl.out]; exact hm.out.1
  clear hs
  go_enter Tryd.func22, Tryd.ntmps22
  go_wp2
  go_loopw [4, 3] (fun i v wr => ∃ j : Nat, i = .int .i64 (j : Int) ∧ j ≤ len ∧ OwnB wr w.heap.size v (N.body (n.take j)) ∧ Below w.heap.size w wr) (fun i _ _ => len - (intOf i).toNat)
  case atStart => exact ⟨0, rfl, by omega, OwnB.nil _ _, Below.refl _ _⟩
  case round =>
    obtain ⟨j, rfl, hj, hO, hB⟩ := hrel
    have hz := hB.size
    have hbl := N.body_len (n.take j)
    have hsj := hm.out.size j (by have := hl.out; omega)
    by_cases hlt : j < len
    · obtain ⟨b1, o1, rfl, hb1, hc1⟩ := HS.out (by have := hl.out; omega)
      have hx0 := hc1 j (by have := hl.out; omega)
      have hx := (hB.cell (p := ⟨b1, o1 + j, none⟩) hb1).trans hx0
      have hn := N.body_next n j (by have := hl.out; omega)
      have hxl := hm.out.at j
      clear hc1
      generalize n.getD j [] = x at hx hn hxl hx0
      have HN := hide hn
      have HX0 := hide hx0
      have HO := hide hO
      have HB := hide hB
      have hj1 : (j : Int) < (len : Int) := by omega
      have hbw : b1 < wr.heap.size := by omega
      clear hn hO hB hx0
      go_wp2
      go_region_law (first
        | (refine step_append_B rfl (.tmp 11) (.tmp 18) rfl w.heap.size _ (N.body (n.take j)) (by simp [Act.eval]; rfl) (by exact HO.out.alloc _) ⟨wr.heap.size, 0, none⟩ 1 1 [UInt8.ofNat x.length] (by simp [Act.eval]) rfl (by exact SlL.oneI wr ((x.length : Int) % 256) (UInt8.ofNat x.length) 5 (by rw [UInt8.toNat_ofNat']; omega)) (by simp; omega) (by simp; omega) ?_; intro v4 w4 hO4 hG4; have hB4 := grown_below (w := (wr.alloc (.cells #[.int .u8 ((x.length : Int) % 256)] 5)).drew) (HO.out.alloc _) hG4 (below_drew (HB.out.alloc hz _)) (by show _ ≤ (wr.alloc _).heap.size; simp; omega); have hx4 : w4.cell? ⟨b1, o1 + j, none⟩ = some (.string ⟨x.toArray⟩) := (hB4.cell (p := ⟨b1, o1 + j, none⟩) hb1).trans HX0.out; have hz4 := hB4.size; have HO4 := hide hO4; have HB4 := hide hB4; clear hG4 hO4 hB4)
        | (refine step_append_BS rfl (.tmp 19) (.tmp 23) rfl w.heap.size _ _ (by simp [Act.eval]; rfl) (by exact HO4.out) x (by simp [Act.eval]) (by simp only [List.length_append, List.length_singleton]; omega) hz4 ?_; intro v5 w5 hO5 hG5; have HB5 := hide (grown_below HO4.out hG5 HB4.out hz4); have HO5 := hide hO5; clear hG5 hO5))
      all_goals
        go_wp2
        go_roundw
        case rel => exact ⟨j + 1, by go_num, by omega, (by rw [HN.out]; exact HO5.out), HB5.out⟩
        case measure => simp [intOf]; omega
    · obtain rfl : j = len := by omega
      go_wp2_with (at_builtin; refine wpList_append_B rfl (.tmp 25) (.tmp 26) rfl w.heap.size _ (N.body (n.take j)) rfl (by exact hO.alloc _) _ _ _ [0] rfl rfl (SlL.oneI _ _ _ _ (by rfl)) (by simp) (by omega) (by simp; omega) ?_; intro v4 w4 hO4 hG4; have hB4 := grown_below (hO.alloc _) hG4 (hB.alloc hz _) (by simp; omega); clear hG4 hO)
      go_ret
      refine ⟨_, rfl, ?_, hB4⟩
      have ht : n.take j = n := by rw [← hl.out]; exact List.take_length
      rw [ht] at hO4
      exact hO4
end Go.Proofs.YtecikfdnnjinpaaDoor
