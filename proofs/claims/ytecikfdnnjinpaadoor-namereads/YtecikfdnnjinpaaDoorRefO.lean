/- signetref3's Open. -/
import Derived.Test.YtecikfdnnjinpaaDoorRef
namespace Go.Proofs.YtecikfdnnjinpaaDoor
open Go.RowKit
set_option maxRecDepth 3000 in
set_option maxHeartbeats 1000000 in
theorem rOpen_any (b : List UInt8) (ao : Option Addr) (len cap : Nat) (w : World) (hl : Hid (b.length = len)) (hs : SlL w ao b) (hm : len ≤ 1000000000) (hcap : len ≤ cap) :
    Calls Tryd.prog 13 #[.slice ao len cap] w fun e w' => Opened b w.heap.size w e w' := by
  have HS := hide hs
  clear hs
  go_enter Tryd.func13, Tryd.ntmps13
  go_wp2
  go_loopw [6, 5] (fun i v wr => ∃ (j : Nat) (n : List (List UInt8)), i = .int .i64 (j : Int) ∧ j ≤ len ∧ Hid (N.opn b = (N.opn (b.drop j)).map (n ++ ·)) ∧ Hid (j + 1 = N.size n) ∧ n.length ≤ j ∧ OwnS wr w.heap.size v n ∧ Below w.heap.size w wr) (fun i _ _ => len + 1 - (intOf i).toNat)
  case atStart => exact ⟨0, [], rfl, by omega, (by show _ = _; simp), rfl, by simp, OwnS.nil _ _, Below.refl _ _⟩
  case round =>
    obtain ⟨j, n, rfl, hj, HO, HZ, hnl, hO, hB⟩ := hrel
    have hz := hB.size
    by_cases hlt : j < len
    · obtain ⟨b1, o1, rfl, hb1, hc1⟩ := HS.out (by have := hl.out; omega)
      have hx := (hB.cell (p := ⟨b1, o1 + j, none⟩) hb1).trans (hc1 j (by have := hl.out; omega))
      have hz0 := N.opn_zero b j (by have := hl.out; omega)
      have hgr := N.opn_great b j (by have := hl.out; omega)
      have hnx := N.opn_next b j (by have := hl.out; omega)
      clear hc1
      have hk := (b.getD j 0).toNat_lt
      generalize (b.getD j 0).toNat = k at hx hz0 hgr hnx hk
      by_cases h0 : k = 0
      · have HR : Hid (N.opn b = some n) := by rw [HO.out, hz0 h0]; show _ = _; simp
        clear hz0 hgr hnx HO
        subst h0
        by_cases h255 : 255 < j + 1
        · go_wp2
          go_ret3
          exact ⟨Or.inr (Or.inr ⟨n, HR.out, by rw [← HZ.out]; exact h255, rfl⟩), hB⟩
        · go_wp2
          go_ret3
          refine ⟨Or.inl ⟨n, _, HR.out, by rw [← HZ.out]; omega, ?_, hO⟩, hB⟩
          rw [← HZ.out]; rfl
      · have hne : ((k : Int) == 0) = false := by simp; omega
        rcases Nat.lt_or_ge 63 k with h63 | h63
        · have HR : Hid (N.opn b = none) := by rw [HO.out, hgr h63]; exact rfl
          clear hz0 hgr hnx HO
          go_wp2
          go_ret3
          exact ⟨Or.inr (Or.inl ⟨HR.out, rfl⟩), hB⟩
        · have h1 := hnx h0 h63
          rcases Nat.lt_or_ge (len - j - 1) k with hov | hov
          · have HR : Hid (N.opn b = none) := by rw [HO.out, h1, N.opn_out b _ (by have := hl.out; omega)]; exact rfl
            have hov2 : (len : Int) - (j : Int) - 1 < (k : Int) := by omega
            clear hz0 hgr hnx HO h1
            go_wp2
            go_ret3
            exact ⟨Or.inr (Or.inl ⟨HR.out, rfl⟩), hB⟩
          · have hov2 : ¬ ((len : Int) - (j : Int) - 1 < (k : Int)) := by omega
            obtain ⟨ao', hsl, hs'⟩ := slice_mid (k := j + 1) (m := k) (x := (j : Int) + 1) (y := (j : Int) + 1 + (k : Int)) (by omega) (by omega) (HS.out.below hB (Nat.le_refl _)) hl.out (by omega) hcap
            have hxl : ((b.drop (j + 1)).take k).length = k := by rw [List.length_take, List.length_drop, hl.out]; omega
            have hst := run_str k (cap - (j + 1)) hs' hxl
            have HR : Hid (N.opn b = (N.opn (b.drop (j + 1 + k))).map ((n ++ [(b.drop (j + 1)).take k]) ++ ·)) := by
              rw [HO.out, h1, N.map_map]; exact rfl
            have HZ2 : Hid (j + 1 + k + 1 = N.size (n ++ [(b.drop (j + 1)).take k])) := by
              show _ = _
              rw [N.size_one, hxl, ← HZ.out]; omega
            generalize (b.drop (j + 1)).take k = x at hst HR HZ2
            clear hz0 hgr hnx h1 hs' HO HZ hxl
            go_wp2_with (at_builtin; refine wpList_append_S rfl (.tmp 30) (.tmp 40) rfl w.heap.size _ n rfl (by exact hO.alloc _) _ _ _ [x] rfl rfl (SlS.one _ _ _) (by simp; omega) (by simp; omega) ?_; intro v4 w4 hO4 hG4; have hB4 := grown_belowS (hO.alloc _) hG4 (hB.alloc hz _) (by simp; omega); clear hG4 hO)
            go_roundw
            case rel => exact ⟨j + 1 + k, _, by go_num, by omega, HR, HZ2, by simp; omega, hO4, hB4⟩
            case measure => simp [intOf]; omega
    · have HR : Hid (N.opn b = none) := by rw [HO.out, N.opn_out b j (by have := hl.out; omega)]; exact rfl
      go_wp2
      go_ret3
      exact ⟨Or.inr (Or.inl ⟨HR.out, rfl⟩), hB⟩
end Go.Proofs.YtecikfdnnjinpaaDoor
