/- signetref3's Text. -/
import Derived.Test.YtecikfdnnjinpaaDoorRef2
namespace Go.Proofs.YtecikfdnnjinpaaDoor
open Go.RowKit
theorem SlL.two (w : World) (a b : UInt8) (x y : Int) (t : TypeId) (h1 : x = (a.toNat : Int)) (h2 : y = (b.toNat : Int)) : SlL (w.alloc (.cells #[.int .u8 x, .int .u8 y] t)) (some ⟨w.heap.size, 0, none⟩) [a, b] := by
  subst h1 h2; exact SlL.litm w [a, b] _ t (0, 0) rfl
theorem SlL.four (w : World) (a b c d : UInt8) (x y z u : Int) (t : TypeId) (h1 : x = (a.toNat : Int)) (h2 : y = (b.toNat : Int)) (h3 : z = (c.toNat : Int)) (h4 : u = (d.toNat : Int)) : SlL (w.alloc (.cells #[.int .u8 x, .int .u8 y, .int .u8 z, .int .u8 u] t)) (some ⟨w.heap.size, 0, none⟩) [a, b, c, d] := by
  subst h1 h2 h3 h4; exact SlL.litm w [a, b, c, d] _ t (0, 0) rfl
theorem Light.at {n : List (List UInt8)} (h : Light n) (j : Nat) : (n.getD j []).length ≤ 300 := by
  rcases Nat.lt_or_ge j n.length with h1 | h1
  · have : n.getD j [] = n[j] := by simp [h1]
    rw [this]; exact h.2 _ (List.getElem_mem h1)
  · have : n.getD j [] = [] := by simp [h1]
    rw [this]; simp
theorem Light.size {n : List (List UInt8)} (h : Light n) : ∀ j, j ≤ n.length → N.size (n.take j) ≤ 1 + j * 301
  | 0, _ => by simp [N.size]
  | j + 1, hj => by
    rw [N.size_next n j (by omega)]
    have h1 := h.size j (by omega)
    have h2 := h.at j
    omega
set_option maxRecDepth 3000 in
set_option maxHeartbeats 1000000 in
theorem rText_any (n : List (List UInt8)) (ao : Option Addr) (len cap : Nat) (w : World) (hl : Hid (n.length = len)) (hs : SlS w ao n) (hm : Hid (Light n)) :
    Calls Tryd.prog 19 #[.slice ao len cap] w fun e w' => e = .returned (.string ⟨(N.text n).toArray⟩) ∧ Below w.heap.size w w' := by
  have HS := hide hs
  have hlen : len ≤ 200 := by rw [← hl.out]; exact hm.out.1
  clear hs
  by_cases h0 : len = 0
  · have hn : n = [] := List.eq_nil_of_length_eq_zero (by have := hl.out; omega)
    have ht : N.text n = [46] := by rw [hn]; rfl
    rw [ht]
    subst h0
    go_enter Tryd.func19, Tryd.ntmps19
    go_wp2
    go_ret
    exact ⟨rfl, Below.refl _ _⟩
  · have hn : n ≠ [] := fun e => h0 (by rw [← hl.out, e]; rfl)
    have ht : N.text n = N.textN n := by unfold N.text; rw [if_neg hn]
    rw [ht]
    have he : ((len : Int) == 0) = false := by simp; omega
    go_enter Tryd.func19, Tryd.ntmps19
    go_wp2
    go_loopw [3, 4] (fun v i wr => ∃ j : Nat, i = .int .i64 (j : Int) ∧ j ≤ len ∧ OwnB wr w.heap.size v (N.textN (n.take j)) ∧ Below w.heap.size w wr) (fun _ i _ => len - (intOf i).toNat)
    case atStart => exact ⟨0, rfl, by omega, OwnB.nil _ _, Below.refl _ _⟩
    case round =>
      obtain ⟨j, rfl, hj, hO, hB⟩ := hrel
      have hz := hB.size
      by_cases hlt : j < len
      · obtain ⟨b1, o1, rfl, hb1, hc1⟩ := HS.out (by have := hl.out; omega)
        have hx0 := hc1 j (by have := hl.out; omega)
        have hn1 := N.textN_next n j (by have := hl.out; omega)
        have hxl := hm.out.at j
        have hsl := N.textN_len (n.take j)
        have hsj := hm.out.size j (by have := hl.out; omega)
        clear hc1
        generalize n.getD j [] = x at hx0 hn1 hxl
        have HN := hide hn1
        clear hn1
        obtain ⟨s, hs, hsd⟩ : ∃ s : ByteArray, (⟨x.toArray⟩ : ByteArray) = s ∧ Hid (s.data.toList = x) := ⟨_, rfl, rfl⟩
        have hsz : s.size ≤ x.length := by rw [← hs]; exact Nat.le_refl _
        have hsz' : x.length ≤ s.size := by rw [← hs]; exact Nat.le_refl _
        rw [hs] at hx0
        have HX0 := hide hx0
        clear hs hx0
        go_wp2
        go_loopw [3, 5] (fun v i wr => ∃ k : Nat, i = .int .i64 (k : Int) ∧ k ≤ s.size ∧ OwnB wr w.heap.size v (N.textN (n.take j) ++ N.textL (x.take k)) ∧ Below w.heap.size w wr) (fun _ i _ => s.size - (intOf i).toNat)
        case atStart => exact ⟨0, rfl, by omega, (by simpa [N.textL] using hO), hB⟩
        case round =>
          clear hO hB hz
          obtain ⟨k, rfl, hk, hO, hB⟩ := hrel
          have hz := hB.size
          have hx := (hB.cell (p := ⟨b1, o1 + j, none⟩) hb1).trans HX0.out
          have htl := N.textL_len (x.take k)
          have htk : (x.take k).length ≤ 300 := by rw [List.length_take]; omega
          have hbound : (N.textN (n.take j) ++ N.textL (x.take k)).length ≤ 1000000 := by rw [List.length_append]; omega
          by_cases hkl : k < s.size
          · have hxs : s[k]'hkl = x.getD k 0 := by rw [← hsd.out]; exact str_at s k hkl
            have hn2 := N.textL_next x k (by omega)
            generalize x.getD k 0 = c at hxs hn2
            have HN2 := hide hn2
            clear hn2
            have hc := c.toNat_lt
            by_cases h1 : c.toNat = 46 ∨ c.toNat = 92
            · rw [N.esc_dot h1] at HN2
              rcases h1 with h1 | h1
              all_goals
                have hci : (c.toNat : Int) = _ := congrArg Nat.cast h1
                go_wp2_with (at_builtin; refine wpList_append_B rfl (.tmp 42) (.tmp 44) rfl w.heap.size _ _ rfl (by exact hO.alloc _) _ _ _ [92, c] rfl rfl (SlL.two _ _ _ _ _ _ (by rfl) (by first | rfl | omega)) (by simp) (by omega) (by simp; omega) ?_; intro v4 w4 hO4 hG4; have hB4 := grown_below (hO.alloc _) hG4 (hB.alloc hz _) (by simp; omega); clear hG4 hO)
                go_roundw
                case rel => exact ⟨k + 1, by go_num, by omega, (by rw [HN2.out, ← List.append_assoc]; exact hO4), hB4⟩
                case measure => simp [intOf]; omega
            · have e1 : ((c.toNat : Int) == 46) = false := by simp; omega
              have e2 : ((c.toNat : Int) == 92) = false := by simp; omega
              by_cases h2 : c.toNat < 33 ∨ 126 < c.toNat
              · rw [N.esc_num h2] at HN2
                rcases h2 with h2 | h2
                all_goals
                  go_wp2_with (at_builtin; refine wpList_append_B rfl (.tmp 53) (.tmp 64) rfl w.heap.size _ _ rfl (by exact hO.alloc _) _ _ _ [92, UInt8.ofNat (48 + c.toNat / 100), UInt8.ofNat (48 + c.toNat / 10 % 10), UInt8.ofNat (48 + c.toNat % 10)] rfl rfl (SlL.four _ _ _ _ _ _ _ _ _ _ (by rfl) (by rw [UInt8.toNat_ofNat']; omega) (by rw [UInt8.toNat_ofNat']; omega) (by rw [UInt8.toNat_ofNat']; omega)) (by simp) (by omega) (by simp; omega) ?_; intro v4 w4 hO4 hG4; have hB4 := grown_below (hO.alloc _) hG4 (hB.alloc hz _) (by simp; omega); clear hG4 hO)
                  go_roundw
                  case rel => exact ⟨k + 1, by go_num, by omega, (by rw [HN2.out, ← List.append_assoc]; exact hO4), hB4⟩
                  case measure => simp [intOf]; omega
              · rw [N.esc_own (by omega) (by omega) (by omega) (by omega)] at HN2
                go_wp2_with (at_builtin; refine wpList_append_B rfl (.tmp 31) (.tmp 33) rfl w.heap.size _ _ rfl (by exact hO.alloc _) _ _ _ [c] rfl rfl (SlL.oneI _ _ _ _ (by rfl)) (by simp) (by omega) (by simp; omega) ?_; intro v4 w4 hO4 hG4; have hB4 := grown_below (hO.alloc _) hG4 (hB.alloc hz _) (by simp; omega); clear hG4 hO)
                go_roundw
                case rel => exact ⟨k + 1, by go_num, by omega, (by rw [HN2.out, ← List.append_assoc]; exact hO4), hB4⟩
                case measure => simp [intOf]; omega
          · obtain rfl : k = s.size := by omega
            go_wp2_with (at_builtin; refine wpList_append_B rfl (.tmp 66) (.tmp 67) rfl w.heap.size _ _ rfl (by exact hO.alloc _) _ _ _ [46] rfl rfl (SlL.oneI _ _ _ _ (by rfl)) (by simp) (by omega) (by simp; omega) ?_; intro v4 w4 hO4 hG4; have hB4 := grown_below (hO.alloc _) hG4 (hB.alloc hz _) (by simp; omega); clear hG4 hO)
            go_roundw
            case rel => exact ⟨j + 1, by go_num, by omega, (by rw [HN.out, ← List.append_assoc]; have e : x.take s.size = x := List.take_of_length_le (by omega); rw [e] at hO4; exact hO4), hB4⟩
            case measure => simp [intOf]; omega
      · obtain rfl : j = len := by omega
        have ht2 : n.take j = n := by rw [← hl.out]; exact List.take_length
        rw [ht2] at hO
        obtain ⟨ao', c', rfl, hSl, _⟩ := hO.open
        have hst := run_str _ c' hSl rfl
        clear hO hSl
        go_wp2
        go_ret
        exact ⟨rfl, hB⟩
end Go.Proofs.YtecikfdnnjinpaaDoor
