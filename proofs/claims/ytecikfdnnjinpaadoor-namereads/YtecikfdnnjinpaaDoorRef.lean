/- signetref3's small letters, Check, Wire; signethelp's LightName, Bytes. -/
import Derived.Test.YtecikfdnnjinpaaDoorLower
import Derived.Test.YtecikfdnnjinpaaDoorHelp
namespace Go.Proofs.YtecikfdnnjinpaaDoor
open Go.RowKit
def Light (n : List (List UInt8)) : Prop := n.length ≤ 200 ∧ ∀ l ∈ n, l.length ≤ 300
theorem Light.small {n : List (List UInt8)} (h : Light n) : N.Small n := ⟨by have := h.1; omega, fun l hl => by have := h.2 l hl; omega⟩
theorem N.Small.sane {n : List (List UInt8)} (h : N.Small n) : Sane n := fun l hl => by have := h.2 l hl; omega
set_option maxRecDepth 3000 in
theorem light_any (n : List (List UInt8)) (ao : Option Addr) (len cap : Nat) (w : World) (hl : Hid (n.length = len)) (hs : SlS w ao n) (hm : len ≤ 9223372036854775807) :
    Calls Tryd.prog 15 #[.slice ao len cap] w fun e w' => ∃ t, e = .returned (.bool t) ∧ (t = true → Light n) ∧ w' = w := by
  have HS := hide hs
  clear hs
  rcases Nat.lt_or_ge 200 len with h127 | h127
  · go_enter Tryd.func15, Tryd.ntmps15
    go_wp2
    go_ret
    exact ⟨false, rfl, fun h => (by cases h), rfl⟩
  · go_enter Tryd.func15, Tryd.ntmps15
    go_wp2
    go_loopw [3, 4] (fun a i wr => ∃ (j sz : Nat), i = .int .i64 (j : Int) ∧ a = .int .i64 (sz : Int) ∧ j ≤ len ∧ sz ≤ j * 300 ∧ Hid (∀ l ∈ n.take j, l.length ≤ 300) ∧ wr = w) (fun _ i _ => len - (intOf i).toNat)
    case atStart => exact ⟨0, 0, rfl, rfl, by omega, by omega, (fun l hl => by simp at hl), rfl⟩
    case round =>
      obtain ⟨j, sz, rfl, rfl, hj, hsz, HE, rfl⟩ := hrel
      by_cases hlt : j < len
      · obtain ⟨b1, o1, rfl, _, hc1⟩ := HS.out (by have := hl.out; omega)
        have hx := hc1 j (by have := hl.out; omega)
        have ht := N.take_nextN n j (by have := hl.out; omega)
        clear hc1
        generalize n.getD j [] = x at hx ht
        have HT := hide ht
        clear ht
        rcases Nat.lt_or_ge 300 x.length with h63 | h63
        · go_wp2
          go_ret
          exact ⟨false, rfl, fun h => (by cases h), rfl⟩
        · go_wp2
          go_roundw
          case rel => exact ⟨j + 1, sz + x.length, by go_num, by go_num, by omega, by omega, (by rw [HT.out]; intro l hl; rcases List.mem_append.1 hl with h | h; exact HE.out l h; rw [List.mem_singleton.1 h]; exact h63), trivial⟩
          case measure => simp [intOf]; omega
      · obtain rfl : j = len := by omega
        have ht : n.take j = n := by rw [← hl.out]; exact List.take_length
        rw [ht] at HE
        have HLEN := hide hl.out
        clear ht
        go_wp2
        go_ret
        exact ⟨_, rfl, fun _ => ⟨by have := HLEN.out; omega, HE.out⟩, rfl⟩
theorem bytes_same (l : List UInt8) (ao ao' : Option Addr) (n n' c c' : Nat) (w : World) (hs : SlL w ao l) (hs' : SlL w ao' l) (hl : Hid (l.length = n)) (hl' : Hid (l.length = n')) :
    Calls Tryd.prog 20 #[.slice ao n c, .slice ao' n' c'] w fun e w' => e = .returned (.bool true) ∧ w' = w := by
  have h1 := run_str n c hs hl.out
  have h2 := run_str n' c' hs' hl'.out
  clear hs hs'
  go_enter Tryd.func20, Tryd.ntmps20
  go_wp2
  go_ret
  exact ⟨by simp, rfl⟩
theorem rlow_c (c : UInt8) (w : World) : Calls Tryd.prog 50 #[.int .u8 (c.toNat : Int)] w fun e w' => e = .returned (.int .u8 ((N.low c).toNat : Int)) ∧ w' = w := by
  have hc := c.toNat_lt
  rcases Nat.lt_or_ge c.toNat 65 with h1 | h1
  · rw [N.low_other (Or.inl h1)]
    go_enter Tryd.func50, Tryd.ntmps50
    go_wp2
    go_ret
    exact ⟨rfl, rfl⟩
  · rcases Nat.lt_or_ge 90 c.toNat with h2 | h2
    · rw [N.low_other (Or.inr h2)]
      go_enter Tryd.func50, Tryd.ntmps50
      go_wp2
      go_ret
      exact ⟨rfl, rfl⟩
    · rw [N.low_cap h1 h2]
      go_enter Tryd.func50, Tryd.ntmps50
      go_wp2
      go_ret
      exact ⟨by rw [show ((c.toNat + 32 : Nat) : Int) = (c.toNat : Int) + 32 by omega] <;> rfl, rfl⟩
set_option maxRecDepth 3000 in
theorem rLowText_any (s : ByteArray) (x : List UInt8) (w : World) (hs : Hid (s.data.toList = x)) (hn : s.size ≤ 9223372036854775807) :
    Calls Tryd.prog 43 #[.string s] w fun e w' => e = .returned (.string ⟨(N.lowL x).toArray⟩) ∧ Below w.heap.size w w' := by
  have hsz : s.size ≤ x.length := by rw [← hs.out]; exact Nat.le_refl _
  have hsz' : x.length ≤ s.size := by rw [← hs.out]; exact Nat.le_refl _
  obtain ⟨c, w2, hcv, hW2, hB2, hz2⟩ := conv_own w s x hs.out
  generalize hG : w.heap.size = g at hcv hW2 hz2
  go_enter Tryd.func43, Tryd.ntmps43
  go_wp2
  clear hcv
  go_loopw [4] (fun i wr => ∃ k : Nat, i = .int .i64 (k : Int) ∧ k ≤ s.size ∧ WrB wr g (N.half x k) ∧ Below w.heap.size w wr) (fun i _ => s.size - (intOf i).toNat)
  case atStart => exact ⟨0, rfl, by omega, (by rw [N.half_zero]; exact hW2), hB2⟩
  case round =>
    clear hW2 hB2 hz2
    obtain ⟨k, rfl, hk, hW, hB⟩ := hrel
    by_cases hkl : k < s.size
    · have c0 := hW.cell k (by rw [N.half_len]; omega)
      have f0 := hW.frozen k (by rw [N.half_len]; omega)
      rw [N.half_at x k (by omega)] at c0
      have hn2 := N.half_next x k (by omega)
      generalize x.getD k 0 = y at c0 hn2
      have HN2 := hide hn2
      have HW := hide hW
      clear hn2 hW
      go_wp2_with (go_at_call 50; refine (rlow_c y _).mono ?_; rintro e w5 ⟨rfl, rfl⟩)
      go_roundw
      case rel => exact ⟨k + 1, by go_num, by omega, (by rw [← HN2.out]; exact HW.out.set k (by rw [N.half_len]; omega) _), hB.setCell (by show w.heap.size ≤ g; omega) _⟩
      case measure => simp [intOf]; omega
    · obtain rfl : k = s.size := by omega
      rw [N.half_all x s.size (by omega)] at hW
      have hst := run_str s.size c hW.sl (by rw [N.lowL_len]; omega)
      clear hW
      go_wp2
      go_ret
      exact ⟨rfl, by rw [← hG]; exact hB⟩
set_option maxRecDepth 3000 in
theorem rLower_any (n : List (List UInt8)) (ao : Option Addr) (len cap : Nat) (w : World) (hl : Hid (n.length = len)) (hs : SlS w ao n) (hm : Hid (N.Small n)) :
    Calls Tryd.prog 24 #[.slice ao len cap] w fun e w' => ∃ v, e = .returned v ∧ OwnS w' w.heap.size v (N.lowN n) ∧ Below w.heap.size w w' := by
  have HS := hide hs
  have hlen : len ≤ 1000000 := by rw [← hl.out]; exact hm.out.1
  clear hs
  go_enter Tryd.func24, Tryd.ntmps24
  go_wp2
  go_loopw [3, 4] (fun v i wr => ∃ j : Nat, i = .int .i64 (j : Int) ∧ j ≤ len ∧ OwnS wr w.heap.size v (N.lowN (n.take j)) ∧ Below w.heap.size w wr) (fun _ i _ => len - (intOf i).toNat)
  case atStart => exact ⟨0, rfl, by omega, OwnS.nil _ _, Below.refl _ _⟩
  case round =>
    obtain ⟨j, rfl, hj, hO, hB⟩ := hrel
    have hz := hB.size
    by_cases hlt : j < len
    · obtain ⟨b1, o1, rfl, hb1, hc1⟩ := HS.out (by have := hl.out; omega)
      have hx := (hB.cell (p := ⟨b1, o1 + j, none⟩) hb1).trans (hc1 j (by have := hl.out; omega))
      have hn1 : N.lowN (n.take (j + 1)) = N.lowN (n.take j) ++ [N.lowL (n.getD j [])] := by rw [N.take_nextN n j (by have := hl.out; omega)]; simp [N.lowN]
      have hxl := hm.out.at j
      have hll : (N.lowN (n.take j)).length ≤ 1000000 := by rw [N.lowN_len, List.length_take]; omega
      clear hc1
      generalize n.getD j [] = x at hx hn1 hxl
      have HN := hide hn1
      have HO := hide hO
      clear hn1 hO
      go_wp2_with (first
        | (go_at_call 43; refine (rLowText_any ⟨x.toArray⟩ x _ rfl (by show x.length ≤ _; omega)).mono ?_; rintro e w3 ⟨rfl, hB3⟩; have hb3 := hB.trans (hB3.mono hz); have hz3 := hb3.size; have HO3 := hide (HO.out.below hB3); clear HO)
        | (at_builtin; refine wpList_append_S rfl (.tmp 11) (.tmp 17) rfl w.heap.size _ _ rfl (by exact HO3.out.alloc _) _ _ _ [N.lowL x] rfl rfl (SlS.one _ _ _) (by simp; omega) (by simp; omega) ?_; intro v4 w4 hO4 hG4; have hB4 := grown_belowS (HO3.out.alloc _) hG4 (hb3.alloc hz3 _) (by simp; omega); clear hG4))
      go_roundw
      case rel => exact ⟨j + 1, by go_num, by omega, (by rw [HN.out]; exact hO4), hB4⟩
      case measure => simp [intOf]; omega
    · obtain rfl : j = len := by omega
      go_wp2
      go_ret
      refine ⟨_, rfl, ?_, hB⟩
      have ht : n.take j = n := by rw [← hl.out]; exact List.take_length
      rw [ht] at hO
      exact hO
theorem rWild_any (a : List (List UInt8)) (ao : Option Addr) (la ca : Nat) (w : World) (hla : Hid (a.length = la)) (hsa : SlS w ao a) :
    Calls Tryd.prog 26 #[.slice ao la ca] w fun e w' => e = .returned (.bool (wild a)) ∧ w' = w := by
  have HSA := hide hsa
  clear hsa
  by_cases h : 0 < la
  · have hz : wild a = (a.getD 0 [] == [42]) := by
      unfold wild; rw [hla.out, decide_eq_true h, Bool.true_and]
    rw [hz]
    obtain ⟨b1, o1, rfl, _, hc1⟩ := HSA.out (by have := hla.out; omega)
    have hx1 : w.cell? ⟨b1, o1, none⟩ = some (.string ⟨(a.getD 0 []).toArray⟩) := hc1 0 (by have := hla.out; omega)
    clear hc1
    generalize a.getD 0 [] = x at hx1
    go_enter Tryd.func26, Tryd.ntmps26
    go_wp2
    go_ret
    exact ⟨rfl, rfl⟩
  · have hz : wild a = false := by
      unfold wild; rw [hla.out, decide_eq_false h, Bool.false_and]
    rw [hz]
    go_enter Tryd.func26, Tryd.ntmps26
    go_wp2
    go_ret
    exact ⟨rfl, rfl⟩
end Go.Proofs.YtecikfdnnjinpaaDoor
