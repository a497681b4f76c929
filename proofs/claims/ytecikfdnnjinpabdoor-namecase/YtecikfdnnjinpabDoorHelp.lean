/- signethelp: Name, Bytes of the same things; LightName, RightName: what they say where they say yes. -/
import Derived.Test.YtecikfdnnjinpabDoorKnown
namespace Go.Proofs.YtecikfdnnjinpabDoor
open Go.RowKit
set_option maxRecDepth 3000 in
theorem name_same (n : List (List UInt8)) (ao bo : Option Addr) (la lb ca cb : Nat) (w : World) (hla : Hid (n.length = la)) (hlb : Hid (n.length = lb)) (hsa : SlS w ao n) (hsb : SlS w bo n) (hm : la ≤ 9223372036854775807) :
    Calls Tryd.prog 8 #[.slice ao la ca, .slice bo lb cb] w fun e w' => e = .returned (.bool true) ∧ ∃ m, w' = w.drewN m := by
  have HSA := hide hsa
  have HSB := hide hsb
  obtain rfl : lb = la := by rw [← hla.out, ← hlb.out]
  clear hsa hsb
  go_enter Tryd.func8, Tryd.ntmps8
  go_wp2
  go_loopw [5] (fun i wr => ∃ j : Nat, i = .int .i64 (j : Int) ∧ j ≤ lb ∧ ∃ m, wr = w.drewN m) (fun i _ => lb - (intOf i).toNat)
  case atStart => exact ⟨0, rfl, by omega, 0, rfl⟩
  case round =>
    obtain ⟨j, rfl, hj, hm⟩ := hrel
    have HM := hide hm
    clear hm
    by_cases hlt : j < lb
    · obtain ⟨b1, o1, rfl, _, hc1⟩ := HSA.out (by have := hla.out; omega)
      obtain ⟨b2, o2, rfl, _, hc2⟩ := HSB.out (by have := hla.out; omega)
      have hx1 : wr.cell? ⟨b1, o1 + j, none⟩ = some (.string ⟨(n.getD j []).toArray⟩) := by
        obtain ⟨m, rfl⟩ := HM.out
        exact hc1 j (by have := hla.out; omega)
      have hx2 : wr.cell? ⟨b2, o2 + j, none⟩ = some (.string ⟨(n.getD j []).toArray⟩) := by
        obtain ⟨m, rfl⟩ := HM.out
        exact hc2 j (by have := hla.out; omega)
      clear hc1 hc2
      generalize n.getD j [] = x at hx1 hx2
      have hj1 : (j : Int) < (lb : Int) := by omega
      go_wp2
      go_quiet (fail)
      go_wp2
      go_roundw
      case rel => exact ⟨j + 1, by go_num, by omega, drew_more _ HM.out⟩
      case measure => simp [intOf]; omega
    · go_wp2
      go_ret
      exact ⟨rfl, HM.out⟩
def Right (n : List (List UInt8)) : Prop := n.length ≤ 127 ∧ (∀ l ∈ n, l ≠ [] ∧ l.length ≤ 63) ∧ N.size n ≤ 255
set_option maxRecDepth 3000 in
theorem right_any (n : List (List UInt8)) (ao : Option Addr) (len cap : Nat) (w : World) (hl : Hid (n.length = len)) (hs : SlS w ao n) (hm : len ≤ 9223372036854775807) :
    Calls Tryd.prog 9 #[.slice ao len cap] w fun e w' => ∃ t, e = .returned (.bool t) ∧ (t = true → Right n) ∧ w' = w := by
  have HS := hide hs
  clear hs
  rcases Nat.lt_or_ge 127 len with h127 | h127
  · go_enter Tryd.func9, Tryd.ntmps9
    go_wp2
    go_ret
    exact ⟨false, rfl, fun h => (by cases h), rfl⟩
  · go_enter Tryd.func9, Tryd.ntmps9
    go_wp2
    go_loopw [3, 4] (fun a i wr => ∃ (j sz : Nat), i = .int .i64 (j : Int) ∧ a = .int .i64 (sz : Int) ∧ j ≤ len ∧ sz ≤ 1 + j * 64 ∧ Hid (sz = N.size (n.take j)) ∧ Hid (∀ l ∈ n.take j, l ≠ [] ∧ l.length ≤ 63) ∧ wr = w) (fun _ i _ => len - (intOf i).toNat)
    case atStart => exact ⟨0, 1, rfl, rfl, by omega, by omega, rfl, (fun l hl => by simp at hl), rfl⟩
    case round =>
      obtain ⟨j, sz, rfl, rfl, hj, hsz, HZ, HE, rfl⟩ := hrel
      by_cases hlt : j < len
      · obtain ⟨b1, o1, rfl, _, hc1⟩ := HS.out (by have := hl.out; omega)
        have hx := hc1 j (by have := hl.out; omega)
        have hn := N.size_next n j (by have := hl.out; omega)
        have ht := N.take_nextN n j (by have := hl.out; omega)
        clear hc1
        generalize n.getD j [] = x at hx hn ht
        have HN := hide hn
        have HT := hide ht
        clear hn ht
        by_cases hx0 : x = []
        · subst hx0
          go_wp2
          go_ret
          exact ⟨false, rfl, fun h => (by cases h), rfl⟩
        · have hx1 : x.isEmpty = false := by cases x <;> simp_all
          have hx2 : (x == []) = false := by cases x <;> simp_all
          rcases Nat.lt_or_ge 63 x.length with h63 | h63
          · go_wp2
            go_ret
            exact ⟨false, rfl, fun h => (by cases h), rfl⟩
          · go_wp2
            go_roundw
            case rel => exact ⟨j + 1, sz + (x.length + 1), by go_num, by go_num, by omega, by omega, (by show _ = _; rw [HZ.out]; exact HN.out.symm), (by rw [HT.out]; intro l hl; rcases List.mem_append.1 hl with h | h; exact HE.out l h; rw [List.mem_singleton.1 h]; exact ⟨hx0, h63⟩), trivial⟩
            case measure => simp [intOf]; omega
      · obtain rfl : j = len := by omega
        have ht : n.take j = n := by rw [← hl.out]; exact List.take_length
        rw [ht] at HZ HE
        have hlen := hl.out
        have HLEN := hide hlen
        clear ht hlen
        go_wp2
        go_ret
        refine ⟨_, rfl, fun h => ⟨by have := HLEN.out; omega, HE.out, ?_⟩, rfl⟩
        rw [← HZ.out]
        have := of_decide_eq_true h
        omega
end Go.Proofs.YtecikfdnnjinpabDoor
