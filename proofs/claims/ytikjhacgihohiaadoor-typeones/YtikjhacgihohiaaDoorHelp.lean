/- The statements' helps: Bytes, Types. -/
import Derived.Test.YtikjhacgihohiaaDoorHalf
import Derived.Laws.IdiomStrings
import Derived.Laws.BytesArg
import Derived.Sort.WalkA
namespace Go.Proofs.YtikjhacgihohiaaDoor
open Go.RowKit
theorem run_str {W : World} {ao : Option Addr} {l : List UInt8} (n cap : Nat) (hs : SlL W ao l) (hl : l.length = n) : (convert 29 9 (.slice ao n cap)).run Tryd.prog W = .ok (.string ⟨l.toArray⟩) W := by
  subst hl
  cases ao with
  | none =>
    have h0 : l = [] := by
      rcases Nat.eq_zero_or_pos l.length with h | h
      · exact List.eq_nil_of_length_eq_zero h
      · obtain ⟨b, o, e, _⟩ := hs h; cases e
    subst h0
    exact run_convert_bytes_nil W 29 5 Tryd.underlying29 Tryd.underlying5 0 cap 9 Tryd.underlying9
  | some a =>
    refine run_convert_bytes_back W 29 9 5 a cap l Tryd.underlying29 Tryd.underlying5 Tryd.underlying9 ?_
    intro j hj
    obtain ⟨b, o, e, _, hc⟩ := hs (by omega)
    cases e
    rw [Addr.add_mid, hc j hj]
    simp [hj]
/- a part of a slice of bytes -/
theorem hbytes_any (a b : List UInt8) (ao bo : Option Addr) (n1 c1 n2 c2 : Nat) (w : World) (ha : SlL w ao a) (hb : SlL w bo b) (h1 : Hid (a.length = n1)) (h2 : Hid (b.length = n2)) :
    Calls Tryd.prog 15 #[.slice ao n1 c1, .slice bo n2 c2] w fun e w' => e = .returned (.bool (a == b)) ∧ w' = w := by
  have r1 := run_str n1 c1 ha h1.out
  have r2 := run_str n2 c2 hb h2.out
  clear ha hb
  go_enter Tryd.func15, Tryd.ntmps15
  go_wp2
  go_ret
  exact ⟨rfl, rfl⟩
set_option maxHeartbeats 1600000 in
theorem htypes_any (a b : List UInt16) (ao bo : Option Addr) (n1 c1 n2 c2 : Nat) (w : World) (ha : SlH w ao a) (hb : SlH w bo b) (h1 : Hid (a.length = n1)) (h2 : Hid (b.length = n2)) (hn : n1 ≤ 1000000) :
    Calls Tryd.prog 17 #[.slice ao n1 c1, .slice bo n2 c2] w fun e w' => e = .returned (.bool (decide (a = b))) ∧ Below w.heap.size w w' := by
  by_cases hl : n1 = n2
  · subst hl
    obtain ⟨GA, hGA⟩ : ∃ G : Nat → UInt16, ∀ j, a.getD j 0 = G j := ⟨fun j => a.getD j 0, fun _ => rfl⟩
    obtain ⟨GB, hGB⟩ : ∃ G : Nat → UInt16, ∀ j, b.getD j 0 = G j := ⟨fun j => b.getD j 0, fun _ => rfl⟩
    have HX : Hid ((∀ j, j < n1 → GA j = GB j) ↔ a = b) := by
      show (∀ j, j < n1 → GA j = GB j) ↔ a = b
      constructor
      · intro h
        refine List.ext_getElem (h1.out.trans h2.out.symm) fun j hj1 hj2 => ?_
        have := h j (by rw [← h1.out]; exact hj1)
        rw [← hGA, ← hGB, List.getD_eq_getElem?_getD, List.getElem?_eq_getElem hj1, List.getD_eq_getElem?_getD, List.getElem?_eq_getElem hj2] at this
        exact this
      · rintro rfl j _
        rw [← hGA, ← hGB]
    have en : ((n1 : Int) != (n1 : Int)) = false := by simp
    have HA := hide ha
    have HB := hide hb
    have HGA := hide hGA
    have HGB := hide hGB
    clear ha hb hGA hGB
    go_enter Tryd.func17, Tryd.ntmps17
    go_wp2
    go_loopw [5] (fun u W => ∃ i : Nat, u = .int .i64 (i : Int) ∧ i ≤ n1 ∧ Below w.heap.size w W ∧ ∀ j, j < i → GA j = GB j) (fun u _ => n1 - (intOf u).toNat)
    case atStart => exact ⟨0, rfl, by omega, Below.refl _ _, fun j hj => by omega⟩
    case round =>
      obtain ⟨i, rfl, hi, hB, hall⟩ := hrel
      have HL := hide hall
      clear hall
      by_cases hin : i < n1
      · obtain ⟨b1, o1, rfl, hb1, hc1⟩ := HA.out (by rw [h1.out]; omega)
        obtain ⟨b2, o2, rfl, hb2, hc2⟩ := HB.out (by rw [h2.out]; omega)
        have x1 := (hB.cell (p := ⟨b1, o1 + i, none⟩) hb1).trans (hc1 i (by rw [h1.out]; exact hin))
        have x2 := (hB.cell (p := ⟨b2, o2 + i, none⟩) hb2).trans (hc2 i (by rw [h2.out]; exact hin))
        rw [HGA.out] at x1
        rw [HGB.out] at x2
        have hB2 := fun q : Nat => (⟨hB.os, hB.tape, hB.output, hB.size, hB.block⟩ : Below w.heap.size w (wr.drewN q))
        clear hc1 hc2
        by_cases he : GA i = GB i
        · have e1 : (((GA i).toNat : Int) != ((GB i).toNat : Int)) = false := by rw [he]; simp
          go_wp2
          go_quiet (fail)
          go_wp2
          go_roundw
          case rel => exact ⟨i + 1, by go_num, by omega, hB2 _, fun j hj => by
            rcases Nat.lt_or_ge j i with h | h
            · exact HL.out j h
            · obtain rfl : j = i := by omega
              exact he⟩
          case measure => simp [intOf]; omega
        · have e1 : (((GA i).toNat : Int) != ((GB i).toNat : Int)) = true := by
            have : (GA i).toNat ≠ (GB i).toNat := fun h => he (UInt16.toNat_inj.1 h)
            simp; omega
          have hne : ¬ a = b := fun h => he (HX.out.2 h i hin)
          have HNE : Hid (decide (a = b) = false) := decide_eq_false hne
          clear hne he
          go_wp2
          go_quiet (fail)
          go_wp2
          go_ret
          exact ⟨by rw [HNE.out]; rfl, hB2 _⟩
      · obtain rfl : i = n1 := by omega
        have HEQ : Hid (decide (a = b) = true) := decide_eq_true (HX.out.1 HL.out)
        go_wp2
        go_ret
        exact ⟨by rw [HEQ.out]; rfl, hB⟩
  · have en : ((n1 : Int) != (n2 : Int)) = true := by simp; omega
    have HNE : Hid (decide (a = b) = false) := decide_eq_false fun h => hl (by rw [← h1.out, ← h2.out, h])
    clear ha hb
    go_enter Tryd.func17, Tryd.ntmps17
    go_wp2
    go_ret
    exact ⟨by rw [HNE.out]; rfl, Below.refl _ _⟩
end Go.Proofs.YtikjhacgihohiaaDoor
