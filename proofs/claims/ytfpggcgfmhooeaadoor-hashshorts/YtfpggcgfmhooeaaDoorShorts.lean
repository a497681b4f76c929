/- The law HashShorts returns true, for every tag and every list of slices of bytes, and turns nothing that was there. -/
import Derived.Test.YtfpggcgfmhooeaaDoorEql
import Derived.Test.YtfpggcgfmhooeaaDoorRefShort
namespace Go.Proofs.YtfpggcgfmhooeaaDoor
open Go.RowKit
set_option maxHeartbeats 400000 in
theorem hashShorts_many (tag : BitVec 8) (ao : Option Addr) (n cap : Nat) (w : World) (hT : Tab w) (hn : 20 < n) (hm : n ≤ 9223372036854775807) :
    Calls Tryd.prog 4 #[.int .u8 tag.toNat, .slice ao n cap] w fun e w' => e = .returned (.bool true) ∧ Below w.heap.size w w' := by
  go_enter Tryd.func4, Tryd.ntmps4
  go_wp2_with (go_at_call 7; refine (known_any _ (by exact hT)).mono ?_; rintro e w1 ⟨rfl, hB1⟩)
  go_ret
  exact ⟨rfl, hB1⟩
set_option maxRecDepth 3000 in
set_option maxHeartbeats 1000000 in
theorem hashShorts_walk (tag : BitVec 8) (l : List (List (BitVec 8))) (ao : Option Addr) (n cap : Nat) (w : World) (hl : Hid (l.length = n)) (hs : PartsAt w ao l) (hT : Tab w) (hn : n ≤ 20) (hp : ∀ p ∈ l, p.length ≤ 9223372036854775807) :
    Calls Tryd.prog 4 #[.int .u8 tag.toNat, .slice ao n cap] w fun e w' => e = .returned (.bool true) ∧ Below w.heap.size w w' := by
  have HS := hide hs
  have HP := hide hp
  have hT0 := hT.1
  clear hs hp
  go_enter Tryd.func4, Tryd.ntmps4
  go_wp2_with (go_at_call 7; refine (known_any _ (by exact hT)).mono ?_; rintro e w1 ⟨rfl, hB1⟩)
  have hz1 := hB1.size
  go_loop [5] (fun i => ∃ k : Nat, k ≤ n ∧ i = .int .i64 (k : Int) ∧ Hid (∀ j, j < k → (l.getD j []).length ≤ 300)) (fun i => n - (intOf i).toNat)
  case atStart => exact ⟨0, by omega, rfl, fun j hj => by omega⟩
  case round =>
    obtain ⟨k, hk, rfl, HK⟩ := hrel
    by_cases hlt : k < n
    · have hkl : k < l.length := by have := hl.out; omega
      obtain ⟨b, o, rfl, hb, hc⟩ := HS.out (by omega)
      obtain ⟨a, c, hcell, hsl, hnl, hle⟩ := hc k hkl
      have hcell' : w1.cell? ⟨b, o + k, none⟩ = some (.slice a (l.getD k []).length c) := (hB1.cell (p := ⟨b, o + k, none⟩) hb).trans hcell
      have hbig : (l.getD k []).length ≤ 9223372036854775807 := by
        have : l.getD k [] = l[k] := by simp [hkl]
        rw [this]; exact HP.out _ (by simp)
      have HK2 : Hid ((l.getD k []).length ≤ 300 → ∀ j, j < k + 1 → (l.getD j []).length ≤ 300) := fun h j hj => by
        by_cases e : j = k
        · rw [e]; exact h
        · exact HK.out j (by omega)
      generalize (l.getD k []).length = len at hcell' hbig HK2
      clear hc hcell hsl hnl hle
      by_cases h3 : 300 < len
      · go_wp2
        go_ret
        exact ⟨rfl, hB1⟩
      · go_wp2
        go_round
        case rel => exact ⟨k + 1, by omega, by go_num, HK2.out (by omega)⟩
        case measure => simp [intOf]; omega
    · have hsm : ∀ p ∈ l, p.length ≤ 1000000 := fun p hp => by
        obtain ⟨j, hj, rfl⟩ := List.getElem_of_mem hp
        have h1 := HK.out j (by have := hl.out; omega)
        have : l.getD j [] = l[j] := by simp [hj]
        rw [this] at h1; omega
      have HSM := hide hsm
      have hp1 := HS.out.below hB1 (Nat.le_refl _)
      have hT1 := hT.below hB1 hT0
      clear hsm HK
      go_wp2_with fail
      refine (short_any tag l _ n cap _ hl (by exact hp1) (by omega) HSM.out (by exact hT1)).mono ?_
      rintro e w2 ⟨rfl, hB2⟩
      have hb2 := hB1.trans (hB2.mono hz1)
      have hz2 := hb2.size
      have hp2 := HS.out.below hb2 (Nat.le_refl _)
      clear hB2 hB1 hp1 hT1
      go_wp2_with fail
      refine (refShort_any tag l _ n cap _ hl (by exact hp2) (by omega) HSM.out).mono ?_
      rintro e w3 ⟨rfl, hB3⟩
      have hb3 := hb2.trans (hB3.mono hz2)
      clear hB3 hb2 hp2
      go_wp2_with (refine wpList_eql_B rfl 28 28 (.tmp 25) (.tmp 28) rfl 8 (sumF (tag :: ptext l)) Tryd.underlying28 guard28 rfl rfl ?_)
      go_ret
      exact ⟨rfl, hb3⟩
end Go.Proofs.YtfpggcgfmhooeaaDoor
