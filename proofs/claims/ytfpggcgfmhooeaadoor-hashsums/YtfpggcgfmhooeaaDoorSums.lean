/- The law HashSums returns true, for every slice of bytes and every number, and turns nothing that was there. -/
import Derived.Test.YtfpggcgfmhooeaaDoorEql
import Derived.Test.YtfpggcgfmhooeaaDoorMake
import Derived.Test.YtfpggcgfmhooeaaDoorRef
namespace Go.Proofs.YtfpggcgfmhooeaaDoor
open Go.RowKit
theorem hashSums_long (ao : Option Addr) (n cap : Nat) (m : BitVec 8) (w : World) (hT : Tab w) (hn : 2000 < n) (hm : n ≤ 9223372036854775807) :
    Calls Tryd.prog 3 #[.slice ao n cap, .int .u8 m.toNat] w fun e w' => e = .returned (.bool true) ∧ Below w.heap.size w w' := by
  go_enter Tryd.func3, Tryd.ntmps3
  go_wp2_with (go_at_call 7; refine (known_any _ (by exact hT)).mono ?_; rintro e w1 ⟨rfl, hB1⟩)
  go_ret
  exact ⟨rfl, hB1⟩
set_option maxRecDepth 3000 in
set_option maxHeartbeats 1000000 in
theorem hashSums_walk (bs : List (BitVec 8)) (ao : Option Addr) (n cap : Nat) (m : BitVec 8) (w : World) (hl : Hid (bs.length = n)) (hs : SlL w ao bs) (hnil : ao = none → cap = 0) (hc : n ≤ cap) (hT : Tab w) (hn : n ≤ 2000) :
    Calls Tryd.prog 3 #[.slice ao n cap, .int .u8 m.toNat] w fun e w' => e = .returned (.bool true) ∧ Below w.heap.size w w' := by
  have HS := hide hs
  have HN := hide hnil
  have hT0 := hT.1
  clear hs hnil
  go_enter Tryd.func3, Tryd.ntmps3
  go_wp2_with (first
    | (go_at_call 7; refine (known_any _ (by exact hT)).mono ?_; rintro e w1 ⟨rfl, hB1⟩; have hz1 := hB1.size; have hs1 := HS.out.below hB1 (Nat.le_refl _))
    | (at_builtin; refine wpList_append_B rfl (.const (.slice none 0 0)) (.tmp 11) rfl w.heap.size (.slice none 0 0) [] rfl (OwnB.nil _ _) ao n cap bs rfl hl.out hs1 HN.out (by simp; omega) hz1 ?_; intro v2 w2 hO2 hG2; have hB2 := grown_below (OwnB.nil w1 w.heap.size) hG2 hB1 hz1; have hz2 := hB2.size; clear hG2 hs1)
    | (at_builtin; refine wpList_append_make rfl (.tmp 12) (.tmp 14) rfl w.heap.size v2 _ rfl hO2 m.toNat rfl (by omega) (by have := hl.out; simp; omega) hz2 ?_; intro v3 w3 hO3 hG3; have hB3 := grown_below hO2 hG3 hB2 hz2; clear hG3 hO2 hB2))
  have hz3 := hB3.size
  have hTr := hT.below hB3 hT0
  have hsb := HS.out.below hB3 (Nat.le_refl _)
  rw [List.nil_append] at hO3
  have hcl : (bs ++ List.replicate m.toNat 0).length = n + m.toNat := by rw [List.length_append, List.length_replicate, hl.out]
  obtain ⟨ao', cap', rfl, hsl, hnl, hcc⟩ : ∃ ao' cap', v3 = .slice ao' (n + m.toNat) cap' ∧ SlL w3 ao' (bs ++ List.replicate m.toNat 0) ∧ (ao' = none → cap' = 0) ∧ n + m.toNat ≤ cap' := by
    rcases Nat.eq_zero_or_pos (n + m.toNat) with h0 | h0
    · have h3 : w3.ownsRow w.heap.size 5 1 v3 _ _ := hO3
      rcases h3.2 with ⟨rfl, _⟩ | ⟨g, c, cur, rfl, _, _, h4, _⟩
      · exact ⟨none, 0, by rw [h0], fun h => by omega, fun _ => rfl, by omega⟩
      · exact ⟨_, c, by rw [hcl], fun h => by omega, fun h => (by cases h), by omega⟩
    · obtain ⟨g, c, rfl, _, h4, _, _, _⟩ := hO3.form (by omega)
      have h5 := hO3.sl
      rw [hcl] at h4
      exact ⟨_, c, by rw [hcl], h5, fun h => (by cases h), h4⟩
  generalize bs ++ List.replicate m.toNat 0 = cs at hsl hcl
  have HCL := hide hcl
  have hsp := hsl.pad
  rw [hcl] at hsp
  have HNL := hide hnl
  clear hcl hO3 hnl
  go_wp2_with fail
  refine (sum_any cs _ (n + m.toNat) cap' _ HCL (by exact hsp) hcc (by omega) (by exact hTr)).mono ?_
  rintro e w4 ⟨rfl, hB4⟩
  have hb4 := hB3.trans (hB4.mono hz3)
  have hs4 := hsl.below hB4 (Nat.le_refl _)
  have hz4 := hb4.size
  clear hB4 hsl hsp hB3 hTr hz3
  go_wp2_with fail
  refine (ref_any cs _ (n + m.toNat) cap' _ HCL (by exact hs4) HNL.out (by omega)).mono ?_
  rintro e w5 ⟨rfl, hB5⟩
  have hb5 := hb4.trans (hB5.mono hz4)
  have hz5 := hb5.size
  have hTr5 := hT.below hb5 hT0
  have hs5 := HS.out.below hb5 (Nat.le_refl _)
  have hs5p := hs5.pad
  rw [hl.out] at hs5p
  clear hB5 hb4 hz4 hs4 hsb
  go_wp2_with (refine wpList_eql_B rfl 24 24 (.tmp 17) (.tmp 19) rfl 32 (Sha.digB (Sha.run (Sha.padF cs) (Sha.nb (n + m.toNat)))) Tryd.underlying24 guard24 rfl rfl ?_)
  refine (sum_any bs _ n cap _ hl (by exact hs5p) hc (by omega) (by exact hTr5)).mono ?_
  rintro e w6 ⟨rfl, hB6⟩
  have hb6 := hb5.trans (hB6.mono hz5)
  have hz6 := hb6.size
  have hs6 := HS.out.below hb6 (Nat.le_refl _)
  clear hB6 hb5 hz5 hTr5 hs5 hs5p
  go_wp2_with fail
  refine (ref_any bs _ n cap _ hl (by exact hs6) HN.out (by omega)).mono ?_
  rintro e w7 ⟨rfl, hB7⟩
  have hb7 := hb6.trans (hB7.mono hz6)
  clear hB7 hb6 hs6
  go_wp2_with (refine wpList_eql_Bg rfl 24 24 (.tmp 23) (.tmp 25) rfl 32 (Sha.digB (Sha.run (Sha.padF bs) (Sha.nb n))) Tryd.underlying24 guard24 rfl rfl ?_)
  go_ret
  exact ⟨rfl, hb7⟩
end Go.Proofs.YtfpggcgfmhooeaaDoor
