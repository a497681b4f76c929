/- The law DigestTags. -/
import Derived.Test.YtgmjppmcfmcmkaaDoorKn9
namespace Go.Proofs.YtgmjppmcfmcmkaaDoor
open Go.RowKit
set_option maxRecDepth 3000 in
set_option maxHeartbeats 1000000 in
theorem tags_walk (n : List (List UInt8)) (data : List UInt8) (ao bo : Option Addr) (len cap m c : Nat) (w : World) (hT : H.Tab w) (hl : Hid (n.length = len)) (hm : Hid (data.length = m)) (hs : SlS w ao n) (hd : SlL w bo data) (hn : bo = none → c = 0) (hlm : len ≤ 9223372036854775807) (hmm : m ≤ 9223372036854775807) :
    Calls Tryd.prog 3 #[.slice ao len cap, .slice bo m c] w fun e w' => e = .returned (.bool true) ∧ Below w.heap.size w w' := by
  have hT0 := hT.1
  have HTa : Hid (∀ w1, Below w.heap.size w w1 → H.Tab w1) := fun w1 h => hT.below h hT0
  have HS := hide hs
  have HD := hide hd
  have HN := hide hn
  clear hs hd hn
  go_enter Tryd.func3, Tryd.ntmps3
  go_wp2_with fail
  refine (known_any w hT).mono ?_
  rintro e w1 ⟨rfl, hB1⟩
  have hz1 := hB1.size
  rcases Nat.lt_or_ge 3000 m with hbig | h3
  · have q1 : decide (3000 < (m : Int)) = true := by simp; omega
    go_wp2
    go_ret
    exact ⟨rfl, hB1⟩
  have q1 : decide (3000 < (m : Int)) = false := by simp; omega
  have HS1 := hide (HS.out.below hB1 (Nat.le_refl _))
  have HD1 := hide (HD.out.below hB1 (Nat.le_refl _))
  go_wp2_with fail
  refine (light_any n ao len cap _ hl HS1.out hlm).mono ?_
  rintro e w' ⟨t, rfl, hlt, hw⟩
  rw [hw]; clear hw w'
  cases t with
  | false =>
    go_wp2
    go_ret
    exact ⟨rfl, hB1⟩
  | true =>
    have HW := hide (hlt rfl).wd
    clear hlt
    go_wp2_with fail
    refine (dtag_any data bo m c _ hm HD1.out (by omega)).mono ?_
    rintro e w' ⟨rfl, hw⟩
    rw [hw]; clear hw w'
    go_wp2_with fail
    refine (rtag_any data bo m c _ hm HD1.out (by omega)).mono ?_
    rintro e w' ⟨rfl, hw⟩
    rw [hw]; clear hw w'
    go_wp2_with fail
    refine (dds_any n data ao bo len cap m c _ hl hm HS1.out HD1.out HN.out HW (by omega) (HTa.out _ hB1)).mono ?_
    rintro e w2 ⟨v2, rfl, hO2, hB2⟩
    have hb2 : Below w.heap.size w w2 := hB1.trans (hB2.mono hz1)
    have hz2 := hb2.size
    have HS2 := hide (HS.out.below hb2 (Nat.le_refl _))
    have HD2 := hide (HD.out.below hb2 (Nat.le_refl _))
    obtain ⟨a2, c2, rfl, hs2, _, _, _⟩ := hO2.open
    rw [G.ds_len]
    clear hO2 hB2 HS1 HD1
    go_wp2_with fail
    refine (rds_any n data ao bo len cap m c _ hl hm HS2.out HD2.out HN.out HW (by omega)).mono ?_
    rintro e w3 ⟨v3, rfl, hO3, hB3⟩
    have hb3 : Below w.heap.size w w3 := hb2.trans (hB3.mono hz2)
    have HS3 := hide (hs2.below hB3 (Nat.le_refl _))
    obtain ⟨a3, c3, rfl, hs3, _, _, _⟩ := hO3.open
    rw [G.ds_len]
    have HS4 := hide hs3
    clear hO3 hB3 HS2 HD2 hs2 hs3
    go_wp2_with fail
    refine (bytes_same (G.ds n data) a2 a3 36 36 c2 c3 _ HS3.out HS4.out (G.ds_len _ _) (G.ds_len _ _)).mono ?_
    rintro e w' ⟨rfl, hw⟩
    rw [hw]; clear hw w'
    go_wp2
    go_ret
    exact ⟨rfl, hb3⟩
end Go.Proofs.YtgmjppmcfmcmkaaDoor
