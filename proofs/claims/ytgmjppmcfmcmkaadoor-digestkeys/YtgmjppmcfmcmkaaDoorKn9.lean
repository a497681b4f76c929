/- signetlaw9.known answers true. -/
import Derived.Test.YtgmjppmcfmcmkaaDoorHlq
namespace Go.Proofs.YtgmjppmcfmcmkaaDoor
open Go.RowKit
set_option maxRecDepth 5000 in
theorem tag_known : G.tag [1, 0, 3, 253, 9] = 3581 := by decide
set_option maxRecDepth 5000 in
theorem wd_nil : Wd [] := ⟨⟨by simp, by simp⟩, by decide⟩
set_option maxRecDepth 5000 in
theorem wd_a : Wd [[97]] := ⟨⟨by simp, by simp⟩, by decide⟩
set_option maxRecDepth 5000 in
theorem wd_A : Wd [[65]] := ⟨⟨by simp, by simp⟩, by decide⟩
set_option maxRecDepth 5000 in
theorem SlS.oneAt (w : World) (l : List UInt8) (t : TypeId) (b : Nat) (hb : b = w.heap.size) : SlS (w.alloc (.cells #[.string ⟨l.toArray⟩] t)) (some ⟨b, 0, none⟩) [l] := by subst hb; exact SlS.one w l t
set_option maxRecDepth 3000 in
set_option maxHeartbeats 1000000 in
theorem known_any (w : World) (hT : H.Tab w) : Calls Tryd.prog 7 #[] w fun e w' => e = .returned (.bool true) ∧ Below w.heap.size w w' := by
  have hT0 := hT.1
  have hTa : ∀ w1, Below w.heap.size w w1 → H.Tab w1 := fun w1 h => hT.below h hT0
  have HTa := hide hTa
  have b0 := Below.refl w.heap.size w
  have HD0 := hide (SlL.litm w [1, 0, 3, 253, 9] #[.int .u8 1, .int .u8 0, .int .u8 3, .int .u8 253, .int .u8 9] 5 (0, 0) rfl)
  clear hT hTa
  go_enter Tryd.func7, Tryd.ntmps7
  go_wp2_with fail
  refine (downer_any [[97]] [[98]] [] 0 _ _ none 1 1 1 1 0 0 _ rfl rfl rfl (by exact (SlS.oneAt (w.alloc _) [97] 9 _ (by simp)).alloc _) (by exact SlS.oneAt _ [98] 9 _ (by simp)) (SlL.nil _ _) (by simp) (by simp) wd_a (by omega) (by omega) (HTa.out _ (by exact ((b0.alloc (Nat.le_refl _) _).alloc (by simp) _).alloc (by simp; omega) _))).mono ?_
  rintro e w1 ⟨v1, D, hD, rfl, hO1, hB1⟩
  have hb1 : Below w.heap.size w w1 := (((b0.alloc (Nat.le_refl _) _).alloc (by simp) _).alloc (by simp; omega) _).trans (hB1.mono (by simp; omega))
  have HD1 := hide (((HD0.out.alloc _).alloc _).below hB1 (Nat.le_refl _))
  have HD32 := hide hD.len
  obtain ⟨oo, oc, rfl, hs1, hn1, hle1, _⟩ := hO1.open
  have hlen : (B.txt D :: [[98]]).length = 2 := rfl
  rw [hlen] at hle1 ⊢
  obtain ⟨b, o, rfl, hblt, hc⟩ := hs1 (by simp)
  have c0 : w1.cell? ⟨b, o, none⟩ = some (.string ⟨(B.txt D).toArray⟩) := hc 0 (by simp)
  have c1 : w1.cell? ⟨b, o + 1, none⟩ = some (.string ⟨#[98]⟩) := hc 1 (by simp)
  have hz1 := hb1.size
  generalize B.txt D = X at c0 HD32
  clear hs1 hc hO1 hB1 hD hn1 hlen
  go_wp2_with fail
  refine (dtag_any [1, 0, 3, 253, 9] _ 5 5 _ rfl (by exact HD1.out) (by omega)).mono ?_
  rintro e w' ⟨rfl, hw⟩
  rw [hw, tag_known]; clear hw w'
  go_wp2_with fail
  refine (dds_any [] [1, 0, 3, 253, 9] none _ 0 0 5 5 _ rfl rfl (SlS.nil _ _) (by exact HD1.out) (by simp) wd_nil (by omega) (HTa.out _ hb1)).mono ?_
  rintro e w2 ⟨v2, rfl, hO2, hB2⟩
  obtain ⟨do', dc, rfl, _, _, hle2, _⟩ := hO2.open
  rw [G.ds_len] at hle2 ⊢
  have hb2 : Below w.heap.size w w2 := hb1.trans (hB2.mono hz1)
  have c02 := (hB2.cell (p := ⟨b, o, none⟩) hblt).trans c0
  have c12 := (hB2.cell (p := ⟨b, o + 1, none⟩) hblt).trans c1
  have hz2 := hb2.size
  have hX : X.toArray.size = 32 := by have := HD32.out; simpa using this
  have hXs : (⟨X.toArray⟩ : ByteArray).size = 32 := hX
  clear hO2 hB2 c0 c1 HD1 hb1
  go_wp2_with fail
  refine (dhash_any [[65]] [] 1 _ none 1 1 0 0 _ rfl rfl (by exact SlS.one w2 [65] 9) (SlL.nil _ _) (by simp) wd_A (by omega) (HTa.out _ (by exact hb2.alloc hz2 _))).mono ?_
  rintro e w3 ⟨rfl, hB3⟩
  have hb3 : Below w.heap.size w w3 := (hb2.alloc hz2 _).trans (hB3.mono (by simp; omega))
  have hz3 := hb3.size
  have hF : G.hsh [[65]] [] (G.rds 1) = G.hsh [[97]] [] (G.rds 1) := hsh_low (by decide) _ _
  rw [hF]
  clear hB3 hF
  go_wp2_with fail
  refine (dhash_any [[97]] [] 1 _ none 1 1 0 0 _ rfl rfl (by exact SlS.one w3 [97] 9) (SlL.nil _ _) (by simp) wd_a (by omega) (HTa.out _ (by exact hb3.alloc hz3 _))).mono ?_
  rintro e w4 ⟨rfl, hB4⟩
  have hb4 : Below w.heap.size w w4 := (hb3.alloc hz3 _).trans (hB4.mono (by simp; omega))
  obtain ⟨F, HF⟩ : ∃ F, Hid (G.hsh [[97]] [] (G.rds 1) = F) := ⟨_, rfl⟩
  rw [HF.out]
  clear hB4
  go_wp2_with (refine H.wpList_eql_Bg rfl 33 33 (.tmp 36) (.tmp 38) rfl 20 F Tryd.underlying33 guard33 rfl rfl ?_)
  go_ret
  exact ⟨rfl, hb4⟩
end Go.Proofs.YtgmjppmcfmcmkaaDoor
