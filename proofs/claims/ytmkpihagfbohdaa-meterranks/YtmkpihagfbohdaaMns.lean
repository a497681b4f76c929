/- The law MeterMeans. -/
import Derived.Test.YtmkpihagfbohdaaKnw
import Derived.Test.YtmkpihagfbohdaaRrw
namespace Go.Proofs.Ytmkpihagfbohdaa
open Go.RowKit
set_option maxRecDepth 5000 in
theorem OwnF.open2 {w : World} {base : Nat} {v : Value} {l : List Nat} (h : OwnF w base v l) : ∃ ao c, v = .slice ao l.length c ∧ SlF w ao l ∧ (ao = none ∨ ∃ b o, ao = some ⟨b, o, none⟩) := by
  have h0 : w.ownsRow base 25 1 v l.length (vf l) := h
  rcases h0.2 with ⟨rfl, hn⟩ | ⟨g, cap, cur, rfl, hb, hg, hc, hm, _, _⟩
  · exact ⟨none, 0, by rw [hn], fun hh => by omega, Or.inl rfl⟩
  · exact ⟨_, cap, rfl, fun hl => ⟨g, 0, rfl, (Array.getElem?_eq_some_iff.1 hg).1, fun j hj => by rw [Nat.zero_add, World.ownsRow.cellAt h0 j (by omega), vf_get l j hj]⟩, Or.inr ⟨g, 0, rfl⟩⟩
set_option maxHeartbeats 2000000 in
set_option maxRecDepth 5000 in
theorem means_walk (l : List Nat) (q : Nat) (ao : Option Addr) (n cap : Nat) (hq : q < 2 ^ 64) (hsm : Small l) (w : World) (hl : Hid (l.length = n)) (hs : SlU w ao l) :
    Calls Try.prog 4 #[.slice ao n cap, .int .u64 (q : Int)] w fun e w' => e = .returned (.bool true) ∧ Below w.heap.size w w' := by
  have hn := hnot
  have hK := known_any w
  have HS := hide hs
  clear hs
  by_cases hn1 : 100 < n
  · have hn2 : (100 : Int) < (n : Int) := by omega
    go_enter Try.func4, Try.ntmps4
    go_wp2_with (go_at_call 9; refine hK.mono ?_; rintro e w1 ⟨rfl, hB⟩)
    go_ret
    exact ⟨rfl, hB⟩
  · have hn2 : ¬ (100 : Int) < (n : Int) := by omega
    go_enter Try.func4, Try.ntmps4
    go_wp2_with (first | (go_at_call 9; refine hK.mono ?_; rintro e w1 ⟨rfl, hB1⟩; clear hK; have hA := all_any l ao n cap w1 hl (HS.out.below hB1 (Nat.le_refl _)) (by omega)) | (go_at_call 15; refine hA.mono ?_; rintro e w2 ⟨v, rfl, hO, hb2⟩; have hB2 := hB1.trans (hb2.mono hB1.size); obtain ⟨a2, c2, rfl, hS2, ha2⟩ := hO.open2; clear hA hb2 hB1 hO; rw [hl.out]; have hM := mean_any l a2 n c2 w2 hl hS2 (by omega); have S2 := hide hS2; clear hS2) | (go_at_call 17; refine hM.mono ?_; rintro e w3 ⟨rfl, q3, hw⟩; have hS3 : SlF w3 a2 l := (by rw [hw]; exact S2.out); have hB3 : Below w.heap.size w w3 := (by rw [hw]; exact below_drewN hB2 q3); clear hw hM S2 hB2; have hM2 := rmean_any l a2 n c2 w3 hl hS3 (by omega); have S3 := hide hS3; clear hS3) | (go_at_call 18; refine hM2.mono ?_; rintro e w4 ⟨rb, rfl, hrb, q4, hw⟩; have hS4 : SlF w4 a2 l := (by rw [hw]; exact S3.out); have hB4 : Below w.heap.size w w4 := (by rw [hw]; exact below_drewN hB3 q4); clear hw hM2 S3 hB3; have hR := rank_any l q a2 n c2 w4 hl hS4 ha2 hsm hq (by omega); have S4 := hide hS4; have HRB := hide hrb; clear hS4 hrb; have hT1 : True := trivial) | (go_at_call 16; have hk := hT1; clear hk hT1; refine (same_any _ _ _).mono ?_; rintro e w' ⟨rfl, hw⟩; rw [hw, F.norm_norm, HRB.out, show ((F.norm (F.mean l) : Int) == (F.norm (F.mean l) : Int)) = true by simp]; clear hw w') | (go_at_call 11; refine (at_any _ _).mono ?_; rintro e w' ⟨rfl, hw⟩; rw [hw, Int.toNat_natCast]; clear hw w') | (go_at_call 19; refine hR.mono ?_; rintro e w5 ⟨rfl, hb5⟩; have hS5 := S4.out.below hb5 (Nat.le_refl _); have hB5 := hB4.trans (hb5.mono hB4.size); clear hR S4 hb5 hB4; have hR2 := rrank_any l q a2 n c2 w5 hl hS5 hsm hq (by omega); clear hS5) | (go_at_call 20; refine hR2.mono ?_; rintro e w6 ⟨rfl, hb6⟩; have hB6 := hB5.trans (hb6.mono hB5.size); clear hR2 hb6 hB5; have hT2 : True := trivial) | (go_at_call 16; have hk := hT2; clear hk hT2; refine (same_any _ _ _).mono ?_; rintro e w' ⟨rfl, hw⟩; rw [hw, show ((F.norm (F.rank l q) : Int) == (F.norm (F.rank l q) : Int)) = true by simp]; clear hw w'))
    go_ret
    exact ⟨rfl, hB6⟩
end Go.Proofs.Ytmkpihagfbohdaa
