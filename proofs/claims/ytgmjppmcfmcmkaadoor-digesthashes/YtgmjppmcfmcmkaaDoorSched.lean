/- hash.schedule hands back the words of the block that its slice begins with, and turns nothing that was there. -/
import Derived.Test.YtgmjppmcfmcmkaaDoorInv
import Derived.Deep.RegionWith
namespace Go.Proofs.YtgmjppmcfmcmkaaDoor
namespace H
open Go.RowKit
set_option maxRecDepth 5000 in
theorem info44 : (Tryd.prog.info? 61).map (·.size) = some 64 := by kernel_rfl
set_option maxRecDepth 3000 in
set_option maxHeartbeats 400000 in
theorem sched_any (p : Nat → BitVec 8) (b o n cap : Nat) (w : World) (hn : 64 ≤ n) (hm : n ≤ 9223372036854775807) (hb : b < w.heap.size)
    (hc : ∀ j, j < 64 → w.cell? ⟨b, o + j, none⟩ = some (.int .u8 (p j).toNat)) :
    Calls Tryd.prog 43 #[.slice (some ⟨b, o, none⟩) n cap] w fun e w' => e = .returned (.agg (rowW 64 (Sha.ws (Sha.mw p 0)))) ∧ Below w.heap.size w w' := by
  go_enter Tryd.func43, Tryd.ntmps43
  go_wp2
  go_loopw [10] (fun i wr => ∃ k : Nat, k ≤ 16 ∧ i = .int .i64 k ∧ Own w.heap.size w wr w.heap.size 61 64 0 (fw (Sha.ws (Sha.mw p 0))) ∧ Own w.heap.size w wr (w.heap.size + 1) 61 64 k (fw (Sha.ws (Sha.mw p 0)))) (fun i _ => 16 - (intOf i).toNat)
  case atStart => exact ⟨0, by omega, rfl, own_fst _ _ _ _ _, own_snd _ _ _ _ _⟩
  case round =>
    obtain ⟨k, hk, rfl, hO0, hO⟩ := hrel
    by_cases hlt : k < 16
    · have c0 : wr.cell? ⟨b, o + 4 * k, none⟩ = some (.int .u8 (p (4 * k)).toNat) := (hO.below.cell (p := ⟨b, _, none⟩) hb).trans (hc _ (by omega))
      have c1 : wr.cell? ⟨b, o + (4 * k + 1), none⟩ = some (.int .u8 (p (4 * k + 1)).toNat) := (hO.below.cell (p := ⟨b, _, none⟩) hb).trans (hc _ (by omega))
      have c2 : wr.cell? ⟨b, o + (4 * k + 2), none⟩ = some (.int .u8 (p (4 * k + 2)).toNat) := (hO.below.cell (p := ⟨b, _, none⟩) hb).trans (hc _ (by omega))
      have c3 : wr.cell? ⟨b, o + (4 * k + 3), none⟩ = some (.int .u8 (p (4 * k + 3)).toNat) := (hO.below.cell (p := ⟨b, _, none⟩) hb).trans (hc _ (by omega))
      obtain ⟨v, hv⟩ := hO.some k (by omega)
      have hf := hO.frozen k
      clear hc
      go_wp2
      go_region
      go_wp2
      go_roundw
      case rel =>
        refine ⟨k + 1, by omega, by go_num, ?_, ?_⟩
        · exact (hO0.set ⟨w.heap.size + 1, k, none⟩ _ (by simp) (by simp)).drew
        · rw [w_be]
          have hh := hO.step (by omega) (by omega)
          have e1 : fw (Sha.ws (Sha.mw p 0)) k = .int .u32 ((Sha.be (p (4 * k)) (p (4 * k + 1)) (p (4 * k + 2)) (p (4 * k + 3))).toNat : Int) := by
            unfold fw; rw [Sha.ws_lo _ _ hlt, Sha.mw]; simp only [Nat.zero_add]
          rw [e1] at hh
          exact hh.drew
      case measure => simp [intOf]; omega
    · go_wp2
      go_loopw [5] (fun i wr => ∃ k : Nat, 16 ≤ k ∧ k ≤ 64 ∧ i = .int .i64 k ∧ Own w.heap.size w wr w.heap.size 61 64 0 (fw (Sha.ws (Sha.mw p 0))) ∧ Own w.heap.size w wr (w.heap.size + 1) 61 64 k (fw (Sha.ws (Sha.mw p 0)))) (fun i _ => 64 - (intOf i).toNat)
      case atStart => exact ⟨16, by omega, by omega, rfl, hO0, by have e : k = 16 := by omega
                                                                  rw [e] at hO; exact hO⟩
      case round =>
        clear hO0 hO hlt hk
        obtain ⟨k, hk0, hk, rfl, hO0, hO⟩ := hrel
        by_cases hlt : k < 64
        · have c2 : wr.cell? ⟨w.heap.size + 1, k - 2, none⟩ = some (.int .u32 (Sha.ws (Sha.mw p 0) (k - 2)).toNat) := hO.cell _ (by omega)
          have c7 : wr.cell? ⟨w.heap.size + 1, k - 7, none⟩ = some (.int .u32 (Sha.ws (Sha.mw p 0) (k - 7)).toNat) := hO.cell _ (by omega)
          have c15 : wr.cell? ⟨w.heap.size + 1, k - 15, none⟩ = some (.int .u32 (Sha.ws (Sha.mw p 0) (k - 15)).toNat) := hO.cell _ (by omega)
          have c16 : wr.cell? ⟨w.heap.size + 1, k - 16, none⟩ = some (.int .u32 (Sha.ws (Sha.mw p 0) (k - 16)).toNat) := hO.cell _ (by omega)
          obtain ⟨v, hv⟩ := hO.some k (by omega)
          have hf := hO.frozen k
          clear hc
          go_wp2
          go_region
          go_wp2_with (go_at_call 44; refine (rot_any _ _ _ (by decide)).mono ?_; rintro e w' ⟨rfl, rfl⟩)
          go_region
          go_wp2
          go_roundw
          case rel =>
            refine ⟨k + 1, by omega, by omega, by go_num, ?_, ?_⟩
            · exact (hO0.set ⟨w.heap.size + 1, k, none⟩ _ (by simp) (by simp)).drew.drew
            · rw [w_shr3, w_shr10, w_xor, w_xor, w_xor, w_xor, w_sum4]
              have hh := hO.step (by omega) (by omega)
              rw [show fw (Sha.ws (Sha.mw p 0)) k = .int .u32 ((Sha.ws (Sha.mw p 0) k).toNat : Int) from rfl, Sha.ws_hi _ _ hk0] at hh
              exact hh.drew.drew
          case measure => simp [intOf]; omega
        · have e : k = 64 := by omega
          have hO' : Own w.heap.size w wr (w.heap.size + 1) 61 64 64 (fw (Sha.ws (Sha.mw p 0))) := by rw [e] at hO; exact hO
          have hR := hO'.wholeW
          obtain ⟨c0, hR0, hs0, _⟩ := hO0.row
          have hB := hO0.below
          clear hO hO' hO0 e hc
          go_wp2_with (first
            | (refine wpList_load_rowAt rfl 61 (.tmp 3) rfl (w.heap.size + 1) rfl 61 (rowW 64 (Sha.ws (Sha.mw p 0))) _ hR Tryd.underlying61 rfl (by rw [rowW_size]; exact info44) ?_)
            | (refine wpList_store_rowAt rfl 61 (.tmp 2) (.tmp 92) rfl w.heap.size (rowW 64 (Sha.ws (Sha.mw p 0))) rfl rfl 61 c0 hR0 (by rw [rowW_size]; exact info44) (by rw [rowW_size]; exact hs0) (rowW_one _ _) ?_))
          exact bodyPost_ret (v := .agg (rowW 64 (Sha.ws (Sha.mw p 0)))) (results_rowAt Tryd.results43 _ _ w.heap.size 61 _ _ rfl (setRow_same hR0 _) Tryd.underlying61 rfl (by rw [rowW_size]; exact info44)) rfl ⟨rfl, below_setRow hB (Nat.le_refl _) _⟩
end H
end Go.Proofs.YtgmjppmcfmcmkaaDoor
