/- signetref1.pad hands back the padded bytes, in memory of its own. -/
import Derived.Test.YtgmjppmcfmcmkaaDoorBytes
namespace Go.Proofs.YtgmjppmcfmcmkaaDoor
namespace H
open Go.RowKit
def padL (bs : List (BitVec 8)) (z t : Nat) : List (BitVec 8) := bs ++ [0x80] ++ List.replicate z 0 ++ (List.range t).map (Sha.lenB bs.length)
set_option maxRecDepth 5000 in
theorem padL_len (bs : List (BitVec 8)) (z t : Nat) : (padL bs z t).length = bs.length + 1 + z + t := by simp [padL]; omega
set_option maxRecDepth 5000 in
theorem padL_z (bs : List (BitVec 8)) (z : Nat) : padL bs z 0 ++ [0] = padL bs (z + 1) 0 := by
  simp [padL, List.replicate_succ']
set_option maxRecDepth 5000 in
theorem padL_t (bs : List (BitVec 8)) (z t : Nat) : padL bs z t ++ [Sha.lenB bs.length t] = padL bs z (t + 1) := by
  simp [padL, List.range_succ]
set_option maxRecDepth 5000 in
theorem padL_get (bs : List (BitVec 8)) (z j : Nat) (hz : bs.length + 1 + z + 8 = 64 * Sha.nb bs.length) (hj : j < 64 * Sha.nb bs.length) : (padL bs z 8).getD j 0 = Sha.padF bs j := by
  unfold Sha.padF padL
  by_cases h1 : j < bs.length
  · rw [if_pos h1]
    simp [List.getElem?_append, h1]
  · rw [if_neg h1]
    by_cases h2 : j = bs.length
    · rw [if_pos h2]; subst h2
      simp
    · rw [if_neg h2]
      by_cases h3 : 64 * Sha.nb bs.length - 8 ≤ j
      · rw [if_pos h3]
        simp only [List.getD_eq_getElem?_getD]
        rw [List.getElem?_append_right (by simp; omega)]
        simp
        rw [show j - (bs.length + (z + 1)) = j - (64 * Sha.nb bs.length - 8) by omega]
        simp [show j - (64 * Sha.nb bs.length - 8) < 8 by omega]
      · rw [if_neg h3]
        simp only [List.getD_eq_getElem?_getD]
        rw [List.getElem?_append_left (by simp; omega), List.getElem?_append_right (by simp; omega)]
        simp [List.getElem?_replicate]
        split <;> rfl
set_option maxRecDepth 5000 in
theorem lenB_int (n t : Nat) : (n : Int) * 8 / 2 ^ (8 * (7 - t)) % 256 = ((Sha.lenB n t).toNat : Int) := by
  rw [lenB_nat]; simp
set_option maxRecDepth 3000 in
set_option maxHeartbeats 400000 in
theorem pad_any (bs : List (BitVec 8)) (ao : Option Addr) (n cap : Nat) (w : World) (hl : Hid (bs.length = n)) (hs : SlL w ao bs) (hnil : ao = none → cap = 0) (hn : n < 1000000000) :
    Calls Tryd.prog 39 #[.slice ao n cap] w fun e w' => ∃ g c, e = .returned (.slice (some ⟨g, 0, none⟩) (64 * Sha.nb n) c) ∧ 64 * Sha.nb n ≤ c ∧ c ≤ maxLen ∧ w.heap.size ≤ g ∧ g < w'.heap.size ∧ (∀ j, j < 64 * Sha.nb n → w'.cell? ⟨g, j, none⟩ = some (.int .u8 (Sha.padF bs j).toNat)) ∧ Below w.heap.size w w' := by
  have HN : Hid (ao = none → cap = 0) := hnil
  have HS : Hid (SlL w ao bs) := hs
  clear hnil hs
  go_enter Tryd.func39, Tryd.ntmps39
  go_wp2_with (first
    | (at_builtin; refine wpList_append_B rfl (.const (.slice none 0 0)) (.tmp 6) rfl w.heap.size (.slice none 0 0) [] rfl (OwnB.nil _ _) ao n cap bs rfl hl.out (by exact HS.out) HN.out (by simp; omega) (by simp) ?_; intro v1 w1 hO1 hG1; have hb1 := grown_below (OwnB.nil w w.heap.size) hG1 (Below.refl _ _) (Nat.le_refl _); have hz1 := hb1.size; clear hG1)
    | (at_builtin; refine wpList_append_B rfl (.tmp 7) (.tmp 8) rfl w.heap.size v1 _ rfl (hO1.alloc _) _ _ _ [0x80] rfl rfl (SlL.one _ _ _) (by simp) (by have := hl.out; simp; omega) (by simp; omega) ?_; intro v2 w2 hO2 hG2; have hb2 := grown_below (hO1.alloc _) hG2 (hb1.alloc hz1 _) (by simp; omega); clear hG2 hO1))
  have hO3 : OwnB w2 w.heap.size v2 (padL bs 0 0) := by simpa [padL] using hO2
  have hz2 := hb2.size
  clear hO2 hb1 hz1
  go_loopw [3] (fun v wr => ∃ z : Nat, OwnB wr w.heap.size v (padL bs z 0) ∧ Below w.heap.size w wr ∧ n + 1 + z + 8 ≤ 64 * Sha.nb n) (fun v _ => match v with | .slice _ m _ => 64 * Sha.nb n - m | _ => 0)
  case atStart => exact ⟨0, hO3, hb2, by unfold Sha.nb; omega⟩
  case round =>
    clear hO3 hb2 hz2
    obtain ⟨z, hO, hb, hle⟩ := hrel
    have hlen : (padL bs z 0).length = n + 1 + z := by rw [padL_len, hl.out, Nat.add_zero]
    obtain ⟨g, c, rfl, hg1, hg2, hg3, hg4, _⟩ := hO.form (by omega)
    rw [hlen] at hO hg2 ⊢
    have hz := hb.size
    have hmx : n + 1 + z ≤ 9223372036854775807 := by unfold Sha.nb at hle; omega
    by_cases h56 : (n + 1 + z) % 64 = 56
    · have hq : ((((n : Int) + 1 + (z : Int)) % 64) != 56) = false := by simp; omega
      go_wp2_with fail
      go_loopw [3, 5] (fun v i wr => ∃ t : Nat, t ≤ 8 ∧ i = .int .i64 (7 - (t : Int)) ∧ OwnB wr w.heap.size v (padL bs z t) ∧ Below w.heap.size w wr) (fun _ i _ => (intOf i + 1).toNat)
      case atStart => exact ⟨0, by omega, rfl, hO, hb⟩
      case round =>
        clear hO hb hz
        obtain ⟨t, ht, rfl, hO, hb⟩ := hrel
        have hlen : (padL bs z t).length = n + 1 + z + t := by rw [padL_len, hl.out]
        obtain ⟨g, c, rfl, hg1, hg2, hg3, hg4, hcc⟩ := hO.form (by omega)
        rw [hlen] at hO hg2 ⊢
        have hz := hb.size
        by_cases h8 : t < 8
        · clear hcc
          go_wp2_with (at_builtin; refine wpList_append_B rfl (.tmp 25) (.tmp 31) rfl w.heap.size _ (padL bs z t) rfl (by exact hO.alloc _) _ _ _ [Sha.lenB n t] rfl rfl (SlL.oneI _ _ _ _ (lenB_int n t)) (by simp) (by rw [hlen]; unfold Sha.nb at hle; omega) (by simp; omega) ?_; intro v4 w4 hO4 hG4)
          have hb4 := grown_below (hO.alloc _) hG4 (hb.alloc hz _) (by simp; omega)
          have hO5 : OwnB w4 w.heap.size v4 (padL bs z (t + 1)) := by
            have h1 := hl.out
            rw [← h1, padL_t] at hO4; exact hO4
          clear hG4 hO hb hO4
          go_wp2
          go_roundw
          case rel => exact ⟨t + 1, by omega, by go_num, hO5, hb4⟩
          case measure => simp [intOf]; omega
        · have h88 : t = 8 := by omega
          subst h88
          have hnb : n + 1 + z + 8 = 64 * Sha.nb n := by unfold Sha.nb at hle ⊢; omega
          have HNB : Hid (n + 1 + z + 8 = 64 * Sha.nb n) := hnb
          have HC : Hid (∀ j, j < 64 * Sha.nb n → wr.cell? ⟨g, j, none⟩ = some (.int .u8 (Sha.padF bs j).toNat)) := fun j hj => by
            have h1 := hl.out
            rw [hcc j (by omega), padL_get bs z j (by rw [h1]; exact hnb) (by rw [h1]; exact hj)]
          clear hcc hnb hO
          go_wp2
          go_ret
          rw [HNB.out] at hg2 ⊢
          exact ⟨g, c, rfl, hg2, hg3, hg1, hg4, HC.out, hb⟩
    · have hq : ((((n : Int) + 1 + (z : Int)) % 64) != 56) = true := by simp; omega
      go_wp2_with (at_builtin; refine wpList_append_B rfl (.tmp 14) (.tmp 15) rfl w.heap.size _ (padL bs z 0) rfl (by exact hO.alloc _) _ _ _ [0] rfl rfl (SlL.one _ _ _) (by simp) (by rw [hlen]; unfold Sha.nb at hle; omega) (by simp; omega) ?_; intro v4 w4 hO4 hG4)
      have hb4 := grown_below (hO.alloc _) hG4 (hb.alloc hz _) (by simp; omega)
      rw [padL_z] at hO4
      have hlen4 : (padL bs (z + 1) 0).length = n + 1 + (z + 1) := by rw [padL_len, hl.out, Nat.add_zero]
      clear hG4 hO hb
      go_wp2
      go_roundw
      case rel => exact ⟨z + 1, hO4, hb4, by unfold Sha.nb at hle ⊢; omega⟩
      case measure =>
        obtain ⟨g4, c4, rfl, _⟩ := hO4.form (by omega)
        rw [hlen4]
        show 64 * Sha.nb n - (n + 1 + (z + 1)) < 64 * Sha.nb n - (n + 1 + z)
        omega
end H
end Go.Proofs.YtgmjppmcfmcmkaaDoor
