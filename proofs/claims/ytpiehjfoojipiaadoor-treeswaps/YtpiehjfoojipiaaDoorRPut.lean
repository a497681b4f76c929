/- signetref7.Lock: the lock of whatever bytes. -/
import Derived.Test.YtpiehjfoojipiaaDoorLck
import Derived.Test.YtpiehjfoojipiaaDoorRefShort
import Derived.Test.YtpiehjfoojipiaaDoorOpn
namespace Go.Proofs.YtpiehjfoojipiaaDoor
open Go.RowKit
set_option maxRecDepth 3000 in
set_option maxHeartbeats 1000000 in
theorem rlock_any (p : List (BitVec 8)) (ao : Option Addr) (n cap : Nat) (w : World) (hl : Hid (p.length = n)) (hs : SlL w ao p) (hnil : ao = none → cap = 0) (hc : n ≤ cap) (hn : n ≤ 1000000) :
    Calls Tryd.prog 35 #[.slice ao n cap] w fun e w' => e = .returned (.agg (rowB 8 (O.lock p))) ∧ Below w.heap.size w w' := by
  have hp := parts_one (w.alloc (.cells z8 22)) ao p cap 34 (hs.alloc _) hnil (by rw [hl.out]; exact hc)
  rw [hl.out, show (w.alloc (.cells z8 22)).heap.size = w.heap.size + 1 by simp] at hp
  have hb : Below w.heap.size w ((w.alloc (.cells z8 22)).alloc (.cells #[.slice ao n cap] 34)) := ((Below.refl _ _).alloc (Nat.le_refl _) _).alloc (by simp) _
  have hR := (RowAt.new w 22 z8).alloc (.cells #[.slice ao n cap] 34)
  have HL : Hid (∀ q ∈ [p], q.length ≤ 1000000) := fun q hq => by
    have := hl.out
    simp only [List.mem_singleton] at hq; subst hq; omega
  clear hs hnil
  go_enter Tryd.func35, Tryd.ntmps35
  go_wp2_with fail
  refine (refShort_any 2 [p] _ _ _ _ (by exact rfl) (by exact hp) (by omega) HL.out).mono ?_
  rintro e w1 ⟨rfl, hB1⟩
  have hb1 := hb.trans (hB1.mono (by simp; omega))
  have hR1 : RowAt w1 w.heap.size 22 z8 := RowAt.below hR hB1 (by simp; omega)
  clear hB1 hb hp hR
  go_wp2_with (refine wpList_store_rowAt rfl 22 (.tmp 2) (.tmp 5) rfl w.heap.size _ rfl rfl 22 z8 hR1 (by rw [rowB_size]; exact info28) (by rw [rowB_size]; rfl) (rowB_one _ _) ?_)
  exact bodyPost_ret (v := .agg (rowB 8 (O.lock p))) (results_rowAt Tryd.results35 _ _ w.heap.size 22 _ _ rfl (setRow_same hR1 _) Tryd.underlying22 rfl (by rw [rowB_size]; exact info28)) rfl ⟨rfl, below_setRow hb1 (Nat.le_refl _) _⟩
end Go.Proofs.YtpiehjfoojipiaaDoor

/- signetref3.Put and signetref3.Get at four bytes, signetref7.four, signetref7.Digest. -/
namespace Go.Proofs.YtpiehjfoojipiaaDoor
open Go.RowKit
set_option maxRecDepth 5000 in
theorem len4_take (n k : Nat) (h : k < 4) : (Sha.len4 n).take (k + 1) = (Sha.len4 n).take k ++ [(Sha.len4 n).getD k 0] := by
  rcases (show k = 0 ∨ k = 1 ∨ k = 2 ∨ k = 3 by omega) with rfl | rfl | rfl | rfl <;> rfl
set_option maxRecDepth 3000 in
set_option maxHeartbeats 1000000 in
theorem put4_any (n : Nat) (w : World) (hn : n < 4294967296) :
    Calls Tryd.prog 55 #[.slice none 0 0, .int .u32 (n : Int), .int .i64 4] w fun e w' => ∃ v, e = .returned v ∧ OwnB w' w.heap.size v (Sha.len4 n) ∧ Below w.heap.size w w' := by
  go_enter Tryd.func55, Tryd.ntmps55
  go_wp2
  go_loopw [0, 7] (fun v i wr => ∃ k : Nat, k ≤ 4 ∧ i = .int .i64 (3 - (k : Int)) ∧ OwnB wr w.heap.size v ((Sha.len4 n).take k) ∧ Below w.heap.size w wr) (fun _ i _ => (1 + intOf i).toNat)
  case atStart => exact ⟨0, by omega, rfl, OwnB.nil _ _, Below.refl _ _⟩
  case round =>
    obtain ⟨k, hk, rfl, hO, hB⟩ := hrel
    have hz := hB.size
    by_cases hlt : k < 4
    · obtain ⟨x, HX⟩ : ∃ x, Hid ((Sha.len4 n).getD k 0 = x) := ⟨_, rfl⟩
      have HLE : Hid (((Sha.len4 n).take k).length ≤ 4) := by show _ ≤ _; simp [Sha.len4]; omega
      obtain ⟨b0, b1, b2, b3⟩ := len4_bytes n hn
      have hx : (k = 0 → (n : Int) / 16777216 = (x.toNat : Int)) ∧ (k = 1 → (n : Int) / 65536 % 256 = (x.toNat : Int)) ∧ (k = 2 → (n : Int) / 256 % 256 = (x.toNat : Int)) ∧ (k = 3 → (n : Int) % 256 = (x.toNat : Int)) := by
        have h1 := HX.out
        refine ⟨fun e => ?_, fun e => ?_, fun e => ?_, fun e => ?_⟩ <;> subst e <;> rw [← h1] <;> assumption
      have HT := hide (len4_take n k hlt)
      rw [HX.out] at HT
      clear b0 b1 b2 b3
      rcases (show k = 0 ∨ k = 1 ∨ k = 2 ∨ k = 3 by omega) with rfl | rfl | rfl | rfl
      · have hx0 := hx.1 rfl
        clear hx
        go_wp2_with (at_builtin; refine wpList_append_B rfl (.tmp 14) (.tmp 20) rfl w.heap.size _ _ rfl (hO.alloc _) _ _ _ [x] rfl rfl (SlL.one _ x _) (by simp) (by have := HLE.out; omega) (by simp; omega) ?_; intro v1 w1 hO1 hG1; have hB1 := hB.trans (((Below.refl _ _).alloc hz _).trans (grown_next (hO.alloc _) hG1 (by simp; omega))); clear hG1)
        refine ⟨⟨1, by omega, rfl, by rw [HT.out]; exact hO1, hB1⟩, by simp [intOf]⟩
      · have hx0 := hx.2.1 rfl
        clear hx
        go_wp2_with (at_builtin; refine wpList_append_B rfl (.tmp 14) (.tmp 20) rfl w.heap.size _ _ rfl (hO.alloc _) _ _ _ [x] rfl rfl (SlL.one _ x _) (by simp) (by have := HLE.out; omega) (by simp; omega) ?_; intro v1 w1 hO1 hG1; have hB1 := hB.trans (((Below.refl _ _).alloc hz _).trans (grown_next (hO.alloc _) hG1 (by simp; omega))); clear hG1)
        refine ⟨⟨2, by omega, rfl, by rw [HT.out]; exact hO1, hB1⟩, by simp [intOf]⟩
      · have hx0 := hx.2.2.1 rfl
        clear hx
        go_wp2_with (at_builtin; refine wpList_append_B rfl (.tmp 14) (.tmp 20) rfl w.heap.size _ _ rfl (hO.alloc _) _ _ _ [x] rfl rfl (SlL.one _ x _) (by simp) (by have := HLE.out; omega) (by simp; omega) ?_; intro v1 w1 hO1 hG1; have hB1 := hB.trans (((Below.refl _ _).alloc hz _).trans (grown_next (hO.alloc _) hG1 (by simp; omega))); clear hG1)
        refine ⟨⟨3, by omega, rfl, by rw [HT.out]; exact hO1, hB1⟩, by simp [intOf]⟩
      · have hx0 := hx.2.2.2 rfl
        clear hx
        go_wp2_with (at_builtin; refine wpList_append_B rfl (.tmp 14) (.tmp 20) rfl w.heap.size _ _ rfl (hO.alloc _) _ _ _ [x] rfl rfl (SlL.one _ x _) (by simp) (by have := HLE.out; omega) (by simp; omega) ?_; intro v1 w1 hO1 hG1; have hB1 := hB.trans (((Below.refl _ _).alloc hz _).trans (grown_next (hO.alloc _) hG1 (by simp; omega))); clear hG1)
        refine ⟨⟨4, by omega, rfl, by rw [HT.out]; exact hO1, hB1⟩, by simp [intOf]⟩
    · obtain rfl : k = 4 := by omega
      go_wp2
      go_ret
      exact ⟨_, rfl, hO, hB⟩
set_option maxRecDepth 3000 in
theorem four_any (n : Nat) (w : World) (hn : n < 4294967296) :
    Calls Tryd.prog 47 #[.int .u32 (n : Int)] w fun e w' => ∃ g c, e = .returned (.slice (some ⟨g, 0, none⟩) 4 c) ∧ w.heap.size ≤ g ∧ 4 ≤ c ∧ SlL w' (some ⟨g, 0, none⟩) (Sha.len4 n) ∧ Below w.heap.size w w' := by
  go_enter Tryd.func47, Tryd.ntmps47
  go_wp2_with fail
  refine (put4_any n _ hn).mono ?_
  rintro e w1 ⟨v, rfl, hO, hB⟩
  obtain ⟨g, c, rfl, hg, hc, _, _, _⟩ := hO.form (by simp [Sha.len4])
  have hs := hO.sl
  go_wp2
  go_ret
  exact ⟨g, c, rfl, hg, hc, hs, hB⟩
def gv (F : Nat → BitVec 8) : Nat → BitVec 32
  | 0 => 0
  | k + 1 => (gv F k <<< 8) ||| (F k).setWidth 32
set_option maxRecDepth 5000 in
theorem gv_step (F : Nat → BitVec 8) (k : Nat) : bits .or .u32 (((gv F k).toNat : Int) * 256 % 4294967296) ((F k).toNat : Int) = ((gv F (k + 1)).toNat : Int) := by
  have h1 := w_shl (gv F k) 8
  rw [show ((2 ^ 8 : Nat) : Int) = 256 from by decide] at h1
  have h2 : ((F k).toNat : Int) = (((F k).setWidth 32).toNat : Int) := by rw [BitVec.toNat_setWidth]; omega
  rw [h1, h2, w_or]; rfl
set_option maxRecDepth 5000 in
theorem gv_be (F : Nat → BitVec 8) : gv F 4 = Sha.be (F 0) (F 1) (F 2) (F 3) := by
  simp [gv, Sha.be, BitVec.shiftLeft_or_distrib, ← BitVec.shiftLeft_add]
set_option maxRecDepth 3000 in
set_option maxHeartbeats 1000000 in
theorem get4_any (F : Nat → BitVec 8) (b c : Nat) (w : World) (hc : ∀ j, j < 4 → w.cell? ⟨b, j, none⟩ = some (.int .u8 (F j).toNat)) :
    Calls Tryd.prog 30 #[.slice (some ⟨b, 0, none⟩) 4 c] w fun e w' => e = .returned (.int .u32 ((Sha.be (F 0) (F 1) (F 2) (F 3)).toNat : Int)) ∧ w' = w := by
  have HC := hide hc
  clear hc
  go_enter Tryd.func30, Tryd.ntmps30
  go_wp2
  go_loopw [3, 4] (fun s i wr => ∃ k : Nat, k ≤ 4 ∧ s = .int .u32 ((gv F k).toNat : Int) ∧ i = .int .i64 (k : Int) ∧ wr = w) (fun _ i _ => 4 - (intOf i).toNat)
  case atStart => exact ⟨0, by omega, rfl, rfl, rfl⟩
  case round =>
    obtain ⟨k, hk, rfl, rfl, rfl⟩ := hrel
    by_cases hlt : k < 4
    · have hcell := HC.out k hlt
      have hst := gv_step F k
      go_wp2
      exact ⟨⟨k + 1, by omega, rfl, by go_num, trivial⟩, by simp [intOf]; omega⟩
    · obtain rfl : k = 4 := by omega
      have hbe := gv_be F
      go_wp2
      go_ret
      exact ⟨congrArg (fun x : BitVec 32 => Ending.returned (.int .u32 (x.toNat : Int))) hbe, rfl⟩
set_option maxRecDepth 3000 in
set_option maxHeartbeats 1000000 in
theorem rdigest_any (m : List (BitVec 8)) (ao : Option Addr) (n cap : Nat) (w : World) (hl : Hid (m.length = n)) (hs : SlL w ao m) (hnil : ao = none → cap = 0) (hn : n < 1000000000) :
    Calls Tryd.prog 33 #[.slice ao n cap] w fun e w' => e = .returned (.int .u32 (O.dig m : Int)) ∧ Below w.heap.size w w' := by
  have HSF : Hid (Sha.digB (Sha.run (Sha.padF m) (Sha.nb n)) = sumF m) := by show _ = _; unfold sumF; rw [hl.out]
  have HS := hide hs
  have HN := hide hnil
  clear hs hnil
  go_enter Tryd.func33, Tryd.ntmps33
  go_wp2_with fail
  refine (ref_any m ao n cap _ hl (by exact HS.out) HN.out hn).mono ?_
  rintro e w1 ⟨rfl, hB1⟩
  rw [HSF.out]
  go_wp2_with (refine wpList_store_abs rfl 74 (.tmp 3) (.tmp 5) rfl w1.heap.size (rowB 32 (sumF m)) rfl rfl 74 _ (RowAt.new w1 74 _) (by rw [rowB_size]; exact info24) (by rw [rowB_size]; rfl) (rowB_one _ _) w1.heap.size (Nat.le_refl _) ?_; intro w2 hR2 hO2 hz2 hB2; have hb2 := (hB1.alloc hB1.size _).trans (hB2.mono hB1.size); have hc2 : ∀ j, j < 4 → w2.cell? ⟨w1.heap.size, j, none⟩ = some (.int .u8 (sumF m j).toNat) := (fun j hj => by rw [hR2.cell, rowB_get _ _ _ (by omega)]); clear hO2 hz2 hB2 hB1 hR2)
  refine (get4_any (sumF m) _ _ _ (by exact hc2)).mono ?_
  rintro e w3 ⟨rfl, rfl⟩
  clear hc2
  go_wp2
  go_ret
  exact ⟨rfl, hb2⟩
end Go.Proofs.YtpiehjfoojipiaaDoor
