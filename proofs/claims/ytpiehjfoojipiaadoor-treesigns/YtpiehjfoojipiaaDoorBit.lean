/- onetime.bitOf, onetime.Digest, onetime.lockOf. -/
import Derived.Test.YtpiehjfoojipiaaDoorScr
namespace Go.Proofs.YtpiehjfoojipiaaDoor
open Go.RowKit
set_option maxRecDepth 5000 in
theorem and_one (x : Nat) (h : x < 4294967296) : bits .and .u32 (x : Int) 1 = ((x % 2 : Nat) : Int) := by
  have h1 := w_and (BitVec.ofNat 32 x) 1
  rw [BitVec.toNat_ofNat, Nat.mod_eq_of_lt (by omega)] at h1
  have h2 : (Sha.and (BitVec.ofNat 32 x) 1).toNat = x % 2 := by
    unfold Sha.and
    rw [BitVec.toNat_and, BitVec.toNat_ofNat, Nat.mod_eq_of_lt (by omega)]
    exact Nat.and_one_is_mod x
  rw [h2] at h1
  exact h1
set_option maxRecDepth 5000 in
theorem bit_and (d i : Nat) (hd : d < 4294967296) : bits .and .u32 ((d : Int) / 2 ^ (31 - i)) 1 = (O.bit d i : Int) := by
  have h1 : ((d : Int) / 2 ^ (31 - i)) = ((d / 2 ^ (31 - i) : Nat) : Int) := by
    rw [Int.natCast_ediv, Int.natCast_pow]; rfl
  have h2 : d / 2 ^ (31 - i) ≤ d := Nat.div_le_self _ _
  rw [h1, and_one _ (by omega)]; rfl
set_option maxRecDepth 3000 in
set_option maxHeartbeats 1000000 in
theorem bitOf_any (d i : Nat) (w : World) (hd : d < 4294967296) (hi : i < 32) :
    Calls Tryd.prog 40 #[.int .u32 (d : Int), .int .i64 (i : Int)] w fun e w' => e = .returned (.int .u8 (O.bit d i : Int)) ∧ w' = w := by
  obtain ⟨c, hc⟩ : ∃ c : Nat, c = 31 - i := ⟨_, rfl⟩
  have h0 : IntKind.i64.wrap (31 - (i : Int)) = (c : Int) := by rw [IntKind.wrap_i64]; omega
  have h2 : bits .and .u32 ((d : Int) / 2 ^ c) 1 = (O.bit d i : Int) := by rw [hc]; exact bit_and d i hd
  have h3 := O.bit_le d i
  have hmin : min c 32 = c := by omega
  clear hc
  go_enter Tryd.func40, Tryd.ntmps40
  go_wp2
  go_ret
  exact ⟨rfl, rfl⟩
set_option maxRecDepth 5000 in
theorem rowAt_low {w w1 : World} {g : Nat} {t : TypeId} {c : Array Value} (h : RowAt w g t c) {B : Nat} (hb : Below B w w1) (hg : g < B) : RowAt w1 g t c := h.below hb hg
set_option maxRecDepth 3000 in
set_option maxHeartbeats 1000000 in
theorem digest_any (m : List (BitVec 8)) (ao : Option Addr) (n cap : Nat) (w : World) (hl : Hid (m.length = n)) (hs : SlL w ao m) (hc : n ≤ cap) (hn : n < 1000000000) (hT : Tab w) :
    Calls Tryd.prog 39 #[.slice ao n cap] w fun e w' => e = .returned (.int .u32 (O.dig m : Int)) ∧ Below w.heap.size w w' := by
  have hsp := hs.pad
  rw [hl.out] at hsp
  have HSF : Hid (Sha.digB (Sha.run (Sha.padF m) (Sha.nb n)) = sumF m) := by show _ = _; unfold sumF; rw [hl.out]
  clear hs
  go_enter Tryd.func39, Tryd.ntmps39
  go_wp2_with fail
  refine (sum_any m ao n cap _ hl (by exact hsp) hc (by omega) (by exact hT)).mono ?_
  rintro e w1 ⟨rfl, hB1⟩
  rw [HSF.out]
  go_wp2_with (refine wpList_store_abs rfl 74 (.tmp 3) (.tmp 5) rfl w1.heap.size (rowB 32 (sumF m)) rfl rfl 74 _ (RowAt.new w1 74 _) (by rw [rowB_size]; exact info24) (by rw [rowB_size]; rfl) (rowB_one _ _) w1.heap.size (Nat.le_refl _) ?_; intro w2 hR2 hO2 hz2 hB2; have hb2 := (hB1.alloc hB1.size _).trans (hB2.mono hB1.size); have c0 : w2.cell? ⟨w1.heap.size, 0, none⟩ = some (.int .u8 (sumF m 0).toNat) := (by rw [hR2.cell, rowB_get _ _ _ (by omega)]); have c1 : w2.cell? ⟨w1.heap.size, 1, none⟩ = some (.int .u8 (sumF m 1).toNat) := (by rw [hR2.cell, rowB_get _ _ _ (by omega)]); have c2 : w2.cell? ⟨w1.heap.size, 2, none⟩ = some (.int .u8 (sumF m 2).toNat) := (by rw [hR2.cell, rowB_get _ _ _ (by omega)]); have c3 : w2.cell? ⟨w1.heap.size, 3, none⟩ = some (.int .u8 (sumF m 3).toNat) := (by rw [hR2.cell, rowB_get _ _ _ (by omega)]); clear hO2 hz2 hB2 hB1 hR2)
  go_ret
  exact ⟨congrArg (fun x => Ending.returned (.int .u32 x)) (w_be _ _ _ _), hb2⟩
set_option maxRecDepth 3000 in
set_option maxHeartbeats 1000000 in
theorem lockOf_any (f : Nat → BitVec 8) (leaf i v : Nat) (w : World) (hleaf : leaf < 4294967296) (hi : i < 32) (hv : v < 2) (hT : Tab w) :
    Calls Tryd.prog 42 #[.agg (rowB 8 f), .int .u32 (leaf : Int), .int .i64 (i : Int), .int .u8 (v : Int)] w fun e w' => e = .returned (.agg (rowB 8 (O.lockOf f leaf i v))) ∧ Below w.heap.size w w' := by
  have hT0 := hT.1
  have hb0 : Below w.heap.size w ((w.alloc (.cells (rowB 8 f) 22)).alloc (.cells z8 22)) := ((Below.refl _ _).alloc (Nat.le_refl _) _).alloc (by simp) _
  have hR0 : RowAt ((w.alloc (.cells (rowB 8 f) 22)).alloc (.cells z8 22)) w.heap.size 22 (rowB 8 f) := (RowAt.new w 22 (rowB 8 f)).alloc _
  have hA0 : RowAt ((w.alloc (.cells (rowB 8 f) 22)).alloc (.cells z8 22)) (w.heap.size + 1) 22 z8 := row_snd w _ 22 _
  have hT1 := hT.below hb0 hT0
  go_enter Tryd.func42, Tryd.ntmps42
  go_wp2_with (refine wpList_load_rowAt rfl 22 (.tmp 4) rfl w.heap.size rfl 22 _ _ (by exact hR0) Tryd.underlying22 rfl (by rw [rowB_size]; exact info28) ?_)
  refine (secret_any f leaf i v _ hleaf hi hv (by exact hT1)).mono ?_
  rintro e w1 ⟨rfl, hB1⟩
  have hb1 := hb0.trans (hB1.mono (by simp; omega))
  have hA1 := hA0.below hB1 (by simp)
  have hz1 := hA1.lt
  clear hB1 hb0 hR0 hA0 hT1
  go_wp2_with (refine wpList_store_abs rfl 22 (.tmp 9) (.tmp 14) rfl w1.heap.size (rowB 8 (O.sec f leaf i v)) rfl rfl 22 _ (RowAt.new w1 22 _) (by rw [rowB_size]; exact info28) (by rw [rowB_size]; rfl) (rowB_one _ _) w1.heap.size (Nat.le_refl _) ?_; intro w2 hR2 hO2 hz2 hB2; have hA2 := hO2 _ _ _ (by omega) (hA1.alloc _); have hb2 := (hb1.alloc (by omega) _).trans (hB2.mono (by omega)); have hT2 := hT.below hb2 hT0; have hS2 := hR2.sl8; clear hO2 hz2 hB2)
  refine (lock_any (O.lst (O.sec f leaf i v)) _ 8 8 _ (by exact O.lst_len _) (by exact hS2) (by simp) (by omega) (by omega) (by exact hT2)).mono ?_
  rintro e w3 ⟨rfl, hB3⟩
  have hA3 := hA2.below hB3 hA2.lt
  have hb3 := hb2.trans (hB3.mono hb2.size)
  clear hB3 hb2 hA2 hS2 hR2 hT2 hb1 hA1
  go_wp2_with (refine wpList_store_rowAt rfl 22 (.tmp 8) (.tmp 16) rfl (w.heap.size + 1) _ rfl rfl 22 z8 hA3 (by rw [rowB_size]; exact info28) (by rw [rowB_size]; rfl) (rowB_one _ _) ?_)
  exact bodyPost_ret (v := .agg (rowB 8 (O.lockOf f leaf i v))) (results_rowAt Tryd.results42 _ _ (w.heap.size + 1) 22 _ _ rfl (setRow_same hA3 _) Tryd.underlying22 rfl (by rw [rowB_size]; exact info28)) rfl ⟨rfl, below_setRow hb3 (by omega) _⟩
end Go.Proofs.YtpiehjfoojipiaaDoor
