/- onetime.Sign. -/
import Derived.Test.YtpiehjfoojipiaaDoorPub
namespace Go.Proofs.YtpiehjfoojipiaaDoor
open Go.RowKit
/- what a call keeps in all its rounds: the seed in its first block -/
structure QInv (f : Nat → BitVec 8) (w wr : World) : Prop where
  below : Below w.heap.size w wr
  seed : RowAt wr w.heap.size 22 (rowB 8 f)
set_option maxRecDepth 5000 in
theorem QInv.next {f : Nat → BitVec 8} {w wr w' : World} (h : QInv f w wr) (hb : Below (w.heap.size + 1) wr w') : QInv f w w' := ⟨h.below.trans (hb.mono (by omega)), h.seed.below hb (by omega)⟩
set_option maxRecDepth 5000 in
theorem QInv.lt {f : Nat → BitVec 8} {w wr : World} (h : QInv f w wr) : w.heap.size + 1 ≤ wr.heap.size := h.seed.lt
set_option maxRecDepth 5000 in
theorem QInv.drew {f : Nat → BitVec 8} {w wr : World} (h : QInv f w wr) : QInv f w wr.drew := ⟨h.below.drew, h.seed⟩
set_option maxRecDepth 5000 in
theorem QInv.first (f : Nat → BitVec 8) (w : World) : QInv f w (w.alloc (.cells (rowB 8 f) 22)) := ⟨(Below.refl _ _).alloc (Nat.le_refl _) _, RowAt.new w 22 (rowB 8 f)⟩
/- bytes that a call made and hands back -/
def Made (w w' : World) (v : Value) (l : List (BitVec 8)) : Prop := ∃ g c, v = .slice (some ⟨g, 0, none⟩) l.length c ∧ w.heap.size ≤ g ∧ l.length ≤ c ∧ SlL w' (some ⟨g, 0, none⟩) l
set_option maxRecDepth 5000 in
theorem sub_bit (b : Nat) (h : b ≤ 1) : IntKind.u8.wrap (1 - (b : Int)) = ((1 - b : Nat) : Int) := by rw [IntKind.wrap_u8]; omega
set_option maxRecDepth 3000 in
set_option maxHeartbeats 1000000 in
theorem sign_any (f : Nat → BitVec 8) (leaf : Nat) (m : List (BitVec 8)) (ao : Option Addr) (n cap : Nat) (w : World) (hl : Hid (m.length = n)) (hs : SlL w ao m) (hc : n ≤ cap) (hn : n < 1000000000) (hleaf : leaf < 4294967296) (hT : Tab w) :
    Calls Tryd.prog 25 #[.agg (rowB 8 f), .int .u32 (leaf : Int), .slice ao n cap] w fun e w' => ∃ v, e = .returned v ∧ Made w w' v (O.sigL f leaf (O.dig m) 32) ∧ Below w.heap.size w w' := by
  obtain ⟨i0, hi, hz0, hz1, hz2⟩ := info_parts info5
  have hT0 := hT.1
  have hI0 := QInv.first f w
  have hlt0 := hI0.lt
  have HS := hide (hs.alloc (.cells (rowB 8 f) 22))
  have hTa := hT.alloc (.cells (rowB 8 f) 22)
  have hd := O.dig_lt m
  clear hs
  go_enter Tryd.func25, Tryd.ntmps25
  go_wp2_with fail
  refine (digest_any m ao n cap _ hl (by exact HS.out) hc hn (by exact hTa)).mono ?_
  rintro e w0 ⟨rfl, hB0⟩
  obtain ⟨d, HD⟩ : ∃ d, Hid (O.dig m = d) := ⟨_, rfl⟩
  rw [HD.out] at hd ⊢
  have hI00 := hI0.next (hB0.mono hlt0)
  have hlt00 := hI00.lt
  clear hB0 hTa hI0 hlt0
  go_wp2_with (at_make; go_must (refine wpList_make_own _ rfl (.const (.int .i64 0)) (.const (.int .i64 512)) 34 rfl (w.heap.size + 1) 5 i0 (.int .u8 0) 1 Tryd.underlying34 hi hz0 hz1 .i64 .i64 512 512 rfl rfl rfl (by rw [hz2]; omega) (by unfold maxLen; omega) (by omega) ?_); intro w1 hO1 hG1; go_must (have hb1 := (Below.refl (w.heap.size + 1) _).grown hG1 (by omega) (fun k hk => by cases hk); have ho1 : OwnB w1 (w.heap.size + 1) (.slice (some ⟨w0.heap.size, 0, none⟩) 0 512) [] := (by simpa [OwnB, vb] using hO1)); clear hG1 hO1)
  have hI1 : QInv f w w1 := hI00.next hb1
  clear hb1 hI00
  go_loopw [8, 16] (fun v i wr => ∃ k : Nat, k ≤ 32 ∧ i = .int .i64 (k : Int) ∧ OwnB wr (w.heap.size + 1) v (O.sigL f leaf d k) ∧ QInv f w wr) (fun _ i _ => 32 - (intOf i).toNat)
  case atStart => exact ⟨0, by omega, rfl, ho1, hI1⟩
  case round =>
    clear ho1 hI1 hlt00
    obtain ⟨k, hk, rfl, hO, hI⟩ := hrel
    have hlt1 := hI.lt
    have hlen := O.sigL_len f leaf d k
    by_cases hlt : k < 32
    · have HLE := hide hlen
      clear hlen
      have hT2 := hT.below hI.below hT0
      have hb01 := O.bit_le d k
      obtain ⟨b, HBe⟩ : ∃ b, Hid (O.bit d k = b) := ⟨_, rfl⟩
      obtain ⟨b', HBf⟩ : ∃ b', Hid (1 - b = b') := ⟨_, rfl⟩
      rw [HBe.out] at hb01
      have hsub := sub_bit b hb01
      rw [HBf.out] at hsub
      have hb02 : b' ≤ 1 := by have := HBf.out; omega
      go_wp2_with (first
        | (go_at_call 40; refine (bitOf_any d k _ hd hlt).mono ?_; rintro e w' ⟨rfl, rfl⟩; rw [HBe.out])
        | (refine wpList_load_rowAt rfl 22 (.tmp 3) rfl w.heap.size rfl 22 _ _ (by exact hI.seed) Tryd.underlying22 rfl (by rw [rowB_size]; exact info28) ?_))
      refine (secret_any f leaf k b _ hleaf hlt (by omega) (by exact hT2)).mono ?_
      rintro e w2 ⟨rfl, hB2⟩
      have hI2 := hI.next (hB2.mono hlt1)
      have ho2 := hO.below hB2
      have hlt2 := hI2.lt
      clear hB2 hI hO hT2
      go_wp2_with (first
        | (refine wpList_store_abs rfl 22 (.tmp 11) (.tmp 26) rfl w2.heap.size (rowB 8 (O.sec f leaf k b)) rfl rfl 22 _ (RowAt.new w2 22 _) (by rw [rowB_size]; exact info28) (by rw [rowB_size]; rfl) (rowB_one _ _) w2.heap.size (Nat.le_refl _) ?_; intro w3 hR3 hO3 hz3 hB3; have hb3 : Below w2.heap.size w2 w3 := ((Below.refl _ _).alloc (Nat.le_refl _) _).trans hB3; have hI3 := hI2.next (hb3.mono hlt2); have ho3 := ho2.below hb3; have hlt3 := hI3.lt; have hz3' : w2.heap.size < w3.heap.size := hR3.lt; have hT3 := hT.below hI3.below hT0; clear hO3 hz3 hB3 hb3 ho2 hI2)
        | (refine wpList_load_rowAt rfl 22 (.tmp 3) rfl w.heap.size rfl 22 _ _ (by exact hI3.seed) Tryd.underlying22 rfl (by rw [rowB_size]; exact info28) ?_))
      refine (lockOf_any f leaf k b' _ hleaf hlt (by omega) (by exact hT3)).mono ?_
      rintro e w4 ⟨rfl, hB4⟩
      have hI4 := hI3.next (hB4.mono hlt3)
      have ho4 := ho3.below hB4
      have hR4 := hR3.below hB4 hz3'
      have hz4' : w2.heap.size < w4.heap.size := Nat.lt_of_lt_of_le hz3' hB4.size
      have hlt4 := hI4.lt
      clear hB4 hI3 ho3 hR3 hT3
      go_wp2_with (first
        | (refine wpList_store_abs rfl 22 (.tmp 12) (.tmp 32) rfl w4.heap.size (rowB 8 (O.lockOf f leaf k b')) rfl rfl 22 _ (RowAt.new w4 22 _) (by rw [rowB_size]; exact info28) (by rw [rowB_size]; rfl) (rowB_one _ _) w4.heap.size (Nat.le_refl _) ?_; intro w5 hR5 hO5 hz5 hB5; have hb5 : Below w4.heap.size w4 w5 := ((Below.refl _ _).alloc (Nat.le_refl _) _).trans hB5; have hI5 := hI4.next (hb5.mono hlt4); have ho5 := ho4.below hb5; have hQ5 := hR4.below hb5 hz4'; have hlt5 := hI5.lt; clear hO5 hz5 hB5 hb5 ho4 hI4 hR4)
        | (at_builtin; refine wpList_append_B rfl (.tmp 33) (.tmp 34) rfl (w.heap.size + 1) _ _ rfl ho5 _ _ _ (O.lst (O.sec f leaf k b)) rfl (O.lst_len _) hQ5.sl8 (by simp) (by rw [HLE.out]; omega) hlt5 ?_; intro v6 w6 ho6 hG6; have hR6 := row_grown ho5 hR5 (by decide) hG6; have hI6 := hI5.next (grown_next ho5 hG6 hlt5); have hlt6 := hI6.lt; clear hG6 ho5 hI5 hR5 hQ5)
        | (at_builtin; refine wpList_append_B rfl (.tmp 36) (.tmp 37) rfl (w.heap.size + 1) _ _ rfl ho6 _ _ _ (O.lst (O.lockOf f leaf k b')) rfl (O.lst_len _) hR6.sl8 (by simp) (by simp [O.lst_len, HLE.out]; omega) hlt6 ?_; intro v7 w7 ho7 hG7; have hI7 := hI6.next (grown_next ho6 hG7 hlt6); clear hG7 ho6 hI6 hR6))
      refine ⟨⟨k + 1, by omega, by go_num, ?_, hI7⟩, by simp [intOf]; omega⟩
      rw [O.sigL_succ]
      unfold O.sgn
      rw [← List.append_assoc, HBe.out, HBf.out]; exact ho7
    · obtain rfl : k = 32 := by omega
      obtain ⟨L, HLL⟩ : ∃ L, Hid (O.sigL f leaf d 32 = L) := ⟨_, rfl⟩
      rw [HLL.out] at hO hlen
      obtain ⟨g, c, rfl, hg1, hg2, hg3, hg4, _⟩ := hO.form (by omega)
      have hsl := hO.sl
      have hB9 := hI.below
      clear hO hg3 hlen hI
      go_wp2
      go_ret
      refine ⟨_, rfl, ?_, hB9⟩
      rw [HD.out, HLL.out]
      exact ⟨g, c, rfl, by omega, hg2, hsl⟩
end Go.Proofs.YtpiehjfoojipiaaDoor
