/- The law BaseWrites returns true, for every slice of bytes, and turns nothing that was there. -/
import Derived.Test.YtffggdjmhgialaaKnown
namespace Go.Proofs.Ytffggdjmhgialaa
open Go.RowKit
theorem baseWrites_long (ao : Option Addr) (n cap : Nat) (w : World) (hn : 500 < n) (hm : n ≤ 9223372036854775807) :
    Calls Try.prog 3 #[.slice ao n cap] w fun e w' => e = .returned (.bool true) ∧ Below w.heap.size w w' := by
  go_enter Try.func3, Try.ntmps3
  go_wp2_with (go_at_call 8; refine (known_any _).mono ?_; rintro e w1 ⟨rfl, hB1⟩)
  go_ret
  exact ⟨rfl, hB1⟩
theorem size_txt (D : List Nat) : (ByteArray.mk (B.txt D).toArray).size = (B.txt D).length := by simp [ByteArray.size]
set_option maxRecDepth 3000 in
set_option maxHeartbeats 1000000 in
theorem baseWrites_walk (bs : List UInt8) (ao : Option Addr) (n cap : Nat) (w : World) (hl : Hid (bs.length = n)) (hs : SlL w ao bs) (hn : n ≤ 500) :
    Calls Try.prog 3 #[.slice ao n cap] w fun e w' => e = .returned (.bool true) ∧ Below w.heap.size w w' := by
  have HS := hide hs
  clear hs
  go_enter Try.func3, Try.ntmps3
  go_wp2_with (go_at_call 8; refine (known_any _).mono ?_; rintro e w1 ⟨rfl, hB1⟩; have hz1 := hB1.size; have hs1 := HS.out.below hB1 (Nat.le_refl _))
  refine (hex32_any bs ao n cap _ hl (by exact hs1) (by omega)).mono ?_
  rintro e w2 ⟨D, h1, h2, rfl, hB2⟩
  have HD : Hid (Is 5 32 bs D) := ⟨h1, h2⟩
  have hb2 := hB1.trans (hB2.mono hz1)
  have hz2 := hb2.size
  have hs2 := HS.out.below hb2 (Nat.le_refl _)
  have hDl : (B.txt D).length ≤ 20001 := HD.out.len (by omega) (by have := hl.out; omega)
  clear hB1 hB2 hs1 h1 h2 hz1
  go_wp2_with fail
  refine (hex_any bs ao n cap _ hl (by exact hs2) (by omega)).mono ?_
  rintro e w3 ⟨E, h1, h2, rfl, hB3⟩
  have HE : Hid (Is 4 16 bs E) := ⟨h1, h2⟩
  have hb3 := hb2.trans (hB3.mono hz2)
  have hz3 := hb3.size
  have hEl : (B.txt E).length ≤ 20001 := HE.out.len (by omega) (by have := hl.out; omega)
  clear hb2 hB3 hs2 h1 h2 hz2
  go_wp2_with fail
  refine (o32_good _ (B.txt D) bs n _ hl (by exact rfl) (by rw [size_txt]; omega) (HD.out.good (by omega))).mono ?_
  rintro e w4 ⟨a4, c4, rfl, hs4, hB4⟩
  have HS4 := hide hs4
  have hb4 := hb3.trans (hB4.mono hz3)
  have hz4 := hb4.size
  clear hb3 hB4 hz3 hs4
  go_wp2_with fail
  refine (o16_good _ (B.txt E) bs n _ hl (by exact rfl) (by rw [size_txt]; omega) (HE.out.good (by omega))).mono ?_
  rintro e w5 ⟨a5, c5, rfl, hs5, hB5⟩
  have HS5 := hide hs5
  have hs45 := hide (HS4.out.below hB5 (Nat.le_refl _))
  have hb5 := hb4.trans (hB5.mono hz4)
  have hz5 := hb5.size
  have hsb := HS.out.below hb5 (Nat.le_refl _)
  clear hb4 hB5 hz4 hs5 HS4
  go_wp2_with fail
  refine (ref32_is bs D ao n cap _ hl (by exact hsb) (by omega) HD).mono ?_
  rintro e w6 ⟨rfl, hB6⟩
  have hs46 := hide (hs45.out.below hB6 (Nat.le_refl _))
  have hs56 := hide (HS5.out.below hB6 (Nat.le_refl _))
  have hb6 := hb5.trans (hB6.mono hz5)
  have hz6 := hb6.size
  have hsb6 := HS.out.below hb6 (Nat.le_refl _)
  clear hb5 hB6 hz5 hsb hs45 HS5
  go_wp2_with fail
  refine (ref16_is bs E ao n cap _ hl (by exact hsb6) (by omega) HE).mono ?_
  rintro e w7 ⟨rfl, hB7⟩
  have hs47 := hs46.out.below hB7 (Nat.le_refl _)
  have hs57 := hs56.out.below hB7 (Nat.le_refl _)
  have hb7 := hb6.trans (hB7.mono hz6)
  have hsb7 := HS.out.below hb7 (Nat.le_refl _)
  clear hb6 hB7 hz6 hsb6 hs46 hs56
  go_wp2_with fail
  refine (bytes_same bs a4 ao n n c4 cap _ (by exact hs47) (by exact hsb7) hl hl).mono ?_
  rintro e w8 ⟨rfl, rfl⟩
  go_wp2_with fail
  refine (bytes_same bs a5 ao n n c5 cap _ (by exact hs57) (by exact hsb7) hl hl).mono ?_
  rintro e w9 ⟨rfl, rfl⟩
  go_wp2
  go_ret
  exact ⟨rfl, hb7⟩
end Go.Proofs.Ytffggdjmhgialaa
