/- The law BaseLengths returns true, for every number of bytes, and turns nothing that was there. -/
import Derived.Test.YtffggdjmhgialaaWrites
namespace Go.Proofs.Ytffggdjmhgialaa
open Go.RowKit
namespace B
theorem nat_zeros (n : Nat) : nat (List.replicate n 0) = List.replicate n 0 := by simp [nat]
theorem dv_zeros (n : Nat) : dv (List.replicate n 48) = List.replicate n 0 := by
  unfold dv
  rw [List.map_replicate]
  rfl
theorem rel_zeros (k n m p : Nat) (hp : p < k) (h : k * m = 8 * n + p) : Rel k (List.replicate n 0) (List.replicate m 0) :=
  ⟨p, hp, by simpa using h, by rw [val_zeros, nat_zeros, val_zeros, Nat.zero_mul]⟩
theorem val_zeros48 (q n : Nat) (hq : 0 < q) : Val q (List.replicate n 48) := fun x hx => by
  rw [List.mem_replicate] at hx
  obtain ⟨_, rfl⟩ := hx
  show dval 48 < q
  rw [show dval 48 = 0 from rfl]; exact hq
theorem good_zeros (k q n m p : Nat) (hq : 0 < q) (hp : p < k) (h : k * m = 8 * n + p) : Good k q (List.replicate m 48) (List.replicate n 0) :=
  ⟨val_zeros48 q m hq, by rw [dv_zeros]; exact rel_zeros k n m p hp h⟩
theorem bad_zeros (k q m : Nat) (hk : k ≤ 8) (h : k ≤ k * m % 8) (b : List UInt8) : ¬ Good k q (List.replicate m 48) b := by
  rintro ⟨_, p, hp, hl, _⟩
  rw [dv_zeros, List.length_replicate] at hl
  omega
end B
theorem is_zeros (k n m p : Nat) (hp : p < k) (h : k * m = 8 * n + p) : Is k (2 ^ k) (List.replicate n 0) (List.replicate m 0) :=
  ⟨B.rel_zeros k n m p hp h, fun d hd => by rw [List.mem_replicate] at hd; rw [hd.2]; exact Nat.two_pow_pos k⟩
theorem made_zero (n : Nat) : madeCells (Value.int .u8 0).cells (n * 1) = (vb (List.replicate n 0)).toArray := by
  apply Array.ext'
  unfold madeCells vb
  simp only [Array.toList_map, Array.toList_range, Nat.mul_one, List.map_replicate]
  apply List.ext_getElem?
  intro i
  by_cases h : i < n
  · simp [h, Value.cells, Nat.mod_one]
  · simp [h]
theorem make_z (w : World) (l : Nat) (x : Int) (hx : x = (l : Int)) (hl : l ≤ 1000000) : (Instr.makeSlice 22 (.int .i64 x) (.int .i64 x)).run Try.prog w = .ok (.slice (some ⟨w.heap.size, 0, none⟩) l l) (w.alloc (.cells (vb (List.replicate l 0)).toArray 5)) := by
  subst hx
  obtain ⟨i0, hi, hz0, hz1, hz2⟩ := info_parts info5
  have h := run_make (P := Try.prog) w 22 5 i0 (.int .u8 0) Try.underlying22 hi hz0 .i64 .i64 (l : Int) (l : Int) (by omega) (by omega) (by rw [hz2]; omega) (by omega)
  rw [hz1, Int.toNat_natCast, made_zero] at h
  exact h
theorem OwnB.made (w : World) (l : List UInt8) (base : Nat) (hb : base ≤ w.heap.size) (hl : l.length ≤ 1000000) : OwnB (w.alloc (.cells (vb l).toArray 5)) base (.slice (some ⟨w.heap.size, 0, none⟩) l.length l.length) l :=
  ⟨by rw [vb_len, Nat.mul_one], Or.inr ⟨w.heap.size, l.length, _, rfl, hb, heap_alloc_last w _, Nat.le_refl _, by unfold maxLen; omega, by simp [vb], List.take_of_length_le (by simp [vb])⟩⟩
def fl (n k : Nat) : List UInt8 := (List.range n).map (fun i => if i < k then 48 else 0)
theorem fl_len (n k : Nat) : (fl n k).length = n := by simp [fl]
theorem fl_zero (n : Nat) : fl n 0 = List.replicate n 0 := by
  apply List.ext_getElem?
  intro i
  by_cases h : i < n <;> simp [fl, h]
theorem fl_all (n : Nat) : fl n n = List.replicate n 48 := by
  apply List.ext_getElem?
  intro i
  by_cases h : i < n <;> simp [fl, h]
theorem fl_set (n k : Nat) (h : k < n) : vb (fl n (k + 1)) = (vb (fl n k)).set k (.int .u8 48) := by
  apply List.ext_getElem?
  intro i
  by_cases hi : i < n
  · by_cases e : k = i
    · subst e; simp [vb, fl, h]
    · rw [List.getElem?_set_ne e]
      simp only [vb, fl, List.getElem?_map, List.getElem?_range hi, Option.map_some]
      by_cases h2 : i < k
      · rw [if_pos h2, if_pos (by omega)]
      · rw [if_neg h2, if_neg (by omega)]
  · rw [List.getElem?_eq_none (by rw [vb_len, fl_len]; omega), List.getElem?_eq_none (by rw [List.length_set, vb_len, fl_len]; omega)]
set_option maxRecDepth 3000 in
set_option maxHeartbeats 2000000 in
theorem baseLengths_walk (m : UInt8) (w : World) :
    Calls Try.prog 7 #[.int .u8 (m.toNat : Int)] w fun e w' => e = .returned (.bool true) ∧ Below w.heap.size w w' := by
  have hm := m.toNat_lt
  generalize m.toNat = n at hm
  have HD : Hid (Is 5 32 (List.replicate n 0) (List.replicate ((8 * n + 4) / 5) 0)) := is_zeros 5 n ((8 * n + 4) / 5) (5 * ((8 * n + 4) / 5) - 8 * n) (by omega) (by omega)
  have HE : Hid (Is 4 16 (List.replicate n 0) (List.replicate (2 * n) 0)) := is_zeros 4 n (2 * n) 0 (by omega) (by omega)
  obtain ⟨D, hD⟩ : ∃ D, D = List.replicate ((8 * n + 4) / 5) 0 := ⟨_, rfl⟩
  obtain ⟨E, hE⟩ : ∃ E, E = List.replicate (2 * n) 0 := ⟨_, rfl⟩
  have hDl : (B.txt D).length = (8 * n + 4) / 5 := by rw [hD, B.txt_len, List.length_replicate]
  have hEl : (B.txt E).length = 2 * n := by rw [hE, B.txt_len, List.length_replicate]
  rw [← hD] at HD
  rw [← hE] at HE
  clear hD hE
  have hDb : (((B.txt D).length : Int) != (8 * (n : Int) + 4) / 5) = false := by rw [hDl]; simp
  have hEb : (((B.txt E).length : Int) != 2 * (n : Int)) = false := by rw [hEl]; simp
  have HDL := hide hDl
  have HEL := hide hEl
  clear hDl hEl
  go_enter Try.func7, Try.ntmps7
  go_wp2_with (go_at_call 8; refine (known_any _).mono ?_; rintro e w1 ⟨rfl, hB1⟩; have hz1 := hB1.size; have hmk := make_z w1 n (n : Int) rfl (by omega))
  have hb2 : Below w.heap.size w (w1.alloc (.cells (vb (List.replicate n 0)).toArray 5)) := hB1.alloc hz1 _
  have hs2 : SlL (w1.alloc (.cells (vb (List.replicate n 0)).toArray 5)) (some ⟨w1.heap.size, 0, none⟩) (List.replicate n 0) := SlL.litm w1 _ _ 5 (0, 0) rfl
  refine (hex32_is (List.replicate n 0) D _ n n _ (by show _ = _; simp) (by exact hs2) (by omega) HD).mono ?_
  rintro e w3 ⟨rfl, hB3⟩
  have hb3 := hb2.trans (hB3.mono (by simp; omega))
  have hs3 := hs2.below hB3 (Nat.le_refl _)
  have hz3 := hb3.size
  clear hB3 hb2 hs2 hmk hB1
  go_wp2_with fail
  refine (hex16_is (List.replicate n 0) E _ n n _ (by show _ = _; simp) (by exact hs3) (by omega) HE).mono ?_
  rintro e w4 ⟨rfl, hB4⟩
  have hb4 := hb3.trans (hB4.mono hz3)
  have hz4 := hb4.size
  have hmk := make_z w4 n (n : Int) rfl (by omega)
  clear hB4 hb3 hs3 hz3
  go_wp2_with fail
  have hO5 : OwnB (w4.alloc (.cells (vb (List.replicate n 0)).toArray 5)) w.heap.size (.slice (some ⟨w4.heap.size, 0, none⟩) n n) (fl n 0) := by
    rw [fl_zero]
    have h := OwnB.made w4 (List.replicate n 0) w.heap.size hz4 (by simp; omega)
    rw [List.length_replicate] at h
    exact h
  have hb5 : Below w.heap.size w (w4.alloc (.cells (vb (List.replicate n 0)).toArray 5)) := hb4.alloc hz4 _
  clear hmk hb4
  go_loopw [5] (fun i wr => ∃ k : Nat, k ≤ n ∧ i = .int .i64 (k : Int) ∧ OwnB wr w.heap.size (.slice (some ⟨w4.heap.size, 0, none⟩) n n) (fl n k) ∧ Below w.heap.size w wr) (fun i _ => n - (intOf i).toNat)
  case atStart => exact ⟨0, by omega, rfl, hO5, hb5⟩
  case round =>
    clear hO5 hb5
    obtain ⟨k, hk, rfl, hO, hB⟩ := hrel
    have hO' : wr.ownsRow w.heap.size 5 1 (.slice (some ⟨w4.heap.size, 0, none⟩) n n) n (vb (fl n k)) := by
      have h := hO; unfold OwnB at h; rw [fl_len] at h; exact h
    by_cases hlt : k < n
    · have hc := World.ownsRow.cellAt hO' k (by omega)
      rw [vb_get _ _ (by rw [fl_len]; exact hlt)] at hc
      obtain ⟨v, hv⟩ : ∃ v, wr.cell? ⟨w4.heap.size, k, none⟩ = some v := ⟨_, hc⟩
      have hf := World.ownsRow.frozenAt hO' k
      clear hc
      go_wp2
      go_roundw
      case rel =>
        refine ⟨k + 1, by omega, by go_num, ?_, hB.setCell (by simp; omega) _⟩
        have h := (World.ownsRow.stored hO' k (.int .u8 48)).1
        rw [← fl_set n k hlt] at h
        unfold OwnB
        rw [fl_len]
        exact h
      case measure => simp [intOf]; omega
    · have hkN : k = n := by omega
      subst hkN
      rw [fl_all] at hO
      have hO2 : OwnB wr w.heap.size (.slice (some ⟨w4.heap.size, 0, none⟩) (List.replicate k (48 : UInt8)).length k) (List.replicate k 48) := by rw [List.length_replicate]; exact hO
      have hsl := hO2.sl
      have hzr := hB.size
      clear hO hO2 hO'
      obtain ⟨S, hS⟩ : ∃ S, S = List.replicate k (48 : UInt8) := ⟨_, rfl⟩
      rw [← hS] at hsl
      have hSl : S.length = k := by rw [hS]; simp
      have HSL := hide hSl
      have HSZ : Hid ((ByteArray.mk S.toArray).size = k) := by show _ = _; rw [← hSl]; simp [ByteArray.size]
      have hst := run_str k k hsl hSl
      have HS := hide hS
      clear hS hSl
      rcases (show k % 8 = 0 ∨ k % 8 = 1 ∨ k % 8 = 2 ∨ k % 8 = 3 ∨ k % 8 = 4 ∨ k % 8 = 5 ∨ k % 8 = 6 ∨ k % 8 = 7 by omega) with h8 | h8 | h8 | h8 | h8 | h8 | h8 | h8
      · have hk8 : (k : Int) % 8 = 0 := by omega
        have hk2 : (k : Int) % 2 = 0 := by omega
        go_wp2_with fail
        refine (o32_good _ S (List.replicate (5 * k / 8) 0) (5 * k / 8) _ (by show _ = _; simp) (by exact rfl) (by rw [HSZ.out]; omega) (by rw [HS.out]; exact B.good_zeros 5 32 (5 * k / 8) k 0 (by omega) (by omega) (by omega))).mono ?_
        rintro e w6 ⟨a6, c6, rfl, hs6, hB6⟩
        have hb6 := hB.trans (hB6.mono hzr)
        have hz6 := hb6.size
        have hst6 := run_str k k (hsl.below hB6 (Nat.le_refl _)) HSL.out
        clear hB6
        go_wp2_with fail
        refine (o16_good _ S (List.replicate (k / 2) 0) (k / 2) _ (by show _ = _; simp) (by exact rfl) (by rw [HSZ.out]; omega) (by rw [HS.out]; exact B.good_zeros 4 16 (k / 2) k 0 (by omega) (by omega) (by omega))).mono ?_
        rintro e w7 ⟨a7, c7, rfl, hs7, hB7⟩
        have hb7 := hb6.trans (hB7.mono hz6)
        have hz7 := hb7.size
        have hmk7 := make_z w7 (k / 2) ((k : Int) / 2) (by omega) (by omega)
        have HS7 := hide hs7
        clear hB7 hs7
        go_wp2_with fail
        refine (bytes_same (List.replicate (k / 2) 0) a7 _ (k / 2) (k / 2) c7 (k / 2) _ (by exact HS7.out.alloc _) (by exact SlL.litm w7 _ _ 5 (0, 0) rfl) (by show _ = _; simp) (by show _ = _; simp)).mono ?_
        rintro e w8 ⟨rfl, rfl⟩
        go_wp2
        go_ret
        exact ⟨rfl, hb7.alloc hz7 _⟩
      · have hk8 : (k : Int) % 8 = 1 := by omega
        have hk2 : (k : Int) % 2 = 1 := by omega
        go_wp2_with fail
        refine (o32_bad _ S _ (by exact rfl) (by rw [HSZ.out]; omega) (by rw [HS.out]; exact B.bad_zeros 5 32 k (by omega) (by omega))).mono ?_
        rintro e w6 ⟨rfl, hB6⟩
        have hb6 := hB.trans (hB6.mono hzr)
        have hz6 := hb6.size
        have hst6 := run_str k k (hsl.below hB6 (Nat.le_refl _)) HSL.out
        clear hB6
        go_wp2_with fail
        refine (o16_bad _ S _ (by exact rfl) (by rw [HSZ.out]; omega) (by rw [HS.out]; exact B.bad_zeros 4 16 k (by omega) (by omega))).mono ?_
        rintro e w7 ⟨rfl, hB7⟩
        have hb7 := hb6.trans (hB7.mono hz6)
        have hz7 := hb7.size
        have hmk7 := make_z w7 0 0 rfl (by omega)
        clear hB7
        go_wp2_with fail
        refine (bytes_same [] none _ 0 0 0 0 _ (SlL.nil _ _) (SlL.nil _ _) rfl rfl).mono ?_
        rintro e w8 ⟨rfl, rfl⟩
        go_wp2
        go_ret
        exact ⟨rfl, hb7.alloc hz7 _⟩
      · have hk8 : (k : Int) % 8 = 2 := by omega
        have hk2 : (k : Int) % 2 = 0 := by omega
        go_wp2_with fail
        refine (o32_good _ S (List.replicate (5 * k / 8) 0) (5 * k / 8) _ (by show _ = _; simp) (by exact rfl) (by rw [HSZ.out]; omega) (by rw [HS.out]; exact B.good_zeros 5 32 (5 * k / 8) k 2 (by omega) (by omega) (by omega))).mono ?_
        rintro e w6 ⟨a6, c6, rfl, hs6, hB6⟩
        have hb6 := hB.trans (hB6.mono hzr)
        have hz6 := hb6.size
        have hst6 := run_str k k (hsl.below hB6 (Nat.le_refl _)) HSL.out
        clear hB6
        go_wp2_with fail
        refine (o16_good _ S (List.replicate (k / 2) 0) (k / 2) _ (by show _ = _; simp) (by exact rfl) (by rw [HSZ.out]; omega) (by rw [HS.out]; exact B.good_zeros 4 16 (k / 2) k 0 (by omega) (by omega) (by omega))).mono ?_
        rintro e w7 ⟨a7, c7, rfl, hs7, hB7⟩
        have hb7 := hb6.trans (hB7.mono hz6)
        have hz7 := hb7.size
        have hmk7 := make_z w7 (k / 2) ((k : Int) / 2) (by omega) (by omega)
        have HS7 := hide hs7
        clear hB7 hs7
        go_wp2_with fail
        refine (bytes_same (List.replicate (k / 2) 0) a7 _ (k / 2) (k / 2) c7 (k / 2) _ (by exact HS7.out.alloc _) (by exact SlL.litm w7 _ _ 5 (0, 0) rfl) (by show _ = _; simp) (by show _ = _; simp)).mono ?_
        rintro e w8 ⟨rfl, rfl⟩
        go_wp2
        go_ret
        exact ⟨rfl, hb7.alloc hz7 _⟩
      · have hk8 : (k : Int) % 8 = 3 := by omega
        have hk2 : (k : Int) % 2 = 1 := by omega
        go_wp2_with fail
        refine (o32_bad _ S _ (by exact rfl) (by rw [HSZ.out]; omega) (by rw [HS.out]; exact B.bad_zeros 5 32 k (by omega) (by omega))).mono ?_
        rintro e w6 ⟨rfl, hB6⟩
        have hb6 := hB.trans (hB6.mono hzr)
        have hz6 := hb6.size
        have hst6 := run_str k k (hsl.below hB6 (Nat.le_refl _)) HSL.out
        clear hB6
        go_wp2_with fail
        refine (o16_bad _ S _ (by exact rfl) (by rw [HSZ.out]; omega) (by rw [HS.out]; exact B.bad_zeros 4 16 k (by omega) (by omega))).mono ?_
        rintro e w7 ⟨rfl, hB7⟩
        have hb7 := hb6.trans (hB7.mono hz6)
        have hz7 := hb7.size
        have hmk7 := make_z w7 0 0 rfl (by omega)
        clear hB7
        go_wp2_with fail
        refine (bytes_same [] none _ 0 0 0 0 _ (SlL.nil _ _) (SlL.nil _ _) rfl rfl).mono ?_
        rintro e w8 ⟨rfl, rfl⟩
        go_wp2
        go_ret
        exact ⟨rfl, hb7.alloc hz7 _⟩
      · have hk8 : (k : Int) % 8 = 4 := by omega
        have hk2 : (k : Int) % 2 = 0 := by omega
        go_wp2_with fail
        refine (o32_good _ S (List.replicate (5 * k / 8) 0) (5 * k / 8) _ (by show _ = _; simp) (by exact rfl) (by rw [HSZ.out]; omega) (by rw [HS.out]; exact B.good_zeros 5 32 (5 * k / 8) k 4 (by omega) (by omega) (by omega))).mono ?_
        rintro e w6 ⟨a6, c6, rfl, hs6, hB6⟩
        have hb6 := hB.trans (hB6.mono hzr)
        have hz6 := hb6.size
        have hst6 := run_str k k (hsl.below hB6 (Nat.le_refl _)) HSL.out
        clear hB6
        go_wp2_with fail
        refine (o16_good _ S (List.replicate (k / 2) 0) (k / 2) _ (by show _ = _; simp) (by exact rfl) (by rw [HSZ.out]; omega) (by rw [HS.out]; exact B.good_zeros 4 16 (k / 2) k 0 (by omega) (by omega) (by omega))).mono ?_
        rintro e w7 ⟨a7, c7, rfl, hs7, hB7⟩
        have hb7 := hb6.trans (hB7.mono hz6)
        have hz7 := hb7.size
        have hmk7 := make_z w7 (k / 2) ((k : Int) / 2) (by omega) (by omega)
        have HS7 := hide hs7
        clear hB7 hs7
        go_wp2_with fail
        refine (bytes_same (List.replicate (k / 2) 0) a7 _ (k / 2) (k / 2) c7 (k / 2) _ (by exact HS7.out.alloc _) (by exact SlL.litm w7 _ _ 5 (0, 0) rfl) (by show _ = _; simp) (by show _ = _; simp)).mono ?_
        rintro e w8 ⟨rfl, rfl⟩
        go_wp2
        go_ret
        exact ⟨rfl, hb7.alloc hz7 _⟩
      · have hk8 : (k : Int) % 8 = 5 := by omega
        have hk2 : (k : Int) % 2 = 1 := by omega
        go_wp2_with fail
        refine (o32_good _ S (List.replicate (5 * k / 8) 0) (5 * k / 8) _ (by show _ = _; simp) (by exact rfl) (by rw [HSZ.out]; omega) (by rw [HS.out]; exact B.good_zeros 5 32 (5 * k / 8) k 1 (by omega) (by omega) (by omega))).mono ?_
        rintro e w6 ⟨a6, c6, rfl, hs6, hB6⟩
        have hb6 := hB.trans (hB6.mono hzr)
        have hz6 := hb6.size
        have hst6 := run_str k k (hsl.below hB6 (Nat.le_refl _)) HSL.out
        clear hB6
        go_wp2_with fail
        refine (o16_bad _ S _ (by exact rfl) (by rw [HSZ.out]; omega) (by rw [HS.out]; exact B.bad_zeros 4 16 k (by omega) (by omega))).mono ?_
        rintro e w7 ⟨rfl, hB7⟩
        have hb7 := hb6.trans (hB7.mono hz6)
        have hz7 := hb7.size
        have hmk7 := make_z w7 0 0 rfl (by omega)
        clear hB7
        go_wp2_with fail
        refine (bytes_same [] none _ 0 0 0 0 _ (SlL.nil _ _) (SlL.nil _ _) rfl rfl).mono ?_
        rintro e w8 ⟨rfl, rfl⟩
        go_wp2
        go_ret
        exact ⟨rfl, hb7.alloc hz7 _⟩
      · have hk8 : (k : Int) % 8 = 6 := by omega
        have hk2 : (k : Int) % 2 = 0 := by omega
        go_wp2_with fail
        refine (o32_bad _ S _ (by exact rfl) (by rw [HSZ.out]; omega) (by rw [HS.out]; exact B.bad_zeros 5 32 k (by omega) (by omega))).mono ?_
        rintro e w6 ⟨rfl, hB6⟩
        have hb6 := hB.trans (hB6.mono hzr)
        have hz6 := hb6.size
        have hst6 := run_str k k (hsl.below hB6 (Nat.le_refl _)) HSL.out
        clear hB6
        go_wp2_with fail
        refine (o16_good _ S (List.replicate (k / 2) 0) (k / 2) _ (by show _ = _; simp) (by exact rfl) (by rw [HSZ.out]; omega) (by rw [HS.out]; exact B.good_zeros 4 16 (k / 2) k 0 (by omega) (by omega) (by omega))).mono ?_
        rintro e w7 ⟨a7, c7, rfl, hs7, hB7⟩
        have hb7 := hb6.trans (hB7.mono hz6)
        have hz7 := hb7.size
        have hmk7 := make_z w7 (k / 2) ((k : Int) / 2) (by omega) (by omega)
        have HS7 := hide hs7
        clear hB7 hs7
        go_wp2_with fail
        refine (bytes_same (List.replicate (k / 2) 0) a7 _ (k / 2) (k / 2) c7 (k / 2) _ (by exact HS7.out.alloc _) (by exact SlL.litm w7 _ _ 5 (0, 0) rfl) (by show _ = _; simp) (by show _ = _; simp)).mono ?_
        rintro e w8 ⟨rfl, rfl⟩
        go_wp2
        go_ret
        exact ⟨rfl, hb7.alloc hz7 _⟩
      · have hk8 : (k : Int) % 8 = 7 := by omega
        have hk2 : (k : Int) % 2 = 1 := by omega
        go_wp2_with fail
        refine (o32_good _ S (List.replicate (5 * k / 8) 0) (5 * k / 8) _ (by show _ = _; simp) (by exact rfl) (by rw [HSZ.out]; omega) (by rw [HS.out]; exact B.good_zeros 5 32 (5 * k / 8) k 3 (by omega) (by omega) (by omega))).mono ?_
        rintro e w6 ⟨a6, c6, rfl, hs6, hB6⟩
        have hb6 := hB.trans (hB6.mono hzr)
        have hz6 := hb6.size
        have hst6 := run_str k k (hsl.below hB6 (Nat.le_refl _)) HSL.out
        clear hB6
        go_wp2_with fail
        refine (o16_bad _ S _ (by exact rfl) (by rw [HSZ.out]; omega) (by rw [HS.out]; exact B.bad_zeros 4 16 k (by omega) (by omega))).mono ?_
        rintro e w7 ⟨rfl, hB7⟩
        have hb7 := hb6.trans (hB7.mono hz6)
        have hz7 := hb7.size
        have hmk7 := make_z w7 0 0 rfl (by omega)
        clear hB7
        go_wp2_with fail
        refine (bytes_same [] none _ 0 0 0 0 _ (SlL.nil _ _) (SlL.nil _ _) rfl rfl).mono ?_
        rintro e w8 ⟨rfl, rfl⟩
        go_wp2
        go_ret
        exact ⟨rfl, hb7.alloc hz7 _⟩
end Go.Proofs.Ytffggdjmhgialaa
