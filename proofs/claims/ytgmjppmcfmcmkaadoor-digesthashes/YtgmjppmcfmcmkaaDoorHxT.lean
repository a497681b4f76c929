/- base.text writes bytes in digits of five bits: base.Hex32. -/
import Derived.Test.YtgmjppmcfmcmkaaDoorHxM
import Derived.Test.YtgmjppmcfmcmkaaDoorHxS
import Derived.Laws.BitsAllLaws
import Derived.Laws.ShiftsVarLaws
namespace Go.Proofs.YtgmjppmcfmcmkaaDoor
open Go.RowKit
namespace B
def digs : List UInt8 := [48, 49, 50, 51, 52, 53, 54, 55, 56, 57, 97, 98, 99, 100, 101, 102, 103, 104, 105, 106, 107, 108, 109, 110, 111, 112, 113, 114, 115, 116, 117, 118]
def dch (d : Nat) : UInt8 := digs.getD d 0
def txt (D : List Nat) : List UInt8 := D.map dch
set_option maxRecDepth 5000 in
theorem txt_app (D : List Nat) (d : Nat) : txt D ++ [dch d] = txt (D ++ [d]) := by simp [txt]
set_option maxRecDepth 5000 in
theorem take_next (bs : List UInt8) (j : Nat) (h : j < bs.length) : bs.take (j + 1) = bs.take j ++ [bs.getD j 0] := by
  rw [List.take_succ_eq_append_getElem h]; simp [h]
end B
set_option maxRecDepth 5000 in
theorem or_u64 (a b : Nat) (ha : a < 72057594037927936) (hb : b < 256) : bits .or .u64 ((a : Int) * 256) (b : Int) = ((a * 256 + b : Nat) : Int) := by
  rw [show (a : Int) * 256 = ((a * 256 : Nat) : Int) by omega, u64_or_nat _ _ (by omega) (by omega), Nat.mul_comm, show 256 = 2 ^ 8 from rfl, ← Nat.two_pow_add_eq_or_of_lt hb]
set_option maxRecDepth 5000 in
theorem pow_bounds (c : Nat) (hc : c < 16) : 1 ≤ (2 : Int) ^ c ∧ (2 : Int) ^ c ≤ 65536 := by
  have h1 : 2 ^ c ≤ 2 ^ 16 := Nat.pow_le_pow_right (by omega) (by omega)
  have h2 := Nat.two_pow_pos c
  have h3 : (2 : Int) ^ c = ((2 ^ c : Nat) : Int) := by simp
  rw [h3]; omega
set_option maxRecDepth 5000 in
theorem and_u64 (a c : Nat) (ha : a < 65536) (hc : c < 16) : bits .and .u64 (a : Int) ((2 : Int) ^ c - 1) = ((a % 2 ^ c : Nat) : Int) := by
  have h1 : 2 ^ c ≤ 2 ^ 16 := Nat.pow_le_pow_right (by omega) (by omega)
  have h2 := Nat.two_pow_pos c
  have h3 : (2 : Int) ^ c - 1 = ((2 ^ c - 1 : Nat) : Int) := by rw [Int.ofNat_sub h2]; simp
  rw [h3, u64_and_nat _ _ (by omega) (by omega), Nat.and_two_pow_sub_one_eq_mod]
set_option maxRecDepth 5000 in
theorem dig_at (d : Nat) (hp : d < (ByteArray.mk #[48, 49, 50, 51, 52, 53, 54, 55, 56, 57, 97, 98, 99, 100, 101, 102, 103, 104, 105, 106, 107, 108, 109, 110, 111, 112, 113, 114, 115, 116, 117, 118]).size) : (((ByteArray.mk #[48, 49, 50, 51, 52, 53, 54, 55, 56, 57, 97, 98, 99, 100, 101, 102, 103, 104, 105, 106, 107, 108, 109, 110, 111, 112, 113, 114, 115, 116, 117, 118])[d]'hp).toNat : Int) = ((B.dch d).toNat : Int) := by
  have h1 : d < B.digs.length := hp
  have h2 : B.dch d = B.digs[d] := by unfold B.dch; simp [h1]
  rw [h2]; rfl
set_option maxRecDepth 5000 in
theorem write_at (B b : Nat) (l : List UInt8) (c : UInt8) (v : Int) (w : World) (hv : v = (c.toNat : Int)) (h : Lib.IsBuilderF 73 5 B b (Lib.byteCells l) w) (hlen : l.length + 1 ≤ 140737488355328) (hBw : B ≤ w.heap.size) :
    Calls Tryd.prog 50 #[.pointer (some ⟨b, 0, none⟩), .int .u8 v] w fun e w' => e = .returned .nilIface ∧ Lib.IsBuilderF 73 5 B b (Lib.byteCells (l ++ [c])) w' ∧ Below B w w' := by
  subst hv; exact writeByte_k B b l c w h hlen hBw
set_option maxRecDepth 5000 in
theorem grow_at (n : Nat) (x : Int) (w : World) (hx : x = (n : Int)) (hn : n ≤ 281474976710656) :
    Calls Tryd.prog 49 #[.pointer (some ⟨w.heap.size, 0, none⟩), .int .i64 x] (w.alloc (.cells #[.pointer none, .slice none 0 0] 73)) fun e w' => e = .returned (.tuple #[]) ∧ Lib.IsBuilderF 73 5 w.heap.size w.heap.size (Lib.byteCells []) w' ∧ Below w.heap.size w w' := by
  subst hx
  refine (grow_k w.heap.size w.heap.size n (w.alloc (.cells #[.pointer none, .slice none 0 0] 73)) (Nat.le_refl _) (heap_alloc_last w _) (by simp) hn).mono ?_
  rintro e w' ⟨h1, h2, h3⟩
  exact ⟨h1, h2, ((Below.refl _ _).alloc (Nat.le_refl _) _).trans h3⟩
set_option maxRecDepth 3000 in
set_option maxHeartbeats 400000 in
theorem text5 (bs : List UInt8) (ao : Option Addr) (n cap : Nat) (w : World) (hl : Hid (bs.length = n)) (hs : SlL w ao bs) (hn : n ≤ 1000000) :
    Calls Tryd.prog 42 #[.slice ao n cap, .int .i64 5] w fun e w' => ∃ D, B.Rel 5 bs D ∧ (∀ d ∈ D, d < 32) ∧ e = .returned (.string ⟨(B.txt D).toArray⟩) ∧ Below w.heap.size w w' := by
  have HS := hide hs
  clear hs
  go_enter Tryd.func42, Tryd.ntmps42
  go_wp2_with (go_at_call 49; refine (grow_at ((n * 8 + 5 - 1) / 5) _ w (by omega) (by omega)).mono ?_; rintro e w1 ⟨rfl, hI1, hB1⟩)
  go_loopw [6, 7, 21] (fun h c i wr => ∃ (j hh cc : Nat) (D : List Nat), j ≤ n ∧ i = .int .i64 (j : Int) ∧ h = .int .u64 (hh : Int) ∧ c = .int .i64 (cc : Int) ∧ cc < 5 ∧ Hid (B.Enc 5 (bs.take j) D cc hh) ∧ Lib.IsBuilderF 73 5 w.heap.size w.heap.size (Lib.byteCells (B.txt D)) wr ∧ Below w.heap.size w wr) (fun _ _ i _ => n - (intOf i).toNat)
  case atStart => exact ⟨0, 0, 0, [], by omega, rfl, rfl, rfl, by omega, B.Enc.zero 5, hI1, hB1⟩
  case round =>
    clear hI1 hB1
    obtain ⟨j, hh, cc, D, hj, rfl, rfl, rfl, hcc, HE, hI, hB⟩ := hrel
    have hz := hB.size
    by_cases hlt : j < n
    · obtain ⟨b, o, rfl, hblt, hc⟩ := HS.out (by have := hl.out; omega)
      have hcj := (hB.cell (p := ⟨b, o + j, none⟩) hblt).trans (hc j (by have := hl.out; omega))
      clear hc
      have h16 : hh < 16 := by
        have h1 := HE.out.2.1
        have h2 : 2 ^ cc ≤ 2 ^ 4 := Nat.pow_le_pow_right (by omega) (by omega)
        omega
      have hx := (bs.getD j 0).toNat_lt
      generalize hxx : bs.getD j 0 = x at hcj hx
      have HX := hide hxx
      clear hxx
      have hor := or_u64 hh x.toNat (by omega) hx
      go_wp2
      go_loopw [6, 7] (fun h c wr => ∃ (hh cc : Nat) (D : List Nat), h = .int .u64 (hh : Int) ∧ c = .int .i64 (cc : Int) ∧ cc ≤ 12 ∧ Hid (B.Enc 5 (bs.take (j + 1)) D cc hh) ∧ Lib.IsBuilderF 73 5 w.heap.size w.heap.size (Lib.byteCells (B.txt D)) wr ∧ Below w.heap.size w wr) (fun _ c _ => (intOf c).toNat)
      case atStart => exact ⟨hh * 256 + x.toNat, cc + 8, D, by simp, by go_num, by omega, (by rw [B.take_next bs j (by have := hl.out; omega), HX.out]; exact HE.out.byte x), hI, hB⟩
      case round =>
        clear hI hB hz hcj h16 hor HE hcc
        obtain ⟨hh, cc, D, rfl, rfl, hcc, HE, hI, hB⟩ := hrel
        have hz := hB.size
        have h16 : hh < 4096 := by
          have h1 := HE.out.2.1
          have h2 : 2 ^ cc ≤ 2 ^ 12 := Nat.pow_le_pow_right (by omega) (by omega)
          omega
        by_cases h5 : 5 ≤ cc
        · obtain ⟨c, rfl⟩ : ∃ c, cc = c + 5 := ⟨cc - 5, by omega⟩
          obtain ⟨d, hd⟩ : ∃ d, d = hh / 2 ^ c := ⟨_, rfl⟩
          have hd32 : d < 32 := by
            have h1 := HE.out.2.1
            rw [Nat.pow_add] at h1
            rw [hd]; exact Nat.div_lt_of_lt_mul h1
          have hdi : (hh : Int) / 2 ^ c = (d : Int) := by rw [hd]; simp
          have HD := hide hd
          clear hd
          have hand := and_u64 hh c (by omega) (by omega)
          obtain ⟨hp1, hp2⟩ := pow_bounds c (by omega)
          have hDl : D.length ≤ 10000000 := by
            have h1 := HE.out.2.2.1
            rw [List.length_take] at h1; have := hl.out; omega
          go_wp2_with (go_at_call 50; refine (write_at w.heap.size w.heap.size (B.txt D) (B.dch d) _ _ (dig_at d _) (by exact hI) (by unfold B.txt; rw [List.length_map]; omega) hz).mono ?_; rintro e w2 ⟨rfl, hI2, hB2⟩)
          go_roundw
          case rel => exact ⟨hh % 2 ^ c, c, D ++ [d], by simp, rfl, by omega, (by rw [HD.out]; exact HE.out.digit), by rw [← B.txt_app]; exact hI2, hB.trans hB2⟩
          case measure => simp [intOf]; omega
        · go_wp2
          go_roundw
          case rel => exact ⟨j + 1, hh, cc, D, by omega, by go_num, rfl, rfl, by omega, HE, hI, hB⟩
          case measure => simp [intOf]; omega
    · obtain rfl : j = n := by omega
      have hE : B.Enc 5 bs D cc hh := by
        have h1 := HE.out
        rw [List.take_of_length_le (by have := hl.out; omega)] at h1
        exact h1
      have HE2 := hide hE
      have h16 : hh < 16 := by
        have h1 := hE.2.1
        have h2 : 2 ^ cc ≤ 2 ^ 4 := Nat.pow_le_pow_right (by omega) (by omega)
        omega
      have hDl : D.length ≤ 10000000 := by
        have h1 := hE.2.2.1
        have := hl.out; omega
      clear hE HE
      by_cases h0 : cc = 0
      · subst h0
        go_wp2_with (go_at_call 51; refine (string_k w.heap.size w.heap.size (B.txt D) _ (by exact hI) hz).mono ?_; rintro e w2 ⟨rfl, hB2⟩)
        go_ret
        exact ⟨D, HE2.out.done0 (by omega), HE2.out.1, rfl, hB.trans hB2⟩
      · obtain ⟨q, hq⟩ : ∃ q, cc + q = 5 := ⟨5 - cc, by omega⟩
        have hqi : (5 : Int) - (cc : Int) = (q : Int) := by omega
        obtain ⟨hp1, hp2⟩ := pow_bounds q (by omega)
        have hlast := HE2.out.last (by omega) (by omega)
        rw [show 5 - cc = q by omega] at hlast
        obtain ⟨d, hd⟩ : ∃ d, d = hh * 2 ^ q := ⟨_, rfl⟩
        rw [← hd] at hlast
        have hd32 : d < 32 := hlast.2 d (by simp)
        have hdi : (hh : Int) * 2 ^ q = (d : Int) := by rw [hd]; simp
        have HL := hide hlast
        clear hd hlast
        go_wp2_with (first
          | (go_at_call 50; refine (write_at w.heap.size w.heap.size (B.txt D) (B.dch d) _ _ (dig_at d _) (by exact hI) (by unfold B.txt; rw [List.length_map]; omega) hz).mono ?_; rintro e w2 ⟨rfl, hI2, hB2⟩; rw [B.txt_app] at hI2; have hb2 := hB.trans hB2; have hz2 := hb2.size)
          | (go_at_call 51; refine (string_k w.heap.size w.heap.size (B.txt (D ++ [d])) _ (by exact hI2) hz2).mono ?_; rintro e w3 ⟨rfl, hB3⟩))
        go_ret
        exact ⟨D ++ [d], HL.out.1, HL.out.2, rfl, hb2.trans hB3⟩
set_option maxRecDepth 5000 in
theorem hex32_any (bs : List UInt8) (ao : Option Addr) (n cap : Nat) (w : World) (hl : Hid (bs.length = n)) (hs : SlL w ao bs) (hn : n ≤ 1000000) :
    Calls Tryd.prog 30 #[.slice ao n cap] w fun e w' => ∃ D, B.Rel 5 bs D ∧ (∀ d ∈ D, d < 32) ∧ e = .returned (.string ⟨(B.txt D).toArray⟩) ∧ Below w.heap.size w w' := by
  have HS := hide hs
  clear hs
  go_enter Tryd.func30, Tryd.ntmps30
  go_wp2_with (go_at_call 42; refine (text5 bs ao n cap _ hl (by exact HS.out) hn).mono ?_; rintro e w1 ⟨D, h1, h2, rfl, hB1⟩)
  go_ret
  exact ⟨D, h1, h2, rfl, hB1⟩
end Go.Proofs.YtgmjppmcfmcmkaaDoor
