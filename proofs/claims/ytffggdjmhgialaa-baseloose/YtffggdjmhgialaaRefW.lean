/- signetref1.Hex32, signetref1.Hex: the reference's texts. -/
import Derived.Test.YtffggdjmhgialaaOpenW
import Derived.Laws.DeepStrings4
namespace Go.Proofs.Ytffggdjmhgialaa
open Go.RowKit
namespace B
theorem low_byte (N x c : Nat) (hx : x < 256) : (N * 256 + x) % 2 ^ (c + 8) = N % 2 ^ c * 256 + x := by
  have h1 := Nat.div_add_mod N (2 ^ c)
  have h2 := Nat.mod_lt N (Nat.two_pow_pos c)
  have h3 : (N % 2 ^ c + 1) * 256 ≤ 2 ^ c * 256 := Nat.mul_le_mul_right _ h2
  have h4 : N * 256 + x = 2 ^ (c + 8) * (N / 2 ^ c) + (N % 2 ^ c * 256 + x) := by
    rw [Nat.pow_add, show (2 : Nat) ^ 8 = 256 from rfl]
    conv => lhs; rw [← h1]
    rw [Nat.add_mul, Nat.mul_right_comm, Nat.add_assoc]
  rw [h4, Nat.mul_add_mod, Nat.mod_eq_of_lt (by rw [Nat.pow_add, show (2 : Nat) ^ 8 = 256 from rfl]; omega)]
theorem mid_digit (N c : Nat) : N % 2 ^ (c + 5) / 2 ^ c = N / 2 ^ c % 32 := by
  rw [Nat.pow_add, Nat.mod_mul_right_div_self]
theorem low_mod (N c k : Nat) : N % 2 ^ (c + k) % 2 ^ c = N % 2 ^ c := Nat.mod_mod_of_dvd N (Nat.pow_dvd_pow 2 (by omega))
theorem last_digit (N c q : Nat) (h : c + q = 5) : N * 2 ^ q % 32 = N % 2 ^ c * 2 ^ q := by
  rw [show 32 = 2 ^ c * 2 ^ q by rw [← Nat.pow_add, h], Nat.mul_mod_mul_right]
theorem cut (d : Nat) (h : d < 32) : (ByteArray.mk #[48, 49, 50, 51, 52, 53, 54, 55, 56, 57, 97, 98, 99, 100, 101, 102, 103, 104, 105, 106, 107, 108, 109, 110, 111, 112, 113, 114, 115, 116, 117, 118]).extract d (d + 1) = ByteArray.mk [dch d].toArray := by
  have h1 : (ByteArray.mk #[48, 49, 50, 51, 52, 53, 54, 55, 56, 57, 97, 98, 99, 100, 101, 102, 103, 104, 105, 106, 107, 108, 109, 110, 111, 112, 113, 114, 115, 116, 117, 118]) = ByteArray.mk digs.toArray := rfl
  have h2 : d < digs.length := h
  rw [h1, ByteArray.extract_mk, Nat.add_sub_cancel_left]
  have h3 : (digs.drop d).take 1 = [dch d] := by
    rw [List.drop_eq_getElem_cons h2, List.take_succ_cons, List.take_zero]
    unfold dch; simp [h2]
  rw [h3]
theorem cut16 (d : Nat) (h : d < 16) : (ByteArray.mk #[48, 49, 50, 51, 52, 53, 54, 55, 56, 57, 97, 98, 99, 100, 101, 102]).extract d (d + 1) = ByteArray.mk [dch d].toArray := by
  have h1 : (ByteArray.mk #[48, 49, 50, 51, 52, 53, 54, 55, 56, 57, 97, 98, 99, 100, 101, 102]) = ByteArray.mk (digs.take 16).toArray := rfl
  have h2 : d < (digs.take 16).length := h
  rw [h1, ByteArray.extract_mk, Nat.add_sub_cancel_left]
  have h3 : ((digs.take 16).drop d).take 1 = [dch d] := by
    rw [List.drop_eq_getElem_cons h2, List.take_succ_cons, List.take_zero]
    have h4 : d < digs.length := by have : digs.length = 32 := rfl; omega
    unfold dch; simp [h4]
  rw [h3]
end B
theorem or_u32 (a b : Nat) (ha : a < 16777216) (hb : b < 256) : bits .or .u32 ((a : Int) * 256) (b : Int) = ((a * 256 + b : Nat) : Int) := by
  rw [show (a : Int) * 256 = ((a * 256 : Nat) : Int) by omega, u32_or_nat _ _ (by omega) (by omega), Nat.mul_comm, show 256 = 2 ^ 8 from rfl, ← Nat.two_pow_add_eq_or_of_lt hb]
theorem and31 (a : Nat) (ha : a < 4294967296) : bits .and .u32 (a : Int) 31 = ((a % 32 : Nat) : Int) := by
  rw [show (31 : Int) = ((31 : Nat) : Int) from rfl, u32_and_nat _ _ ha (by omega), show 31 = 2 ^ 5 - 1 from rfl, Nat.and_two_pow_sub_one_eq_mod]
theorem slice32 (k : IntKind) (d : Nat) (h : d < 32) (W : World) : (Instr.slice 9 (.string ⟨#[48, 49, 50, 51, 52, 53, 54, 55, 56, 57, 97, 98, 99, 100, 101, 102, 103, 104, 105, 106, 107, 108, 109, 110, 111, 112, 113, 114, 115, 116, 117, 118]⟩) (some (.int k (d : Int))) (some (.int k ((d : Int) + 1))) none).run Try.prog W = .ok (.string ⟨#[B.dch d]⟩) W := by
  rw [run_slice_string_if W 9 _ k k _ _ Try.underlying9, if_pos ⟨by omega, by show (d : Int) + 1 ≤ 32; omega⟩, if_pos ⟨by omega, by omega⟩, show ((d : Int) + 1).toNat = d + 1 by omega, Int.toNat_natCast, B.cut d h]
theorem slice16 (k : IntKind) (d : Nat) (h : d < 16) (W : World) : (Instr.slice 9 (.string ⟨#[48, 49, 50, 51, 52, 53, 54, 55, 56, 57, 97, 98, 99, 100, 101, 102]⟩) (some (.int k (d : Int))) (some (.int k ((d : Int) + 1))) none).run Try.prog W = .ok (.string ⟨#[B.dch d]⟩) W := by
  rw [run_slice_string_if W 9 _ k k _ _ Try.underlying9, if_pos ⟨by omega, by show (d : Int) + 1 ≤ 16; omega⟩, if_pos ⟨by omega, by omega⟩, show ((d : Int) + 1).toNat = d + 1 by omega, Int.toNat_natCast, B.cut16 d h]
theorem add_one (D : List Nat) (d : Nat) : (ByteArray.mk (B.txt D).toArray ++ ByteArray.mk #[B.dch d]) = ByteArray.mk (B.txt (D ++ [d])).toArray := by
  rw [show #[B.dch d] = [B.dch d].toArray from rfl, ByteArray.mk_append_mk, B.txt_app]
set_option maxRecDepth 3000 in
set_option maxHeartbeats 400000 in
theorem ref32_any (bs : List UInt8) (ao : Option Addr) (n cap : Nat) (w : World) (hl : Hid (bs.length = n)) (hs : SlL w ao bs) (hn : n ≤ 1000000) :
    Calls Try.prog 13 #[.slice ao n cap] w fun e w' => ∃ D, B.Rel 5 bs D ∧ (∀ d ∈ D, d < 32) ∧ e = .returned (.string ⟨(B.txt D).toArray⟩) ∧ Below w.heap.size w w' := by
  have HS := hide hs
  clear hs
  go_enter Try.func13, Try.ntmps13
  go_wp2
  go_loopw [3, 4, 5, 6] (fun t h c i wr => ∃ (j N cc : Nat) (D : List Nat), j ≤ n ∧ i = .int .i64 (j : Int) ∧ h = .int .u32 (N : Int) ∧ c = .int .i64 (cc : Int) ∧ t = .string ⟨(B.txt D).toArray⟩ ∧ N < 32 ∧ cc < 5 ∧ Hid (B.Enc 5 (bs.take j) D cc (N % 2 ^ cc)) ∧ Below w.heap.size w wr) (fun _ _ _ i _ => n - (intOf i).toNat)
  case atStart => exact ⟨0, 0, 0, [], by omega, rfl, rfl, rfl, rfl, by omega, by omega, B.Enc.zero 5, Below.refl _ _⟩
  case round =>
    obtain ⟨j, N, cc, D, hj, rfl, rfl, rfl, rfl, hN, hcc, HE, hB⟩ := hrel
    have hz := hB.size
    by_cases hlt : j < n
    · obtain ⟨b, o, rfl, hblt, hc⟩ := HS.out (by have := hl.out; omega)
      have hcj := (hB.cell (p := ⟨b, o + j, none⟩) hblt).trans (hc j (by have := hl.out; omega))
      clear hc
      have hx := (bs.getD j 0).toNat_lt
      generalize hxx : bs.getD j 0 = x at hcj hx
      have HX := hide hxx
      clear hxx
      have hor := or_u32 N x.toNat (by omega) hx
      have HE0 : Hid (B.Enc 5 (bs.take (j + 1)) D (cc + 8) ((N * 256 + x.toNat) % 2 ^ (cc + 8))) := by
        rw [B.take_next bs j (by have := hl.out; omega), HX.out, B.low_byte N x.toNat cc hx]; exact HE.out.byte x
      have hM : N * 256 + x.toNat < 8192 := by omega
      generalize N * 256 + x.toNat = M at hor HE0 hM
      clear HE
      go_wp2
      go_loopw [3, 5] (fun t c wr => ∃ (cc : Nat) (D : List Nat), c = .int .i64 (cc : Int) ∧ t = .string ⟨(B.txt D).toArray⟩ ∧ cc ≤ 12 ∧ Hid (B.Enc 5 (bs.take (j + 1)) D cc (M % 2 ^ cc)) ∧ Below w.heap.size w wr) (fun _ c _ => (intOf c).toNat)
      case atStart => exact ⟨cc + 8, D, by go_num, rfl, by omega, HE0, hB⟩
      case round =>
        clear hB hz hcj hor HE0 hcc hN
        obtain ⟨cc, D, rfl, rfl, hcc, HE, hB⟩ := hrel
        have hz := hB.size
        have hDl : D.length ≤ 10000000 := by
          have h1 := HE.out.2.2.1
          rw [List.length_take] at h1; have := hl.out; omega
        by_cases h5 : 5 ≤ cc
        · obtain ⟨c, rfl⟩ : ∃ c, cc = c + 5 := ⟨cc - 5, by omega⟩
          obtain ⟨d, hd⟩ : ∃ d, d = M / 2 ^ c % 32 := ⟨_, rfl⟩
          have hd32 : d < 32 := by omega
          have hdl : M / 2 ^ c < 8192 := Nat.lt_of_le_of_lt (Nat.div_le_self _ _) hM
          have hdi : bits .and .u32 ((M : Int) / 2 ^ c) 31 = (d : Int) := by
            rw [hd, ← and31 _ (by omega)]; simp
          have HE2 : Hid (B.Enc 5 (bs.take (j + 1)) (D ++ [d]) c (M % 2 ^ c)) := by
            have h1 := HE.out.digit
            rw [B.mid_digit, ← hd, B.low_mod] at h1
            exact h1
          have hcut := slice32 .u32 d hd32
          have hsz : (B.txt D).length ≤ 10000000 := by unfold B.txt; rw [List.length_map]; exact hDl
          clear hd hdl
          go_wp2
          go_roundw
          case rel => exact ⟨c, D ++ [d], rfl, by rw [add_one], by omega, HE2, hB⟩
          case measure => simp [intOf]; omega
        · have hand := and31 M (by omega)
          have HE2 : Hid (B.Enc 5 (bs.take (j + 1)) D cc (M % 32 % 2 ^ cc)) := by
            have h1 := B.low_mod M cc (5 - cc)
            rw [show cc + (5 - cc) = 5 by omega] at h1
            rw [show 32 = 2 ^ 5 from rfl, h1]; exact HE
          have h32 : M % 32 < 32 := by omega
          generalize M % 32 = N2 at hand HE2 h32
          clear HE
          go_wp2
          go_roundw
          case rel => exact ⟨j + 1, N2, cc, D, by omega, by go_num, rfl, rfl, rfl, h32, by omega, HE2, hB⟩
          case measure => simp [intOf]; omega
    · obtain rfl : j = n := by omega
      have hE : B.Enc 5 bs D cc (N % 2 ^ cc) := by
        have h1 := HE.out
        rw [List.take_of_length_le (by have := hl.out; omega)] at h1
        exact h1
      have HE2 := hide hE
      have hDl : D.length ≤ 10000000 := by
        have h1 := hE.2.2.1
        have := hl.out; omega
      have hsz : (B.txt D).length ≤ 10000000 := by unfold B.txt; rw [List.length_map]; exact hDl
      clear hE HE
      by_cases h0 : cc = 0
      · subst h0
        go_wp2
        go_ret
        exact ⟨D, HE2.out.done0 (by omega), HE2.out.1, rfl, hB⟩
      · obtain ⟨q, hq⟩ : ∃ q, cc + q = 5 := ⟨5 - cc, by omega⟩
        have hqi : (5 : Int) - (cc : Int) = (q : Int) := by omega
        obtain ⟨hp1, hp2⟩ := pow_bounds q (by omega)
        have hp3 : (2 : Int) ^ q ≤ 32 := by
          have h1 : 2 ^ q ≤ 2 ^ 5 := Nat.pow_le_pow_right (by omega) (by omega)
          have h3 : (2 : Int) ^ q = ((2 ^ q : Nat) : Int) := by simp
          rw [h3]; omega
        have hNq : N * 2 ^ q < 4294967296 := by
          have h1 : 2 ^ q ≤ 2 ^ 5 := Nat.pow_le_pow_right (by omega) (by omega)
          have h2 : N * 2 ^ q ≤ 32 * 2 ^ 5 := Nat.mul_le_mul (by omega) h1
          omega
        have hNqi : (N : Int) * 2 ^ q = ((N * 2 ^ q : Nat) : Int) := by simp
        have hlast := HE2.out.last (by omega) (by omega)
        rw [show 5 - cc = q by omega, ← B.last_digit N cc q hq] at hlast
        have hand := and31 (N * 2 ^ q) hNq
        rw [← hNqi] at hand
        obtain ⟨d, hd⟩ : ∃ d, d = N * 2 ^ q % 32 := ⟨_, rfl⟩
        have hd32 : d < 32 := by omega
        rw [← hd] at hlast hand
        have HL := hide hlast
        have hcut := slice32 .u32 d hd32
        have hNb : (N : Int) * 2 ^ q ≤ 1024 := by
          have h1 : 2 ^ q ≤ 2 ^ 5 := Nat.pow_le_pow_right (by omega) (by omega)
          have h2 : N * 2 ^ q ≤ 32 * 2 ^ 5 := Nat.mul_le_mul (by omega) h1
          rw [hNqi]; omega
        have hNb0 : 0 ≤ (N : Int) * 2 ^ q := by rw [hNqi]; omega
        clear hd hlast hNqi hNq
        go_wp2
        go_ret
        exact ⟨D ++ [d], HL.out.1, HL.out.2, by rw [← add_one]; rfl, hB⟩
theorem below_drewN {B : Nat} {w wr : World} (h : Below B w wr) (n : Nat) : Below B w (wr.drewN n) := ⟨h.os, h.tape, h.output, h.size, h.block⟩
theorem and15 (a : Nat) (ha : a < 256) : bits .and .u8 (a : Int) 15 = ((a % 16 : Nat) : Int) := by
  rw [show (15 : Int) = ((15 : Nat) : Int) from rfl, u8_and_nat _ _ ha (by omega), show 15 = 2 ^ 4 - 1 from rfl, Nat.and_two_pow_sub_one_eq_mod]
theorem enc4_next {bs : List UInt8} {D : List Nat} (h : B.Enc 4 bs D 0 0) (x : UInt8) : B.Enc 4 (bs ++ [x]) (D ++ [x.toNat / 16] ++ [x.toNat % 16]) 0 0 := by
  have h1 := h.byte x
  have h2 := B.Enc.digit (k := 4) (c := 4) h1
  have h3 := B.Enc.digit (k := 4) (c := 0) h2
  simpa [Nat.mod_one] using h3
set_option maxRecDepth 3000 in
set_option maxHeartbeats 400000 in
theorem ref16_any (bs : List UInt8) (ao : Option Addr) (n cap : Nat) (w : World) (hl : Hid (bs.length = n)) (hs : SlL w ao bs) (hn : n ≤ 1000000) :
    Calls Try.prog 14 #[.slice ao n cap] w fun e w' => ∃ D, B.Rel 4 bs D ∧ (∀ d ∈ D, d < 16) ∧ e = .returned (.string ⟨(B.txt D).toArray⟩) ∧ Below w.heap.size w w' := by
  have HS := hide hs
  clear hs
  go_enter Try.func14, Try.ntmps14
  go_wp2
  go_loopw [3, 4] (fun t i wr => ∃ (j : Nat) (D : List Nat), j ≤ n ∧ i = .int .i64 (j : Int) ∧ t = .string ⟨(B.txt D).toArray⟩ ∧ Hid (B.Enc 4 (bs.take j) D 0 0) ∧ Below w.heap.size w wr) (fun _ i _ => n - (intOf i).toNat)
  case atStart => exact ⟨0, [], by omega, rfl, rfl, B.Enc.zero 4, Below.refl _ _⟩
  case round =>
    obtain ⟨j, D, hj, rfl, rfl, HE, hB⟩ := hrel
    have hz := hB.size
    by_cases hlt : j < n
    · obtain ⟨b, o, rfl, hblt, hc⟩ := HS.out (by have := hl.out; omega)
      have hcj := (hB.cell (p := ⟨b, o + j, none⟩) hblt).trans (hc j (by have := hl.out; omega))
      clear hc
      have hx := (bs.getD j 0).toNat_lt
      generalize hxx : bs.getD j 0 = x at hcj hx
      have HX := hide hxx
      clear hxx
      have hDl : D.length ≤ 10000000 := by
        have h1 := HE.out.2.2.1
        rw [List.length_take] at h1; have := hl.out; omega
      have hsz : (B.txt D).length ≤ 10000000 := by unfold B.txt; rw [List.length_map]; exact hDl
      have HE2 : Hid (B.Enc 4 (bs.take (j + 1)) (D ++ [x.toNat / 16] ++ [x.toNat % 16]) 0 0) := by
        rw [B.take_next bs j (by have := hl.out; omega), HX.out]; exact enc4_next HE.out x
      obtain ⟨d, hd⟩ : ∃ d, d = x.toNat / 16 := ⟨_, rfl⟩
      obtain ⟨q, hq⟩ : ∃ q, q = x.toNat % 16 := ⟨_, rfl⟩
      have hd16 : d < 16 := by omega
      have hq16 : q < 16 := by omega
      have hdi : (x.toNat : Int) / 16 = (d : Int) := by omega
      have hqi := and15 x.toNat hx
      rw [← hq] at hqi HE2
      rw [← hd] at HE2
      have hs1 := slice16 .u8 d hd16
      have hs2 := slice16 .u8 q hq16
      clear hd hq HE
      go_wp2
      go_quiet (fail)
      go_wp2
      go_roundw
      case rel => exact ⟨j + 1, D ++ [d] ++ [q], by omega, by go_num, by rw [add_one, add_one], HE2, below_drewN hB _⟩
      case measure => simp [intOf]; omega
    · obtain rfl : j = n := by omega
      have hE : B.Enc 4 bs D 0 0 := by
        have h1 := HE.out
        rw [List.take_of_length_le (by have := hl.out; omega)] at h1
        exact h1
      have HE2 := hide hE
      clear hE HE
      go_wp2
      go_ret
      exact ⟨D, HE2.out.done0 (by omega), HE2.out.1, rfl, hB⟩
end Go.Proofs.Ytffggdjmhgialaa
