/- signetref1.Hex32: the reference's text; both texts as contracts of one answer. -/
import Derived.Test.YtgmjppmcfmcmkaaDoorHxT
import Derived.Laws.DeepStrings4
namespace Go.Proofs.YtgmjppmcfmcmkaaDoor
open Go.RowKit
namespace B
set_option maxRecDepth 5000 in
theorem low_byte (N x c : Nat) (hx : x < 256) : (N * 256 + x) % 2 ^ (c + 8) = N % 2 ^ c * 256 + x := by
  have h1 := Nat.div_add_mod N (2 ^ c)
  have h2 := Nat.mod_lt N (Nat.two_pow_pos c)
  have h3 : (N % 2 ^ c + 1) * 256 ≤ 2 ^ c * 256 := Nat.mul_le_mul_right _ h2
  have h4 : N * 256 + x = 2 ^ (c + 8) * (N / 2 ^ c) + (N % 2 ^ c * 256 + x) := by
    rw [Nat.pow_add, show (2 : Nat) ^ 8 = 256 from rfl]
    conv => lhs; rw [← h1]
    rw [Nat.add_mul, Nat.mul_right_comm, Nat.add_assoc]
  rw [h4, Nat.mul_add_mod, Nat.mod_eq_of_lt (by rw [Nat.pow_add, show (2 : Nat) ^ 8 = 256 from rfl]; omega)]
set_option maxRecDepth 5000 in
theorem mid_digit (N c : Nat) : N % 2 ^ (c + 5) / 2 ^ c = N / 2 ^ c % 32 := by
  rw [Nat.pow_add, Nat.mod_mul_right_div_self]
set_option maxRecDepth 5000 in
theorem low_mod (N c k : Nat) : N % 2 ^ (c + k) % 2 ^ c = N % 2 ^ c := Nat.mod_mod_of_dvd N (Nat.pow_dvd_pow 2 (by omega))
set_option maxRecDepth 5000 in
theorem last_digit (N c q : Nat) (h : c + q = 5) : N * 2 ^ q % 32 = N % 2 ^ c * 2 ^ q := by
  rw [show 32 = 2 ^ c * 2 ^ q by rw [← Nat.pow_add, h], Nat.mul_mod_mul_right]
set_option maxRecDepth 5000 in
theorem cut (d : Nat) (h : d < 32) : (ByteArray.mk #[48, 49, 50, 51, 52, 53, 54, 55, 56, 57, 97, 98, 99, 100, 101, 102, 103, 104, 105, 106, 107, 108, 109, 110, 111, 112, 113, 114, 115, 116, 117, 118]).extract d (d + 1) = ByteArray.mk [dch d].toArray := by
  have h1 : (ByteArray.mk #[48, 49, 50, 51, 52, 53, 54, 55, 56, 57, 97, 98, 99, 100, 101, 102, 103, 104, 105, 106, 107, 108, 109, 110, 111, 112, 113, 114, 115, 116, 117, 118]) = ByteArray.mk digs.toArray := rfl
  have h2 : d < digs.length := h
  rw [h1, ByteArray.extract_mk, Nat.add_sub_cancel_left]
  have h3 : (digs.drop d).take 1 = [dch d] := by
    rw [List.drop_eq_getElem_cons h2, List.take_succ_cons, List.take_zero]
    unfold dch; simp [h2]
  rw [h3]
end B
set_option maxRecDepth 5000 in
theorem or_u32 (a b : Nat) (ha : a < 16777216) (hb : b < 256) : bits .or .u32 ((a : Int) * 256) (b : Int) = ((a * 256 + b : Nat) : Int) := by
  rw [show (a : Int) * 256 = ((a * 256 : Nat) : Int) by omega, u32_or_nat _ _ (by omega) (by omega), Nat.mul_comm, show 256 = 2 ^ 8 from rfl, ← Nat.two_pow_add_eq_or_of_lt hb]
set_option maxRecDepth 5000 in
theorem and31 (a : Nat) (ha : a < 4294967296) : bits .and .u32 (a : Int) 31 = ((a % 32 : Nat) : Int) := by
  rw [show (31 : Int) = ((31 : Nat) : Int) from rfl, u32_and_nat _ _ ha (by omega), show 31 = 2 ^ 5 - 1 from rfl, Nat.and_two_pow_sub_one_eq_mod]
set_option maxRecDepth 5000 in
theorem slice32 (k : IntKind) (d : Nat) (h : d < 32) (W : World) : (Instr.slice 9 (.string ⟨#[48, 49, 50, 51, 52, 53, 54, 55, 56, 57, 97, 98, 99, 100, 101, 102, 103, 104, 105, 106, 107, 108, 109, 110, 111, 112, 113, 114, 115, 116, 117, 118]⟩) (some (.int k (d : Int))) (some (.int k ((d : Int) + 1))) none).run Tryd.prog W = .ok (.string ⟨#[B.dch d]⟩) W := by
  rw [run_slice_string_if W 9 _ k k _ _ Tryd.underlying9, if_pos ⟨by omega, by show (d : Int) + 1 ≤ 32; omega⟩, if_pos ⟨by omega, by omega⟩, show ((d : Int) + 1).toNat = d + 1 by omega, Int.toNat_natCast, B.cut d h]
set_option maxRecDepth 5000 in
theorem add_one (D : List Nat) (d : Nat) : (ByteArray.mk (B.txt D).toArray ++ ByteArray.mk #[B.dch d]) = ByteArray.mk (B.txt (D ++ [d])).toArray := by
  rw [show #[B.dch d] = [B.dch d].toArray from rfl, ByteArray.mk_append_mk, B.txt_app]
set_option maxRecDepth 3000 in
set_option maxHeartbeats 400000 in
theorem ref32_any (bs : List UInt8) (ao : Option Addr) (n cap : Nat) (w : World) (hl : Hid (bs.length = n)) (hs : SlL w ao bs) (hn : n ≤ 1000000) :
    Calls Tryd.prog 31 #[.slice ao n cap] w fun e w' => ∃ D, B.Rel 5 bs D ∧ (∀ d ∈ D, d < 32) ∧ e = .returned (.string ⟨(B.txt D).toArray⟩) ∧ Below w.heap.size w w' := by
  have HS := hide hs
  clear hs
  go_enter Tryd.func31, Tryd.ntmps31
  go_wp2
  go_loopw [3, 4, 5, 6] (fun t h c i wr => ∃ (j N cc : Nat) (D : List Nat), j ≤ n ∧ i = .int .i64 (j : Int) ∧ h = .int .u32 (N : Int) ∧ c = .int .i64 (cc : Int) ∧ t = .string ⟨(B.txt D).toArray⟩ ∧ N < 32 ∧ cc < 5 ∧ Hid (B.Enc 5 (bs.take j) D cc (N % 2 ^ cc)) ∧ Below w.heap.size w wr) (fun _ _ _ i _ => n - (intOf i).toNat)
  case atStart => exact ⟨0, 0, 0, [], by omega, rfl, rfl, rfl, rfl, by omega, by omega, B.Enc.zero 5, Below.refl _ _⟩
  case round =>
    obtain ⟨j, N, cc, D, hj, rfl, rfl, rfl, rfl, hN, hcc, HE, hB⟩ := hrel
    have hz := hB.size
    by_cases hlt : j < n
    · obtain ⟨b, o, rfl, hblt, hc⟩ := HS.out (by have := hl.out; omega)
      have hcj := (hB.cell (p := ⟨b, o + j, none⟩) hblt).trans (hc j (by have := hl.out; omega))
      clear hc
      have hx := (bs.getD j 0).toNat_lt
      generalize hxx : bs.getD j 0 = x at hcj hx
      have HX := hide hxx
      clear hxx
      have hor := or_u32 N x.toNat (by omega) hx
      have HE0 : Hid (B.Enc 5 (bs.take (j + 1)) D (cc + 8) ((N * 256 + x.toNat) % 2 ^ (cc + 8))) := by
        rw [B.take_next bs j (by have := hl.out; omega), HX.out, B.low_byte N x.toNat cc hx]; exact HE.out.byte x
      have hM : N * 256 + x.toNat < 8192 := by omega
      generalize N * 256 + x.toNat = M at hor HE0 hM
      clear HE
      go_wp2
      go_loopw [3, 5] (fun t c wr => ∃ (cc : Nat) (D : List Nat), c = .int .i64 (cc : Int) ∧ t = .string ⟨(B.txt D).toArray⟩ ∧ cc ≤ 12 ∧ Hid (B.Enc 5 (bs.take (j + 1)) D cc (M % 2 ^ cc)) ∧ Below w.heap.size w wr) (fun _ c _ => (intOf c).toNat)
      case atStart => exact ⟨cc + 8, D, by go_num, rfl, by omega, HE0, hB⟩
      case round =>
        clear hB hz hcj hor HE0 hcc hN
        obtain ⟨cc, D, rfl, rfl, hcc, HE, hB⟩ := hrel
        have hz := hB.size
        have hDl : D.length ≤ 10000000 := by
          have h1 := HE.out.2.2.1
          rw [List.length_take] at h1; have := hl.out; omega
        by_cases h5 : 5 ≤ cc
        · obtain ⟨c, rfl⟩ : ∃ c, cc = c + 5 := ⟨cc - 5, by omega⟩
          obtain ⟨d, hd⟩ : ∃ d, d = M / 2 ^ c % 32 := ⟨_, rfl⟩
          have hd32 : d < 32 := by omega
          have hdl : M / 2 ^ c < 8192 := Nat.lt_of_le_of_lt (Nat.div_le_self _ _) hM
          have hdi : bits .and .u32 ((M : Int) / 2 ^ c) 31 = (d : Int) := by
            rw [hd, ← and31 _ (by omega)]; simp
          have HE2 : Hid (B.Enc 5 (bs.take (j + 1)) (D ++ [d]) c (M % 2 ^ c)) := by
            have h1 := HE.out.digit
            rw [B.mid_digit, ← hd, B.low_mod] at h1
            exact h1
          have hcut := slice32 .u32 d hd32
          have hsz : (B.txt D).length ≤ 10000000 := by unfold B.txt; rw [List.length_map]; exact hDl
          clear hd hdl
          go_wp2
          go_roundw
          case rel => exact ⟨c, D ++ [d], rfl, by rw [add_one], by omega, HE2, hB⟩
          case measure => simp [intOf]; omega
        · have hand := and31 M (by omega)
          have HE2 : Hid (B.Enc 5 (bs.take (j + 1)) D cc (M % 32 % 2 ^ cc)) := by
            have h1 := B.low_mod M cc (5 - cc)
            rw [show cc + (5 - cc) = 5 by omega] at h1
            rw [show 32 = 2 ^ 5 from rfl, h1]; exact HE
          have h32 : M % 32 < 32 := by omega
          generalize M % 32 = N2 at hand HE2 h32
          clear HE
          go_wp2
          go_roundw
          case rel => exact ⟨j + 1, N2, cc, D, by omega, by go_num, rfl, rfl, rfl, h32, by omega, HE2, hB⟩
          case measure => simp [intOf]; omega
    · obtain rfl : j = n := by omega
      have hE : B.Enc 5 bs D cc (N % 2 ^ cc) := by
        have h1 := HE.out
        rw [List.take_of_length_le (by have := hl.out; omega)] at h1
        exact h1
      have HE2 := hide hE
      have hDl : D.length ≤ 10000000 := by
        have h1 := hE.2.2.1
        have := hl.out; omega
      have hsz : (B.txt D).length ≤ 10000000 := by unfold B.txt; rw [List.length_map]; exact hDl
      clear hE HE
      by_cases h0 : cc = 0
      · subst h0
        go_wp2
        go_ret
        exact ⟨D, HE2.out.done0 (by omega), HE2.out.1, rfl, hB⟩
      · obtain ⟨q, hq⟩ : ∃ q, cc + q = 5 := ⟨5 - cc, by omega⟩
        have hqi : (5 : Int) - (cc : Int) = (q : Int) := by omega
        obtain ⟨hp1, hp2⟩ := pow_bounds q (by omega)
        have hp3 : (2 : Int) ^ q ≤ 32 := by
          have h1 : 2 ^ q ≤ 2 ^ 5 := Nat.pow_le_pow_right (by omega) (by omega)
          have h3 : (2 : Int) ^ q = ((2 ^ q : Nat) : Int) := by simp
          rw [h3]; omega
        have hNq : N * 2 ^ q < 4294967296 := by
          have h1 : 2 ^ q ≤ 2 ^ 5 := Nat.pow_le_pow_right (by omega) (by omega)
          have h2 : N * 2 ^ q ≤ 32 * 2 ^ 5 := Nat.mul_le_mul (by omega) h1
          omega
        have hNqi : (N : Int) * 2 ^ q = ((N * 2 ^ q : Nat) : Int) := by simp
        have hlast := HE2.out.last (by omega) (by omega)
        rw [show 5 - cc = q by omega, ← B.last_digit N cc q hq] at hlast
        have hand := and31 (N * 2 ^ q) hNq
        rw [← hNqi] at hand
        obtain ⟨d, hd⟩ : ∃ d, d = N * 2 ^ q % 32 := ⟨_, rfl⟩
        have hd32 : d < 32 := by omega
        rw [← hd] at hlast hand
        have HL := hide hlast
        have hcut := slice32 .u32 d hd32
        have hNb : (N : Int) * 2 ^ q ≤ 1024 := by
          have h1 : 2 ^ q ≤ 2 ^ 5 := Nat.pow_le_pow_right (by omega) (by omega)
          have h2 : N * 2 ^ q ≤ 32 * 2 ^ 5 := Nat.mul_le_mul (by omega) h1
          rw [hNqi]; omega
        have hNb0 : 0 ≤ (N : Int) * 2 ^ q := by rw [hNqi]; omega
        clear hd hlast hNqi hNq
        go_wp2
        go_ret
        exact ⟨D ++ [d], HL.out.1, HL.out.2, by rw [← add_one]; rfl, hB⟩
namespace B
set_option maxRecDepth 5000 in
theorem txt_len (D : List Nat) : (txt D).length = D.length := by simp [txt]
end B
/- the one text -/
def Is (k q : Nat) (bs : List UInt8) (D : List Nat) : Prop := B.Rel k bs D ∧ ∀ d ∈ D, d < q
set_option maxRecDepth 5000 in
theorem hex32_is (bs : List UInt8) (D : List Nat) (ao : Option Addr) (n cap : Nat) (w : World) (hl : Hid (bs.length = n)) (hs : SlL w ao bs) (hn : n ≤ 1000000) (hD : Hid (Is 5 32 bs D)) :
    Calls Tryd.prog 30 #[.slice ao n cap] w fun e w' => e = .returned (.string ⟨(B.txt D).toArray⟩) ∧ Below w.heap.size w w' := by
  refine (hex32_any bs ao n cap w hl hs hn).mono ?_
  rintro e w' ⟨E, h1, h2, rfl, hB⟩
  obtain rfl := B.Rel.digits h1 hD.out.1 h2 hD.out.2
  exact ⟨rfl, hB⟩
set_option maxRecDepth 5000 in
theorem ref32_is (bs : List UInt8) (D : List Nat) (ao : Option Addr) (n cap : Nat) (w : World) (hl : Hid (bs.length = n)) (hs : SlL w ao bs) (hn : n ≤ 1000000) (hD : Hid (Is 5 32 bs D)) :
    Calls Tryd.prog 31 #[.slice ao n cap] w fun e w' => e = .returned (.string ⟨(B.txt D).toArray⟩) ∧ Below w.heap.size w w' := by
  refine (ref32_any bs ao n cap w hl hs hn).mono ?_
  rintro e w' ⟨E, h1, h2, rfl, hB⟩
  obtain rfl := B.Rel.digits h1 hD.out.1 h2 hD.out.2
  exact ⟨rfl, hB⟩
set_option maxRecDepth 5000 in
theorem Is.len {k q : Nat} {b : List UInt8} {D : List Nat} (h : Is k q b D) (hk : 4 ≤ k) (hb : b.length ≤ 10000) : (B.txt D).length ≤ 20001 := by
  obtain ⟨⟨p, hp, hl, _⟩, _⟩ := h
  rw [B.txt_len]
  have h1 : 4 * D.length ≤ k * D.length := Nat.mul_le_mul_right _ hk
  rcases Nat.lt_or_ge 20001 D.length with h2 | h2
  · have h3 : k * 20002 ≤ k * D.length := Nat.mul_le_mul_left _ h2
    omega
  · exact h2
end Go.Proofs.YtgmjppmcfmcmkaaDoor
