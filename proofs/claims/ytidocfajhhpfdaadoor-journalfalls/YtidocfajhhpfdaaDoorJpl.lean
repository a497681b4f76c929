/- Sums, numbers, heads, frames: plain. -/
import Derived.Test.YtidocfajhhpfdaaDoorChecked
namespace Go.Proofs.YtidocfajhhpfdaaDoor
namespace J
/- one bit of a sum -/
def st1 (c : BitVec 32) : BitVec 32 := c >>> 1 ^^^ (if c.getLsbD 0 then 3988292384#32 else 0#32)
def st4 (c : BitVec 32) : BitVec 32 := st1 (st1 (st1 (st1 c)))
def tab : List (BitVec 32) := [0#32, 498536548#32, 997073096#32, 651767980#32, 1994146192#32, 1802195444#32, 1303535960#32, 1342533948#32, 3988292384#32, 4027552580#32, 3604390888#32, 3412177804#32, 2607071920#32, 2262029012#32, 2685067896#32, 3183342108#32]
def tb (i : Nat) : BitVec 32 := tab.getD i 0#32
def sx (c : BitVec 32) (x : UInt8) : BitVec 32 := c ^^^ BitVec.ofNat 32 x.toNat
def st8 (c : BitVec 32) (x : UInt8) : BitVec 32 := st4 (st4 (sx c x))
def run (c : BitVec 32) (l : List UInt8) : BitVec 32 := l.foldl st8 c
def crc (l : List UInt8) : Nat := (~~~ (run 4294967295#32 l)).toNat
set_option maxRecDepth 5000 in
theorem st1_xor (a b : BitVec 32) : st1 (a ^^^ b) = st1 a ^^^ st1 b := by
  unfold st1
  rw [BitVec.ushiftRight_xor_distrib, BitVec.getLsbD_xor]
  cases a.getLsbD 0 <;> cases b.getLsbD 0 <;> simp
  · rw [← BitVec.xor_assoc]
  · rw [BitVec.xor_assoc, BitVec.xor_assoc]; congr 1; rw [BitVec.xor_comm]
  · rw [BitVec.xor_assoc]; congr 1
    rw [BitVec.xor_comm (b >>> 1), ← BitVec.xor_assoc, BitVec.xor_self, BitVec.zero_xor]
set_option maxRecDepth 5000 in
theorem st4_xor (a b : BitVec 32) : st4 (a ^^^ b) = st4 a ^^^ st4 b := by simp only [st4, st1_xor]
set_option maxRecDepth 5000 in
theorem st1_shift (a : BitVec 32) (h : a.getLsbD 0 = false) : st1 a = a >>> 1 := by unfold st1; rw [h]; simp
set_option maxRecDepth 5000 in
theorem sh3 (d : BitVec 32) (h : d.toNat < 268435456) : st1 (d <<< 4) = d <<< 3 := by
  rw [st1_shift _ (by simp)]
  apply BitVec.eq_of_toNat_eq
  simp only [BitVec.toNat_ushiftRight, BitVec.toNat_shiftLeft, Nat.shiftLeft_eq, Nat.shiftRight_eq_div_pow]
  omega
set_option maxRecDepth 5000 in
theorem sh2 (d : BitVec 32) (h : d.toNat < 268435456) : st1 (d <<< 3) = d <<< 2 := by
  rw [st1_shift _ (by simp)]
  apply BitVec.eq_of_toNat_eq
  simp only [BitVec.toNat_ushiftRight, BitVec.toNat_shiftLeft, Nat.shiftLeft_eq, Nat.shiftRight_eq_div_pow]
  omega
set_option maxRecDepth 5000 in
theorem sh1 (d : BitVec 32) (h : d.toNat < 268435456) : st1 (d <<< 2) = d <<< 1 := by
  rw [st1_shift _ (by simp)]
  apply BitVec.eq_of_toNat_eq
  simp only [BitVec.toNat_ushiftRight, BitVec.toNat_shiftLeft, Nat.shiftLeft_eq, Nat.shiftRight_eq_div_pow]
  omega
set_option maxRecDepth 5000 in
theorem sh0 (d : BitVec 32) (h : d.toNat < 268435456) : st1 (d <<< 1) = d := by
  rw [st1_shift _ (by simp)]
  apply BitVec.eq_of_toNat_eq
  simp only [BitVec.toNat_ushiftRight, BitVec.toNat_shiftLeft, Nat.shiftLeft_eq, Nat.shiftRight_eq_div_pow]
  omega
set_option maxRecDepth 5000 in
theorem st4_high (d : BitVec 32) (h : d.toNat < 268435456) : st4 (d <<< 4) = d := by
  unfold st4; rw [sh3 d h, sh2 d h, sh1 d h, sh0 d h]
set_option maxRecDepth 5000 in
theorem st4_low : ∀ i : Fin 16, st4 (BitVec.ofNat 32 i.val) = tb i.val := by decide
set_option maxRecDepth 5000 in
theorem shr_lt (c : BitVec 32) : (c >>> 4).toNat < 268435456 := by
  rw [BitVec.toNat_ushiftRight, Nat.shiftRight_eq_div_pow]; have := c.isLt; omega
set_option maxRecDepth 5000 in
theorem low_lt (c : BitVec 32) : c.toNat % 16 < 16 := Nat.mod_lt _ (by omega)
set_option maxRecDepth 5000 in
theorem parts (c : BitVec 32) : c = (c >>> 4) <<< 4 ^^^ BitVec.ofNat 32 (c.toNat % 16) := by
  have h : (c >>> 4) <<< 4 ^^^ BitVec.ofNat 32 (c.toNat % 16) = (c >>> 4) <<< 4 + BitVec.ofNat 32 (c.toNat % 16) := by
    rw [BitVec.add_eq_or_of_and_eq_zero]
    · ext i hi
      simp only [BitVec.getElem_xor, BitVec.getElem_or]
      have : ∀ a b : Bool, (a && b) = false → (a ^^ b) = (a || b) := by decide
      apply this
      by_cases h4 : i < 4
      · simp [h4]
      · have : (BitVec.ofNat 32 (c.toNat % 16))[i] = false := by
          rw [← BitVec.getLsbD_eq_getElem, BitVec.getLsbD_ofNat]
          rw [Nat.testBit_eq_decide_div_mod_eq]
          have : c.toNat % 16 / 2 ^ i = 0 := by
            apply Nat.div_eq_of_lt
            exact Nat.lt_of_lt_of_le (Nat.mod_lt _ (by omega)) (by
              have : 2 ^ 4 ≤ 2 ^ i := Nat.pow_le_pow_right (by omega) (by omega)
              omega)
          rw [this]; simp
        rw [this]; simp
    · ext i hi
      simp only [BitVec.getElem_and]
      by_cases h4 : i < 4
      · simp [h4]
      · have : (BitVec.ofNat 32 (c.toNat % 16))[i] = false := by
          rw [← BitVec.getLsbD_eq_getElem, BitVec.getLsbD_ofNat]
          rw [Nat.testBit_eq_decide_div_mod_eq]
          have : c.toNat % 16 / 2 ^ i = 0 := by
            apply Nat.div_eq_of_lt
            exact Nat.lt_of_lt_of_le (Nat.mod_lt _ (by omega)) (by
              have : 2 ^ 4 ≤ 2 ^ i := Nat.pow_le_pow_right (by omega) (by omega)
              omega)
          rw [this]; simp
        rw [this]; simp
  rw [h]
  apply BitVec.eq_of_toNat_eq
  have := c.isLt
  simp only [BitVec.toNat_add, BitVec.toNat_shiftLeft, BitVec.toNat_ushiftRight, Nat.shiftLeft_eq, Nat.shiftRight_eq_div_pow, BitVec.toNat_ofNat]
  omega
set_option maxRecDepth 5000 in
theorem st4_tab (c : BitVec 32) : st4 c = c >>> 4 ^^^ tb (c.toNat % 16) := by
  conv => lhs; rw [parts c]
  rw [st4_xor, st4_high _ (shr_lt c), st4_low ⟨c.toNat % 16, low_lt c⟩]
set_option maxRecDepth 5000 in
theorem tb_lt (i : Nat) (h : i < 16) : tab[i]? = some (tb i) := by
  unfold tb
  have : i < tab.length := h
  simp [List.getD_eq_getElem?_getD, this]
set_option maxRecDepth 5000 in
theorem crc_lt (l : List UInt8) : crc l < 4294967296 := (~~~ (run 4294967295#32 l)).isLt
end J
end Go.Proofs.YtidocfajhhpfdaaDoor
