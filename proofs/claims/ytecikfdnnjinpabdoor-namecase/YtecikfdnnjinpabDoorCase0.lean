/- What capitals leave as it is: right names, their order. Slices of bools. Plain. -/
import Derived.Test.YtecikfdnnjinpabDoorBack0
import Derived.Test.YtecikfdnnjinpabDoorHelp
import Derived.Test.YtecikfdnnjinpabDoorLower
import Derived.Laws.BitsAllLaws
namespace Go.Proofs.YtecikfdnnjinpabDoor
open Go.RowKit
theorem Right.small {n : List (List UInt8)} (h : Right n) : N.Small n := ⟨by have := h.1; omega, fun l hl => by have := (h.2.1 l hl).2; omega⟩
theorem Right.sane {n : List (List UInt8)} (h : Right n) : Sane n := fun l hl => by have := (h.2.1 l hl).2; omega
theorem Right.nonil {n : List (List UInt8)} (h : Right n) : [] ∉ n := fun e => (h.2.1 [] e).1 rfl
theorem Right.chk {n : List (List UInt8)} (h : Right n) : N.chk n = 0 := N.chk_ok h.nonil h.2.2 fun l hl => (h.2.1 l hl).2
/- the address ao of a slice of bools -/
def SlT (w : World) (ao : Option Addr) (len : Nat) (B : Nat → Bool) : Prop := 0 < len → ∃ b o, ao = some ⟨b, o, none⟩ ∧ b < w.heap.size ∧ ∀ j, j < len → w.cell? ⟨b, o + j, none⟩ = some (.bool (B j))
namespace N
theorem xor_low (y : UInt8) (h : (97 ≤ y.toNat ∧ y.toNat ≤ 122) ∨ (65 ≤ y.toNat ∧ y.toNat ≤ 90)) : low (y ^^^ 32) = low y := by
  have hk : ∀ k : Fin 256, ((97 ≤ k.val ∧ k.val ≤ 122) ∨ (65 ≤ k.val ∧ k.val ≤ 90)) → low (UInt8.ofNat k.val ^^^ 32) = low (UInt8.ofNat k.val) := by decide +kernel
  have := hk ⟨y.toNat, y.toNat_lt⟩ h
  rwa [UInt8.ofNat_toNat] at this
theorem lowL_set (q : List UInt8) (t : Nat) (c : UInt8) (h : t < q.length) (hc : low c = low (q.getD t 0)) : lowL (q.set t c) = lowL q := by
  unfold lowL
  rw [List.map_set, hc]
  have e : low (q.getD t 0) = (q.map low)[t]'(by simpa using h) := by simp [h]
  rw [e, List.set_getElem_self]
theorem lenL_alike {y x : List UInt8} (e : lowL y = lowL x) : y.length = x.length := by
  have := congrArg List.length e
  rwa [lowL_len, lowL_len] at this
theorem size_low (n : List (List UInt8)) : size (lowN n) = size n := by
  unfold size lowN
  rw [List.map_map]
  congr 2
  exact List.map_congr_left fun l _ => by simp [lowL_len]
end N
theorem xor_is (z : UInt8) : bits .xor .u8 (z.toNat : Int) 32 = ((z ^^^ 32).toNat : Int) := by
  rw [UInt8.toNat_xor]; exact u8_xor_nat z.toNat 32 z.toNat_lt (by decide)
theorem right_low {n : List (List UInt8)} : Right (N.lowN n) ↔ Right n := by
  unfold Right
  rw [N.lowN_len, N.size_low]
  refine and_congr_right fun _ => and_congr_left fun _ => ?_
  unfold N.lowN
  constructor
  · intro h l hl
    have := h (N.lowL l) (List.mem_map_of_mem hl)
    rw [N.lowL_len] at this
    exact ⟨fun e => this.1 (by rw [e]; rfl), this.2⟩
  · intro h l hl
    obtain ⟨x, hx, rfl⟩ := List.mem_map.1 hl
    rw [N.lowL_len]
    refine ⟨fun e => (h x hx).1 ?_, (h x hx).2⟩
    have := congrArg List.length e
    rw [N.lowL_len] at this
    exact List.eq_nil_of_length_eq_zero this
theorem right_alike {n q : List (List UInt8)} (h : Right n) (e : N.lowN q = N.lowN n) : Right q := right_low.1 (e ▸ right_low.2 h)
theorem len_alike {n q : List (List UInt8)} (e : N.lowN q = N.lowN n) : q.length = n.length := by
  have := congrArg List.length e
  rwa [N.lowN_len, N.lowN_len] at this
theorem within_alike {n q : List (List UInt8)} (e : N.lowN q = N.lowN n) : N.within q n = true := by
  unfold N.within N.same
  rw [len_alike e, Nat.sub_self]
  simp [e]
end Go.Proofs.YtecikfdnnjinpabDoor
