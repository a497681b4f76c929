/- The law SerialRounds, walked. -/
import Derived.Test.YtadnjfdjdnlomaaSl2
import Derived.Test.YtadnjfdjdnlomaaRows
import Derived.ProofKit
import Derived.LaidMore
import Derived.OpenShut
import Derived.Lay
namespace Go.Proofs.Ytadnjfdjdnlomaa
open Go.RowKit
structure Hid (p : Prop) : Prop where
  out : p
namespace S
def it : Nat → Nat → Nat
  | 0, a => a
  | k + 1, a => nxt (it k a)
set_option maxRecDepth 5000 in
theorem it_at (k a : Nat) (ha : a < 4294967296) (hk : k ≤ 255) : (it k a = a + k ∧ a + k < 4294967296) ∨ (it k a + 4294967296 = a + k + 1 ∧ 1 ≤ it k a) := by
  induction k with
  | zero => left; exact ⟨rfl, by omega⟩
  | succ k ih =>
    have h := ih (by omega)
    show (nxt (it k a) = _ ∧ _) ∨ (nxt (it k a) + _ = _ ∧ 1 ≤ nxt (it k a))
    unfold nxt
    split <;> omega
set_option maxRecDepth 5000 in
theorem it_lt (k a : Nat) (ha : a < 4294967296) (hk : k ≤ 255) : it k a < 4294967296 := by
  have := it_at k a ha hk; omega
set_option maxRecDepth 5000 in
theorem it_dif (k a : Nat) (ha : a < 4294967296) (hk : k ≤ 255) (h0 : 0 < k) : dif (it k a) a < 2147483648 ∧ 0 < dif (it k a) a := by
  have := it_at k a ha hk; unfold dif; omega
end S
set_option maxRecDepth 100000 in
set_option maxHeartbeats 1000000 in
theorem rounds_walk (a n : Nat) (ha : a < 4294967296) (hn : n < 256) (w : World) : Calls Try.prog 5 #[.int .u32 (a : Int), .int .u8 (n : Int)] w fun e w' => e = .returned (.bool true) ∧ Below w.heap.size w w' := by
  have HA := Hid.mk ha
  have hi : IntKind.i64.wrap (n : Int) = (n : Int) := by rw [IntKind.wrap_i64]; omega
  clear ha
  go_enter Try.func5, Try.ntmps5
  go_wp2_with (go_at_call 7; refine (known_any _).mono ?_; rintro e w' ⟨rfl, hw⟩; rw [hw]; clear hw w')
  go_loopw [5, 6] (fun x i wr => wr = w ∧ ∃ k : Nat, k ≤ n ∧ i = .int .i64 (k : Int) ∧ x = .int .u32 (S.it k a : Int)) (fun x i wr => n - (intOf i).toNat)
  case atStart => exact ⟨rfl, 0, by omega, rfl, rfl⟩
  case round =>
    obtain ⟨hw, k, hk, rfl, rfl⟩ := hrel
    rw [hw]
    clear hw
    by_cases hlt : k < n
    · have hlt' : (k : Int) < (n : Int) := by omega
      have b1 := S.it_lt k a HA.out (by omega)
      have b2 := S.it_lt (k + 1) a HA.out (by omega)
      have c1 := next_any (S.it k a) b1 w
      have c2 := compare_any (S.nxt (S.it k a)) (S.it k a) b1 w
      obtain ⟨-, -, d1, d2⟩ := S.cmp_up (S.it k a) (S.nxt (S.it k a)) b1 b2 (S.dif_nxt _ b1).1 (S.dif_nxt _ b1).2
      rw [d1, d2] at c2
      have z : ¬ (S.nxt (S.it k a) : Int) = 0 := by have := S.nxt_pos (S.it k a); omega
      have E : Hid ((S.it (k + 1) a : Int) = (S.nxt (S.it k a) : Int)) := ⟨rfl⟩
      generalize (S.nxt (S.it k a) : Int) = Y at c1 c2 z E
      clear b1 b2 d1 d2
      generalize (S.it k a : Int) = X at c1 c2
      go_wp2_with (first
        | (go_at_call 12; refine c1.mono ?_; rintro e w' ⟨rfl, hw⟩; rw [hw]; clear hw w')
        | (go_at_call 8; refine c2.mono ?_; rintro e w' ⟨rfl, hw⟩; rw [hw]; clear hw w'))
      go_roundw
      case rel => exact ⟨trivial, k + 1, by omega, by go_num, by rw [E.out]⟩
      case measure => simp [intOf]; omega
    · have hlt' : ¬ (k : Int) < (n : Int) := by omega
      obtain rfl : k = n := by omega
      by_cases h0 : k = 0
      · subst h0
        go_wp2
        go_ret
        exact ⟨by simp [S.it], Below.refl _ _⟩
      · have h0' : ¬ (k : Int) = 0 := by omega
        have hd := S.it_dif k a HA.out (by omega) (by omega)
        have c2 := compare_any (S.it k a) a HA.out w
        obtain ⟨-, -, d1, d2⟩ := S.cmp_up a (S.it k a) HA.out (S.it_lt k a HA.out (by omega)) hd.1 hd.2
        rw [d1, d2] at c2
        clear hd d1 d2
        generalize (S.it k a : Int) = X at c2
        go_wp2_with (go_at_call 8; refine c2.mono ?_; rintro e w' ⟨rfl, hw⟩; rw [hw]; clear hw w')
        go_ret
        exact ⟨by simp, Below.refl _ _⟩
open Go.ChangeShapes Go.WideShapes Go.ChangeAt Go.WideMaps Go.WideElems
set_option maxRecDepth 5000 in
theorem ownK : ownKnob Try.prog.godebug = none := by kernel_rfl
set_option maxRecDepth 5000 in
theorem laidOutT : laidOutB Try.prog = true := by kernel_rfl
set_option maxRecDepth 5000 in
theorem u32_of {a : Int} (h : (Lit.int .u32 a).wf = true) : ∃ b : Nat, a = (b : Int) ∧ b < 4294967296 := by
  simp [Lit.wf] at h
  rw [show IntKind.u32.min = 0 from rfl, show IntKind.u32.max = 4294967295 from rfl] at h
  exact ⟨a.toNat, by omega, by omega⟩
set_option maxRecDepth 5000 in
theorem u8_of {a : Int} (h : (Lit.int .u8 a).wf = true) : ∃ b : Nat, a = (b : Int) ∧ b < 256 := by
  simp [Lit.wf] at h
  rw [show IntKind.u8.min = 0 from rfl, show IntKind.u8.max = 255 from rfl] at h
  exact ⟨a.toNat, by omega, by omega⟩
end Go.Proofs.Ytadnjfdjdnlomaa
