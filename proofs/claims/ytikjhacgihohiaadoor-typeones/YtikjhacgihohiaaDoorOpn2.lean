/- rtype.Open: a window; the whole. -/
import Derived.Test.YtikjhacgihohiaaDoorOpn
namespace Go.Proofs.YtikjhacgihohiaaDoor
open Go.RowKit
theorem SlL.take {w : World} {ao : Option Addr} {l : List UInt8} (h : SlL w ao l) (k : Nat) : SlL w ao (l.take k) := fun hn => by
  rw [List.length_take] at hn
  obtain ⟨b, o, e, hlt, hc⟩ := h (by omega)
  refine ⟨b, o, e, hlt, fun j hj => ?_⟩
  rw [List.length_take] at hj
  rw [hc j (by omega), List.getD_eq_getElem?_getD, List.getD_eq_getElem?_getD, List.getElem?_take_of_lt (by omega)]
set_option maxHeartbeats 3200000 in
theorem openWindow_any (l : List UInt8) (ao : Option Addr) (len cap least : Nat) (w : World) (hl : Hid (l.length = len)) (hs : SlL w ao l) (hlen : len ≤ 1000000) :
    Calls Tryd.prog 28 #[.slice ao len cap, .int .i64 (least : Int)] w fun e w' => e = .returned (T.okv (T.okw least l)) ∧ w' = w := by
  by_cases h2 : len < 2
  · have hok : T.okw least l = none := by
      match l, hl with
      | [], _ => rfl
      | [_], _ => rfl
      | _ :: _ :: _, h => have := h.out; simp at this; omega
    rw [hok]
    have e2 : (len : Int) < 2 := by omega
    clear hs
    go_enter Tryd.func28, Tryd.ntmps28
    go_wp2
    go_ret2
    exact ⟨rfl, rfl⟩
  · have e2 : ¬ (len : Int) < 2 := by omega
    obtain ⟨b, o, rfl, hb, hc⟩ := hs (by rw [hl.out]; omega)
    rw [hl.out] at hc
    obtain ⟨x, n, r, rfl⟩ : ∃ x n r, l = x :: n :: r := by
      match l, hl with
      | [], h => have := h.out; simp at this; omega
      | [_], h => have := h.out; simp at this; omega
      | x :: n :: r, _ => exact ⟨x, n, r, rfl⟩
    have c0 : w.cell? ⟨b, o, none⟩ = some (.int .u8 (x.toNat : Int)) := hc 0 (by omega)
    have c1 : w.cell? ⟨b, o + 1, none⟩ = some (.int .u8 (n.toNat : Int)) := hc 1 (by omega)
    have hrl : r.length + 2 = len := by have := hl.out; simpa using this
    have hx := x.toNat_lt
    have hn := n.toNat_lt
    have ex : IntKind.i64.wrap (x.toNat : Int) = (x.toNat : Int) := wrap_nat _ (by omega)
    have en : IntKind.i64.wrap (n.toNat : Int) = (n.toNat : Int) := wrap_nat _ (by omega)
    obtain ⟨X, hX⟩ : ∃ X : Nat, x.toNat = X := ⟨_, rfl⟩
    obtain ⟨M, hM⟩ : ∃ M : Nat, n.toNat = M := ⟨_, rfl⟩
    rw [hX] at c0 hx ex
    rw [hM] at c1 hn en
    have HB : Hid (T.bad least x n r ↔ (X < least ∨ M = 0 ∨ 32 < M ∨ r.length < M ∨ r.getD (M - 1) 0 = 0)) := by
      show T.bad least x n r ↔ _
      unfold T.bad; rw [hX, hM]
    have HOK : Hid (T.okw least (x :: n :: r) = if T.bad least x n r then none else some (2 + M)) := by
      show T.okw least (x :: n :: r) = _
      rw [← hM]; rfl
    by_cases b1 : X < least
    · have e3 : (X : Int) < (least : Int) := by omega
      have hok : T.okw least (x :: n :: r) = none := by rw [HOK.out, if_pos (HB.out.2 (Or.inl b1))]
      rw [hok]
      clear hc hX hM hrl hl hs
      go_enter Tryd.func28, Tryd.ntmps28
      go_wp2
      go_ret2
      exact ⟨rfl, rfl⟩
    · have e3 : ¬ (X : Int) < (least : Int) := by omega
      by_cases b2 : M = 0
      · have e4 : ((M : Int) == 0) = true := by simp [b2]
        have hok : T.okw least (x :: n :: r) = none := by rw [HOK.out, if_pos (HB.out.2 (Or.inr (Or.inl b2)))]
        rw [hok]
        clear hc hX hM hrl hl hs b2
        go_enter Tryd.func28, Tryd.ntmps28
        go_wp2
        go_ret2
        exact ⟨rfl, rfl⟩
      · have e4 : ((M : Int) == 0) = false := by simp; omega
        by_cases b3 : 32 < M
        · have e5 : (32 : Int) < (M : Int) := by omega
          have hok : T.okw least (x :: n :: r) = none := by rw [HOK.out, if_pos (HB.out.2 (Or.inr (Or.inr (Or.inl b3))))]
          rw [hok]
          clear hc hX hM hrl hl hs b2
          go_enter Tryd.func28, Tryd.ntmps28
          go_wp2
          go_ret2
          exact ⟨rfl, rfl⟩
        · have e5 : ¬ (32 : Int) < (M : Int) := by omega
          by_cases b4 : r.length < M
          · have e6 : (len : Int) < 2 + (M : Int) := by omega
            have hok : T.okw least (x :: n :: r) = none := by rw [HOK.out, if_pos (HB.out.2 (Or.inr (Or.inr (Or.inr (Or.inl b4)))))]
            rw [hok]
            clear hc hX hM hrl hl hs b2
            go_enter Tryd.func28, Tryd.ntmps28
            go_wp2
            go_ret2
            exact ⟨rfl, rfl⟩
          · have e6 : ¬ (len : Int) < 2 + (M : Int) := by omega
            have c2 := hc (1 + M) (by omega)
            rw [show (x :: n :: r).getD (1 + M) 0 = r.getD (M - 1) 0 by
              rw [show 1 + M = (M - 1) + 2 by omega]; rfl] at c2
            obtain ⟨y, hy⟩ : ∃ y, r.getD (M - 1) 0 = y := ⟨_, rfl⟩
            rw [hy] at c2
            obtain ⟨j, hj⟩ : ∃ j : Nat, 1 + M = j := ⟨_, rfl⟩
            rw [hj] at c2
            have hjl : j < len := by omega
            have ej : 2 + (M : Int) - 1 = (j : Int) := by omega
            by_cases b5 : y = 0
            · have e7 : ((y.toNat : Int) == 0) = true := by simp [b5]
              have hok : T.okw least (x :: n :: r) = none := by rw [HOK.out, if_pos (HB.out.2 (Or.inr (Or.inr (Or.inr (Or.inr (by rw [hy]; exact b5))))))]
              rw [hok]
              clear hc hX hM hrl hl hs b2 hy hj b5
              go_enter Tryd.func28, Tryd.ntmps28
              go_wp2
              go_ret2
              exact ⟨rfl, rfl⟩
            · have e7 : ((y.toNat : Int) == 0) = false := by
                have : y.toNat ≠ 0 := fun h => b5 (UInt8.toNat_inj.1 h)
                simp; omega
              have hok : T.okw least (x :: n :: r) = some (2 + M) := by
                rw [HOK.out, if_neg]
                rintro hb
                rcases HB.out.1 hb with h | h | h | h | h
                · exact b1 h
                · exact b2 h
                · exact b3 h
                · exact b4 h
                · rw [hy] at h; exact b5 h
              rw [hok]
              clear hc hX hM hrl hl hs b2 hy hj b5
              go_enter Tryd.func28, Tryd.ntmps28
              go_wp2
              go_ret2
              exact ⟨by simp [T.okv], rfl⟩
end Go.Proofs.YtikjhacgihohiaaDoor
