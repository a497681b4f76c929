/- rtype.Open. -/
import Derived.Test.YtikjhacgihohiaaDoorBmp3
namespace Go.Proofs.YtikjhacgihohiaaDoor
open Go.RowKit
namespace T
def typUp (w : Nat) (b : List UInt8) (p : Nat) : List UInt16 := ((List.range p).filter (has b)).map (mk w)
theorem typUp_all (w : Nat) (b : List UInt8) : typUp w b (8 * b.length) = typ w b := rfl
theorem typUp_yes (w : Nat) (b : List UInt8) (p : Nat) (h : has b p = true) : typUp w b (p + 1) = typUp w b p ++ [mk w p] := by
  unfold typUp; rw [List.range_succ, List.filter_append, List.map_append]; simp [h]
theorem typUp_no (w : Nat) (b : List UInt8) (p : Nat) (h : has b p = false) : typUp w b (p + 1) = typUp w b p := by
  unfold typUp; rw [List.range_succ, List.filter_append, List.map_append]; simp [h]
theorem typUp_len (w : Nat) (b : List UInt8) (p : Nat) : (typUp w b p).length ≤ p := by
  unfold typUp; rw [List.length_map]; exact Nat.le_trans (List.length_filter_le _ _) (by simp)
theorem and_has (b : List UInt8) (p : Nat) : ((b.getD (p / 8) 0).toNat &&& 2 ^ (7 - p % 8) ≠ 0) ↔ has b p = true := by
  unfold has
  generalize (b.getD (p / 8) 0).toNat = y
  generalize 7 - p % 8 = k
  constructor
  · intro h
    cases hb : y.testBit k
    · refine absurd (Nat.eq_of_testBit_eq fun i => ?_) h
      rw [Nat.testBit_and, Nat.testBit_two_pow, Nat.zero_testBit]
      by_cases e : k = i
      · subst e; simp [hb]
      · simp [e]
    · rfl
  · intro h e
    have := congrArg (fun z => Nat.testBit z k) e
    simp [Nat.testBit_and, h] at this
/- how many bytes a window has, if it is one -/
def okw (least : Nat) : List UInt8 → Option Nat
  | x :: n :: r => if bad least x n r then none else some (2 + n.toNat)
  | _ => none
def okv : Option Nat → Value
  | some k => .tuple #[.int .i64 (k : Int), .bool true]
  | none => .tuple #[.int .i64 0, .bool false]
end T
set_option maxHeartbeats 3200000 in
theorem appendTypes_any (H : Nat) (bs : List UInt8) (m : List UInt16) (B b o n cap : Nat) (v : Value) (w : World) (hl : Hid (bs.length = n)) (hn : n ≤ 32) (hn0 : 0 < n) (hH : H < 256) (hs : SlL w (some ⟨b, o, none⟩) bs) (hb : b < B) (hO : OwnH w B v m) (hB : B ≤ w.heap.size) (hm : m.length ≤ 1000000) :
    Calls Tryd.prog 29 #[v, .int .i64 (H : Int), .slice (some ⟨b, o, none⟩) n cap] w fun e w' => ∃ v', e = .returned v' ∧ OwnH w' B v' (m ++ T.typ H bs) ∧ Below B w w' := by
  obtain ⟨b', o', e, hb', hc⟩ := hs (by rw [hl.out]; exact hn0)
  cases e
  rw [hl.out] at hc
  clear hs
  go_enter Tryd.func29, Tryd.ntmps29
  go_wp2
  go_loopw [0, 11] (fun v u W => ∃ p : Nat, u = .int .i64 (p : Int) ∧ p ≤ 8 * n ∧ OwnH W B v (m ++ T.typUp H bs p) ∧ Below B w W) (fun _ u _ => 8 * n - (intOf u).toNat)
  case atStart => exact ⟨0, rfl, by omega, (by simpa [T.typUp] using hO), Below.refl _ _⟩
  case round =>
    clear hO
    obtain ⟨p, rfl, hp, hO, hBw⟩ := hrel
    have hz := hBw.size
    by_cases hpn : p < 8 * n
    · obtain ⟨k, hk⟩ : ∃ k, p / 8 = k := ⟨_, rfl⟩
      have hkn : k < n := by omega
      have e2 : (p : Int) / 8 = (k : Int) := by omega
      have e2' : Int.tdiv (p : Int) 8 = (k : Int) := by rw [Int.tdiv_eq_ediv_of_nonneg (by omega)]; exact e2
      have e4 : IntKind.i64.wrap (k : Int) = (k : Int) := wrap_nat k (by omega)
      have epn : (p : Int) < 8 * (n : Int) := by omega
      have hx := (hBw.cell (p := ⟨b, o + k, none⟩) hb).trans (hc k hkn)
      have hhas := T.and_has bs p
      rw [hk] at hhas
      obtain ⟨y, hy⟩ : ∃ y, bs.getD k 0 = y := ⟨_, rfl⟩
      rw [hy] at hx hhas
      obtain ⟨q, hq⟩ : ∃ q : Nat, 2 ^ (7 - p % 8) = q := ⟨_, rfl⟩
      have hq3 : q < 256 := by
        rw [← hq]
        have : 2 ^ (7 - p % 8) < 2 ^ 8 := Nat.pow_lt_pow_right (by omega) (by omega)
        omega
      rw [hq] at hhas
      have cb := fun W => bitOf_any p (by omega) W
      rw [hq] at cb
      have e3 := u8_and_nat y.toNat q y.toNat_lt hq3
      obtain ⟨z, hzz⟩ : ∃ z : Nat, y.toNat &&& q = z := ⟨_, rfl⟩
      rw [hzz] at hhas e3
      have hml : (m ++ T.typUp H bs p).length ≤ 1000256 := by rw [List.length_append]; have := T.typUp_len H bs p; omega
      have HH := hide hhas
      have HO := hide hO
      clear hhas hO hzz hq hy hk
      by_cases hz0 : z = 0
      · have hno : T.has bs p = false := by
          have : ¬ T.has bs p = true := fun h => (HH.out.2 h) hz0
          simpa using this
        have e5 : ((z : Int) != 0) = false := by simp [hz0]
        go_wp2
        go_quiet (first | (go_at_call 36; refine Calls.quiet_of_same (cb _)))
        go_wp2
        go_roundw
        case rel => exact ⟨p + 1, by go_num, by omega, (by rw [T.typUp_no H bs p hno]; exact HO.out), ⟨hBw.os, hBw.tape, hBw.output, hBw.size, hBw.block⟩⟩
        case measure => simp [intOf]; omega
      · have hyes : T.has bs p = true := HH.out.1 hz0
        have e5 : ((z : Int) != 0) = true := by simp [hz0]
        go_wp2
        go_quiet (first | (go_at_call 36; refine Calls.quiet_of_same (cb _)))
        have HO2 : Hid (OwnH (wr.drewN nq) B u0 (m ++ T.typUp H bs p)) := HO.out
        have hBw2 : Below B w (wr.drewN nq) := ⟨hBw.os, hBw.tape, hBw.output, hBw.size, hBw.block⟩
        have hz2 : B ≤ (wr.drewN nq).heap.size := by show B ≤ wr.heap.size; omega
        have e6 : IntKind.u16.wrap ((H : Int) * 256 + (p : Int)) = ((T.mk H p).toNat : Int) := by
          rw [T.mk_nat H p hH (by omega), IntKind.wrap_u16]; omega
        clear hBw HO hx
        generalize wr.drewN nq = w2 at HO2 hBw2 hz2 ⊢
        go_wp2_with (at_builtin; refine wpList_append_H rfl (.tmp 23) (.tmp 29) rfl B _ (m ++ T.typUp H bs p) rfl (by exact HO2.out.alloc _) _ _ _ [T.mk H p] rfl rfl (SlH.oneI _ _ _ _ (by rfl)) (by simp) (by simp at hml ⊢; omega) (by simp; omega) ?_; intro v4 w4 hO4 hG4; have hB4 := grown_belowH (HO2.out.alloc _) hG4 (hBw2.alloc hz2 _) (by simp; omega); clear hG4)
        go_roundw
        case rel => exact ⟨p + 1, by go_num, by omega, (by rw [T.typUp_yes H bs p hyes, ← List.append_assoc]; exact hO4), hB4⟩
        case measure => simp [intOf]; omega
    · obtain rfl : p = 8 * n := by omega
      have epn : ¬ ((8 * n : Nat) : Int) < 8 * (n : Int) := by omega
      go_wp2
      go_ret
      refine ⟨_, rfl, ?_, hBw⟩
      rw [← hl.out, T.typUp_all] at hO
      exact hO
end Go.Proofs.YtikjhacgihohiaaDoor
