/- rtype.Open (texts of stage 4, at this seat). -/
import Derived.Test.YtdldaphkiphpnaaGreatTyA
/- stage4/Opn -/
/- rtype.Open. -/
namespace Go.Proofs.YtdldaphkiphpnaaGreat
open Go.RowKit
namespace T
def typUp (w : Nat) (b : List UInt8) (p : Nat) : List UInt16 := ((List.range p).filter (has b)).map (mk w)
set_option maxRecDepth 5000 in
theorem typUp_all (w : Nat) (b : List UInt8) : typUp w b (8 * b.length) = typ w b := rfl
set_option maxRecDepth 5000 in
theorem typUp_yes (w : Nat) (b : List UInt8) (p : Nat) (h : has b p = true) : typUp w b (p + 1) = typUp w b p ++ [mk w p] := by
  unfold typUp; rw [List.range_succ, List.filter_append, List.map_append]; simp [h]
set_option maxRecDepth 5000 in
theorem typUp_no (w : Nat) (b : List UInt8) (p : Nat) (h : has b p = false) : typUp w b (p + 1) = typUp w b p := by
  unfold typUp; rw [List.range_succ, List.filter_append, List.map_append]; simp [h]
set_option maxRecDepth 5000 in
theorem typUp_len (w : Nat) (b : List UInt8) (p : Nat) : (typUp w b p).length ≤ p := by
  unfold typUp; rw [List.length_map]; exact Nat.le_trans (List.length_filter_le _ _) (by simp)
set_option maxRecDepth 5000 in
theorem and_has (b : List UInt8) (p : Nat) : ((b.getD (p / 8) 0).toNat &&& 2 ^ (7 - p % 8) ≠ 0) ↔ has b p = true := by
  unfold has
  generalize (b.getD (p / 8) 0).toNat = y
  generalize 7 - p % 8 = k
  constructor
  · intro h
    cases hb : y.testBit k
    · refine absurd (Nat.eq_of_testBit_eq fun i => ?_) h
      rw [Nat.testBit_and, Nat.testBit_two_pow, Nat.zero_testBit]
      by_cases e : k = i
      · subst e; simp [hb]
      · simp [e]
    · rfl
  · intro h e
    have := congrArg (fun z => Nat.testBit z k) e
    simp [Nat.testBit_and, h] at this
/- how many bytes a window has, if it is one -/
def okw (least : Nat) : List UInt8 → Option Nat
  | x :: n :: r => if bad least x n r then none else some (2 + n.toNat)
  | _ => none
def okv : Option Nat → Value
  | some k => .tuple #[.int .i64 (k : Int), .bool true]
  | none => .tuple #[.int .i64 0, .bool false]
end T
set_option maxHeartbeats 3200000 in
set_option maxRecDepth 5000 in
theorem appendTypes_any (H : Nat) (bs : List UInt8) (m : List UInt16) (B b o n cap : Nat) (v : Value) (w : World) (hl : Hid (bs.length = n)) (hn : n ≤ 32) (hn0 : 0 < n) (hH : H < 256) (hs : SlL w (some ⟨b, o, none⟩) bs) (hb : b < B) (hO : OwnH w B v m) (hB : B ≤ w.heap.size) (hm : m.length ≤ 1000000) :
    Calls Tryz.prog 181 #[v, .int .i64 (H : Int), .slice (some ⟨b, o, none⟩) n cap] w fun e w' => ∃ v', e = .returned v' ∧ OwnH w' B v' (m ++ T.typ H bs) ∧ Below B w w' := by
  obtain ⟨b', o', e, hb', hc⟩ := hs (by rw [hl.out]; exact hn0)
  cases e
  rw [hl.out] at hc
  clear hs
  go_enter Tryz.func181, Tryz.ntmps181
  go_wp2
  go_loopw [0, 11] (fun v u W => ∃ p : Nat, u = .int .i64 (p : Int) ∧ p ≤ 8 * n ∧ OwnH W B v (m ++ T.typUp H bs p) ∧ Below B w W) (fun _ u _ => 8 * n - (intOf u).toNat)
  case atStart => exact ⟨0, rfl, by omega, (by simpa [T.typUp] using hO), Below.refl _ _⟩
  case round =>
    clear hO
    obtain ⟨p, rfl, hp, hO, hBw⟩ := hrel
    have hz := hBw.size
    by_cases hpn : p < 8 * n
    · obtain ⟨k, hk⟩ : ∃ k, p / 8 = k := ⟨_, rfl⟩
      have hkn : k < n := by omega
      have e2 : (p : Int) / 8 = (k : Int) := by omega
      have e2' : Int.tdiv (p : Int) 8 = (k : Int) := by rw [Int.tdiv_eq_ediv_of_nonneg (by omega)]; exact e2
      have e4 : IntKind.i64.wrap (k : Int) = (k : Int) := wrap_nat k (by omega)
      have epn : (p : Int) < 8 * (n : Int) := by omega
      have hx := (hBw.cell (p := ⟨b, o + k, none⟩) hb).trans (hc k hkn)
      have hhas := T.and_has bs p
      rw [hk] at hhas
      obtain ⟨y, hy⟩ : ∃ y, bs.getD k 0 = y := ⟨_, rfl⟩
      rw [hy] at hx hhas
      obtain ⟨q, hq⟩ : ∃ q : Nat, 2 ^ (7 - p % 8) = q := ⟨_, rfl⟩
      have hq3 : q < 256 := by
        rw [← hq]
        have : 2 ^ (7 - p % 8) < 2 ^ 8 := Nat.pow_lt_pow_right (by omega) (by omega)
        omega
      rw [hq] at hhas
      have cb := fun W => bitOf_any p (by omega) W
      rw [hq] at cb
      have e3 := u8_and_nat y.toNat q y.toNat_lt hq3
      obtain ⟨z, hzz⟩ : ∃ z : Nat, y.toNat &&& q = z := ⟨_, rfl⟩
      rw [hzz] at hhas e3
      have hml : (m ++ T.typUp H bs p).length ≤ 1000256 := by rw [List.length_append]; have := T.typUp_len H bs p; omega
      have HH := hide hhas
      have HO := hide hO
      clear hhas hO hzz hq hy hk
      by_cases hz0 : z = 0
      · have hno : T.has bs p = false := by
          have : ¬ T.has bs p = true := fun h => (HH.out.2 h) hz0
          simpa using this
        have e5 : ((z : Int) != 0) = false := by simp [hz0]
        go_wp2
        go_quiet (first | (go_at_call 190; refine Calls.quiet_of_same (cb _)))
        go_wp2
        go_roundw
        case rel => exact ⟨p + 1, by go_num, by omega, (by rw [T.typUp_no H bs p hno]; exact HO.out), ⟨hBw.os, hBw.tape, hBw.output, hBw.size, hBw.block⟩⟩
        case measure => simp [intOf]; omega
      · have hyes : T.has bs p = true := HH.out.1 hz0
        have e5 : ((z : Int) != 0) = true := by simp [hz0]
        go_wp2
        go_quiet (first | (go_at_call 190; refine Calls.quiet_of_same (cb _)))
        have HO2 : Hid (OwnH (wr.drewN nq) B u0 (m ++ T.typUp H bs p)) := HO.out
        have hBw2 : Below B w (wr.drewN nq) := ⟨hBw.os, hBw.tape, hBw.output, hBw.size, hBw.block⟩
        have hz2 : B ≤ (wr.drewN nq).heap.size := by show B ≤ wr.heap.size; omega
        have e6 : IntKind.u16.wrap ((H : Int) * 256 + (p : Int)) = ((T.mk H p).toNat : Int) := by
          rw [T.mk_nat H p hH (by omega), IntKind.wrap_u16]; omega
        clear hBw HO hx
        generalize wr.drewN nq = w2 at HO2 hBw2 hz2 ⊢
        go_wp2_with (at_builtin; refine wpList_append_H rfl (.tmp 23) (.tmp 29) rfl B _ (m ++ T.typUp H bs p) rfl (by exact HO2.out.alloc _) _ _ _ [T.mk H p] rfl rfl (SlH.oneI _ _ _ _ (by rfl)) (by simp) (by simp at hml ⊢; omega) (by simp; omega) ?_; intro v4 w4 hO4 hG4; have hB4 := grown_belowH (HO2.out.alloc _) hG4 (hBw2.alloc hz2 _) (by simp; omega); clear hG4)
        go_roundw
        case rel => exact ⟨p + 1, by go_num, by omega, (by rw [T.typUp_yes H bs p hyes, ← List.append_assoc]; exact hO4), hB4⟩
        case measure => simp [intOf]; omega
    · obtain rfl : p = 8 * n := by omega
      have epn : ¬ ((8 * n : Nat) : Int) < 8 * (n : Int) := by omega
      go_wp2
      go_ret
      refine ⟨_, rfl, ?_, hBw⟩
      rw [← hl.out, T.typUp_all] at hO
      exact hO
end Go.Proofs.YtdldaphkiphpnaaGreat

/- stage4/Opn2 -/
/- rtype.Open: a window; the whole. -/
namespace Go.Proofs.YtdldaphkiphpnaaGreat
open Go.RowKit
set_option maxRecDepth 5000 in
theorem SlL.take {w : World} {ao : Option Addr} {l : List UInt8} (h : SlL w ao l) (k : Nat) : SlL w ao (l.take k) := fun hn => by
  rw [List.length_take] at hn
  obtain ⟨b, o, e, hlt, hc⟩ := h (by omega)
  refine ⟨b, o, e, hlt, fun j hj => ?_⟩
  rw [List.length_take] at hj
  rw [hc j (by omega), List.getD_eq_getElem?_getD, List.getD_eq_getElem?_getD, List.getElem?_take_of_lt (by omega)]
set_option maxHeartbeats 3200000 in
set_option maxRecDepth 5000 in
theorem openWindow_any (l : List UInt8) (ao : Option Addr) (len cap least : Nat) (w : World) (hl : Hid (l.length = len)) (hs : SlL w ao l) (hlen : len ≤ 1000000) :
    Calls Tryz.prog 180 #[.slice ao len cap, .int .i64 (least : Int)] w fun e w' => e = .returned (T.okv (T.okw least l)) ∧ w' = w := by
  by_cases h2 : len < 2
  · have hok : T.okw least l = none := by
      match l, hl with
      | [], _ => rfl
      | [_], _ => rfl
      | _ :: _ :: _, h => have := h.out; simp at this; omega
    rw [hok]
    have e2 : (len : Int) < 2 := by omega
    clear hs
    go_enter Tryz.func180, Tryz.ntmps180
    go_wp2
    go_ret2
    exact ⟨rfl, rfl⟩
  · have e2 : ¬ (len : Int) < 2 := by omega
    obtain ⟨b, o, rfl, hb, hc⟩ := hs (by rw [hl.out]; omega)
    rw [hl.out] at hc
    obtain ⟨x, n, r, rfl⟩ : ∃ x n r, l = x :: n :: r := by
      match l, hl with
      | [], h => have := h.out; simp at this; omega
      | [_], h => have := h.out; simp at this; omega
      | x :: n :: r, _ => exact ⟨x, n, r, rfl⟩
    have c0 : w.cell? ⟨b, o, none⟩ = some (.int .u8 (x.toNat : Int)) := hc 0 (by omega)
    have c1 : w.cell? ⟨b, o + 1, none⟩ = some (.int .u8 (n.toNat : Int)) := hc 1 (by omega)
    have hrl : r.length + 2 = len := by have := hl.out; simpa using this
    have hx := x.toNat_lt
    have hn := n.toNat_lt
    have ex : IntKind.i64.wrap (x.toNat : Int) = (x.toNat : Int) := wrap_nat _ (by omega)
    have en : IntKind.i64.wrap (n.toNat : Int) = (n.toNat : Int) := wrap_nat _ (by omega)
    obtain ⟨X, hX⟩ : ∃ X : Nat, x.toNat = X := ⟨_, rfl⟩
    obtain ⟨M, hM⟩ : ∃ M : Nat, n.toNat = M := ⟨_, rfl⟩
    rw [hX] at c0 hx ex
    rw [hM] at c1 hn en
    have HB : Hid (T.bad least x n r ↔ (X < least ∨ M = 0 ∨ 32 < M ∨ r.length < M ∨ r.getD (M - 1) 0 = 0)) := by
      show T.bad least x n r ↔ _
      unfold T.bad; rw [hX, hM]
    have HOK : Hid (T.okw least (x :: n :: r) = if T.bad least x n r then none else some (2 + M)) := by
      show T.okw least (x :: n :: r) = _
      rw [← hM]; rfl
    by_cases b1 : X < least
    · have e3 : (X : Int) < (least : Int) := by omega
      have hok : T.okw least (x :: n :: r) = none := by rw [HOK.out, if_pos (HB.out.2 (Or.inl b1))]
      rw [hok]
      clear hc hX hM hrl hl hs
      go_enter Tryz.func180, Tryz.ntmps180
      go_wp2
      go_ret2
      exact ⟨rfl, rfl⟩
    · have e3 : ¬ (X : Int) < (least : Int) := by omega
      by_cases b2 : M = 0
      · have e4 : ((M : Int) == 0) = true := by simp [b2]
        have hok : T.okw least (x :: n :: r) = none := by rw [HOK.out, if_pos (HB.out.2 (Or.inr (Or.inl b2)))]
        rw [hok]
        clear hc hX hM hrl hl hs b2
        go_enter Tryz.func180, Tryz.ntmps180
        go_wp2
        go_ret2
        exact ⟨rfl, rfl⟩
      · have e4 : ((M : Int) == 0) = false := by simp; omega
        by_cases b3 : 32 < M
        · have e5 : (32 : Int) < (M : Int) := by omega
          have hok : T.okw least (x :: n :: r) = none := by rw [HOK.out, if_pos (HB.out.2 (Or.inr (Or.inr (Or.inl b3))))]
          rw [hok]
          clear hc hX hM hrl hl hs b2
          go_enter Tryz.func180, Tryz.ntmps180
          go_wp2
          go_ret2
          exact ⟨rfl, rfl⟩
        · have e5 : ¬ (32 : Int) < (M : Int) := by omega
          by_cases b4 : r.length < M
          · have e6 : (len : Int) < 2 + (M : Int) := by omega
            have hok : T.okw least (x :: n :: r) = none := by rw [HOK.out, if_pos (HB.out.2 (Or.inr (Or.inr (Or.inr (Or.inl b4)))))]
            rw [hok]
            clear hc hX hM hrl hl hs b2
            go_enter Tryz.func180, Tryz.ntmps180
            go_wp2
            go_ret2
            exact ⟨rfl, rfl⟩
          · have e6 : ¬ (len : Int) < 2 + (M : Int) := by omega
            have c2 := hc (1 + M) (by omega)
            rw [show (x :: n :: r).getD (1 + M) 0 = r.getD (M - 1) 0 by
              rw [show 1 + M = (M - 1) + 2 by omega]; rfl] at c2
            obtain ⟨y, hy⟩ : ∃ y, r.getD (M - 1) 0 = y := ⟨_, rfl⟩
            rw [hy] at c2
            obtain ⟨j, hj⟩ : ∃ j : Nat, 1 + M = j := ⟨_, rfl⟩
            rw [hj] at c2
            have hjl : j < len := by omega
            have ej : 2 + (M : Int) - 1 = (j : Int) := by omega
            by_cases b5 : y = 0
            · have e7 : ((y.toNat : Int) == 0) = true := by simp [b5]
              have hok : T.okw least (x :: n :: r) = none := by rw [HOK.out, if_pos (HB.out.2 (Or.inr (Or.inr (Or.inr (Or.inr (by rw [hy]; exact b5))))))]
              rw [hok]
              clear hc hX hM hrl hl hs b2 hy hj b5
              go_enter Tryz.func180, Tryz.ntmps180
              go_wp2
              go_ret2
              exact ⟨rfl, rfl⟩
            · have e7 : ((y.toNat : Int) == 0) = false := by
                have : y.toNat ≠ 0 := fun h => b5 (UInt8.toNat_inj.1 h)
                simp; omega
              have hok : T.okw least (x :: n :: r) = some (2 + M) := by
                rw [HOK.out, if_neg]
                rintro hb
                rcases HB.out.1 hb with h | h | h | h | h
                · exact b1 h
                · exact b2 h
                · exact b3 h
                · exact b4 h
                · rw [hy] at h; exact b5 h
              rw [hok]
              clear hc hX hM hrl hl hs b2 hy hj b5
              go_enter Tryz.func180, Tryz.ntmps180
              go_wp2
              go_ret2
              exact ⟨by simp [T.okv], rfl⟩
end Go.Proofs.YtdldaphkiphpnaaGreat

/- stage4/Opn3 -/
/- rtype.Open: the whole. -/
namespace Go.Proofs.YtdldaphkiphpnaaGreat
open Go.RowKit
namespace T
set_option maxRecDepth 5000 in
theorem okw_none {least : Nat} {l : List UInt8} (h : okw least l = none) (h0 : 0 < l.length) : opn least l = none := by
  match l, h, h0 with
  | [x], _, _ => exact opn_one least x
  | x :: n :: r, h, _ =>
    rw [opn_two]
    by_cases hb : bad least x n r
    · rw [if_pos hb]
    · rw [okw, if_neg hb] at h; cases h
set_option maxRecDepth 5000 in
theorem okw_some {least k : Nat} {l : List UInt8} (h : okw least l = some k) : ∃ x n r, l = x :: n :: r ∧ k = 2 + n.toNat ∧ 0 < n.toNat ∧ n.toNat ≤ 32 ∧ n.toNat ≤ r.length ∧ opn least l = (opn (x.toNat + 1) (r.drop n.toNat)).map (typ x.toNat (r.take n.toNat) ++ ·) := by
  match l, h with
  | x :: n :: r, h =>
    by_cases hb : bad least x n r
    · rw [okw, if_pos hb] at h; cases h
    · rw [okw, if_neg hb] at h
      have hk := Option.some.inj h
      have hb' := hb
      unfold bad at hb'
      exact ⟨x, n, r, rfl, hk.symm, by omega, by omega, by omega, by rw [opn_two, if_neg hb]⟩
set_option maxRecDepth 5000 in
theorem typ_len (w : Nat) (b : List UInt8) : (typ w b).length ≤ 8 * b.length := by
  unfold typ places; rw [List.length_map]; exact Nat.le_trans (List.length_filter_le _ _) (by simp)
end T
set_option maxRecDepth 3000 in
set_option maxHeartbeats 3200000 in
theorem topen_any (l : List UInt8) (ao : Option Addr) (len cap : Nat) (w : World) (hl : Hid (l.length = len)) (hs : SlL w ao l) (hc1 : len ≤ cap) (hc2 : cap ≤ 9223372036854775807) (hlen : len ≤ 100000) :
    Calls Tryz.prog 157 #[.slice ao len cap] w fun e w' => Below w.heap.size w w' ∧ ((∃ m v, T.opn 0 l = some m ∧ e = .returned (.tuple #[v, .int .i64 0]) ∧ OwnH w' w.heap.size v m) ∨ (T.opn 0 l = none ∧ e = .returned (.tuple #[.slice none 0 0, .int .i64 40]))) := by
  go_enter Tryz.func157, Tryz.ntmps157
  go_wp2
  go_loopw [0, 4, 5] (fun v0 v4 v5 W => ∃ (rest : List UInt8) (ao : Option Addr) (cap least : Nat) (m : List UInt16), v0 = .slice ao rest.length cap ∧ v5 = .int .i64 (least : Int) ∧ SlL w ao rest ∧ rest.length ≤ cap ∧ cap ≤ 9223372036854775807 ∧ rest.length ≤ len ∧ least ≤ 256 ∧ OwnH W w.heap.size v4 m ∧ Below w.heap.size w W ∧ m.length + 8 * rest.length ≤ 8 * len ∧ T.opn 0 l = (T.opn least rest).map (m ++ ·)) (fun v0 _ _ _ => lenOf v0)
  case atStart => exact ⟨l, ao, cap, 0, [], by rw [hl.out], rfl, hs, by rw [hl.out]; exact hc1, hc2, by rw [hl.out]; exact Nat.le_refl _, by omega, OwnH.nil _ _, Below.refl _ _, by rw [hl.out]; simp, by cases T.opn 0 l <;> simp⟩
  case round =>
    clear hs hc1 hc2
    obtain ⟨rest, ao2, cap2, least, m, rfl, rfl, hS, hcap, hmax, hrl, hle, hO, hB, hml, hE⟩ := hrel
    have hz := hB.size
    have HE := hide hE
    have HO := hide hO
    clear hE hO
    by_cases h0 : rest.length = 0
    · obtain rfl : rest = [] := List.eq_nil_of_length_eq_zero h0
      go_wp2
      go_ret2
      refine ⟨hB, Or.inl ⟨m, _, ?_, rfl, HO.out⟩⟩
      rw [HE.out, T.opn_nil]; simp
    · have e0 : (0 : Int) < (rest.length : Int) := by omega
      have hSw : SlL wr ao2 rest := hS.below hB (Nat.le_refl _)
      have cw := openWindow_any rest ao2 rest.length cap2 least wr rfl hSw (by omega)
      cases hok : T.okw least rest with
      | none =>
        rw [hok] at cw
        have hnone := T.okw_none hok (by omega)
        have HN := hide hnone
        clear hnone hok
        go_wp2_with (go_at_call 180; refine cw.mono ?_; unfold T.okv; rintro e w2 ⟨rfl, rfl⟩)
        go_ret2
        exact ⟨hB, Or.inr ⟨by rw [HE.out, HN.out]; rfl, rfl⟩⟩
      | some k =>
        rw [hok] at cw
        obtain ⟨x, n, r, rfl, rfl, n0, n32, nr, hop⟩ := T.okw_some hok
        obtain ⟨b, o, rfl, hb, hcc⟩ := hS (by omega)
        have hrl2 : (x :: n :: r).length = r.length + 2 := by simp
        rw [hrl2] at cw hcap hrl hml hcc e0
        obtain ⟨_, _, e, _, hcr⟩ := hSw (by simp)
        cases e
        have c0 : wr.cell? ⟨b, o, none⟩ = some (.int .u8 (x.toNat : Int)) := hcr 0 (by simp)
        have hx := x.toNat_lt
        have htl := T.typ_len x.toNat (r.take n.toNat)
        rw [List.length_take] at htl
        have hS2 : SlL wr (some ⟨b, o + 2, none⟩) (r.take n.toNat) := by
          have := (SlL.drop (k := 2) hSw (by simp)).take n.toNat
          simpa using this
        have hS3 : SlL w (some ⟨b, o + (2 + n.toNat), none⟩) (r.drop n.toNat) := by
          have := SlL.drop (k := 2 + n.toNat) hS (by simp; omega)
          rw [show (x :: n :: r).drop (2 + n.toNat) = r.drop n.toNat by
            rw [show 2 + n.toNat = n.toNat + 2 by omega]; rfl] at this
          exact this
        have hd3 : (r.drop n.toNat).length = r.length - n.toNat := List.length_drop
        have htk : (r.take n.toNat).length = n.toNat := by rw [List.length_take]; omega
        obtain ⟨X, hX⟩ : ∃ X : Nat, x.toNat = X := ⟨_, rfl⟩
        obtain ⟨M, hM⟩ : ∃ M : Nat, n.toNat = M := ⟨_, rfl⟩
        rw [hX] at c0 hx htl hop
        rw [hM] at n0 n32 nr hop hS2 hS3 hd3 htk htl cw
        have ex : IntKind.i64.wrap (X : Int) = (X : Int) := wrap_nat _ (by omega)
        have ca := fun v hO => appendTypes_any X (r.take M) m w.heap.size b (o + 2) M (cap2 - 2) v wr htk n32 n0 hx hS2 hb hO hz (by omega)
        have hne : ¬ cap2 = 2 := by omega
        have hle2 : 2 + M ≤ cap2 := by omega
        have hle3 : 2 + M ≤ r.length + 2 := by omega
        have HOP := hide hop
        have HD := hide hd3
        have HTL := hide htl
        have HTK := hide htk
        clear hcc hcr hS hSw hS2 hX hM hok hop hd3 htl htk
        generalize r.take M = rt at *
        generalize hrd : r.drop M = rd at *
        clear hrd
        simp only [List.length_cons]
        go_wp2_with (first
          | (go_at_call 180; refine cw.mono ?_; unfold T.okv; rintro e w2 ⟨rfl, rfl⟩)
          | (go_at_call 181; refine (ca _ HO.out).mono ?_; rintro e w3 ⟨v3, rfl, hO3, hB3⟩))
        go_roundw
        case rel =>
          have hd := HD.out
          have htl := HTL.out
          refine ⟨rd, _, cap2 - (2 + M), X + 1, m ++ T.typ X rt, by rw [hd, show r.length + 1 + 1 - (2 + M) = r.length - M by omega], by go_num, ?_, by omega, by omega, by omega, by omega, hO3, hB.trans hB3, ?_, ?_⟩
          · by_cases e : cap2 = 2 + M
            · intro hn; omega
            · rw [if_neg e]; exact hS3
          · rw [List.length_append]; omega
          · rw [HE.out, HOP.out]
            cases T.opn (X + 1) rd <;> simp
        case measure => simp [lenOf]; omega
end Go.Proofs.YtdldaphkiphpnaaGreat

