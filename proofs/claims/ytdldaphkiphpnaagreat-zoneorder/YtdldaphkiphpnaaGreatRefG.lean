/- The reference's Get, Put, whole (a text of stage 5, at this seat). -/
import Derived.Test.YtdldaphkiphpnaaGreatTyR
import Derived.Test.YtdldaphkiphpnaaGreatDck
/- stage5/RefG -/
/- signetref3.Get, Put, whole. -/
namespace Go.Proofs.YtdldaphkiphpnaaGreat
open Go.RowKit
/- a call of a Go function in a region that draws, told from a builtin -/
set_option maxRecDepth 5000 in
theorem step_fn {ops : Array Oper} {o : Oper} {a : Act} {w : World} {K : Act → World → Prop} {Q : Exit → Act → World → Prop} {E : Prop} (f : FuncId) (args : Array Operand) (tys : Array TypeId) (_ho : o.op = .call { callee := .value (.func f), args := args, argTypes := tys }) (hgd : o.guard = none) (vals : Array Value)
    (hx : (execOp a.eval o).run Tryz.prog w = .ok (.enter f vals) w) {R : Ending → World → Prop} (hc : Calls Tryz.prog f vals w R) (hr : ∀ e w', R e w' → ∃ v, e = .returned v)
    (h : ∀ v w', R (.returned v) w' → K (a.put o.dst v) w') : if Region.wanted o (yielded ops a.tmps) = true then Oper.wp Tryz.prog o a w K Q else E := step_call hgd f vals hx hc hr h
namespace D
def gv (l : List UInt8) : Nat := l.foldl (fun a b => a * 256 + b.toNat) 0
set_option maxRecDepth 5000 in
theorem gv_next (l : List UInt8) (j : Nat) (h : j < l.length) : gv (l.take (j + 1)) = gv (l.take j) * 256 + (l.getD j 0).toNat := by
  rw [N.take_nextB l j h]
  unfold gv
  rw [List.foldl_append]; rfl
set_option maxRecDepth 5000 in
theorem gv_lt : ∀ (l : List UInt8), gv l < 256 ^ l.length := by
  intro l
  have h : ∀ (l : List UInt8) (a : Nat), l.foldl (fun a b => a * 256 + b.toNat) a < (a + 1) * 256 ^ l.length := by
    intro l
    induction l with
    | nil => intro a; simp
    | cons x l ih =>
      intro a
      rw [List.foldl_cons, List.length_cons, Nat.pow_succ]
      refine Nat.lt_of_lt_of_le (ih _) ?_
      have := x.toNat_lt
      have h2 : a * 256 + x.toNat + 1 ≤ (a + 1) * 256 := by omega
      calc (a * 256 + x.toNat + 1) * 256 ^ l.length ≤ ((a + 1) * 256) * 256 ^ l.length := Nat.mul_le_mul_right _ h2
        _ = (a + 1) * (256 ^ l.length * 256) := by rw [Nat.mul_assoc, Nat.mul_comm 256]
  have := h l 0
  simpa [gv] using this
set_option maxRecDepth 5000 in
theorem gv_take_lt (l : List UInt8) (j : Nat) (hl : l.length ≤ 4) (hj : j < l.length) : gv (l.take j) < 16777216 := by
  have h1 := gv_lt (l.take j)
  have h2 : (l.take j).length ≤ 3 := by rw [List.length_take]; omega
  have h3 : 256 ^ (l.take j).length ≤ 256 ^ 3 := Nat.pow_le_pow_right (by omega) h2
  omega
set_option maxRecDepth 5000 in
theorem n16_gv (x y : UInt8) (r : List UInt8) : n16 (x :: y :: r) = some (gv [x, y], r) := by simp [n16, gv]
set_option maxRecDepth 5000 in
theorem n32_gv (x y z u : UInt8) (r : List UInt8) : n32 (x :: y :: z :: u :: r) = some (gv [x, y, z, u], r) := by
  simp only [n32, n16, Option.bind_some, Option.map_some, gv, List.foldl_cons, List.foldl_nil]
  congr 2; omega
end D
set_option maxRecDepth 5000 in
theorem or_8 (x y : Nat) (hx : x < 16777216) (hy : y < 256) : bits .or .u32 ((x : Int) * 256) (y : Int) = ((x * 256 + y : Nat) : Int) := by
  have := u32_or_nat (x * 256) y (by omega) (by omega)
  rw [nat_join 8 (x * 256) y (by omega) (by omega), Int.natCast_mul] at this
  exact this
set_option maxRecDepth 5000 in
theorem get_any (l : List UInt8) (ao : Option Addr) (len cap : Nat) (w : World) (hl : Hid (l.length = len)) (hs : SlL w ao l) (h4 : len ≤ 4) :
    Calls Tryz.prog 130 #[.slice ao len cap] w fun e w' => e = .returned (.int .u32 (D.gv l : Int)) ∧ w' = w := by
  have HS := hide hs
  clear hs
  go_enter Tryz.func130, Tryz.ntmps130
  go_wp2
  go_loopw [4, 3] (fun i v wr => ∃ j : Nat, i = .int .i64 (j : Int) ∧ j ≤ len ∧ v = .int .u32 (D.gv (l.take j) : Int) ∧ wr = w) (fun i _ _ => len - (intOf i).toNat)
  case atStart => exact ⟨0, rfl, by omega, rfl, rfl⟩
  case round =>
    obtain ⟨j, rfl, hj, rfl, rfl⟩ := hrel
    by_cases hlt : j < len
    · obtain ⟨b1, o1, rfl, hb1, hc1⟩ := HS.out (by have := hl.out; omega)
      have hx := hc1 j (by have := hl.out; omega)
      have hn := D.gv_next l j (by have := hl.out; omega)
      have hg := D.gv_take_lt l j (by have := hl.out; omega) (by have := hl.out; omega)
      have hy := (l.getD j 0).toNat_lt
      clear hc1
      generalize (l.getD j 0).toNat = y at hx hn hy
      generalize D.gv (l.take j) = x at hn hg
      have HN := hide hn
      have hor := or_8 x y hg hy
      clear hn
      have hjl : (j : Int) < (len : Int) := by omega
      go_wp2
      go_roundw
      case rel => exact ⟨j + 1, by go_num, by omega, by rw [HN.out]; simp, trivial⟩
      case measure => simp [intOf]; omega
    · obtain rfl : j = len := by omega
      have ht : l.take j = l := by rw [← hl.out]; exact List.take_length
      rw [ht]
      go_wp2
      go_ret
      exact ⟨rfl, rfl⟩
namespace D
/- the k lowest bytes of n, the highest first, less the i last -/
def put (n k i : Nat) : List UInt8 := (List.range (k - i)).map (fun j => UInt8.ofNat (n / 2 ^ (8 * (k - 1 - j))))
set_option maxRecDepth 5000 in
theorem put_next (n k i : Nat) (h : i < k) : put n k i = put n k (i + 1) ++ [UInt8.ofNat (n / 2 ^ (8 * i))] := by
  unfold put
  rw [show k - i = (k - (i + 1)) + 1 by omega, List.range_succ, List.map_append, List.map_cons, List.map_nil]
  congr 3
  rw [show k - 1 - (k - (i + 1)) = i by omega]
set_option maxRecDepth 5000 in
theorem put_all (n k : Nat) : put n k k = [] := by unfold put; rw [Nat.sub_self]; rfl
set_option maxRecDepth 5000 in
theorem put_2 (n : Nat) : put n 2 0 = p16 n := by
  simp [put, p16, List.range_succ]
set_option maxRecDepth 5000 in
theorem put_4 (n : Nat) : put n 4 0 = p32 n := by
  have e1 : UInt8.ofNat (n / 256) = UInt8.ofNat (n % 65536 / 256) := by apply UInt8.toNat_inj.1; rw [UInt8.toNat_ofNat', UInt8.toNat_ofNat']; omega
  have e2 : UInt8.ofNat n = UInt8.ofNat (n % 65536) := by apply UInt8.toNat_inj.1; rw [UInt8.toNat_ofNat', UInt8.toNat_ofNat']; omega
  show [UInt8.ofNat (n / 16777216), UInt8.ofNat (n / 65536), UInt8.ofNat (n / 256), UInt8.ofNat (n / 1)] = [UInt8.ofNat (n / 65536 / 256), UInt8.ofNat (n / 65536), UInt8.ofNat (n % 65536 / 256), UInt8.ofNat (n % 65536)]
  rw [← e1, ← e2, Nat.div_one, Nat.div_div_eq_div_mul]
end D
set_option maxHeartbeats 400000 in
set_option maxRecDepth 5000 in
theorem put_any (n k : Nat) (hk : k ≤ 4) (base : Nat) (v : Value) (l : List UInt8) (w : World) (hO : OwnB w base v l) (hb : base ≤ w.heap.size) (hl : l.length ≤ 900000) :
    Calls Tryz.prog 128 #[v, .int .u32 (n : Int), .int .i64 (k : Int)] w fun e w' => ∃ v', e = .returned v' ∧ OwnB w' base v' (l ++ D.put n k 0) ∧ Kp base w w' := by
  have HO := hide hO
  clear hO
  go_enter Tryz.func128, Tryz.ntmps128
  go_wp2
  go_loopw [7, 0] (fun i v wr => ∃ j : Nat, i = .int .i64 ((j : Int) - 1) ∧ j ≤ k ∧ OwnB wr base v (l ++ D.put n k j) ∧ Kp base w wr) (fun i _ _ => (intOf i + 1).toNat)
  case atStart => exact ⟨k, rfl, by omega, (by rw [D.put_all, List.append_nil]; exact HO.out), Kp.refl _ _⟩
  case round =>
    obtain ⟨j, rfl, hj, hO, hK⟩ := hrel
    have HOO := hide hO
    have hz := hK.size hb
    have HKK := hide hK
    clear hO hK
    by_cases h0 : j = 0
    · subst h0
      go_wp2
      go_ret
      exact ⟨_, rfl, HOO.out, HKK.out⟩
    · obtain ⟨i, rfl⟩ : ∃ i, j = i + 1 := ⟨j - 1, by omega⟩
      have hge : (0 : Int) ≤ ((i + 1 : Nat) : Int) - 1 := by omega
      have hi : (((i + 1 : Nat) : Int) - 1) = (i : Int) := by omega
      rw [hi]
      have h1 : Hid ((n : Int) / 2 ^ (8 * i) % 256 = ((UInt8.ofNat (n / 2 ^ (8 * i))).toNat : Int)) := by
        show _ = _
        rw [UInt8.toNat_ofNat']
        push_cast
        rfl
      have hpl : (D.put n k (i + 1)).length ≤ 4 := by simp [D.put]; omega
      have HN := hide (D.put_next n k i (by omega))
      go_wp2_with (at_builtin; refine wpList_append_B rfl (.tmp 14) (.tmp 20) rfl base _ (l ++ D.put n k (i + 1)) rfl (by exact HOO.out.alloc _) _ _ _ [UInt8.ofNat (n / 2 ^ (8 * i))] rfl rfl (by exact SlL.oneI _ _ _ _ h1.out) (by intro h; cases h) (by simp only [List.length_append]; omega) (by simp; omega) ?_; intro v4 w4 hO4 hG4; have hK4 := Kp.app HOO.out hG4 hz; clear hG4)
      go_roundw
      case rel => exact ⟨i, rfl, by omega, (by rw [HN.out, ← List.append_assoc]; exact hO4), HKK.out.trans hK4⟩
      case measure => simp [intOf]
/- whole: a name and nothing behind it -/
def wholeB (b : List UInt8) : Bool := (D.nm b).any fun p => decide (p.2 = [])
set_option maxRecDepth 5000 in
theorem whole_any (b : List UInt8) (ao : Option Addr) (len cap : Nat) (w : World) (hl : Hid (b.length = len)) (hs : SlL w ao b) (hm : len ≤ 1000000000) (hcap : len ≤ cap) :
    Calls Tryz.prog 94 #[.slice ao len cap] w fun e w' => e = .returned (.bool (wholeB b)) ∧ Below w.heap.size w w' := by
  have HS := hide hs
  clear hs
  go_enter Tryz.func94, Tryz.ntmps94
  go_wp2_with fail
  refine (rOpen_any b ao len cap _ hl (by exact HS.out) hm hcap).mono ?_
  rintro e w1 ⟨⟨n, v, hn, hz, rfl, hO⟩ | ⟨hn, rfl⟩ | ⟨n, hn, hz, rfl⟩, hb1⟩
  · obtain ⟨_, _, hsz⟩ := N.opn_small b n hn
    have hR : D.nm b = some (n, b.drop (N.size n)) := by unfold D.nm; rw [hn, Option.bind_some, if_pos hz]
    have hlen := hl.out
    by_cases he : N.size n = len
    · have hW : wholeB b = true := by unfold wholeB; rw [hR, List.drop_eq_nil_of_le (by omega)]; rfl
      have he2 : ((N.size n : Int) == (len : Int)) = true := by rw [he]; simp
      have HW := hide hW
      clear hR hn hW he hlen
      go_wp2
      go_ret
      exact ⟨by rw [HW.out]; rfl, hb1⟩
    · have hW : wholeB b = false := by
        have : b.drop (N.size n) ≠ [] := fun e => by
          have := congrArg List.length e
          rw [List.length_drop] at this
          simp at this; omega
        unfold wholeB; rw [hR]
        simp only [Option.any_some]
        exact decide_eq_false this
      have he2 : ((N.size n : Int) == (len : Int)) = false := beq_eq_false_iff_ne.2 (by omega)
      have HW := hide hW
      clear hR hn hW he hlen
      go_wp2
      go_ret
      exact ⟨by rw [HW.out]; rfl, hb1⟩
  · have hW : wholeB b = false := by unfold wholeB D.nm; rw [hn]; rfl
    have HW := hide hW
    clear hn hW
    go_wp2
    go_ret
    exact ⟨by rw [HW.out]; rfl, hb1⟩
  · have hW : wholeB b = false := by unfold wholeB D.nm; rw [hn, Option.bind_some, if_neg (by omega)]; rfl
    have HW := hide hW
    clear hn hW
    go_wp2
    go_ret
    exact ⟨by rw [HW.out]; rfl, hb1⟩
end Go.Proofs.YtdldaphkiphpnaaGreat

