/- Numbers in bytes: config.append16, append32, number16, number32, bytes.Clone; the reference's Put, Get; signethelp.Place. -/
import Derived.Test.YtfkkaegebpckmaaNmB
import Derived.Deep.RegionLaw
import Derived.Deep.RegionHeld3
namespace Go.Proofs.Ytfkkaegebpckmaa
open Go.RowKit
namespace D
def p16 (n : Nat) : List UInt8 := [UInt8.ofNat (n / 256), UInt8.ofNat n]
def p32 (n : Nat) : List UInt8 := p16 (n / 65536) ++ p16 (n % 65536)
set_option maxRecDepth 5000 in
theorem p16_len (n : Nat) : (p16 n).length = 2 := rfl
set_option maxRecDepth 5000 in
theorem p32_len (n : Nat) : (p32 n).length = 4 := rfl
end D
/- a call of a Go function in a region that draws -/
set_option maxRecDepth 5000 in
theorem step_call {ops : Array Oper} {o : Oper} {a : Act} {w : World} {K : Act → World → Prop} {Q : Exit → Act → World → Prop} {E : Prop} (hgd : o.guard = none) (f : FuncId) (vals : Array Value)
    (hx : (execOp a.eval o).run Try.prog w = .ok (.enter f vals) w) {R : Ending → World → Prop} (hc : Calls Try.prog f vals w R) (hr : ∀ e w', R e w' → ∃ v, e = .returned v)
    (h : ∀ v w', R (.returned v) w' → K (a.put o.dst v) w') : if Region.wanted o (yielded ops a.tmps) = true then Oper.wp Try.prog o a w K Q else E := by
  have hw : Region.wanted o (yielded ops a.tmps) = true := by simp [Region.wanted, hgd]
  rw [if_pos hw]
  unfold Oper.wp
  rw [hx, Oper.upon_enter]
  refine hc.mono fun e w' he => ?_
  obtain ⟨v, rfl⟩ := hr e w' he
  exact h v w' he
/- what an append to the call's own bytes keeps: all below 'base', and rows of other types -/
def Kp (base : Nat) (w w' : World) : Prop := Below base w w' ∧ ∀ g t c, RowAt w g t c → t ≠ 5 → RowAt w' g t c
set_option maxRecDepth 5000 in
theorem Kp.refl (base : Nat) (w : World) : Kp base w w := ⟨Below.refl _ _, fun _ _ _ h _ => h⟩
set_option maxRecDepth 5000 in
theorem Kp.trans {base : Nat} {a b c : World} (h : Kp base a b) (k : Kp base b c) : Kp base a c := ⟨h.1.trans k.1, fun g t x hx ht => k.2 g t x (h.2 g t x hx ht) ht⟩
set_option maxRecDepth 5000 in
theorem Kp.of {base : Nat} {w w' : World} (h : Below w.heap.size w w') (hb : base ≤ w.heap.size) : Kp base w w' := ⟨h.mono hb, fun _ _ _ hx _ => hx.below h hx.lt⟩
set_option maxRecDepth 5000 in
theorem Kp.grown {base : Nat} {w w' : World} {v : Value} {l : List UInt8} (hO : OwnB w base v l) (hg : w.grownBy w' v.ownBlock) (hb : base ≤ w.heap.size) : Kp base w w' := ⟨grown_below hO hg (Below.refl _ _) hb, fun _ _ _ hx ht => row_grown hO hx ht hg⟩
set_option maxRecDepth 5000 in
theorem Kp.size {base : Nat} {w w' : World} (h : Kp base w w') (hb : base ≤ w.heap.size) : base ≤ w'.heap.size := Nat.le_trans hb h.1.size
set_option maxRecDepth 5000 in
theorem Kp.app {base : Nat} {w w' : World} {v : Value} {l : List UInt8} {o : Obj} (hO : OwnB w base v l) (hg : (w.alloc o).grownBy w' v.ownBlock) (hb : base ≤ w.heap.size) : Kp base w w' :=
  (Kp.of ((Below.refl w.heap.size w).alloc (Nat.le_refl _) o) hb).trans (Kp.grown (hO.alloc o) hg (by simp; omega))
set_option maxRecDepth 5000 in
theorem append16_any (n : Nat) (hn : n < 65536) (base : Nat) (v : Value) (l : List UInt8) (w : World) (hO : OwnB w base v l) (hb : base ≤ w.heap.size) (hl : l.length ≤ 1000000) :
    Calls Try.prog 25 #[v, .int .u16 (n : Int)] w fun e w' => ∃ v', e = .returned v' ∧ OwnB w' base v' (l ++ D.p16 n) ∧ Kp base w w' := by
  have HO := hide hO
  clear hO
  go_enter Try.func25, Try.ntmps25
  have h1 : Hid ((n : Int) / 256 = ((UInt8.ofNat (n / 256)).toNat : Int)) := by show _ = _; rw [UInt8.toNat_ofNat']; omega
  have h2 : Hid ((n : Int) % 256 = ((UInt8.ofNat n).toNat : Int)) := by show _ = _; rw [UInt8.toNat_ofNat']; omega
  go_wp2_with (at_builtin; refine wpList_append_B rfl (.tmp 5) (.tmp 11) rfl base _ l rfl (by exact HO.out.alloc _) _ _ _ (D.p16 n) rfl rfl (by refine SlL.litm w (D.p16 n) _ 5 (0, 0) ?_; show _ = #[Value.int .u8 ((UInt8.ofNat (n / 256)).toNat : Int), Value.int .u8 ((UInt8.ofNat n).toNat : Int)]; rw [← h1.out, ← h2.out]) (by intro h; cases h) (by simp; omega) (by simp; omega) ?_; intro v4 w4 hO4 hG4)
  go_ret
  exact ⟨_, rfl, hO4, Kp.app HO.out hG4 hb⟩
set_option maxRecDepth 5000 in
theorem append32_any (n : Nat) (hn : n < 4294967296) (base : Nat) (v : Value) (l : List UInt8) (w : World) (hO : OwnB w base v l) (hb : base ≤ w.heap.size) (hl : l.length ≤ 900000) :
    Calls Try.prog 24 #[v, .int .u32 (n : Int)] w fun e w' => ∃ v', e = .returned v' ∧ OwnB w' base v' (l ++ D.p32 n) ∧ Kp base w w' := by
  have HO := hide hO
  clear hO
  have h1 : (n : Int) / 65536 = ((n / 65536 : Nat) : Int) := by omega
  have h2 : IntKind.u16.wrap (n : Int) = ((n % 65536 : Nat) : Int) := by rw [IntKind.wrap_u16]; omega
  have b1 : n / 65536 < 65536 := by omega
  have b2 : n % 65536 < 65536 := by omega
  have e0 : l ++ D.p32 n = l ++ D.p16 (n / 65536) ++ D.p16 (n % 65536) := by rw [D.p32, List.append_assoc]
  rw [e0]
  clear e0
  generalize n / 65536 = x at h1 b1
  generalize n % 65536 = y at h2 b2
  go_enter Try.func24, Try.ntmps24
  go_wp2_with fail
  refine (append16_any x b1 base v l _ (by exact HO.out) (by exact hb) (by omega)).mono ?_
  rintro e w1 ⟨v1, rfl, hO1, hK1⟩
  go_wp2_with fail
  refine (append16_any y b2 base v1 (l ++ D.p16 x) _ (by exact hO1) (by exact hK1.size hb) (by simp [D.p16]; omega)).mono ?_
  rintro e w2 ⟨v2, rfl, hO2, hK2⟩
  go_wp2
  go_ret
  exact ⟨_, rfl, hO2, hK1.trans hK2⟩
set_option maxRecDepth 5000 in
theorem SlL.grown {w w' : World} {ao : Option Addr} {x : List UInt8} {row : Option Nat} (h : SlL w ao x) (hg : w.grownBy w' row) (hne : 0 < x.length → ∀ b o, ao = some ⟨b, o, none⟩ → some b ≠ row) : SlL w' ao x := fun hn => by
  obtain ⟨b, o, e, hlt, hc⟩ := h hn
  exact ⟨b, o, e, Nat.lt_of_lt_of_le hlt hg.size, fun j hj => (World.cell?_of_block (w := w) (a := ⟨b, o + j, none⟩) (hg.block b hlt (hne hn b o e))).trans (hc j hj)⟩
/- where the call's own bytes lie -/
set_option maxRecDepth 5000 in
theorem OwnB.blk {w : World} {base : Nat} {v : Value} {l : List UInt8} (h : OwnB w base v l) {g : Nat} (hg : some g = v.ownBlock) : base ≤ g ∧ g < w.heap.size := by
  have h0 : w.ownsRow base 5 1 v l.length (vb l) := h
  rcases h0.2 with ⟨rfl, _⟩ | ⟨g', cap, cur, rfl, hb, hg', _⟩
  · simp [Value.ownBlock] at hg
  · simp [Value.ownBlock] at hg; subst hg; exact ⟨hb, (Array.getElem?_eq_some_iff.1 hg').1⟩
set_option maxRecDepth 5000 in
theorem SlL.apart {w0 w : World} {ao : Option Addr} {x : List UInt8} {base : Nat} {v : Value} {l : List UInt8} (hs : SlL w0 ao x) (hO : OwnB w base v l) (hb : w0.heap.size ≤ base) : 0 < x.length → ∀ b o, ao = some ⟨b, o, none⟩ → some b ≠ v.ownBlock := by
  intro hn b o e e2
  obtain ⟨b', o', e', hlt, _⟩ := hs hn
  rw [e'] at e
  cases e
  have := (hO.blk e2).1
  omega
/- a call of a Go function in a region that draws, told from a builtin -/
set_option maxRecDepth 5000 in
theorem step_fn {ops : Array Oper} {o : Oper} {a : Act} {w : World} {K : Act → World → Prop} {Q : Exit → Act → World → Prop} {E : Prop} (f : FuncId) (args : Array Operand) (tys : Array TypeId) (_ho : o.op = .call { callee := .value (.func f), args := args, argTypes := tys }) (hgd : o.guard = none) (vals : Array Value)
    (hx : (execOp a.eval o).run Try.prog w = .ok (.enter f vals) w) {R : Ending → World → Prop} (hc : Calls Try.prog f vals w R) (hr : ∀ e w', R e w' → ∃ v, e = .returned v)
    (h : ∀ v w', R (.returned v) w' → K (a.put o.dst v) w') : if Region.wanted o (yielded ops a.tmps) = true then Oper.wp Try.prog o a w K Q else E := step_call hgd f vals hx hc hr h
namespace D
def gv (l : List UInt8) : Nat := l.foldl (fun a b => a * 256 + b.toNat) 0
set_option maxRecDepth 5000 in
theorem gv_next (l : List UInt8) (j : Nat) (h : j < l.length) : gv (l.take (j + 1)) = gv (l.take j) * 256 + (l.getD j 0).toNat := by
  rw [N.take_nextB l j h]
  unfold gv
  rw [List.foldl_append]; rfl
set_option maxRecDepth 5000 in
theorem gv_lt : ∀ (l : List UInt8), gv l < 256 ^ l.length := by
  intro l
  have h : ∀ (l : List UInt8) (a : Nat), l.foldl (fun a b => a * 256 + b.toNat) a < (a + 1) * 256 ^ l.length := by
    intro l
    induction l with
    | nil => intro a; simp
    | cons x l ih =>
      intro a
      rw [List.foldl_cons, List.length_cons, Nat.pow_succ]
      refine Nat.lt_of_lt_of_le (ih _) ?_
      have := x.toNat_lt
      have h2 : a * 256 + x.toNat + 1 ≤ (a + 1) * 256 := by omega
      calc (a * 256 + x.toNat + 1) * 256 ^ l.length ≤ ((a + 1) * 256) * 256 ^ l.length := Nat.mul_le_mul_right _ h2
        _ = (a + 1) * (256 ^ l.length * 256) := by rw [Nat.mul_assoc, Nat.mul_comm 256]
  have := h l 0
  simpa [gv] using this
set_option maxRecDepth 5000 in
theorem gv_take_lt (l : List UInt8) (j : Nat) (hl : l.length ≤ 4) (hj : j < l.length) : gv (l.take j) < 16777216 := by
  have h1 := gv_lt (l.take j)
  have h2 : (l.take j).length ≤ 3 := by rw [List.length_take]; omega
  have h3 : 256 ^ (l.take j).length ≤ 256 ^ 3 := Nat.pow_le_pow_right (by omega) h2
  omega
end D
set_option maxRecDepth 5000 in
theorem or_8 (x y : Nat) (hx : x < 16777216) (hy : y < 256) : bits .or .u32 ((x : Int) * 256) (y : Int) = ((x * 256 + y : Nat) : Int) := by
  have := u32_or_nat (x * 256) y (by omega) (by omega)
  rw [nat_join 8 (x * 256) y (by omega) (by omega), Int.natCast_mul] at this
  exact this
set_option maxRecDepth 5000 in
theorem get_any (l : List UInt8) (ao : Option Addr) (len cap : Nat) (w : World) (hl : Hid (l.length = len)) (hs : SlL w ao l) (h4 : len ≤ 4) :
    Calls Try.prog 33 #[.slice ao len cap] w fun e w' => e = .returned (.int .u32 (D.gv l : Int)) ∧ w' = w := by
  have HS := hide hs
  clear hs
  go_enter Try.func33, Try.ntmps33
  go_wp2
  go_loopw [4, 3] (fun i v wr => ∃ j : Nat, i = .int .i64 (j : Int) ∧ j ≤ len ∧ v = .int .u32 (D.gv (l.take j) : Int) ∧ wr = w) (fun i _ _ => len - (intOf i).toNat)
  case atStart => exact ⟨0, rfl, by omega, rfl, rfl⟩
  case round =>
    obtain ⟨j, rfl, hj, rfl, rfl⟩ := hrel
    by_cases hlt : j < len
    · obtain ⟨b1, o1, rfl, hb1, hc1⟩ := HS.out (by have := hl.out; omega)
      have hx := hc1 j (by have := hl.out; omega)
      have hn := D.gv_next l j (by have := hl.out; omega)
      have hg := D.gv_take_lt l j (by have := hl.out; omega) (by have := hl.out; omega)
      have hy := (l.getD j 0).toNat_lt
      clear hc1
      generalize (l.getD j 0).toNat = y at hx hn hy
      generalize D.gv (l.take j) = x at hn hg
      have HN := hide hn
      have hor := or_8 x y hg hy
      clear hn
      have hjl : (j : Int) < (len : Int) := by omega
      go_wp2
      go_roundw
      case rel => exact ⟨j + 1, by go_num, by omega, by rw [HN.out]; simp, trivial⟩
      case measure => simp [intOf]; omega
    · obtain rfl : j = len := by omega
      have ht : l.take j = l := by rw [← hl.out]; exact List.take_length
      rw [ht]
      go_wp2
      go_ret
      exact ⟨rfl, rfl⟩
namespace D
/- the k lowest bytes of n, the highest first, less the i last -/
def put (n k i : Nat) : List UInt8 := (List.range (k - i)).map (fun j => UInt8.ofNat (n / 2 ^ (8 * (k - 1 - j))))
set_option maxRecDepth 5000 in
theorem put_next (n k i : Nat) (h : i < k) : put n k i = put n k (i + 1) ++ [UInt8.ofNat (n / 2 ^ (8 * i))] := by
  unfold put
  rw [show k - i = (k - (i + 1)) + 1 by omega, List.range_succ, List.map_append, List.map_cons, List.map_nil]
  congr 3
  rw [show k - 1 - (k - (i + 1)) = i by omega]
set_option maxRecDepth 5000 in
theorem put_all (n k : Nat) : put n k k = [] := by unfold put; rw [Nat.sub_self]; rfl
set_option maxRecDepth 5000 in
theorem put_2 (n : Nat) : put n 2 0 = p16 n := by
  simp [put, p16, List.range_succ]
set_option maxRecDepth 5000 in
theorem put_4 (n : Nat) : put n 4 0 = p32 n := by
  have e1 : UInt8.ofNat (n / 256) = UInt8.ofNat (n % 65536 / 256) := by apply UInt8.toNat_inj.1; rw [UInt8.toNat_ofNat', UInt8.toNat_ofNat']; omega
  have e2 : UInt8.ofNat n = UInt8.ofNat (n % 65536) := by apply UInt8.toNat_inj.1; rw [UInt8.toNat_ofNat', UInt8.toNat_ofNat']; omega
  show [UInt8.ofNat (n / 16777216), UInt8.ofNat (n / 65536), UInt8.ofNat (n / 256), UInt8.ofNat (n / 1)] = [UInt8.ofNat (n / 65536 / 256), UInt8.ofNat (n / 65536), UInt8.ofNat (n % 65536 / 256), UInt8.ofNat (n % 65536)]
  rw [← e1, ← e2, Nat.div_one, Nat.div_div_eq_div_mul]
end D
set_option maxHeartbeats 400000 in
set_option maxRecDepth 5000 in
theorem put_any (n k : Nat) (hk : k ≤ 4) (base : Nat) (v : Value) (l : List UInt8) (w : World) (hO : OwnB w base v l) (hb : base ≤ w.heap.size) (hl : l.length ≤ 900000) :
    Calls Try.prog 26 #[v, .int .u32 (n : Int), .int .i64 (k : Int)] w fun e w' => ∃ v', e = .returned v' ∧ OwnB w' base v' (l ++ D.put n k 0) ∧ Kp base w w' := by
  have HO := hide hO
  clear hO
  go_enter Try.func26, Try.ntmps26
  go_wp2
  go_loopw [7, 0] (fun i v wr => ∃ j : Nat, i = .int .i64 ((j : Int) - 1) ∧ j ≤ k ∧ OwnB wr base v (l ++ D.put n k j) ∧ Kp base w wr) (fun i _ _ => (intOf i + 1).toNat)
  case atStart => exact ⟨k, rfl, by omega, (by rw [D.put_all, List.append_nil]; exact HO.out), Kp.refl _ _⟩
  case round =>
    obtain ⟨j, rfl, hj, hO, hK⟩ := hrel
    have HOO := hide hO
    have hz := hK.size hb
    have HKK := hide hK
    clear hO hK
    by_cases h0 : j = 0
    · subst h0
      go_wp2
      go_ret
      exact ⟨_, rfl, HOO.out, HKK.out⟩
    · obtain ⟨i, rfl⟩ : ∃ i, j = i + 1 := ⟨j - 1, by omega⟩
      have hge : (0 : Int) ≤ ((i + 1 : Nat) : Int) - 1 := by omega
      have hi : (((i + 1 : Nat) : Int) - 1) = (i : Int) := by omega
      rw [hi]
      have h1 : Hid ((n : Int) / 2 ^ (8 * i) % 256 = ((UInt8.ofNat (n / 2 ^ (8 * i))).toNat : Int)) := by
        show _ = _
        rw [UInt8.toNat_ofNat']
        push_cast
        rfl
      have hpl : (D.put n k (i + 1)).length ≤ 4 := by simp [D.put]; omega
      have HN := hide (D.put_next n k i (by omega))
      go_wp2_with (at_builtin; refine wpList_append_B rfl (.tmp 14) (.tmp 20) rfl base _ (l ++ D.put n k (i + 1)) rfl (by exact HOO.out.alloc _) _ _ _ [UInt8.ofNat (n / 2 ^ (8 * i))] rfl rfl (by exact SlL.oneI _ _ _ _ h1.out) (by intro h; cases h) (by simp only [List.length_append]; omega) (by simp; omega) ?_; intro v4 w4 hO4 hG4; have hK4 := Kp.app HOO.out hG4 hz; clear hG4)
      go_roundw
      case rel => exact ⟨i, rfl, by omega, (by rw [HN.out, ← List.append_assoc]; exact hO4), HKK.out.trans hK4⟩
      case measure => simp [intOf]
set_option maxRecDepth 5000 in
theorem place_any (k : Int) (n : Nat) (w : World) (h0 : 0 < n) (hn : n < 1000000) : Calls Try.prog 18 #[.int .i64 k, .int .i64 (n : Int)] w fun e w' => ∃ r : Nat, r < n ∧ e = .returned (.int .i64 (r : Int)) ∧ w' = w := by
  have e1 : Int.tmod k (n : Int) < (n : Int) := Int.tmod_lt_of_pos k (by omega)
  have e2 : -(n : Int) < Int.tmod k (n : Int) := by
    have h3 := Int.natAbs_tmod k (n : Int)
    have h4 : k.natAbs % (n : Int).natAbs < n := by rw [Int.natAbs_natCast]; exact Nat.mod_lt _ h0
    omega
  have hnz : ¬ ((n : Int) = 0) := by omega
  have hn1 : ¬ ((n : Int) = -1) := by omega
  obtain ⟨t, ht⟩ : ∃ t, Int.tmod k (n : Int) = t := ⟨_, rfl⟩
  rw [ht] at e1 e2
  have hw : IntKind.i64.wrap t = t := by rw [IntKind.wrap_i64]; omega
  by_cases h1 : t < 0
  · have q : decide (t < 0) = true := by simpa using h1
    obtain ⟨r, hr⟩ : ∃ r : Nat, t + (n : Int) = (r : Int) := ⟨(t + n).toNat, by omega⟩
    have hr2 : r < n := by omega
    have hw2 : IntKind.i64.wrap (t + (n : Int)) = (r : Int) := by rw [IntKind.wrap_i64]; omega
    clear hr
    go_enter Try.func18, Try.ntmps18
    go_wp2
    go_ret
    exact ⟨r, hr2, rfl, rfl⟩
  · have q : decide (t < 0) = false := by simpa using h1
    obtain ⟨r, rfl⟩ : ∃ r : Nat, t = (r : Int) := ⟨t.toNat, by omega⟩
    go_enter Try.func18, Try.ntmps18
    go_wp2
    go_ret
    exact ⟨r, by omega, rfl, rfl⟩
end Go.Proofs.Ytfkkaegebpckmaa
