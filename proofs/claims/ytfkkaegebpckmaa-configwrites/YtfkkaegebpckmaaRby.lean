/- signetref10.Bytes. -/
import Derived.Test.YtfkkaegebpckmaaByt
import Derived.Test.YtfkkaegebpckmaaRch
namespace Go.Proofs.Ytfkkaegebpckmaa
open Go.RowKit
/- a row of one byte is no row of two -/
set_option maxRecDepth 5000 in
theorem own_not {w : World} {base g : Nat} {v c : Value} {l : List UInt8} (hO : OwnB w base v l) (h2 : 2 ≤ l.length) (hR : RowAt w g 5 #[c]) : some g ≠ v.ownBlock := fun e => by
  have h0 : w.ownsRow base 5 1 v l.length (vb l) := hO
  rcases h0.2 with ⟨rfl, _⟩ | ⟨g', cap, cur, rfl, hb, hg', hc, _, hs, _⟩
  · simp [Value.ownBlock] at e
  · simp [Value.ownBlock] at e
    subst e
    unfold RowAt at hR
    rw [hR] at hg'
    simp at hg'
    rw [← hg'] at hs
    simp at hs
    omega
set_option maxRecDepth 5000 in
theorem CfAt.alloc {w : World} {g : Nat} {x : C.Cf} {a0 a9 : Option Addr} {la c0 ls c9 : Nat} (h : CfAt w g x a0 a9 la c0 ls c9) (o : Obj) : CfAt (w.alloc o) g x a0 a9 la c0 ls c9 := h.below ((Below.refl w.heap.size w).alloc (Nat.le_refl _) o) (RowAt.lt (c := #[.slice a0 la c0, .int .u32 (x.k : Int), .int .u32 (x.p : Int), .int .u32 (x.d : Int), .int .u32 (x.e : Int), .int .u32 (x.v : Int), .int .u32 (x.l : Int), .int .u32 (x.g : Int), .int .u32 (x.m : Int), .slice a9 ls c9, .int .u16 (x.it : Int), .int .i64 x.h, .int .u16 (x.sz : Int)]) h)
/- as Kp, and rows of one byte are kept -/
def Kz (base : Nat) (w w' : World) : Prop := Kp base w w' ∧ ∀ g c, RowAt w g 5 #[c] → RowAt w' g 5 #[c]
set_option maxRecDepth 5000 in
theorem Kz.refl (base : Nat) (w : World) : Kz base w w := ⟨Kp.refl _ _, fun _ _ h => h⟩
set_option maxRecDepth 5000 in
theorem Kz.trans {base : Nat} {a b c : World} (h : Kz base a b) (k : Kz base b c) : Kz base a c := ⟨h.1.trans k.1, fun g x hx => k.2 g x (h.2 g x hx)⟩
set_option maxRecDepth 5000 in
theorem Kz.app {base : Nat} {w w' : World} {v : Value} {l : List UInt8} {o : Obj} (hO : OwnB w base v l) (hg : (w.alloc o).grownBy w' v.ownBlock) (hb : base ≤ w.heap.size) (h2 : 2 ≤ l.length) : Kz base w w' :=
  ⟨Kp.app hO hg hb, fun g c hR => by
    have h1 : RowAt (w.alloc o) g 5 #[c] := hR.below ((Below.refl w.heap.size w).alloc (Nat.le_refl _) o) hR.lt
    exact (hg.block g h1.lt (own_not hO h2 hR)).trans h1⟩
set_option maxHeartbeats 400000 in
set_option maxRecDepth 5000 in
theorem put_keep (n k : Nat) (hk : k ≤ 4) (base : Nat) (v : Value) (l : List UInt8) (w : World) (hO : OwnB w base v l) (hb : base ≤ w.heap.size) (hl : l.length ≤ 900000) (h2 : 2 ≤ l.length) :
    Calls Try.prog 26 #[v, .int .u32 (n : Int), .int .i64 (k : Int)] w fun e w' => ∃ v', e = .returned v' ∧ OwnB w' base v' (l ++ D.put n k 0) ∧ Kz base w w' := by
  have HO := hide hO
  clear hO
  go_enter Try.func26, Try.ntmps26
  go_wp2
  go_loopw [7, 0] (fun i v wr => ∃ j : Nat, i = .int .i64 ((j : Int) - 1) ∧ j ≤ k ∧ OwnB wr base v (l ++ D.put n k j) ∧ Kz base w wr) (fun i _ _ => (intOf i + 1).toNat)
  case atStart => exact ⟨k, rfl, by omega, (by rw [D.put_all, List.append_nil]; exact HO.out), Kz.refl _ _⟩
  case round =>
    obtain ⟨j, rfl, hj, hO, hK⟩ := hrel
    have HOO := hide hO
    have hz := hK.1.size hb
    have HKK := hide hK
    clear hO hK
    by_cases h0 : j = 0
    · subst h0
      go_wp2
      go_ret
      exact ⟨_, rfl, HOO.out, HKK.out⟩
    · obtain ⟨i, rfl⟩ : ∃ i, j = i + 1 := ⟨j - 1, by omega⟩
      have hge : (0 : Int) ≤ ((i + 1 : Nat) : Int) - 1 := by omega
      have hi : (((i + 1 : Nat) : Int) - 1) = (i : Int) := by omega
      rw [hi]
      have h1 : Hid ((n : Int) / 2 ^ (8 * i) % 256 = ((UInt8.ofNat (n / 2 ^ (8 * i))).toNat : Int)) := by
        show _ = _
        rw [UInt8.toNat_ofNat']
        push_cast
        rfl
      have hpl : (D.put n k (i + 1)).length ≤ 4 := by simp [D.put]; omega
      have HN := hide (D.put_next n k i (by omega))
      go_wp2_with (at_builtin; refine wpList_append_B rfl (.tmp 14) (.tmp 20) rfl base _ (l ++ D.put n k (i + 1)) rfl (by exact HOO.out.alloc _) _ _ _ [UInt8.ofNat (n / 2 ^ (8 * i))] rfl rfl (by exact SlL.oneI _ _ _ _ h1.out) (by intro h; cases h) (by simp only [List.length_append]; omega) (by simp; omega) ?_; intro v4 w4 hO4 hG4; have hK4 := Kz.app HOO.out hG4 hz (by simp only [List.length_append]; omega); clear hG4)
      go_roundw
      case rel => exact ⟨i, rfl, by omega, (by rw [HN.out, ← List.append_assoc]; exact hO4), HKK.out.trans hK4⟩
      case measure => simp [intOf]
set_option maxRecDepth 5000 in
theorem row_sl1 {w : World} {g : Nat} {b : UInt8} {x : Int} (h : RowAt w g 5 #[.int .u8 x]) (hx : x = (b.toNat : Int)) : SlL w (some ⟨g, 0, none⟩) [b] := fun _ => by
  refine ⟨g, 0, rfl, h.lt, fun j hj => ?_⟩
  have : j = 0 := by simpa using hj
  subst this
  subst hx
  exact h.cell 0
set_option maxRecDepth 5000 in
theorem step_append_Bo {ops : Array Oper} {o : Oper} {a : Act} {w : World} {K : Act → World → Prop} {Q : Exit → Act → World → Prop} {E : Prop} (hgd : o.guard = none) (s x : Operand)
    (ho : o.op = .call { callee := .builtin .append, args := #[s, x], argTypes := #[25, 25] }) (base : Nat) (v : Value) (l : List UInt8) (hs : a.eval s = v) (hown : OwnB w base v l)
    (ao : Option Addr) (m c : Nat) (l2 : List UInt8) (hx : a.eval x = .slice ao m c) (hm : l2.length = m) (hsrc : SlL w ao l2) (hnil : ao = none → c = 0) (hbound : l.length + m ≤ 1099511627776) (hbase : base ≤ w.heap.size)
    (h : ∀ v' w', OwnB w' base v' (l ++ l2) → w.grownBy w' v.ownBlock → K (a.put o.dst v') w') : if Region.wanted o (yielded ops a.tmps) = true then Oper.wp Try.prog o a w K Q else E := by
  cases ao with
  | some ad => exact step_append_B hgd s x ho base v l hs hown ad m c l2 hx hm hsrc hbound hbase h
  | none =>
    have h0 : l2 = [] := by
      rcases Nat.eq_zero_or_pos l2.length with h | h
      · exact List.eq_nil_of_length_eq_zero h
      · obtain ⟨b, o, e, _⟩ := hsrc h; cases e
    subst h0
    obtain rfl := hnil rfl
    obtain rfl : m = 0 := hm.symm
    have hw : Region.wanted o (yielded ops a.tmps) = true := by simp [Region.wanted, hgd]
    rw [if_pos hw]
    obtain ⟨i0, hi, hz0, hz1, hz2⟩ := info_parts infoB
    have hr := run_append_owned_none (P := Try.prog) (w := w) base 25 o.type 5 i0 1 Try.underlying25 hi v l.length (vb l) hown
    unfold Oper.wp execOp
    simp only [ho, resolve, invoke, builtin, Sem.run_bind, Sem.run_pure, Result.andThen_ok, List.map_toArray, List.map_cons, List.map_nil, hs, hx, hr]
    exact h v w (by rw [List.append_nil]; exact hown) ⟨rfl, rfl, rfl, Nat.le_refl _, fun _ _ _ => rfl⟩
set_option maxRecDepth 5000 in
theorem tb_at (x : C.Cf) (j : Nat) (hj : j < 8) : (#[.int .u32 (x.k : Int), .int .u32 (x.p : Int), .int .u32 (x.d : Int), .int .u32 (x.e : Int), .int .u32 (x.v : Int), .int .u32 (x.l : Int), .int .u32 (x.g : Int), .int .u32 (x.m : Int)] : Array Value)[j]? = some (.int .u32 ((C.tb x).getD j 0 : Int)) := by
  match j, hj with
  | 0, _ => rfl
  | 1, _ => rfl
  | 2, _ => rfl
  | 3, _ => rfl
  | 4, _ => rfl
  | 5, _ => rfl
  | 6, _ => rfl
  | 7, _ => rfl
set_option maxHeartbeats 3000000 in
set_option maxRecDepth 5000 in
theorem rcBytes_any (x : C.Cf) (a0 a9 : Option Addr) (la c0 ls c9 : Nat) (w : World) (hk : C.Ok x) (hla : Hid (x.apex.length = la)) (hls : Hid (x.salt.length = ls)) (hs : SlS w a0 x.apex) (hm : Hid (N.Small x.apex)) (hz : Hid (N.size x.apex ≤ 100000)) (hs9 : SlL w a9 x.salt) (hn9 : a9 = none → c9 = 0) (hz9 : ls ≤ 300) :
    Calls Try.prog 13 #[.agg #[.slice a0 la c0, .int .u32 (x.k : Int), .int .u32 (x.p : Int), .int .u32 (x.d : Int), .int .u32 (x.e : Int), .int .u32 (x.v : Int), .int .u32 (x.l : Int), .int .u32 (x.g : Int), .int .u32 (x.m : Int), .slice a9 ls c9, .int .u16 (x.it : Int), .int .i64 x.h, .int .u16 (x.sz : Int)]] w fun e w' => ∃ v, e = .returned v ∧ OwnB w' (w.heap.size + 1) v (C.enc x) ∧ Below w.heap.size w w' := by
  have HS := hide hs
  have HS9 := hide hs9
  have HN9 := hide hn9
  have HK := hide hk
  clear hs hs9 hn9 hk
  go_enter Try.func13, Try.ntmps13
  go_wp2_with (go_at_call 23; refine (rWire_any x.apex a0 la c0 _ hla (by exact HS.out.alloc _) hm).mono ?_; rintro e w1 ⟨v1, rfl, hO1, hB1⟩; rw [size_alloc] at hO1 hB1; obtain ⟨hA1, hW1, hz1⟩ := boxed (a0 := a0) (a9 := a9) (la := la) (c0 := c0) (ls := ls) (c9 := c9) hB1; obtain ⟨q0, q1, q2, q3, q4, q5, q6, q7, q8, q9, q10, q11, q12⟩ := hA1.cells; have HO1 := hide hO1; have HW1 := hide hW1; have HA1 := hide hA1; clear hO1 hW1 hB1 hA1)
  clear q0 q1 q2 q3 q4 q5 q6 q7 q8 q9 q10 q11 q12
  have hz2 : w1.heap.size < (w1.alloc (.cells #[.int .u32 (x.k : Int), .int .u32 (x.p : Int), .int .u32 (x.d : Int), .int .u32 (x.e : Int), .int .u32 (x.v : Int), .int .u32 (x.l : Int), .int .u32 (x.g : Int), .int .u32 (x.m : Int)] 24)).heap.size := by simp
  have HT2 : Hid (RowAt (w1.alloc (.cells #[.int .u32 (x.k : Int), .int .u32 (x.p : Int), .int .u32 (x.d : Int), .int .u32 (x.e : Int), .int .u32 (x.v : Int), .int .u32 (x.l : Int), .int .u32 (x.g : Int), .int .u32 (x.m : Int)] 24)) w1.heap.size 24 #[.int .u32 (x.k : Int), .int .u32 (x.p : Int), .int .u32 (x.d : Int), .int .u32 (x.e : Int), .int .u32 (x.v : Int), .int .u32 (x.l : Int), .int .u32 (x.g : Int), .int .u32 (x.m : Int)]) := RowAt.new _ _ _
  have HB2 : Hid (Below w1.heap.size w1 (w1.alloc (.cells #[.int .u32 (x.k : Int), .int .u32 (x.p : Int), .int .u32 (x.d : Int), .int .u32 (x.e : Int), .int .u32 (x.v : Int), .int .u32 (x.l : Int), .int .u32 (x.g : Int), .int .u32 (x.m : Int)] 24))) := (Below.refl _ _).alloc (Nat.le_refl _) _
  generalize w1.alloc (.cells #[.int .u32 (x.k : Int), .int .u32 (x.p : Int), .int .u32 (x.d : Int), .int .u32 (x.e : Int), .int .u32 (x.v : Int), .int .u32 (x.l : Int), .int .u32 (x.g : Int), .int .u32 (x.m : Int)] 24) = W2 at hz2 HT2 HB2 ⊢
  have HO2 : Hid (OwnB W2 (w.heap.size + 1) v1 (N.wire x.apex)) := HO1.out.below HB2.out
  have hz3 : w.heap.size + 1 ≤ W2.heap.size := by omega
  have HBW : Hid (Below (w.heap.size + 1) w1 W2) := HB2.out.mono hz1
  go_loopw [5, 3] (fun i v wr => ∃ j : Nat, i = .int .i64 (j : Int) ∧ j ≤ 8 ∧ OwnB wr (w.heap.size + 1) v (N.wire x.apex ++ ((C.tb x).take j).flatMap D.p32) ∧ Kp (w.heap.size + 1) W2 wr) (fun i _ _ => 8 - (intOf i).toNat)
  case atStart => exact ⟨0, rfl, by omega, (by simpa using HO2.out), Kp.refl _ _⟩
  case round =>
    obtain ⟨j, rfl, hj, hO, hB⟩ := hrel
    have HO := hide hO
    have HB := hide hB
    have hzr : w.heap.size + 1 ≤ wr.heap.size := Nat.le_trans hz3 hB.1.size
    clear hO hB
    by_cases hlt : j < 8
    · have hc := (RowAt.cell (HB.out.2 _ _ _ HT2.out (by decide)) j).trans (tb_at x j hlt)
      have hn := C.flat_next (C.tb x) j hlt
      have ht := C.tb_lt HK.out j
      have hlen : Hid ((N.wire x.apex ++ ((C.tb x).take j).flatMap D.p32).length ≤ 900000) := by
        show _ ≤ _
        rw [List.length_append, C.flat_len, N.wire_len, List.length_take]
        have := hz.out
        omega
      generalize (C.tb x).getD j 0 = t at hc hn ht
      have HN := hide hn
      clear hn ht
      have HP := hide (D.put_4 t)
      go_wp2_with (go_at_call 26; refine (put_any t 4 (by omega) (w.heap.size + 1) _ _ _ (by exact HO.out) hzr hlen.out).mono ?_; rintro e w2 ⟨v2, rfl, hO2, hK2⟩)
      go_roundw
      case rel => exact ⟨j + 1, by go_num, by omega, (by rw [HN.out, ← List.append_assoc, ← HP.out]; exact hO2), HB.out.trans hK2⟩
      case measure => simp [intOf]; omega
    · obtain rfl : j = 8 := by omega
      obtain ⟨L0, hL0⟩ : ∃ L0, N.wire x.apex ++ (C.tb x).flatMap D.p32 = L0 := ⟨_, rfl⟩
      have hll : L0.length ≤ 100040 ∧ 32 ≤ L0.length := by
        rw [← hL0, List.length_append, C.flat_len, N.wire_len]
        have := hz.out
        show _ + 4 * 8 ≤ _ ∧ _ ≤ _ + 4 * 8
        omega
      have HO0 : Hid (OwnB wr (w.heap.size + 1) u3 L0) := by rw [← hL0]; exact HO.out
      have HE : Hid (C.enc x = L0 ++ [UInt8.ofNat x.salt.length] ++ x.salt ++ D.p16 x.it ++ [C.lowB x.h] ++ D.p16 x.sz) := by rw [← hL0]; exact rfl
      have HBB := hide (HBW.out.trans HB.out.1)
      have HA := hide (HA1.out.below HBB.out (by omega))
      have p9 := HA.out.c9
      obtain ⟨B0, hB0⟩ : ∃ B0 : UInt8, UInt8.ofNat x.salt.length = B0 := ⟨_, rfl⟩
      have hw0 : IntKind.u8.wrap (ls : Int) = (B0.toNat : Int) := by rw [← hB0, UInt8.toNat_ofNat', hls.out, IntKind.wrap_u8]; omega
      rw [hB0] at HE
      have hbw : w.heap.size < wr.heap.size := by omega
      have h2 : Hid (x.h % 256 = ((C.lowB x.h).toNat : Int)) := hide (C.lowB_nat x.h)
      have hi := HK.out.it
      have hsz := HK.out.sz
      clear hB0 hL0 HO HB HT2 HB2 HO2 HBW
      go_wp2
      go_region_held3 (fun w' => w'.cell? ⟨w.heap.size, 9, none⟩ = some (.slice a9 ls c9)) ((first | (with_reducible exact p9) | exact p9 | exact (CfAt.alloc HA.out _).c9)) ((first
        | (refine step_append_B rfl (.tmp 38) (.tmp 43) rfl (w.heap.size + 1) _ L0 (by simp [Act.eval]; rfl) (by exact HO0.out.alloc _) ⟨wr.heap.size, 0, none⟩ 1 1 [B0] (by simp [Act.eval]) rfl (by exact SlL.one wr B0 5) (by simp; omega) (by simp; omega) ?_; intro v4 w4 hO4 hG4; have hK4 := Kp.app (w := wr) (o := .cells #[.int .u8 (B0.toNat : Int)] 5) HO0.out ⟨hG4.os, hG4.tape, hG4.output, hG4.size, hG4.block⟩ hzr; have HB4 := hide (HBB.out.trans hK4.1); have hz4 := hK4.size hzr; have HA4 := hide (HA.out.below hK4.1 (by omega)); have p9 := HA4.out.c9; have HO4 := hide hO4; clear hG4 hO4 hK4)
        | (refine step_append_Bo rfl (.tmp 44) (.tmp 46) rfl (w.heap.size + 1) _ _ (by simp [Act.eval]; rfl) (by exact HO4.out) a9 ls c9 x.salt (by simp [Act.eval]) hls.out (by exact HS9.out.below (HW1.out.trans (HB4.out.mono (by omega))) (Nat.le_refl _)) HN9.out (by simp; omega) hz4 ?_; intro v5 w5 hO5 hG5; have hK5 := Kp.grown HO4.out hG5 hz4; have HB5 := hide (HB4.out.trans hK5.1); have hz5 := hK5.size hz4; have HA5 := hide (HA4.out.below hK5.1 (by omega)); have p9 := HA5.out.c9; have HO5 := hide hO5; clear hG5 hO5 hK5)))
      obtain ⟨B1, hB1⟩ : ∃ B1 : UInt8, C.lowB x.h = B1 := ⟨_, rfl⟩
      have hw1 : IntKind.u8.wrap x.h = (B1.toNat : Int) := by rw [← hB1, ← C.lowB_nat, IntKind.wrap_u8]
      have hw2 : IntKind.u32.wrap (x.it : Int) = (x.it : Int) := by rw [IntKind.wrap_u32]; omega
      have hw3 : IntKind.u32.wrap (x.sz : Int) = (x.sz : Int) := by rw [IntKind.wrap_u32]; omega
      rw [hB1] at HE
      obtain ⟨L1, hL1⟩ : ∃ L1, L0 ++ [B0] ++ x.salt = L1 := ⟨_, rfl⟩
      have hl1 : L1.length ≤ 100400 ∧ 32 ≤ L1.length := by
        rw [← hL1]; simp only [List.length_append, List.length_singleton]; have := hls.out; omega
      rw [hL1] at HO5 HE
      have HP1 := hide (D.put_2 x.it)
      have HP2 := hide (D.put_2 x.sz)
      have HBE := hide HB5.out
      clear hB1 hL1 hw0 p9 hi hsz h2 HA HA4 HO4 HO0 HB4 HBB hll
      go_wp2
      replace HO5 : Hid (OwnB w5.drew (w.heap.size + 1) v5 L1) := hide (by exact HO5.out)
      replace HA5 : Hid (CfAt w5.drew w.heap.size x a0 a9 la c0 ls c9) := hide (by exact HA5.out)
      replace hz5 : w.heap.size + 1 ≤ w5.drew.heap.size := hz5
      have HBF : Hid (Below (w.heap.size + 1) w1 w5.drew) := hide (below_drew HBE.out)
      have m10 := HA5.out.c10
      have m11 := HA5.out.c11
      have m12 := HA5.out.c12
      have hbw5 : w.heap.size < w5.drew.heap.size := by omega
      have HOL : Hid (OwnB (w5.drew.alloc (.cells #[.int .u8 (B1.toNat : Int)] 5)) (w.heap.size + 1) v5 L1) := HO5.out.alloc _
      have HRL : Hid (RowAt (w5.drew.alloc (.cells #[.int .u8 (B1.toNat : Int)] 5)) w5.drew.heap.size 5 #[.int .u8 (B1.toNat : Int)]) := RowAt.new _ _ _
      have HAL : Hid (CfAt (w5.drew.alloc (.cells #[.int .u8 (B1.toNat : Int)] 5)) w.heap.size x a0 a9 la c0 ls c9) := HA5.out.alloc _
      have HBL : Hid (Below (w.heap.size + 1) w1 (w5.drew.alloc (.cells #[.int .u8 (B1.toNat : Int)] 5))) := HBF.out.alloc hz5 _
      have hzL : w.heap.size + 1 ≤ (w5.drew.alloc (.cells #[.int .u8 (B1.toNat : Int)] 5)).heap.size := by rw [size_alloc]; omega
      go_region_held3 (fun w' => w'.cell? ⟨w.heap.size, 10, none⟩ = some (.int .u16 (x.it : Int)) ∧ w'.cell? ⟨w.heap.size, 11, none⟩ = some (.int .i64 x.h) ∧ w'.cell? ⟨w.heap.size, 12, none⟩ = some (.int .u16 (x.sz : Int))) ((first | (with_reducible exact ⟨m10, m11, m12⟩) | exact ⟨m10, m11, m12⟩ | exact ⟨HAL.out.c10, HAL.out.c11, HAL.out.c12⟩ | exact ⟨(HA6.out.alloc _).c10, (HA6.out.alloc _).c11, (HA6.out.alloc _).c12⟩)) ((first
        | (refine step_fn 26 #[.tmp 48, .tmp 51, .const (.int .i64 2)] _ rfl rfl #[v5, .int .u32 (x.it : Int), .int .i64 ((2 : Nat) : Int)] (by go_simp) (put_keep x.it 2 (by omega) (w.heap.size + 1) v5 L1 (w5.drew.alloc (.cells #[.int .u8 (B1.toNat : Int)] 5)) HOL.out hzL (by omega) (by omega)) (by rintro e w' ⟨v, rfl, _⟩; exact ⟨v, rfl⟩) ?_; rintro v6 w6 ⟨_, he, hO6, hK6⟩; cases he; rw [HP1.out] at hO6; have hz6 := hK6.1.size hzL; have HB6 := hide (HBL.out.trans hK6.1.1); have HR6 := hide (hK6.2 _ _ HRL.out); have HA6 := hide (HAL.out.below hK6.1.1 (by omega)); have m10 := HA6.out.c10; have m11 := HA6.out.c11; have m12 := HA6.out.c12; have HO6 := hide hO6; clear hO6 hK6)
        | (refine step_fn 26 #[.tmp 48, .tmp 51, .const (.int .i64 2)] _ rfl rfl #[v5, .int .u32 (x.it : Int), .int .i64 ((2 : Nat) : Int)] (by go_simp) (put_keep x.it 2 (by omega) (w.heap.size + 1) v5 L1 w5.drew HO5.out hz5 (by omega) (by omega)) (by rintro e w' ⟨v, rfl, _⟩; exact ⟨v, rfl⟩) ?_; rintro v6 w6 ⟨_, he, hO6, hK6⟩; cases he; rw [HP1.out] at hO6; have hz6 := hK6.1.size hz5; have HB6 := hide (HBF.out.trans hK6.1.1); have HA6 := hide (HA5.out.below hK6.1.1 (by omega)); have m10 := HA6.out.c10; have m11 := HA6.out.c11; have m12 := HA6.out.c12; have HO6 := hide hO6; clear hO6 hK6)
        | (refine step_append_B rfl (.tmp 52) (.tmp 56) rfl (w.heap.size + 1) v6 (L1 ++ D.p16 x.it) (by simp [Act.eval]) (by exact HO6.out) ⟨w5.drew.heap.size, 0, none⟩ 1 1 [B1] (by simp [Act.eval]) rfl (by exact row_sl1 HR6.out rfl) (by simp only [List.length_append, D.p16_len]; omega) (by exact hz6) ?_; intro v7 w7 hO7 hG7; have hK7 := Kp.grown HO6.out hG7 hz6; have hz7 := hK7.size hz6; have HB7 := hide (HB6.out.trans hK7.1); have HA7 := hide (HA6.out.below hK7.1 (by omega)); have m10 := HA7.out.c10; have m11 := HA7.out.c11; have m12 := HA7.out.c12; have HO7 := hide hO7; clear hG7 hO7 hK7)
        | (refine step_append_B rfl (.tmp 52) (.tmp 56) rfl (w.heap.size + 1) v6 (L1 ++ D.p16 x.it) (by simp [Act.eval]) (by exact HO6.out.alloc _) ⟨w6.heap.size, 0, none⟩ 1 1 [B1] (by simp [Act.eval]) rfl (by exact SlL.one w6 B1 5) (by simp only [List.length_append, D.p16_len]; omega) (by simp; omega) ?_; intro v7 w7 hO7 hG7; have hK7 := Kp.app (w := w6) (o := (.cells #[.int .u8 (B1.toNat : Int)] 5)) HO6.out ⟨hG7.os, hG7.tape, hG7.output, hG7.size, hG7.block⟩ hz6; have hz7 := hK7.size hz6; have HB7 := hide (HB6.out.trans hK7.1); have HA7 := hide (HA6.out.below hK7.1 (by omega)); have m10 := HA7.out.c10; have m11 := HA7.out.c11; have m12 := HA7.out.c12; have HO7 := hide hO7; clear hG7 hO7 hK7)
        | (refine step_fn 26 #[.tmp 57, .tmp 60, .const (.int .i64 2)] _ rfl rfl #[v7, .int .u32 (x.sz : Int), .int .i64 ((2 : Nat) : Int)] (by go_simp) (put_any x.sz 2 (by omega) (w.heap.size + 1) v7 _ _ (by exact HO7.out) hz7 (by simp only [List.length_append, List.length_singleton, D.p16_len]; omega)) (by rintro e w' ⟨v, rfl, _⟩; exact ⟨v, rfl⟩) ?_; rintro v8 w8 ⟨_, he, hO8, hK8⟩; cases he; rw [HP2.out] at hO8; have HB8 := hide (HB7.out.trans hK8.1); have HA8 := hide (HA7.out.below hK8.1 (by omega)); have m10 := HA8.out.c10; have m11 := HA8.out.c11; have m12 := HA8.out.c12; have HO8 := hide hO8; clear hO8 hK8)))
      all_goals
        go_wp2
        go_ret
        refine ⟨_, rfl, ?_, HW1.out.trans (HB8.out.mono (by omega))⟩
        rw [HE.out]
        exact HO8.out
end Go.Proofs.Ytfkkaegebpckmaa
