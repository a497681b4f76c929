/- config.Bytes. -/
import Derived.Test.YtfkkaegebpckmaaCfg
namespace Go.Proofs.Ytfkkaegebpckmaa
open Go.RowKit
namespace C
def tb (x : Cf) : List Nat := [x.k, x.p, x.d, x.e, x.v, x.l, x.g, x.m]
def lowB (h : Int) : UInt8 := UInt8.ofNat (h % 256).toNat
def enc (x : Cf) : List UInt8 := N.wire x.apex ++ (tb x).flatMap D.p32 ++ [UInt8.ofNat x.salt.length] ++ x.salt ++ D.p16 x.it ++ [lowB x.h] ++ D.p16 x.sz
set_option maxRecDepth 5000 in
theorem lowB_nat (h : Int) : h % 256 = ((lowB h).toNat : Int) := by unfold lowB; rw [UInt8.toNat_ofNat']; omega
set_option maxRecDepth 5000 in
theorem flat_next (l : List Nat) (j : Nat) (h : j < l.length) : (l.take (j + 1)).flatMap D.p32 = (l.take j).flatMap D.p32 ++ D.p32 (l.getD j 0) := by
  have e : l.getD j 0 = l[j] := by simp [h]
  rw [List.take_succ_eq_append_getElem h, List.flatMap_append, e, List.flatMap_cons, List.flatMap_nil, List.append_nil]
set_option maxRecDepth 5000 in
theorem flat_len (l : List Nat) : (l.flatMap D.p32).length = 4 * l.length := by
  induction l with
  | nil => rfl
  | cons a l ih => rw [List.flatMap_cons, List.length_append, ih, D.p32_len, List.length_cons]; omega
set_option maxRecDepth 5000 in
theorem tb_lt {x : Cf} (h : Ok x) (j : Nat) : (tb x).getD j 0 < 4294967296 := by
  have := h.k; have := h.p; have := h.d; have := h.e; have := h.v; have := h.l; have := h.g; have := h.m
  match j with
  | 0 => exact h.k
  | 1 => exact h.p
  | 2 => exact h.d
  | 3 => exact h.e
  | 4 => exact h.v
  | 5 => exact h.l
  | 6 => exact h.g
  | 7 => exact h.m
  | j + 8 => simp [tb]
end C
set_option maxRecDepth 5000 in
theorem idx8 (x : C.Cf) (j : Nat) (hj : j < 8) (w : World) : (Instr.index 51 (.agg #[.int .u32 (x.k : Int), .int .u32 (x.p : Int), .int .u32 (x.d : Int), .int .u32 (x.e : Int), .int .u32 (x.v : Int), .int .u32 (x.l : Int), .int .u32 (x.g : Int), .int .u32 (x.m : Int)]) (.int .i64 (j : Int))).run Try.prog w = .ok (.int .u32 ((C.tb x).getD j 0 : Int)) w := by
  have hs : (sizeOf 24).run Try.prog w = .ok 1 w := Try.sizeOf24 w
  have hu : (underlying 51).run Try.prog w = .ok (.array 8 24) w := run_underlying Try.underlying51 w
  have h2 : (j : Int) < 8 := by omega
  match j, hj with
  | 0, _ => unfold Instr.index; simp [asIntOf, part, Sem.run_bind, hs, hu, C.tb]
  | 1, _ => unfold Instr.index; simp [asIntOf, part, Sem.run_bind, hs, hu, C.tb]
  | 2, _ => unfold Instr.index; simp [asIntOf, part, Sem.run_bind, hs, hu, C.tb]
  | 3, _ => unfold Instr.index; simp [asIntOf, part, Sem.run_bind, hs, hu, C.tb]
  | 4, _ => unfold Instr.index; simp [asIntOf, part, Sem.run_bind, hs, hu, C.tb]
  | 5, _ => unfold Instr.index; simp [asIntOf, part, Sem.run_bind, hs, hu, C.tb]
  | 6, _ => unfold Instr.index; simp [asIntOf, part, Sem.run_bind, hs, hu, C.tb]
  | 7, _ => unfold Instr.index; simp [asIntOf, part, Sem.run_bind, hs, hu, C.tb]
set_option maxRecDepth 5000 in
theorem size_alloc (w : World) (o : Obj) : (w.alloc o).heap.size = w.heap.size + 1 := by simp
/- behind a call that was handed settings, in a box of their own -/
set_option maxRecDepth 5000 in
theorem boxed {w V : World} {x : C.Cf} {a0 a9 : Option Addr} {la c0 ls c9 : Nat} (h : Below (w.heap.size + 1) (w.alloc (.cells #[.slice a0 la c0, .int .u32 (x.k : Int), .int .u32 (x.p : Int), .int .u32 (x.d : Int), .int .u32 (x.e : Int), .int .u32 (x.v : Int), .int .u32 (x.l : Int), .int .u32 (x.g : Int), .int .u32 (x.m : Int), .slice a9 ls c9, .int .u16 (x.it : Int), .int .i64 x.h, .int .u16 (x.sz : Int)] 28)) V) : CfAt V w.heap.size x a0 a9 la c0 ls c9 ∧ Below w.heap.size w V ∧ w.heap.size + 1 ≤ V.heap.size :=
  ⟨(CfAt.new w x a0 a9 la c0 ls c9).below h (by omega), ((Below.refl w.heap.size w).alloc (Nat.le_refl _) _).trans (h.mono (by omega)), by have := h.size; rw [size_alloc] at this; exact this⟩
set_option maxRecDepth 5000 in
theorem CfAt.c0 {w : World} {g : Nat} {x : C.Cf} {a0 a9 : Option Addr} {la c0 ls c9 : Nat} (h : CfAt w g x a0 a9 la c0 ls c9) : w.cell? ⟨g, 0, none⟩ = some (.slice a0 la c0) := RowAt.cell (c := #[.slice a0 la c0, .int .u32 (x.k : Int), .int .u32 (x.p : Int), .int .u32 (x.d : Int), .int .u32 (x.e : Int), .int .u32 (x.v : Int), .int .u32 (x.l : Int), .int .u32 (x.g : Int), .int .u32 (x.m : Int), .slice a9 ls c9, .int .u16 (x.it : Int), .int .i64 x.h, .int .u16 (x.sz : Int)]) h 0
set_option maxRecDepth 5000 in
theorem CfAt.c9 {w : World} {g : Nat} {x : C.Cf} {a0 a9 : Option Addr} {la c0 ls c9 : Nat} (h : CfAt w g x a0 a9 la c0 ls c9) : w.cell? ⟨g, 9, none⟩ = some (.slice a9 ls c9) := RowAt.cell (c := #[.slice a0 la c0, .int .u32 (x.k : Int), .int .u32 (x.p : Int), .int .u32 (x.d : Int), .int .u32 (x.e : Int), .int .u32 (x.v : Int), .int .u32 (x.l : Int), .int .u32 (x.g : Int), .int .u32 (x.m : Int), .slice a9 ls c9, .int .u16 (x.it : Int), .int .i64 x.h, .int .u16 (x.sz : Int)]) h 9
set_option maxRecDepth 5000 in
theorem CfAt.c10 {w : World} {g : Nat} {x : C.Cf} {a0 a9 : Option Addr} {la c0 ls c9 : Nat} (h : CfAt w g x a0 a9 la c0 ls c9) : w.cell? ⟨g, 10, none⟩ = some (.int .u16 (x.it : Int)) := RowAt.cell (c := #[.slice a0 la c0, .int .u32 (x.k : Int), .int .u32 (x.p : Int), .int .u32 (x.d : Int), .int .u32 (x.e : Int), .int .u32 (x.v : Int), .int .u32 (x.l : Int), .int .u32 (x.g : Int), .int .u32 (x.m : Int), .slice a9 ls c9, .int .u16 (x.it : Int), .int .i64 x.h, .int .u16 (x.sz : Int)]) h 10
set_option maxRecDepth 5000 in
theorem CfAt.c11 {w : World} {g : Nat} {x : C.Cf} {a0 a9 : Option Addr} {la c0 ls c9 : Nat} (h : CfAt w g x a0 a9 la c0 ls c9) : w.cell? ⟨g, 11, none⟩ = some (.int .i64 x.h) := RowAt.cell (c := #[.slice a0 la c0, .int .u32 (x.k : Int), .int .u32 (x.p : Int), .int .u32 (x.d : Int), .int .u32 (x.e : Int), .int .u32 (x.v : Int), .int .u32 (x.l : Int), .int .u32 (x.g : Int), .int .u32 (x.m : Int), .slice a9 ls c9, .int .u16 (x.it : Int), .int .i64 x.h, .int .u16 (x.sz : Int)]) h 11
set_option maxRecDepth 5000 in
theorem CfAt.c12 {w : World} {g : Nat} {x : C.Cf} {a0 a9 : Option Addr} {la c0 ls c9 : Nat} (h : CfAt w g x a0 a9 la c0 ls c9) : w.cell? ⟨g, 12, none⟩ = some (.int .u16 (x.sz : Int)) := RowAt.cell (c := #[.slice a0 la c0, .int .u32 (x.k : Int), .int .u32 (x.p : Int), .int .u32 (x.d : Int), .int .u32 (x.e : Int), .int .u32 (x.v : Int), .int .u32 (x.l : Int), .int .u32 (x.g : Int), .int .u32 (x.m : Int), .slice a9 ls c9, .int .u16 (x.it : Int), .int .i64 x.h, .int .u16 (x.sz : Int)]) h 12
set_option maxHeartbeats 1500000 in
set_option maxRecDepth 5000 in
theorem cBytes_any (x : C.Cf) (a0 a9 : Option Addr) (la c0 ls c9 : Nat) (w : World) (hk : C.Ok x) (hla : Hid (x.apex.length = la)) (hls : Hid (x.salt.length = ls)) (hs : SlS w a0 x.apex) (hm : Hid (N.Small x.apex)) (hz : Hid (N.size x.apex ≤ 100000)) (hs9 : SlL w a9 x.salt) (hn9 : a9 = none → c9 = 0) (hz9 : ls ≤ 300) :
    Calls Try.prog 11 #[.agg #[.slice a0 la c0, .int .u32 (x.k : Int), .int .u32 (x.p : Int), .int .u32 (x.d : Int), .int .u32 (x.e : Int), .int .u32 (x.v : Int), .int .u32 (x.l : Int), .int .u32 (x.g : Int), .int .u32 (x.m : Int), .slice a9 ls c9, .int .u16 (x.it : Int), .int .i64 x.h, .int .u16 (x.sz : Int)]] w fun e w' => ∃ v, e = .returned v ∧ OwnB w' (w.heap.size + 1) v (C.enc x) ∧ Below w.heap.size w w' := by
  have HS := hide hs
  have HS9 := hide hs9
  have HN9 := hide hn9
  have HK := hide hk
  clear hs hs9 hn9 hk
  have HI := hide (idx8 x)
  go_enter Try.func11, Try.ntmps11
  go_wp2_with (go_at_call 21; refine (wire_any x.apex a0 la c0 _ hla (by exact HS.out.alloc _) hm).mono ?_; rintro e w1 ⟨v1, rfl, hO1, hB1⟩; rw [size_alloc] at hO1 hB1; obtain ⟨hA1, hW1, hz1⟩ := boxed (a0 := a0) (a9 := a9) (la := la) (c0 := c0) (ls := ls) (c9 := c9) hB1; obtain ⟨q0, q1, q2, q3, q4, q5, q6, q7, q8, q9, q10, q11, q12⟩ := hA1.cells; have HO1 := hide hO1; have HW1 := hide hW1; have HA1 := hide hA1; clear hO1 hW1 hB1 hA1)
  clear q0 q1 q2 q3 q4 q5 q6 q7 q8 q9 q10 q11 q12
  go_loopw [26, 3] (fun i v wr => ∃ j : Nat, i = .int .i64 (j : Int) ∧ j ≤ 8 ∧ OwnB wr (w.heap.size + 1) v (N.wire x.apex ++ ((C.tb x).take j).flatMap D.p32) ∧ Below (w.heap.size + 1) w1 wr) (fun i _ _ => 8 - (intOf i).toNat)
  case atStart => exact ⟨0, rfl, by omega, (by simpa using HO1.out), Below.refl _ _⟩
  case round =>
    obtain ⟨j, rfl, hj, hO, hB⟩ := hrel
    have HO := hide hO
    have HB := hide hB
    have hzr : w.heap.size + 1 ≤ wr.heap.size := Nat.le_trans hz1 hB.size
    clear hO hB
    by_cases hlt : j < 8
    · have hidx := HI.out j hlt
      have hn := C.flat_next (C.tb x) j hlt
      have ht := C.tb_lt HK.out j
      have hlen : Hid ((N.wire x.apex ++ ((C.tb x).take j).flatMap D.p32).length ≤ 900000) := by
        show _ ≤ _
        rw [List.length_append, C.flat_len, N.wire_len, List.length_take]
        have := hz.out
        omega
      generalize (C.tb x).getD j 0 = t at hidx hn ht
      have HN := hide hn
      clear hn
      go_wp2_with (go_at_call 24; refine (append32_any t ht (w.heap.size + 1) _ _ _ (by exact HO.out) hzr hlen.out).mono ?_; rintro e w2 ⟨v2, rfl, hO2, hK2⟩)
      go_roundw
      case rel => exact ⟨j + 1, by go_num, by omega, (by rw [HN.out, ← List.append_assoc]; exact hO2), HB.out.trans hK2.1⟩
      case measure => simp [intOf]; omega
    · obtain rfl : j = 8 := by omega
      obtain ⟨L0, hL0⟩ : ∃ L0, N.wire x.apex ++ (C.tb x).flatMap D.p32 = L0 := ⟨_, rfl⟩
      have hll : L0.length ≤ 100040 := by
        rw [← hL0, List.length_append, C.flat_len, N.wire_len]
        have := hz.out
        show _ + 4 * 8 ≤ _
        omega
      have HO0 : Hid (OwnB wr (w.heap.size + 1) u3 L0) := by rw [← hL0]; exact HO.out
      have HE : Hid (C.enc x = L0 ++ [UInt8.ofNat x.salt.length] ++ x.salt ++ D.p16 x.it ++ [C.lowB x.h] ++ D.p16 x.sz) := by rw [← hL0]; exact rfl
      have HA := hide (HA1.out.below HB.out (by omega))
      have p9 := HA.out.c9
      have h1 : Hid ((ls : Int) % 256 = ((UInt8.ofNat x.salt.length).toNat : Int)) := by show _ = _; rw [UInt8.toNat_ofNat', hls.out]; omega
      have h2 : Hid (x.h % 256 = ((C.lowB x.h).toNat : Int)) := hide (C.lowB_nat x.h)
      have hi := HK.out.it
      have hsz := HK.out.sz
      clear hL0 HO
      go_wp2_with (first
        | (at_builtin; refine wpList_append_B rfl (.tmp 33) (.tmp 38) rfl (w.heap.size + 1) _ L0 rfl (by exact HO0.out.alloc _) _ _ _ [UInt8.ofNat x.salt.length] rfl rfl (by exact SlL.oneI _ _ _ _ h1.out) (by intro h; cases h) (by simp; omega) (by simp; omega) ?_; intro v4 w4 hO4 hG4; have hK4 := Kp.app HO0.out hG4 hzr; have HB4 := hide (HB.out.trans hK4.1); have hz4 := hK4.size hzr; have HA4 := hide (HA.out.below hK4.1 (by omega)); have p94 := HA4.out.c9; have HO4 := hide hO4; clear hG4 hO4 hK4)
        | (at_builtin; refine wpList_append_B rfl (.tmp 40) (.tmp 42) rfl (w.heap.size + 1) _ _ rfl HO4.out _ _ _ x.salt rfl hls.out (HS9.out.below (HW1.out.trans (HB4.out.mono (by omega))) (Nat.le_refl _)) HN9.out (by simp; omega) hz4 ?_; intro v5 w5 hO5 hG5; have hK5 := Kp.grown HO4.out hG5 hz4; have HB5 := hide (HB4.out.trans hK5.1); have hz5 := hK5.size hz4; have HA5 := hide (HA4.out.below hK5.1 (by omega)); have p105 := HA5.out.c10; have HO5 := hide hO5; clear hG5 hO5 hK5)
        | (go_at_call 25; refine (append16_any x.it hi (w.heap.size + 1) v5 _ _ (by exact HO5.out) hz5 (by simp only [List.length_append, List.length_singleton]; have := hls.out; omega)).mono ?_; rintro e w6 ⟨v6, rfl, hO6, hK6⟩; have HB6 := hide (HB5.out.trans hK6.1); have hz6 := hK6.size hz5; have HA6 := hide (HA5.out.below hK6.1 (by omega)); have p116 := HA6.out.c11; have HO6 := hide hO6; clear hO6 hK6 hi)
        | (at_builtin; refine wpList_append_B rfl (.tmp 48) (.tmp 52) rfl (w.heap.size + 1) _ _ rfl (by exact HO6.out.alloc _) _ _ _ [C.lowB x.h] rfl rfl (by exact SlL.oneI _ _ _ _ h2.out) (by intro h; cases h) (by simp only [List.length_append, List.length_singleton, D.p16_len]; have := hls.out; omega) (by simp; omega) ?_; intro v7 w7 hO7 hG7; have hK7 := Kp.app HO6.out hG7 hz6; have HB7 := hide (HB6.out.trans hK7.1); have hz7 := hK7.size hz6; have HA7 := hide (HA6.out.below hK7.1 (by omega)); have p127 := HA7.out.c12; have HO7 := hide hO7; clear hG7 hO7 hK7)
        | (go_at_call 25; refine (append16_any x.sz hsz (w.heap.size + 1) v7 _ _ (by exact HO7.out) hz7 (by simp only [List.length_append, List.length_singleton, D.p16_len]; have := hls.out; omega)).mono ?_; rintro e w8 ⟨v8, rfl, hO8, hK8⟩; have HB8 := hide (HB7.out.trans hK8.1); have HO8 := hide hO8; clear hO8 hK8))
      go_ret
      refine ⟨_, rfl, ?_, HW1.out.trans (HB8.out.mono (by omega))⟩
      rw [HE.out]
      exact HO8.out
end Go.Proofs.Ytfkkaegebpckmaa
