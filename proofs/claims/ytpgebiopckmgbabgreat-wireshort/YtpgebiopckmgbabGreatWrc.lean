/- (*wire.writer).record. -/
import Derived.Test.YtpgebiopckmgbabGreatBgm
namespace Go.Proofs.YtpgebiopckmgbabGreat
open Go.RowKit
namespace M
structure R where
  name : List (List UInt8)
  type : Nat
  cls : Nat
  ttl : Nat
  data : List UInt8
/- a record behind what was written -/
def wrec (x : R) (mp : List UInt8 → Option Nat) (out : List UInt8) : (List UInt8 → Option Nat) × List UInt8 :=
  ((wname x.name mp out).1, (wname x.name mp out).2 ++ D.p16 x.type ++ D.p16 x.cls ++ D.p16 (x.ttl / 65536) ++ D.p16 (x.ttl % 65536) ++ D.p16 x.data.length ++ x.data)
set_option maxRecDepth 5000 in
theorem wrec_len (x : R) (mp : List UInt8 → Option Nat) (out : List UInt8) : (wrec x mp out).2.length ≤ out.length + N.size x.name + 11 + x.data.length := by
  have h := wname_len x.name mp out
  simp only [wrec, List.length_append, p16_len]; omega
end M
set_option maxRecDepth 5000 in
theorem step_append_Bo {ops : Array Oper} {o : Oper} {a : Act} {w : World} {K : Act → World → Prop} {Q : Exit → Act → World → Prop} {E : Prop} (hgd : o.guard = none) (s x : Operand)
    (ho : o.op = .call { callee := .builtin .append, args := #[s, x], argTypes := #[33, 33] }) (base : Nat) (v : Value) (l : List UInt8) (hs : a.eval s = v) (hown : OwnB w base v l)
    (ao : Option Addr) (m c : Nat) (l2 : List UInt8) (hx : a.eval x = .slice ao m c) (hm : l2.length = m) (hsrc : SlL w ao l2) (hnil : ao = none → c = 0) (hbound : l.length + m ≤ 1099511627776) (hbase : base ≤ w.heap.size)
    (h : ∀ v' w', OwnB w' base v' (l ++ l2) → w.grownBy w' v.ownBlock → K (a.put o.dst v') w') : if Region.wanted o (yielded ops a.tmps) = true then Oper.wp Tryz.prog o a w K Q else E := by
  cases ao with
  | some ad => exact step_append_B hgd s x ho base v l hs hown ad m c l2 hx hm hsrc hbound hbase h
  | none =>
    subst hm
    have h0 : l2.length = 0 := by
      rcases Nat.eq_zero_or_pos l2.length with h | h
      · exact h
      · obtain ⟨b, o, e, _⟩ := hsrc h; cases e
    obtain rfl : l2 = [] := List.eq_nil_of_length_eq_zero h0
    obtain rfl := hnil rfl
    obtain ⟨i0, hi, _, _, _⟩ := info_parts infoB
    have hw : Region.wanted o (yielded ops a.tmps) = true := by simp [Region.wanted, hgd]
    rw [if_pos hw]
    have hrun := run_append_owned_none (P := Tryz.prog) (w := w) base 33 o.type 5 i0 1 Tryz.underlying33 hi v l.length (vb l) hown
    unfold Oper.wp
    simp [execOp, ho, resolve, invoke, builtin, hs, hx, hrun, Result.andThen]
    exact h v w (by rw [List.append_nil]; exact hown) ⟨rfl, rfl, rfl, Nat.le_refl _, fun _ _ _ => rfl⟩
/- bytes appended to the writer's -/
set_option maxRecDepth 5000 in
theorem WS.app {base W b K : Nat} {out x : List UInt8} {mp : List UInt8 → Option Nat} {w0 wr w8 : World} {v v8 : Value} (hR : RowAt wr W 60 #[v, .map (some b)]) (hO : OwnB wr base v out) (hM : MapAt wr b mp K) (hK : KpN base W b w0 wr) (hO8 : OwnB w8 base v8 (out ++ x)) (hG8 : wr.grownBy w8 v.ownBlock) (hbW : base ≤ W) (hbne : b ≠ W) (hz : base ≤ wr.heap.size) : WS base W b (out ++ x) mp K w0 (w8.setCell ⟨W, 0, none⟩ v8) := by
  have hR8 : RowAt w8 W 60 #[v, .map (some b)] := row_grown (show World.ownsRow _ _ _ _ _ _ _ from hO) hR (by decide) hG8
  have k8 : KpW base W wr w8 := KpW.grown hO hG8 hz
  have kF : KpW base W wr (w8.setCell ⟨W, 0, none⟩ v8) := k8.trans (KpW.set hbW 0 v8)
  have ms := Mv.set W 0 w8 v8
  exact ⟨v8, hR8.set 0 v8, own_mv (show World.ownsRow _ _ _ _ _ _ _ from hO8) hR8 (by decide) ms, hM.kpW kF hbne, hK.trans kF.kpN⟩
set_option maxRecDepth 3000 in
set_option maxHeartbeats 2000000 in
theorem wsrec {base W b K : Nat} {out : List UInt8} {mp : List UInt8 → Option Nat} {w0 wr : World} (h : WS base W b out mp K w0 wr) (x : M.R) (ao ad : Option Addr) (nl dl c cd : Nat) (hl : Hid (x.name.length = nl)) (hdl : Hid (x.data.length = dl)) (hs : SlS wr ao x.name) (hd : SlB base wr ad x.data) (hnil : ad = none → cd = 0) (hg : M.Good x.name)
    (ht : x.type < 65536) (hc : x.cls < 65536) (httl : x.ttl < 4294967296) (hd6 : dl < 65536) (hbW : base ≤ W) (hbb : base ≤ b) (hbne : b ≠ W) (hz : base ≤ wr.heap.size) (hout : out.length ≤ 800000) (hK : K ≤ 900000) :
    Calls Tryz.prog 19 #[.pointer (some ⟨W, 0, none⟩), .agg #[.slice ao nl c, .int .u16 (x.type : Int), .int .u16 (x.cls : Int), .int .u32 (x.ttl : Int), .slice ad dl cd]] wr fun e w' => e = .returned (.tuple #[]) ∧ ∃ K', K' ≤ K + 1000 ∧ WS base W b (M.wrec x mp out).2 (M.wrec x mp out).1 K' w0 w' := by
  have HDL := hdl
  have HSB := hide hd
  have HN := hide hnil
  have HA := hide (h.alloc (.cells #[.slice ao nl c, .int .u16 (x.type : Int), .int .u16 (x.cls : Int), .int .u32 (x.ttl : Int), .slice ad dl cd] 39) hz)
  have HRE := hide (h.alloc (.cells #[.slice ao nl c, .int .u16 (x.type : Int), .int .u16 (x.cls : Int), .int .u32 (x.ttl : Int), .slice ad dl cd] 39) hz).re
  have HRQ := hide (RowAt.new wr 39 #[.slice ao nl c, .int .u16 (x.type : Int), .int .u16 (x.cls : Int), .int .u32 (x.ttl : Int), .slice ad dl cd])
  have HSA : Hid (SlS (wr.alloc (.cells #[.slice ao nl c, .int .u16 (x.type : Int), .int .u16 (x.cls : Int), .int .u32 (x.ttl : Int), .slice ad dl cd] 39)) ao x.name) := hs.below ((Below.refl _ _).alloc (Nat.le_refl _) _) (Nat.le_refl _)
  have HSD : Hid (SlB base (wr.alloc (.cells #[.slice ao nl c, .int .u16 (x.type : Int), .int .u16 (x.cls : Int), .int .u32 (x.ttl : Int), .slice ad dl cd] 39)) ad x.data) := hd.below ((Below.refl _ _).alloc hz _)
  have hWlt := h.lt
  have hbl : b < wr.heap.size := by obtain ⟨_, _, _, hM, _⟩ := h; exact hM.lt
  have hszA : (wr.alloc (.cells #[.slice ao nl c, .int .u16 (x.type : Int), .int .u16 (x.cls : Int), .int .u32 (x.ttl : Int), .slice ad dl cd] 39)).heap.size = wr.heap.size + 1 := by simp
  have HG := hide hg
  have hns := hg.2.2
  have hwl := M.wname_len x.name mp out
  have hsh : IntKind.u16.wrap ((x.ttl : Int) / 65536) = ((x.ttl / 65536 : Nat) : Int) := by rw [IntKind.wrap_u16]; omega
  have hsl : IntKind.u16.wrap (x.ttl : Int) = ((x.ttl % 65536 : Nat) : Int) := by rw [IntKind.wrap_u16]; omega
  have hsd : IntKind.u16.wrap (dl : Int) = (dl : Int) := by rw [IntKind.wrap_u16]; omega
  clear h hs hd hnil hg
  go_enter Tryz.func19, Tryz.ntmps19
  go_wp2_with fail
  generalize wr.alloc (.cells #[.slice ao nl c, .int .u16 (x.type : Int), .int .u16 (x.cls : Int), .int .u32 (x.ttl : Int), .slice ad dl cd] 39) = A at HA HRE HRQ HSA HSD hszA ⊢
  refine (wsname HRE.out x.name ao nl c hl HSA.out HG.out hbW hbb (by omega) hK).mono ?_
  rintro e w1 ⟨rfl, K', hK', hW1⟩
  have HW1 := hide hW1
  have R1 := hide (hW1.keeps HRQ.out (by omega) (by omega) (by decide))
  clear hW1
  have e1 : w1.cell? ⟨wr.heap.size, 1, none⟩ = some (.int .u16 (x.type : Int)) := R1.out.cell 1
  go_wp2_with fail
  refine (ws16 (n := x.type) HW1.out ht hbW hbne (by omega)).mono ?_
  rintro e w2 ⟨rfl, hW2⟩
  have HW2 := hide hW2
  have R2 := hide (hW2.keeps HRQ.out (by omega) (by omega) (by decide))
  clear hW2 e1 R1 HW1
  have e2 : w2.cell? ⟨wr.heap.size, 2, none⟩ = some (.int .u16 (x.cls : Int)) := R2.out.cell 2
  go_wp2_with fail
  refine (ws16 (n := x.cls) HW2.out hc hbW hbne (by simp [M.p16_len]; omega)).mono ?_
  rintro e w3 ⟨rfl, hW3⟩
  have HW3 := hide hW3
  have R3 := hide (hW3.keeps HRQ.out (by omega) (by omega) (by decide))
  clear hW3 e2 R2 HW2
  have e3 : w3.cell? ⟨wr.heap.size, 3, none⟩ = some (.int .u32 (x.ttl : Int)) := R3.out.cell 3
  go_wp2_with fail
  refine (ws16 (n := x.ttl / 65536) HW3.out (by omega) hbW hbne (by simp [M.p16_len]; omega)).mono ?_
  rintro e w4 ⟨rfl, hW4⟩
  have HW4 := hide hW4
  have R4 := hide (hW4.keeps HRQ.out (by omega) (by omega) (by decide))
  clear hW4 e3 R3 HW3
  have e4 : w4.cell? ⟨wr.heap.size, 3, none⟩ = some (.int .u32 (x.ttl : Int)) := R4.out.cell 3
  go_wp2_with fail
  refine (ws16 (n := x.ttl % 65536) HW4.out (by omega) hbW hbne (by simp [M.p16_len]; omega)).mono ?_
  rintro e w5 ⟨rfl, hW5⟩
  have HW5 := hide hW5
  have R5 := hide (hW5.keeps HRQ.out (by omega) (by omega) (by decide))
  clear hW5 e4 R4 HW4
  have e5 : w5.cell? ⟨wr.heap.size, 4, none⟩ = some (.slice ad dl cd) := R5.out.cell 4
  go_wp2_with fail
  refine (ws16 (n := dl) HW5.out hd6 hbW hbne (by simp [M.p16_len]; omega)).mono ?_
  rintro e w6 ⟨rfl, hW6⟩
  have R6 := hide (hW6.keeps HRQ.out (by omega) (by omega) (by decide))
  obtain ⟨v6, hR6, hO6, hM6, hK6⟩ := hW6
  obtain ⟨a6, c6, rfl, _⟩ := hO6.open
  have hlen : ((M.wname x.name mp out).2 ++ D.p16 x.type ++ D.p16 x.cls ++ D.p16 (x.ttl / 65536) ++ D.p16 (x.ttl % 65536) ++ D.p16 dl).length ≤ 900000 := by simp [M.p16_len]; omega
  have HRES : Hid ((M.wrec x mp out).2 = ((M.wname x.name mp out).2 ++ D.p16 x.type ++ D.p16 x.cls ++ D.p16 (x.ttl / 65536) ++ D.p16 (x.ttl % 65536) ++ D.p16 dl) ++ x.data) := by show _ = _; unfold M.wrec; rw [HDL.out]
  generalize (M.wname x.name mp out).2 ++ D.p16 x.type ++ D.p16 x.cls ++ D.p16 (x.ttl / 65536) ++ D.p16 (x.ttl % 65536) ++ D.p16 dl = o6 at hR6 hO6 hlen HRES ⊢
  obtain ⟨n6, HN6⟩ : ∃ n6, Hid (o6.length = n6) := ⟨_, rfl⟩
  rw [HN6.out] at hR6 hO6 hlen
  have HR6 := hide hR6
  have HO6 := hide hO6
  have HM6 := hide hM6
  have HK6 := hide hK6
  have z0 : w6.cell? ⟨W, 0, none⟩ = some (.slice a6 n6 c6) := hR6.cell 0
  have z4 : w6.cell? ⟨wr.heap.size, 4, none⟩ = some (.slice ad dl cd) := R6.out.cell 4
  have HSD6 : Hid (SlL w6 ad x.data) := (HSD.out.below hK6.1).sl (Nat.le_trans (by omega) hK6.1.size)
  have hz6 : base ≤ w6.heap.size := Nat.le_trans (by omega) hK6.1.size
  clear hR6 hO6 hM6 hK6 e5 R5 R6 HW5
  go_wp2
  go_region_law (refine step_append_Bo rfl (.tmp 37) (.tmp 39) rfl base (.slice a6 n6 c6) o6 (by rfl) (by exact HO6.out) ad dl cd x.data (by rfl) HDL.out (by exact HSD6.out) HN.out (by rw [HN6.out]; omega) (by exact hz6) ?_; intro v8 w8 hO8 hG8; have R8 := hide (row_grown (w := w6.drew) (show World.ownsRow _ _ _ _ _ _ _ from HO6.out) HR6.out (by decide) hG8); obtain ⟨a8, c8, rfl, _⟩ := hO8.open; have O8 := hide hO8; have y0 : w8.cell? ⟨W, 0, none⟩ = some (.slice a6 n6 c6) := R8.out.cell 0; have g0 : w8.frozen? ⟨W, 0, none⟩ = false := R8.out.frozen 0; have G8 := hide hG8; clear hO8 hG8)
  all_goals go_wp2
  all_goals
    simp [bodyPost, results, Tryz.results19, go_sem]
    refine ⟨K', hK', ?_⟩
    rw [HRES.out]
    have G := WS.app (w0 := A) (wr := w6.drew) HR6.out HO6.out HM6.out HK6.out.drew O8.out G8.out hbW hbne hz6
    rw [List.length_append] at G
    exact HA.out.tr G
end Go.Proofs.YtpgebiopckmgbabGreat
