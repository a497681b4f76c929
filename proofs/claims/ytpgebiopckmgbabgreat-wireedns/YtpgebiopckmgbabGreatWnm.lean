/- (*wire.writer).name. -/
import Derived.Test.YtpgebiopckmgbabGreatMpv
import Derived.Test.YtpgebiopckmgbabGreatWrt
import Derived.Deep.RegionHeld3
import Derived.Deep.RegionLaw
namespace Go.Proofs.YtpgebiopckmgbabGreat
open Go.RowKit
/- what writing a name keeps: all below base, and whatever is no bytes, but the writer and its map -/
def KpN (base W b : Nat) (w w' : World) : Prop := Below base w w' ∧ ∀ (k : Nat) (o : Obj), w.heap[k]? = some o → k ≠ W → k ≠ b → (∀ c fr, o ≠ .cells c 5 fr) → w'.heap[k]? = some o
set_option maxRecDepth 5000 in
theorem KpN.refl (base W b : Nat) (w : World) : KpN base W b w w := ⟨Below.refl _ _, fun _ _ h _ _ _ => h⟩
set_option maxRecDepth 5000 in
theorem KpN.trans {base W b : Nat} {x y z : World} (h : KpN base W b x y) (g : KpN base W b y z) : KpN base W b x z := ⟨h.1.trans g.1, fun k o h1 h2 h4 h3 => g.2 k o (h.2 k o h1 h2 h4 h3) h2 h4 h3⟩
set_option maxRecDepth 5000 in
theorem KpW.kpN {base W b : Nat} {w w' : World} (h : KpW base W w w') : KpN base W b w w' := ⟨h.1, fun k o h1 h2 _ h3 => h.2 k o h1 h2 h3⟩
set_option maxRecDepth 5000 in
theorem KpN.row {base W b g t : Nat} {w w' : World} {c : Array Value} (h : KpN base W b w w') (hr : RowAt w g t c) (hg : g ≠ W) (hgb : g ≠ b) (ht : t ≠ 5) : RowAt w' g t c := by
  unfold RowAt at hr ⊢
  exact h.2 g _ hr hg hgb (fun c' fr e => by cases e; exact ht rfl)
set_option maxRecDepth 5000 in
theorem KpN.drew {base W b : Nat} {w w' : World} (h : KpN base W b w w') : KpN base W b w w'.drew := ⟨h.1.drew, h.2⟩
set_option maxRecDepth 5000 in
theorem KpN.map {base W b : Nat} {w w' : World} (hg : w.grownBy w' (some b)) (hb : base ≤ b) (hz : base ≤ w.heap.size) : KpN base W b w w' :=
  ⟨⟨hg.os, hg.tape, hg.output, hg.size, fun k hk => hg.block k (by omega) (fun e => by cases e; omega)⟩, fun k o h1 _ h4 _ => by
    rw [hg.block k (Array.getElem?_eq_some_iff.1 h1).1 (fun e => by cases e; exact h4 rfl)]; exact h1⟩
set_option maxRecDepth 5000 in
theorem KpN.of {base W b : Nat} {w w' : World} (h : Below w.heap.size w w') (hz : base ≤ w.heap.size) : KpN base W b w w' := ⟨h.mono hz, fun k o h1 _ _ _ => by rw [h.block k (Array.getElem?_eq_some_iff.1 h1).1]; exact h1⟩
/- append in a region that draws, and where the bytes lie then -/
set_option maxRecDepth 5000 in
theorem run_append_Bat {w : World} {base : Nat} {v : Value} {l : List UInt8} (ty : TypeId) (hown : OwnB w base v l) (ad : Addr) (m c : Nat) (l2 : List UInt8) (hm : l2.length = m) (hsrc : SlL w (some ad) l2) (hbound : l.length + m ≤ 1099511627776) (hbase : base ≤ w.heap.size) :
    ∃ v' w', (Builtin.append_ #[33, 33] ty #[v, .slice (some ad) m c]).run Tryz.prog w = .ok v' w' ∧ OwnB w' base v' (l ++ l2) ∧ w.grownBy w' v.ownBlock ∧ (v'.ownBlock = v.ownBlock ∨ v'.ownBlock = some w.heap.size) := by
  obtain ⟨i0, hi, hz0, hz1, hz2⟩ := info_parts infoB
  subst hm
  obtain ⟨v', w', h1, h2, h3, _, h4⟩ := run_append_own_at (P := Tryz.prog) w base 33 ty 5 i0 (.int .u8 0) 1 1 Tryz.underlying33 hi hz0 hz1 hz2 rfl (by decide) v l.length (vb l) hown ad l2.length c (vb l2) (by rw [vb_len, Nat.mul_one]) (by
    intro j u hu
    have hj : j < l2.length := by have := (List.getElem?_eq_some_iff.1 hu).1; rwa [vb_len] at this
    obtain ⟨b, o', e, _, hc⟩ := hsrc (by omega)
    cases e
    rw [Addr.add_mid, hc j hj, ← vb_get l2 j hj, hu]) (vb_one l2) (by unfold maxLen; omega) (by omega) hbase
  exact ⟨v', w', h1, by unfold OwnB; rw [List.length_append, vb_app]; exact h2, h3, h4⟩
set_option maxRecDepth 5000 in
theorem step_append_Bat {ops : Array Oper} {o : Oper} {a : Act} {w : World} {K : Act → World → Prop} {Q : Exit → Act → World → Prop} {E : Prop} (hgd : o.guard = none) (s x : Operand)
    (ho : o.op = .call { callee := .builtin .append, args := #[s, x], argTypes := #[33, 33] }) (base : Nat) (v : Value) (l : List UInt8) (hs : a.eval s = v) (hown : OwnB w base v l)
    (ad : Addr) (m c : Nat) (l2 : List UInt8) (hx : a.eval x = .slice (some ad) m c) (hm : l2.length = m) (hsrc : SlL w (some ad) l2) (hbound : l.length + m ≤ 1099511627776) (hbase : base ≤ w.heap.size)
    (h : ∀ v' w', OwnB w' base v' (l ++ l2) → w.grownBy w' v.ownBlock → (v'.ownBlock = v.ownBlock ∨ v'.ownBlock = some w.heap.size) → K (a.put o.dst v') w') : if Region.wanted o (yielded ops a.tmps) = true then Oper.wp Tryz.prog o a w K Q else E := by
  have hw : Region.wanted o (yielded ops a.tmps) = true := by simp [Region.wanted, hgd]
  rw [if_pos hw]
  obtain ⟨v', w', hr, h2, h3, h4⟩ := run_append_Bat o.type hown ad m c l2 hm hsrc hbound hbase
  unfold Oper.wp execOp
  simp only [ho, resolve, invoke, builtin, Sem.run_bind, Sem.run_pure, Result.andThen_ok, List.map_toArray, List.map_cons, List.map_nil, hs, hx, hr]
  exact h v' w' h2 h3 h4
set_option maxRecDepth 5000 in
theorem N.wire_cons (l : List UInt8) (r : List (List UInt8)) : N.wire (l :: r) = UInt8.ofNat l.length :: (l ++ N.wire r) := by simp [N.wire, N.body]
set_option maxRecDepth 5000 in
theorem or_ptr (p : Nat) (h : p < 16384) : bits .or .u16 49152 (p : Int) = ((49152 + p : Nat) : Int) := by
  have h1 : bits .or .u16 49152 (p : Int) = IntKind.u16.wrap (((BitVec.ofInt 16 49152 ||| BitVec.ofInt 16 (p : Int)).toNat : Nat) : Int) := rfl
  have h2 : (BitVec.ofInt 16 49152 ||| BitVec.ofInt 16 (p : Int)).toNat = 49152 + p := by
    have e1 : BitVec.ofInt 16 49152 = BitVec.ofNat 16 49152 := by decide
    have e2 : BitVec.ofInt 16 (p : Int) = BitVec.ofNat 16 p := by simp
    rw [e1, e2, BitVec.toNat_or, BitVec.toNat_ofNat, BitVec.toNat_ofNat, Nat.mod_eq_of_lt (by omega), Nat.mod_eq_of_lt (by omega)]
    have := Nat.two_pow_add_eq_or_of_lt (i := 14) (b := p) (by omega) 3
    simpa using this.symm
  rw [h1, h2, IntKind.wrap_u16]; omega
end Go.Proofs.YtpgebiopckmgbabGreat
