/- rdata.append16, append32, appendCounted. -/
import Derived.Test.YtagopkmehlpjpaaRdr2
import Derived.Deep.RegionLaw
namespace Go.Proofs.Ytagopkmehlpjpaa
open Go.RowKit
/- a call of a Go function in a region that draws -/
set_option maxRecDepth 5000 in
theorem step_call {ops : Array Oper} {o : Oper} {a : Act} {w : World} {K : Act → World → Prop} {Q : Exit → Act → World → Prop} {E : Prop} (hgd : o.guard = none) (f : FuncId) (vals : Array Value)
    (hx : (execOp a.eval o).run Try.prog w = .ok (.enter f vals) w) {R : Ending → World → Prop} (hc : Calls Try.prog f vals w R) (hr : ∀ e w', R e w' → ∃ v, e = .returned v)
    (h : ∀ v w', R (.returned v) w' → K (a.put o.dst v) w') : if Region.wanted o (yielded ops a.tmps) = true then Oper.wp Try.prog o a w K Q else E := by
  have hw : Region.wanted o (yielded ops a.tmps) = true := by simp [Region.wanted, hgd]
  rw [if_pos hw]
  unfold Oper.wp
  rw [hx, Oper.upon_enter]
  refine hc.mono fun e w' he => ?_
  obtain ⟨v, rfl⟩ := hr e w' he
  exact h v w' he
/- what an append to the call's own bytes keeps: all below 'base', and rows of other types -/
def Kp (base : Nat) (w w' : World) : Prop := Below base w w' ∧ ∀ g t c, RowAt w g t c → t ≠ 5 → RowAt w' g t c
set_option maxRecDepth 5000 in
theorem Kp.refl (base : Nat) (w : World) : Kp base w w := ⟨Below.refl _ _, fun _ _ _ h _ => h⟩
set_option maxRecDepth 5000 in
theorem Kp.trans {base : Nat} {a b c : World} (h : Kp base a b) (k : Kp base b c) : Kp base a c := ⟨h.1.trans k.1, fun g t x hx ht => k.2 g t x (h.2 g t x hx ht) ht⟩
set_option maxRecDepth 5000 in
theorem Kp.of {base : Nat} {w w' : World} (h : Below w.heap.size w w') (hb : base ≤ w.heap.size) : Kp base w w' := ⟨h.mono hb, fun _ _ _ hx _ => hx.below h hx.lt⟩
set_option maxRecDepth 5000 in
theorem Kp.grown {base : Nat} {w w' : World} {v : Value} {l : List UInt8} (hO : OwnB w base v l) (hg : w.grownBy w' v.ownBlock) (hb : base ≤ w.heap.size) : Kp base w w' := ⟨grown_below hO hg (Below.refl _ _) hb, fun _ _ _ hx ht => row_grown hO hx ht hg⟩
set_option maxRecDepth 5000 in
theorem Kp.size {base : Nat} {w w' : World} (h : Kp base w w') (hb : base ≤ w.heap.size) : base ≤ w'.heap.size := Nat.le_trans hb h.1.size
set_option maxRecDepth 5000 in
theorem Kp.app {base : Nat} {w w' : World} {v : Value} {l : List UInt8} {o : Obj} (hO : OwnB w base v l) (hg : (w.alloc o).grownBy w' v.ownBlock) (hb : base ≤ w.heap.size) : Kp base w w' :=
  (Kp.of ((Below.refl w.heap.size w).alloc (Nat.le_refl _) o) hb).trans (Kp.grown (hO.alloc o) hg (by simp; omega))
set_option maxRecDepth 5000 in
theorem append16_any (n : Nat) (hn : n < 65536) (base : Nat) (v : Value) (l : List UInt8) (w : World) (hO : OwnB w base v l) (hb : base ≤ w.heap.size) (hl : l.length ≤ 1000000) :
    Calls Try.prog 57 #[v, .int .u16 (n : Int)] w fun e w' => ∃ v', e = .returned v' ∧ OwnB w' base v' (l ++ D.p16 n) ∧ Kp base w w' := by
  have HO := hide hO
  clear hO
  go_enter Try.func57, Try.ntmps57
  have h1 : Hid ((n : Int) / 256 = ((UInt8.ofNat (n / 256)).toNat : Int)) := by show _ = _; rw [UInt8.toNat_ofNat']; omega
  have h2 : Hid ((n : Int) % 256 = ((UInt8.ofNat n).toNat : Int)) := by show _ = _; rw [UInt8.toNat_ofNat']; omega
  go_wp2_with (at_builtin; refine wpList_append_B rfl (.tmp 5) (.tmp 11) rfl base _ l rfl (by exact HO.out.alloc _) _ _ _ (D.p16 n) rfl rfl (by refine SlL.litm w (D.p16 n) _ 5 (0, 0) ?_; show _ = #[Value.int .u8 ((UInt8.ofNat (n / 256)).toNat : Int), Value.int .u8 ((UInt8.ofNat n).toNat : Int)]; rw [← h1.out, ← h2.out]) (by intro h; cases h) (by simp; omega) (by simp; omega) ?_; intro v4 w4 hO4 hG4)
  go_ret
  exact ⟨_, rfl, hO4, Kp.app HO.out hG4 hb⟩
set_option maxRecDepth 5000 in
theorem append16_nil (n : Nat) (hn : n < 65536) (w : World) :
    Calls Try.prog 57 #[.slice none 0 0, .int .u16 (n : Int)] w fun e w' => ∃ v', e = .returned v' ∧ OwnB w' w.heap.size v' (D.p16 n) ∧ Below w.heap.size w w' :=
  (append16_any n hn w.heap.size (.slice none 0 0) [] w (OwnB.nil _ _) (Nat.le_refl _) (by simp)).mono fun _ _ ⟨v', h1, h2, h3⟩ => ⟨v', h1, h2, h3.1⟩
set_option maxRecDepth 5000 in
theorem append32_any (n : Nat) (hn : n < 4294967296) (base : Nat) (v : Value) (l : List UInt8) (w : World) (hO : OwnB w base v l) (hb : base ≤ w.heap.size) (hl : l.length ≤ 900000) :
    Calls Try.prog 54 #[v, .int .u32 (n : Int)] w fun e w' => ∃ v', e = .returned v' ∧ OwnB w' base v' (l ++ D.p32 n) ∧ Kp base w w' := by
  have HO := hide hO
  clear hO
  have h1 : (n : Int) / 65536 = ((n / 65536 : Nat) : Int) := by omega
  have h2 : IntKind.u16.wrap (n : Int) = ((n % 65536 : Nat) : Int) := by rw [IntKind.wrap_u16]; omega
  have b1 : n / 65536 < 65536 := by omega
  have b2 : n % 65536 < 65536 := by omega
  have e0 : l ++ D.p32 n = l ++ D.p16 (n / 65536) ++ D.p16 (n % 65536) := by rw [D.p32, List.append_assoc]
  rw [e0]
  clear e0
  generalize n / 65536 = x at h1 b1
  generalize n % 65536 = y at h2 b2
  go_enter Try.func54, Try.ntmps54
  go_wp2_with fail
  refine (append16_any x b1 base v l _ (by exact HO.out) (by exact hb) (by omega)).mono ?_
  rintro e w1 ⟨v1, rfl, hO1, hK1⟩
  go_wp2_with fail
  refine (append16_any y b2 base v1 (l ++ D.p16 x) _ (by exact hO1) (by exact hK1.size hb) (by simp [D.p16]; omega)).mono ?_
  rintro e w2 ⟨v2, rfl, hO2, hK2⟩
  go_wp2
  go_ret
  exact ⟨_, rfl, hO2, hK1.trans hK2⟩
set_option maxRecDepth 5000 in
theorem SlL.grown {w w' : World} {ao : Option Addr} {x : List UInt8} {row : Option Nat} (h : SlL w ao x) (hg : w.grownBy w' row) (hne : 0 < x.length → ∀ b o, ao = some ⟨b, o, none⟩ → some b ≠ row) : SlL w' ao x := fun hn => by
  obtain ⟨b, o, e, hlt, hc⟩ := h hn
  exact ⟨b, o, e, Nat.lt_of_lt_of_le hlt hg.size, fun j hj => (World.cell?_of_block (w := w) (a := ⟨b, o + j, none⟩) (hg.block b hlt (hne hn b o e))).trans (hc j hj)⟩
set_option maxRecDepth 5000 in
theorem appendCounted_any (x : List UInt8) (ao : Option Addr) (len cap : Nat) (base : Nat) (v : Value) (l : List UInt8) (w : World) (hO : OwnB w base v l) (hb : base ≤ w.heap.size) (hl : l.length ≤ 900000) (hx : Hid (x.length = len)) (hs : SlL w ao x) (hnil : ao = none → cap = 0) (hlen : len ≤ 100000) (hne : 0 < x.length → ∀ b o, ao = some ⟨b, o, none⟩ → some b ≠ v.ownBlock) :
    Calls Try.prog 62 #[v, .slice ao len cap] w fun e w' => ∃ v', e = .returned v' ∧ OwnB w' base v' (l ++ D.pc x) ∧ Kp base w w' := by
  have HO := hide hO
  have HS := hide hs
  have HN := hide hne
  have HNI := hide hnil
  clear hO hs hne hnil
  have h1 : Hid ((len : Int) % 256 = ((UInt8.ofNat x.length).toNat : Int)) := by show _ = _; rw [UInt8.toNat_ofNat', hx.out]; omega
  go_enter Try.func62, Try.ntmps62
  go_wp2_with (first
    | (at_builtin; refine wpList_append_B rfl (.tmp 5) (.tmp 9) rfl base _ l rfl (by exact HO.out.alloc _) _ _ _ [UInt8.ofNat x.length] rfl rfl (by exact SlL.oneI _ _ _ _ h1.out) (by intro h; cases h) (by simp; omega) (by simp; omega) ?_; intro v4 w4 hO4 hG4; have hS4 := (HS.out.alloc _).grown hG4 HN.out; have hK4 := Kp.app HO.out hG4 hb; clear hG4)
    | (at_builtin; refine wpList_append_B rfl (.tmp 10) (.tmp 11) rfl base _ _ rfl hO4 _ _ _ x rfl hx.out hS4 HNI.out (by simp; omega) (hK4.size hb) ?_; intro v5 w5 hO5 hG5; have hK5 := Kp.grown hO4 hG5 (hK4.size hb); clear hG5))
  go_ret
  refine ⟨_, rfl, ?_, hK4.trans hK5⟩
  rw [List.append_assoc] at hO5
  exact hO5
/- where the call's own bytes lie -/
set_option maxRecDepth 5000 in
theorem OwnB.blk {w : World} {base : Nat} {v : Value} {l : List UInt8} (h : OwnB w base v l) {g : Nat} (hg : some g = v.ownBlock) : base ≤ g ∧ g < w.heap.size := by
  have h0 : w.ownsRow base 5 1 v l.length (vb l) := h
  rcases h0.2 with ⟨rfl, _⟩ | ⟨g', cap, cur, rfl, hb, hg', _⟩
  · simp [Value.ownBlock] at hg
  · simp [Value.ownBlock] at hg; subst hg; exact ⟨hb, (Array.getElem?_eq_some_iff.1 hg').1⟩
set_option maxRecDepth 5000 in
theorem SlL.apart {w0 w : World} {ao : Option Addr} {x : List UInt8} {base : Nat} {v : Value} {l : List UInt8} (hs : SlL w0 ao x) (hO : OwnB w base v l) (hb : w0.heap.size ≤ base) : 0 < x.length → ∀ b o, ao = some ⟨b, o, none⟩ → some b ≠ v.ownBlock := by
  intro hn b o e e2
  obtain ⟨b', o', e', hlt, _⟩ := hs hn
  rw [e'] at e
  cases e
  have := (hO.blk e2).1
  omega
set_option maxRecDepth 5000 in
theorem OwnB.two (w : World) (x y : UInt8) (base : Nat) (hb : base ≤ w.heap.size) : OwnB (w.alloc (.cells #[.int .u8 x.toNat, .int .u8 y.toNat] 5)) base (.slice (some ⟨w.heap.size, 0, none⟩) 2 2) [x, y] :=
  ⟨rfl, Or.inr ⟨w.heap.size, 2, _, rfl, hb, heap_alloc_last w _, by simp, by unfold maxLen; omega, rfl, rfl⟩⟩
end Go.Proofs.Ytagopkmehlpjpaa
