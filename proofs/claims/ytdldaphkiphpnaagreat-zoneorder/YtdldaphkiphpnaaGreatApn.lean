/- append of a name that may be nil; literals of texts and bytes. -/
import Derived.Test.YtdldaphkiphpnaaGreatNmC
import Derived.Laws.AppendOwnNone
namespace Go.Proofs.YtdldaphkiphpnaaGreat
open Go.RowKit
set_option maxRecDepth 5000 in
theorem wpList_append_SN {w : World} {ops : Array Oper} {rest : List Oper} {o : Oper} {a : Act} {Q : Exit → Act → World → Prop} (hgd : o.guard = none) (s x : Operand)
    (ho : o.op = .call { callee := .builtin .append, args := #[s, x], argTypes := #[28, 28] }) (base : Nat) (v : Value) (n : List (List UInt8)) (hs : a.eval s = v) (hown : OwnS w base v n)
    (ao : Option Addr) (m c : Nat) (n2 : List (List UInt8)) (hx : a.eval x = .slice ao m c) (hm : n2.length = m) (hsrc : SlS w ao n2) (hnil : ao = none → c = 0) (hbound : n.length + m ≤ 1099511627776) (hbase : base ≤ w.heap.size)
    (h : ∀ v' w', OwnS w' base v' (n ++ n2) → w.grownBy w' v.ownBlock → wpList Tryz.prog ops Q rest (a.put o.dst v') w') : wpList Tryz.prog ops Q (o :: rest) a w := by
  cases ao with
  | none =>
    obtain ⟨i0, hi, hz0, hz1, hz2⟩ := info_parts infoS
    have h0 : n2.length = 0 := by
      rcases Nat.eq_zero_or_pos n2.length with h | h
      · exact h
      · obtain ⟨b, o, e, _⟩ := hsrc h; cases e
    obtain rfl : n2 = [] := List.eq_nil_of_length_eq_zero h0
    obtain rfl := hnil rfl
    obtain rfl : m = 0 := by rw [← hm]; rfl
    refine wpList_append_own_none hgd s x 28 ho base 9 i0 1 Tryz.underlying28 hi v n.length (vs n) hs hown hx ?_
    exact h v w (by rw [List.append_nil]; exact hown) ⟨rfl, rfl, rfl, Nat.le_refl _, fun _ _ _ => rfl⟩
  | some ad => exact wpList_append_S hgd s x ho base v n hs hown ad m c n2 hx hm hsrc hbound hbase h
set_option maxRecDepth 5000 in
theorem OwnS.lit (w : World) (l : List (List UInt8)) (A : Array Value) (base : Nat) (hb : base ≤ w.heap.size) (h : A = (vs l).toArray) (hl : l.length ≤ 1000000) (n : Nat) (hn : n = l.length) : OwnS (w.alloc (.cells A 9)) base (.slice (some ⟨w.heap.size, 0, none⟩) n n) l := by
  subst h; subst hn
  have hz : (vs l).length = l.length := vs_len l
  refine ⟨by rw [hz, Nat.mul_one], Or.inr ⟨w.heap.size, l.length, (vs l).toArray, rfl, hb, heap_alloc_last w _, Nat.le_refl _, by unfold maxLen; omega, by simp [hz], by simp; exact List.take_of_length_le (Nat.le_of_eq hz)⟩⟩
set_option maxRecDepth 5000 in
theorem OwnB.lit (w : World) (l : List UInt8) (A : Array Value) (base : Nat) (hb : base ≤ w.heap.size) (h : A = (vb l).toArray) (hl : l.length ≤ 1000000) (n : Nat) (hn : n = l.length) : OwnB (w.alloc (.cells A 5)) base (.slice (some ⟨w.heap.size, 0, none⟩) n n) l := by
  subst h; subst hn
  have hz : (vb l).length = l.length := vb_len l
  refine ⟨by rw [hz, Nat.mul_one], Or.inr ⟨w.heap.size, l.length, (vb l).toArray, rfl, hb, heap_alloc_last w _, Nat.le_refl _, by unfold maxLen; omega, by simp [hz], by simp; exact List.take_of_length_le (Nat.le_of_eq hz)⟩⟩
end Go.Proofs.YtdldaphkiphpnaaGreat
