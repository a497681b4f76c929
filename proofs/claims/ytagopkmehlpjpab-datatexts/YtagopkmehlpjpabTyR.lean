/- The reference's Clean, OpenBitmap; signethelp's Types (texts of stage 4, at this seat). -/
import Derived.Test.YtagopkmehlpjpabTyB
import Derived.Laws.IdiomStrings
import Derived.Laws.BytesArg
import Derived.Sort.WalkA
/- stage4/RefC -/
/- The reference: Clean. -/
namespace Go.Proofs.Ytagopkmehlpjpab
open Go.RowKit
namespace T
set_option maxRecDepth 5000 in
theorem ins_rising (out : List UInt16) (x : UInt16) (k : Nat) (hk : k ≤ out.length) (hr : Rising out) (h1 : ∀ j, j < k → (out.getD j 0).toNat < x.toNat) (h2 : k = out.length ∨ x.toNat < (out.getD k 0).toNat) :
    Rising (out.take k ++ ([x] ++ out.drop k)) := by
  have hsplit : out.take k ++ out.drop k = out := List.take_append_drop k out
  have hr2 : (out.take k ++ out.drop k).Pairwise (fun x y => x.toNat < y.toNat) := by rw [hsplit]; exact hr
  obtain ⟨p1, p2, p3⟩ := List.pairwise_append.1 hr2
  have q1 : ∀ y ∈ out.take k, y.toNat < x.toNat := fun y hy => by
    obtain ⟨j, hj, rfl⟩ := List.getElem_of_mem hy
    rw [List.length_take] at hj
    have := h1 j (by omega)
    rw [List.getD_eq_getElem?_getD, List.getElem?_eq_getElem (by omega)] at this
    rw [List.getElem_take]; exact this
  have q2 : ∀ y ∈ out.drop k, x.toNat < y.toNat := fun y hy => by
    rcases h2 with h2 | h2
    · rw [h2, List.drop_length] at hy; simp at hy
    · by_cases hkl : k < out.length
      · have e : out.drop k = out.getD k 0 :: out.drop (k + 1) := by
          rw [List.getD_eq_getElem?_getD, List.getElem?_eq_getElem hkl]; exact List.drop_eq_getElem_cons hkl
        rw [e] at hy p2
        rcases List.mem_cons.1 hy with rfl | hy
        · exact h2
        · have := (List.pairwise_cons.1 p2).1 y hy; omega
      · rw [List.drop_eq_nil_of_le (by omega)] at hy; simp at hy
  unfold Rising
  rw [List.pairwise_append]
  refine ⟨p1, ?_, fun a ha b hb => ?_⟩
  · rw [List.singleton_append, List.pairwise_cons]; exact ⟨q2, p2⟩
  · rcases List.mem_append.1 hb with hb | hb
    · obtain rfl : b = x := by simpa using hb
      exact q1 a ha
    · exact p3 a ha b hb
set_option maxRecDepth 5000 in
theorem ins_mem (out : List UInt16) (x y : UInt16) (k : Nat) : y ∈ out.take k ++ ([x] ++ out.drop k) ↔ y = x ∨ y ∈ out := by
  have hsplit : y ∈ out ↔ y ∈ out.take k ∨ y ∈ out.drop k := by
    rw [← List.mem_append, List.take_append_drop]
  rw [List.mem_append, List.mem_append, hsplit]
  simp only [List.mem_singleton]
  constructor
  · rintro (h | h | h)
    · exact Or.inr (Or.inl h)
    · exact Or.inl h
    · exact Or.inr (Or.inr h)
  · rintro (h | h | h)
    · exact Or.inr (Or.inl h)
    · exact Or.inl h
    · exact Or.inr (Or.inr h)
set_option maxRecDepth 5000 in
theorem mem_next (l : List UInt16) (i : Nat) (hi : i < l.length) (y : UInt16) : y ∈ l.take (i + 1) ↔ y = l.getD i 0 ∨ y ∈ l.take i := by
  rw [take_nextH l i hi, List.mem_append, List.mem_singleton]; exact Or.comm
end T
/- append to a slice that has no room: a new block -/
set_option maxRecDepth 5000 in
theorem run_append_full {w : World} (base : Nat) (ty : TypeId) (b : Addr) (l : List UInt16) (n : Nat) (hn : l.length = n) (hs : SlH w (some b) l) (ad : Addr) (m c : Nat) (l2 : List UInt16) (hm : l2.length = m) (h0 : 0 < m) (hsrc : SlH w (some ad) l2) (hbound : n + m ≤ 1099511627776) (hbase : base ≤ w.heap.size) :
    ∃ v' w', (Builtin.append_ #[65, 65] ty #[.slice (some b) n n, .slice (some ad) m c]).run Try.prog w = .ok v' w' ∧ OwnH w' base v' (l ++ l2) ∧ w.grownBy w' none := by
  obtain ⟨i0, hi, hz0, hz1, hz2⟩ := info_parts infoH
  subst hm hn
  have hnews : ∀ (q : List UInt16) (a : Addr), SlH w (some a) q → ∀ j u, (vh q)[j]? = some u → w.cell? (a.add j) = some u := fun q a hq j u hu => by
    have hj : j < q.length := by have := (List.getElem?_eq_some_iff.1 hu).1; rwa [vh_len] at this
    obtain ⟨b', o', e, _, hc⟩ := hq (by omega)
    cases e
    rw [Addr.add_mid, hc j hj, ← vh_get q j hj, hu]
  have hr := run_append_grow (P := Try.prog) w 65 ty 26 i0 (.int .u16 0) Try.underlying65 hi hz0 b l.length l.length (vh l) (by rw [vh_len, hz1, Nat.mul_one]) (hnews l b hs) ad l2.length c (vh l2) (by rw [vh_len, hz1, Nat.mul_one]) (hnews l2 ad hsrc) (by omega) (by omega) (growslice_fits (by omega) (by rw [hz2]; omega))
  refine ⟨_, _, hr, ?_, ?_⟩
  · have hge := grownCap_ge w (l.length + l2.length) l.length 26
    have hle := grownCap_le_maxLen w (l.length + l2.length) l.length 26 (by unfold maxLen; omega)
    generalize grownCap w (l.length + l2.length) l.length 26 = cp at hge hle
    unfold OwnH
    rw [List.length_append]
    refine ⟨by rw [vh_len, List.length_append, Nat.mul_one], Or.inr ⟨w.heap.size, cp, _, rfl, hbase, heap_alloc_last w.drew _, hge, hle, ?_, ?_⟩⟩
    · simp [size_zeroCells, vh, Value.cells]; omega
    · rw [Nat.mul_one, vh_app]
      simp only [Array.toList_append]
      rw [List.take_append_of_le_length (by simp [vh])]
      exact List.take_of_length_le (by simp [vh])
  · exact ⟨rfl, rfl, rfl, ((below_drew (Below.refl w.heap.size w)).alloc (Nat.le_refl _) _).size, fun k hk _ => ((below_drew (Below.refl w.heap.size w)).alloc (Nat.le_refl _) _).block k hk⟩
set_option maxRecDepth 5000 in
theorem step_append_full {ops : Array Oper} {o : Oper} {a : Act} {w : World} {K : Act → World → Prop} {Q : Exit → Act → World → Prop} {E : Prop} (hgd : o.guard = none) (s x : Operand)
    (ho : o.op = .call { callee := .builtin .append, args := #[s, x], argTypes := #[65, 65] }) (base : Nat) (b : Addr) (l : List UInt16) (n : Nat) (hs : a.eval s = .slice (some b) n n) (hn : l.length = n) (hS : SlH w (some b) l)
    (ad : Addr) (m c : Nat) (l2 : List UInt16) (hx : a.eval x = .slice (some ad) m c) (hm : l2.length = m) (h0 : 0 < m) (hsrc : SlH w (some ad) l2) (hbound : n + m ≤ 1099511627776) (hbase : base ≤ w.heap.size)
    (h : ∀ v' w', OwnH w' base v' (l ++ l2) → w.grownBy w' none → K (a.put o.dst v') w') : if Region.wanted o (yielded ops a.tmps) = true then Oper.wp Try.prog o a w K Q else E := by
  have hw : Region.wanted o (yielded ops a.tmps) = true := by simp [Region.wanted, hgd]
  rw [if_pos hw]
  obtain ⟨v', w', hr, h2, h3⟩ := run_append_full base o.type b l n hn hS ad m c l2 hm h0 hsrc hbound hbase
  unfold Oper.wp execOp
  simp only [ho, resolve, invoke, builtin, Sem.run_bind, Sem.run_pure, Result.andThen_ok, List.map_toArray, List.map_cons, List.map_nil, hs, hx, hr]
  exact h v' w' h2 h3
set_option maxRecDepth 5000 in
theorem OwnH.drewN {w : World} {B : Nat} {v : Value} {q : List UInt16} (h : OwnH w B v q) (n : Nat) : OwnH (w.drewN n) B v q := h
set_option maxRecDepth 5000 in
theorem below_drewN {B : Nat} {w w' : World} (h : Below B w w') (n : Nat) : Below B w (w'.drewN n) := ⟨h.os, h.tape, h.output, h.size, h.block⟩
set_option maxRecDepth 5000 in
theorem step_append_Hnone {ops : Array Oper} {o : Oper} {a : Act} {w : World} {K : Act → World → Prop} {Q : Exit → Act → World → Prop} {E : Prop} (hgd : o.guard = none) (s x : Operand)
    (ho : o.op = .call { callee := .builtin .append, args := #[s, x], argTypes := #[65, 65] }) (base : Nat) (v : Value) (l : List UInt16) (hs : a.eval s = v) (hown : OwnH w base v l)
    (hx : a.eval x = .slice none 0 0) (h : K (a.put o.dst v) w) : if Region.wanted o (yielded ops a.tmps) = true then Oper.wp Try.prog o a w K Q else E := by
  have hw : Region.wanted o (yielded ops a.tmps) = true := by simp [Region.wanted, hgd]
  rw [if_pos hw]
  obtain ⟨i0, hi, hz0, hz1, hz2⟩ := info_parts infoH
  have hrun := run_append_owned_none (P := Try.prog) (w := w) base 65 o.type 26 i0 1 Try.underlying65 hi v l.length (vh l) hown
  unfold Oper.wp
  simp [execOp, ho, resolve, invoke, builtin, hs, hx, hrun, Result.andThen]
  exact h
end Go.Proofs.Ytagopkmehlpjpab

/- stage4/RefO -/
/- The reference: OpenBitmap. -/
namespace Go.Proofs.Ytagopkmehlpjpab
open Go.RowKit
end Go.Proofs.Ytagopkmehlpjpab

/- stage4/Help -/
/- The statements' helps: Bytes, Types. -/
namespace Go.Proofs.Ytagopkmehlpjpab
open Go.RowKit
/- a part of a slice of bytes -/
set_option maxRecDepth 5000 in
theorem hbytes_any (a b : List UInt8) (ao bo : Option Addr) (n1 c1 n2 c2 : Nat) (w : World) (ha : SlL w ao a) (hb : SlL w bo b) (h1 : Hid (a.length = n1)) (h2 : Hid (b.length = n2)) :
    Calls Try.prog 10 #[.slice ao n1 c1, .slice bo n2 c2] w fun e w' => e = .returned (.bool (a == b)) ∧ w' = w := by
  have r1 := run_str n1 c1 ha h1.out
  have r2 := run_str n2 c2 hb h2.out
  clear ha hb
  go_enter Try.func10, Try.ntmps10
  go_wp2
  go_ret
  exact ⟨rfl, rfl⟩
end Go.Proofs.Ytagopkmehlpjpab

