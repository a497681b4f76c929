/- (*rdata.reader): what of some bytes hasn't been read yet; done, bytes, others. -/
import Derived.Test.YtagopkmehlpjpaaDat
import Derived.Recover
namespace Go.Proofs.Ytagopkmehlpjpaa
open Go.RowKit
/- the panic of data that can't be read -/
def fell50 : Ending := .panicked [{ v := .iface 25 (.int .i64 50), recovered := false }]
/- a slice of bytes that lie below block B -/
def SlB (B : Nat) (w : World) (ao : Option Addr) (l : List UInt8) : Prop := 0 < l.length → ∃ b o, ao = some ⟨b, o, none⟩ ∧ b < B ∧ ∀ j, j < l.length → w.cell? ⟨b, o + j, none⟩ = some (.int .u8 (l.getD j 0).toNat)
set_option maxRecDepth 5000 in
theorem SlB.sl {B : Nat} {w : World} {ao : Option Addr} {l : List UInt8} (h : SlB B w ao l) (hB : B ≤ w.heap.size) : SlL w ao l := fun hn => by
  obtain ⟨b, o, e, hlt, hc⟩ := h hn
  exact ⟨b, o, e, Nat.lt_of_lt_of_le hlt hB, hc⟩
set_option maxRecDepth 5000 in
theorem SlL.slB {w : World} {ao : Option Addr} {l : List UInt8} (h : SlL w ao l) : SlB w.heap.size w ao l := h
set_option maxRecDepth 5000 in
theorem SlB.below {B : Nat} {w w' : World} {ao : Option Addr} {l : List UInt8} (h : SlB B w ao l) (hb : Below B w w') : SlB B w' ao l := fun hn => by
  obtain ⟨b, o, e, hlt, hc⟩ := h hn
  exact ⟨b, o, e, hlt, fun j hj => (hb.cell (p := ⟨b, o + j, none⟩) hlt).trans (hc j hj)⟩
set_option maxRecDepth 5000 in
theorem SlB.part {B : Nat} {w : World} {ao : Option Addr} {l : List UInt8} {cap k : Nat} (m : Nat) (h : SlB B w ao l) (hk : k + m ≤ l.length) (hc : l.length ≤ cap) : SlB B w (if cap = k then ao else ao.map (·.add (k * 1))) ((l.drop k).take m) := fun hn => by
  rw [List.length_take, List.length_drop] at hn
  obtain ⟨b, o, rfl, hlt, hc'⟩ := h (by omega)
  rw [if_neg (by omega)]
  refine ⟨b, o + k, by rw [Option.map_some, Nat.mul_one, addr_add], hlt, fun j hj => ?_⟩
  rw [List.length_take, List.length_drop] at hj
  rw [show o + k + j = o + (k + j) by omega, hc' (k + j) (by omega)]
  have hjm : j < m := by omega
  simp [List.getD_eq_getElem?_getD, List.getElem?_drop, hjm]
/- what moves: the reader's block, and new ones -/
def Mv (T : Nat) (w w' : World) : Prop := w.grownBy w' (some T)
set_option maxRecDepth 5000 in
theorem Mv.refl (T : Nat) (w : World) : Mv T w w := ⟨rfl, rfl, rfl, Nat.le_refl _, fun _ _ _ => rfl⟩
set_option maxRecDepth 5000 in
theorem Mv.trans {T : Nat} {a b c : World} (h : Mv T a b) (k : Mv T b c) : Mv T a c := ⟨k.os.trans h.os, k.tape.trans h.tape, k.output.trans h.output, Nat.le_trans h.size k.size, fun i hi hn => (k.block i (Nat.lt_of_lt_of_le hi h.size) hn).trans (h.block i hi hn)⟩
set_option maxRecDepth 5000 in
theorem Mv.of {T : Nat} {w w' : World} (h : Below w.heap.size w w') : Mv T w w' := ⟨h.os, h.tape, h.output, h.size, fun k hk _ => h.block k hk⟩
set_option maxRecDepth 5000 in
theorem Mv.set (T j : Nat) (w : World) (v : Value) : Mv T w (w.setCell ⟨T, j, none⟩ v) := ⟨rfl, rfl, rfl, by simp [World.setCell], fun k _ hn => Below.heap_setCell _ _ _ _ (fun e => hn (by rw [e]))⟩
set_option maxRecDepth 5000 in
theorem Mv.below {T B : Nat} {w w' : World} (h : Mv T w w') (hT : B ≤ T) (hB : B ≤ w.heap.size) : Below B w w' := ⟨h.os, h.tape, h.output, h.size, fun k hk => h.block k (by omega) (fun e => by cases e; omega)⟩
set_option maxRecDepth 5000 in
theorem own_mv {w w' : World} {B e n T t : Nat} {v : Value} {xs : List Value} {c : Array Value} (h : w.ownsRow B e 1 v n xs) (hT : RowAt w T t c) (hne : t ≠ e) (hg : Mv T w w') : w'.ownsRow B e 1 v n xs := by
  refine ⟨h.1, ?_⟩
  rcases h.2 with h1 | ⟨g, cap, cur, e1, hb, hg', hr⟩
  · exact Or.inl h1
  · refine Or.inr ⟨g, cap, cur, e1, hb, ?_, hr⟩
    rw [hg.block g (Array.getElem?_eq_some_iff.1 hg').1 (fun e2 => ?_)]
    · exact hg'
    · cases e2
      unfold RowAt at hT
      rw [hT] at hg'
      simp at hg'
      exact hne hg'.2
set_option maxRecDepth 5000 in
theorem row_mv {w w' : World} {g T t : Nat} {c : Array Value} (h : RowAt w g t c) (hne : g ≠ T) (hg : Mv T w w') : RowAt w' g t c := by
  unfold RowAt; rw [hg.block g h.lt (fun e => hne (by cases e; rfl))]; exact h
/- the reader at block T: what is left is l, of memory below B -/
def Rdr (B T : Nat) (l : List UInt8) (w : World) : Prop := ∃ ao c, RowAt w T 111 #[.slice ao l.length c] ∧ SlB B w ao l ∧ l.length ≤ c ∧ (ao = none → c = 0) ∧ B ≤ T ∧ l.length ≤ 8192 ∧ B ≤ w.heap.size
set_option maxRecDepth 5000 in
theorem Rdr.below {B T : Nat} {l : List UInt8} {w w' : World} (h : Rdr B T l w) (hb : Below w.heap.size w w') : Rdr B T l w' := by
  obtain ⟨ao, c, h1, h2, h3, h4, h5, h6, h7⟩ := h
  have := h1.lt
  exact ⟨ao, c, h1.below hb (by omega), h2.below (hb.mono h7), h3, h4, h5, h6, Nat.le_trans h7 hb.size⟩
set_option maxRecDepth 5000 in
theorem Rdr.lt {B T : Nat} {l : List UInt8} {w : World} (h : Rdr B T l w) : T < w.heap.size := by
  obtain ⟨ao, c, h1, _⟩ := h
  exact h1.lt
set_option maxRecDepth 5000 in
theorem Rdr.own {B T : Nat} {l : List UInt8} {w w' : World} {b n : Nat} {v : Value} {xs : List Value} (h : Rdr B T l w) (hg : Mv T w w') (ho : w.ownsRow b 5 1 v n xs) : w'.ownsRow b 5 1 v n xs := by
  obtain ⟨ao, c, h1, _⟩ := h
  exact own_mv ho h1 (by decide) hg
set_option maxRecDepth 5000 in
theorem Rdr.ownB {B T : Nat} {l : List UInt8} {w w' : World} {b : Nat} {v : Value} {x : List UInt8} (h : Rdr B T l w) (hg : Mv T w w') (ho : OwnB w b v x) : OwnB w' b v x := h.own hg ho
set_option maxRecDepth 5000 in
theorem Rdr.ownS {B T : Nat} {l : List UInt8} {w w' : World} {b : Nat} {v : Value} {x : List (List UInt8)} (h : Rdr B T l w) (hg : Mv T w w') (ho : OwnS w b v x) : OwnS w' b v x := by
  obtain ⟨ao, c, h1, _⟩ := h
  have ho' : w.ownsRow b 9 1 v x.length (vs x) := ho
  exact own_mv ho' h1 (by decide) hg
set_option maxRecDepth 5000 in
theorem OwnB.lower {w : World} {base base' : Nat} {v : Value} {n : List UInt8} (h : OwnB w base v n) (hb : base' ≤ base) : OwnB w base' v n := by
  have h0 : w.ownsRow base 5 1 v n.length (vb n) := h
  refine ⟨h0.1, ?_⟩
  rcases h0.2 with h1 | ⟨g, cap, cur, e, h1, h2, h3⟩
  · exact Or.inl h1
  · exact Or.inr ⟨g, cap, cur, e, Nat.le_trans hb h1, h2, h3⟩
set_option maxRecDepth 5000 in
theorem equalIn_nil (w : World) (d : Nat) (t e : TypeId) (a : Option Addr) (l c : Nat) (h : Try.prog.underlying t = some (.slice e)) : (Op.equalIn (d + 1) t (.slice a l c) (.slice none 0 0)).run Try.prog w = .ok a.isNone w := by
  cases a <;> simp [Op.equalIn, run_underlying h]
set_option maxRecDepth 5000 in
theorem eql_nil (w : World) (t e : TypeId) (a : Option Addr) (l c : Nat) (h : Try.prog.underlying t = some (.slice e)) : (binOp .eql t (.slice a l c) (.slice none 0 0)).run Try.prog w = .ok (.bool a.isNone) w := by
  have h2 : (Op.equal t (.slice a l c) (.slice none 0 0)).run Try.prog w = .ok a.isNone w := equalIn_nil w 9999 t e a l c h
  simp [binOp, h2]
/- what a reading answers -/
def Got {α : Type} (B T : Nat) (o : Option (α × List UInt8)) (R : α → Value → World → Prop) (w : World) (e : Ending) (w' : World) : Prop :=
  ((∃ x r v, o = some (x, r) ∧ e = .returned v ∧ R x v w' ∧ Rdr B T r w') ∨ (o = none ∧ e = fell50)) ∧ Mv T w w'
set_option maxRecDepth 5000 in
theorem clone_any (l : List UInt8) (ao : Option Addr) (len cap : Nat) (w : World) (hl : Hid (l.length = len)) (hs : SlL w ao l) (hnil : ao = none → cap = 0) (hn : len ≤ 1000000000) :
    Calls Try.prog 90 #[.slice ao len cap] w fun e w' => ∃ v, e = .returned v ∧ OwnB w' w.heap.size v l ∧ Below w.heap.size w w' := by
  have heq : ∀ W, (binOp .eql 23 (.slice ao len cap) (.slice none 0 0)).run Try.prog W = .ok (.bool ao.isNone) W := fun W => eql_nil W 23 5 ao len cap Try.underlying23
  cases ao with
  | none =>
    have h0 : l = [] := by
      rcases Nat.eq_zero_or_pos l.length with h | h
      · exact List.eq_nil_of_length_eq_zero h
      · obtain ⟨b, o, e, _⟩ := hs h; cases e
    subst h0
    clear hs
    obtain rfl := hnil rfl
    obtain rfl : len = 0 := hl.out.symm
    clear hnil
    replace heq : ∀ W, (binOp .eql 23 (.slice none 0 0) (.slice none 0 0)).run Try.prog W = .ok (.bool true) W := heq
    go_enter Try.func90, Try.ntmps90
    go_wp2
    go_ret
    exact ⟨_, rfl, OwnB.nil _ _, Below.refl _ _⟩
  | some a =>
    have HS := hide hs
    clear hs
    clear hnil
    replace heq : ∀ W, (binOp .eql 23 (.slice (some a) len cap) (.slice none 0 0)).run Try.prog W = .ok (.bool false) W := heq
    go_enter Try.func90, Try.ntmps90
    have hO : OwnB (w.alloc (.cells #[] 5)) w.heap.size (.slice (some ⟨w.heap.size, 0, none⟩) 0 0) [] := ⟨rfl, Or.inr ⟨w.heap.size, 0, #[], rfl, Nat.le_refl _, heap_alloc_last w _, Nat.le_refl _, by unfold maxLen; omega, rfl, rfl⟩⟩
    have hb := (Below.refl w.heap.size w).alloc (Nat.le_refl _) (.cells #[] 5)
    go_wp2_with (at_builtin; refine wpList_append_B rfl (.tmp 5) (.tmp 6) rfl w.heap.size _ [] rfl (by exact hO) _ _ _ l rfl hl.out (by exact HS.out.alloc _) (by intro h; cases h) (by simp; omega) (by simp) ?_; intro v4 w4 hO4 hG4; have hB4 := grown_below hO hG4 hb (by simp); clear hG4 hO hb)
    go_ret
    exact ⟨_, rfl, hO4, hB4⟩
/- b[:k], b[k:] -/
set_option maxRecDepth 5000 in
theorem slice_hd {B : Nat} {w : World} {ao : Option Addr} {l : List UInt8} {cap : Nat} (k : Nat) (hs : SlB B w ao l) (hk : k ≤ l.length) (hc : l.length ≤ cap) (hnil : ao = none → cap = 0) :
    ∃ ao', (∀ W, (Instr.slice 23 (.slice ao l.length cap) none (some (.int .i64 (k : Int))) none).run Try.prog W = .ok (.slice ao' k cap) W) ∧ SlB B w ao' (l.take k) ∧ (ao' = none → cap = 0) := by
  refine ⟨if cap = 0 then ao else ao.map (·.add (0 * 1)), fun W => ?_, ?_, ?_⟩
  · rw [run_slice_h W 23 ao l.length cap Try.underlying23 .i64 (k : Int) (by omega) (by omega)]
    have hz : (sizeOf (Try.prog.elem 23)).run Try.prog W = .ok 1 W := Try.sizeOf5 W
    rw [hz]
    simp only [Result.andThen, sliced, Int.toNat_natCast, Nat.sub_zero]
  · have := hs.part (k := 0) (cap := cap) k (by omega) hc
    rwa [List.drop_zero] at this
  · intro h
    split at h
    · assumption
    · rw [Option.map_eq_none_iff] at h; exact hnil h
set_option maxRecDepth 5000 in
theorem slice_tl {B : Nat} {w : World} {ao : Option Addr} {l : List UInt8} {cap : Nat} (k : Nat) (hs : SlB B w ao l) (hk : k ≤ l.length) (hc : l.length ≤ cap) (hnil : ao = none → cap = 0) :
    ∃ ao', (∀ W, (Instr.slice 23 (.slice ao l.length cap) (some (.int .i64 (k : Int))) none none).run Try.prog W = .ok (.slice ao' (l.length - k) (cap - k)) W) ∧ SlB B w ao' (l.drop k) ∧ (ao' = none → cap - k = 0) := by
  refine ⟨if cap = k then ao else ao.map (·.add (k * 1)), fun W => ?_, ?_, ?_⟩
  · rw [run_slice_l W 23 ao l.length cap Try.underlying23 .i64 (k : Int) (by omega) (by omega)]
    have hz : (sizeOf (Try.prog.elem 23)).run Try.prog W = .ok 1 W := Try.sizeOf5 W
    rw [hz]
    simp only [Result.andThen, sliced, Int.toNat_natCast]
  · have := hs.part (k := k) (cap := cap) (l.length - k) (by omega) hc
    rwa [List.take_of_length_le (by rw [List.length_drop]; omega)] at this
  · intro h
    split at h
    · omega
    · rw [Option.map_eq_none_iff] at h; have := hnil h; omega
set_option maxRecDepth 5000 in
theorem rbytes_any (B T k : Nat) (l : List UInt8) (w : World) (hR : Rdr B T l w) (hk : k ≤ 1000000) :
    Calls Try.prog 68 #[.pointer (some ⟨T, 0, none⟩), .int .i64 (k : Int)] w fun e w' => Got B T (D.by_ k l) (fun x v w' => OwnB w' w.heap.size v x) w e w' := by
  obtain ⟨ao, c, hT, hs, hc, hnil, hBT, hl, hB⟩ := hR
  have c0 : w.cell? ⟨T, 0, none⟩ = some (.slice ao l.length c) := by rw [hT.cell 0]; rfl
  rcases Nat.lt_or_ge l.length k with hlt | hge
  · have hR : D.by_ k l = none := by unfold D.by_; rw [if_pos hlt]
    have HR := hide hR
    clear hT hs hR
    go_enter Try.func68, Try.ntmps68
    go_wp2
    exact ⟨rfl, Or.inr ⟨HR.out, rfl⟩, Mv.refl _ _⟩
  · have hR : D.by_ k l = some (l.take k, l.drop k) := by unfold D.by_; rw [if_neg (by omega)]
    obtain ⟨a1, r1, s1, n1⟩ := slice_hd k hs hge hc hnil
    obtain ⟨a2, r2, s2, n2⟩ := slice_tl k hs hge hc hnil
    have HR := hide hR
    have HT := hide hT
    have H1 := hide s1
    have H2 := hide s2
    clear hT hs hR s1 s2
    go_enter Try.func68, Try.ntmps68
    go_wp2_with (go_at_call 90; refine (clone_any (l.take k) a1 k c _ (by show _ = _; rw [List.length_take]; omega) (by exact H1.out.sl hB) n1 (by omega)).mono ?_; rintro e w1 ⟨v, rfl, hO, hb1⟩; have hT1 := HT.out.below hb1 HT.out.lt; have c1 : w1.cell? ⟨T, 0, none⟩ = some (.slice ao l.length c) := hT1.cell 0; have f1 := hT1.frozen 0)
    go_ret
    refine ⟨Or.inl ⟨_, _, v, HR.out, rfl, ?_, ?_⟩, (Mv.of hb1).trans (Mv.set T 0 _ _)⟩
    · exact own_set hO hT1 (by decide) _ _
    · refine ⟨a2, c - k, ?_, ?_, by rw [List.length_drop]; omega, n2, hBT, by rw [List.length_drop]; omega, by simp [World.setCell]; have := hb1.size; omega⟩
      · rw [List.length_drop]; exact hT1.set 0 _
      · exact (H2.out.below (hb1.mono hB)).below ((Below.refl B w1).setCell hBT _)
end Go.Proofs.Ytagopkmehlpjpaa
