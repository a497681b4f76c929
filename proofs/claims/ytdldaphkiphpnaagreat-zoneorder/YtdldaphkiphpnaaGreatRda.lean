/- The reader of package rdata; append16 .. (texts of stage 5, at this seat). -/
import Derived.Test.YtdldaphkiphpnaaGreatDat
import Derived.Recover
import Derived.Laws.BitsAllLaws
import Derived.Deep.RegionLaw
/- stage5/Rdr -/
/- (*rdata.reader): what of some bytes hasn't been read yet; done, bytes, others. -/
namespace Go.Proofs.YtdldaphkiphpnaaGreat
open Go.RowKit
/- the panic of data that can't be read -/
def fell50 : Ending := .panicked [{ v := .iface 68 (.int .i64 50), recovered := false }]
/- a slice of bytes that lie below block B -/
def SlB (B : Nat) (w : World) (ao : Option Addr) (l : List UInt8) : Prop := 0 < l.length → ∃ b o, ao = some ⟨b, o, none⟩ ∧ b < B ∧ ∀ j, j < l.length → w.cell? ⟨b, o + j, none⟩ = some (.int .u8 (l.getD j 0).toNat)
set_option maxRecDepth 5000 in
theorem SlB.sl {B : Nat} {w : World} {ao : Option Addr} {l : List UInt8} (h : SlB B w ao l) (hB : B ≤ w.heap.size) : SlL w ao l := fun hn => by
  obtain ⟨b, o, e, hlt, hc⟩ := h hn
  exact ⟨b, o, e, Nat.lt_of_lt_of_le hlt hB, hc⟩
set_option maxRecDepth 5000 in
theorem SlL.slB {w : World} {ao : Option Addr} {l : List UInt8} (h : SlL w ao l) : SlB w.heap.size w ao l := h
set_option maxRecDepth 5000 in
theorem SlB.below {B : Nat} {w w' : World} {ao : Option Addr} {l : List UInt8} (h : SlB B w ao l) (hb : Below B w w') : SlB B w' ao l := fun hn => by
  obtain ⟨b, o, e, hlt, hc⟩ := h hn
  exact ⟨b, o, e, hlt, fun j hj => (hb.cell (p := ⟨b, o + j, none⟩) hlt).trans (hc j hj)⟩
set_option maxRecDepth 5000 in
theorem SlB.part {B : Nat} {w : World} {ao : Option Addr} {l : List UInt8} {cap k : Nat} (m : Nat) (h : SlB B w ao l) (hk : k + m ≤ l.length) (hc : l.length ≤ cap) : SlB B w (if cap = k then ao else ao.map (·.add (k * 1))) ((l.drop k).take m) := fun hn => by
  rw [List.length_take, List.length_drop] at hn
  obtain ⟨b, o, rfl, hlt, hc'⟩ := h (by omega)
  rw [if_neg (by omega)]
  refine ⟨b, o + k, by rw [Option.map_some, Nat.mul_one, addr_add], hlt, fun j hj => ?_⟩
  rw [List.length_take, List.length_drop] at hj
  rw [show o + k + j = o + (k + j) by omega, hc' (k + j) (by omega)]
  have hjm : j < m := by omega
  simp [List.getD_eq_getElem?_getD, List.getElem?_drop, hjm]
/- what moves: the reader's block, and new ones -/
def Mv (T : Nat) (w w' : World) : Prop := w.grownBy w' (some T)
set_option maxRecDepth 5000 in
theorem Mv.refl (T : Nat) (w : World) : Mv T w w := ⟨rfl, rfl, rfl, Nat.le_refl _, fun _ _ _ => rfl⟩
set_option maxRecDepth 5000 in
theorem Mv.trans {T : Nat} {a b c : World} (h : Mv T a b) (k : Mv T b c) : Mv T a c := ⟨k.os.trans h.os, k.tape.trans h.tape, k.output.trans h.output, Nat.le_trans h.size k.size, fun i hi hn => (k.block i (Nat.lt_of_lt_of_le hi h.size) hn).trans (h.block i hi hn)⟩
set_option maxRecDepth 5000 in
theorem Mv.of {T : Nat} {w w' : World} (h : Below w.heap.size w w') : Mv T w w' := ⟨h.os, h.tape, h.output, h.size, fun k hk _ => h.block k hk⟩
set_option maxRecDepth 5000 in
theorem Mv.set (T j : Nat) (w : World) (v : Value) : Mv T w (w.setCell ⟨T, j, none⟩ v) := ⟨rfl, rfl, rfl, by simp [World.setCell], fun k _ hn => Below.heap_setCell _ _ _ _ (fun e => hn (by rw [e]))⟩
set_option maxRecDepth 5000 in
theorem Mv.below {T B : Nat} {w w' : World} (h : Mv T w w') (hT : B ≤ T) (hB : B ≤ w.heap.size) : Below B w w' := ⟨h.os, h.tape, h.output, h.size, fun k hk => h.block k (by omega) (fun e => by cases e; omega)⟩
set_option maxRecDepth 5000 in
theorem own_mv {w w' : World} {B e n T t : Nat} {v : Value} {xs : List Value} {c : Array Value} (h : w.ownsRow B e 1 v n xs) (hT : RowAt w T t c) (hne : t ≠ e) (hg : Mv T w w') : w'.ownsRow B e 1 v n xs := by
  refine ⟨h.1, ?_⟩
  rcases h.2 with h1 | ⟨g, cap, cur, e1, hb, hg', hr⟩
  · exact Or.inl h1
  · refine Or.inr ⟨g, cap, cur, e1, hb, ?_, hr⟩
    rw [hg.block g (Array.getElem?_eq_some_iff.1 hg').1 (fun e2 => ?_)]
    · exact hg'
    · cases e2
      unfold RowAt at hT
      rw [hT] at hg'
      simp at hg'
      exact hne hg'.2
set_option maxRecDepth 5000 in
theorem row_mv {w w' : World} {g T t : Nat} {c : Array Value} (h : RowAt w g t c) (hne : g ≠ T) (hg : Mv T w w') : RowAt w' g t c := by
  unfold RowAt; rw [hg.block g h.lt (fun e => hne (by cases e; rfl))]; exact h
/- the reader at block T: what is left is l, of memory below B -/
def Rdr (B T : Nat) (l : List UInt8) (w : World) : Prop := ∃ ao c, RowAt w T 168 #[.slice ao l.length c] ∧ SlB B w ao l ∧ l.length ≤ c ∧ (ao = none → c = 0) ∧ B ≤ T ∧ l.length ≤ 8192 ∧ B ≤ w.heap.size
set_option maxRecDepth 5000 in
theorem Rdr.below {B T : Nat} {l : List UInt8} {w w' : World} (h : Rdr B T l w) (hb : Below w.heap.size w w') : Rdr B T l w' := by
  obtain ⟨ao, c, h1, h2, h3, h4, h5, h6, h7⟩ := h
  have := h1.lt
  exact ⟨ao, c, h1.below hb (by omega), h2.below (hb.mono h7), h3, h4, h5, h6, Nat.le_trans h7 hb.size⟩
set_option maxRecDepth 5000 in
theorem Rdr.lt {B T : Nat} {l : List UInt8} {w : World} (h : Rdr B T l w) : T < w.heap.size := by
  obtain ⟨ao, c, h1, _⟩ := h
  exact h1.lt
set_option maxRecDepth 5000 in
theorem Rdr.own {B T : Nat} {l : List UInt8} {w w' : World} {b n : Nat} {v : Value} {xs : List Value} (h : Rdr B T l w) (hg : Mv T w w') (ho : w.ownsRow b 5 1 v n xs) : w'.ownsRow b 5 1 v n xs := by
  obtain ⟨ao, c, h1, _⟩ := h
  exact own_mv ho h1 (by decide) hg
set_option maxRecDepth 5000 in
theorem Rdr.ownB {B T : Nat} {l : List UInt8} {w w' : World} {b : Nat} {v : Value} {x : List UInt8} (h : Rdr B T l w) (hg : Mv T w w') (ho : OwnB w b v x) : OwnB w' b v x := h.own hg ho
set_option maxRecDepth 5000 in
theorem Rdr.ownS {B T : Nat} {l : List UInt8} {w w' : World} {b : Nat} {v : Value} {x : List (List UInt8)} (h : Rdr B T l w) (hg : Mv T w w') (ho : OwnS w b v x) : OwnS w' b v x := by
  obtain ⟨ao, c, h1, _⟩ := h
  have ho' : w.ownsRow b 9 1 v x.length (vs x) := ho
  exact own_mv ho' h1 (by decide) hg
set_option maxRecDepth 5000 in
theorem OwnB.lower {w : World} {base base' : Nat} {v : Value} {n : List UInt8} (h : OwnB w base v n) (hb : base' ≤ base) : OwnB w base' v n := by
  have h0 : w.ownsRow base 5 1 v n.length (vb n) := h
  refine ⟨h0.1, ?_⟩
  rcases h0.2 with h1 | ⟨g, cap, cur, e, h1, h2, h3⟩
  · exact Or.inl h1
  · exact Or.inr ⟨g, cap, cur, e, Nat.le_trans hb h1, h2, h3⟩
set_option maxRecDepth 5000 in
theorem equalIn_nil (w : World) (d : Nat) (t e : TypeId) (a : Option Addr) (l c : Nat) (h : Tryz.prog.underlying t = some (.slice e)) : (Op.equalIn (d + 1) t (.slice a l c) (.slice none 0 0)).run Tryz.prog w = .ok a.isNone w := by
  cases a <;> simp [Op.equalIn, run_underlying h]
set_option maxRecDepth 5000 in
theorem eql_nil (w : World) (t e : TypeId) (a : Option Addr) (l c : Nat) (h : Tryz.prog.underlying t = some (.slice e)) : (binOp .eql t (.slice a l c) (.slice none 0 0)).run Tryz.prog w = .ok (.bool a.isNone) w := by
  have h2 : (Op.equal t (.slice a l c) (.slice none 0 0)).run Tryz.prog w = .ok a.isNone w := equalIn_nil w 9999 t e a l c h
  simp [binOp, h2]
/- what a reading answers -/
def Got {α : Type} (B T : Nat) (o : Option (α × List UInt8)) (R : α → Value → World → Prop) (w : World) (e : Ending) (w' : World) : Prop :=
  ((∃ x r v, o = some (x, r) ∧ e = .returned v ∧ R x v w' ∧ Rdr B T r w') ∨ (o = none ∧ e = fell50)) ∧ Mv T w w'
set_option maxRecDepth 5000 in
theorem clone_any (l : List UInt8) (ao : Option Addr) (len cap : Nat) (w : World) (hl : Hid (l.length = len)) (hs : SlL w ao l) (hnil : ao = none → cap = 0) (hn : len ≤ 1000000000) :
    Calls Tryz.prog 80 #[.slice ao len cap] w fun e w' => ∃ v, e = .returned v ∧ OwnB w' w.heap.size v l ∧ Below w.heap.size w w' := by
  have heq : ∀ W, (binOp .eql 37 (.slice ao len cap) (.slice none 0 0)).run Tryz.prog W = .ok (.bool ao.isNone) W := fun W => eql_nil W 37 5 ao len cap Tryz.underlying37
  cases ao with
  | none =>
    have h0 : l = [] := by
      rcases Nat.eq_zero_or_pos l.length with h | h
      · exact List.eq_nil_of_length_eq_zero h
      · obtain ⟨b, o, e, _⟩ := hs h; cases e
    subst h0
    clear hs
    obtain rfl := hnil rfl
    obtain rfl : len = 0 := hl.out.symm
    clear hnil
    replace heq : ∀ W, (binOp .eql 37 (.slice none 0 0) (.slice none 0 0)).run Tryz.prog W = .ok (.bool true) W := heq
    go_enter Tryz.func80, Tryz.ntmps80
    go_wp2
    go_ret
    exact ⟨_, rfl, OwnB.nil _ _, Below.refl _ _⟩
  | some a =>
    have HS := hide hs
    clear hs
    clear hnil
    replace heq : ∀ W, (binOp .eql 37 (.slice (some a) len cap) (.slice none 0 0)).run Tryz.prog W = .ok (.bool false) W := heq
    go_enter Tryz.func80, Tryz.ntmps80
    have hO : OwnB (w.alloc (.cells #[] 5)) w.heap.size (.slice (some ⟨w.heap.size, 0, none⟩) 0 0) [] := ⟨rfl, Or.inr ⟨w.heap.size, 0, #[], rfl, Nat.le_refl _, heap_alloc_last w _, Nat.le_refl _, by unfold maxLen; omega, rfl, rfl⟩⟩
    have hb := (Below.refl w.heap.size w).alloc (Nat.le_refl _) (.cells #[] 5)
    go_wp2_with (at_builtin; refine wpList_append_B rfl (.tmp 5) (.tmp 6) rfl w.heap.size _ [] rfl (by exact hO) _ _ _ l rfl hl.out (by exact HS.out.alloc _) (by intro h; cases h) (by simp; omega) (by simp) ?_; intro v4 w4 hO4 hG4; have hB4 := grown_below hO hG4 hb (by simp); clear hG4 hO hb)
    go_ret
    exact ⟨_, rfl, hO4, hB4⟩
/- b[:k], b[k:] -/
set_option maxRecDepth 5000 in
theorem slice_hd {B : Nat} {w : World} {ao : Option Addr} {l : List UInt8} {cap : Nat} (k : Nat) (hs : SlB B w ao l) (hk : k ≤ l.length) (hc : l.length ≤ cap) (hnil : ao = none → cap = 0) :
    ∃ ao', (∀ W, (Instr.slice 37 (.slice ao l.length cap) none (some (.int .i64 (k : Int))) none).run Tryz.prog W = .ok (.slice ao' k cap) W) ∧ SlB B w ao' (l.take k) ∧ (ao' = none → cap = 0) := by
  refine ⟨if cap = 0 then ao else ao.map (·.add (0 * 1)), fun W => ?_, ?_, ?_⟩
  · rw [run_slice_h W 37 ao l.length cap Tryz.underlying37 .i64 (k : Int) (by omega) (by omega)]
    have hz : (sizeOf (Tryz.prog.elem 37)).run Tryz.prog W = .ok 1 W := Tryz.sizeOf5 W
    rw [hz]
    simp only [Result.andThen, sliced, Int.toNat_natCast, Nat.sub_zero]
  · have := hs.part (k := 0) (cap := cap) k (by omega) hc
    rwa [List.drop_zero] at this
  · intro h
    split at h
    · assumption
    · rw [Option.map_eq_none_iff] at h; exact hnil h
set_option maxRecDepth 5000 in
theorem slice_tl {B : Nat} {w : World} {ao : Option Addr} {l : List UInt8} {cap : Nat} (k : Nat) (hs : SlB B w ao l) (hk : k ≤ l.length) (hc : l.length ≤ cap) (hnil : ao = none → cap = 0) :
    ∃ ao', (∀ W, (Instr.slice 37 (.slice ao l.length cap) (some (.int .i64 (k : Int))) none none).run Tryz.prog W = .ok (.slice ao' (l.length - k) (cap - k)) W) ∧ SlB B w ao' (l.drop k) ∧ (ao' = none → cap - k = 0) := by
  refine ⟨if cap = k then ao else ao.map (·.add (k * 1)), fun W => ?_, ?_, ?_⟩
  · rw [run_slice_l W 37 ao l.length cap Tryz.underlying37 .i64 (k : Int) (by omega) (by omega)]
    have hz : (sizeOf (Tryz.prog.elem 37)).run Tryz.prog W = .ok 1 W := Tryz.sizeOf5 W
    rw [hz]
    simp only [Result.andThen, sliced, Int.toNat_natCast]
  · have := hs.part (k := k) (cap := cap) (l.length - k) (by omega) hc
    rwa [List.take_of_length_le (by rw [List.length_drop]; omega)] at this
  · intro h
    split at h
    · omega
    · rw [Option.map_eq_none_iff] at h; have := hnil h; omega
set_option maxRecDepth 5000 in
theorem rbytes_any (B T k : Nat) (l : List UInt8) (w : World) (hR : Rdr B T l w) (hk : k ≤ 1000000) :
    Calls Tryz.prog 114 #[.pointer (some ⟨T, 0, none⟩), .int .i64 (k : Int)] w fun e w' => Got B T (D.by_ k l) (fun x v w' => OwnB w' w.heap.size v x) w e w' := by
  obtain ⟨ao, c, hT, hs, hc, hnil, hBT, hl, hB⟩ := hR
  have c0 : w.cell? ⟨T, 0, none⟩ = some (.slice ao l.length c) := by rw [hT.cell 0]; rfl
  rcases Nat.lt_or_ge l.length k with hlt | hge
  · have hR : D.by_ k l = none := by unfold D.by_; rw [if_pos hlt]
    have HR := hide hR
    clear hT hs hR
    go_enter Tryz.func114, Tryz.ntmps114
    go_wp2
    exact ⟨rfl, Or.inr ⟨HR.out, rfl⟩, Mv.refl _ _⟩
  · have hR : D.by_ k l = some (l.take k, l.drop k) := by unfold D.by_; rw [if_neg (by omega)]
    obtain ⟨a1, r1, s1, n1⟩ := slice_hd k hs hge hc hnil
    obtain ⟨a2, r2, s2, n2⟩ := slice_tl k hs hge hc hnil
    have HR := hide hR
    have HT := hide hT
    have H1 := hide s1
    have H2 := hide s2
    clear hT hs hR s1 s2
    go_enter Tryz.func114, Tryz.ntmps114
    go_wp2_with (go_at_call 80; refine (clone_any (l.take k) a1 k c _ (by show _ = _; rw [List.length_take]; omega) (by exact H1.out.sl hB) n1 (by omega)).mono ?_; rintro e w1 ⟨v, rfl, hO, hb1⟩; have hT1 := HT.out.below hb1 HT.out.lt; have c1 : w1.cell? ⟨T, 0, none⟩ = some (.slice ao l.length c) := hT1.cell 0; have f1 := hT1.frozen 0)
    go_ret
    refine ⟨Or.inl ⟨_, _, v, HR.out, rfl, ?_, ?_⟩, (Mv.of hb1).trans (Mv.set T 0 _ _)⟩
    · exact own_set hO hT1 (by decide) _ _
    · refine ⟨a2, c - k, ?_, ?_, by rw [List.length_drop]; omega, n2, hBT, by rw [List.length_drop]; omega, by simp [World.setCell]; have := hb1.size; omega⟩
      · rw [List.length_drop]; exact hT1.set 0 _
      · exact (H2.out.below (hb1.mono hB)).below ((Below.refl B w1).setCell hBT _)
end Go.Proofs.YtdldaphkiphpnaaGreat

/- stage5/Rdr2 -/
/- (*rdata.reader): done, others, number8, number16, number32, counted, name. -/
namespace Go.Proofs.YtdldaphkiphpnaaGreat
open Go.RowKit
set_option maxRecDepth 5000 in
theorem rdone_any (B T : Nat) (l : List UInt8) (w : World) (hR : Rdr B T l w) :
    Calls Tryz.prog 113 #[.pointer (some ⟨T, 0, none⟩)] w fun e w' => e = .returned (.bool (decide (l = []))) ∧ w' = w := by
  obtain ⟨ao, c, hT, hs, hc, hnil, hBT, hl, hB⟩ := hR
  have c0 : w.cell? ⟨T, 0, none⟩ = some (.slice ao l.length c) := by rw [hT.cell 0]; rfl
  have he : ((l.length : Int) == 0) = decide (l = []) := by cases l <;> simp; omega
  generalize decide (l = []) = q at he
  clear hT hs
  go_enter Tryz.func113, Tryz.ntmps113
  go_wp2
  go_ret
  exact ⟨rfl, rfl⟩
set_option maxRecDepth 5000 in
theorem rothers_any (B T : Nat) (l : List UInt8) (w : World) (hR : Rdr B T l w) :
    Calls Tryz.prog 119 #[.pointer (some ⟨T, 0, none⟩)] w fun e w' => ∃ v, e = .returned v ∧ OwnB w' w.heap.size v l ∧ Rdr B T [] w' ∧ Mv T w w' := by
  have HR := hide hR
  obtain ⟨ao, c, hT, hs, hc, hnil, hBT, hl, hB⟩ := hR
  have c0 : w.cell? ⟨T, 0, none⟩ = some (.slice ao l.length c) := by rw [hT.cell 0]; rfl
  have hby : D.by_ l.length l = some (l, []) := by unfold D.by_; rw [if_neg (by omega), List.take_length, List.drop_length]
  have HY := hide hby
  clear hT hs hby
  go_enter Tryz.func119, Tryz.ntmps119
  go_wp2_with fail
  refine (rbytes_any B T l.length l _ (by exact HR.out) (by omega)).mono ?_
  rw [HY.out]
  rintro e w1 ⟨⟨x, r, v, ho, rfl, hx, hr⟩ | ⟨ho, rfl⟩, hm⟩
  · cases ho
    go_wp2
    go_ret
    exact ⟨v, rfl, hx, hr, hm⟩
  · cases ho
set_option maxRecDepth 5000 in
theorem rn8_any (B T : Nat) (l : List UInt8) (w : World) (hR : Rdr B T l w) :
    Calls Tryz.prog 154 #[.pointer (some ⟨T, 0, none⟩)] w fun e w' => Got B T (D.n8 l) (fun x v _ => v = .int .u8 (x : Int)) w e w' := by
  go_enter Tryz.func154, Tryz.ntmps154
  go_wp2_with fail
  refine (rbytes_any B T 1 l _ hR (by omega)).mono ?_
  rintro e w1 ⟨⟨x, r, v, ho, rfl, hx, hr⟩ | ⟨ho, rfl⟩, hm⟩
  · obtain ⟨e1, e2⟩ := D.by_back ho
    match x, e2, hx with
    | [y], _, hx =>
      obtain ⟨g, cap, rfl, _, _, _, _, hc⟩ := hx.form (by simp)
      have c0 : w1.cell? ⟨g, 0, none⟩ = some (.int .u8 (y.toNat : Int)) := hc 0 (by simp)
      clear hc
      go_wp2
      go_ret
      exact ⟨Or.inl ⟨y.toNat, r, _, by rw [e1]; rfl, rfl, rfl, hr⟩, hm⟩
  · unfold fell50
    go_wp2
    refine ⟨rfl, Or.inr ⟨?_, rfl⟩, hm⟩
    cases l with
    | nil => rfl
    | cons a l => unfold D.by_ at ho; rw [if_neg (by simp)] at ho; cases ho
set_option maxRecDepth 5000 in
theorem or_16 (x y : Nat) (hx : x < 256) (hy : y < 256) : bits .or .u16 ((x : Int) * 256) (y : Int) = ((x * 256 + y : Nat) : Int) := by
  have := u16_or_nat (x * 256) y (by omega) (by omega)
  rw [nat_join 8 (x * 256) y (by omega) (by omega), Int.natCast_mul] at this
  exact this
set_option maxRecDepth 5000 in
theorem or_32 (x y : Nat) (hx : x < 65536) (hy : y < 65536) : bits .or .u32 ((x : Int) * 65536) (y : Int) = ((x * 65536 + y : Nat) : Int) := by
  have := u32_or_nat (x * 65536) y (by omega) (by omega)
  rw [nat_join 16 (x * 65536) y (by omega) (by omega), Int.natCast_mul] at this
  exact this
set_option maxRecDepth 5000 in
theorem rn16_any (B T : Nat) (l : List UInt8) (w : World) (hR : Rdr B T l w) :
    Calls Tryz.prog 153 #[.pointer (some ⟨T, 0, none⟩)] w fun e w' => Got B T (D.n16 l) (fun x v _ => v = .int .u16 (x : Int)) w e w' := by
  go_enter Tryz.func153, Tryz.ntmps153
  go_wp2_with fail
  refine (rbytes_any B T 2 l _ hR (by omega)).mono ?_
  rintro e w1 ⟨⟨x, r, v, ho, rfl, hx, hr⟩ | ⟨ho, rfl⟩, hm⟩
  · obtain ⟨e1, e2⟩ := D.by_back ho
    match x, e2, hx with
    | [y, z], _, hx =>
      obtain ⟨g, cap, rfl, _, _, _, _, hc⟩ := hx.form (by simp)
      have c0 : w1.cell? ⟨g, 0, none⟩ = some (.int .u8 (y.toNat : Int)) := hc 0 (by simp)
      have c1 : w1.cell? ⟨g, 1, none⟩ = some (.int .u8 (z.toNat : Int)) := hc 1 (by simp)
      have hy := y.toNat_lt
      have hz := z.toNat_lt
      have ho2 := or_16 y.toNat z.toNat hy hz
      clear hc
      go_wp2
      go_quiet (fail)
      go_wp2
      go_ret
      refine ⟨Or.inl ⟨y.toNat * 256 + z.toNat, r, _, by rw [e1]; rfl, rfl, ?_, hr.below (drew_below _ ⟨_, rfl⟩)⟩, hm.trans (Mv.of (drew_below _ ⟨_, rfl⟩))⟩
      show Value.int .u16 ((y.toNat : Int) * 256 + (z.toNat : Int)) = .int .u16 ((y.toNat * 256 + z.toNat : Nat) : Int)
      rw [Int.natCast_add, Int.natCast_mul]; rfl
  · unfold fell50
    go_wp2
    refine ⟨rfl, Or.inr ⟨?_, rfl⟩, hm⟩
    match l with
    | [] => rfl
    | [a] => rfl
    | a :: b :: l => unfold D.by_ at ho; rw [if_neg (by simp)] at ho; cases ho
set_option maxRecDepth 5000 in
theorem rn32_any (B T : Nat) (l : List UInt8) (w : World) (hR : Rdr B T l w) :
    Calls Tryz.prog 151 #[.pointer (some ⟨T, 0, none⟩)] w fun e w' => Got B T (D.n32 l) (fun x v _ => v = .int .u32 (x : Int)) w e w' := by
  go_enter Tryz.func151, Tryz.ntmps151
  go_wp2_with fail
  refine (rn16_any B T l _ hR).mono ?_
  rintro e w1 ⟨⟨x, r, v, ho, rfl, rfl, hr⟩ | ⟨ho, rfl⟩, hm⟩
  · obtain ⟨_, hx⟩ := D.n16_back ho
    go_wp2_with fail
    refine (rn16_any B T r _ hr).mono ?_
    rintro e w2 ⟨⟨y, q, v, ho2, rfl, rfl, hq⟩ | ⟨ho2, rfl⟩, hm2⟩
    · obtain ⟨_, hy⟩ := D.n16_back ho2
      have hor := or_32 x y hx hy
      go_wp2
      go_ret
      refine ⟨Or.inl ⟨x * 65536 + y, q, _, by unfold D.n32; rw [ho]; simp [ho2], rfl, ?_, hq⟩, hm.trans hm2⟩
      show Value.int .u32 ((x : Int) * 65536 + (y : Int)) = .int .u32 ((x * 65536 + y : Nat) : Int)
      rw [Int.natCast_add, Int.natCast_mul]; rfl
    · unfold fell50
      go_wp2
      exact ⟨rfl, Or.inr ⟨by unfold D.n32; rw [ho]; simp [ho2], rfl⟩, hm.trans hm2⟩
  · unfold fell50
    go_wp2
    exact ⟨rfl, Or.inr ⟨by unfold D.n32; rw [ho]; rfl, rfl⟩, hm⟩
set_option maxRecDepth 5000 in
theorem rcounted_any (B T : Nat) (l : List UInt8) (w : World) (hR : Rdr B T l w) :
    Calls Tryz.prog 127 #[.pointer (some ⟨T, 0, none⟩)] w fun e w' => Got B T (D.cnt l) (fun x v w' => OwnB w' w.heap.size v x) w e w' := by
  go_enter Tryz.func127, Tryz.ntmps127
  go_wp2_with fail
  refine (rn8_any B T l _ hR).mono ?_
  rintro e w1 ⟨⟨x, r, v, ho, rfl, rfl, hr⟩ | ⟨ho, rfl⟩, hm⟩
  · obtain ⟨_, hx⟩ := D.n8_back ho
    go_wp2_with fail
    refine (rbytes_any B T x r _ hr (by omega)).mono ?_
    rintro e w2 ⟨⟨y, q, v, ho2, rfl, hO, hq⟩ | ⟨ho2, rfl⟩, hm2⟩
    · go_wp2
      go_ret
      exact ⟨Or.inl ⟨y, q, _, by unfold D.cnt; rw [ho]; exact ho2, rfl, hO.lower hm.size, hq⟩, hm.trans hm2⟩
    · unfold fell50
      go_wp2
      exact ⟨rfl, Or.inr ⟨by unfold D.cnt; rw [ho]; exact ho2, rfl⟩, hm.trans hm2⟩
  · unfold fell50
    go_wp2
    exact ⟨rfl, Or.inr ⟨by unfold D.cnt; rw [ho]; rfl, rfl⟩, hm⟩
set_option maxRecDepth 5000 in
theorem rname_any (B T : Nat) (l : List UInt8) (w : World) (hR : Rdr B T l w) :
    Calls Tryz.prog 149 #[.pointer (some ⟨T, 0, none⟩)] w fun e w' => Got B T (D.nm l) (fun x v w' => OwnS w' w.heap.size v x) w e w' := by
  obtain ⟨ao, c, hT, hs, hc, hnil, hBT, hl, hB⟩ := hR
  have c0 : w.cell? ⟨T, 0, none⟩ = some (.slice ao l.length c) := by rw [hT.cell 0]; rfl
  have HT := hide hT
  have HS := hide hs
  clear hT hs
  go_enter Tryz.func149, Tryz.ntmps149
  go_wp2_with fail
  refine (open_any l ao l.length c _ rfl (by exact HS.out.sl hB) (by omega) hc).mono ?_
  rintro e w1 ⟨⟨n, v, hn, hz, rfl, hO⟩ | ⟨hn, rfl⟩ | ⟨n, hn, hz, rfl⟩, hb1⟩
  · obtain ⟨_, _, hsz⟩ := N.opn_small l n hn
    have hR : D.nm l = some (n, l.drop (N.size n)) := by unfold D.nm; rw [hn, Option.bind_some, if_pos hz]
    obtain ⟨a2, r2, s2, n2⟩ := slice_tl (N.size n) HS.out hsz hc hnil
    have hT1 := HT.out.below hb1 HT.out.lt
    have c1 : w1.cell? ⟨T, 0, none⟩ = some (.slice ao l.length c) := hT1.cell 0
    have f1 := hT1.frozen 0
    have HR := hide hR
    have H2 := hide s2
    have HO := hide hO
    have HT1 := hide hT1
    have HB1 := hide hb1
    clear hR s2 hO hT1 hn hb1
    go_wp2
    go_ret
    refine ⟨Or.inl ⟨_, _, v, HR.out, rfl, ?_, ?_⟩, (Mv.of HB1.out).trans (Mv.set T 0 _ _)⟩
    · exact own_set HO.out HT1.out (by decide) _ _
    · refine ⟨a2, c - N.size n, ?_, ?_, by rw [List.length_drop]; omega, n2, hBT, by rw [List.length_drop]; omega, by simp [World.setCell]; have := HB1.out.size; omega⟩
      · rw [List.length_drop]; exact HT1.out.set 0 _
      · exact (H2.out.below (HB1.out.mono hB)).below ((Below.refl B w1).setCell hBT _)
  · have hR : D.nm l = none := by unfold D.nm; rw [hn]; rfl
    have HR := hide hR
    clear hR hn
    go_wp2
    exact ⟨rfl, Or.inr ⟨HR.out, rfl⟩, Mv.of hb1⟩
  · have hR : D.nm l = none := by unfold D.nm; rw [hn, Option.bind_some, if_neg (by omega)]
    have HR := hide hR
    clear hR hn
    go_wp2
    exact ⟨rfl, Or.inr ⟨HR.out, rfl⟩, Mv.of hb1⟩
end Go.Proofs.YtdldaphkiphpnaaGreat

/- stage5/App -/
/- rdata.append16, append32, appendCounted. -/
namespace Go.Proofs.YtdldaphkiphpnaaGreat
open Go.RowKit
/- a call of a Go function in a region that draws -/
set_option maxRecDepth 5000 in
theorem step_call {ops : Array Oper} {o : Oper} {a : Act} {w : World} {K : Act → World → Prop} {Q : Exit → Act → World → Prop} {E : Prop} (hgd : o.guard = none) (f : FuncId) (vals : Array Value)
    (hx : (execOp a.eval o).run Tryz.prog w = .ok (.enter f vals) w) {R : Ending → World → Prop} (hc : Calls Tryz.prog f vals w R) (hr : ∀ e w', R e w' → ∃ v, e = .returned v)
    (h : ∀ v w', R (.returned v) w' → K (a.put o.dst v) w') : if Region.wanted o (yielded ops a.tmps) = true then Oper.wp Tryz.prog o a w K Q else E := by
  have hw : Region.wanted o (yielded ops a.tmps) = true := by simp [Region.wanted, hgd]
  rw [if_pos hw]
  unfold Oper.wp
  rw [hx, Oper.upon_enter]
  refine hc.mono fun e w' he => ?_
  obtain ⟨v, rfl⟩ := hr e w' he
  exact h v w' he
/- what an append to the call's own bytes keeps: all below 'base', and rows of other types -/
def Kp (base : Nat) (w w' : World) : Prop := Below base w w' ∧ ∀ g t c, RowAt w g t c → t ≠ 5 → RowAt w' g t c
set_option maxRecDepth 5000 in
theorem Kp.refl (base : Nat) (w : World) : Kp base w w := ⟨Below.refl _ _, fun _ _ _ h _ => h⟩
set_option maxRecDepth 5000 in
theorem Kp.trans {base : Nat} {a b c : World} (h : Kp base a b) (k : Kp base b c) : Kp base a c := ⟨h.1.trans k.1, fun g t x hx ht => k.2 g t x (h.2 g t x hx ht) ht⟩
set_option maxRecDepth 5000 in
theorem Kp.of {base : Nat} {w w' : World} (h : Below w.heap.size w w') (hb : base ≤ w.heap.size) : Kp base w w' := ⟨h.mono hb, fun _ _ _ hx _ => hx.below h hx.lt⟩
set_option maxRecDepth 5000 in
theorem Kp.grown {base : Nat} {w w' : World} {v : Value} {l : List UInt8} (hO : OwnB w base v l) (hg : w.grownBy w' v.ownBlock) (hb : base ≤ w.heap.size) : Kp base w w' := ⟨grown_below hO hg (Below.refl _ _) hb, fun _ _ _ hx ht => row_grown hO hx ht hg⟩
set_option maxRecDepth 5000 in
theorem Kp.size {base : Nat} {w w' : World} (h : Kp base w w') (hb : base ≤ w.heap.size) : base ≤ w'.heap.size := Nat.le_trans hb h.1.size
set_option maxRecDepth 5000 in
theorem Kp.app {base : Nat} {w w' : World} {v : Value} {l : List UInt8} {o : Obj} (hO : OwnB w base v l) (hg : (w.alloc o).grownBy w' v.ownBlock) (hb : base ≤ w.heap.size) : Kp base w w' :=
  (Kp.of ((Below.refl w.heap.size w).alloc (Nat.le_refl _) o) hb).trans (Kp.grown (hO.alloc o) hg (by simp; omega))
set_option maxRecDepth 5000 in
theorem append16_any (n : Nat) (hn : n < 65536) (base : Nat) (v : Value) (l : List UInt8) (w : World) (hO : OwnB w base v l) (hb : base ≤ w.heap.size) (hl : l.length ≤ 1000000) :
    Calls Tryz.prog 155 #[v, .int .u16 (n : Int)] w fun e w' => ∃ v', e = .returned v' ∧ OwnB w' base v' (l ++ D.p16 n) ∧ Kp base w w' := by
  have HO := hide hO
  clear hO
  go_enter Tryz.func155, Tryz.ntmps155
  have h1 : Hid ((n : Int) / 256 = ((UInt8.ofNat (n / 256)).toNat : Int)) := by show _ = _; rw [UInt8.toNat_ofNat']; omega
  have h2 : Hid ((n : Int) % 256 = ((UInt8.ofNat n).toNat : Int)) := by show _ = _; rw [UInt8.toNat_ofNat']; omega
  go_wp2_with (at_builtin; refine wpList_append_B rfl (.tmp 5) (.tmp 11) rfl base _ l rfl (by exact HO.out.alloc _) _ _ _ (D.p16 n) rfl rfl (by refine SlL.litm w (D.p16 n) _ 5 (0, 0) ?_; show _ = #[Value.int .u8 ((UInt8.ofNat (n / 256)).toNat : Int), Value.int .u8 ((UInt8.ofNat n).toNat : Int)]; rw [← h1.out, ← h2.out]) (by intro h; cases h) (by simp; omega) (by simp; omega) ?_; intro v4 w4 hO4 hG4)
  go_ret
  exact ⟨_, rfl, hO4, Kp.app HO.out hG4 hb⟩
set_option maxRecDepth 5000 in
theorem append16_nil (n : Nat) (hn : n < 65536) (w : World) :
    Calls Tryz.prog 155 #[.slice none 0 0, .int .u16 (n : Int)] w fun e w' => ∃ v', e = .returned v' ∧ OwnB w' w.heap.size v' (D.p16 n) ∧ Below w.heap.size w w' :=
  (append16_any n hn w.heap.size (.slice none 0 0) [] w (OwnB.nil _ _) (Nat.le_refl _) (by simp)).mono fun _ _ ⟨v', h1, h2, h3⟩ => ⟨v', h1, h2, h3.1⟩
set_option maxRecDepth 5000 in
theorem append32_any (n : Nat) (hn : n < 4294967296) (base : Nat) (v : Value) (l : List UInt8) (w : World) (hO : OwnB w base v l) (hb : base ≤ w.heap.size) (hl : l.length ≤ 900000) :
    Calls Tryz.prog 176 #[v, .int .u32 (n : Int)] w fun e w' => ∃ v', e = .returned v' ∧ OwnB w' base v' (l ++ D.p32 n) ∧ Kp base w w' := by
  have HO := hide hO
  clear hO
  have h1 : (n : Int) / 65536 = ((n / 65536 : Nat) : Int) := by omega
  have h2 : IntKind.u16.wrap (n : Int) = ((n % 65536 : Nat) : Int) := by rw [IntKind.wrap_u16]; omega
  have b1 : n / 65536 < 65536 := by omega
  have b2 : n % 65536 < 65536 := by omega
  have e0 : l ++ D.p32 n = l ++ D.p16 (n / 65536) ++ D.p16 (n % 65536) := by rw [D.p32, List.append_assoc]
  rw [e0]
  clear e0
  generalize n / 65536 = x at h1 b1
  generalize n % 65536 = y at h2 b2
  go_enter Tryz.func176, Tryz.ntmps176
  go_wp2_with fail
  refine (append16_any x b1 base v l _ (by exact HO.out) (by exact hb) (by omega)).mono ?_
  rintro e w1 ⟨v1, rfl, hO1, hK1⟩
  go_wp2_with fail
  refine (append16_any y b2 base v1 (l ++ D.p16 x) _ (by exact hO1) (by exact hK1.size hb) (by simp [D.p16]; omega)).mono ?_
  rintro e w2 ⟨v2, rfl, hO2, hK2⟩
  go_wp2
  go_ret
  exact ⟨_, rfl, hO2, hK1.trans hK2⟩
set_option maxRecDepth 5000 in
theorem SlL.grown {w w' : World} {ao : Option Addr} {x : List UInt8} {row : Option Nat} (h : SlL w ao x) (hg : w.grownBy w' row) (hne : 0 < x.length → ∀ b o, ao = some ⟨b, o, none⟩ → some b ≠ row) : SlL w' ao x := fun hn => by
  obtain ⟨b, o, e, hlt, hc⟩ := h hn
  exact ⟨b, o, e, Nat.lt_of_lt_of_le hlt hg.size, fun j hj => (World.cell?_of_block (w := w) (a := ⟨b, o + j, none⟩) (hg.block b hlt (hne hn b o e))).trans (hc j hj)⟩
set_option maxRecDepth 5000 in
theorem appendCounted_any (x : List UInt8) (ao : Option Addr) (len cap : Nat) (base : Nat) (v : Value) (l : List UInt8) (w : World) (hO : OwnB w base v l) (hb : base ≤ w.heap.size) (hl : l.length ≤ 900000) (hx : Hid (x.length = len)) (hs : SlL w ao x) (hnil : ao = none → cap = 0) (hlen : len ≤ 100000) (hne : 0 < x.length → ∀ b o, ao = some ⟨b, o, none⟩ → some b ≠ v.ownBlock) :
    Calls Tryz.prog 126 #[v, .slice ao len cap] w fun e w' => ∃ v', e = .returned v' ∧ OwnB w' base v' (l ++ D.pc x) ∧ Kp base w w' := by
  have HO := hide hO
  have HS := hide hs
  have HN := hide hne
  have HNI := hide hnil
  clear hO hs hne hnil
  have h1 : Hid ((len : Int) % 256 = ((UInt8.ofNat x.length).toNat : Int)) := by show _ = _; rw [UInt8.toNat_ofNat', hx.out]; omega
  go_enter Tryz.func126, Tryz.ntmps126
  go_wp2_with (first
    | (at_builtin; refine wpList_append_B rfl (.tmp 5) (.tmp 9) rfl base _ l rfl (by exact HO.out.alloc _) _ _ _ [UInt8.ofNat x.length] rfl rfl (by exact SlL.oneI _ _ _ _ h1.out) (by intro h; cases h) (by simp; omega) (by simp; omega) ?_; intro v4 w4 hO4 hG4; have hS4 := (HS.out.alloc _).grown hG4 HN.out; have hK4 := Kp.app HO.out hG4 hb; clear hG4)
    | (at_builtin; refine wpList_append_B rfl (.tmp 10) (.tmp 11) rfl base _ _ rfl hO4 _ _ _ x rfl hx.out hS4 HNI.out (by simp; omega) (hK4.size hb) ?_; intro v5 w5 hO5 hG5; have hK5 := Kp.grown hO4 hG5 (hK4.size hb); clear hG5))
  go_ret
  refine ⟨_, rfl, ?_, hK4.trans hK5⟩
  rw [List.append_assoc] at hO5
  exact hO5
/- where the call's own bytes lie -/
set_option maxRecDepth 5000 in
theorem OwnB.blk {w : World} {base : Nat} {v : Value} {l : List UInt8} (h : OwnB w base v l) {g : Nat} (hg : some g = v.ownBlock) : base ≤ g ∧ g < w.heap.size := by
  have h0 : w.ownsRow base 5 1 v l.length (vb l) := h
  rcases h0.2 with ⟨rfl, _⟩ | ⟨g', cap, cur, rfl, hb, hg', _⟩
  · simp [Value.ownBlock] at hg
  · simp [Value.ownBlock] at hg; subst hg; exact ⟨hb, (Array.getElem?_eq_some_iff.1 hg').1⟩
set_option maxRecDepth 5000 in
theorem SlL.apart {w0 w : World} {ao : Option Addr} {x : List UInt8} {base : Nat} {v : Value} {l : List UInt8} (hs : SlL w0 ao x) (hO : OwnB w base v l) (hb : w0.heap.size ≤ base) : 0 < x.length → ∀ b o, ao = some ⟨b, o, none⟩ → some b ≠ v.ownBlock := by
  intro hn b o e e2
  obtain ⟨b', o', e', hlt, _⟩ := hs hn
  rw [e'] at e
  cases e
  have := (hO.blk e2).1
  omega
set_option maxRecDepth 5000 in
theorem OwnB.two (w : World) (x y : UInt8) (base : Nat) (hb : base ≤ w.heap.size) : OwnB (w.alloc (.cells #[.int .u8 x.toNat, .int .u8 y.toNat] 5)) base (.slice (some ⟨w.heap.size, 0, none⟩) 2 2) [x, y] :=
  ⟨rfl, Or.inr ⟨w.heap.size, 2, _, rfl, hb, heap_alloc_last w _, by simp, by unfold maxLen; omega, rfl, rfl⟩⟩
end Go.Proofs.YtdldaphkiphpnaaGreat

