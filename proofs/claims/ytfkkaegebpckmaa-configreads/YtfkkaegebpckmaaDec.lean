/- Settings read, plain; whole structs stored and answered. -/
import Derived.Test.YtfkkaegebpckmaaByt
import Derived.Laws.ResultCell
namespace Go.Proofs.Ytfkkaegebpckmaa
open Go.RowKit
set_option maxRecDepth 5000 in
theorem N.size_ge : ∀ n : List (List UInt8), n.length + 1 ≤ N.size n
  | [] => by simp [N.size]
  | l :: n => by have := N.size_ge n; simp only [N.size, List.map_cons, List.sum_cons, List.length_cons] at *; omega
namespace C
def zero : Cf := ⟨[], 0, 0, 0, 0, 0, 0, 0, 0, [], 0, 0, 0⟩
def mk (n : List (List UInt8)) (r : List UInt8) : Cf :=
  ⟨n, D.gv (r.take 4), D.gv ((r.drop 4).take 4), D.gv ((r.drop 8).take 4), D.gv ((r.drop 12).take 4), D.gv ((r.drop 16).take 4), D.gv ((r.drop 20).take 4), D.gv ((r.drop 24).take 4), D.gv ((r.drop 28).take 4),
    (r.drop 33).take (r.getD 32 0).toNat, D.gv ((r.drop (33 + (r.getD 32 0).toNat)).take 2), ((r.drop (33 + (r.getD 32 0).toNat)).getD 2 0).toNat, D.gv (((r.drop (33 + (r.getD 32 0).toNat)).drop 3).take 2)⟩
def decR (n : List (List UInt8)) (r : List UInt8) : Option Cf := if r.length ≤ 32 then none else if r.length ≠ 38 + (r.getD 32 0).toNat then none else some (mk n r)
def dec (b : List UInt8) : Option Cf := match N.opn b with
  | none => none
  | some n => if 255 < N.size n then none else decR n (b.drop (N.size n))
set_option maxRecDepth 5000 in
theorem dec_none {b : List UInt8} (h : N.opn b = none) : dec b = none := by unfold dec; rw [h]
set_option maxRecDepth 5000 in
theorem dec_great {b : List UInt8} {n : List (List UInt8)} (h : N.opn b = some n) (h2 : 255 < N.size n) : dec b = none := by unfold dec; rw [h]; exact if_pos h2
set_option maxRecDepth 5000 in
theorem dec_some {b : List UInt8} {n : List (List UInt8)} (h : N.opn b = some n) (h2 : N.size n ≤ 255) : dec b = decR n (b.drop (N.size n)) := by unfold dec; rw [h]; exact if_neg (by omega)
set_option maxRecDepth 5000 in
theorem decR_short {n : List (List UInt8)} {r : List UInt8} (h : r.length ≤ 32) : decR n r = none := by unfold decR; rw [if_pos h]
set_option maxRecDepth 5000 in
theorem decR_len {n : List (List UInt8)} {r : List UInt8} (h : r.length ≠ 38 + (r.getD 32 0).toNat) : decR n r = none := by
  unfold decR
  by_cases h2 : r.length ≤ 32
  · rw [if_pos h2]
  · rw [if_neg h2, if_pos h]
set_option maxRecDepth 5000 in
theorem decR_ok {n : List (List UInt8)} {r : List UInt8} (h : r.length = 38 + (r.getD 32 0).toNat) : decR n r = some (mk n r) := by
  unfold decR; rw [if_neg (by omega), if_neg (by omega)]
end C
def zeroC : Array Value := #[.slice none 0 0, .int .u32 0, .int .u32 0, .int .u32 0, .int .u32 0, .int .u32 0, .int .u32 0, .int .u32 0, .int .u32 0, .slice none 0 0, .int .u16 0, .int .i64 0, .int .u16 0]
/- what an opening of settings answers -/
def COpened (b : List UInt8) (B : Nat) (w : World) (e : Ending) (w' : World) : Prop :=
  ∃ (x : C.Cf) (c : Int) (a0 a9 : Option Addr) (la c0 ls c9 : Nat), e = .returned (.tuple #[.agg #[.slice a0 la c0, .int .u32 (x.k : Int), .int .u32 (x.p : Int), .int .u32 (x.d : Int), .int .u32 (x.e : Int), .int .u32 (x.v : Int), .int .u32 (x.l : Int), .int .u32 (x.g : Int), .int .u32 (x.m : Int), .slice a9 ls c9, .int .u16 (x.it : Int), .int .i64 x.h, .int .u16 (x.sz : Int)], .int .i64 c]) ∧ (C.dec b = some x ∧ c = 0 ∨ C.dec b = none ∧ x = C.zero ∧ c = 100) ∧ x.apex.length = la ∧ x.salt.length = ls ∧ SlS w' a0 x.apex ∧ SlL w' a9 x.salt ∧ ls ≤ 255 ∧ la ≤ 1000 ∧ Below B w w'
set_option maxRecDepth 5000 in
theorem COpened.no {b : List UInt8} {B : Nat} {w w' : World} (h : C.dec b = none) (hb : Below B w w') : COpened b B w (.returned (.tuple #[.agg zeroC, .int .i64 100])) w' :=
  ⟨C.zero, 100, none, none, 0, 0, 0, 0, rfl, Or.inr ⟨h, rfl, rfl⟩, rfl, rfl, SlS.nil _ _, SlL.nil _ _, by omega, by omega, hb⟩
set_option maxRecDepth 5000 in
theorem setRow_same {w : World} {g : Nat} {t : TypeId} {c : Array Value} (h : RowAt w g t c) (c' : Array Value) : RowAt (w.setRow g c') g t c' := by
  unfold RowAt at *
  simp only [World.setRow, Array.getElem?_modify]
  rw [if_pos trivial, h]; rfl
set_option maxRecDepth 5000 in
theorem wpList_store_rowR {P : Program} {ops : Array Oper} {rest : List Oper} {o : Oper} {a : Act} {w : World} {Q : Exit → Act → World → Prop} (hgd : o.guard = none) (ty : TypeId) (x y : Operand) (ho : o.op = .store ty x y)
    (g : Nat) (cells : Array Value) (hx : a.eval x = .pointer (some ⟨g, 0, none⟩)) (hy : a.eval y = .agg cells) (t : TypeId) (old : Array Value) (hg : RowAt w g t old)
    (hi : (P.info? ty).map (·.size) = some cells.size) (ho2 : old.size = cells.size) (h1 : cells.all (·.oneCell') = true)
    (h : wpList P ops Q rest (a.put o.dst undef) (w.setRow g cells)) : wpList P ops Q (o :: rest) a w :=
  wpList_plain hgd fun _ hK => by
    unfold Oper.wp execOp
    simp only [ho, hx, hy, Instr.storeAt, Instr.sureAddr, Sem.run_bind, Sem.run_pure, Result.andThen_ok, run_storeVar_row w g t ty old cells hg hi ho2 h1]
    exact hK _ _ h
set_option maxRecDepth 5000 in
theorem below_setRow {B g : Nat} {w0 w : World} (hb : Below B w0 w) (hBg : B ≤ g) (cs : Array Value) : Below B w0 (w.setRow g cs) :=
  hb.trans ⟨rfl, rfl, rfl, by simp, fun k hk => by simp only [World.setRow, Array.getElem?_modify]; rw [if_neg (by omega)]⟩
set_option maxRecDepth 5000 in
theorem wpList_store_absR {P : Program} {ops : Array Oper} {rest : List Oper} {o : Oper} {a : Act} {w : World} {Q : Exit → Act → World → Prop} (hgd : o.guard = none) (ty : TypeId) (x y : Operand) (ho : o.op = .store ty x y)
    (g : Nat) (cells : Array Value) (hx : a.eval x = .pointer (some ⟨g, 0, none⟩)) (hy : a.eval y = .agg cells) (t : TypeId) (old : Array Value) (hg : RowAt w g t old)
    (hi : (P.info? ty).map (·.size) = some cells.size) (ho2 : old.size = cells.size) (h1 : cells.all (·.oneCell') = true) (B : Nat) (hB : B ≤ g)
    (h : ∀ w', RowAt w' g t cells → Below B w w' → wpList P ops Q rest (a.put o.dst undef) w') : wpList P ops Q (o :: rest) a w :=
  wpList_store_rowR hgd ty x y ho g cells hx hy t old hg hi ho2 h1 (h _ (setRow_same hg _) (below_setRow (Below.refl _ _) hB _))
set_option maxRecDepth 5000 in
theorem store13 {w : World} {g : Nat} {t : TypeId} {c : Array Value} (h : RowAt w g t c) (cs : Array Value) (hs : c.size = cs.size) (h1 : cs.all (·.oneCell') = true) : (storeCells ⟨g, 0, none⟩ cs.toList).run Try.prog w = .ok () (w.setRow g cs) := by
  have := run_storeCells_from (P := Try.prog) g t cs.toList 0 c w h (by simp; omega) (fun v hv => (Array.all_eq_true_iff_forall_mem.1 h1) v (by simpa using hv))
  simpa using this
set_option maxRecDepth 5000 in
theorem owns_setRow {w : World} {g base sz n : Nat} {e : TypeId} {v : Value} {xs : List Value} (h : w.ownsRow base e sz v n xs) (hg : g < base) (cs : Array Value) : (w.setRow g cs).ownsRow base e sz v n xs := by
  refine ⟨h.1, ?_⟩
  rcases h.2 with h1 | ⟨g', cap, cur, e1, hb, hg', hr⟩
  · exact Or.inl h1
  · refine Or.inr ⟨g', cap, cur, e1, hb, ?_, hr⟩
    simp only [World.setRow, Array.getElem?_modify]
    rw [if_neg (by omega)]
    exact hg'
set_option maxRecDepth 5000 in
theorem OwnB.lower {w : World} {base base' : Nat} {v : Value} {n : List UInt8} (h : OwnB w base v n) (hb : base' ≤ base) : OwnB w base' v n := by
  have h0 : w.ownsRow base 5 1 v n.length (vb n) := h
  refine ⟨h0.1, ?_⟩
  rcases h0.2 with h1 | ⟨g, cap, cur, e, h1, h2, h3⟩
  · exact Or.inl h1
  · exact Or.inr ⟨g, cap, cur, e, Nat.le_trans hb h1, h2, h3⟩
set_option maxRecDepth 5000 in
theorem OwnS.sl {w : World} {base len cap : Nat} {ao : Option Addr} {n : List (List UInt8)} (h : OwnS w base (.slice ao len cap) n) : SlS w ao n := by
  obtain ⟨a, c, e, hs, _⟩ := h.open
  cases e
  exact hs
set_option maxRecDepth 5000 in
theorem OwnB.sll {w : World} {base len cap : Nat} {ao : Option Addr} {l : List UInt8} (h : OwnB w base (.slice ao len cap) l) : SlL w ao l := by
  obtain ⟨a, c, e, hs, _⟩ := h.open
  cases e
  exact hs
set_option maxRecDepth 5000 in
theorem infoCf : (Try.prog.info? 28).map (·.size) = some 13 := by kernel_rfl
set_option maxRecDepth 5000 in
theorem results_cf {fn : Func} {p u : Tmp} (h : fn.results = #[.cell p 28, .tmp u]) (tmps : Array Value) (w : World) (g : Nat) (cs : Array Value) (hs : cs.size = 13) (hp : tmps.getD p undef = .pointer (some ⟨g, 0, none⟩)) (hg : RowAt w g 28 cs) :
    (results fn tmps).run Try.prog w = .ok (.tuple #[.agg cs, tmps.getD u undef]) w := by
  rw [results_cell_tmp h, hp]
  have hl := run_loadVar_row (P := Try.prog) w g 28 28 cs (0, 0) _ hg Try.underlying28 rfl (by rw [hs]; exact infoCf)
  simp [asAddr, hl, Result.andThen]
end Go.Proofs.Ytfkkaegebpckmaa
