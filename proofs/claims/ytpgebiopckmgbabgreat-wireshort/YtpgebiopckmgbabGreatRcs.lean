/- (*wire.reader).records of the additional section: addresses, then an OPT. -/
import Derived.Test.YtpgebiopckmgbabGreatRto
import Derived.Test.YtpgebiopckmgbabGreatCon
import Derived.Great.BuildSlice
namespace Go.Proofs.YtpgebiopckmgbabGreat
open Go.RowKit
set_option maxRecDepth 5000 in
theorem run_append1 (w : World) (st ty et : TypeId) (z : Value) (size bytes : Nat) (hu : Tryz.prog.underlying st = some (.slice et)) (hie : ∃ i, Tryz.prog.info? et = some i ∧ i.zero = some z ∧ i.size = size ∧ i.bytes = bytes) (hzc : z.cells.size = size) (hsz : 0 < size)
    (base : Nat) (v : Value) (n : Nat) (xs : List Value) (hown : w.ownsRow base et size v n xs) (g : Nat) (t : TypeId) (news : List Value) (hr : RowAt w g t news.toArray) (hlen : news.length = size) (hone : ∀ u ∈ news, u.oneCell' = true)
    (hn : n ≤ 100000) (hby : bytes ≤ 100) (hbase : base ≤ w.heap.size) :
    ∃ v' w', (Builtin.append_ #[st, st] ty #[v, .slice (some ⟨g, 0, none⟩) 1 1]).run Tryz.prog w = .ok v' w' ∧ w'.ownsRow base et size v' (n + 1) (xs ++ news) ∧ w.grownBy w' v.ownBlock := by
  obtain ⟨i, hi, hz, hs, hb⟩ := hie
  have hmul : (n + 1) * bytes ≤ 100001 * 100 := Nat.mul_le_mul (by omega) hby
  obtain ⟨v', w', h1, h2, h3, _⟩ := run_append_own (P := Tryz.prog) (w := w) base st ty et i z size bytes hu hi hz hs hb hzc hsz v n xs hown ⟨g, 0, none⟩ 1 1 news (by rw [hlen]; omega) (fun j u hju => by
    rw [Addr.add_mid, Nat.zero_add, hr.cell]; simpa using hju) hone (by unfold maxLen; omega) (by omega) hbase
  exact ⟨v', w', h1, h2, h3⟩
set_option maxRecDepth 5000 in
theorem wpList_append1 {w : World} {ops : Array Oper} {rest : List Oper} {o : Oper} {a : Act} {Q : Exit → Act → World → Prop} (hgd : o.guard = none) (s x : Operand) (st et : TypeId)
    (ho : o.op = .call { callee := .builtin .append, args := #[s, x], argTypes := #[st, st] }) (z : Value) (size bytes : Nat) (hu : Tryz.prog.underlying st = some (.slice et)) (hie : ∃ i, Tryz.prog.info? et = some i ∧ i.zero = some z ∧ i.size = size ∧ i.bytes = bytes) (hzc : z.cells.size = size) (hsz : 0 < size)
    (base : Nat) (v : Value) (n : Nat) (xs : List Value) (hs : a.eval s = v) (hown : w.ownsRow base et size v n xs) (g : Nat) (t : TypeId) (news : List Value) (hx : a.eval x = .slice (some ⟨g, 0, none⟩) 1 1) (hr : RowAt w g t news.toArray) (hlen : news.length = size) (hone : ∀ u ∈ news, u.oneCell' = true)
    (hn : n ≤ 100000) (hby : bytes ≤ 100) (hbase : base ≤ w.heap.size)
    (h : ∀ v' w', w'.ownsRow base et size v' (n + 1) (xs ++ news) → w.grownBy w' v.ownBlock → wpList Tryz.prog ops Q rest (a.put o.dst v') w') : wpList Tryz.prog ops Q (o :: rest) a w := by
  refine wpList_plain hgd fun _ hK => ?_
  obtain ⟨v', w', h1, h2, h3⟩ := run_append1 w st o.type et z size bytes hu hie hzc hsz base v n xs hown g t news hr hlen hone hn hby hbase
  unfold Oper.wp execOp
  simp only [ho, resolve, invoke, builtin, Sem.run_bind, Sem.run_pure, Result.andThen_ok, List.map_toArray, List.map_cons, List.map_nil, hs, hx, h1]
  exact hK _ _ (h v' w' h2 h3)
set_option maxRecDepth 5000 in
theorem owns_grown {w w' w0 : World} {base sz n : Nat} {et : TypeId} {v : Value} {xs : List Value} (hown : w.ownsRow base et sz v n xs) (hg : w.grownBy w' v.ownBlock) (hb : Below base w0 w) (hB : base ≤ w.heap.size) : Below base w0 w' := by
  refine hb.grown hg hB fun k hk => ?_
  rcases hown.2 with ⟨rfl, _⟩ | ⟨g, cap, cur, rfl, hg', _⟩
  · simp [Value.ownBlock] at hk
  · simp [Value.ownBlock] at hk; omega
set_option maxRecDepth 5000 in
theorem below_setRow {B g : Nat} {w0 w : World} (hb : Below B w0 w) (hBg : B ≤ g) (cs : Array Value) : Below B w0 (w.setRow g cs) :=
  hb.trans ⟨rfl, rfl, rfl, by simp, fun k hk => by simp only [World.setRow, Array.getElem?_modify]; rw [if_neg (by omega)]⟩
set_option maxRecDepth 5000 in
theorem wpList_store_absR {P : Program} {ops : Array Oper} {rest : List Oper} {o : Oper} {a : Act} {w : World} {Q : Exit → Act → World → Prop} (hgd : o.guard = none) (ty : TypeId) (x y : Operand) (ho : o.op = .store ty x y)
    (g : Nat) (cells : Array Value) (hx : a.eval x = .pointer (some ⟨g, 0, none⟩)) (hy : a.eval y = .agg cells) (t : TypeId) (old : Array Value) (hg : RowAt w g t old)
    (hi : (P.info? ty).map (·.size) = some cells.size) (ho2 : old.size = cells.size) (h1 : cells.all (·.oneCell') = true) (B : Nat) (hB : B ≤ g)
    (h : ∀ w', RowAt w' g t cells → Below B w w' → wpList P ops Q rest (a.put o.dst undef) w') : wpList P ops Q (o :: rest) a w :=
  wpList_store_rowR hgd ty x y ho g cells hx hy t old hg hi ho2 h1 (h _ (setRow_same hg _) (below_setRow (Below.refl _ _) hB _))
set_option maxRecDepth 5000 in
theorem fill5 (na : Option Addr) (nn nc t cl ttl : Nat) (da : Option Addr) (dn dc : Nat) : Instr.fill (fun i => some (i * 5, 5)) ((Array.range (1 * 5)).map ((Value.agg #[.slice none 0 0, .int .u16 0, .int .u16 0, .int .u32 0, .slice none 0 0]).cells[· % (Value.agg #[.slice none 0 0, .int .u16 0, .int .u16 0, .int .u32 0, .slice none 0 0]).cells.size]!)) [(0, .agg (rec5 na nn nc t cl ttl da dn dc))] = some (rec5 na nn nc t cl ttl da dn dc) := by kernel_rfl
set_option maxRecDepth 5000 in
theorem wpList_build5 {ops : Array Oper} {rest : List Oper} {o : Oper} {a : Act} {w : World} {Q : Exit → Act → World → Prop} (hg : o.guard = none) (x : Operand) (ho : o.op = .buildSlice 30 1 #[(0, x)])
    (na : Option Addr) (nn nc t cl ttl : Nat) (da : Option Addr) (dn dc : Nat) (hx : a.eval x = .agg (rec5 na nn nc t cl ttl da dn dc))
    (h : wpList Tryz.prog ops Q rest (a.put o.dst (.slice (some ⟨w.heap.size, 0, none⟩) 1 1)) (w.alloc (.cells (rec5 na nn nc t cl ttl da dn dc) 39))) : wpList Tryz.prog ops Q (o :: rest) a w := by
  obtain ⟨i, hi, hz, hs, _⟩ := infoR2
  refine wpList_buildSlice hg 30 39 1 #[(0, x)] ho (rec5 na nn nc t cl ttl da dn dc) i _ Tryz.underlying30 hi hz (by rw [hs]; omega) (by rw [hs]; omega) ?_ h
  rw [hs]
  have : (Array.map (fun (x : Nat × Operand) => (x.fst, a.eval x.snd)) #[(0, x)]).toList = [(0, .agg (rec5 na nn nc t cl ttl da dn dc))] := by simp [hx]
  rw [show ((#[(0, x)] : Array (Nat × Operand)).map fun (i, x) => (i, a.eval x)).toList = [(0, .agg (rec5 na nn nc t cl ttl da dn dc))] from this]
  exact fill5 na nn nc t cl ttl da dn dc
set_option maxRecDepth 5000 in
theorem rec5_ones (na : Option Addr) (nn nc t cl ttl : Nat) (da : Option Addr) (dn dc : Nat) : ∀ u ∈ (rec5 na nn nc t cl ttl da dn dc).toList, u.oneCell' = true := by
  intro u hu
  simp [rec5] at hu
  rcases hu with rfl | rfl | rfl | rfl | rfl <;> rfl
/- blocks T and P alone, and new ones, change -/
structure Mv2 (T P : Nat) (w w' : World) : Prop where
  os : w'.os = w.os
  tape : w'.tape = w.tape
  output : w'.output = w.output
  size : w.heap.size ≤ w'.heap.size
  block : ∀ k, k < w.heap.size → k ≠ T → k ≠ P → w'.heap[k]? = w.heap[k]?
set_option maxRecDepth 5000 in
theorem Mv2.refl (T P : Nat) (w : World) : Mv2 T P w w := ⟨rfl, rfl, rfl, Nat.le_refl _, fun _ _ _ _ => rfl⟩
set_option maxRecDepth 5000 in
theorem Mv2.fst {T P : Nat} {w w1 w2 : World} (h : Mv2 T P w w1) (hm : Mv T w1 w2) : Mv2 T P w w2 :=
  ⟨hm.os.trans h.os, hm.tape.trans h.tape, hm.output.trans h.output, Nat.le_trans h.size hm.size, fun k hk h1 h2 => (hm.block k (Nat.lt_of_lt_of_le hk h.size) (fun e => h1 (by cases e; rfl))).trans (h.block k hk h1 h2)⟩
set_option maxRecDepth 5000 in
theorem Mv2.snd {T P : Nat} {w w1 w2 : World} (h : Mv2 T P w w1) (hm : Mv P w1 w2) : Mv2 T P w w2 :=
  ⟨hm.os.trans h.os, hm.tape.trans h.tape, hm.output.trans h.output, Nat.le_trans h.size hm.size, fun k hk h1 h2 => (hm.block k (Nat.lt_of_lt_of_le hk h.size) (fun e => h2 (by cases e; rfl))).trans (h.block k hk h1 h2)⟩
set_option maxRecDepth 5000 in
theorem Mv2.bel {T P N : Nat} {w w1 w2 : World} (h : Mv2 T P w w1) (hb : Below N w1 w2) (hN : w.heap.size ≤ N) : Mv2 T P w w2 :=
  ⟨hb.os.trans h.os, hb.tape.trans h.tape, hb.output.trans h.output, Nat.le_trans h.size hb.size, fun k hk h1 h2 => (hb.block k (by omega)).trans (h.block k hk h1 h2)⟩
set_option maxRecDepth 5000 in
theorem RdW.low {B T N : Nat} {ao : Option Addr} {c : Nat} {b : List UInt8} {p : Nat} {w w' : World} (h : RdW B T ao c b p w) (hb : Below N w w') (hT : T < N) (hN : B ≤ N) : RdW B T ao c b p w' := by
  obtain ⟨h1, h2, h3, h4, h5, h6, h7, h8⟩ := h
  exact ⟨h1.below hb hT, h2.below (hb.mono hN), h3, h4, h5, h6, h7, Nat.le_trans h8 hb.size⟩
/- what is known while the records are read -/
structure RL (B T : Nat) (ao : Option Addr) (c : Nat) (b : List UInt8) (mB : Nat) (cells : Array Value) (w : World) (p : Nat) (v : Value) (j : Nat) (wr : World) : Prop where
  rd : RdW B T ao c b p wr
  msg : RowAt wr mB 32 cells
  own : ∃ xs, wr.ownsRow w.heap.size 39 5 v j xs
  mv : Mv2 T mB w wr
end Go.Proofs.YtpgebiopckmgbabGreat
