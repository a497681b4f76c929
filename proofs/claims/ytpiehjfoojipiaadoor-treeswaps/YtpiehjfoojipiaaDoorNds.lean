/- Slices of nodes, of rows of eight bytes: a call's own, appended to by one; slices of such; what one built of one is. -/
import Derived.Test.YtpiehjfoojipiaaDoorTre
import Derived.Test.YtpiehjfoojipiaaDoorOpn
import Derived.Great.BuildSlice
import Derived.Deep.RegionLaw
namespace Go.Proofs.YtpiehjfoojipiaaDoor
open Go.RowKit
set_option maxRecDepth 5000 in
theorem infoN : ∃ i, Tryd.prog.info? 58 = some i ∧ i.zero = some (.agg z8) ∧ i.size = 8 ∧ i.bytes = 8 := info_parts (by kernel_rfl)
set_option maxRecDepth 5000 in
theorem infoA : ∃ i, Tryd.prog.info? 22 = some i ∧ i.zero = some (.agg z8) ∧ i.size = 8 ∧ i.bytes = 8 := info_parts (by kernel_rfl)
set_option maxRecDepth 5000 in
theorem infoNs : ∃ i, Tryd.prog.info? 54 = some i ∧ i.zero = some (.slice none 0 0) ∧ i.size = 1 ∧ i.bytes = 24 := info_parts (by kernel_rfl)
set_option maxRecDepth 5000 in
theorem infoAs : ∃ i, Tryd.prog.info? 49 = some i ∧ i.zero = some (.slice none 0 0) ∧ i.size = 1 ∧ i.bytes = 24 := info_parts (by kernel_rfl)
set_option maxRecDepth 5000 in
theorem info58 : (Tryd.prog.info? 58).map (·.size) = some 8 := by kernel_rfl
set_option maxRecDepth 5000 in
theorem fill8 (F : Nat → BitVec 8) : Instr.fill (fun i => some (i * 8, 8)) ((Array.range (1 * 8)).map ((Value.agg z8).cells[· % (Value.agg z8).cells.size]!)) [(0, .agg (rowB 8 F))] = some (rowB 8 F) := by kernel_rfl
/- a slice literal of one row of eight -/
set_option maxRecDepth 5000 in
theorem wpList_build8 {ops : Array Oper} {rest : List Oper} {o : Oper} {a : Act} {w : World} {Q : Exit → Act → World → Prop} (hg : o.guard = none) (st et : TypeId) (x : Operand) (ho : o.op = .buildSlice st 1 #[(0, x)])
    (F : Nat → BitVec 8) (hx : a.eval x = .agg (rowB 8 F)) (hu : Tryd.prog.underlying st = some (.slice et)) (hie : ∃ i, Tryd.prog.info? et = some i ∧ i.zero = some (.agg z8) ∧ i.size = 8 ∧ i.bytes = 8)
    (h : wpList Tryd.prog ops Q rest (a.put o.dst (.slice (some ⟨w.heap.size, 0, none⟩) 1 1)) (w.alloc (.cells (rowB 8 F) et))) : wpList Tryd.prog ops Q (o :: rest) a w := by
  obtain ⟨i, hi, hz, hs, _⟩ := hie
  refine wpList_buildSlice hg st et 1 #[(0, x)] ho (rowB 8 F) i (.agg z8) hu hi hz (by rw [hs]; omega) (by rw [hs]; omega) ?_ h
  rw [hs]
  have : (Array.map (fun (x : Nat × Operand) => (x.fst, a.eval x.snd)) #[(0, x)]).toList = [(0, .agg (rowB 8 F))] := by simp [hx]
  rw [show ((#[(0, x)] : Array (Nat × Operand)).map fun (i, x) => (i, a.eval x)).toList = [(0, .agg (rowB 8 F))] from this]
  exact fill8 F
/- append of one element to a slice of the call's own -/
set_option maxRecDepth 5000 in
theorem run_append1 (w : World) (st ty et : TypeId) (z : Value) (size bytes : Nat) (hu : Tryd.prog.underlying st = some (.slice et)) (hie : ∃ i, Tryd.prog.info? et = some i ∧ i.zero = some z ∧ i.size = size ∧ i.bytes = bytes) (hzc : z.cells.size = size) (hsz : 0 < size)
    (base : Nat) (v : Value) (n : Nat) (xs : List Value) (hown : w.ownsRow base et size v n xs) (g : Nat) (t : TypeId) (news : List Value) (hr : RowAt w g t news.toArray) (hlen : news.length = size) (hone : ∀ u ∈ news, u.oneCell' = true)
    (hn : n ≤ 100000) (hby : bytes ≤ 100) (hbase : base ≤ w.heap.size) :
    ∃ v' w', (Builtin.append_ #[st, st] ty #[v, .slice (some ⟨g, 0, none⟩) 1 1]).run Tryd.prog w = .ok v' w' ∧ w'.ownsRow base et size v' (n + 1) (xs ++ news) ∧ w.grownBy w' v.ownBlock := by
  obtain ⟨i, hi, hz, hs, hb⟩ := hie
  have hmul : (n + 1) * bytes ≤ 100001 * 100 := Nat.mul_le_mul (by omega) hby
  obtain ⟨v', w', h1, h2, h3, _⟩ := run_append_own (P := Tryd.prog) (w := w) base st ty et i z size bytes hu hi hz hs hb hzc hsz v n xs hown ⟨g, 0, none⟩ 1 1 news (by rw [hlen]; omega) (fun j u hju => by
    rw [Addr.add_mid, Nat.zero_add, hr.cell]; simpa using hju) hone (by unfold maxLen; omega) (by omega) hbase
  exact ⟨v', w', h1, h2, h3⟩
set_option maxRecDepth 5000 in
theorem wpList_append1 {w : World} {ops : Array Oper} {rest : List Oper} {o : Oper} {a : Act} {Q : Exit → Act → World → Prop} (hgd : o.guard = none) (s x : Operand) (st et : TypeId)
    (ho : o.op = .call { callee := .builtin .append, args := #[s, x], argTypes := #[st, st] }) (z : Value) (size bytes : Nat) (hu : Tryd.prog.underlying st = some (.slice et)) (hie : ∃ i, Tryd.prog.info? et = some i ∧ i.zero = some z ∧ i.size = size ∧ i.bytes = bytes) (hzc : z.cells.size = size) (hsz : 0 < size)
    (base : Nat) (v : Value) (n : Nat) (xs : List Value) (hs : a.eval s = v) (hown : w.ownsRow base et size v n xs) (g : Nat) (t : TypeId) (news : List Value) (hx : a.eval x = .slice (some ⟨g, 0, none⟩) 1 1) (hr : RowAt w g t news.toArray) (hlen : news.length = size) (hone : ∀ u ∈ news, u.oneCell' = true)
    (hn : n ≤ 100000) (hby : bytes ≤ 100) (hbase : base ≤ w.heap.size)
    (h : ∀ v' w', w'.ownsRow base et size v' (n + 1) (xs ++ news) → w.grownBy w' v.ownBlock → wpList Tryd.prog ops Q rest (a.put o.dst v') w') : wpList Tryd.prog ops Q (o :: rest) a w := by
  refine wpList_plain hgd fun _ hK => ?_
  obtain ⟨v', w', h1, h2, h3⟩ := run_append1 w st o.type et z size bytes hu hie hzc hsz base v n xs hown g t news hr hlen hone hn hby hbase
  unfold Oper.wp execOp
  simp only [ho, resolve, invoke, builtin, Sem.run_bind, Sem.run_pure, Result.andThen_ok, List.map_toArray, List.map_cons, List.map_nil, hs, hx, h1]
  exact hK _ _ (h v' w' h2 h3)
set_option maxRecDepth 5000 in
theorem step_append1 {ops : Array Oper} {o : Oper} {a : Act} {w : World} {K : Act → World → Prop} {Q : Exit → Act → World → Prop} {E : Prop} (hgd : o.guard = none) (s x : Operand) (st et : TypeId)
    (ho : o.op = .call { callee := .builtin .append, args := #[s, x], argTypes := #[st, st] }) (z : Value) (size bytes : Nat) (hu : Tryd.prog.underlying st = some (.slice et)) (hie : ∃ i, Tryd.prog.info? et = some i ∧ i.zero = some z ∧ i.size = size ∧ i.bytes = bytes) (hzc : z.cells.size = size) (hsz : 0 < size)
    (base : Nat) (v : Value) (n : Nat) (xs : List Value) (hs : a.eval s = v) (hown : w.ownsRow base et size v n xs) (g : Nat) (t : TypeId) (news : List Value) (hx : a.eval x = .slice (some ⟨g, 0, none⟩) 1 1) (hr : RowAt w g t news.toArray) (hlen : news.length = size) (hone : ∀ u ∈ news, u.oneCell' = true)
    (hn : n ≤ 100000) (hby : bytes ≤ 100) (hbase : base ≤ w.heap.size)
    (h : ∀ v' w', w'.ownsRow base et size v' (n + 1) (xs ++ news) → w.grownBy w' v.ownBlock → K (a.put o.dst v') w') : if Region.wanted o (yielded ops a.tmps) = true then Oper.wp Tryd.prog o a w K Q else E := by
  have hw : Region.wanted o (yielded ops a.tmps) = true := by simp [Region.wanted, hgd]
  rw [if_pos hw]
  obtain ⟨v', w', h1, h2, h3⟩ := run_append1 w st o.type et z size bytes hu hie hzc hsz base v n xs hown g t news hr hlen hone hn hby hbase
  unfold Oper.wp execOp
  simp only [ho, resolve, invoke, builtin, Sem.run_bind, Sem.run_pure, Result.andThen_ok, List.map_toArray, List.map_cons, List.map_nil, hs, hx, h1]
  exact h v' w' h2 h3
/- nodes l as cells; a slice of nodes of the call's own -/
def nfl (l : List (Nat → BitVec 8)) : List Value := l.flatMap (bsL 8)
set_option maxRecDepth 5000 in
theorem nfl_len (l : List (Nat → BitVec 8)) : (nfl l).length = l.length * 8 := by
  induction l with
  | nil => rfl
  | cons x l ih => unfold nfl at *; rw [List.flatMap_cons, List.length_append, ih, bsL_len, List.length_cons]; omega
set_option maxRecDepth 5000 in
theorem nfl_app (l m : List (Nat → BitVec 8)) : nfl (l ++ m) = nfl l ++ nfl m := by simp [nfl]
set_option maxRecDepth 5000 in
theorem nfl_get (l : List (Nat → BitVec 8)) : ∀ (j t : Nat), j < l.length → t < 8 → (nfl l)[8 * j + t]? = some (.int .u8 (l.getD j (fun _ => 0) t).toNat) := by
  induction l with
  | nil => intro j t h; simp at h
  | cons y l ih =>
    intro j t h ht
    cases j with
    | zero =>
      unfold nfl
      rw [List.flatMap_cons, List.getElem?_append_left (by rw [bsL_len]; omega), Nat.mul_zero, Nat.zero_add]
      simp [bsL, fb, ht]
    | succ j =>
      have ih' := ih j t (by simpa using h) ht
      unfold nfl at *
      rw [List.flatMap_cons, List.getElem?_append_right (by rw [bsL_len]; omega), bsL_len, show 8 * (j + 1) + t - 8 = 8 * j + t by omega, ih']
      rfl
/- the value v is a slice of the nodes l, in a block of the type et -/
def SlN (et : TypeId) (w : World) (v : Value) (l : List (Nat → BitVec 8)) : Prop := ∃ g c cur, v = .slice (some ⟨g, 0, none⟩) l.length c ∧ l.length ≤ c ∧ w.heap[g]? = some (.cells cur et (0, 0)) ∧ ∀ i, i < l.length → w.rangeAt g (8 * i) (bsL 8 (l.getD i (fun _ => 0)))
set_option maxRecDepth 5000 in
theorem SlN.of {et : TypeId} {w : World} {base : Nat} {v : Value} {l : List (Nat → BitVec 8)} (h : w.ownsRow base et 8 v l.length (nfl l)) (hne : v ≠ .slice none 0 0) : SlN et w v l := by
  have h0 := h
  rcases h.2 with ⟨rfl, _⟩ | ⟨g, cap, cur, rfl, hb, hg, hc, hm, _, _⟩
  · exact absurd rfl hne
  · refine ⟨g, cap, cur, rfl, hc, hg, fun i hi j v hv => ?_⟩
    have hj : j < 8 := by have := (List.getElem?_eq_some_iff.1 hv).1; rwa [bsL_len] at this
    have h1 := World.ownsRow.cells h0 (g := g) rfl (8 * i + j) (.int .u8 (l.getD i (fun _ => 0) j).toNat) (nfl_get l i j hi hj)
    rw [Addr.add_mid, Nat.zero_add] at h1
    rw [h1, ← hv]
    simp [bsL, fb, hj]
set_option maxRecDepth 5000 in
theorem rangeAt_block {w w' : World} {g o : Nat} {cs : List Value} (h : w.rangeAt g o cs) (hb : w'.heap[g]? = w.heap[g]?) : w'.rangeAt g o cs := fun j v hv => by
  rw [← h j v hv]; exact World.cell?_of_block hb
set_option maxRecDepth 5000 in
theorem SlN.below {et : TypeId} {w w' : World} {B : Nat} {v : Value} {l : List (Nat → BitVec 8)} (h : SlN et w v l) (hb : Below B w w') (hB : w.heap.size ≤ B) : SlN et w' v l := by
  obtain ⟨g, c, cur, h1, h2, h3, h4⟩ := h
  have hlt : g < w.heap.size := (Array.getElem?_eq_some_iff.1 h3).1
  have hbl := hb.block g (Nat.lt_of_lt_of_le hlt hB)
  exact ⟨g, c, cur, h1, h2, by rw [hbl]; exact h3, fun i hi => rangeAt_block (h4 i hi) hbl⟩
set_option maxRecDepth 5000 in
theorem SlN.alloc {et : TypeId} {w : World} {v : Value} {l : List (Nat → BitVec 8)} (h : SlN et w v l) (o : Obj) : SlN et (w.alloc o) v l := h.below ((Below.refl w.heap.size w).alloc (Nat.le_refl _) o) (Nat.le_refl _)
set_option maxRecDepth 5000 in
theorem SlN.drew {et : TypeId} {w : World} {v : Value} {l : List (Nat → BitVec 8)} (h : SlN et w v l) : SlN et w.drew v l := h.below (Below.refl w.heap.size w).drew (Nat.le_refl _)
/- what lies in a block of another type is kept by an append -/
set_option maxRecDepth 5000 in
theorem SlN.grown {et t : TypeId} {w w' : World} {base sz n : Nat} {v u : Value} {xs : List Value} {l : List (Nat → BitVec 8)} (h : SlN et w v l) (ho : w.ownsRow base t sz u n xs) (hne : et ≠ t) (hg : w.grownBy w' u.ownBlock) : SlN et w' v l := by
  obtain ⟨g, c, cur, h1, h2, h3, h4⟩ := h
  have hlt : g < w.heap.size := (Array.getElem?_eq_some_iff.1 h3).1
  have hn : some g ≠ u.ownBlock := by
    rcases ho.2 with ⟨rfl, _⟩ | ⟨g', cap, cu, rfl, _, h5, _⟩
    · simp [Value.ownBlock]
    · intro e
      simp only [Value.ownBlock, Option.some.injEq] at e
      subst e
      rw [h3] at h5
      injection h5 with h5
      injection h5 with _ h6
      exact hne h6
  have hbl := hg.block g hlt hn
  exact ⟨g, c, cur, h1, h2, by rw [hbl]; exact h3, fun i hi => rangeAt_block (h4 i hi) hbl⟩
set_option maxRecDepth 5000 in
theorem owns_below {et : TypeId} {w w' : World} {base sz n : Nat} {v : Value} {xs : List Value} (h : w.ownsRow base et sz v n xs) (hb : Below w.heap.size w w') : w'.ownsRow base et sz v n xs :=
  h.kept (row := none) ⟨hb.os, hb.tape, hb.output, hb.size, fun k hk _ => hb.block k hk⟩ (by cases hv : v.ownBlock <;> simp)
set_option maxRecDepth 5000 in
theorem owns_grown {w w' w0 : World} {base sz n : Nat} {et : TypeId} {v : Value} {xs : List Value} (hown : w.ownsRow base et sz v n xs) (hg : w.grownBy w' v.ownBlock) (hb : Below base w0 w) (hB : base ≤ w.heap.size) : Below base w0 w' := by
  refine hb.grown hg hB fun k hk => ?_
  rcases hown.2 with ⟨rfl, _⟩ | ⟨g, cap, cur, rfl, hg', _⟩
  · simp [Value.ownBlock] at hk
  · simp [Value.ownBlock] at hk; omega
set_option maxRecDepth 5000 in
theorem bsL_one8 (F : Nat → BitVec 8) : ∀ u ∈ bsL 8 F, u.oneCell' = true := bsL_one 8 F
end Go.Proofs.YtpiehjfoojipiaaDoor
