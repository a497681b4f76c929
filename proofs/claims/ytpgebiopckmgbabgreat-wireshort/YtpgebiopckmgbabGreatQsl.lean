/- Slices of questions; setFlags; records, of none. -/
import Derived.Test.YtpgebiopckmgbabGreatQst
namespace Go.Proofs.YtpgebiopckmgbabGreat
open Go.RowKit
set_option maxRecDepth 5000 in
theorem own_ty {w : World} {B e s n : Nat} {v : Value} {xs : List Value} (h : w.ownsRow B e s v n xs) {g : Nat} (hg : v.ownBlock = some g) : ∃ cur, w.heap[g]? = some (.cells cur e (0, 0)) := by
  rcases h.2 with ⟨rfl, _⟩ | ⟨g', cap, cur, rfl, _, h2, _⟩
  · simp [Value.ownBlock] at hg
  · simp [Value.ownBlock] at hg; subst hg; exact ⟨cur, h2⟩
set_option maxRecDepth 5000 in
theorem row_grownO {w w' : World} {g t : Nat} {c : Array Value} {B e s n : Nat} {v : Value} {xs : List Value} (hR : RowAt w g t c) (ho : w.ownsRow B e s v n xs) (hne : t ≠ e) (hg : w.grownBy w' v.ownBlock) : RowAt w' g t c := by
  have hl := hR.lt
  unfold RowAt at hR ⊢
  rw [hg.block g hl (fun q => ?_)]
  · exact hR
  · obtain ⟨cur, h⟩ := own_ty ho q.symm
    rw [hR] at h
    cases h
    exact hne rfl
set_option maxRecDepth 5000 in
theorem own_grownO {w w' : World} {B' e' s' n' : Nat} {v' : Value} {xs' : List Value} {B e s n : Nat} {v : Value} {xs : List Value} (h : w.ownsRow B' e' s' v' n' xs') (ho : w.ownsRow B e s v n xs) (hne : e' ≠ e) (hg : w.grownBy w' v.ownBlock) : w'.ownsRow B' e' s' v' n' xs' := by
  refine ⟨h.1, ?_⟩
  rcases h.2 with h1 | ⟨g, cap, cur, e1, hb, hg', hr⟩
  · exact Or.inl h1
  · refine Or.inr ⟨g, cap, cur, e1, hb, ?_, hr⟩
    rw [hg.block g (Array.getElem?_eq_some_iff.1 hg').1 (fun q => ?_)]
    · exact hg'
    · obtain ⟨cur', h2⟩ := own_ty ho q.symm
      rw [hg'] at h2
      cases h2
      exact hne rfl
set_option maxRecDepth 5000 in
theorem grown_mv {T : Nat} {w0 w w' : World} {e s n : Nat} {v : Value} {xs : List Value} (hm : Mv T w0 w) (ho : w.ownsRow w0.heap.size e s v n xs) (hg : w.grownBy w' v.ownBlock) : Mv T w0 w' := by
  refine ⟨hg.os.trans hm.os, hg.tape.trans hm.tape, hg.output.trans hm.output, Nat.le_trans hm.size hg.size, fun k hk hn => ?_⟩
  refine (hg.block k (Nat.lt_of_lt_of_le hk hm.size) (fun q => ?_)).trans (hm.block k hk hn)
  rcases ho.2 with ⟨rfl, _⟩ | ⟨g, cap, cur, rfl, hb, _⟩
  · simp [Value.ownBlock] at q
  · simp [Value.ownBlock] at q; omega
set_option maxRecDepth 5000 in
theorem RdW.grown {B T : Nat} {ao : Option Addr} {c : Nat} {b : List UInt8} {p : Nat} {w w' : World} {base e s n : Nat} {v : Value} {xs : List Value} (h : RdW B T ao c b p w) (ho : w.ownsRow base e s v n xs) (hne : 63 ≠ e) (hB : B ≤ base) (hg : w.grownBy w' v.ownBlock) : RdW B T ao c b p w' := by
  obtain ⟨h1, h2, h3, h4, h5, h6, h7, h8⟩ := h
  refine ⟨row_grownO h1 ho hne hg, h2.below ⟨hg.os, hg.tape, hg.output, hg.size, fun k hk => hg.block k (by omega) (fun q => ?_)⟩, h3, h4, h5, h6, h7, Nat.le_trans h8 hg.size⟩
  rcases ho.2 with ⟨rfl, _⟩ | ⟨g, cap, cur, rfl, hb, _⟩
  · simp [Value.ownBlock] at q
  · simp [Value.ownBlock] at q; omega
def qc (x : Option Addr × Nat × M.Q) : List Value := [.slice x.1 x.2.2.name.length x.2.1, .int .u16 (x.2.2.type : Int), .int .u16 (x.2.2.cls : Int)]
def OwnQ (w : World) (base : Nat) (v : Value) (l : List (Option Addr × Nat × M.Q)) : Prop :=
  w.ownsRow base 28 3 v l.length (l.flatMap qc) ∧ ∀ x ∈ l, OwnS w base (.slice x.1 x.2.2.name.length x.2.1) x.2.2.name
set_option maxRecDepth 5000 in
theorem OwnQ.nil (w : World) (base : Nat) : OwnQ w base (.slice none 0 0) [] := ⟨World.ownsRow_nil _ _ _ _, fun x hx => by cases hx⟩
set_option maxRecDepth 5000 in
theorem own_below {w w' : World} {base e s n : Nat} {v : Value} {xs : List Value} (h : w.ownsRow base e s v n xs) (hb : Below w.heap.size w w') : w'.ownsRow base e s v n xs := by
  refine ⟨h.1, ?_⟩
  rcases h.2 with h1 | ⟨g, cap, cur, e1, h2, hg', hr⟩
  · exact Or.inl h1
  · refine Or.inr ⟨g, cap, cur, e1, h2, ?_, hr⟩
    rw [hb.block g (Array.getElem?_eq_some_iff.1 hg').1]; exact hg'
set_option maxRecDepth 5000 in
theorem own_mv3 {w w' : World} {B e s n T t : Nat} {v : Value} {xs : List Value} {c : Array Value} (h : w.ownsRow B e s v n xs) (hT : RowAt w T t c) (hne : t ≠ e) (hg : Mv T w w') : w'.ownsRow B e s v n xs := by
  refine ⟨h.1, ?_⟩
  rcases h.2 with h1 | ⟨g, cap, cur, e1, hb, hg', hr⟩
  · exact Or.inl h1
  · refine Or.inr ⟨g, cap, cur, e1, hb, ?_, hr⟩
    rw [hg.block g (Array.getElem?_eq_some_iff.1 hg').1 (fun e2 => ?_)]
    · exact hg'
    · cases e2
      unfold RowAt at hT
      rw [hT] at hg'
      cases hg'
      exact hne rfl
set_option maxRecDepth 5000 in
theorem OwnQ.below {w w' : World} {base : Nat} {v : Value} {l : List (Option Addr × Nat × M.Q)} (h : OwnQ w base v l) (hb : Below w.heap.size w w') : OwnQ w' base v l := ⟨own_below h.1 hb, fun x hx => (h.2 x hx).below hb⟩
set_option maxRecDepth 5000 in
theorem OwnQ.mv {w w' : World} {base T t : Nat} {v : Value} {l : List (Option Addr × Nat × M.Q)} {c : Array Value} (h : OwnQ w base v l) (hT : RowAt w T t c) (h1 : t ≠ 28) (h2 : t ≠ 9) (hg : Mv T w w') : OwnQ w' base v l :=
  ⟨own_mv3 h.1 hT h1 hg, fun x hx => own_mv (show World.ownsRow _ _ _ _ _ _ _ from h.2 x hx) hT h2 hg⟩
set_option maxRecDepth 5000 in
theorem infoQ : (Tryz.prog.info? 28).map (fun i => (i.zero, i.size, i.bytes)) = some (some (.agg #[.slice none 0 0, .int .u16 0, .int .u16 0]), 3, 32) := by kernel_rfl
set_option maxRecDepth 5000 in
theorem run_append_Q {w : World} {base : Nat} {v : Value} {l : List (Option Addr × Nat × M.Q)} (ty : TypeId) (hown : OwnQ w base v l) (ad : Addr) (c : Nat) (y : Option Addr × Nat × M.Q) (hsrc : ∀ (j : Nat) u, (qc y)[j]? = some u → w.cell? (ad.add j) = some u)
    (hy : OwnS w base (.slice y.1 y.2.2.name.length y.2.1) y.2.2.name) (hbound : l.length ≤ 100000) (hbase : base ≤ w.heap.size) :
    ∃ v' w', (Builtin.append_ #[29, 29] ty #[v, .slice (some ad) 1 c]).run Tryz.prog w = .ok v' w' ∧ OwnQ w' base v' (l ++ [y]) ∧ w.grownBy w' v.ownBlock := by
  obtain ⟨i0, hi, hz0, hz1, hz2⟩ := info_parts infoQ
  obtain ⟨v', w', h1, h2, h3, _⟩ := run_append_own (P := Tryz.prog) w base 29 ty 28 i0 (.agg #[.slice none 0 0, .int .u16 0, .int .u16 0]) 3 32 Tryz.underlying29 hi hz0 hz1 hz2 rfl (by decide) v l.length (l.flatMap qc) hown.1 ad 1 c (qc y) rfl hsrc (by
    intro u hu
    simp [qc] at hu
    rcases hu with rfl | rfl | rfl <;> rfl) (by unfold maxLen; omega) (by omega) hbase
  refine ⟨v', w', h1, ⟨?_, ?_⟩, h3⟩
  · rw [List.length_append, List.flatMap_append]
    simpa using h2
  · intro x hx
    rcases List.mem_append.1 hx with hx | hx
    · exact own_grownO (show World.ownsRow _ _ _ _ _ _ _ from hown.2 x hx) hown.1 (by decide) h3
    · simp at hx; subst hx
      exact own_grownO (show World.ownsRow _ _ _ _ _ _ _ from hy) hown.1 (by decide) h3
set_option maxRecDepth 5000 in
theorem step_append_Q {ops : Array Oper} {o : Oper} {a : Act} {w : World} {K : Act → World → Prop} {Q : Exit → Act → World → Prop} {E : Prop} (hgd : o.guard = none) (s x : Operand)
    (ho : o.op = .call { callee := .builtin .append, args := #[s, x], argTypes := #[29, 29] }) (base : Nat) (v : Value) (l : List (Option Addr × Nat × M.Q)) (hs : a.eval s = v) (hown : OwnQ w base v l)
    (ad : Addr) (c : Nat) (y : Option Addr × Nat × M.Q) (hx : a.eval x = .slice (some ad) 1 c) (hsrc : ∀ (j : Nat) u, (qc y)[j]? = some u → w.cell? (ad.add j) = some u) (hy : OwnS w base (.slice y.1 y.2.2.name.length y.2.1) y.2.2.name) (hbound : l.length ≤ 100000) (hbase : base ≤ w.heap.size)
    (h : ∀ v' w', OwnQ w' base v' (l ++ [y]) → w.grownBy w' v.ownBlock → K (a.put o.dst v') w') : if Region.wanted o (yielded ops a.tmps) = true then Oper.wp Tryz.prog o a w K Q else E := by
  have hw : Region.wanted o (yielded ops a.tmps) = true := by simp [Region.wanted, hgd]
  rw [if_pos hw]
  obtain ⟨v', w', hr, h2, h3⟩ := run_append_Q o.type hown ad c y hsrc hy hbound hbase
  unfold Oper.wp execOp
  simp only [ho, resolve, invoke, builtin, Sem.run_bind, Sem.run_pure, Result.andThen_ok, List.map_toArray, List.map_cons, List.map_nil, hs, hx, hr]
  exact h v' w' h2 h3
set_option maxRecDepth 5000 in
theorem records_none (T : Nat) (f : Value) (w : World) : Calls Tryz.prog 35 #[.pointer (some ⟨T, 0, none⟩), .int .u16 0, f] w fun e w' => e = .returned (.slice none 0 0) ∧ w = w' := by
  go_enter Tryz.func35, Tryz.ntmps35
  go_wp2
  go_loopw [6, 9] (fun o i wr => o = .slice none 0 0 ∧ i = .int .u16 0 ∧ wr = w) (fun _ _ _ => 0)
  case atStart => exact ⟨rfl, rfl, rfl⟩
  case round =>
    obtain ⟨rfl, rfl, rfl⟩ := hrel
    go_wp2
    go_ret
    exact ⟨rfl, rfl⟩
namespace M
def g1 (f : Nat) : Bool := bits .and .u16 (f : Int) 32768 != 0
def g3 (f : Nat) : Bool := bits .and .u16 (f : Int) 1024 != 0
def g4 (f : Nat) : Bool := bits .and .u16 (f : Int) 512 != 0
def g5 (f : Nat) : Bool := bits .and .u16 (f : Int) 256 != 0
def g6 (f : Nat) : Bool := bits .and .u16 (f : Int) 128 != 0
def g2 (f : Nat) : Int := wrap64 (bits .and .u16 ((f : Int) / 2048) 15)
def g7 (f : Nat) : Int := wrap64 (bits .and .u16 (f : Int) 15)
end M
set_option maxHeartbeats 1600000 in
set_option maxRecDepth 5000 in
theorem setFlags_any (A f : Nat) (id d1 d2 d3 d4 d5 d6 d7 d8 d9 d10 d11 d12 d13 d14 : Value) (w : World) (hR : RowAt w A 32 #[id, d1, d2, d3, d4, d5, d6, d7, d8, d9, d10, d11, d12, d13, d14]) :
    Calls Tryz.prog 33 #[.pointer (some ⟨A, 0, none⟩), .int .u16 (f : Int)] w fun e w' => e = .returned (.tuple #[]) ∧ RowAt w' A 32 #[id, .bool (M.g1 f), .int .i64 (M.g2 f), .bool (M.g3 f), .bool (M.g4 f), .bool (M.g5 f), .bool (M.g6 f), .int .i64 (M.g7 f), d8, d9, d10, d11, d12, d13, d14] ∧ Mv A w w' := by
  have HR := hide hR
  have x1 : w.cell? ⟨A, 1, none⟩ = some d1 := hR.cell 1
  have x2 : w.cell? ⟨A, 2, none⟩ = some d2 := hR.cell 2
  have x3 : w.cell? ⟨A, 3, none⟩ = some d3 := hR.cell 3
  have x4 : w.cell? ⟨A, 4, none⟩ = some d4 := hR.cell 4
  have x5 : w.cell? ⟨A, 5, none⟩ = some d5 := hR.cell 5
  have x6 : w.cell? ⟨A, 6, none⟩ = some d6 := hR.cell 6
  have x7 : w.cell? ⟨A, 7, none⟩ = some d7 := hR.cell 7
  have f1 := hR.frozen 1
  have f2 := hR.frozen 2
  have f3 := hR.frozen 3
  have f4 := hR.frozen 4
  have f5 := hR.frozen 5
  have f6 := hR.frozen 6
  have f7 := hR.frozen 7
  clear hR
  go_enter Tryz.func33, Tryz.ntmps33
  go_wp2
  have RF := hide (((((((HR.out.set 1 (.bool (bits .and .u16 (f : Int) 32768 != 0))).set 2 (.int .i64 (wrap64 (bits .and .u16 ((f : Int) / 2048) 15)))).set 3 (.bool (bits .and .u16 (f : Int) 1024 != 0))).set 4 (.bool (bits .and .u16 (f : Int) 512 != 0))).set 5 (.bool (bits .and .u16 (f : Int) 256 != 0))).set 6 (.bool (bits .and .u16 (f : Int) 128 != 0))).set 7 (.int .i64 (wrap64 (bits .and .u16 (f : Int) 15))))
  have MF := hide ((((((((((((((Mv.refl A w).trans (Mv.set A 1 _ (.bool (bits .and .u16 (f : Int) 32768 != 0))))).trans (Mv.set A 2 _ (.int .i64 (wrap64 (bits .and .u16 ((f : Int) / 2048) 15)))))).trans (Mv.set A 3 _ (.bool (bits .and .u16 (f : Int) 1024 != 0))))).trans (Mv.set A 4 _ (.bool (bits .and .u16 (f : Int) 512 != 0))))).trans (Mv.set A 5 _ (.bool (bits .and .u16 (f : Int) 256 != 0))))).trans (Mv.set A 6 _ (.bool (bits .and .u16 (f : Int) 128 != 0))))).trans (Mv.set A 7 _ (.int .i64 (wrap64 (bits .and .u16 (f : Int) 15)))))
  simp [bodyPost, results, Tryz.results33, go_sem]
  exact ⟨by exact RF.out, by exact MF.out⟩
end Go.Proofs.YtpgebiopckmgbabGreat
