/- A range over a function whose rounds write into maps that the rounds made, at frames of one function of the program (out of stage 12's Lrp). -/
import Derived.Test.YtdldaphkiphpnaaGreatBwd
namespace Go.Proofs.YtdldaphkiphpnaaGreat
open Go Go.RowKit
/- what loops and deferred calls lie in: no cells, no maps, no iterators of maps -/
structure KeepsLp (B : Nat) (W W' : World) : Prop where
  size : W.heap.size ≤ W'.heap.size
  same : ∀ (k : Nat) (o : Obj), B ≤ k → W.heap[k]? = some o → o.isCells = false → o.isWalk = false → W'.heap[k]? = some o
set_option maxRecDepth 5000 in
theorem KeepsLp.refl (B : Nat) (W : World) : KeepsLp B W W := ⟨Nat.le_refl _, fun _ _ _ h _ _ => h⟩
set_option maxRecDepth 5000 in
theorem KeepsLp.trans {B : Nat} {X Y Z : World} (h : KeepsLp B X Y) (k : KeepsLp B Y Z) : KeepsLp B X Z := ⟨Nat.le_trans h.size k.size, fun i o hB hi ho hw => k.same i o hB (h.same i o hB hi ho hw) ho hw⟩
set_option maxRecDepth 5000 in
theorem KeepsLp.of_below {B : Nat} {W W' : World} (h : Below W.heap.size W W') : KeepsLp B W W' := ⟨h.size, fun k _ _ hk _ _ => (h.block k (Array.getElem?_eq_some_iff.1 hk).1).trans hk⟩
set_option maxRecDepth 5000 in
theorem KeepsLp.of_turn {B b : Nat} {W W' : World} (h : Turn b W W') : KeepsLp B W W' := ⟨Nat.le_of_eq h.size.symm, fun k o _ hk _ hw => by
  obtain ⟨es, c, hb⟩ := h.was
  refine (h.block k (fun e => ?_)).trans hk
  rw [e, hb] at hk; injection hk with hk; rw [← hk] at hw; cases hw⟩
def OwnLp {β : Type} (B : Nat) (I : β → World → Prop) : Prop :=
  ∀ s W W' row, I s W → W.grownBy W' row → (∀ r, row = some r → B ≤ r ∧ ∃ o : Obj, W.heap[r]? = some o ∧ o.isCells = false ∧ o.isWalk = false) → I s W'
set_option maxRecDepth 5000 in
theorem OwnLp.putObj {β : Type} {B : Nat} {I : β → World → Prop} (h : OwnLp B I) {s : β} {W : World} {l : Nat} {o : Obj} (o' : Obj) (hs : I s W) (hB : B ≤ l) (hl : W.heap[l]? = some o) (ho : o.isCells = false) (hw : o.isWalk = false) : I s (W.putObj l o') :=
  h s W _ (some l) hs (grownBy_putObj' W l o') (fun r e => by cases e; exact ⟨hB, o, hl, ho, hw⟩)
set_option maxRecDepth 5000 in
theorem OwnLp.alloc {β : Type} {B : Nat} {I : β → World → Prop} (h : OwnLp B I) {s : β} {W : World} (o : Obj) (hs : I s W) : I s (W.alloc o) :=
  h s W _ none hs (World.grownBy_alloc W o none) (fun r e => by cases e)
/- as wpIn under no fence, at frames of the function f alone -/
def wpF (f : FuncId) (P : Program) (c : Code) (Q : Exit → Act → World → Prop) (a : Act) (w : World) : Prop :=
  ∀ (b : Frame) (k : List Item) (cs : List Frame), b.roundOf = none → b.fn = f → ∃ e a' w', Q e a' w' ∧ ArrivesIn (Machine.fenced P Fence.wide) P (lone (b.atR a (.code c :: k)) cs w) b k cs e a' w'
set_option maxRecDepth 5000 in
theorem wpF_of_wpIn {f : FuncId} {n : Nat} {P : Program} {c : Code} {Q : Exit → Act → World → Prop} {a : Act} {w : World} (h : c.wpIn Fence.wide n P Q a w) : wpF f P c Q a w := fun b k cs hro _ => h b k cs hro trivial (room_wide _)
set_option maxRecDepth 5000 in
theorem wpF_mono {f : FuncId} {P : Program} {c : Code} {Q Q' : Exit → Act → World → Prop} {a : Act} {w : World} (h : wpF f P c Q a w) (hq : ∀ e a w, Q e a w → Q' e a w) : wpF f P c Q' a w := fun b k cs hro hb => by
  obtain ⟨e, a', w', h1, h2⟩ := h b k cs hro hb
  exact ⟨e, a', w', hq _ _ _ h1, h2⟩
set_option maxRecDepth 5000 in
theorem wpF_seq {f : FuncId} {n : Nat} {P : Program} {x y : Code} {Q : Exit → Act → World → Prop} {a : Act} {w : World} (h : x.wpIn Fence.wide n P (Exit.then (wpF f P y Q) Q) a w) : wpF f P (.seq x y) Q a w := fun b k cs hro hb => by
  obtain ⟨e, a₁, w₁, hq, harr⟩ := h b (.code y :: k) cs hro trivial (room_wide _)
  have one : StepsIn (Machine.fenced P Fence.wide) P (lone (b.atR a (.code (.seq x y) :: k)) cs w) (lone (b.atR a (.code x :: .code y :: k)) cs w) := .one (fenced_wide P _) stepR_seq
  cases e with
  | normal =>
    obtain ⟨e₂, a₂, w₂, hq₂, harr₂⟩ := hq b k cs hro hb
    exact ⟨e₂, a₂, w₂, hq₂, .of_steps (StepsIn.trans one harr) harr₂⟩
  | exit id => exact ⟨_, a₁, w₁, hq, .of_steps one (.pass (x := .code y) rfl (fun _ _ => .inl (by simp)) harr)⟩
  | goto l => exact ⟨_, a₁, w₁, hq, .of_steps one (.pass (x := .code y) rfl (fun _ _ => .inl (by simp)) harr)⟩
  | ret => exact ⟨_, a₁, w₁, hq, .of_steps one (.pass (x := .code y) rfl (fun _ _ => .inl (by simp)) harr)⟩
  | panic ch => exact ⟨_, a₁, w₁, hq, .of_steps one (.pass (x := .code y) rfl (fun _ _ => .inl (by simp)) harr)⟩
  | outgrown => exact ⟨_, a₁, w₁, hq, .of_steps one (.pass (x := .code y) rfl (fun _ _ => .inl (by simp)) harr)⟩
set_option maxRecDepth 5000 in
theorem wpF_seqF {f : FuncId} {P : Program} {x y : Code} {Q : Exit → Act → World → Prop} {a : Act} {w : World} (h : wpF f P x (Exit.then (wpF f P y Q) Q) a w) : wpF f P (.seq x y) Q a w := fun b k cs hro hb => by
  obtain ⟨e, a₁, w₁, hq, harr⟩ := h b (.code y :: k) cs hro hb
  have one : StepsIn (Machine.fenced P Fence.wide) P (lone (b.atR a (.code (.seq x y) :: k)) cs w) (lone (b.atR a (.code x :: .code y :: k)) cs w) := .one (fenced_wide P _) stepR_seq
  cases e with
  | normal =>
    obtain ⟨e₂, a₂, w₂, hq₂, harr₂⟩ := hq b k cs hro hb
    exact ⟨e₂, a₂, w₂, hq₂, .of_steps (StepsIn.trans one harr) harr₂⟩
  | exit id => exact ⟨_, a₁, w₁, hq, .of_steps one (.pass (x := .code y) rfl (fun _ _ => .inl (by simp)) harr)⟩
  | goto l => exact ⟨_, a₁, w₁, hq, .of_steps one (.pass (x := .code y) rfl (fun _ _ => .inl (by simp)) harr)⟩
  | ret => exact ⟨_, a₁, w₁, hq, .of_steps one (.pass (x := .code y) rfl (fun _ _ => .inl (by simp)) harr)⟩
  | panic ch => exact ⟨_, a₁, w₁, hq, .of_steps one (.pass (x := .code y) rfl (fun _ _ => .inl (by simp)) harr)⟩
  | outgrown => exact ⟨_, a₁, w₁, hq, .of_steps one (.pass (x := .code y) rfl (fun _ _ => .inl (by simp)) harr)⟩
/- a block that is left at its end, or by a panic -/
def BP (Q : Exit → Act → World → Prop) : Exit → Act → World → Prop
  | .normal, a, w => Q .normal a w
  | .panic ch, a, w => Q (.panic ch) a w
  | _, _, _ => False
set_option maxRecDepth 5000 in
theorem wpF_block {f : FuncId} {P : Program} {id : Nat} {c : Code} {Q : Exit → Act → World → Prop} {a : Act} {w : World} (h : wpF f P c (BP Q) a w) : wpF f P (.block id c) Q a w := fun b k cs hro hb => by
  obtain ⟨e, a₁, w₁, hq, harr⟩ := h b (.inBlock id :: k) cs hro hb
  have one : StepsIn (Machine.fenced P Fence.wide) P (lone (b.atR a (.code (.block id c) :: k)) cs w) (lone (b.atR a (.code c :: .inBlock id :: k)) cs w) := .one (fenced_wide P _) stepR_block
  cases e with
  | normal => exact ⟨.normal, a₁, w₁, hq, StepsIn.trans one (StepsIn.trans harr (.one (fenced_wide P _) stepR_inBlock))⟩
  | panic ch => exact ⟨.panic ch, a₁, w₁, hq, .of_steps one harr⟩
  | exit id => exact hq.elim
  | goto l => exact hq.elim
  | ret => exact hq.elim
  | outgrown => exact hq.elim
/- the call of f, out of its body at frames of f -/
set_option maxRecDepth 5000 in
theorem calls_of_wpF {f : FuncId} {n : Nat} {P : Program} {fn : Func} {c : Code} {args : Array Value} {w : World} {R : Ending → World → Prop} (hf : P.funcs[f]? = some fn) (hb : fn.body = some c)
    (h : wpF f P c (bodyPostM Fence.wide n P fn R) { tmps := args ++ Array.replicate (fn.ntmps - args.size) undef, defers := [] } w) : CallsIn Fence.wide n P f args w R := by
  refine ⟨trivial, fun cs hr => ?_⟩
  obtain ⟨b, hbe⟩ : ∃ b : Frame, b = { (default : Frame) with fn := f, kind := .normal, roundOf := none } := ⟨_, rfl⟩
  have henter : Frame.enter P f args .normal = b.atR { tmps := args ++ Array.replicate (fn.ntmps - args.size) undef, defers := [] } [.code c] := by
    rw [hbe]; simp [Frame.enter, Frame.atR, hf, hb]
  obtain ⟨e, a', w', hq, harr⟩ := h b [] cs (by rw [hbe]) (by rw [hbe])
  rw [← henter] at harr
  subst hbe
  cases e with
  | normal =>
    obtain ⟨e', w'', fr', hR, hs, hfn, hl⟩ := leaves_stepsInM (F := Fence.wide) (n := n) a'.defers .returning w' { ({ (default : Frame) with fn := f, kind := .normal, roundOf := none } : Frame).atR a' [] with mode := .returning } cs rfl rfl rfl hf rfl trivial hr hq
    exact ⟨e', w'', fr', hR, ComesIn.of_steps (StepsIn.trans harr (.one (fenced_wide P _) (stepR_end rfl))) hs, hfn, hl⟩
  | panic chain =>
    obtain ⟨todo, hs₀⟩ := harr
    obtain ⟨e', w'', fr', hR, hs, hfn, hl⟩ := leaves_stepsInM (F := Fence.wide) (n := n) a'.defers (.panicking chain) w' { ({ (default : Frame) with fn := f, kind := .normal, roundOf := none } : Frame).atR a' todo with mode := .panicking chain } cs rfl rfl rfl hf rfl trivial hr hq
    exact ⟨e', w'', fr', hR, ComesIn.of_steps hs₀ hs, hfn, hl⟩
  | ret =>
    obtain ⟨todo, hs₀⟩ := harr.1 rfl
    obtain ⟨e', w'', fr', hR, hs, hfn, hl⟩ := leaves_stepsInM (F := Fence.wide) (n := n) a'.defers .returning w' { ({ (default : Frame) with fn := f, kind := .normal, roundOf := none } : Frame).atR a' todo with mode := .returning } cs rfl rfl rfl hf rfl trivial hr hq
    exact ⟨e', w'', fr', hR, ComesIn.of_steps hs₀ hs, hfn, hl⟩
  | exit id => exact hq.elim
  | goto l => exact hq.elim
  | outgrown =>
    rcases harr with hk | ho
    · cases hk
    · exact ⟨.outgrown, w', Frame.enter P f args .normal, hq, ho, by rw [henter]; rfl, trivial⟩
/- how a round may be left: it goes on, or it panics -/
def roundP (P : Program) (l : Nat) (R : Ending → World → Prop) : Exit → Act → World → Prop
  | .normal, _, w => ∃ v w', (Instr.endRound l none).run P w = .ok v w' ∧ R (.returned v) w'
  | .panic ch, a, w => a.defers = [] ∧ R (.panicked ch) w
  | _, _, _ => False
set_option maxRecDepth 5000 in
theorem roundIn_two {n : Nat} {P : Program} {l : Nat} {f : FuncId} {fn : Func} {tmps : Array Value} {assign body : Code} {w : World} {R : Ending → World → Prop} (hf : P.funcs[f]? = some fn)
    (h : assign.wpIn (Fence.wide.inRound l) n P (Exit.then (fun a₁ w₁ => ∃ w₂, (Instr.beginRound l).run P w₁ = .ok () w₂ ∧ body.wpIn (Fence.wide.inRound l) n P (roundP P l R) a₁ w₂) (fun _ _ _ => False)) { tmps := tmps, defers := [] } w) :
    RoundIn Fence.wide n P l f tmps assign body w R := by
  refine ⟨trivial, fun c cs hr => ?_⟩
  obtain ⟨b, hbe⟩ : ∃ b : Frame, b = { (default : Frame) with fn := f, kind := .normal, roundOf := some l } := ⟨_, rfl⟩
  have hb0 : Frame.round l f tmps assign body .normal = b.atR { tmps := tmps, defers := [] } [.code assign, .beginRound, .code body] := by
    rw [hbe]; simp [Frame.round, Frame.atR]
  have hro : b.roundOf = some l := by rw [hbe]
  have hk : b.kind = .normal := by rw [hbe]
  have hfn : b.fn = f := by rw [hbe]
  have hany : ∀ m, (Fence.wide.inRound l).room m := fun m => room_wide m
  obtain ⟨e, a₁, w₁, hq, harr⟩ := h b [.beginRound, .code body] (c :: cs) hro trivial (hany _)
  rw [← hb0] at harr
  cases e with
  | normal =>
    obtain ⟨w₂, hbr, hbody⟩ := hq
    have s1 : StepsIn (Machine.fenced P (Fence.wide.inRound l)) P (lone (b.atR a₁ [.beginRound, .code body]) (c :: cs) w₁) (lone (b.atR a₁ [.code body]) (c :: cs) w₂) := .one (fenced_wide P _) (stepR_beginRound hro hbr)
    obtain ⟨e₂, a₂, w₃, hq₂, harr₂⟩ := hbody b [] (c :: cs) hro trivial (hany _)
    cases e₂ with
    | normal =>
      obtain ⟨v, w₄, hend, hR⟩ := hq₂
      exact ⟨.returned v, w₄, hR, (StepsIn.trans harr s1).trans (StepsIn.trans harr₂ (.one (fenced_wide P _) (stepR_round_end hro hk hend)))⟩
    | panic ch =>
      obtain ⟨hd, hR⟩ := hq₂
      obtain ⟨todo, hs⟩ := harr₂
      refine ⟨.panicked ch, w₃, hR, (StepsIn.trans harr s1).trans (StepsIn.trans hs (.one (fenced_wide P _) ?_))⟩
      exact step_leave_panicked ⟨rfl, hd, fn, by show P.funcs[b.fn]? = _; rw [hfn]; exact hf⟩
    | ret => exact hq₂.elim
    | exit id => exact hq₂.elim
    | goto t => exact hq₂.elim
    | outgrown => exact hq₂.elim
  | exit id => exact hq.elim
  | goto t => exact hq.elim
  | ret => exact hq.elim
  | panic chain => exact hq.elim
  | outgrown => exact hq.elim
/- an iterator's contract: its rounds go on till it is done, or one falls -/
def SeqTwo (n : Nat) (P : Program) (gf : Nat) (lb : Array Value) (encs : Nat → Array Value) (Kp : World → World → Prop) (S ok : List Nat → Prop) (w0 : World) : Prop :=
  ∀ (l : Nat) (J : List Nat → World → Prop) (Jd : List PanicEntry → World → Prop) (W : World), Below w0.heap.size w0 W → (∀ pre A, J pre A → J pre A.drew) →
    (∀ pre x W1, J pre W1 → ok pre → YieldAt Fence.wide (n - 1) P l (encs x) W1 fun e W' => (e = .returned (.bool true) ∧ J (pre ++ [x]) W' ∧ Kp W1 W') ∨ (∃ ch, e = .panicked ch ∧ Jd ch W')) →
    J [] W →
    CallsIn Fence.wide n P gf (#[.func (.yield l) #[] #[]] ++ lb) W fun e W' => ((∃ v, e = .returned v) ∧ ∃ xs, S xs ∧ J xs W') ∨ (∃ ch, e = .panicked ch ∧ Jd ch W')
/- how the body of a round may be left -/
def twoPost (B : Nat) (Kp : World → World → Prop) (I : List Nat → World → Prop) (Id : List PanicEntry → World → Prop) (xs : List Nat) (W : World) : Exit → Act → World → Prop
  | .normal, _, W' => KeepsLp B W W' ∧ Kp W W' ∧ I xs W'
  | .panic ch, a, W' => a.defers = [] ∧ KeepsLp B W W' ∧ Id ch W'
  | _, _, _ => False
set_option maxRecDepth 5000 in
theorem wpF_range {f : FuncId} {fn : Func} {n : Nat} {P : Program} {g : Operand} {ps : Array Tmp} {assign body : Code} {Q : Exit → Act → World → Prop} {a : Act} {w : World} (hf : P.funcs[f]? = some fn)
    {gf : Nat} {lb : Array Value} (hg : a.eval g = .func (.func gf) #[] lb) (eg : ∀ args w, (callFunc gf args).run P w = .ok (.enter gf args) w)
    {encs : Nat → Array Value} {Kp : World → World → Prop} {S ok : List Nat → Prop} {w0 : World} (hseq : SeqTwo n P gf lb encs Kp S ok w0)
    (hKt : ∀ {A B C : World}, Kp A B → Kp B C → Kp A C) (hKb : ∀ (W : World) (l : Nat) (o o' : Obj), w.heap.size ≤ l → W.heap[l]? = some o → o.isCells = false → o.isWalk = false → Kp W (W.putObj l o')) (hb0 : Below w0.heap.size w0 w) (hps : ∀ x, (encs x).size = ps.size)
    (I : List Nat → World → Prop) (Id : List PanicEntry → World → Prop) (hI : OwnLp w.heap.size I) (h0 : I [] w) (a₁ : Nat → Act)
    (hassign : ∀ (l : Nat) (x : Nat) (W : World) (K : Act → World → Prop), K (a₁ x) W → assign.wpIn (Fence.wide.inRound l) (n - 1) P (Exit.then K (fun _ _ _ => False)) { tmps := (ps.zip (encs x)).foldl (fun t (p, v) => t.setIfInBounds p v) a.tmps, defers := [] } W)
    (hbody : ∀ (l : Nat) (pre : List Nat) (x : Nat) (W : World), I pre W → ok pre → body.wpIn (Fence.wide.inRound l) (n - 1) P (twoPost w.heap.size Kp I Id (pre ++ [x]) W) (a₁ x) W)
    (hdone : ∀ (D : Nat) (xs : List Nat) (W : World), w.heap.size ≤ D → S xs → I xs W → W.heap[D]? = some (.deferred (some [])) → Q .normal { a with defers := { target := .collected D, args := #[] } :: a.defers } W)
    (hfell : ∀ (D : Nat) (ch : List PanicEntry) (W : World), w.heap.size ≤ D → Id ch W → W.heap[D]? = some (.deferred (some [])) → Q (.panic ch) { a with defers := { target := .collected D, args := #[] } :: a.defers } W) :
    wpF f P (.rangeFunc g ps assign body) Q a w := fun b k cs hro hb => by
  obtain ⟨rec, hrec⟩ : ∃ rec : LoopState → Option Code → Loop, rec = fun st pe => { state := st, pending := pe, fn := f, tmps := a.tmps, params := ps, assign := assign, body := body, defers := w.heap.size } := ⟨_, rfl⟩
  obtain ⟨W1, hW1⟩ : ∃ W1, (w.alloc (.deferred (some []))).alloc (.loop (rec .ready none)) = W1 := ⟨_, rfl⟩
  have hD1 : W1.heap[w.heap.size]? = some (.deferred (some [])) := by
    rw [← hW1]; exact (Below.heap_alloc _ _ _ (by simp)).trans (World.alloc_heap_new w _)
  have hL1 : W1.heap[w.heap.size + 1]? = some (.loop (rec .ready none)) := by
    rw [← hW1]
    have := World.alloc_heap_new (w.alloc (.deferred (some []))) (.loop (rec .ready none))
    rwa [World.size_alloc] at this
  have hI1 : I [] W1 := by rw [← hW1]; exact hI.alloc _ (hI.alloc _ h0)
  have hB1 : Below w0.heap.size w0 W1 := by
    rw [← hW1]; exact (hb0.alloc hb0.size _).alloc (by simp; have := hb0.size; omega) _
  have he : (Instr.enterLoop b.fn a.tmps ps assign body b.roundOf).run P w = .ok (w.heap.size + 1, [{ target := .collected w.heap.size, args := #[] }]) W1 := by
    rw [hro, hb, ← hW1, hrec]; exact run_enterLoop_outer _ _ _ _ _
  have hres : (resolve a.eval (rangeCall g (w.heap.size + 1)) 0).run P W1 = .ok { target := .fn (.func gf) lb, args := #[.func (.yield (w.heap.size + 1)) #[] #[]] } W1 := by
    simp only [resolve, hg]
    simp [go_sem]
  have hinv : (invoke (.fn (.func gf) lb) #[.func (.yield (w.heap.size + 1)) #[] #[]]).run P W1 = .ok (.enter gf (#[.func (.yield (w.heap.size + 1)) #[] #[]] ++ lb)) W1 := by
    simp [invoke, go_sem, eg]
  have henter := stepR_rangeFunc (P := P) (b := b) (a := a) (k := k) (cs := cs) (w := w) he hres hinv
  have hdr : ∀ (pre : List Nat) (A : World), I pre A → I pre A.drew := fun pre A hA => hI pre A _ none hA ⟨rfl, rfl, rfl, Nat.le_refl _, fun _ _ _ => rfl⟩ (fun r e => by cases e)
  have hcall := hseq (w.heap.size + 1)
    (fun pre W => I pre W ∧ W.heap[w.heap.size + 1]? = some (.loop (rec .ready none)) ∧ W.heap[w.heap.size]? = some (.deferred (some [])))
    (fun ch W => Id ch W ∧ W.heap[w.heap.size]? = some (.deferred (some []))) W1 hB1 (fun pre A hA => ⟨hdr pre A hA.1, hA.2⟩) (by
      rintro pre x W ⟨hi, hl, hd⟩ hok
      have hlt : w.heap.size + 1 < W.heap.size := (Array.getElem?_eq_some_iff.1 hl).1
      have hy := run_yield (P := P) (args := encs x) hl (by rw [hrec]; exact hps x)
      rw [hrec] at hy
      refine ⟨f, _, assign, body, hy, roundIn_two hf (hassign _ x W _ ⟨_, run_beginRound hl (by rw [hrec]), ?_⟩)⟩
      obtain ⟨W2, hW2⟩ : ∃ W2, W.putObj (w.heap.size + 1) (.loop { rec .ready none with state := .busy }) = W2 := ⟨_, rfl⟩
      have hl2 : W2.heap[w.heap.size + 1]? = some (.loop { rec .ready none with state := .busy }) := by rw [← hW2]; exact World.putObj_heap_same hlt
      have hd2 : W2.heap[w.heap.size]? = some (.deferred (some [])) := by rw [← hW2]; exact (World.putObj_heap_other (by omega)).trans hd
      have hk2 : Kp W W2 := by rw [← hW2]; exact hKb _ _ _ _ (by omega) hl rfl rfl
      have hi2 : I pre W2 := by rw [← hW2]; exact hI.putObj _ hi (by omega) hl rfl rfl
      rw [hW2]
      refine wpIn_mono (hbody _ pre x W2 hi2 hok) ?_
      rintro e a3 W3 hp
      cases e with
      | normal =>
        obtain ⟨hk3, hkp3, hi3⟩ := hp
        have hl3 := hk3.same _ _ (by omega) hl2 rfl rfl
        have hd3 := hk3.same _ _ (Nat.le_refl _) hd2 rfl rfl
        have hlt3 := (Array.getElem?_eq_some_iff.1 hl3).1
        have hr := run_endRound (P := P) none hl3
        refine ⟨_, _, hr, Or.inl ⟨rfl, ⟨hI.putObj _ hi3 (by omega) hl3 rfl rfl, ?_, (World.putObj_heap_other (by omega)).trans hd3⟩, hKt (hKt hk2 hkp3) (hKb _ _ _ _ (by omega) hl3 rfl rfl)⟩⟩
        rw [World.putObj_heap_same hlt3, hrec]; rfl
      | panic ch =>
        obtain ⟨ha, hk3, hi3⟩ := hp
        exact ⟨ha, Or.inr ⟨ch, rfl, hi3, hk3.same _ _ (Nat.le_refl _) hd2 rfl rfl⟩⟩
      | ret => exact hp.elim
      | exit id => exact hp.elim
      | goto t => exact hp.elim
      | outgrown => exact hp.elim) ⟨hI1, hL1, hD1⟩
  obtain ⟨e, w₃, fr, hR, hsteps, hfn, hleave⟩ := hcall.2 (b.atR { a with defers := [{ target := .collected w.heap.size, args := #[] }] ++ a.defers } (.inRangeFunc (w.heap.size + 1) :: k) :: cs) (room_wide _)
  have one : StepsIn (Machine.fenced P Fence.wide) P (lone (b.atR a (.code (.rangeFunc g ps assign body) :: k)) cs w) _ := .one (fenced_wide P _) henter
  rcases hR with ⟨⟨v, rfl⟩, xs, hS, hi, hl, hd⟩ | ⟨ch, rfl, hi, hd⟩
  · have hend0 := run_endLoop (P := P) hl (by rw [hrec]; simp)
    obtain ⟨W4, hW4⟩ : ∃ W4, W4 = w₃.putObj (w.heap.size + 1) (.loop { rec .ready none with state := .exhausted }) := ⟨_, rfl⟩
    have hend : (Instr.endLoop (w.heap.size + 1)).run P w₃ = .ok none W4 := by rw [hend0, hW4, hrec]
    have hi4 : I xs W4 := by rw [hW4]; exact hI.putObj _ hi (by omega) hl rfl rfl
    have hd4 : W4.heap[w.heap.size]? = some (.deferred (some [])) := by rw [hW4]; exact (World.putObj_heap_other (by omega)).trans hd
    refine ⟨.normal, { a with defers := { target := .collected w.heap.size, args := #[] } :: a.defers }, W4, hdone _ xs _ (Nat.le_refl _) hS hi4 hd4, ?_⟩
    refine StepsIn.trans one (StepsIn.trans hsteps (.head (fenced_wide P _) ?_ (.one (fenced_wide P _) (stepR_endRangeFunc hend))))
    rw [← finish_atR_inRangeFunc (w.heap.size + 1) v]; exact step_leave_returned hleave
  · refine ⟨.panic ch, { a with defers := { target := .collected w.heap.size, args := #[] } :: a.defers }, w₃, hfell _ ch _ (Nat.le_refl _) hi hd, .inRangeFunc (w.heap.size + 1) :: k, ?_⟩
    refine StepsIn.trans one (StepsIn.trans hsteps (.one (fenced_wide P _) ?_))
    rw [← Frame.raise_atR]; exact step_leave_panicked hleave
end Go.Proofs.YtdldaphkiphpnaaGreat
