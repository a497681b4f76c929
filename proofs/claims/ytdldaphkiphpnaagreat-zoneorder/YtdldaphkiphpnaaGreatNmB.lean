/- Rows of memory; name.Lower; signethelp's Name, RightName; the reference's Wire, Lower, Open (texts of stage 3, at this seat). -/
import Derived.Test.YtdldaphkiphpnaaGreatNmA
import Derived.BigRegion
import Derived.Recover
import Derived.Laws.OwnMore
/- stage3/Rd -/
/- name.reading in memory: what has been read of a text; the steps of reading, plain. -/
namespace Go.Proofs.YtdldaphkiphpnaaGreat
open Go.RowKit
namespace N
structure St where
  n : List (List UInt8)
  l : List UInt8
  esc : Bool
  d : Nat
  num : Nat
def St.zero : St := ⟨[], [], false, 0, 0⟩
def dig (r : Nat) : Bool := decide (48 ≤ r ∧ r ≤ 57)
def endL (st : St) : Option St := if st.l = [] then none else some ⟨st.n ++ [st.l], [], st.esc, st.d, st.num⟩
def stpD (st : St) (r : Nat) : Option St :=
  if dig r = false then none
  else if st.d + 1 < 3 then some ⟨st.n, st.l, st.esc, st.d + 1, st.num * 10 + (r - 48)⟩
  else if 255 < st.num * 10 + (r - 48) then none
  else some ⟨st.n, st.l ++ [UInt8.ofNat (st.num * 10 + (r - 48))], false, 0, 0⟩
/- a rune r of the bytes p -/
def stpR (st : St) (r : Nat) (p : List UInt8) : Option St :=
  if st.esc = true then (if 0 < st.d ∨ dig r = true then stpD st r else some ⟨st.n, st.l ++ p, false, st.d, st.num⟩)
  else if r = 92 then some ⟨st.n, st.l, true, st.d, st.num⟩
  else if r = 46 then endL st
  else some ⟨st.n, st.l ++ p, st.esc, st.d, st.num⟩
def stp (st : St) (c : UInt8) : Option St := stpR st c.toNat [c]
def run : St → List UInt8 → Option St
  | st, [] => some st
  | st, c :: r => (stp st c).bind (run · r)
def WF (st : St) : Prop := (st.d = 0 ∧ st.num = 0) ∨ (st.esc = true ∧ st.d = 1 ∧ st.num ≤ 9) ∨ (st.esc = true ∧ st.d = 2 ∧ st.num ≤ 99)
set_option maxRecDepth 5000 in
theorem WF.bounds {st : St} (h : WF st) : st.d ≤ 2 ∧ st.num ≤ 99 := by
  rcases h with ⟨h1, h2⟩ | ⟨_, h1, h2⟩ | ⟨_, h1, h2⟩ <;> omega
set_option maxRecDepth 5000 in
theorem dig_true {r : Nat} (h : dig r = true) : 48 ≤ r ∧ r ≤ 57 := of_decide_eq_true h
set_option maxRecDepth 5000 in
theorem dig_false {r : Nat} (h : dig r = false) : ¬ (48 ≤ r ∧ r ≤ 57) := of_decide_eq_false h
set_option maxRecDepth 5000 in
theorem WF.stp {st st' : St} (h : WF st) {r : Nat} {p : List UInt8} (hs : stpR st r p = some st') : WF st' := by
  unfold stpR at hs
  split at hs
  · rename_i he
    split at hs
    · unfold stpD at hs
      split at hs
      · cases hs
      · rename_i hd
        have hd2 := dig_true (by simpa using hd)
        split at hs
        · cases hs
          rcases h with ⟨h1, h2⟩ | ⟨_, h1, h2⟩ | ⟨_, h1, h2⟩
          · exact Or.inr (Or.inl ⟨he, by simp [h1], by simp [h2]; omega⟩)
          · exact Or.inr (Or.inr ⟨he, by simp [h1], by simp; omega⟩)
          · omega
        · split at hs
          · cases hs
          · cases hs; exact Or.inl ⟨rfl, rfl⟩
    · rename_i hd
      cases hs
      rcases h with h | ⟨_, h1, _⟩ | ⟨_, h1, _⟩
      · exact Or.inl h
      · exfalso; exact hd (Or.inl (by omega))
      · exfalso; exact hd (Or.inl (by omega))
  · rename_i he
    have h0 : st.d = 0 ∧ st.num = 0 := by
      rcases h with h | ⟨h1, _⟩ | ⟨h1, _⟩
      · exact h
      · exact absurd h1 he
      · exact absurd h1 he
    split at hs
    · cases hs; exact Or.inl h0
    · split at hs
      · unfold endL at hs
        split at hs
        · cases hs
        · cases hs; exact Or.inl h0
      · cases hs; exact Or.inl h0
set_option maxRecDepth 5000 in
theorem run_app (st : St) (a b : List UInt8) : run st (a ++ b) = (run st a).bind (run · b) := by
  induction a generalizing st with
  | nil => rfl
  | cons c a ih =>
    show (stp st c).bind (run · (a ++ b)) = ((stp st c).bind (run · a)).bind (run · b)
    cases h : stp st c with
    | none => rfl
    | some st' => exact ih st'
set_option maxRecDepth 5000 in
theorem run_one (st : St) (c : UInt8) : run st [c] = stp st c := by
  show (stp st c).bind (run · []) = _
  cases stp st c <;> rfl
/- bytes of no rune of ASCII: they are themselves -/
set_option maxRecDepth 5000 in
theorem run_plain : ∀ (p : List UInt8) (st : St), st.esc = false → (∀ c ∈ p, 128 ≤ c.toNat) → run st p = some ⟨st.n, st.l ++ p, st.esc, st.d, st.num⟩
  | [], st, _, _ => by simp [run]
  | c :: p, st, he, hp => by
    have hc := hp c (by simp)
    have h1 : stp st c = some ⟨st.n, st.l ++ [c], st.esc, st.d, st.num⟩ := by
      unfold stp stpR; rw [if_neg (by simp [he]), if_neg (by omega), if_neg (by omega)]
    show (stp st c).bind (run · p) = _
    rw [h1]
    show run _ p = _
    rw [run_plain p ⟨st.n, st.l ++ [c], st.esc, st.d, st.num⟩ he (fun x hx => hp x (by simp [hx]))]
    simp
set_option maxRecDepth 5000 in
theorem stpR_high (st : St) (r : Nat) (p : List UInt8) (hr : 128 ≤ r) (hp : ∀ c ∈ p, 128 ≤ c.toNat) (h0 : p ≠ []) : stpR st r p = run st p := by
  have hd : dig r = false := decide_eq_false (by omega)
  cases p with
  | nil => exact absurd rfl h0
  | cons c p =>
    have hc := hp c (by simp)
    have hdc : dig c.toNat = false := decide_eq_false (by omega)
    have hp' : ∀ x ∈ p, 128 ≤ x.toNat := fun x hx => hp x (by simp [hx])
    show _ = (stp st c).bind (run · p)
    unfold stp stpR
    by_cases he : st.esc = true
    · rw [if_pos he, if_pos he]
      by_cases h1 : 0 < st.d
      · rw [if_pos (Or.inl h1), if_pos (Or.inl h1)]
        unfold stpD; rw [if_pos hd, if_pos hdc]; rfl
      · rw [if_neg (by simp [hd]; omega), if_neg (by simp [hdc]; omega)]
        show _ = run _ p
        rw [run_plain p _ rfl hp']
        simp
    · rw [if_neg he, if_neg he, if_neg (by omega), if_neg (by omega), if_neg (by omega), if_neg (by omega)]
      show _ = run _ p
      rw [run_plain p _ (by simpa using he) hp']
      simp
def fin (st : St) : Option (List (List UInt8)) := if st.esc = true then none else if st.l ≠ [] ∨ st.n = [] then (endL st).map (·.n) else some st.n
def rd (bs : List UInt8) : Option (List (List UInt8)) := if bs = [46] then some [] else (run St.zero bs).bind fin
/- how much is read -/
def Room (k : Nat) (st : St) : Prop := st.n.length + st.l.length ≤ k ∧ ∀ l ∈ st.n, l.length ≤ k
set_option maxRecDepth 5000 in
theorem Room.stp {k : Nat} {st st' : St} (h : Room k st) {r : Nat} {p : List UInt8} (hp : 1 ≤ p.length) (hs : stpR st r p = some st') : Room (k + p.length) st' := by
  have hr : ∀ l ∈ st.n, l.length ≤ k + p.length := fun l hl => by have := h.2 l hl; omega
  have h1 := h.1
  unfold stpR at hs
  split at hs
  · split at hs
    · unfold stpD at hs
      split at hs
      · cases hs
      · split at hs
        · cases hs; exact ⟨by simp; omega, hr⟩
        · split at hs
          · cases hs
          · cases hs; exact ⟨by simp; omega, hr⟩
    · cases hs; exact ⟨by simp; omega, hr⟩
  · split at hs
    · cases hs; exact ⟨by simp; omega, hr⟩
    · split at hs
      · unfold endL at hs
        split at hs
        · cases hs
        · cases hs
          refine ⟨by simp; omega, fun l hl => ?_⟩
          rcases List.mem_append.1 hl with h2 | h2
          · exact hr l h2
          · rw [List.mem_singleton.1 h2]; omega
      · cases hs; exact ⟨by simp; omega, hr⟩
end N
/- a row of memory -/
def RowAt (wr : World) (g : Nat) (t : TypeId) (c : Array Value) : Prop := wr.heap[g]? = some (.cells c t (0, 0))
set_option maxRecDepth 5000 in
theorem RowAt.cell {wr : World} {g : Nat} {t : TypeId} {c : Array Value} (h : RowAt wr g t c) (j : Nat) : wr.cell? ⟨g, j, none⟩ = c[j]? := cell_of_row wr g j c t (0, 0) h
set_option maxRecDepth 5000 in
theorem RowAt.frozen {wr : World} {g : Nat} {t : TypeId} {c : Array Value} (h : RowAt wr g t c) (j : Nat) : wr.frozen? ⟨g, j, none⟩ = false := frozen_of_row wr g j c t h
set_option maxRecDepth 5000 in
theorem RowAt.set {wr : World} {g : Nat} {t : TypeId} {c : Array Value} (h : RowAt wr g t c) (j : Nat) (v : Value) : RowAt (wr.setCell ⟨g, j, none⟩ v) g t (c.setIfInBounds j v) := heap_setCell_same wr g j c t v h
set_option maxRecDepth 5000 in
theorem RowAt.lt {w : World} {g : Nat} {t : TypeId} {c : Array Value} (h : RowAt w g t c) : g < w.heap.size := (Array.getElem?_eq_some_iff.1 h).1
set_option maxRecDepth 5000 in
theorem RowAt.below {w w' : World} {B g : Nat} {t : TypeId} {c : Array Value} (h : RowAt w g t c) (hb : Below B w w') (hg : g < B) : RowAt w' g t c := by
  unfold RowAt; rw [hb.block g hg]; exact h
set_option maxRecDepth 5000 in
theorem RowAt.alloc {w : World} {g : Nat} {t : TypeId} {c : Array Value} (h : RowAt w g t c) (o : Obj) : RowAt (w.alloc o) g t c := by
  unfold RowAt; rw [Below.heap_alloc _ _ _ h.lt]; exact h
set_option maxRecDepth 5000 in
theorem RowAt.new (w : World) (t : TypeId) (c : Array Value) : RowAt (w.alloc (.cells c t)) w.heap.size t c := heap_alloc_last w _
/- rows of other types are other rows -/
set_option maxRecDepth 5000 in
theorem own_ne {w : World} {B e n T t : Nat} {v : Value} {xs : List Value} {c : Array Value} (h : w.ownsRow B e 1 v n xs) (hT : RowAt w T t c) (hne : t ≠ e) : some T ≠ v.ownBlock := by
  intro e1
  rcases h.2 with ⟨rfl, _⟩ | ⟨g, cap, cur, rfl, _, hg, _⟩
  · simp [Value.ownBlock] at e1
  · simp [Value.ownBlock] at e1
    subst e1
    unfold RowAt at hT
    rw [hT] at hg
    simp at hg
    exact hne hg.2
set_option maxRecDepth 5000 in
theorem own_set {w : World} {B e n T t : Nat} {v : Value} {xs : List Value} {c : Array Value} (h : w.ownsRow B e 1 v n xs) (hT : RowAt w T t c) (hne : t ≠ e) (j : Nat) (x : Value) : (w.setCell ⟨T, j, none⟩ x).ownsRow B e 1 v n xs := by
  have h1 := own_ne h hT hne
  refine ⟨h.1, ?_⟩
  rcases h.2 with h2 | ⟨g, cap, cur, rfl, h3, hg, h4⟩
  · exact Or.inl h2
  · refine Or.inr ⟨g, cap, cur, rfl, h3, ?_, h4⟩
    rw [heap_setCell_other _ _ _ _ (fun e1 => h1 (by simp [Value.ownBlock, e1]))]
    exact hg
set_option maxRecDepth 5000 in
theorem row_grown {w w' : World} {B e n T t : Nat} {v : Value} {xs : List Value} {c : Array Value} (h : w.ownsRow B e 1 v n xs) (hT : RowAt w T t c) (hne : t ≠ e) (hg : w.grownBy w' v.ownBlock) : RowAt w' T t c := by
  unfold RowAt; rw [hg.block T hT.lt (own_ne h hT hne)]; exact hT
set_option maxRecDepth 5000 in
theorem own_grown {w w' : World} {B e e' n n' : Nat} {v v' : Value} {xs xs' : List Value} (h : w.ownsRow B e 1 v n xs) (h' : w.ownsRow B e' 1 v' n' xs') (hne : e' ≠ e) (hg : w.grownBy w' v.ownBlock) : w'.ownsRow B e' 1 v' n' xs' := by
  refine h'.kept hg ?_
  rcases h'.2 with ⟨rfl, _⟩ | ⟨g, cap, cur, rfl, _, hgg, _⟩
  · exact Or.inl rfl
  · right
    exact own_ne h hgg hne
/- what goes through a text's runes is left alone -/
def Keeps (w w' : World) : Prop := ∀ (K : Nat) (s : ByteArray) (pos : Nat), w.heap[K]? = some (.stringIter s pos) → w'.heap[K]? = some (.stringIter s pos)
set_option maxRecDepth 5000 in
theorem Keeps.refl (w : World) : Keeps w w := fun _ _ _ h => h
set_option maxRecDepth 5000 in
theorem Keeps.trans {w w' w'' : World} (h : Keeps w w') (h' : Keeps w' w'') : Keeps w w'' := fun K s pos hk => h' K s pos (h K s pos hk)
set_option maxRecDepth 5000 in
theorem Keeps.alloc (w : World) (o : Obj) : Keeps w (w.alloc o) := fun K s pos hk => by
  rw [Below.heap_alloc _ _ _ (Array.getElem?_eq_some_iff.1 hk).1]; exact hk
set_option maxRecDepth 5000 in
theorem Keeps.set {w : World} {T t : Nat} {c : Array Value} (hT : RowAt w T t c) (j : Nat) (x : Value) : Keeps w (w.setCell ⟨T, j, none⟩ x) := fun K s pos hk => by
  rw [heap_setCell_other _ _ _ _ (fun e => ?_)]
  · exact hk
  · have e1 : K = T := e
    subst e1
    unfold RowAt at hT
    rw [hk] at hT; cases hT
set_option maxRecDepth 5000 in
theorem Keeps.grown {w w' : World} {B e n : Nat} {v : Value} {xs : List Value} (h : w.ownsRow B e 1 v n xs) (hg : w.grownBy w' v.ownBlock) : Keeps w w' := fun K s pos hk => by
  rw [hg.block K (Array.getElem?_eq_some_iff.1 hk).1 ?_]
  · exact hk
  · intro e1
    rcases h.2 with ⟨rfl, _⟩ | ⟨g, cap, cur, rfl, _, hgg, _⟩
    · simp [Value.ownBlock] at e1
    · simp [Value.ownBlock] at e1
      subst e1
      rw [hk] at hgg; cases hgg
end Go.Proofs.YtdldaphkiphpnaaGreat

/- stage3/Take -/
/- name.isDigit, (*name.reading).endLabel, takeDigit: the steps of reading. -/
namespace Go.Proofs.YtdldaphkiphpnaaGreat
open Go.RowKit
/- the text's own panic -/
def fell : Ending := .panicked [{ v := .iface 68 (.int .i64 30), recovered := false }]
set_option maxRecDepth 5000 in
theorem OwnB.cut {w : World} {B : Nat} {al : Option Addr} {cl : Nat} {l : List UInt8} (h : OwnB w B (.slice al l.length cl) l) (hnil : al = none → cl = 0) : OwnB w B (.slice al 0 cl) [] := by
  have h0 : w.ownsRow B 5 1 (.slice al l.length cl) l.length (vb l) := h
  refine ⟨rfl, ?_⟩
  rcases h0.2 with ⟨e, _⟩ | ⟨g, cap, cur, e, h1, h2, h3, h4, h5, h6⟩
  · simp only [Value.slice.injEq] at e; rw [e.1, e.2.2]; exact Or.inl ⟨rfl, rfl⟩
  · cases e; exact Or.inr ⟨g, cl, cur, rfl, h1, h2, by simp, h4, h5, by simp [vb]⟩
set_option maxRecDepth 5000 in
theorem slice_zero {w : World} {B : Nat} {al : Option Addr} {cl : Nat} {l : List UInt8} (h : OwnB w B (.slice al l.length cl) l) : ∀ W, (Instr.slice 37 (.slice al l.length cl) none (some (.int .i64 0)) none).run Tryz.prog W = .ok (.slice al 0 cl) W := fun W => by
  rw [run_slice_h W 37 al l.length cl Tryz.underlying37 .i64 0 (by omega) (by omega)]
  have hz : (sizeOf (Tryz.prog.elem 37)).run Tryz.prog W = .ok 1 W := Tryz.sizeOf5 W
  rw [hz]
  have h0 : w.ownsRow B 5 1 (.slice al l.length cl) l.length (vb l) := h
  simp only [Result.andThen, sliced]
  rcases h0.2 with ⟨e, _⟩ | ⟨g, cap, cur, e, _⟩
  · simp only [Value.slice.injEq] at e; rw [e.1, e.2.2]; rfl
  · cases e; simp [Addr.add]
set_option maxRecDepth 5000 in
theorem below_drew {B : Nat} {a w : World} (h : Below B a w) : Below B a w.drew := ⟨h.os, h.tape, h.output, h.size, h.block⟩
end Go.Proofs.YtdldaphkiphpnaaGreat

/- stage3/Parse -/
/- name.Parse: a text's name, or the error; the panic that is recovered. -/
namespace Go.Proofs.YtdldaphkiphpnaaGreat
open Go.RowKit
set_option maxRecDepth 5000 in
theorem RowAt.other {wr : World} {g : Nat} {t : TypeId} {c : Array Value} (h : RowAt wr g t c) (a : Addr) (v : Value) (hne : g ≠ a.block) : RowAt (wr.setCell a v) g t c := by
  unfold RowAt; rw [heap_setCell_other _ _ _ _ hne]; exact h
/- both results at once -/
set_option maxRecDepth 5000 in
theorem two_set {w : World} {A : Nat} {v v' : Value} {c c' : Int} (hA : RowAt w A 28 #[v]) (hE : RowAt w (A + 1) 68 #[.int .i64 c]) :
    RowAt ((w.setCell ⟨A, 0, none⟩ v').setCell ⟨A + 1, 0, none⟩ (.int .i64 c')) A 28 #[v'] ∧ RowAt ((w.setCell ⟨A, 0, none⟩ v').setCell ⟨A + 1, 0, none⟩ (.int .i64 c')) (A + 1) 68 #[.int .i64 c'] :=
  ⟨(hA.set 0 v').other _ _ (by show A ≠ A + 1; omega), (hE.other ⟨A, 0, none⟩ v' (by show A + 1 ≠ A; omega)).set 0 _⟩
set_option maxRecDepth 5000 in
theorem two_below {w w0 : World} {B A : Nat} {v' : Value} {c' : Int} (h : Below B w0 w) (hB : B ≤ A) : Below B w0 ((w.setCell ⟨A, 0, none⟩ v').setCell ⟨A + 1, 0, none⟩ (.int .i64 c')) :=
  (h.setCell hB _).setCell (by show B ≤ A + 1; omega) _
namespace N
/- the error of a text -/
def perr (bs : List UInt8) (c : Int) : Prop := (rd bs = none ∧ c = 30) ∨ ∃ n, rd bs = some n ∧ chk n = c
end N
def Parsed (bs : List UInt8) (B : Nat) (w : World) (e : Ending) (w' : World) : Prop :=
  ((∃ n v, N.rd bs = some n ∧ N.chk n = 0 ∧ e = .returned (.tuple #[v, .int .i64 0]) ∧ OwnS w' B v n) ∨ (∃ c, N.perr bs c ∧ c ≠ 0 ∧ e = .returned (.tuple #[.slice none 0 0, .int .i64 c]))) ∧ Below B w w'
end Go.Proofs.YtdldaphkiphpnaaGreat

/- stage3/Lower -/
/- name.Lower: a name in small letters. Bytes of a text that may be written. -/
namespace Go.Proofs.YtdldaphkiphpnaaGreat
open Go.RowKit
/- the block g holds the bytes q, none of them frozen -/
def WrB (w : World) (g : Nat) (q : List UInt8) : Prop := ∃ cur fr, w.heap[g]? = some (.cells cur 5 fr) ∧ q.length ≤ fr.1 ∧ ∀ j, j < q.length → cur[j]? = some (.int .u8 (q.getD j 0).toNat)
set_option maxRecDepth 5000 in
theorem WrB.cell {w : World} {g : Nat} {q : List UInt8} (h : WrB w g q) (j : Nat) (hj : j < q.length) : w.cell? ⟨g, j, none⟩ = some (.int .u8 (q.getD j 0).toNat) := by
  obtain ⟨cur, fr, h1, _, h3⟩ := h
  rw [cell_of_row w g j cur 5 fr h1]; exact h3 j hj
set_option maxRecDepth 5000 in
theorem WrB.frozen {w : World} {g : Nat} {q : List UInt8} (h : WrB w g q) (j : Nat) (hj : j < q.length) : w.frozen? ⟨g, j, none⟩ = false := by
  obtain ⟨cur, fr, h1, h2, _⟩ := h
  unfold World.frozen?
  simp only [h1]
  have : ¬ (fr.1 ≤ j) := by omega
  simp [this]
set_option maxRecDepth 5000 in
theorem WrB.lt {w : World} {g : Nat} {q : List UInt8} (h : WrB w g q) : g < w.heap.size := by
  obtain ⟨cur, fr, h1, _⟩ := h
  exact (Array.getElem?_eq_some_iff.1 h1).1
set_option maxRecDepth 5000 in
theorem WrB.set {w : World} {g : Nat} {q : List UInt8} (h : WrB w g q) (j : Nat) (hj : j < q.length) (c : UInt8) : WrB (w.setCell ⟨g, j, none⟩ (.int .u8 (c.toNat : Int))) g (q.set j c) := by
  obtain ⟨cur, fr, h1, h2, h3⟩ := h
  refine ⟨cur.setIfInBounds j (.int .u8 (c.toNat : Int)), fr, ?_, by simpa using h2, fun i hi => ?_⟩
  · rw [setCell_eq_setRow w g j cur 5 fr _ h1]
    exact setRow_heap w g cur _ 5 fr h1
  · rw [List.length_set] at hi
    have hlt : j < cur.size := (Array.getElem?_eq_some_iff.1 (h3 j hj)).1
    rw [Array.getElem?_setIfInBounds]
    by_cases e : j = i
    · subst e
      rw [if_pos rfl, if_pos hlt]
      simp [hj]
    · rw [if_neg e, h3 i hi]
      simp [List.getD_eq_getElem?_getD, e]
set_option maxRecDepth 5000 in
theorem WrB.sl {w : World} {g : Nat} {q : List UInt8} (h : WrB w g q) : SlL w (some ⟨g, 0, none⟩) q := fun _ => ⟨g, 0, rfl, h.lt, fun j hj => by rw [Nat.zero_add]; exact h.cell j hj⟩
set_option maxRecDepth 5000 in
theorem WrB.below {w w' : World} {g : Nat} {q : List UInt8} (h : WrB w g q) (hb : Below w.heap.size w w') : WrB w' g q := by
  have hlt := h.lt
  obtain ⟨cur, fr, h1, h2⟩ := h
  exact ⟨cur, fr, by rw [hb.block g hlt]; exact h1, h2⟩
set_option maxRecDepth 5000 in
theorem below_drewA (w : World) (o : Obj) : Below w.heap.size w (w.drew.alloc o) := (below_drew (Below.refl w.heap.size w)).alloc (Nat.le_refl _) o
/- []byte(s) -/
set_option maxRecDepth 5000 in
theorem conv_own (w : World) (s : ByteArray) (l : List UInt8) (hs : s.data.toList = l) : ∃ c w', (convert 9 37 (.string s)).run Tryz.prog w = .ok (.slice (some ⟨w.heap.size, 0, none⟩) s.size c) w' ∧ WrB w' w.heap.size l ∧ Below w.heap.size w w' ∧ w.heap.size < w'.heap.size := by
  refine ⟨_, _, run_bytes_of_string w 9 37 5 s Tryz.underlying9 Tryz.underlying37 Tryz.underlying5, ?_, below_drewA w _, by show _ < (w.alloc _).heap.size; simp⟩
  subst hs
  have hlen : s.data.toList.length = s.size := rfl
  refine ⟨_, _, heap_alloc_last w.drew _, ?_, fun j hj => ?_⟩
  · show s.data.toList.length ≤ (bytesRow s _).size
    unfold bytesRow
    rw [Array.size_append, Array.size_map]
    exact Nat.le_add_right _ _
  · unfold bytesRow
    have h1 : j < s.data.size := by rw [hlen] at hj; exact hj
    rw [Array.getElem?_append_left (by simpa using h1), Array.getElem?_map, List.getD_eq_getElem?_getD, Array.getElem?_toList, Array.getElem?_eq_getElem h1]
    rfl
set_option maxRecDepth 5000 in
theorem OwnS.wr {w : World} {B : Nat} {v : Value} {n : List (List UInt8)} (h : OwnS w B v n) {g : Nat} {q : List UInt8} (hg : WrB w g q) (j : Nat) (x : Value) : OwnS (w.setCell ⟨g, j, none⟩ x) B v n := by
  have h0 : w.ownsRow B 9 1 v n.length (vs n) := h
  obtain ⟨cur, fr, hgg, _⟩ := hg
  refine ⟨h0.1, ?_⟩
  rcases h0.2 with h2 | ⟨g', cap, cur', rfl, h3, hg', h4⟩
  · exact Or.inl h2
  · refine Or.inr ⟨g', cap, cur', rfl, h3, ?_, h4⟩
    rw [heap_setCell_other _ _ _ _ (fun e1 => ?_)]
    · exact hg'
    · have e2 : g' = g := e1
      subst e2
      rw [hgg] at hg'
      simp at hg'
set_option maxRecDepth 5000 in
theorem OwnS.put {w : World} {B g len cap : Nat} {n : List (List UInt8)} (h : OwnS w B (.slice (some ⟨g, 0, none⟩) len cap) n) (j : Nat) (x : List UInt8) : OwnS (w.setCell ⟨g, j, none⟩ (.string ⟨x.toArray⟩)) B (.slice (some ⟨g, 0, none⟩) len cap) (n.set j x) := by
  have h0 : w.ownsRow B 9 1 (.slice (some ⟨g, 0, none⟩) len cap) n.length (vs n) := h
  refine ⟨by rw [vs_len, List.length_set, Nat.mul_one], ?_⟩
  rcases h0.2 with ⟨e, _⟩ | ⟨g', cap', cur, e, h1, h2, h3, h4, h5, h6⟩
  · cases e
  · cases e
    refine Or.inr ⟨g, cap, cur.setIfInBounds j (.string ⟨x.toArray⟩), by rw [List.length_set], h1, heap_setCell_same w g j cur 9 _ h2, by rw [List.length_set]; exact h3, h4, by simpa using h5, ?_⟩
    rw [Array.toList_setIfInBounds, List.length_set, List.take_set, h6]
    simp [vs, List.map_set]
set_option maxRecDepth 5000 in
theorem OwnS.cell {w : World} {B g len cap : Nat} {n : List (List UInt8)} (h : OwnS w B (.slice (some ⟨g, 0, none⟩) len cap) n) (j : Nat) (hj : j < n.length) : w.cell? ⟨g, j, none⟩ = some (.string ⟨(n.getD j []).toArray⟩) ∧ w.frozen? ⟨g, j, none⟩ = false ∧ B ≤ g := by
  have h0 : w.ownsRow B 9 1 (.slice (some ⟨g, 0, none⟩) len cap) n.length (vs n) := h
  rcases h0.2 with ⟨e, _⟩ | ⟨g', cap', cur, e, h1, h2, h3, h4, h5, h6⟩
  · cases e
  · cases e
    exact ⟨by rw [World.ownsRow.cellAt h0 j (by omega), vs_get n j hj], frozen_of_row w g j cur 9 h2, h1⟩
set_option maxRecDepth 5000 in
theorem make_names (w : World) (len : Nat) (hl : len ≤ 1000000) : ∃ w', (Instr.makeSlice 28 (.int .i64 (len : Int)) (.int .i64 (len : Int))).run Tryz.prog w = .ok (.slice (some ⟨w.heap.size, 0, none⟩) len len) w' ∧ OwnS w' w.heap.size (.slice (some ⟨w.heap.size, 0, none⟩) len len) (List.replicate len []) ∧ Below w.heap.size w w' := by
  obtain ⟨i0, hi, hz0, hz1, hz2⟩ := info_parts infoS
  obtain ⟨w', h1, h2, h3⟩ := run_make_full (P := Tryz.prog) w w.heap.size 28 9 i0 (.string ⟨#[]⟩) 1 Tryz.underlying28 hi hz0 hz1 .i64 .i64 len (by rw [hz2]; omega) (by unfold maxLen; omega) (Nat.le_refl _)
  refine ⟨w', h1, ?_, (Below.refl _ _).grown h3 (Nat.le_refl _) (fun k hk => by cases hk)⟩
  unfold OwnS
  rw [List.length_replicate]
  have e : (madeCells (Value.string ⟨#[]⟩).cells (len * 1)).toList = vs (List.replicate len []) := by
    rw [Nat.mul_one]
    have : (Value.string ⟨#[]⟩).cells = #[.string ⟨#[]⟩] := rfl
    rw [this, toList_madeCells_one]
    simp [vs]
  rw [← e]; exact h2
namespace N
/- one byte, one label more in small letters -/
def half (x : List UInt8) (k : Nat) : List UInt8 := lowL (x.take k) ++ x.drop k
set_option maxRecDepth 5000 in
theorem half_len (x : List UInt8) (k : Nat) : (half x k).length = x.length := by
  unfold half; rw [List.length_append, lowL_len, List.length_take, List.length_drop]; omega
set_option maxRecDepth 5000 in
theorem half_zero (x : List UInt8) : half x 0 = x := by simp [half, lowL]
set_option maxRecDepth 5000 in
theorem half_all (x : List UInt8) (k : Nat) (h : x.length ≤ k) : half x k = lowL x := by
  unfold half; rw [List.take_of_length_le h, List.drop_eq_nil_of_le h, List.append_nil]
set_option maxRecDepth 5000 in
theorem half_at (x : List UInt8) (k : Nat) (h : k < x.length) : (half x k).getD k 0 = x.getD k 0 := by
  unfold half
  have hl : (lowL (x.take k)).length = k := by rw [lowL_len, List.length_take]; omega
  rw [drop_at x k h, List.getD_eq_getElem?_getD, List.getElem?_append_right (by omega), hl, Nat.sub_self]
  simp
set_option maxRecDepth 5000 in
theorem half_next (x : List UInt8) (k : Nat) (h : k < x.length) : (half x k).set k (low (x.getD k 0)) = half x (k + 1) := by
  unfold half
  have hl : (lowL (x.take k)).length = k := by rw [lowL_len, List.length_take]; omega
  rw [drop_at x k h, List.set_append_right _ _ (by omega), hl, Nat.sub_self, take_nextB x k h]
  simp [lowL]
def halfN (n : List (List UInt8)) (j : Nat) : List (List UInt8) := lowN (n.take j) ++ List.replicate (n.length - j) []
set_option maxRecDepth 5000 in
theorem halfN_len (n : List (List UInt8)) (j : Nat) (h : j ≤ n.length) : (halfN n j).length = n.length := by
  unfold halfN; rw [List.length_append, lowN_len, List.length_take, List.length_replicate]; omega
set_option maxRecDepth 5000 in
theorem halfN_next (n : List (List UInt8)) (j : Nat) (h : j < n.length) : (halfN n j).set j (lowL (n.getD j [])) = halfN n (j + 1) := by
  unfold halfN
  have hl : (lowN (n.take j)).length = j := by rw [lowN_len, List.length_take]; omega
  obtain ⟨m, hm⟩ : ∃ m, n.length - j = m + 1 := ⟨n.length - j - 1, by omega⟩
  have hm2 : n.length - (j + 1) = m := by omega
  rw [hm, hm2, List.replicate_succ, List.set_append_right _ _ (by omega), hl, Nat.sub_self, take_nextN n j h]
  simp [lowN]
end N
set_option maxRecDepth 3000 in
set_option maxHeartbeats 800000 in
theorem lower_any (n : List (List UInt8)) (ao : Option Addr) (len cap : Nat) (w : World) (hl : Hid (n.length = len)) (hs : SlS w ao n) (hm : Hid (N.Small n)) :
    Calls Tryz.prog 41 #[.slice ao len cap] w fun e w' => ∃ v, e = .returned v ∧ OwnS w' w.heap.size v (N.lowN n) ∧ Below w.heap.size w w' := by
  have HS := hide hs
  have hlen : len ≤ 1000000 := by rw [← hl.out]; exact hm.out.1
  clear hs
  obtain ⟨w1, hmk, hO1, hB1⟩ := make_names w len hlen
  go_enter Tryz.func41, Tryz.ntmps41
  go_wp2
  clear hmk
  go_loopw [14] (fun i wr => ∃ j : Nat, i = .int .i64 (j : Int) ∧ j ≤ len ∧ OwnS wr w.heap.size (.slice (some ⟨w.heap.size, 0, none⟩) len len) (N.halfN n j) ∧ Below w.heap.size w wr) (fun i _ => len - (intOf i).toNat)
  case atStart => exact ⟨0, rfl, by omega, (by unfold N.halfN; rw [hl.out]; simpa [N.lowN] using hO1), hB1⟩
  case round =>
    clear hO1 hB1
    obtain ⟨j, rfl, hj, hO, hB⟩ := hrel
    have hz := hB.size
    by_cases hlt : j < len
    · obtain ⟨b1, o1, rfl, hb1, hc1⟩ := HS.out (by have := hl.out; omega)
      have hx := (hB.cell (p := ⟨b1, o1 + j, none⟩) hb1).trans (hc1 j (by have := hl.out; omega))
      have hn1 := N.halfN_next n j (by have := hl.out; omega)
      have hhl := N.halfN_len n j (by have := hl.out; omega)
      have hxl := hm.out.at j
      clear hc1
      generalize n.getD j [] = x at hx hn1 hxl
      have HN := hide hn1
      clear hn1
      obtain ⟨s, hs, hsd⟩ : ∃ s : ByteArray, (⟨x.toArray⟩ : ByteArray) = s ∧ Hid (s.data.toList = x) := ⟨_, rfl, rfl⟩
      have hsz : s.size ≤ x.length := by rw [← hs]; exact Nat.le_refl _
      have hsz' : x.length ≤ s.size := by rw [← hs]; exact Nat.le_refl _
      rw [hs] at hx
      clear hs
      obtain ⟨c, w2, hcv, hW2, hB2, hz2⟩ := conv_own wr s x hsd.out
      have hO2 := hO.below hB2
      have hb2 := hB.trans (hB2.mono hz)
      have hgl := hb1
      generalize hG : wr.heap.size = g at hcv hW2 hz2
      have hgB : w.heap.size ≤ g := by omega
      go_wp2
      clear hcv hO hB hB2 hx
      go_loopw [23] (fun i wr => ∃ k : Nat, i = .int .i64 (k : Int) ∧ k ≤ s.size ∧ WrB wr g (N.half x k) ∧ OwnS wr w.heap.size (.slice (some ⟨w.heap.size, 0, none⟩) len len) (N.halfN n j) ∧ Below w.heap.size w wr) (fun i _ => s.size - (intOf i).toNat)
      case atStart => exact ⟨0, rfl, by omega, (by rw [N.half_zero]; exact hW2), hO2, hb2⟩
      case round =>
        clear hW2 hO2 hb2 hz2
        obtain ⟨k, rfl, hk, hW, hO, hB⟩ := hrel
        by_cases hkl : k < s.size
        · have c0 := hW.cell k (by rw [N.half_len]; omega)
          have f0 := hW.frozen k (by rw [N.half_len]; omega)
          rw [N.half_at x k (by omega)] at c0
          have hn2 := N.half_next x k (by omega)
          generalize x.getD k 0 = y at c0 hn2
          have HN2 := hide hn2
          have HW := hide hW
          clear hn2 hW
          go_wp2_with (go_at_call 70; refine (lower_c y _).mono ?_; rintro e w5 ⟨rfl, rfl⟩)
          go_roundw
          case rel => exact ⟨k + 1, by go_num, by omega, (by rw [← HN2.out]; exact HW.out.set k (by rw [N.half_len]; omega) _), OwnS.wr hO HW.out _ _, hB.setCell hgB _⟩
          case measure => simp [intOf]; omega
        · obtain rfl : k = s.size := by omega
          rw [N.half_all x s.size (by omega)] at hW
          have hst := run_str s.size c hW.sl (by rw [N.lowL_len]; omega)
          obtain ⟨k0, g0, _⟩ := hO.cell j (by rw [hhl, hl.out]; exact hlt)
          have HO := hide hO
          clear hO hW
          go_wp2
          go_roundw
          case rel => exact ⟨j + 1, by go_num, by omega, (by rw [← HN.out]; exact HO.out.put j _), hB.setCell (Nat.le_refl _) _⟩
          case measure => simp [intOf]; omega
    · obtain rfl : j = len := by omega
      go_wp2
      go_ret
      refine ⟨_, rfl, ?_, hB⟩
      have e : N.halfN n j = N.lowN n := by
        unfold N.halfN
        rw [← hl.out, List.take_length]; simp
      rw [e] at hO
      exact hO
end Go.Proofs.YtdldaphkiphpnaaGreat

/- stage3/Help -/
/- signethelp: Name, Bytes of the same things; LightName, RightName: what they say where they say yes. -/
namespace Go.Proofs.YtdldaphkiphpnaaGreat
open Go.RowKit
set_option maxRecDepth 3000 in
theorem name_same (n : List (List UInt8)) (ao bo : Option Addr) (la lb ca cb : Nat) (w : World) (hla : Hid (n.length = la)) (hlb : Hid (n.length = lb)) (hsa : SlS w ao n) (hsb : SlS w bo n) (hm : la ≤ 9223372036854775807) :
    Calls Tryz.prog 28 #[.slice ao la ca, .slice bo lb cb] w fun e w' => e = .returned (.bool true) ∧ ∃ m, w' = w.drewN m := by
  have HSA := hide hsa
  have HSB := hide hsb
  obtain rfl : lb = la := by rw [← hla.out, ← hlb.out]
  clear hsa hsb
  go_enter Tryz.func28, Tryz.ntmps28
  go_wp2
  go_loopw [5] (fun i wr => ∃ j : Nat, i = .int .i64 (j : Int) ∧ j ≤ lb ∧ ∃ m, wr = w.drewN m) (fun i _ => lb - (intOf i).toNat)
  case atStart => exact ⟨0, rfl, by omega, 0, rfl⟩
  case round =>
    obtain ⟨j, rfl, hj, hm⟩ := hrel
    have HM := hide hm
    clear hm
    by_cases hlt : j < lb
    · obtain ⟨b1, o1, rfl, _, hc1⟩ := HSA.out (by have := hla.out; omega)
      obtain ⟨b2, o2, rfl, _, hc2⟩ := HSB.out (by have := hla.out; omega)
      have hx1 : wr.cell? ⟨b1, o1 + j, none⟩ = some (.string ⟨(n.getD j []).toArray⟩) := by
        obtain ⟨m, rfl⟩ := HM.out
        exact hc1 j (by have := hla.out; omega)
      have hx2 : wr.cell? ⟨b2, o2 + j, none⟩ = some (.string ⟨(n.getD j []).toArray⟩) := by
        obtain ⟨m, rfl⟩ := HM.out
        exact hc2 j (by have := hla.out; omega)
      clear hc1 hc2
      generalize n.getD j [] = x at hx1 hx2
      have hj1 : (j : Int) < (lb : Int) := by omega
      go_wp2
      go_quiet (fail)
      go_wp2
      go_roundw
      case rel => exact ⟨j + 1, by go_num, by omega, drew_more _ HM.out⟩
      case measure => simp [intOf]; omega
    · go_wp2
      go_ret
      exact ⟨rfl, HM.out⟩
def Right (n : List (List UInt8)) : Prop := n.length ≤ 127 ∧ (∀ l ∈ n, l ≠ [] ∧ l.length ≤ 63) ∧ N.size n ≤ 255
end Go.Proofs.YtdldaphkiphpnaaGreat

/- stage3/Ref -/
/- signetref3's small letters, Check, Wire; signethelp's LightName, Bytes. -/
namespace Go.Proofs.YtdldaphkiphpnaaGreat
open Go.RowKit
def Light (n : List (List UInt8)) : Prop := n.length ≤ 200 ∧ ∀ l ∈ n, l.length ≤ 300
set_option maxRecDepth 5000 in
theorem Light.small {n : List (List UInt8)} (h : Light n) : N.Small n := ⟨by have := h.1; omega, fun l hl => by have := h.2 l hl; omega⟩
set_option maxRecDepth 5000 in
theorem N.Small.sane {n : List (List UInt8)} (h : N.Small n) : Sane n := fun l hl => by have := h.2 l hl; omega
set_option maxRecDepth 3000 in
theorem light_any (n : List (List UInt8)) (ao : Option Addr) (len cap : Nat) (w : World) (hl : Hid (n.length = len)) (hs : SlS w ao n) (hm : len ≤ 9223372036854775807) :
    Calls Tryz.prog 20 #[.slice ao len cap] w fun e w' => ∃ t, e = .returned (.bool t) ∧ (t = true → Light n) ∧ w' = w := by
  have HS := hide hs
  clear hs
  rcases Nat.lt_or_ge 200 len with h127 | h127
  · go_enter Tryz.func20, Tryz.ntmps20
    go_wp2
    go_ret
    exact ⟨false, rfl, fun h => (by cases h), rfl⟩
  · go_enter Tryz.func20, Tryz.ntmps20
    go_wp2
    go_loopw [3, 4] (fun a i wr => ∃ (j sz : Nat), i = .int .i64 (j : Int) ∧ a = .int .i64 (sz : Int) ∧ j ≤ len ∧ sz ≤ j * 300 ∧ Hid (∀ l ∈ n.take j, l.length ≤ 300) ∧ wr = w) (fun _ i _ => len - (intOf i).toNat)
    case atStart => exact ⟨0, 0, rfl, rfl, by omega, by omega, (fun l hl => by simp at hl), rfl⟩
    case round =>
      obtain ⟨j, sz, rfl, rfl, hj, hsz, HE, rfl⟩ := hrel
      by_cases hlt : j < len
      · obtain ⟨b1, o1, rfl, _, hc1⟩ := HS.out (by have := hl.out; omega)
        have hx := hc1 j (by have := hl.out; omega)
        have ht := N.take_nextN n j (by have := hl.out; omega)
        clear hc1
        generalize n.getD j [] = x at hx ht
        have HT := hide ht
        clear ht
        rcases Nat.lt_or_ge 300 x.length with h63 | h63
        · go_wp2
          go_ret
          exact ⟨false, rfl, fun h => (by cases h), rfl⟩
        · go_wp2
          go_roundw
          case rel => exact ⟨j + 1, sz + x.length, by go_num, by go_num, by omega, by omega, (by rw [HT.out]; intro l hl; rcases List.mem_append.1 hl with h | h; exact HE.out l h; rw [List.mem_singleton.1 h]; exact h63), trivial⟩
          case measure => simp [intOf]; omega
      · obtain rfl : j = len := by omega
        have ht : n.take j = n := by rw [← hl.out]; exact List.take_length
        rw [ht] at HE
        have HLEN := hide hl.out
        clear ht
        go_wp2
        go_ret
        exact ⟨_, rfl, fun _ => ⟨by have := HLEN.out; omega, HE.out⟩, rfl⟩
set_option maxRecDepth 5000 in
theorem bytes_same (l : List UInt8) (ao ao' : Option Addr) (n n' c c' : Nat) (w : World) (hs : SlL w ao l) (hs' : SlL w ao' l) (hl : Hid (l.length = n)) (hl' : Hid (l.length = n')) :
    Calls Tryz.prog 75 #[.slice ao n c, .slice ao' n' c'] w fun e w' => e = .returned (.bool true) ∧ w' = w := by
  have h1 := run_str n c hs hl.out
  have h2 := run_str n' c' hs' hl'.out
  clear hs hs'
  go_enter Tryz.func75, Tryz.ntmps75
  go_wp2
  go_ret
  exact ⟨by simp, rfl⟩
set_option maxRecDepth 5000 in
theorem rlow_c (c : UInt8) (w : World) : Calls Tryz.prog 104 #[.int .u8 (c.toNat : Int)] w fun e w' => e = .returned (.int .u8 ((N.low c).toNat : Int)) ∧ w' = w := by
  have hc := c.toNat_lt
  rcases Nat.lt_or_ge c.toNat 65 with h1 | h1
  · rw [N.low_other (Or.inl h1)]
    go_enter Tryz.func104, Tryz.ntmps104
    go_wp2
    go_ret
    exact ⟨rfl, rfl⟩
  · rcases Nat.lt_or_ge 90 c.toNat with h2 | h2
    · rw [N.low_other (Or.inr h2)]
      go_enter Tryz.func104, Tryz.ntmps104
      go_wp2
      go_ret
      exact ⟨rfl, rfl⟩
    · rw [N.low_cap h1 h2]
      go_enter Tryz.func104, Tryz.ntmps104
      go_wp2
      go_ret
      exact ⟨by rw [show ((c.toNat + 32 : Nat) : Int) = (c.toNat : Int) + 32 by omega] <;> rfl, rfl⟩
set_option maxRecDepth 3000 in
theorem rLowText_any (s : ByteArray) (x : List UInt8) (w : World) (hs : Hid (s.data.toList = x)) (hn : s.size ≤ 9223372036854775807) :
    Calls Tryz.prog 78 #[.string s] w fun e w' => e = .returned (.string ⟨(N.lowL x).toArray⟩) ∧ Below w.heap.size w w' := by
  have hsz : s.size ≤ x.length := by rw [← hs.out]; exact Nat.le_refl _
  have hsz' : x.length ≤ s.size := by rw [← hs.out]; exact Nat.le_refl _
  obtain ⟨c, w2, hcv, hW2, hB2, hz2⟩ := conv_own w s x hs.out
  generalize hG : w.heap.size = g at hcv hW2 hz2
  go_enter Tryz.func78, Tryz.ntmps78
  go_wp2
  clear hcv
  go_loopw [4] (fun i wr => ∃ k : Nat, i = .int .i64 (k : Int) ∧ k ≤ s.size ∧ WrB wr g (N.half x k) ∧ Below w.heap.size w wr) (fun i _ => s.size - (intOf i).toNat)
  case atStart => exact ⟨0, rfl, by omega, (by rw [N.half_zero]; exact hW2), hB2⟩
  case round =>
    clear hW2 hB2 hz2
    obtain ⟨k, rfl, hk, hW, hB⟩ := hrel
    by_cases hkl : k < s.size
    · have c0 := hW.cell k (by rw [N.half_len]; omega)
      have f0 := hW.frozen k (by rw [N.half_len]; omega)
      rw [N.half_at x k (by omega)] at c0
      have hn2 := N.half_next x k (by omega)
      generalize x.getD k 0 = y at c0 hn2
      have HN2 := hide hn2
      have HW := hide hW
      clear hn2 hW
      go_wp2_with (go_at_call 104; refine (rlow_c y _).mono ?_; rintro e w5 ⟨rfl, rfl⟩)
      go_roundw
      case rel => exact ⟨k + 1, by go_num, by omega, (by rw [← HN2.out]; exact HW.out.set k (by rw [N.half_len]; omega) _), hB.setCell (by show w.heap.size ≤ g; omega) _⟩
      case measure => simp [intOf]; omega
    · obtain rfl : k = s.size := by omega
      rw [N.half_all x s.size (by omega)] at hW
      have hst := run_str s.size c hW.sl (by rw [N.lowL_len]; omega)
      clear hW
      go_wp2
      go_ret
      exact ⟨rfl, by rw [← hG]; exact hB⟩
set_option maxRecDepth 3000 in
theorem rLower_any (n : List (List UInt8)) (ao : Option Addr) (len cap : Nat) (w : World) (hl : Hid (n.length = len)) (hs : SlS w ao n) (hm : Hid (N.Small n)) :
    Calls Tryz.prog 53 #[.slice ao len cap] w fun e w' => ∃ v, e = .returned v ∧ OwnS w' w.heap.size v (N.lowN n) ∧ Below w.heap.size w w' := by
  have HS := hide hs
  have hlen : len ≤ 1000000 := by rw [← hl.out]; exact hm.out.1
  clear hs
  go_enter Tryz.func53, Tryz.ntmps53
  go_wp2
  go_loopw [3, 4] (fun v i wr => ∃ j : Nat, i = .int .i64 (j : Int) ∧ j ≤ len ∧ OwnS wr w.heap.size v (N.lowN (n.take j)) ∧ Below w.heap.size w wr) (fun _ i _ => len - (intOf i).toNat)
  case atStart => exact ⟨0, rfl, by omega, OwnS.nil _ _, Below.refl _ _⟩
  case round =>
    obtain ⟨j, rfl, hj, hO, hB⟩ := hrel
    have hz := hB.size
    by_cases hlt : j < len
    · obtain ⟨b1, o1, rfl, hb1, hc1⟩ := HS.out (by have := hl.out; omega)
      have hx := (hB.cell (p := ⟨b1, o1 + j, none⟩) hb1).trans (hc1 j (by have := hl.out; omega))
      have hn1 : N.lowN (n.take (j + 1)) = N.lowN (n.take j) ++ [N.lowL (n.getD j [])] := by rw [N.take_nextN n j (by have := hl.out; omega)]; simp [N.lowN]
      have hxl := hm.out.at j
      have hll : (N.lowN (n.take j)).length ≤ 1000000 := by rw [N.lowN_len, List.length_take]; omega
      clear hc1
      generalize n.getD j [] = x at hx hn1 hxl
      have HN := hide hn1
      have HO := hide hO
      clear hn1 hO
      go_wp2_with (first
        | (go_at_call 78; refine (rLowText_any ⟨x.toArray⟩ x _ rfl (by show x.length ≤ _; omega)).mono ?_; rintro e w3 ⟨rfl, hB3⟩; have hb3 := hB.trans (hB3.mono hz); have hz3 := hb3.size; have HO3 := hide (HO.out.below hB3); clear HO)
        | (at_builtin; refine wpList_append_S rfl (.tmp 11) (.tmp 17) rfl w.heap.size _ _ rfl (by exact HO3.out.alloc _) _ _ _ [N.lowL x] rfl rfl (SlS.one _ _ _) (by simp; omega) (by simp; omega) ?_; intro v4 w4 hO4 hG4; have hB4 := grown_belowS (HO3.out.alloc _) hG4 (hb3.alloc hz3 _) (by simp; omega); clear hG4))
      go_roundw
      case rel => exact ⟨j + 1, by go_num, by omega, (by rw [HN.out]; exact hO4), hB4⟩
      case measure => simp [intOf]; omega
    · obtain rfl : j = len := by omega
      go_wp2
      go_ret
      refine ⟨_, rfl, ?_, hB⟩
      have ht : n.take j = n := by rw [← hl.out]; exact List.take_length
      rw [ht] at hO
      exact hO
end Go.Proofs.YtdldaphkiphpnaaGreat

/- stage3/Ref2 -/
/- signetref3's Check, Wire. -/
namespace Go.Proofs.YtdldaphkiphpnaaGreat
open Go.RowKit
namespace N
set_option maxRecDepth 5000 in
theorem chk_long {n : List (List UInt8)} (h0 : ∀ l ∈ n, l ≠ []) (h : (∃ l ∈ n, 63 < l.length) ∨ 255 < size n) : chk n = 31 := by
  unfold chk
  rw [if_neg (fun e => h0 [] e rfl), if_pos (h.elim Or.inr Or.inl)]
set_option maxRecDepth 5000 in
theorem size_take_le (n : List (List UInt8)) (j : Nat) : size (n.take j) ≤ size n := by
  conv => rhs; rw [← List.take_append_drop j n]
  rw [size_app]; omega
set_option maxRecDepth 5000 in
theorem mem_at (n : List (List UInt8)) (j : Nat) (h : j < n.length) : n.getD j [] ∈ n := by
  have : n.getD j [] = n[j] := by simp [h]
  rw [this]; exact List.getElem_mem h
end N
set_option maxRecDepth 3000 in
set_option maxHeartbeats 400000 in
theorem rCheck_any (n : List (List UInt8)) (ao : Option Addr) (len cap : Nat) (w : World) (hl : Hid (n.length = len)) (hs : SlS w ao n) (hm : Hid (N.Small n)) :
    Calls Tryz.prog 71 #[.slice ao len cap] w fun e w' => e = .returned (.int .i64 (N.chk n)) ∧ w' = w := by
  have HS := hide hs
  have hlen : len ≤ 1000000 := by rw [← hl.out]; exact hm.out.1
  clear hs
  go_enter Tryz.func71, Tryz.ntmps71
  go_wp2
  go_loopw [4] (fun i wr => ∃ j : Nat, i = .int .i64 (j : Int) ∧ j ≤ len ∧ Hid (∀ l ∈ n.take j, l ≠ []) ∧ wr = w) (fun i _ => len - (intOf i).toNat)
  case atStart => exact ⟨0, rfl, by omega, (fun l hl => by simp at hl), rfl⟩
  case round =>
    obtain ⟨j, rfl, hj, HE, rfl⟩ := hrel
    by_cases hlt : j < len
    · obtain ⟨b1, o1, rfl, _, hc1⟩ := HS.out (by have := hl.out; omega)
      have hx := hc1 j (by have := hl.out; omega)
      have hbad := @N.chk_bad n j (by have := hl.out; omega)
      have ht := N.take_nextN n j (by have := hl.out; omega)
      clear hc1
      generalize n.getD j [] = x at hx hbad ht
      have HB := hide hbad
      have HT := hide ht
      clear hbad ht
      by_cases hx0 : x = []
      · have HB0 := hide (HB.out hx0)
        clear HB
        subst hx0
        go_wp2
        go_ret
        exact ⟨by rw [HB0.out]; rfl, rfl⟩
      · have hx1 : x.isEmpty = false := by cases x <;> simp_all
        have hx2 : (x == []) = false := by cases x <;> simp_all
        go_wp2
        go_roundw
        case rel => exact ⟨j + 1, by go_num, by omega, (by rw [HT.out]; intro l hl; rcases List.mem_append.1 hl with h | h; exact HE.out l h; rw [List.mem_singleton.1 h]; exact hx0), trivial⟩
        case measure => simp [intOf]; omega
    · obtain rfl : j = len := by omega
      have ht : n.take j = n := by rw [← hl.out]; exact List.take_length
      rw [ht] at HE
      clear ht
      go_wp2
      go_loopw [3, 5] (fun a i wr' => ∃ k sz : Nat, i = .int .i64 (k : Int) ∧ a = .int .i64 (sz : Int) ∧ k ≤ j ∧ sz ≤ 255 ∧ Hid (sz = N.size (n.take k)) ∧ Hid (∀ l ∈ n.take k, l.length ≤ 63) ∧ wr' = wr) (fun _ i _ => j - (intOf i).toNat)
      case atStart => exact ⟨0, 1, rfl, rfl, by omega, by omega, rfl, (fun l hl => by simp at hl), rfl⟩
      case round =>
        obtain ⟨k, sz, rfl, rfl, hk, hsz, HZ, H63, rfl⟩ := hrel
        by_cases hlt2 : k < j
        · obtain ⟨b1, o1, rfl, _, hc1⟩ := HS.out (by have := hl.out; omega)
          have hx := hc1 k (by have := hl.out; omega)
          have hn := N.size_next n k (by have := hl.out; omega)
          have ht := N.take_nextN n k (by have := hl.out; omega)
          have hme := N.mem_at n k (by have := hl.out; omega)
          have hxl := hm.out.at k
          have hle := N.size_take_le n (k + 1)
          clear hc1
          generalize n.getD k [] = x at hx hn ht hme hxl
          have HME := hide hme
          have HT := hide ht
          rw [hn, ← HZ.out] at hle
          have HN := hide hn
          have HLE := hide hle
          clear hn ht hme hle
          rcases Nat.lt_or_ge 63 x.length with h63 | h63
          · have HC := hide (N.chk_long HE.out (Or.inl ⟨x, HME.out, h63⟩))
            go_wp2
            go_ret
            exact ⟨by rw [HC.out]; rfl, rfl⟩
          · rcases Nat.lt_or_ge 255 (sz + (x.length + 1)) with h255 | h255
            · have HC := hide (N.chk_long HE.out (Or.inr (Nat.lt_of_lt_of_le h255 HLE.out)))
              go_wp2
              go_ret
              exact ⟨by rw [HC.out]; rfl, rfl⟩
            · go_wp2
              go_roundw
              case rel => exact ⟨k + 1, sz + (x.length + 1), by go_num, by go_num, by omega, by omega, (by show _ = _; rw [HZ.out]; exact HN.out.symm), (by rw [HT.out]; intro l hl; rcases List.mem_append.1 hl with h | h; exact H63.out l h; rw [List.mem_singleton.1 h]; exact h63), trivial⟩
              case measure => simp [intOf]; omega
        · obtain rfl : k = j := by omega
          have ht : n.take k = n := by rw [← hl.out]; exact List.take_length
          rw [ht] at HZ H63
          have HC := hide (N.chk_ok (fun e => HE.out [] e rfl) (by rw [← HZ.out]; exact hsz) H63.out)
          clear ht
          go_wp2
          go_ret
          exact ⟨by rw [HC.out]; rfl, rfl⟩
set_option maxRecDepth 3000 in
set_option maxHeartbeats 800000 in
theorem rWire_any (n : List (List UInt8)) (ao : Option Addr) (len cap : Nat) (w : World) (hl : Hid (n.length = len)) (hs : SlS w ao n) (hm : Hid (N.Small n)) :
    Calls Tryz.prog 91 #[.slice ao len cap] w fun e w' => ∃ v, e = .returned v ∧ OwnB w' w.heap.size v (N.wire n) ∧ Below w.heap.size w w' := by
  have HS := hide hs
  have hlen : len ≤ 1000000 := by rw [← hl.out]; exact hm.out.1
  clear hs
  go_enter Tryz.func91, Tryz.ntmps91
  go_wp2
  go_loopw [4, 3] (fun i v wr => ∃ j : Nat, i = .int .i64 (j : Int) ∧ j ≤ len ∧ OwnB wr w.heap.size v (N.body (n.take j)) ∧ Below w.heap.size w wr) (fun i _ _ => len - (intOf i).toNat)
  case atStart => exact ⟨0, rfl, by omega, OwnB.nil _ _, Below.refl _ _⟩
  case round =>
    obtain ⟨j, rfl, hj, hO, hB⟩ := hrel
    have hz := hB.size
    have hbl := N.body_len (n.take j)
    have hsj := hm.out.size j (by have := hl.out; omega)
    by_cases hlt : j < len
    · obtain ⟨b1, o1, rfl, hb1, hc1⟩ := HS.out (by have := hl.out; omega)
      have hx0 := hc1 j (by have := hl.out; omega)
      have hx := (hB.cell (p := ⟨b1, o1 + j, none⟩) hb1).trans hx0
      have hn := N.body_next n j (by have := hl.out; omega)
      have hxl := hm.out.at j
      clear hc1
      generalize n.getD j [] = x at hx hn hxl hx0
      have HN := hide hn
      have HX0 := hide hx0
      have HO := hide hO
      have HB := hide hB
      have hj1 : (j : Int) < (len : Int) := by omega
      have hbw : b1 < wr.heap.size := by omega
      clear hn hO hB hx0
      go_wp2
      go_region_law (first
        | (refine step_append_B rfl (.tmp 11) (.tmp 18) rfl w.heap.size _ (N.body (n.take j)) (by simp [Act.eval]; rfl) (by exact HO.out.alloc _) ⟨wr.heap.size, 0, none⟩ 1 1 [UInt8.ofNat x.length] (by simp [Act.eval]) rfl (by exact SlL.oneI wr ((x.length : Int) % 256) (UInt8.ofNat x.length) 5 (by rw [UInt8.toNat_ofNat']; omega)) (by simp; omega) (by simp; omega) ?_; intro v4 w4 hO4 hG4; have hB4 := grown_below (w := (wr.alloc (.cells #[.int .u8 ((x.length : Int) % 256)] 5)).drew) (HO.out.alloc _) hG4 (below_drew (HB.out.alloc hz _)) (by show _ ≤ (wr.alloc _).heap.size; simp; omega); have hx4 : w4.cell? ⟨b1, o1 + j, none⟩ = some (.string ⟨x.toArray⟩) := (hB4.cell (p := ⟨b1, o1 + j, none⟩) hb1).trans HX0.out; have hz4 := hB4.size; have HO4 := hide hO4; have HB4 := hide hB4; clear hG4 hO4 hB4)
        | (refine step_append_BS rfl (.tmp 19) (.tmp 23) rfl w.heap.size _ _ (by simp [Act.eval]; rfl) (by exact HO4.out) x (by simp [Act.eval]) (by simp only [List.length_append, List.length_singleton]; omega) hz4 ?_; intro v5 w5 hO5 hG5; have HB5 := hide (grown_below HO4.out hG5 HB4.out hz4); have HO5 := hide hO5; clear hG5 hO5))
      all_goals
        go_wp2
        go_roundw
        case rel => exact ⟨j + 1, by go_num, by omega, (by rw [HN.out]; exact HO5.out), HB5.out⟩
        case measure => simp [intOf]; omega
    · obtain rfl : j = len := by omega
      go_wp2_with (at_builtin; refine wpList_append_B rfl (.tmp 25) (.tmp 26) rfl w.heap.size _ (N.body (n.take j)) rfl (by exact hO.alloc _) _ _ _ [0] rfl rfl (SlL.oneI _ _ _ _ (by rfl)) (by simp) (by omega) (by simp; omega) ?_; intro v4 w4 hO4 hG4; have hB4 := grown_below (hO.alloc _) hG4 (hB.alloc hz _) (by simp; omega); clear hG4 hO)
      go_ret
      refine ⟨_, rfl, ?_, hB4⟩
      have ht : n.take j = n := by rw [← hl.out]; exact List.take_length
      rw [ht] at hO4
      exact hO4
end Go.Proofs.YtdldaphkiphpnaaGreat

/- stage3/RefO -/
/- signetref3's Open. -/
namespace Go.Proofs.YtdldaphkiphpnaaGreat
open Go.RowKit
set_option maxRecDepth 3000 in
set_option maxHeartbeats 1000000 in
theorem rOpen_any (b : List UInt8) (ao : Option Addr) (len cap : Nat) (w : World) (hl : Hid (b.length = len)) (hs : SlL w ao b) (hm : len ≤ 1000000000) (hcap : len ≤ cap) :
    Calls Tryz.prog 129 #[.slice ao len cap] w fun e w' => Opened b w.heap.size w e w' := by
  have HS := hide hs
  clear hs
  go_enter Tryz.func129, Tryz.ntmps129
  go_wp2
  go_loopw [6, 5] (fun i v wr => ∃ (j : Nat) (n : List (List UInt8)), i = .int .i64 (j : Int) ∧ j ≤ len ∧ Hid (N.opn b = (N.opn (b.drop j)).map (n ++ ·)) ∧ Hid (j + 1 = N.size n) ∧ n.length ≤ j ∧ OwnS wr w.heap.size v n ∧ Below w.heap.size w wr) (fun i _ _ => len + 1 - (intOf i).toNat)
  case atStart => exact ⟨0, [], rfl, by omega, (by show _ = _; simp), rfl, by simp, OwnS.nil _ _, Below.refl _ _⟩
  case round =>
    obtain ⟨j, n, rfl, hj, HO, HZ, hnl, hO, hB⟩ := hrel
    have hz := hB.size
    by_cases hlt : j < len
    · obtain ⟨b1, o1, rfl, hb1, hc1⟩ := HS.out (by have := hl.out; omega)
      have hx := (hB.cell (p := ⟨b1, o1 + j, none⟩) hb1).trans (hc1 j (by have := hl.out; omega))
      have hz0 := N.opn_zero b j (by have := hl.out; omega)
      have hgr := N.opn_great b j (by have := hl.out; omega)
      have hnx := N.opn_next b j (by have := hl.out; omega)
      clear hc1
      have hk := (b.getD j 0).toNat_lt
      generalize (b.getD j 0).toNat = k at hx hz0 hgr hnx hk
      by_cases h0 : k = 0
      · have HR : Hid (N.opn b = some n) := by rw [HO.out, hz0 h0]; show _ = _; simp
        clear hz0 hgr hnx HO
        subst h0
        by_cases h255 : 255 < j + 1
        · go_wp2
          go_ret3
          exact ⟨Or.inr (Or.inr ⟨n, HR.out, by rw [← HZ.out]; exact h255, rfl⟩), hB⟩
        · go_wp2
          go_ret3
          refine ⟨Or.inl ⟨n, _, HR.out, by rw [← HZ.out]; omega, ?_, hO⟩, hB⟩
          rw [← HZ.out]; rfl
      · have hne : ((k : Int) == 0) = false := by simp; omega
        rcases Nat.lt_or_ge 63 k with h63 | h63
        · have HR : Hid (N.opn b = none) := by rw [HO.out, hgr h63]; exact rfl
          clear hz0 hgr hnx HO
          go_wp2
          go_ret3
          exact ⟨Or.inr (Or.inl ⟨HR.out, rfl⟩), hB⟩
        · have h1 := hnx h0 h63
          rcases Nat.lt_or_ge (len - j - 1) k with hov | hov
          · have HR : Hid (N.opn b = none) := by rw [HO.out, h1, N.opn_out b _ (by have := hl.out; omega)]; exact rfl
            have hov2 : (len : Int) - (j : Int) - 1 < (k : Int) := by omega
            clear hz0 hgr hnx HO h1
            go_wp2
            go_ret3
            exact ⟨Or.inr (Or.inl ⟨HR.out, rfl⟩), hB⟩
          · have hov2 : ¬ ((len : Int) - (j : Int) - 1 < (k : Int)) := by omega
            obtain ⟨ao', hsl, hs'⟩ := slice_mid (k := j + 1) (m := k) (x := (j : Int) + 1) (y := (j : Int) + 1 + (k : Int)) (by omega) (by omega) (HS.out.below hB (Nat.le_refl _)) hl.out (by omega) hcap
            have hxl : ((b.drop (j + 1)).take k).length = k := by rw [List.length_take, List.length_drop, hl.out]; omega
            have hst := run_str k (cap - (j + 1)) hs' hxl
            have HR : Hid (N.opn b = (N.opn (b.drop (j + 1 + k))).map ((n ++ [(b.drop (j + 1)).take k]) ++ ·)) := by
              rw [HO.out, h1, N.map_map]; exact rfl
            have HZ2 : Hid (j + 1 + k + 1 = N.size (n ++ [(b.drop (j + 1)).take k])) := by
              show _ = _
              rw [N.size_one, hxl, ← HZ.out]; omega
            generalize (b.drop (j + 1)).take k = x at hst HR HZ2
            clear hz0 hgr hnx h1 hs' HO HZ hxl
            go_wp2_with (at_builtin; refine wpList_append_S rfl (.tmp 30) (.tmp 40) rfl w.heap.size _ n rfl (by exact hO.alloc _) _ _ _ [x] rfl rfl (SlS.one _ _ _) (by simp; omega) (by simp; omega) ?_; intro v4 w4 hO4 hG4; have hB4 := grown_belowS (hO.alloc _) hG4 (hB.alloc hz _) (by simp; omega); clear hG4 hO)
            go_roundw
            case rel => exact ⟨j + 1 + k, _, by go_num, by omega, HR, HZ2, by simp; omega, hO4, hB4⟩
            case measure => simp [intOf]; omega
    · have HR : Hid (N.opn b = none) := by rw [HO.out, N.opn_out b j (by have := hl.out; omega)]; exact rfl
      go_wp2
      go_ret3
      exact ⟨Or.inr (Or.inl ⟨HR.out, rfl⟩), hB⟩
end Go.Proofs.YtdldaphkiphpnaaGreat

