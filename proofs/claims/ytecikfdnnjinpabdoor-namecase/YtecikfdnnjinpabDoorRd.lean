/- name.reading in memory: what has been read of a text; the steps of reading, plain. -/
import Derived.Test.YtecikfdnnjinpabDoorText
namespace Go.Proofs.YtecikfdnnjinpabDoor
open Go.RowKit
namespace N
structure St where
  n : List (List UInt8)
  l : List UInt8
  esc : Bool
  d : Nat
  num : Nat
def St.zero : St := ⟨[], [], false, 0, 0⟩
def dig (r : Nat) : Bool := decide (48 ≤ r ∧ r ≤ 57)
def endL (st : St) : Option St := if st.l = [] then none else some ⟨st.n ++ [st.l], [], st.esc, st.d, st.num⟩
def stpD (st : St) (r : Nat) : Option St :=
  if dig r = false then none
  else if st.d + 1 < 3 then some ⟨st.n, st.l, st.esc, st.d + 1, st.num * 10 + (r - 48)⟩
  else if 255 < st.num * 10 + (r - 48) then none
  else some ⟨st.n, st.l ++ [UInt8.ofNat (st.num * 10 + (r - 48))], false, 0, 0⟩
/- a rune r of the bytes p -/
def stpR (st : St) (r : Nat) (p : List UInt8) : Option St :=
  if st.esc = true then (if 0 < st.d ∨ dig r = true then stpD st r else some ⟨st.n, st.l ++ p, false, st.d, st.num⟩)
  else if r = 92 then some ⟨st.n, st.l, true, st.d, st.num⟩
  else if r = 46 then endL st
  else some ⟨st.n, st.l ++ p, st.esc, st.d, st.num⟩
def stp (st : St) (c : UInt8) : Option St := stpR st c.toNat [c]
def run : St → List UInt8 → Option St
  | st, [] => some st
  | st, c :: r => (stp st c).bind (run · r)
def WF (st : St) : Prop := (st.d = 0 ∧ st.num = 0) ∨ (st.esc = true ∧ st.d = 1 ∧ st.num ≤ 9) ∨ (st.esc = true ∧ st.d = 2 ∧ st.num ≤ 99)
theorem WF.bounds {st : St} (h : WF st) : st.d ≤ 2 ∧ st.num ≤ 99 := by
  rcases h with ⟨h1, h2⟩ | ⟨_, h1, h2⟩ | ⟨_, h1, h2⟩ <;> omega
theorem dig_true {r : Nat} (h : dig r = true) : 48 ≤ r ∧ r ≤ 57 := of_decide_eq_true h
theorem dig_false {r : Nat} (h : dig r = false) : ¬ (48 ≤ r ∧ r ≤ 57) := of_decide_eq_false h
theorem WF.stp {st st' : St} (h : WF st) {r : Nat} {p : List UInt8} (hs : stpR st r p = some st') : WF st' := by
  unfold stpR at hs
  split at hs
  · rename_i he
    split at hs
    · unfold stpD at hs
      split at hs
      · cases hs
      · rename_i hd
        have hd2 := dig_true (by simpa using hd)
        split at hs
        · cases hs
          rcases h with ⟨h1, h2⟩ | ⟨_, h1, h2⟩ | ⟨_, h1, h2⟩
          · exact Or.inr (Or.inl ⟨he, by simp [h1], by simp [h2]; omega⟩)
          · exact Or.inr (Or.inr ⟨he, by simp [h1], by simp; omega⟩)
          · omega
        · split at hs
          · cases hs
          · cases hs; exact Or.inl ⟨rfl, rfl⟩
    · rename_i hd
      cases hs
      rcases h with h | ⟨_, h1, _⟩ | ⟨_, h1, _⟩
      · exact Or.inl h
      · exfalso; exact hd (Or.inl (by omega))
      · exfalso; exact hd (Or.inl (by omega))
  · rename_i he
    have h0 : st.d = 0 ∧ st.num = 0 := by
      rcases h with h | ⟨h1, _⟩ | ⟨h1, _⟩
      · exact h
      · exact absurd h1 he
      · exact absurd h1 he
    split at hs
    · cases hs; exact Or.inl h0
    · split at hs
      · unfold endL at hs
        split at hs
        · cases hs
        · cases hs; exact Or.inl h0
      · cases hs; exact Or.inl h0
theorem run_app (st : St) (a b : List UInt8) : run st (a ++ b) = (run st a).bind (run · b) := by
  induction a generalizing st with
  | nil => rfl
  | cons c a ih =>
    show (stp st c).bind (run · (a ++ b)) = ((stp st c).bind (run · a)).bind (run · b)
    cases h : stp st c with
    | none => rfl
    | some st' => exact ih st'
theorem run_one (st : St) (c : UInt8) : run st [c] = stp st c := by
  show (stp st c).bind (run · []) = _
  cases stp st c <;> rfl
/- bytes of no rune of ASCII: they are themselves -/
theorem run_plain : ∀ (p : List UInt8) (st : St), st.esc = false → (∀ c ∈ p, 128 ≤ c.toNat) → run st p = some ⟨st.n, st.l ++ p, st.esc, st.d, st.num⟩
  | [], st, _, _ => by simp [run]
  | c :: p, st, he, hp => by
    have hc := hp c (by simp)
    have h1 : stp st c = some ⟨st.n, st.l ++ [c], st.esc, st.d, st.num⟩ := by
      unfold stp stpR; rw [if_neg (by simp [he]), if_neg (by omega), if_neg (by omega)]
    show (stp st c).bind (run · p) = _
    rw [h1]
    show run _ p = _
    rw [run_plain p ⟨st.n, st.l ++ [c], st.esc, st.d, st.num⟩ he (fun x hx => hp x (by simp [hx]))]
    simp
theorem stpR_high (st : St) (r : Nat) (p : List UInt8) (hr : 128 ≤ r) (hp : ∀ c ∈ p, 128 ≤ c.toNat) (h0 : p ≠ []) : stpR st r p = run st p := by
  have hd : dig r = false := decide_eq_false (by omega)
  cases p with
  | nil => exact absurd rfl h0
  | cons c p =>
    have hc := hp c (by simp)
    have hdc : dig c.toNat = false := decide_eq_false (by omega)
    have hp' : ∀ x ∈ p, 128 ≤ x.toNat := fun x hx => hp x (by simp [hx])
    show _ = (stp st c).bind (run · p)
    unfold stp stpR
    by_cases he : st.esc = true
    · rw [if_pos he, if_pos he]
      by_cases h1 : 0 < st.d
      · rw [if_pos (Or.inl h1), if_pos (Or.inl h1)]
        unfold stpD; rw [if_pos hd, if_pos hdc]; rfl
      · rw [if_neg (by simp [hd]; omega), if_neg (by simp [hdc]; omega)]
        show _ = run _ p
        rw [run_plain p _ rfl hp']
        simp
    · rw [if_neg he, if_neg he, if_neg (by omega), if_neg (by omega), if_neg (by omega), if_neg (by omega)]
      show _ = run _ p
      rw [run_plain p _ (by simpa using he) hp']
      simp
def fin (st : St) : Option (List (List UInt8)) := if st.esc = true then none else if st.l ≠ [] ∨ st.n = [] then (endL st).map (·.n) else some st.n
def rd (bs : List UInt8) : Option (List (List UInt8)) := if bs = [46] then some [] else (run St.zero bs).bind fin
/- how much is read -/
def Room (k : Nat) (st : St) : Prop := st.n.length + st.l.length ≤ k ∧ ∀ l ∈ st.n, l.length ≤ k
theorem Room.stp {k : Nat} {st st' : St} (h : Room k st) {r : Nat} {p : List UInt8} (hp : 1 ≤ p.length) (hs : stpR st r p = some st') : Room (k + p.length) st' := by
  have hr : ∀ l ∈ st.n, l.length ≤ k + p.length := fun l hl => by have := h.2 l hl; omega
  have h1 := h.1
  unfold stpR at hs
  split at hs
  · split at hs
    · unfold stpD at hs
      split at hs
      · cases hs
      · split at hs
        · cases hs; exact ⟨by simp; omega, hr⟩
        · split at hs
          · cases hs
          · cases hs; exact ⟨by simp; omega, hr⟩
    · cases hs; exact ⟨by simp; omega, hr⟩
  · split at hs
    · cases hs; exact ⟨by simp; omega, hr⟩
    · split at hs
      · unfold endL at hs
        split at hs
        · cases hs
        · cases hs
          refine ⟨by simp; omega, fun l hl => ?_⟩
          rcases List.mem_append.1 hl with h2 | h2
          · exact hr l h2
          · rw [List.mem_singleton.1 h2]; omega
      · cases hs; exact ⟨by simp; omega, hr⟩
end N
/- a row of memory -/
def RowAt (wr : World) (g : Nat) (t : TypeId) (c : Array Value) : Prop := wr.heap[g]? = some (.cells c t (0, 0))
theorem RowAt.cell {wr : World} {g : Nat} {t : TypeId} {c : Array Value} (h : RowAt wr g t c) (j : Nat) : wr.cell? ⟨g, j, none⟩ = c[j]? := cell_of_row wr g j c t (0, 0) h
theorem RowAt.frozen {wr : World} {g : Nat} {t : TypeId} {c : Array Value} (h : RowAt wr g t c) (j : Nat) : wr.frozen? ⟨g, j, none⟩ = false := frozen_of_row wr g j c t h
theorem RowAt.set {wr : World} {g : Nat} {t : TypeId} {c : Array Value} (h : RowAt wr g t c) (j : Nat) (v : Value) : RowAt (wr.setCell ⟨g, j, none⟩ v) g t (c.setIfInBounds j v) := heap_setCell_same wr g j c t v h
theorem RowAt.lt {w : World} {g : Nat} {t : TypeId} {c : Array Value} (h : RowAt w g t c) : g < w.heap.size := (Array.getElem?_eq_some_iff.1 h).1
theorem RowAt.below {w w' : World} {B g : Nat} {t : TypeId} {c : Array Value} (h : RowAt w g t c) (hb : Below B w w') (hg : g < B) : RowAt w' g t c := by
  unfold RowAt; rw [hb.block g hg]; exact h
theorem RowAt.alloc {w : World} {g : Nat} {t : TypeId} {c : Array Value} (h : RowAt w g t c) (o : Obj) : RowAt (w.alloc o) g t c := by
  unfold RowAt; rw [Below.heap_alloc _ _ _ h.lt]; exact h
theorem RowAt.new (w : World) (t : TypeId) (c : Array Value) : RowAt (w.alloc (.cells c t)) w.heap.size t c := heap_alloc_last w _
/- rows of other types are other rows -/
theorem own_ne {w : World} {B e n T t : Nat} {v : Value} {xs : List Value} {c : Array Value} (h : w.ownsRow B e 1 v n xs) (hT : RowAt w T t c) (hne : t ≠ e) : some T ≠ v.ownBlock := by
  intro e1
  rcases h.2 with ⟨rfl, _⟩ | ⟨g, cap, cur, rfl, _, hg, _⟩
  · simp [Value.ownBlock] at e1
  · simp [Value.ownBlock] at e1
    subst e1
    unfold RowAt at hT
    rw [hT] at hg
    simp at hg
    exact hne hg.2
theorem own_set {w : World} {B e n T t : Nat} {v : Value} {xs : List Value} {c : Array Value} (h : w.ownsRow B e 1 v n xs) (hT : RowAt w T t c) (hne : t ≠ e) (j : Nat) (x : Value) : (w.setCell ⟨T, j, none⟩ x).ownsRow B e 1 v n xs := by
  have h1 := own_ne h hT hne
  refine ⟨h.1, ?_⟩
  rcases h.2 with h2 | ⟨g, cap, cur, rfl, h3, hg, h4⟩
  · exact Or.inl h2
  · refine Or.inr ⟨g, cap, cur, rfl, h3, ?_, h4⟩
    rw [heap_setCell_other _ _ _ _ (fun e1 => h1 (by simp [Value.ownBlock, e1]))]
    exact hg
theorem row_grown {w w' : World} {B e n T t : Nat} {v : Value} {xs : List Value} {c : Array Value} (h : w.ownsRow B e 1 v n xs) (hT : RowAt w T t c) (hne : t ≠ e) (hg : w.grownBy w' v.ownBlock) : RowAt w' T t c := by
  unfold RowAt; rw [hg.block T hT.lt (own_ne h hT hne)]; exact hT
theorem own_grown {w w' : World} {B e e' n n' : Nat} {v v' : Value} {xs xs' : List Value} (h : w.ownsRow B e 1 v n xs) (h' : w.ownsRow B e' 1 v' n' xs') (hne : e' ≠ e) (hg : w.grownBy w' v.ownBlock) : w'.ownsRow B e' 1 v' n' xs' := by
  refine h'.kept hg ?_
  rcases h'.2 with ⟨rfl, _⟩ | ⟨g, cap, cur, rfl, _, hgg, _⟩
  · exact Or.inl rfl
  · right
    exact own_ne h hgg hne
/- what goes through a text's runes is left alone -/
def Keeps (w w' : World) : Prop := ∀ (K : Nat) (s : ByteArray) (pos : Nat), w.heap[K]? = some (.stringIter s pos) → w'.heap[K]? = some (.stringIter s pos)
theorem Keeps.refl (w : World) : Keeps w w := fun _ _ _ h => h
theorem Keeps.trans {w w' w'' : World} (h : Keeps w w') (h' : Keeps w' w'') : Keeps w w'' := fun K s pos hk => h' K s pos (h K s pos hk)
theorem Keeps.alloc (w : World) (o : Obj) : Keeps w (w.alloc o) := fun K s pos hk => by
  rw [Below.heap_alloc _ _ _ (Array.getElem?_eq_some_iff.1 hk).1]; exact hk
theorem Keeps.set {w : World} {T t : Nat} {c : Array Value} (hT : RowAt w T t c) (j : Nat) (x : Value) : Keeps w (w.setCell ⟨T, j, none⟩ x) := fun K s pos hk => by
  rw [heap_setCell_other _ _ _ _ (fun e => ?_)]
  · exact hk
  · have e1 : K = T := e
    subst e1
    unfold RowAt at hT
    rw [hk] at hT; cases hT
theorem Keeps.grown {w w' : World} {B e n : Nat} {v : Value} {xs : List Value} (h : w.ownsRow B e 1 v n xs) (hg : w.grownBy w' v.ownBlock) : Keeps w w' := fun K s pos hk => by
  rw [hg.block K (Array.getElem?_eq_some_iff.1 hk).1 ?_]
  · exact hk
  · intro e1
    rcases h.2 with ⟨rfl, _⟩ | ⟨g, cap, cur, rfl, _, hgg, _⟩
    · simp [Value.ownBlock] at e1
    · simp [Value.ownBlock] at e1
      subst e1
      rw [hk] at hgg; cases hgg
/- the reading in block T has come to st -/
def Rd (B T : Nat) (st : N.St) (w : World) : Prop :=
  ∃ an cn al cl, RowAt w T 58 #[.slice an st.n.length cn, .slice al st.l.length cl, .bool st.esc, .int .i64 (st.d : Int), .int .i64 (st.num : Int)] ∧ OwnS w B (.slice an st.n.length cn) st.n ∧ OwnB w B (.slice al st.l.length cl) st.l ∧ B ≤ T ∧ (al = none → cl = 0) ∧ st.l.length ≤ cl
end Go.Proofs.YtecikfdnnjinpabDoor
