/- (*Zone).find: a name's node, or an empty one. -/
import Derived.Test.YtdldaphkiphpnaaGreatWay
import Derived.Laws.AppendOwnNone
namespace Go.Proofs.YtdldaphkiphpnaaGreat
open Go.RowKit
/- what stands at the path of a name -/
def path (n : List (List UInt8)) : List (List UInt8) := (N.lowN n).reverse
set_option maxRecDepth 5000 in
theorem path_len (n : List (List UInt8)) : (path n).length = n.length := by unfold path; rw [List.length_reverse, N.lowN_len]
set_option maxRecDepth 5000 in
theorem path_low (n : List (List UInt8)) : Z.Low (path n) := by
  have h := Z.Low.of n
  unfold Z.Low at h
  unfold path Z.Low
  have h2 : N.lowN (N.lowN n).reverse = (N.lowN (N.lowN n)).reverse := List.map_reverse
  rw [h2, h]
/- x is the node at p, or stands for it: new, with nothing in it -/
structure Found (w w' : World) (G : List (List UInt8) → Option Nd) (C : List (List UInt8) → Nat → Option Z.St) (K : Nat) (p : List (List UInt8)) (x : Nd) : Prop where
  node : NodeIs w' G C K p x
  who : G p = some x ∨ (G p = none ∧ w.heap.size ≤ x.n ∧ w.heap.size ≤ x.s ∧ w.heap.size ≤ x.b)
  bel : Below w.heap.size w w'
set_option maxRecDepth 5000 in
theorem TreeAt.no_sets {w : World} {ρ : Nat → Role} {G : List (List UInt8) → Option Nd} {C : List (List UInt8) → Nat → Option Z.St} {K : Nat} (T : TreeAt w ρ G C K) {p : List (List UInt8)} (h : G p = none) (t : Nat) : C p t = none := by
  cases hC : C p t with
  | none => rfl
  | some S => have := (T.cov p t S hC).1; rw [h] at this; cases this
set_option maxRecDepth 5000 in
theorem TreeAt.no_below {w : World} {ρ : Nat → Role} {G : List (List UInt8) → Option Nd} {C : List (List UInt8) → Nat → Option Z.St} {K : Nat} (T : TreeAt w ρ G C K) {p : List (List UInt8)} (h : G p = none) (r : List (List UInt8)) : G (p ++ r) = none := by
  cases hg : G (p ++ r) with
  | none => rfl
  | some z => have := T.pre r p (by rw [hg]; rfl); rw [h] at this; cases this
set_option maxRecDepth 5000 in
theorem new_node {w : World} {ρ : Nat → Role} {G : List (List UInt8) → Option Nd} {C : List (List UInt8) → Nat → Option Z.St} {K : Nat} (T : TreeAt w ρ G C K) {p : List (List UInt8)} (h : G p = none) (w1 : World) :
    NodeIs (((w1.alloc (.map #[] 0)).alloc (.map #[] 0)).alloc (.cells #[.map (some w1.heap.size), .map (some (w1.heap.size + 1))] 96)) G C K p ⟨w1.heap.size + 2, w1.heap.size, w1.heap.size + 1, fun _ => 0⟩ := by
  refine ⟨?_, ?_, ?_, fun t S hS => by rw [T.no_sets h t] at hS; cases hS⟩
  · have := RowAt.new ((w1.alloc (.map #[] 0)).alloc (.map #[] 0)) 96 #[.map (some w1.heap.size), .map (some (w1.heap.size + 1))]
    simpa using this
  · refine MapU.ext (h := fun _ => none) (((MapU.made w1 K).heap ?_)) fun t _ => by rw [T.no_sets h t]; rfl
    rw [Below.heap_alloc _ _ _ (by simp; omega), Below.heap_alloc _ _ _ (by simp)]
  · refine MapS.ext (h := fun _ => none) ?_ fun l => by rw [T.no_below h [l]]; rfl
    have := MapS.made (w1.alloc (.map #[] 0)) K
    rw [World.size_alloc] at this
    exact this.heap (Below.heap_alloc _ _ _ (by simp))
set_option maxRecDepth 5000 in
theorem wayV_get (G : List (List UInt8) → Option Nd) (m : List (List UInt8)) (k j : Nat) (h : j ≤ k) : (wayV G m k)[j]? = some (ptr (nodeN G (m.reverse.take j))) := by
  unfold wayV
  rw [List.getElem?_map, List.getElem?_range (by omega)]; rfl
/- where the way ends -/
set_option maxRecDepth 5000 in
theorem way_end {w w1 : World} {ρ : Nat → Role} {G : List (List UInt8) → Option Nd} {C : List (List UInt8) → Nat → Option Z.St} {K : Nat} (T : TreeAt w ρ G C K) {n : List (List UInt8)} {k g c : Nat} (hk : k ≤ n.length) (h1 : (G ((N.lowN n).reverse.take k)).isSome) (h2 : k < n.length → G ((N.lowN n).reverse.take (k + 1)) = none)
    (hrow : w1.ownsRow w.heap.size 80 1 (.slice (some ⟨g, 0, none⟩) (k + 1) c) (k + 1) (wayV G (N.lowN n) k)) :
    (k < n.length ∧ G (path n) = none) ∨ (k = n.length ∧ ∃ x, G (path n) = some x ∧ w1.cell? ⟨g, n.length, none⟩ = some (.pointer (some ⟨x.n, 0, none⟩))) := by
  rcases Nat.lt_or_ge k n.length with hlt | hge
  · refine Or.inl ⟨hlt, ?_⟩
    have := T.no_below (h2 hlt) ((path n).drop (k + 1))
    unfold path at this ⊢
    rwa [List.take_append_drop] at this
  · have e : k = n.length := by omega
    refine Or.inr ⟨e, ?_⟩
    have e2 : (N.lowN n).reverse.take k = path n := by
      unfold path; exact List.take_of_length_le (by rw [List.length_reverse, N.lowN_len]; omega)
    rw [e2] at h1
    obtain ⟨x, hx⟩ := Option.isSome_iff_exists.1 h1
    refine ⟨x, hx, ?_⟩
    rw [World.ownsRow.cellAt hrow n.length (by omega), wayV_get _ _ _ _ (by omega), ← e, e2, nodeN_of hx]; rfl
set_option maxHeartbeats 1000000 in
set_option maxRecDepth 5000 in
theorem find_any (w : World) (Zb : Nat) (av : Value) (cnt : Int) (ρ : Nat → Role) (G : List (List UInt8) → Option Nd) (C : List (List UInt8) → Nat → Option Z.St) (K : Nat) (T : TreeAt w ρ G C K) (hz : RowAt w Zb 83 #[av, ptr (nodeN G []), .int .i64 cnt]) (n : List (List UInt8)) (ao : Option Addr) (len cap : Nat) (hl : Hid (n.length = len)) (hs : SlS w ao n) (hm : Hid (N.Small n)) :
    Calls Tryz.prog 51 #[ptr Zb, .slice ao len cap] w fun e w' => ∃ x : Nd, e = .returned (.pointer (some ⟨x.n, 0, none⟩)) ∧ Found w w' G C K (path n) x := by
  have hw := way_any w Zb av cnt ρ G C K T hz n ao len cap hl hs hm
  have HT := hide T
  have hlen : len ≤ 1000000 := by rw [← hl.out]; exact hm.out.1
  clear hs T hz
  unfold ptr at hw ⊢
  go_enter Tryz.func51, Tryz.ntmps51
  go_wp2_with (first
    | (go_at_call 55; refine hw.mono ?_; rintro e w1 ⟨v, rfl, k, hk, hG1, hG2, hrow, hbel⟩; obtain ⟨g, c, rfl⟩ := ownsRow_succ hrow; have he := way_end HT.out hk hG1 hG2 hrow; rw [hl.out] at he; clear hG1 hG2 hrow hk; rcases he with ⟨hkk, hno⟩ | ⟨hkk, x, hx, hcell⟩)
    | (go_at_call 42; refine (newNode_any _).mono ?_; rintro e w2 ⟨rfl, hw2⟩))
  · go_ret
    refine ⟨⟨w1.heap.size + 2, w1.heap.size, w1.heap.size + 1, fun _ => 0⟩, rfl, ⟨new_node (HT.out.below_ hbel) hno w1, Or.inr ⟨hno, ?_, ?_, ?_⟩, ?_⟩⟩
    · have := hbel.size; show _ ≤ w1.heap.size + 2; omega
    · exact hbel.size
    · have := hbel.size; show _ ≤ w1.heap.size + 1; omega
    · exact ((hbel.alloc hbel.size _).alloc (by have := hbel.size; simp; omega) _).alloc (by have := hbel.size; simp; omega) _
  · go_ret
    exact ⟨x, rfl, ⟨(HT.out.below_ hbel).node _ x hx, Or.inl hx, hbel⟩⟩
end Go.Proofs.YtdldaphkiphpnaaGreat

/- Lists of names, of data, of records in memory: the call's own; what appends to them do. -/
namespace Go.Proofs.YtdldaphkiphpnaaGreat
open Go.RowKit
/- all rows of bytes, of texts, are as they were -/
structure KB (w w' : World) : Prop where
  size : w.heap.size ≤ w'.heap.size
  rows : ∀ (g : Nat) (c : Array Value) (et : TypeId) (fr : Nat × Nat), w.heap[g]? = some (Obj.cells c et fr) → et = 5 ∨ et = 9 → w'.heap[g]? = some (Obj.cells c et fr)
set_option maxRecDepth 5000 in
theorem KB.refl (w : World) : KB w w := ⟨Nat.le_refl _, fun _ _ _ _ h _ => h⟩
set_option maxRecDepth 5000 in
theorem KB.trans {a b c : World} (h : KB a b) (k : KB b c) : KB a c := ⟨Nat.le_trans h.size k.size, fun g x et fr hg he => k.rows g x et fr (h.rows g x et fr hg he) he⟩
set_option maxRecDepth 5000 in
theorem KB.of_below {w w' : World} (h : Below w.heap.size w w') : KB w w' := ⟨h.size, fun g _ _ _ hg _ => (h.block g (Array.getElem?_eq_some_iff.1 hg).1).trans hg⟩
set_option maxRecDepth 5000 in
theorem KB.alloc (w : World) (o : Obj) : KB w (w.alloc o) := .of_below ((Below.refl _ w).alloc (Nat.le_refl _) o)
set_option maxRecDepth 5000 in
theorem KB.drewN (w : World) (n : Nat) : KB w (w.drewN n) := .of_below (below_drewN (Below.refl _ w) n)
set_option maxRecDepth 5000 in
theorem KB.drew (w : World) : KB w w.drew := ⟨Nat.le_refl _, fun _ _ _ _ h _ => h⟩
set_option maxRecDepth 5000 in
theorem KB.turn {b : Nat} {w w' : World} (h : Turn b w w') : KB w w' := ⟨Nat.le_of_eq h.size.symm, fun g c et fr hg _ => by
  obtain ⟨es, k, hb⟩ := h.was
  exact (h.block g (fun e => by rw [e, hb] at hg; cases hg)).trans hg⟩
set_option maxRecDepth 5000 in
theorem KB.zmv {ρ : Nat → Role} {w w' : World} (h : ZMv ρ w w') (hk : ∀ i, ρ i ≠ .none → ZObj w i) : KB w w' := ⟨h.size, fun g c et fr hg he => by
  refine (h.block g (Array.getElem?_eq_some_iff.1 hg).1 (Classical.byContradiction fun h0 => ?_)).trans hg
  rcases hk g h0 with ⟨es, k, hb⟩ | ⟨a, b, hb⟩
  · rw [hb] at hg; cases hg
  · rw [hb] at hg; injection hg with hg; injection hg with _ hg _
    rcases he with rfl | rfl
    · exact absurd hg (by decide)
    · exact absurd hg (by decide)⟩
set_option maxRecDepth 5000 in
theorem KB.grown {w w' : World} {base size k : Nat} {e : TypeId} {v : Value} {xs : List Value} (hv : w.ownsRow base e size v k xs) (he : e ≠ 5 ∧ e ≠ 9) (hg : w.grownBy w' v.ownBlock) : KB w w' := ⟨hg.size, fun g c et fr hb het => by
  refine (hg.block g (Array.getElem?_eq_some_iff.1 hb).1 (not_own hv hb ?_)).trans hb
  rcases het with rfl | rfl
  · exact fun e => he.1 e.symm
  · exact fun e => he.2 e.symm⟩
/- rows of bytes, of texts, with their types -/
def TyL (w : World) (ao : Option Addr) (l : List UInt8) : Prop := SlL w ao l ∧ ∀ a, ao = some a → ∃ c fr, w.heap[a.block]? = some (Obj.cells c 5 fr)
def TyS (w : World) (ao : Option Addr) (n : List (List UInt8)) : Prop := SlS w ao n ∧ ∀ a, ao = some a → ∃ c fr, w.heap[a.block]? = some (Obj.cells c 9 fr)
set_option maxRecDepth 5000 in
theorem TyL.kb {w w' : World} {ao : Option Addr} {l : List UInt8} (h : TyL w ao l) (k : KB w w') : TyL w' ao l := by
  refine ⟨fun hn => ?_, fun a e => ?_⟩
  · obtain ⟨b, o, e, hlt, hc⟩ := h.1 hn
    obtain ⟨c, fr, hb⟩ := h.2 _ e
    have hb : w.heap[b]? = some (Obj.cells c 5 fr) := hb
    refine ⟨b, o, e, Nat.lt_of_lt_of_le hlt k.size, fun j hj => ?_⟩
    rw [← hc j hj]
    exact World.cell?_of_block ((k.rows _ _ _ _ hb (Or.inl rfl)).trans hb.symm)
  · obtain ⟨c, fr, hb⟩ := h.2 a e
    exact ⟨c, fr, k.rows _ _ _ _ hb (Or.inl rfl)⟩
set_option maxRecDepth 5000 in
theorem TyS.kb {w w' : World} {ao : Option Addr} {l : List (List UInt8)} (h : TyS w ao l) (k : KB w w') : TyS w' ao l := by
  refine ⟨fun hn => ?_, fun a e => ?_⟩
  · obtain ⟨b, o, e, hlt, hc⟩ := h.1 hn
    obtain ⟨c, fr, hb⟩ := h.2 _ e
    have hb : w.heap[b]? = some (Obj.cells c 9 fr) := hb
    refine ⟨b, o, e, Nat.lt_of_lt_of_le hlt k.size, fun j hj => ?_⟩
    rw [← hc j hj]
    exact World.cell?_of_block ((k.rows _ _ _ _ hb (Or.inr rfl)).trans hb.symm)
  · obtain ⟨c, fr, hb⟩ := h.2 a e
    exact ⟨c, fr, k.rows _ _ _ _ hb (Or.inr rfl)⟩
/- what an element of a list is in memory: data, a name -/
def EB (w : World) (l : List UInt8) (us : List Value) : Prop := ∃ a c, us = [.slice a l.length c] ∧ TyL w a l ∧ (a = none → c = 0) ∧ l.length ≤ c
def EN (w : World) (n : List (List UInt8)) (us : List Value) : Prop := ∃ a c, us = [.slice a n.length c] ∧ TyS w a n ∧ (a = none → c = 0) ∧ n.length ≤ c
set_option maxRecDepth 5000 in
theorem EB.kb {w w' : World} {l : List UInt8} {us : List Value} (h : EB w l us) (k : KB w w') : EB w' l us := by
  obtain ⟨a, c, h1, h2, h3⟩ := h; exact ⟨a, c, h1, h2.kb k, h3⟩
set_option maxRecDepth 5000 in
theorem EN.kb {w w' : World} {l : List (List UInt8)} {us : List Value} (h : EN w l us) (k : KB w w') : EN w' l us := by
  obtain ⟨a, c, h1, h2, h3⟩ := h; exact ⟨a, c, h1, h2.kb k, h3⟩
/- lists whose elements take sz cells each -/
structure Els {α : Type} (sz : Nat) (E : World → α → List Value → Prop) (w : World) (L : List α) (vss : List (List Value)) : Prop where
  len : vss.length = L.length
  el : ∀ (j : Nat) (x : α) (us : List Value), L[j]? = some x → vss[j]? = some us → us.length = sz ∧ (∀ u ∈ us, u.oneCell' = true) ∧ E w x us
set_option maxRecDepth 5000 in
theorem Els.nil {α : Type} (sz : Nat) (E : World → α → List Value → Prop) (w : World) : Els sz E w [] [] := ⟨rfl, fun j x us h => by simp at h⟩
set_option maxRecDepth 5000 in
theorem Els.kb {α : Type} {sz : Nat} {E : World → α → List Value → Prop} {w w' : World} {L : List α} {vss : List (List Value)} (h : Els sz E w L vss) (hE : ∀ x us, E w x us → E w' x us) : Els sz E w' L vss :=
  ⟨h.len, fun j x us h1 h2 => ⟨(h.el j x us h1 h2).1, (h.el j x us h1 h2).2.1, hE x us (h.el j x us h1 h2).2.2⟩⟩
set_option maxRecDepth 5000 in
theorem Els.app {α : Type} {sz : Nat} {E : World → α → List Value → Prop} {w : World} {L L2 : List α} {vss vss2 : List (List Value)} (h : Els sz E w L vss) (h2 : Els sz E w L2 vss2) : Els sz E w (L ++ L2) (vss ++ vss2) := by
  refine ⟨by rw [List.length_append, List.length_append, h.len, h2.len], fun j x us h3 h4 => ?_⟩
  by_cases hj : j < L.length
  · rw [List.getElem?_append_left hj] at h3
    rw [List.getElem?_append_left (by rw [h.len]; exact hj)] at h4
    exact h.el j x us h3 h4
  · rw [List.getElem?_append_right (by omega)] at h3
    rw [List.getElem?_append_right (by rw [h.len]; omega), h.len] at h4
    exact h2.el _ x us h3 h4
set_option maxRecDepth 5000 in
theorem Els.one {α : Type} {sz : Nat} {E : World → α → List Value → Prop} {w : World} {x : α} {us : List Value} (h1 : us.length = sz) (h2 : ∀ u ∈ us, u.oneCell' = true) (h3 : E w x us) : Els sz E w [x] [us] := by
  refine ⟨rfl, fun j y vs hy hv => ?_⟩
  cases j with
  | zero => simp at hy hv; subst hy; subst hv; exact ⟨h1, h2, h3⟩
  | succ j => simp at hy
set_option maxRecDepth 5000 in
theorem flat_get {sz : Nat} : ∀ (vss : List (List Value)), (∀ us ∈ vss, us.length = sz) → ∀ (j t : Nat) (us : List Value), vss[j]? = some us → t < sz → vss.flatten[j * sz + t]? = us[t]?
  | [], _, j, t, us, h, _ => by simp at h
  | vs :: vss, hl, 0, t, us, h, ht => by
    simp at h; subst h
    rw [List.flatten_cons, Nat.zero_mul, Nat.zero_add, List.getElem?_append_left (by rw [hl vs (by simp)]; exact ht)]
  | vs :: vss, hl, j + 1, t, us, h, ht => by
    have h' : vss[j]? = some us := by simpa using h
    have hv := hl vs (by simp)
    rw [List.flatten_cons, List.getElem?_append_right (by rw [hv, Nat.succ_mul]; omega), hv]
    rw [show (j + 1) * sz + t - sz = j * sz + t by rw [Nat.succ_mul]; omega]
    exact flat_get vss (fun us h => hl us (by simp [h])) j t us h' ht
set_option maxRecDepth 5000 in
theorem Els.sizes {α : Type} {sz : Nat} {E : World → α → List Value → Prop} {w : World} {L : List α} {vss : List (List Value)} (h : Els sz E w L vss) : (∀ us ∈ vss, us.length = sz) ∧ (∀ u ∈ vss.flatten, u.oneCell' = true) ∧ vss.flatten.length = L.length * sz := by
  have key : ∀ us ∈ vss, us.length = sz ∧ ∀ u ∈ us, u.oneCell' = true := fun us hus => by
    obtain ⟨j, hj, rfl⟩ := List.getElem_of_mem hus
    have h1 : vss[j]? = some vss[j] := List.getElem?_eq_getElem hj
    have h2 : L[j]? = some (L[j]'(by rw [← h.len]; exact hj)) := List.getElem?_eq_getElem _
    have := h.el j _ _ h2 h1
    exact ⟨this.1, this.2.1⟩
  refine ⟨fun us hus => (key us hus).1, fun u hu => ?_, ?_⟩
  · obtain ⟨us, h1, h2⟩ := List.mem_flatten.1 hu; exact (key us h1).2 u h2
  · rw [← h.len]
    have : ∀ l : List (List Value), (∀ us ∈ l, us.length = sz) → l.flatten.length = l.length * sz := fun l => by
      induction l with
      | nil => intro _; simp
      | cons a l ih =>
        intro hl
        rw [List.flatten_cons, List.length_append, ih (fun us h => hl us (by simp [h])), hl a (by simp), List.length_cons, Nat.succ_mul]; omega
    exact this vss fun us hus => (key us hus).1
/- the call's own list -/
def OwnL {α : Type} (et : TypeId) (sz : Nat) (E : World → α → List Value → Prop) (w : World) (base : Nat) (v : Value) (L : List α) : Prop :=
  ∃ vss, w.ownsRow base et sz v L.length vss.flatten ∧ Els sz E w L vss
set_option maxRecDepth 5000 in
theorem OwnL.nil {α : Type} (et : TypeId) (sz : Nat) (E : World → α → List Value → Prop) (w : World) (base : Nat) : OwnL et sz E w base (.slice none 0 0) ([] : List α) := ⟨[], World.ownsRow_nil _ _ _ _, Els.nil _ _ _⟩
set_option maxRecDepth 5000 in
theorem OwnL.slice {α : Type} {et : TypeId} {sz : Nat} {E : World → α → List Value → Prop} {w : World} {base : Nat} {v : Value} {L : List α} (h : OwnL et sz E w base v L) : ∃ a c, v = .slice a L.length c ∧ (a = none → c = 0) ∧ L.length ≤ c := by
  obtain ⟨vss, h, _⟩ := h
  rcases h.2 with ⟨rfl, h2⟩ | ⟨g, cap, cur, rfl, _, _, h3, _⟩
  · exact ⟨none, 0, by rw [h2], fun _ => rfl, by omega⟩
  · exact ⟨_, cap, rfl, fun e => (by cases e), h3⟩
set_option maxRecDepth 5000 in
theorem OwnL.low {α : Type} {et : TypeId} {sz : Nat} {E : World → α → List Value → Prop} {w : World} {base base' : Nat} {v : Value} {L : List α} (h : OwnL et sz E w base v L) (hb : base' ≤ base) : OwnL et sz E w base' v L := by
  obtain ⟨vss, h, h2⟩ := h; exact ⟨vss, ownsRow_base h hb, h2⟩
/- kept where its own row, and what its elements say, is -/
set_option maxRecDepth 5000 in
theorem OwnL.kept {α : Type} {et : TypeId} {sz : Nat} {E : World → α → List Value → Prop} {w w' : World} {base : Nat} {v : Value} {L : List α} (h : OwnL et sz E w base v L) (hE : ∀ x us, E w x us → E w' x us) (hk : ∀ (g : Nat) (c : Array Value) (fr : Nat × Nat), base ≤ g → w.heap[g]? = some (Obj.cells c et fr) → w'.heap[g]? = w.heap[g]?) : OwnL et sz E w' base v L := by
  obtain ⟨vss, h, h2⟩ := h
  refine ⟨vss, ⟨h.1, ?_⟩, h2.kb hE⟩
  rcases h.2 with h3 | ⟨g, cap, cur, e, h3, h4, h5⟩
  · exact Or.inl h3
  · exact Or.inr ⟨g, cap, cur, e, h3, (hk g cur _ h3 h4).trans h4, h5⟩
set_option maxRecDepth 5000 in
theorem OwnL.bel {α : Type} {et : TypeId} {sz : Nat} {E : World → α → List Value → Prop} {w w' : World} {base : Nat} {v : Value} {L : List α} (h : OwnL et sz E w base v L) (hE : ∀ x us, E w x us → E w' x us) (hb : Below w.heap.size w w') : OwnL et sz E w' base v L :=
  h.kept hE fun g _ _ _ hg => hb.block g (Array.getElem?_eq_some_iff.1 hg).1
/- its elements' cells -/
set_option maxRecDepth 5000 in
theorem OwnL.get {α : Type} {et : TypeId} {sz : Nat} {E : World → α → List Value → Prop} {w : World} {base : Nat} {L : List α} {a : Option Addr} {n c : Nat} (h : OwnL et sz E w base (.slice a n c) L) (hn : 0 < L.length) : ∃ g, a = some ⟨g, 0, none⟩ ∧ base ≤ g ∧ g < w.heap.size ∧ (∃ cur, w.heap[g]? = some (Obj.cells cur et)) ∧
    ∀ j x, L[j]? = some x → ∃ us, us.length = sz ∧ E w x us ∧ ∀ t, t < sz → w.cell? ⟨g, j * sz + t, none⟩ = us[t]? := by
  obtain ⟨vss, h, h2⟩ := h
  rcases h.2 with ⟨_, h3⟩ | ⟨g, cap, cur, e, h3, h4, h5⟩
  · omega
  · injection e with e1 e2 e3
    subst e1; subst e2; subst e3
    refine ⟨g, rfl, h3, (Array.getElem?_eq_some_iff.1 h4).1, ⟨cur, h4⟩, fun j x hx => ?_⟩
    have hj : j < vss.length := by rw [h2.len]; exact (List.getElem?_eq_some_iff.1 hx).1
    have h6 : vss[j]? = some vss[j] := List.getElem?_eq_getElem hj
    obtain ⟨h7, h8, h9⟩ := h2.el j x _ hx h6
    refine ⟨_, h7, h9, fun t ht => ?_⟩
    rw [World.ownsRow.cellAt h _ (by
      have h10 : j + 1 ≤ L.length := by have := h2.len; omega
      have h11 : (j + 1) * sz ≤ L.length * sz := Nat.mul_le_mul_right _ h10
      rw [Nat.succ_mul] at h11; omega), flat_get vss h2.sizes.1 j t _ h6 ht]
set_option maxRecDepth 5000 in
theorem owns_below {w w' : World} {base size k : Nat} {e : TypeId} {v : Value} {xs : List Value} (hv : w.ownsRow base e size v k xs) (hg : w.grownBy w' v.ownBlock) (hb : base ≤ w.heap.size) : Below base w w' := by
  refine ⟨hg.os, hg.tape, hg.output, hg.size, fun i hi => hg.block i (by omega) fun e => ?_⟩
  rcases hv.2 with ⟨rfl, _⟩ | ⟨g, cap, cur, rfl, h1, _⟩
  · simp [Value.ownBlock] at e
  · have e2 : i = g := by simpa [Value.ownBlock] using e
    omega
set_option maxRecDepth 5000 in
theorem wpList_appL {α : Type} {et : TypeId} {sz : Nat} {E : World → α → List Value → Prop} {w : World} {ops : Array Oper} {rest : List Oper} {o : Oper} {a : Act} {Q : Exit → Act → World → Prop} (hgd : o.guard = none) (s x : Operand) (st : TypeId)
    (ho : o.op = .call { callee := .builtin .append, args := #[s, x], argTypes := #[st, st] }) (hu : Tryz.prog.underlying st = some (.slice et)) (z : Value) (bytes : Nat) (hie : ∃ i, Tryz.prog.info? et = some i ∧ i.zero = some z ∧ i.size = sz ∧ i.bytes = bytes) (hzc : z.cells.size = sz) (hsz : 0 < sz) (hby : bytes ≤ 200) (hne : et ≠ 5 ∧ et ≠ 9)
    (base : Nat) (v : Value) (L : List α) (hs : a.eval s = v) (hown : OwnL et sz E w base v L) (ad : Addr) (c : Nat) (y : α) (us : List Value) (hx : a.eval x = .slice (some ad) 1 c) (hr : ∀ j u, us[j]? = some u → w.cell? (ad.add j) = some u) (hlen : us.length = sz) (hone : ∀ u ∈ us, u.oneCell' = true) (hEy : E w y us)
    (hEk : ∀ w' x us, KB w w' → E w x us → E w' x us) (hbound : L.length ≤ 1000000) (hbase : base ≤ w.heap.size)
    (h : ∀ v' w', OwnL et sz E w' base v' (L ++ [y]) → w.grownBy w' v.ownBlock → KB w w' → Below base w w' → wpList Tryz.prog ops Q rest (a.put o.dst v') w') : wpList Tryz.prog ops Q (o :: rest) a w := by
  obtain ⟨i0, hi, hz0, hz1, hz2⟩ := hie
  obtain ⟨vss, hv, hE⟩ := hown
  have hmul : (L.length + 1) * bytes ≤ 1000001 * 200 := Nat.mul_le_mul (by omega) hby
  refine wpList_append_own w hgd s x st ho base et i0 z sz bytes hu hi hz0 hz1 hz2 hzc hsz v L.length vss.flatten hs hv ad 1 c us hx (by omega) hr hone (by unfold maxLen; omega) (by omega) hbase ?_
  intro v' w' h1 h2 _
  have hk := KB.grown hv hne h2
  refine h v' w' ⟨vss ++ [us], ?_, (hE.kb fun x us => hEk w' x us hk).app (Els.one hlen hone (hEk w' y us hk hEy))⟩ h2 hk (owns_below hv h2 hbase)
  rw [List.length_append, List.length_singleton, List.flatten_append, List.flatten_cons, List.flatten_nil, List.append_nil]
  exact h1
/- a list behind a list -/
set_option maxRecDepth 5000 in
theorem wpList_appLL {α : Type} {et : TypeId} {sz : Nat} {E : World → α → List Value → Prop} {w : World} {ops : Array Oper} {rest : List Oper} {o : Oper} {a : Act} {Q : Exit → Act → World → Prop} (hgd : o.guard = none) (s x : Operand) (st : TypeId)
    (ho : o.op = .call { callee := .builtin .append, args := #[s, x], argTypes := #[st, st] }) (hu : Tryz.prog.underlying st = some (.slice et)) (z : Value) (bytes : Nat) (hie : ∃ i, Tryz.prog.info? et = some i ∧ i.zero = some z ∧ i.size = sz ∧ i.bytes = bytes) (hzc : z.cells.size = sz) (hsz : 0 < sz) (hby : bytes ≤ 200) (hne : et ≠ 5 ∧ et ≠ 9)
    (base : Nat) (v : Value) (L : List α) (hs : a.eval s = v) (hown : OwnL et sz E w base v L) (B : Nat) (v2 : Value) (L2 : List α) (hx : a.eval x = v2) (h2 : OwnL et sz E w B v2 L2)
    (hEk : ∀ w' x us, KB w w' → E w x us → E w' x us) (hbound : L.length + L2.length ≤ 1000000) (hbase : base ≤ w.heap.size)
    (h : ∀ v' w', OwnL et sz E w' base v' (L ++ L2) → w.grownBy w' v.ownBlock → KB w w' → Below base w w' → wpList Tryz.prog ops Q rest (a.put o.dst v') w') : wpList Tryz.prog ops Q (o :: rest) a w := by
  obtain ⟨i0, hi, hz0, hz1, hz2⟩ := hie
  obtain ⟨vss, hv, hE⟩ := hown
  obtain ⟨vss2, hv2, hE2⟩ := h2
  have hmul : (L.length + L2.length) * bytes ≤ 1000000 * 200 := Nat.mul_le_mul hbound hby
  rcases hv2.2 with ⟨e, e2⟩ | ⟨g, cap, cur, e, h3, h4, h5, h6, h7, h8⟩
  · subst e
    obtain rfl : L2 = [] := List.eq_nil_of_length_eq_zero e2
    refine wpList_append_own_none hgd s x st ho base et i0 sz hu hi v L.length _ hs hv hx ?_
    exact h v w (by rw [List.append_nil]; exact ⟨vss, hv, hE⟩) ⟨rfl, rfl, rfl, Nat.le_refl _, fun _ _ _ => rfl⟩ (KB.refl _) (Below.refl _ _)
  · subst e
    obtain ⟨s1, s2, s3⟩ := hE2.sizes
    refine wpList_append_own w hgd s x st ho base et i0 z sz bytes hu hi hz0 hz1 hz2 hzc hsz v L.length vss.flatten hs hv ⟨g, 0, none⟩ L2.length cap vss2.flatten hx s3 ?_ s2 (by unfold maxLen; omega) (by omega) hbase ?_
    · intro j u hu
      rw [Addr.add_mid, Nat.zero_add, World.ownsRow.cellAt hv2 j (by rw [← s3]; exact (List.getElem?_eq_some_iff.1 hu).1)]
      exact hu
    · intro v' w' h9 h10 _
      have hk := KB.grown hv hne h10
      refine h v' w' ⟨vss ++ vss2, ?_, (hE.kb fun x us => hEk w' x us hk).app (hE2.kb fun x us => hEk w' x us hk)⟩ h10 hk (owns_below hv h10 hbase)
      rw [List.length_append, List.flatten_append]
      exact h9
set_option maxRecDepth 5000 in
theorem infoBs : (Tryz.prog.info? 37).map (fun i => (i.zero, i.size, i.bytes)) = some (some (.slice none 0 0), 1, 24) := by kernel_rfl
set_option maxRecDepth 5000 in
theorem infoNs : (Tryz.prog.info? 28).map (fun i => (i.zero, i.size, i.bytes)) = some (some (.slice none 0 0), 1, 24) := by kernel_rfl
set_option maxRecDepth 5000 in
theorem OwnB.ty {w : World} {base : Nat} {v : Value} {l : List UInt8} (h : OwnB w base v l) : ∃ a c, v = .slice a l.length c ∧ TyL w a l ∧ (a = none → c = 0) ∧ l.length ≤ c := by
  obtain ⟨a, c, e, h1, h2, h3, _⟩ := h.open
  refine ⟨a, c, e, ⟨h1, fun ad ea => ?_⟩, h2, h3⟩
  have h0 : w.ownsRow base 5 1 v l.length (vb l) := h
  rcases h0.2 with ⟨e1, _⟩ | ⟨g, cap, cur, e1, _, hgb, _⟩
  · rw [e] at e1; injection e1 with e1; rw [e1] at ea; cases ea
  · rw [e] at e1; injection e1 with e1; rw [e1] at ea; injection ea with ea; subst ea; exact ⟨cur, _, hgb⟩
set_option maxRecDepth 5000 in
theorem OwnS.ty {w : World} {base : Nat} {v : Value} {n : List (List UInt8)} (h : OwnS w base v n) : ∃ a c, v = .slice a n.length c ∧ TyS w a n ∧ (a = none → c = 0) ∧ n.length ≤ c := by
  obtain ⟨a, c, e, h1, h2, h3, _⟩ := h.open
  refine ⟨a, c, e, ⟨h1, fun ad ea => ?_⟩, h2, h3⟩
  have h0 : w.ownsRow base 9 1 v n.length (vs n) := h
  rcases h0.2 with ⟨e1, _⟩ | ⟨g, cap, cur, e1, _, hgb, _⟩
  · rw [e] at e1; injection e1 with e1; rw [e1] at ea; cases ea
  · rw [e] at e1; injection e1 with e1; rw [e1] at ea; injection ea with ea; subst ea; exact ⟨cur, _, hgb⟩
end Go.Proofs.YtdldaphkiphpnaaGreat

/- Sets of a node: has, list. -/
namespace Go.Proofs.YtdldaphkiphpnaaGreat
open Go.RowKit
/- a map of data, which may be none -/
def DM (w : World) : Option Nat → (List UInt8 → Option (List UInt8)) → Nat → Prop
  | none, g, _ => ∀ c, g c = none
  | some m, g, K => ∃ h, MapS w m h K ∧ ∀ c, DIs w (g c) (h c)
set_option maxRecDepth 5000 in
theorem DM.bel {w w' : World} {mo : Option Nat} {g : List UInt8 → Option (List UInt8)} {K : Nat} (h : DM w mo g K) (hb : Below w.heap.size w w') : DM w' mo g K := by
  cases mo with
  | none => exact h
  | some m =>
    obtain ⟨f, h1, h2⟩ := h
    exact ⟨f, h1.heap (hb.block m h1.lt), fun c => (h2 c).keep fun _ _ hs => hs.below hb (Nat.le_refl _)⟩
set_option maxRecDepth 5000 in
theorem DIs.some {w : World} {d : List UInt8} {v : Option Value} (h : DIs w (some d) v) : ∃ ao c, v = some (.slice ao d.length c) ∧ SlL w ao d ∧ (ao = none → c = 0) ∧ d.length ≤ c ∧ d.length ≤ 8192 := by
  cases v with
  | none => exact h.elim
  | some u => obtain ⟨ao, c, h1, h2⟩ := h; exact ⟨ao, c, by rw [h1], h2⟩
set_option maxRecDepth 5000 in
theorem DIs.same {w : World} {d : Option (List UInt8)} {v : Option Value} (h : DIs w d v) : v.isSome = d.isSome := by
  cases d with
  | none => cases v with
    | none => rfl
    | some _ => exact h.elim
  | some _ => cases v with
    | none => exact h.elim
    | some _ => rfl
set_option maxRecDepth 5000 in
theorem DM.look {w : World} {mo : Option Nat} {g : List UInt8 → Option (List UInt8)} {K : Nat} (h : DM w mo g K) (c : List UInt8) (hc : c.length ≤ 1000000) :
    ∃ v, (Instr.lookup 89 (.map mo) (.string ⟨c.toArray⟩) true).run Tryz.prog w = .ok (.tuple #[v, .bool (g c).isSome]) w ∧ (Instr.lookup 89 (.map mo) (.string ⟨c.toArray⟩) false).run Tryz.prog w = .ok v w ∧
      ∀ d, g c = some d → ∃ ao cp, v = .slice ao d.length cp ∧ SlL w ao d ∧ (ao = none → cp = 0) ∧ d.length ≤ cp ∧ d.length ≤ 8192 := by
  cases mo with
  | none =>
    have h0 : g c = none := h c
    refine ⟨.slice none 0 0, ?_, ?_, fun d hd => by rw [h0] at hd; cases hd⟩
    · rw [h0]; exact Maps.look_nil true keyedS Tryz.underlying89 (Tryz.zeroValue37 w) (keyS c hc)
    · exact Maps.look_nil false keyedS Tryz.underlying89 (Tryz.zeroValue37 w) (keyS c hc)
  | some m =>
    obtain ⟨f, h1, h2⟩ := h
    have h3 := h1.look keyedS Tryz.underlying89 (Tryz.zeroValue37 w) (keyS c hc)
    have h4 := h1.get keyedS Tryz.underlying89 (Tryz.zeroValue37 w) (keyS c hc)
    refine ⟨(f c).getD (.slice none 0 0), ?_, h4, fun d hd => ?_⟩
    · rw [← (h2 c).same]; exact h3
    · have := h2 c
      rw [hd] at this
      obtain ⟨ao, cp, e, h5⟩ := this.some
      exact ⟨ao, cp, by rw [e]; rfl, h5⟩
set_option maxRecDepth 5000 in
theorem has_any (w : World) (ttl : Int) (mo : Option Nat) (g : List UInt8 → Option (List UInt8)) (K : Nat) (h : DM w mo g K) (c : List UInt8) (ao : Option Addr) (len cap : Nat) (hl : Hid (c.length = len)) (hs : SlL w ao c) (hlen : len ≤ 1000000) :
    Calls Tryz.prog 64 #[.agg #[.int .u32 ttl, .map mo], .slice ao len cap] w fun e w' => e = .returned (.bool (g c).isSome) ∧ w' = w.alloc (.cells #[.int .u32 ttl, .map mo] 91) := by
  have hcv : (convert 37 9 (.slice ao len cap)).run Tryz.prog (w.alloc (.cells #[.int .u32 ttl, .map mo] 91)) = .ok (.string ⟨c.toArray⟩) (w.alloc (.cells #[.int .u32 ttl, .map mo] 91)) := run_str len cap (hs.alloc _) hl.out
  obtain ⟨v, hk, _, _⟩ := (h.bel ((Below.refl _ w).alloc (Nat.le_refl _) (.cells #[.int .u32 ttl, .map mo] 91))).look c (by rw [hl.out]; exact hlen)
  clear h hs
  go_enter Tryz.func64, Tryz.ntmps64
  go_wp2
  go_ret
  exact ⟨rfl, rfl⟩
end Go.Proofs.YtdldaphkiphpnaaGreat

/- Sets of a node: list. -/
namespace Go.Proofs.YtdldaphkiphpnaaGreat
open Go.RowKit
set_option maxRecDepth 5000 in
theorem ty_of_row {w : World} {g : Nat} {t : TypeId} {c : Array Value} (h : RowAt w g t c) : ∃ (c : Array Value) (fr : Nat × Nat), w.heap[g]? = some (Obj.cells c t fr) := ⟨c, _, h⟩
def datas (g : List UInt8 → Option (List UInt8)) (ks : List (List UInt8)) : List (List UInt8) := ks.map fun c => (g c).getD []
set_option maxRecDepth 5000 in
theorem datas_snoc (g : List UInt8 → Option (List UInt8)) (ks : List (List UInt8)) (j : Nat) (hj : j < ks.length) : datas g (ks.take (j + 1)) = datas g (ks.take j) ++ [(g (ks.getD j [])).getD []] := by
  unfold datas
  rw [List.take_add_one, List.map_append]
  congr 1
  rw [List.getElem?_eq_getElem hj, List.getD_eq_getElem?_getD, List.getElem?_eq_getElem hj]; rfl
set_option maxHeartbeats 1000000 in
set_option maxRecDepth 5000 in
theorem list_any (w : World) (ttl : Int) (m : Nat) (g : List UInt8 → Option (List UInt8)) (K : Nat) (h : DM w (some m) g K) (hK : K ≤ 1000000) (ks : List (List UInt8)) (ha : ks.Pairwise (· < ·)) (hm : ∀ c, c ∈ ks ↔ (g c).isSome) (hlen : ks.length ≤ 1000000) (hcl : ∀ c ∈ ks, c.length ≤ 1000000) :
    Calls Tryz.prog 52 #[.agg #[.int .u32 ttl, .map (some m)]] w fun e w' => ∃ v, e = .returned v ∧ OwnL 37 1 EB w' w.heap.size v (datas g ks) ∧ Below w.heap.size w w' := by
  obtain ⟨n, hn⟩ : ∃ n, ks.length = n := ⟨_, rfl⟩
  obtain ⟨w1, hw1⟩ : ∃ w1, w1 = w.alloc (.cells #[.int .u32 ttl, .map (some m)] 91) := ⟨_, rfl⟩
  have hb1 : Below w.heap.size w w1 := by rw [hw1]; exact (Below.refl _ w).alloc (Nat.le_refl _) _
  have hz1 : w1.heap.size = w.heap.size + 1 := by rw [hw1]; simp
  have hr1 : RowAt w1 w.heap.size 91 #[.int .u32 ttl, .map (some m)] := by rw [hw1]; exact RowAt.new w _ _
  have HD := hide (h.bel hb1)
  have HM := hide hm
  have HC := hide hcl
  have HW := hide hw1
  have HZ := hide hz1
  have HR := hide hr1
  have HB := hide hb1
  obtain ⟨f, hmf, hdf⟩ := HD.out
  have HF := hide hmf
  have HG := hide hdf
  have HN := hide hn
  rw [hn] at hlen
  clear h hm hcl hw1 hz1 hr1 hb1 hmf hdf hn
  go_enter Tryz.func52, Tryz.ntmps52
  go_wp2_with (first
    | (go_at_call 79; rw [← HW.out]; refine (keysD_any (some m) w1).mono ?_; rintro e w2 ⟨rfl, hw2⟩; rw [hw2]; clear hw2 w2)
    | (go_at_call 76; refine (sortedD_any w1 m K _ HF.out hK ks ha (fun x => (by rw [HM.out x, ← (HG.out x).same]; rfl))).mono ?_; rintro e w3 ⟨v3, rfl, hv3, hb3⟩; obtain ⟨a3, c3, rfl, hs3, _, _⟩ := hv3.ty; rw [HN.out]; clear hv3))
  have hb13 : Below (w.heap.size + 1) w1 w3 := by
    have e := HZ.out
    rw [← e]
    exact ((Below.refl _ w1).alloc (Nat.le_refl _) _).trans (hb3.mono (Nat.le_succ _))
  clear hb3
  go_loopw [3, 11] (fun v i wr => ∃ j : Nat, i = .int .i64 (j : Int) ∧ j ≤ n ∧ OwnL 37 1 EB wr (w.heap.size + 1) v (datas g (ks.take j)) ∧ Below (w.heap.size + 1) w1 wr ∧ TyS wr a3 ks) (fun _ i _ => n - (intOf i).toNat)
  case atStart => exact ⟨0, rfl, by omega, OwnL.nil _ _ _ _ _, hb13, hs3⟩
  case round =>
    obtain ⟨j, rfl, hj, hO, hB, hT⟩ := hrel
    have hz := hB.size
    have hzz := HZ.out
    have hz0 : w.heap.size + 1 ≤ wr.heap.size := by omega
    by_cases hlt : j < n
    · have hjk : j < ks.length := by have := HN.out; omega
      obtain ⟨b1, o1, rfl, _, hc1⟩ := hT.1 (by omega)
      have hx := hc1 j hjk
      have hd1 := datas_snoc g ks j hjk
      have hmem : ks.getD j [] ∈ ks := by rw [List.getD_eq_getElem?_getD, List.getElem?_eq_getElem hjk]; exact List.getElem_mem hjk
      obtain ⟨d, hd⟩ := Option.isSome_iff_exists.1 ((HM.out _).1 hmem)
      rw [hd, Option.getD_some] at hd1
      obtain ⟨v0, _, hlk, hv0⟩ := (HD.out.bel (by rw [hzz]; exact hB)).look (ks.getD j []) (HC.out _ hmem)
      obtain ⟨ao, cp, rfl, hs0, hn0, _, hd8⟩ := hv0 d hd
      have hr : RowAt wr w.heap.size 91 #[.int .u32 ttl, .map (some m)] := HR.out.below hB (by omega)
      have y1 : wr.cell? ⟨w.heap.size, 1, none⟩ = some (.map (some m)) := hr.cell 1
      have hdl : (datas g (ks.take j)).length ≤ 1000000 := by unfold datas; rw [List.length_map, List.length_take]; omega
      generalize ks.getD j [] = key at hx hlk
      have HO := hide hO
      have HD1 := hide hd1
      have HB1 := hide hB
      clear hO hd1 hB hd hv0 hc1 hmem hr hzz
      go_wp2_with (first
        | (go_at_call 80; refine (bclone_any wr ao cp d (by omega) hs0 hn0).mono ?_; rintro e w4 ⟨v4, rfl, hO4, hB4⟩; obtain ⟨a4, c4, rfl, hT4, hn4, hc4⟩ := hO4.ty; have hz4 := hB4.size; have HO4 := hide (HO.out.bel (fun _ _ h => h.kb (KB.of_below hB4)) hB4))
        | (at_builtin; go_loud (refine wpList_appL rfl (.tmp 15) (.tmp 21) 52 rfl Tryz.underlying52 (.slice none 0 0) 24 (info_parts infoBs) rfl (by decide) (by decide) (by decide) (w.heap.size + 1) _ _ rfl (HO4.out.bel (fun _ _ h => h.kb (KB.alloc _ _)) ((Below.refl _ w4).alloc (Nat.le_refl _) _)) ⟨w4.heap.size, 0, none⟩ 1 d [.slice a4 d.length c4] rfl (cell_one_new _ _ _) rfl (by simp [Value.oneCell']) ⟨a4, c4, rfl, hT4.kb (KB.alloc _ _), hn4, hc4⟩ (fun _ _ _ k h => h.kb k) hdl (by simp; omega) ?_); intro v5 w5 hO5 hG5 hK5 hB5))
      go_roundw
      case rel =>
        refine ⟨j + 1, by go_num, by omega, by rw [HD1.out]; exact hO5, ?_, ?_⟩
        · exact HB1.out.trans ((hB4.mono hz0).trans (((Below.refl (w.heap.size + 1) w4).alloc (by omega) _).trans hB5))
        · exact hT.kb ((KB.of_below hB4).trans ((KB.alloc _ _).trans hK5))
      case measure => simp [intOf]; omega
    · obtain rfl : j = n := by omega
      go_wp2
      go_ret
      refine ⟨_, rfl, ?_, HB.out.trans (hB.mono (Nat.le_succ _))⟩
      have ht : ks.take j = ks := by rw [← HN.out]; exact List.take_length
      rw [ht] at hO
      exact hO.low (Nat.le_succ _)
end Go.Proofs.YtdldaphkiphpnaaGreat

/- A zone's tree in memory: a record put at a node, data and sets taken away. -/
namespace Go.Proofs.YtdldaphkiphpnaaGreat
open Go.RowKit
/- the tree, and what of it the zone's own row tells -/
structure Grew (w w' : World) (ρ ρ' : Nat → Role) (G G' : List (List UInt8) → Option Nd) : Prop where
  more : More w ρ ρ'
  mv : ZMv ρ w w'
  root : nodeN G' [] = nodeN G []
set_option maxRecDepth 5000 in
theorem gput_some {G : List (List UInt8) → Option Nd} {p : List (List UInt8)} {x x' : Nd} (hx : G p = some x) (q : List (List UInt8)) : (gput G p (some x') q).isSome = (G q).isSome := by
  by_cases e : q = p
  · rw [e, gput_same, hx]; rfl
  · rw [gput_other G e]
set_option maxRecDepth 5000 in
theorem gput_nodeN {G : List (List UInt8) → Option Nd} {p : List (List UInt8)} {x x' : Nd} (hx : G p = some x) (hn : x'.n = x.n) (q : List (List UInt8)) : nodeN (gput G p (some x')) q = nodeN G q := by
  by_cases e : q = p
  · rw [e, nodeN_of (gput_same G p _), nodeN_of hx, hn]
  · unfold nodeN; rw [gput_other G e]
set_option maxRecDepth 5000 in
theorem TreeAt.put {w w' : World} {ρ : Nat → Role} {G : List (List UInt8) → Option Nd} {C : List (List UInt8) → Nat → Option Z.St} {K : Nat} (T : TreeAt w ρ G C K) {p : List (List UInt8)} {x : Nd} (hx : G p = some x) (t : Nat) (ht : t < 65536) (ttl : Nat) (c d : List UInt8) (m : Nat)
    (hm : (∃ S, C p t = some S ∧ m = x.dm t) ∨ (C p t = none ∧ w.heap.size ≤ m)) (h0 : Below 0 w w') (hoth : ∀ i, i < w.heap.size → i ≠ x.s → i ≠ m → w'.heap[i]? = w.heap[i]?)
    (hsets : MapU w' x.s (uput (fun s => (C p s).map fun S => setV S (x.dm s)) t (.agg #[.int .u32 (ttl : Int), .map (some m)])) (K + 1))
    (hdat : ∃ h, MapS w' m h (K + 1) ∧ ∀ y, DIs w' (if y = c then some ((Z.got C p t c).getD d) else Z.got C p t y) (h y)) :
    ∃ ρ' x', TreeAt w' ρ' (gput G p (some x')) (Z.cput C p t ttl c d) (K + 1) ∧ x'.n = x.n ∧ x'.s = x.s ∧ x'.b = x.b ∧ Grew w w' ρ ρ' G (gput G p (some x')) := by
  have hsz := h0.size
  have rl : ∀ {i r}, ρ i = r → r ≠ .none → i < w.heap.size := fun h h2 => (T.kind _ (by rw [h]; exact h2)).lt
  have hmd : ∃ es k, w'.heap[m]? = some (.map es k) := by obtain ⟨h, h1, _⟩ := hdat; exact h1.obj
  have hms : ∃ es k, w'.heap[x.s]? = some (.map es k) := hsets.obj
  have hmx : m ≠ x.s := fun e => by
    rcases hm with ⟨S, hS, e2⟩ | ⟨_, h2⟩
    · have h1 := T.rd p x t S hx hS
      rw [← e2, e, T.rs p x hx] at h1; cases h1
    · have := rl (T.rs p x hx) (by simp); omega
  obtain ⟨ρ', hρ⟩ : ∃ ρ' : Nat → Role, ρ' = fun i => if i = m then .data p t else ρ i := ⟨_, rfl⟩
  obtain ⟨x', hx'⟩ : ∃ x' : Nd, x' = { x with dm := fun s => if s = t then m else x.dm s } := ⟨_, rfl⟩
  have hold : ∀ i, i < w.heap.size → ρ' i = ρ i := fun i hi => by
    rw [hρ]
    by_cases e : i = m
    · rcases hm with ⟨S, hS, e2⟩ | ⟨_, h2⟩
      · show (if i = m then Role.data p t else ρ i) = ρ i
        rw [if_pos e, e, e2, T.rd p x t S hx hS]
      · omega
    · exact if_neg e
  have hC' : ∀ q s, ¬ (q = p ∧ s = t) → Z.cput C p t ttl c d q s = C q s := fun q s e => by unfold Z.cput; rw [if_neg e]
  have hCt : Z.cput C p t ttl c d p t = some ⟨ttl, fun y => if y = c then some ((Z.got C p t c).getD d) else Z.got C p t y⟩ := by unfold Z.cput; rw [if_pos ⟨rfl, rfl⟩]
  have hslL : ∀ ao l, SlL w ao l → SlL w' ao l := fun ao l => slL_keep hsz fun i hi hz => by
    have h0 : ρ i = .none := Classical.byContradiction fun h0 => hz (T.kind i h0)
    refine hoth i hi (fun e => ?_) (fun e => ?_)
    · rw [e, T.rs p x hx] at h0; cases h0
    · have := hold i hi
      rw [h0, hρ, e] at this; simp at this
  refine ⟨ρ', x', ?_, by rw [hx'], by rw [hx'], by rw [hx'], ⟨fun i hi => hold i hi, ⟨h0.os, h0.tape, h0.output, hsz, fun i hi h0 => ?_⟩, gput_nodeN hx (by rw [hx']) _⟩⟩
  · refine T.turn hx (by rw [hx']) (by rw [hx']) (by rw [hx']) (fun q s hq => hC' q s fun e => hq e.1) (Nat.le_succ _) (fun i hi => hold i hi) hsz (fun i hi h1 h2 => ?_) ?_ ?_ ?_
    · refine hoth i hi (fun e => h1 (by rw [e]; exact T.rs p x hx)) (fun e => ?_)
      have := hold i hi
      rw [hρ, e] at this
      exact h2 t (by rw [e, ← this]; simp)
    · refine MapU.ext hsets fun s hs => ?_
      by_cases e : s = t
      · subst e
        rw [hCt, hx']; simp [uput, setV]
      · rw [hC' p s (fun e2 => e e2.2), hx']; simp [uput, e]
    · intro s S hS
      by_cases e : s = t
      · subst e
        rw [hCt] at hS; injection hS with hS; subst hS
        have e1 : x'.dm s = m := by rw [hx']; simp
        rw [e1]
        exact ⟨ht, by rw [hρ]; simp, hdat⟩
      · rw [hC' p s (fun e2 => e e2.2)] at hS
        have e1 : x'.dm s = x.dm s := by rw [hx']; simp [e]
        rw [e1]
        have h1 := T.rd p x s S hx hS
        have h2 := rl h1 (by simp)
        have h3 : x.dm s ≠ m := fun e2 => by
          have := hold _ h2
          rw [h1, hρ, e2] at this
          simp at this
          exact e this.symm
        obtain ⟨h, h4, h5⟩ := (T.node p x hx).data s S hS
        refine ⟨(T.cov p s S hS).2, by rw [hold _ h2, h1], h, (h4.heap (hoth _ h2 (fun e2 => ?_) h3)).mono (Nat.le_succ _), fun y => (h5 y).keep hslL⟩
        rw [e2, T.rs p x hx] at h1; cases h1
    · intro i hi
      by_cases e : i = m
      · rw [e]; obtain ⟨es, k, h⟩ := hmd; exact Or.inl ⟨es, k, h⟩
      · by_cases e2 : i = x.s
        · rw [e2]; obtain ⟨es, k, h⟩ := hms; exact Or.inl ⟨es, k, h⟩
        · have e3 : ρ' i = ρ i := by rw [hρ]; exact if_neg e
          rw [e3] at hi
          exact (T.kind i hi).heap (hoth i (T.kind i hi).lt e2 e)
  · refine hoth i hi (fun e => ?_) (fun e => ?_)
    · rw [e, T.rs p x hx] at h0; cases h0
    · have := hold i hi
      rw [h0, hρ, e] at this; simp at this
end Go.Proofs.YtdldaphkiphpnaaGreat
