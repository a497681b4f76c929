/- (*Zone).way: the nodes from the top on towards a name, as far as there are any. -/
import Derived.Test.YtdldaphkiphpnaaGreatBwd
import Derived.Maps.AppendAt
import Derived.Maps.OwnIn
namespace Go.Proofs.YtdldaphkiphpnaaGreat
open Go.RowKit Go.Shelf
attribute [local go_sem] Oper.semAt_some
def nodeN (G : List (List UInt8) → Option Nd) (q : List (List UInt8)) : Nat := ((G q).map fun y => y.n).getD 0
set_option maxRecDepth 5000 in
theorem nodeN_of {G : List (List UInt8) → Option Nd} {q : List (List UInt8)} {x : Nd} (h : G q = some x) : nodeN G q = x.n := by unfold nodeN; rw [h]; rfl
def ptrs (G : List (List UInt8) → Option Nd) (n : List (List UInt8)) (pre : List Nat) : List Value := (List.range (pre.length + 1)).map fun j => ptr (nodeN G ((pre.take j).map (lab n)))
set_option maxRecDepth 5000 in
theorem ptrs_len (G : List (List UInt8) → Option Nd) (n : List (List UInt8)) (pre : List Nat) : (ptrs G n pre).length = pre.length + 1 := by simp [ptrs]
set_option maxRecDepth 5000 in
theorem ptrs_snoc (G : List (List UInt8) → Option Nd) (n : List (List UInt8)) (pre : List Nat) (x : Nat) : ptrs G n (pre ++ [x]) = ptrs G n pre ++ [ptr (nodeN G ((pre ++ [x]).map (lab n)))] := by
  unfold ptrs
  rw [List.length_append, List.length_singleton, List.range_succ (n := pre.length + 1), List.map_append]
  congr 1
  · refine List.map_congr_left fun j hj => ?_
    have hj' : j ≤ pre.length := by have := List.mem_range.1 hj; omega
    rw [List.take_append_of_le_length hj']
  · simp only [List.map_cons, List.map_nil]
    rw [List.take_of_length_le (by simp)]
/- a row of one cell, and a slice's own row, are kept where what is no cells is another -/
set_option maxRecDepth 5000 in
theorem row_own {A B : World} {row : Option Nat} {M g : Nat} {t : TypeId} {c : Array Value} (h : RowAt A g t c) (hg : A.grownBy B row) (hr : ∀ r, row = some r → M ≤ r ∧ ∃ o : Obj, A.heap[r]? = some o ∧ o.isCells = false) : RowAt B g t c := by
  have e : B.heap[g]? = A.heap[g]? := hg.block g h.lt (fun e => by
    obtain ⟨_, o, h1, h2⟩ := hr g e.symm
    unfold RowAt at h
    rw [h] at h1
    injection h1 with h1
    rw [← h1] at h2
    cases h2)
  unfold RowAt; rw [e]; exact h
set_option maxRecDepth 5000 in
theorem ownsRow_own {A B : World} {row : Option Nat} {M base size k : Nat} {e : TypeId} {v : Value} {xs : List Value} (h : A.ownsRow base e size v k xs) (hg : A.grownBy B row) (hr : ∀ r, row = some r → M ≤ r ∧ ∃ o : Obj, A.heap[r]? = some o ∧ o.isCells = false) : B.ownsRow base e size v k xs := by
  refine h.kept hg ?_
  rcases h.2 with ⟨rfl, _⟩ | ⟨g, cap, cur, rfl, _, hgb, _⟩
  · exact .inl rfl
  · refine .inr fun e' => ?_
    obtain ⟨_, o, ho, hc⟩ := hr g (by simpa [Value.ownBlock] using e'.symm)
    rw [hgb] at ho; cases ho; cases hc
set_option maxRecDepth 5000 in
theorem below_own {A B w : World} {row : Option Nat} {M N : Nat} (h : Below N w A) (hN : N ≤ M) (hN2 : N ≤ w.heap.size) (hg : A.grownBy B row) (hr : ∀ r, row = some r → M ≤ r ∧ ∃ o : Obj, A.heap[r]? = some o ∧ o.isCells = false) : Below N w B := by
  refine ⟨hg.os.trans h.os, hg.tape.trans h.tape, hg.output.trans h.output, Nat.le_trans h.size hg.size, fun k hk => ?_⟩
  have hs := h.size
  rw [hg.block k (by omega) (fun e => by have := (hr k e.symm).1; omega)]
  exact h.block k hk
set_option maxRecDepth 5000 in
theorem _root_.Go.Boxed.below_ {W W' : World} {B b : Nat} {t : TypeId} {v : Value} (h : Boxed W b t v) (hb : Below B W W') (hB : W.heap.size ≤ B) : Boxed W' b t v := (hb.block b (Nat.lt_of_lt_of_le h.lt hB)).trans h
set_option maxRecDepth 5000 in
theorem ownsRow_below {w w' : World} {base size k : Nat} {e : TypeId} {v : Value} {xs : List Value} (h : w.ownsRow base e size v k xs) (hb : Below w.heap.size w w') : w'.ownsRow base e size v k xs :=
  h.kept (row := none) ⟨hb.os, hb.tape, hb.output, hb.size, fun i hi _ => hb.block i hi⟩ (by cases v.ownBlock <;> simp)
set_option maxRecDepth 5000 in
theorem OwnS.blk {w : World} {base L c : Nat} {ao : Option Addr} {n : List (List UInt8)} (h : OwnS w base (.slice ao L c) n) (a : Addr) (e : ao = some a) : a.block < w.heap.size := by
  rcases h.2 with ⟨e1, _⟩ | ⟨g, cap, cur, e1, _, hgb, _⟩
  · injection e1 with e1; rw [e] at e1; cases e1
  · injection e1 with e1; rw [e] at e1; injection e1 with e1; rw [e1]; exact (Array.getElem?_eq_some_iff.1 hgb).1
set_option maxRecDepth 5000 in
theorem lab_range (m : List (List UInt8)) : ∀ k, k ≤ m.length → (List.range k).map (lab m) = m.reverse.take k
  | 0, _ => by simp
  | k + 1, h => by
    rw [List.range_succ, List.map_append, lab_range m k (by omega), List.take_add_one]
    congr 1
    unfold lab
    rw [List.map_cons, List.map_nil, List.getElem?_reverse (by omega), List.getD_eq_getElem?_getD, List.getElem?_eq_getElem (by omega)]
    rfl
set_option maxRecDepth 5000 in
theorem ownsRow_base {W : World} {base base' size k : Nat} {e : TypeId} {v : Value} {xs : List Value} (h : W.ownsRow base e size v k xs) (hb : base' ≤ base) : W.ownsRow base' e size v k xs := by
  refine ⟨h.1, ?_⟩
  rcases h.2 with h1 | ⟨g, cap, cur, e, h1, h2⟩
  · exact Or.inl h1
  · exact Or.inr ⟨g, cap, cur, e, Nat.le_trans hb h1, h2⟩
set_option maxRecDepth 5000 in
theorem not_own {W : World} {base size k : Nat} {e : TypeId} {v : Value} {xs : List Value} (h : W.ownsRow base e size v k xs) {i : Nat} {c : Array Value} {t : TypeId} {f : Nat × Nat} (hi : W.heap[i]? = some (.cells c t f)) (hne : t ≠ e) : some i ≠ v.ownBlock := by
  rcases h.2 with ⟨rfl, _⟩ | ⟨g, cap, cur, rfl, _, hgb, _⟩
  · simp [Value.ownBlock]
  · intro e'
    have e2 : i = g := by simpa [Value.ownBlock] using e'
    rw [e2, hgb] at hi
    injection hi with hi
    injection hi with _ hi _
    exact hne hi.symm
set_option maxRecDepth 5000 in
theorem KpA.own {b1 : Nat} {ao : Option Addr} {w5 : World} {M : Nat} (h1 : ∃ (c : Array Value) (t : TypeId) (f : Nat × Nat), w5.heap[b1]? = some (Obj.cells c t f)) (h2 : ∀ a, ao = some a → ∃ (c : Array Value) (t : TypeId) (f : Nat × Nat), w5.heap[a.block]? = some (Obj.cells c t f)) : OwnFrom M (fun (_ : List Nat) W => KpA b1 ao w5 W) := by
  intro _ A B row hI hg hr
  have key : ∀ i, (∃ (c : Array Value) (t : TypeId) (f : Nat × Nat), w5.heap[i]? = some (Obj.cells c t f)) → A.heap[i]? = w5.heap[i]? → B.heap[i]? = w5.heap[i]? := fun i hx hA => by
    obtain ⟨c, t, f, hc⟩ := hx
    rw [hg.block i (Array.getElem?_eq_some_iff.1 (hA.trans hc)).1 (fun e => by
      obtain ⟨_, o, h1, h2⟩ := hr i e.symm
      rw [hA, hc] at h1; injection h1 with h1; rw [← h1] at h2; cases h2), hA]
  exact ⟨key b1 h1 hI.box, fun a e => key _ (h2 a e) (hI.row a e), Nat.le_trans hI.size hg.size⟩
set_option maxRecDepth 5000 in
theorem take_range (len j : Nat) : (List.range len).take j = List.range (min j len) := by
  rw [List.take_range]
def wayV (G : List (List UInt8) → Option Nd) (m : List (List UInt8)) (k : Nat) : List Value := (List.range (k + 1)).map fun j => ptr (nodeN G (m.reverse.take j))
set_option maxRecDepth 5000 in
theorem ptrs_range (G : List (List UInt8) → Option Nd) (m : List (List UInt8)) (k : Nat) (hk : k ≤ m.length) : ptrs G m (List.range k) = wayV G m k := by
  unfold ptrs wayV
  rw [List.length_range]
  refine List.map_congr_left fun j hj => ?_
  have hj' : j ≤ k := by have := List.mem_range.1 hj; omega
  rw [take_range, Nat.min_eq_left hj', lab_range m j (by omega)]
structure WayI (w : World) (G : List (List UInt8) → Option Nd) (n : List (List UInt8)) (pre : List Nat) (W : World) : Prop where
  at_ : Boxed W w.heap.size 80 (ptr (nodeN G (pre.map (lab n))))
  ex : (G (pre.map (lab n))).isSome
  out : ∃ v, Boxed W (w.heap.size + 2) 100 v ∧ W.ownsRow (w.heap.size + 1) 80 1 v (pre.length + 1) (ptrs G n pre)
  bel : Below w.heap.size w W
structure WayX (w : World) (G : List (List UInt8) → Option Nd) (n : List (List UInt8)) (pre : List Nat) (W : World) : Prop where
  pos : 0 < pre.length
  no : G (pre.map (lab n)) = none
  ex : (G (pre.dropLast.map (lab n))).isSome
  out : ∃ v, Boxed W (w.heap.size + 2) 100 v ∧ W.ownsRow (w.heap.size + 1) 80 1 v (pre.dropLast.length + 1) (ptrs G n pre.dropLast)
  bel : Below w.heap.size w W
set_option maxRecDepth 5000 in
theorem WayI.own {w : World} {G : List (List UInt8) → Option Nd} {n : List (List UInt8)} {M : Nat} (hM : w.heap.size ≤ M) : OwnFrom M (fun pre W => WayI w G n pre W) := by
  intro pre A B row hI hg hr
  obtain ⟨v, h1, h2⟩ := hI.out
  exact ⟨row_own hI.at_ hg hr, hI.ex, ⟨v, row_own h1 hg hr, ownsRow_own h2 hg hr⟩, below_own hI.bel hM (Nat.le_refl _) hg hr⟩
set_option maxRecDepth 5000 in
theorem WayX.own {w : World} {G : List (List UInt8) → Option Nd} {n : List (List UInt8)} {M : Nat} (hM : w.heap.size ≤ M) : OwnFrom M (fun pre W => WayX w G n pre W) := by
  intro pre A B row hI hg hr
  obtain ⟨v, h1, h2⟩ := hI.out
  exact ⟨hI.pos, hI.no, hI.ex, ⟨v, row_own h1 hg hr, ownsRow_own h2 hg hr⟩, below_own hI.bel hM (Nat.le_refl _) hg hr⟩
set_option maxRecDepth 5000 in
theorem infoNp : (Tryz.prog.info? 80).map (fun i => (i.zero, i.size, i.bytes)) = some (some (.pointer none), 1, 8) := by kernel_rfl
set_option maxRecDepth 100000 in
set_option maxHeartbeats 4000000 in
theorem way_any (w : World) (Zb : Nat) (av : Value) (cnt : Int) (ρ : Nat → Role) (G : List (List UInt8) → Option Nd) (C : List (List UInt8) → Nat → Option Z.St) (K : Nat) (T : TreeAt w ρ G C K) (hz : RowAt w Zb 83 #[av, ptr (nodeN G []), .int .i64 cnt]) (n : List (List UInt8)) (ao : Option Addr) (len cap : Nat) (hl : Hid (n.length = len)) (hs : SlS w ao n) (hm : Hid (N.Small n)) :
    Calls Tryz.prog 55 #[ptr Zb, .slice ao len cap] w fun e w' => ∃ v, e = .returned v ∧ ∃ k, k ≤ n.length ∧ (G ((N.lowN n).reverse.take k)).isSome ∧ (k < n.length → G ((N.lowN n).reverse.take (k + 1)) = none) ∧
      w'.ownsRow w.heap.size 80 1 v (k + 1) (wayV G (N.lowN n) k) ∧ Below w.heap.size w w' := by
  have hmx : Tryz.prog.follows .mixedOrders = true := by kernel_rfl
  have z1 : w.cell? ⟨Zb, 1, none⟩ = some (ptr (nodeN G [])) := hz.cell 1
  have HS := hide hs
  have HT := hide T
  clear hs T hz
  unfold ptr at z1 ⊢
  refine (callsIn_wide (n := 6)).1 ?_
  refine callsIn_of_wp_marks Tryz.func55 rfl trivial ?_ rfl
  simp only [Tryz.ntmps55, List.size_toArray, List.length_cons, List.length_nil, Nat.reduceAdd, Nat.reduceSub, Array.replicate_succ, Array.replicate_zero, List.push_toArray, List.append_toArray, List.nil_append, List.cons_append]
  obtain ⟨w3, hw3⟩ : ∃ w3, w3 = ((w.alloc (.cells #[.pointer (some ⟨nodeN G [], 0, none⟩)] 80)).alloc (.cells #[.pointer (some ⟨nodeN G [], 0, none⟩)] 80)).alloc (.cells #[.slice (some ⟨w.heap.size + 1, 0, none⟩) 1 1] 100) := ⟨_, rfl⟩
  have F3 : Hid (Boxed w3 w.heap.size 80 (ptr (nodeN G [])) ∧ Boxed w3 (w.heap.size + 2) 100 (.slice (some ⟨w.heap.size + 1, 0, none⟩) 1 1) ∧ w3.ownsRow (w.heap.size + 1) 80 1 (.slice (some ⟨w.heap.size + 1, 0, none⟩) 1 1) 1 [ptr (nodeN G [])] ∧ Below w.heap.size w w3 ∧ w3.heap.size = w.heap.size + 3) := by
    rw [hw3]
    refine ⟨((Boxed.new w _ _).alloc _).alloc _, ?_, ?_, (((Below.refl _ w).alloc (Nat.le_refl _) _).alloc (by simp) _).alloc (by simp; omega) _, by simp⟩
    · have := Boxed.new ((w.alloc (.cells #[.pointer (some ⟨nodeN G [], 0, none⟩)] 80)).alloc (.cells #[.pointer (some ⟨nodeN G [], 0, none⟩)] 80)) 100 (.slice (some ⟨w.heap.size + 1, 0, none⟩) 1 1)
      simpa using this
    · refine World.ownsRow.alloc (w := (w.alloc (.cells #[.pointer (some ⟨nodeN G [], 0, none⟩)] 80)).alloc (.cells #[.pointer (some ⟨nodeN G [], 0, none⟩)] 80)) ?_ _
      exact ⟨rfl, Or.inr ⟨w.heap.size + 1, 1, _, rfl, by omega, by have := heap_alloc_last (w.alloc (.cells #[.pointer (some ⟨nodeN G [], 0, none⟩)] 80)) (.cells #[.pointer (some ⟨nodeN G [], 0, none⟩)] 80); rwa [World.size_alloc] at this, by simp, by unfold maxLen; omega, rfl, rfl⟩⟩
  have S3 := hide (HS.out.below F3.out.2.2.2.1 (Nat.le_refl _))
  gi_wp2_with (first
    | (refine ⟨trivial, ?_⟩; gi_at_call 41; rw [← hw3]; refine (callsIn_wide.2 (lower_any n ao len cap w3 hl S3.out hm)).mono ?_; rintro e w4 ⟨v4, rfl, hv4, hb4⟩; obtain ⟨a4, c4, rfl, hs4, _, hc4, _⟩ := OwnS.open hv4; have hk4 := OwnS.blk hv4; have hl4 : Hid ((N.lowN n).length = len) := (by show _ = _; rw [N.lowN_len]; exact hl.out); rw [hl4.out])
    | (refine ⟨trivial, ?_⟩; gi_at_call 81; refine (callsIn_wide.2 (backward_any w4 a4 len c4)).mono ?_; rintro e w5 ⟨rfl, hw5⟩)
    | fail)
  have G5 : Hid (RowAt (w4.alloc (.cells #[.slice a4 len c4] 28)) w4.heap.size 28 #[.slice a4 len c4] ∧ SlS (w4.alloc (.cells #[.slice a4 len c4] 28)) a4 (N.lowN n) ∧ Below w3.heap.size w3 (w4.alloc (.cells #[.slice a4 len c4] 28)) ∧ (w4.alloc (.cells #[.slice a4 len c4] 28)).heap.size = w4.heap.size + 1 ∧ w3.heap.size ≤ w4.heap.size) :=
    ⟨RowAt.new w4 _ _, hs4.alloc _, hb4.alloc hb4.size _, by simp, hb4.size⟩
  have hL2 : len ≤ 1000000 := by rw [← hl.out]; exact hm.out.1
  have hlab : ∀ x, (lab (N.lowN n) x).length ≤ 1000000 := fun x => by
    unfold lab
    rw [List.getD_eq_getElem?_getD]
    cases h : (N.lowN n)[(N.lowN n).length - 1 - x]? with
    | none => simp
    | some l =>
      have h1 := List.mem_of_getElem? h
      unfold N.lowN at h1
      obtain ⟨l0, h2, rfl⟩ := List.mem_map.1 h1
      rw [Option.getD_some, N.lowL_len]; exact hm.out.2 l0 h2
  have HK5 : Hid (a4 = a4 ∧ ∀ a, a4 = some a → w.heap.size + 3 ≤ a.block ∧ ∃ c f, (w4.alloc (.cells #[.slice a4 len c4] 28)).heap[a.block]? = some (.cells c 9 f)) := ⟨rfl, fun a e => by
    have hO : w4.ownsRow w3.heap.size 9 1 (.slice a4 (N.lowN n).length c4) (N.lowN n).length (vs (N.lowN n)) := hv4
    rcases hO.2 with ⟨e1, _⟩ | ⟨g, cap, cur, e1, hg0, hgb, _⟩
    · injection e1 with e1; rw [e] at e1; cases e1
    · injection e1 with e1; rw [e] at e1; injection e1 with e1; subst e1
      refine ⟨by have := F3.out.2.2.2.2; show w.heap.size + 3 ≤ g; omega, cur, (0, 0), ?_⟩
      show (w4.alloc _).heap[g]? = _
      rw [Below.heap_alloc _ _ g (Array.getElem?_eq_some_iff.1 hgb).1]; exact hgb⟩
  clear hs4 hb4 hv4 hc4 hw3 z1
  generalize w4.alloc (.cells #[.slice a4 len c4] 28) = w5 at G5 HK5 ⊢
  have hz5 : w.heap.size + 3 ≤ w4.heap.size := by have := F3.out.2.2.2.2; have := G5.out.2.2.2.2; omega
  obtain ⟨m, hme⟩ : ∃ m, m = N.lowN n := ⟨_, rfl⟩
  rw [← hme] at G5 hl4 hlab
  have HM := hide hme
  clear hme
  have hrow4 : ∀ a, a4 = some a → w.heap.size + 3 ≤ a.block ∧ ∃ c f, w5.heap[a.block]? = some (.cells c 9 f) := HK5.out.2
  have ow : OwnFrom w5.heap.size (fun pre W => WayI w G m pre W ∧ KpA w4.heap.size a4 w5 W) := OwnFrom.and (WayI.own (by have := G5.out.2.2.2.1; omega)) (KpA.own ⟨_, _, _, G5.out.1⟩ fun a e => by obtain ⟨_, c, f, h⟩ := hrow4 a e; exact ⟨c, _, f, h⟩)
  have ox : ∀ c : Code, OwnFrom w5.heap.size (fun pre W => c = .exit 0 ∧ WayX w G m pre W) := fun c s A B row hI hg hr => ⟨hI.1, WayX.own (by have := G5.out.2.2.2.1; omega) s A B row hI.2 hg hr⟩
  refine wpIn_rangeFunc_ownG (α := Nat) rfl (by omega) (gf := 106) (lb := #[.pointer (some ⟨w4.heap.size, 0, none⟩)]) rfl trivial (enters_of Tryz.func106 (by kernel_rfl) rfl) (encs := bwv m) (Kp := KpA w4.heap.size a4) (S := fun xs => xs = List.range len) (Sp := fun xs => ∃ k, k < len ∧ xs = List.range (k + 1)) (N := len) (w0 := w5) ?seq1 KpA.trans ?keep1 (Below.refl _ _) (fun _ => rfl)
      (fun pre W => WayI w G m pre W ∧ KpA w4.heap.size a4 w5 W) (fun c pre W => c = .exit 0 ∧ WayX w G m pre W) ow ox ?init1
      (fun x => { tmps := #[.pointer (some ⟨Zb, 0, none⟩), .slice ao len cap, undef, undef, .slice none 0 0, .pointer (some ⟨w.heap.size, 0, none⟩), .pointer (some ⟨w.heap.size + 1 + 1, 0, none⟩), undef, .string ⟨(lab m x).toArray⟩, undef, undef, .pointer (some ⟨Zb, 0, none⟩), .pointer (some ⟨Zb, 0, none⟩), .pointer (some ⟨Zb, 1, none⟩), .pointer (some ⟨nodeN G [], 0, none⟩), .pointer (some ⟨nodeN G [], 0, none⟩), .slice (some ⟨w.heap.size + 1, 0, none⟩) 1 1, .slice ao len cap, .slice a4 len c4, .func (.func 106) #[] #[.pointer (some ⟨w4.heap.size, 0, none⟩)], .int .i64 ((m.length : Int) - 1 - (x : Int)), .string ⟨(lab m x).toArray⟩, undef, undef, undef, undef, undef, undef, undef, undef, undef, undef, undef, undef, undef, undef, undef, undef, undef], defers := [] }) ?assign1 ?body1 ?done1 ?stop1
  case seq1 =>
    intro l Jv Jx W hW hJ hJx hY h0
    refine (back1_in l w4.heap.size c4 len a4 m hl4 hL2 Jv Jx hY W (G5.out.1.below hW G5.out.1.lt) (G5.out.2.1.below hW (Nat.le_refl _)) h0).mono ?_
    rintro e W' ⟨he, hj | ⟨k, hk, hj⟩⟩
    · exact ⟨he, .inl ⟨_, rfl, hj⟩⟩
    · exact ⟨he, .inr ⟨_, ⟨k, hk, rfl⟩, hj⟩⟩
  case keep1 =>
    intro W l oo oo' hl hlo _ _
    have h4 := G5.out.2.2.2.1
    refine ⟨World.putObj_heap_other (by omega), fun a e => World.putObj_heap_other ?_, by simp⟩
    have := hk4 a e
    omega
  case init1 =>
    have h5 := G5.out.2.2.1
    refine ⟨⟨F3.out.1.below_ h5 (Nat.le_refl _), by rw [List.map_nil]; exact HT.out.root, ⟨_, F3.out.2.1.below_ h5 (Nat.le_refl _), ?_⟩, F3.out.2.2.2.1.trans (h5.mono (by have := F3.out.2.2.2.2; omega))⟩, rfl, fun _ _ => rfl, Nat.le_refl _⟩
    exact ownsRow_below F3.out.2.2.1 h5
  case assign1 =>
    intro l x W K hK
    unfold bwv
    gi_wp2
    exact hK
  case body1 =>
    rintro l pre x W ⟨hI, hKp⟩ hlen
    have TW := HT.out.below_ hI.bel
    obtain ⟨y, hy⟩ := Option.isSome_iff_exists.1 hI.ex
    have NY := TW.node _ y hy
    have hat := hI.at_
    rw [nodeN_of hy] at hat
    obtain ⟨v, hbox, hrow⟩ := hI.out
    have hq : pre.map (lab m) ++ [lab m x] = (pre ++ [x]).map (lab m) := by simp
    have hlook : (Instr.lookup 94 (.map (some y.b)) (.string ⟨(lab m x).toArray⟩) true).run Tryz.prog W = .ok (.tuple #[((G ((pre ++ [x]).map (lab m))).map fun y => ptr y.n).getD (.pointer none), .bool ((G ((pre ++ [x]).map (lab m))).map fun y => ptr y.n).isSome]) W := by
      rw [← hq]; exact NY.below.look keyedS Tryz.underlying94 (Tryz.zeroValue80 W) (keyS (lab m x) (hlab x))
    have x0 : W.cell? ⟨w.heap.size, 0, none⟩ = some (.pointer (some ⟨y.n, 0, none⟩)) := hat.cell
    have x1 : W.cell? ⟨y.n, 1, none⟩ = some (.map (some y.b)) := NY.row.cell 1
    have xf := hat.frozen
    have HI := hide hI
    have HAT := hide hat
    have HBX := hide hbox
    have HRW := hide hrow
    have HY := hide hy
    have HN := hide NY
    clear hI hat hbox hrow hy NY TW
    dsimp only
    cases hg : G ((pre ++ [x]).map (lab m)) with
    | none =>
      rw [hg] at hlook
      have hlook' : (Instr.lookup 94 (.map (some y.b)) (.string ⟨(lab m x).toArray⟩) true).run Tryz.prog W = .ok (.tuple #[.pointer none, .bool false]) W := hlook
      clear hlook
      gi_wp2
      refine ⟨KeepsFrom.refl _ _, rfl, by simp, hg, by simpa using HI.out.ex, ?_, HI.out.bel⟩
      exact ⟨v, HBX.out, by simpa using HRW.out⟩
    | some y' =>
      rw [hg] at hlook
      have hlook' : (Instr.lookup 94 (.map (some y.b)) (.string ⟨(lab m x).toArray⟩) true).run Tryz.prog W = .ok (.tuple #[.pointer (some ⟨y'.n, 0, none⟩), .bool true]) W := hlook
      clear hlook
      obtain ⟨i0, hi, hz0, hz1, hz2⟩ := info_parts infoNp
      have g1 := grownBy_setCell' W w.heap.size (.pointer (some ⟨y'.n, 0, none⟩))
      have hBW := HI.out.bel.size
      have hb1 : Boxed (W.setCell ⟨w.heap.size, 0, none⟩ (.pointer (some ⟨y'.n, 0, none⟩))) w.heap.size 80 (ptr y'.n) := HAT.out.set _
      have hb2 : Boxed (W.setCell ⟨w.heap.size, 0, none⟩ (.pointer (some ⟨y'.n, 0, none⟩))) (w.heap.size + 2) 100 v := HBX.out.other (by omega) _
      have hr1 : (W.setCell ⟨w.heap.size, 0, none⟩ (.pointer (some ⟨y'.n, 0, none⟩))).ownsRow (w.heap.size + 1) 80 1 v (pre.length + 1) (ptrs G m pre) := HRW.out.kept g1 (.inr (fun e => by
        rcases HRW.out.2 with ⟨e1, h1⟩ | ⟨g, cap, cur, e1, hg0, hgb, _⟩
        · omega
        · rw [e1] at e
          have e2 : w.heap.size = g := by simpa [Value.ownBlock, eq_comm] using e
          omega))
      have hbc := HBX.out.cell
      have HB1 := hide hb1
      have HB2 := hide hb2
      have HR1 := hide hr1
      clear hb1 hb2 hr1
      have hpl : pre.length + 1 ≤ 1000000 := by omega
      have hbs : w.heap.size + 1 ≤ W.heap.size := by have := HBX.out.lt; omega
      gi_wp2_with (gi_at_builtin; go_loud (refine wpListIn_append_own _ rfl _ _ 100 rfl (w.heap.size + 1) 80 i0 (.pointer none) 1 8 Tryz.underlying100 hi hz0 hz1 hz2 rfl (by decide) _ _ _ rfl (HR1.out.alloc _) ⟨W.heap.size, 0, none⟩ 1 1 [.pointer (some ⟨y'.n, 0, none⟩)] (by first | rfl | simp) (by first | rfl | simp) (by first | exact cell_one_new _ _ _ | simpa using cell_one_new (W.setCell ⟨w.heap.size, 0, none⟩ (.pointer (some ⟨y'.n, 0, none⟩))) _ _) (by simp [Value.oneCell']) (by unfold maxLen; omega) (by omega) (by first | omega | (simp; omega)) ?_); intro v' w1 hown' hgrow _; obtain ⟨g', cap', rfl⟩ := ownsRow_succ hown'; obtain ⟨hv1, hv2, hr2, hk2, hb2'⟩ := HB2.out.appended (by decide) HR1.out (by simp; omega) (by omega) hown' hgrow; have hc1 := hv1.cell; have hf1 := hv1.frozen)
      obtain ⟨W', hW'⟩ : ∃ W', W' = w1.setCell ⟨w.heap.size + 2, 0, none⟩ (.slice (some ⟨g', 0, none⟩) (pre.length + 1 + 1) cap') := ⟨_, rfl⟩
      have hsz1 := hgrow.size
      simp only [World.size_alloc, World.size_setCell] at hsz1
      have hno : some w.heap.size ≠ v.ownBlock := fun e => by
        rcases HRW.out.2 with ⟨e1, h1⟩ | ⟨g, cap, cur, e1, hg0, hgb, _⟩
        · omega
        · rw [e1] at e
          have e2 : w.heap.size = g := by simpa [Value.ownBlock, eq_comm] using e
          omega
      have hsame : ∀ i, w.heap.size + 3 ≤ i → i < W.heap.size → some i ≠ v.ownBlock → W'.heap[i]? = W.heap[i]? := fun i h1 h2 h3 => by
        rw [hW', (grownBy_setCell' w1 (w.heap.size + 2) _).block i (by omega) (by simp; omega), hgrow.block i (by simp; omega) h3, Below.heap_alloc _ _ i (by simpa using h2), g1.block i h2 (by simp; omega)]
      have hKP : KpA w4.heap.size a4 W W' := by
        refine ⟨hsame _ hz5 (Array.getElem?_eq_some_iff.1 (hKp.box.trans G5.out.1)).1 (not_own HRW.out (hKp.box.trans G5.out.1) (by decide)), fun a e => ?_, by rw [hW']; simp; omega⟩
        obtain ⟨h1, c, f, h2⟩ := hrow4 a e
        have h3 := (hKp.row a e).trans h2
        exact hsame _ h1 (Array.getElem?_eq_some_iff.1 h3).1 (not_own HRW.out h3 (by decide))
      rw [← hW'] at hv2 hr2 hk2 hb2' ⊢
      refine ⟨((KeepsOthers.setCell W _ _).trans hk2).from _, hKP, ⟨?_, by rw [hg]; rfl, ⟨_, hv2, ?_⟩, ?_⟩, hKp.trans hKP⟩
      · rw [nodeN_of hg, hW']
        exact ((HB1.out.alloc _).kept hgrow hno).other (by omega) _
      · rw [ptrs_snoc, nodeN_of hg, List.length_append]
        exact hr2
      · exact HI.out.bel.trans (((Below.refl w.heap.size W).setCell (p := ⟨w.heap.size, 0, none⟩) (Nat.le_refl _) _).trans (hb2'.mono (by omega)))
  case done1 =>
    rintro Dd xs W hDd rfl ⟨hI, _⟩ hK
    obtain ⟨v, hbox, hrow⟩ := hI.out
    have hc := hbox.cell
    have HR := hide hrow
    have HI := hide hI
    clear hbox hrow hI
    gi_wp2
    refine ⟨by simp, .inl ⟨_, _, rfl, run_takeDeferred hK, ?_⟩⟩
    refine ⟨_, results_tmp rfl _ _ _, v, rfl, len, by rw [hl.out]; omega, ?_, fun h => by have := hl.out; omega, ?_, ?_⟩
    · have := HI.out.ex
      rw [lab_range m len (by rw [hl4.out]; omega)] at this
      rw [← HM.out]; exact this
    · have := HR.out
      rw [List.length_range, ptrs_range G m len (by rw [hl4.out]; omega)] at this
      rw [← HM.out]; exact ownsRow_base (base := w.heap.size + 1) (ownsRow_putObj this _ hK rfl) (Nat.le_succ _)
    · exact HI.out.bel.trans ⟨rfl, rfl, rfl, by simp, fun i hi => World.putObj_heap_other (by have := G5.out.2.2.2.1; omega)⟩
  case stop1 =>
    rintro Dd c pre W hDd ⟨k, hk, rfl⟩ ⟨rfl, hX⟩ hK
    have hdl : (List.range (k + 1)).dropLast = List.range k := by rw [List.range_succ, List.dropLast_concat]
    obtain ⟨v, hbox, hrow⟩ := hX.out
    have hc := hbox.cell
    have HR := hide hrow
    have HX := hide hX
    clear hbox hrow hX
    gi_wp2
    refine ⟨by simp, .inl ⟨_, _, rfl, run_takeDeferred hK, ?_⟩⟩
    refine ⟨_, results_tmp rfl _ _ _, v, rfl, k, by rw [hl.out]; omega, ?_, fun _ => ?_, ?_, ?_⟩
    · have := HX.out.ex
      rw [hdl, lab_range m k (by rw [hl4.out]; omega)] at this
      rw [← HM.out]; exact this
    · have := HX.out.no
      rw [lab_range m (k + 1) (by rw [hl4.out]; omega)] at this
      rw [← HM.out]; exact this
    · have := HR.out
      rw [hdl, List.length_range, ptrs_range G m k (by rw [hl4.out]; omega)] at this
      rw [← HM.out]; exact ownsRow_base (base := w.heap.size + 1) (ownsRow_putObj this _ hK rfl) (Nat.le_succ _)
    · exact HX.out.bel.trans ⟨rfl, rfl, rfl, by simp, fun i hi => World.putObj_heap_other (by have := G5.out.2.2.2.1; omega)⟩
end Go.Proofs.YtdldaphkiphpnaaGreat
