/- Copy. -/
import Derived.Test.YtmjdlejomohbdaaKnw
namespace Go.Proofs.Ytmjdlejomohbdaa
open Go.RowKit
set_option maxRecDepth 5000 in
theorem make_hint (n : Int) (W : World) : (Instr.makeMap 49 (some (.int .i64 n))).run Try.prog W = .ok (.map (some W.heap.size)) (W.alloc (.map #[] 0)) := by
  simp [Instr.makeMap, run_underlying Try.underlying49, asInt, asIntOf, Result.andThen]
/- the first k of the copy's lists are made -/
structure Cp1 (A : Nat → Prop) (w : World) (C S' M : Nat) (s : K.St) (k : Nat) (sw : Nat → Value) (wr : World) : Prop where
  bel : Below w.heap.size w wr
  row : RowAt wr C 51 (dkRow s.sz S' s.n M s.dead s.cut s.left)
  lst : RowAt wr S' 32 ((List.range s.n).map sw).toArray
  don : ∀ i, i < k → Sec A wr s.sz (sw i) (s.su i)
  bC : w.heap.size ≤ C
  bS : w.heap.size ≤ S'
/- the copy's map holds those that came -/
structure Cp2 (A : Nat → Prop) (w : World) (C S' M' : Nat) (s : K.St) (sw : Nat → Value) (uw : Nat → Option Value) (wr : World) : Prop where
  bel : Below w.heap.size w wr
  row : RowAt wr C 51 (dkRow s.sz S' s.n M' s.dead s.cut s.left)
  lst : RowAt wr S' 32 ((List.range s.n).map sw).toArray
  don : ∀ i, i < s.n → Sec A wr s.sz (sw i) (s.su i)
  map : MapAt wr M' uw s.n
  val : ∀ i v, uw i = some v → Sec A wr s.sz v (s.un i)
  bC : w.heap.size ≤ C
  bS : w.heap.size ≤ S'
  bM : w.heap.size ≤ M'
set_option maxRecDepth 5000 in
theorem OwnB.lower {w : World} {base base' : Nat} {v : Value} {l : List UInt8} (h : OwnB w base v l) (hb : base' ≤ base) : OwnB w base' v l := by
  have h0 : w.ownsRow base 5 1 v l.length (vb l) := h
  refine ⟨h0.1, ?_⟩
  rcases h0.2 with h1 | ⟨g, cap, cur, e, h1, h2, h3⟩
  · exact Or.inl h1
  · exact Or.inr ⟨g, cap, cur, e, Nat.le_trans hb h1, h2, h3⟩
set_option maxRecDepth 5000 in
theorem OwnB.new_sec {A : Nat → Prop} {w : World} {base sz : Nat} {v : Value} {l : List UInt8} (h : OwnB w base v l) (hl : l.length = sz) (hA : ∀ g, A g → g < base) : Sec A w sz v (some l) :=
  ⟨hl, h.lower (Nat.zero_le _), fun g hg hAg => by
    have h0 : w.ownsRow base 5 1 v l.length (vb l) := h
    rcases h0.2 with ⟨e, _⟩ | ⟨g', cap, cur, e, h1, _⟩
    · rw [e] at hg; cases hg
    · rw [e] at hg; injection hg with hg; subst hg
      have := hA _ hAg
      simp at this; omega⟩
/- a clone of a list of the disk's -/
set_option maxRecDepth 5000 in
theorem clone_sec {A : Nat → Prop} (w : World) (sz : Nat) (v : Value) (o : Option (List UInt8)) (h : Sec A w sz v o) (h1 : 64 ≤ sz) (h2 : sz ≤ 4096) (hA : ∀ g, A g → g < w.heap.size) : Calls Try.prog 22 #[v] w fun e w' => ∃ a m k, e = .returned (.slice a m k) ∧ Sec A w' sz (.slice a m k) o ∧ Below w.heap.size w w' := by
  cases o with
  | none =>
    rw [show v = _ from h]
    refine (clone_nil w 0 0).mono ?_
    rintro e w' ⟨rfl, rfl⟩
    exact ⟨_, _, _, rfl, rfl, Below.refl _ _⟩
  | some l =>
    have hl : l.length = sz := h.1
    obtain ⟨g, cap, e, _, _, _, _, _⟩ := h.2.1.form (by omega)
    have hsl : SlL w (some ⟨g, 0, none⟩) l := by
      have := h.2.1
      rw [e] at this
      exact this.sl
    rw [e]
    refine (clone_any w _ cap l (by omega) (by omega) hsl).mono ?_
    rintro e w' ⟨v', rfl, hO, hB⟩
    have hs := hO.new_sec hl hA
    have h0 : w'.ownsRow w.heap.size 5 1 v' l.length (vb l) := hO
    rcases h0.2 with ⟨e, _⟩ | ⟨g', cap', cur, e, _⟩
    · subst e; exact ⟨_, _, _, rfl, hs, hB⟩
    · subst e; exact ⟨_, _, _, rfl, hs, hB⟩
set_option maxRecDepth 5000 in
theorem Cp1.step {A : Nat → Prop} {w : World} {C S' M : Nat} {s : K.St} {k : Nat} {sw : Nat → Value} {wr w2 : World} (h : Cp1 A w C S' M s k sw wr) (hb : Below wr.heap.size wr w2) {v : Value} (hv : Sec A w2 s.sz v (s.su k)) : Cp1 A w C S' M s (k + 1) (fun j => if j = k then v else sw j) (w2.setCell ⟨S', k, none⟩ v) := by
  have hl2 := h.lst.below hb h.lst.lt
  have hk1 : Rows wr w2 := fun _ _ hg => hg.below hb hg.lt
  have hk2 : Rows w2 (w2.setCell ⟨S', k, none⟩ v) := fun g c hg => hg.other _ _ (fun e => (hl2.ne hg tne2) e.symm)
  refine ⟨(h.bel.trans (hb.mono (Nat.le_trans h.bS (Nat.le_of_lt h.lst.lt)))).setCell h.bS _, (h.row.below hb h.row.lt).other _ _ (h.row.ne h.lst tne3), ?_, fun i hi => ?_, h.bC, h.bS⟩
  · have := hl2.set k v
    rw [row_set] at this
    exact this
  · by_cases e : i = k
    · subst e; simp only [if_true]; exact hv.heap hk2
    · simp only [e, if_false]; exact ((h.don i (by omega)).heap hk1).heap hk2
set_option maxRecDepth 5000 in
theorem Cp2.step {A : Nat → Prop} {w : World} {C S' M' : Nat} {s : K.St} {sw : Nat → Value} {uw : Nat → Option Value} {wr w2 w3 : World} (h : Cp2 A w C S' M' s sw uw wr) (hb : Below wr.heap.size wr w2) {v : Value} {i : Nat} (hv : Sec A w2 s.sz v (s.un i)) (hm : MapAt w3 M' (vput uw i v) s.n) (hg : w2.grownBy w3 (some M')) : Cp2 A w C S' M' s sw (vput uw i v) w3 := by
  have hm2 := h.map.heap (w' := w2) (hb.block M' h.map.lt)
  have hk1 : Rows wr w2 := fun _ _ hg => hg.below hb hg.lt
  have hk2 : Rows w2 w3 := fun g c hr => (hg.block g hr.lt (fun e => hm2.row_ne hr (by injection e))).trans hr
  have hC2 := h.row.below hb h.row.lt
  have hS2 := h.lst.below hb h.lst.lt
  refine ⟨(h.bel.trans (hb.mono (Nat.le_trans h.bS (Nat.le_of_lt h.lst.lt)))).grown hg (Nat.le_trans (Nat.le_trans h.bS (Nat.le_of_lt h.lst.lt)) hb.size) (fun k hk => by injection hk with hk; subst hk; exact h.bM), (hg.block C hC2.lt (fun e => hm2.row_ne hC2 (by injection e))).trans hC2, (hg.block S' hS2.lt (fun e => hm2.row_ne hS2 (by injection e))).trans hS2, fun j hj => ((h.don j hj).heap hk1).heap hk2, hm, fun j v' hj => ?_, h.bC, h.bS, h.bM⟩
  unfold vput at hj
  by_cases e : j = i
  · rw [if_pos e] at hj; injection hj with hj; subst hj; subst e; exact hv.heap hk2
  · rw [if_neg e] at hj; exact ((h.val j v' hj).heap hk1).heap hk2
set_option maxRecDepth 5000 in
theorem Cp2.fin {A : Nat → Prop} {w : World} {D S M C S' M' : Nat} {s : K.St} {sv sw : Nat → Value} {uv uw : Nat → Option Value} {wr : World} (h : Cp2 A w C S' M' s sw uw wr) (hd : Dk A w D S M s sv uv) (hu : ∀ i, (uw i).isSome = (uv i).isSome) : DiskAt A wr C S' M' s :=
  ⟨sw, uw, h.row, h.lst, h.map, h.don, fun i => (hu i).trans (hd.hun i), fun i v l h1 h2 => by rw [← h2]; exact h.val i v h1, hd.hlt, hd.b1, hd.b2, hd.b3, hd.b4, hd.b5, fun g hg => Nat.lt_of_lt_of_le (hd.hA g hg) h.bel.size⟩
set_option maxHeartbeats 2000000 in
set_option maxRecDepth 5000 in
theorem copy_any {A : Nat → Prop} (w : World) (D S M : Nat) (s : K.St) (h : DiskAt A w D S M s) : Calls Try.prog 16 #[.pointer (some ⟨D, 0, none⟩)] w fun e w' => ∃ C S' M', e = .returned (.pointer (some ⟨C, 0, none⟩)) ∧ DiskAt A w' C S' M' s ∧ Below w.heap.size w w' ∧ w.heap.size ≤ C ∧ w.heap.size ≤ S' ∧ w.heap.size ≤ M' := by
  obtain ⟨sv, uv, h⟩ := h
  have H := hide h
  have c0 : w.cell? ⟨D, 0, none⟩ = some (.int .i64 (s.sz : Int)) := h.cell 0
  have c1 : w.cell? ⟨D, 1, none⟩ = some (.slice (some ⟨S, 0, none⟩) s.n s.n) := h.cell 1
  have c2 : w.cell? ⟨D, 2, none⟩ = some (.map (some M)) := h.cell 2
  have c3 : w.cell? ⟨D, 3, none⟩ = some (.bool s.dead) := h.cell 3
  have c4 : w.cell? ⟨D, 4, none⟩ = some (.bool s.cut) := h.cell 4
  have c5 : w.cell? ⟨D, 5, none⟩ = some (.int .i64 (s.left : Int)) := h.cell 5
  have hmk := make_nils s.n (by have := h.b4; omega)
  generalize hg : (Obj.cells ((List.range s.n).map fun _ => Value.slice none 0 0).toArray 32) = ob at hmk
  have G := hide hg
  have d1 : ∀ o : Obj, (w.alloc o).cell? ⟨D, 1, none⟩ = some (.slice (some ⟨S, 0, none⟩) s.n s.n) := fun o => (h.row.alloc o).cell 1
  have d2 : ∀ o : Obj, ((w.alloc o).alloc ob).cell? ⟨D, 1, none⟩ = some (.slice (some ⟨S, 0, none⟩) s.n s.n) := fun o => ((h.row.alloc o).alloc ob).cell 1
  have d3 : ∀ (c : Array Value), ((w.alloc (.cells c 51)).alloc ob).frozen? ⟨w.heap.size, 1, none⟩ = false := fun c => ((RowAt.new w 51 c).alloc ob).frozen 1
  have d4 : ((w.alloc (.cells (dkRow s.sz S s.n M s.dead s.cut s.left) 51)).alloc ob).cell? ⟨w.heap.size, 1, none⟩ = some (.slice (some ⟨S, 0, none⟩) s.n s.n) := ((RowAt.new w 51 _).alloc ob).cell 1
  unfold dkRow at d4
  clear hg h
  go_enter Try.func16, Try.ntmps16
  go_wp2
  have hC0 : Hid (Cp1 A w w.heap.size (w.heap.size + 1) M s 0 (fun _ => .slice none 0 0) ((w.alloc (.cells (dkRow s.sz (w.heap.size + 1) s.n M s.dead s.cut s.left) 51)).alloc ob)) := by
    refine ⟨((Below.refl _ w).alloc (Nat.le_refl _) _).alloc (by simp) _, (RowAt.new w 51 _).alloc ob, ?_, fun i hi => absurd hi (Nat.not_lt_zero _), Nat.le_refl _, by omega⟩
    have := RowAt.new (w.alloc (.cells (dkRow s.sz (w.heap.size + 1) s.n M s.dead s.cut s.left) 51)) 32 ((List.range s.n).map fun _ => Value.slice none 0 0).toArray
    rw [show (w.alloc (.cells (dkRow s.sz (w.heap.size + 1) s.n M s.dead s.cut s.left) 51)).heap.size = w.heap.size + 1 by simp] at this
    rw [← G.out]; exact this
  unfold dkRow at hC0
  clear d1 d2 d3 d4 c0 c1 c2 c3 c4 c5 hmk
  obtain ⟨C, hCe⟩ : ∃ C, C = w.heap.size := ⟨_, rfl⟩
  obtain ⟨S', hSe⟩ : ∃ S', S' = w.heap.size + 1 := ⟨_, rfl⟩
  rw [← hSe, ← hCe] at hC0 ⊢
  generalize ((w.alloc (.cells _ 51)).alloc ob) = W0 at hC0 ⊢
  have HCE := hide hCe
  have HSE := hide hSe
  clear hCe hSe
  have hn4 := H.out.b4
  obtain ⟨n, hn⟩ : ∃ n, n = s.n := ⟨_, rfl⟩
  have HN := hide hn
  rw [← hn] at hn4 ⊢
  clear hn G
  go_loopw [23] (fun k wr => ∃ (kk : Nat) (sw : Nat → Value), k = .int .i64 (kk : Int) ∧ kk ≤ n ∧ Cp1 A w C S' M s kk sw wr)
    (fun k _ => n - (match k with | .int _ x => x.toNat | _ => 0))
  case atStart => exact ⟨0, _, rfl, Nat.zero_le _, hC0.out⟩
  case round =>
    obtain ⟨kk, sw, rfl, hkk, hI⟩ := hrel
    by_cases hlt : kk < n
    · have hd : decide ((kk : Int) < (n : Int)) = true := by simp; exact hlt
      have hkn : kk < s.n := by rw [← HN.out]; exact hlt
      have hDw := H.out.below hI.bel (Nat.le_refl _)
      have y0 : wr.cell? ⟨S, kk, none⟩ = some (sv kk) := hDw.scell kk hkn
      have y1 : wr.cell? ⟨C, 1, none⟩ = some (.slice (some ⟨S', 0, none⟩) n n) := by rw [HN.out]; exact hI.row.cell 1
      have y1d : wr.drew.cell? ⟨C, 1, none⟩ = some (.slice (some ⟨S', 0, none⟩) n n) := y1
      have hsec := hDw.hsu kk hkn
      obtain ⟨va, vm, vk, hve⟩ := hsec.form
      rw [hve] at y0 hsec
      have hcl : Calls Try.prog 22 #[.slice va vm vk] wr.drew fun e w' => ∃ a m k, e = .returned (.slice a m k) ∧ Sec A w' s.sz (.slice a m k) (s.su kk) ∧ Below wr.drew.heap.size wr.drew w' :=
        clone_sec wr.drew s.sz _ _ (show Sec A wr.drew s.sz _ _ from hsec.heap (fun _ _ h => h)) H.out.b1 H.out.b2 (fun g hg => hDw.hA g hg)
      have hadd : IntKind.i64.wrap ((kk : Int) + 1) = ((kk + 1 : Nat) : Int) := by rw [IntKind.wrap_i64]; omega
      have HI := hide hI
      clear hI hDw hsec hve
      go_wp2
      go_region_held3 (fun w' => w'.cell? ⟨C, 1, none⟩ = some (.slice (some ⟨S', 0, none⟩) n n)) (first | exact y1 | exact y1d | exact y2 | exact y3) ((go_at_call 22; refine hcl.mono ?_; rintro e w2 ⟨a, m, k, rfl, hS2, hB2⟩; have hB2' : Below wr.heap.size wr w2 := ⟨hB2.os, hB2.tape, hB2.output, hB2.size, hB2.block⟩; have HI2 := hide (HI.out.step hB2' hS2); have y2 : w2.cell? ⟨C, 1, none⟩ = some (.slice (some ⟨S', 0, none⟩) n n) := (by rw [HN.out]; exact (HI.out.row.below hB2' HI.out.row.lt).cell 1); have y3 : (w2.setCell ⟨S', kk, none⟩ (.slice a m k)).cell? ⟨C, 1, none⟩ = some (.slice (some ⟨S', 0, none⟩) n n) := (by rw [HN.out]; exact HI2.out.row.cell 1); have y4 : w2.cell? ⟨S', kk, none⟩ = some (sw kk) := (by rw [(HI.out.lst.below hB2' HI.out.lst.lt).cell kk]; simp [hkn]); have y5 : w2.frozen? ⟨S', kk, none⟩ = false := (HI.out.lst.below hB2' HI.out.lst.lt).frozen kk; clear hS2 hB2 hB2'))
      go_wp2
      go_roundw
      case rel => exact ⟨kk + 1, _, rfl, by omega, HI2.out⟩
      case measure => show n - ((kk + 1 : Nat) : Int).toNat < n - ((kk : Nat) : Int).toNat; omega
    · have hd : decide ((kk : Int) < (n : Int)) = false := by simp; omega
      have hkn : kk = s.n := by rw [← HN.out]; omega
      have hDw := H.out.below hI.bel (Nat.le_refl _)
      have z2 : wr.cell? ⟨D, 2, none⟩ = some (.map (some M)) := hDw.cell 2
      obtain ⟨Dm, hown, hmv⟩ := hDw.un
      have hlen := fun ty => hown.len Try.underlying49 ty
      have hmk := make_hint (Maps.size Dm : Int)
      have hC1 := hI.row.alloc (.map #[] 0)
      have z3 : (wr.alloc (.map #[] 0)).cell? ⟨C, 2, none⟩ = some (.map (some M)) := hC1.cell 2
      have z4 : (wr.alloc (.map #[] 0)).frozen? ⟨C, 2, none⟩ = false := hC1.frozen 2
      have hCD : D ≠ C := fun e => by have := H.out.row.lt; have := hI.bC; omega
      have z5 : ((wr.alloc (.map #[] 0)).setCell ⟨C, 2, none⟩ (.map (some wr.heap.size))).cell? ⟨D, 2, none⟩ = some (.map (some M)) := ((hDw.row.alloc _).other _ _ hCD).cell 2
      have hMlt := hown.lt
      have hown2 : ((wr.alloc (.map #[] 0)).setCell ⟨C, 2, none⟩ (.map (some wr.heap.size))).ownsMap Try.prog 3 HR M (Maps.size Dm) Dm := (hown.alloc _).setCell (fun e => by
        have h1 : (M : Nat) = C := e
        have := H.out.un.lt
        have := hI.bC
        omega) _
      have HI2 : Hid (Cp2 A w C S' wr.heap.size s sw (fun _ => none) ((wr.alloc (.map #[] 0)).setCell ⟨C, 2, none⟩ (.map (some wr.heap.size)))) := by
        have hCl := hI.row.lt
        have hk2 : Rows wr ((wr.alloc (.map #[] 0)).setCell ⟨C, 2, none⟩ (.map (some wr.heap.size))) := fun g c hg => (hg.alloc _).other _ _ (fun e => (hI.row.ne hg tne1) e.symm)
        refine ⟨(hI.bel.alloc hI.bel.size _).setCell hI.bC _, hC1.set 2 (.map (some wr.heap.size)), (hI.lst.alloc _).other _ _ (fun e => (hI.row.ne hI.lst tne3) e.symm), fun i hi => (hI.don i (by omega)).heap hk2, ?_, fun _ _ h => (by cases h), hI.bC, hI.bS, Nat.le_trans hI.bC (Nat.le_of_lt hCl)⟩
        exact (MapAt.made wr s.n).heap (heap_setCell_other _ _ _ _ (by show wr.heap.size ≠ C; omega))
      have hMw : M ≠ wr.heap.size := by omega
      have hMu := hmv
      clear hI hDw hown hC1 hC0 hkn
      go_wp2_with (first
        | (at_range; refine wpList_range_own _ rfl _ 49 rfl 3 32 keyedI Try.underlying49 HR M _ Dm rfl hown2 ?_; intro w2 hrg0 hg0 hs0)
        | go_in)
      have ez : ((wr.alloc (.map #[] 0)).setCell ⟨C, 2, none⟩ (.map (some wr.heap.size))).heap.size = wr.heap.size + 1 := by simp [World.setCell]
      rw [ez] at hrg0 hs0 ⊢
      have HI3 : Hid (Cp2 A w C S' wr.heap.size s sw (fun _ => none) w2) := by
        have hb : Below ((wr.alloc (.map #[] 0)).setCell ⟨C, 2, none⟩ (.map (some wr.heap.size))).heap.size ((wr.alloc (.map #[] 0)).setCell ⟨C, 2, none⟩ (.map (some wr.heap.size))) w2 := ⟨hg0.os, hg0.tape, hg0.output, hg0.size, fun k hk => hg0.block k hk (by simp)⟩
        have h2 := HI2.out
        have hk : Rows _ w2 := fun g c hg => hg.below hb hg.lt
        exact ⟨h2.bel.trans (hb.mono h2.bel.size), h2.row.below hb h2.row.lt, h2.lst.below hb h2.lst.lt, fun i hi => (h2.don i hi).heap hk, h2.map.heap (hb.block _ h2.map.lt), fun _ _ h => (by cases h), h2.bC, h2.bS, h2.bM⟩
      generalize hM' : wr.heap.size = M' at *
      have HM' := hide hM'
      clear hM' HI2 hg0 z2 z3 z4 z5 hlen hmk hown2 ez hd
      go_frame
      go_loopw [6] (fun _ wr => ∃ (left : Lit → Bool) (cnt : Nat) (uw : Nat → Option Value), wr.ranges Try.prog 3 HR M (M' + 1) (Maps.size Dm) Dm left cnt ∧ Cp2 A w C S' M' s sw uw wr ∧ ∀ i : Nat, (uw i).isSome = ((uv i).isSome && !left (.int .i64 (i : Int))))
        (fun _ wr => wr.rangeLeft M (M' + 1))
      case atStart => exact ⟨_, _, fun _ => none, hrg0, HI3.out, fun i => by rw [hmv.has]; cases uv i <;> rfl⟩
      case round =>
        obtain ⟨left, cnt, uw, hrg, hI, hun⟩ := hrel
        go_wp2_with (first
          | (at_next; refine wpList_next_ranges _ rfl _ rfl 3 keyedI HR (Value.int .i64) id (fun key kl hk => by obtain ⟨x, hx, _⟩ := Maps.keyOf_i64 Try.underlying3 hk; exact ⟨x, hx⟩) (fun v _ _ => ⟨v, rfl⟩) M (M' + 1) _ _ _ _ rfl hrg ?_ ?_)
          | go_in)
        · intro hc0 hl0
          have HF : Hid (DiskAt A wr C S' M' s) := hI.fin H.out (fun i => by rw [hun i, hl0]; simp)
          have HI4 := hide hI
          clear hI hrg hun
          go_wp2
          go_ret
          exact ⟨C, S', M', rfl, HF.out, HI4.out.bel, HI4.out.bC, HI4.out.bS, HI4.out.bM⟩
        · intro x c kl yd yp w' cnt' hkey hlk hv hat hrg1 hlt hg1 hs1 hen
          obtain ⟨i, hi, rfl, rfl, hui⟩ := next_key hmv hkey hv hat
          obtain ⟨va, vm, vk, rfl⟩ := H.out.uform hui
          have hz1 := hI.lst.lt
          have hg1' : ∀ g, g < wr.heap.size → g ≠ M' + 1 → w'.heap[g]? = wr.heap[g]? := fun g hg hne => hg1.block g hg (fun e => hne (by injection e))
          have hrM : M' + 1 ≠ M' := by omega
          have hIr : ∀ g c t, RowAt wr g t c → RowAt w' g t c := fun g c t hg => (hg1' g hg.lt (fun e => by
            obtain ⟨es, clock, since, seen, c0, hb, _, _, _, hr, _⟩ := hrg
            subst e
            unfold RowAt at hg
            rw [hr] at hg
            cases hg)).trans hg
          have hk1 : Rows wr w' := fun g c hg => hIr g c _ hg
          have hI1 : Cp2 A w C S' M' s sw uw w' := by
            refine ⟨?_, hIr _ _ _ hI.row, hIr _ _ _ hI.lst, fun j hj => (hI.don j hj).heap hk1, hI.map.heap (hg1' M' hI.map.lt (by omega)), fun j v hj => (hI.val j v hj).heap hk1, hI.bC, hI.bS, hI.bM⟩
            exact hI.bel.grown hg1 hI.bel.size (fun k hk => by injection hk with hk; subst hk; exact Nat.le_trans hI.bM (by omega))
          have hDw := H.out.below hI1.bel (Nat.le_refl _)
          have hsec : Sec A w' s.sz (.slice va vm vk) (s.un i) := by
            have h1 := hDw.hun i
            rw [hui] at h1
            cases hq : s.un i with
            | none => rw [hq] at h1; cases h1
            | some l => exact hDw.huv i _ l hui hq
          have y1 : w'.cell? ⟨C, 2, none⟩ = some (.map (some M')) := hI1.row.cell 2
          have y1d : w'.drew.cell? ⟨C, 2, none⟩ = some (.map (some M')) := y1
          have hcl : Calls Try.prog 22 #[.slice va vm vk] w'.drew fun e w' => ∃ a m k, e = .returned (.slice a m k) ∧ Sec A w' s.sz (.slice a m k) (s.un i) ∧ Below _ _ w' :=
            clone_sec w'.drew s.sz _ _ (show Sec A w'.drew s.sz _ _ from hsec.heap (fun _ _ h => h)) H.out.b1 H.out.b2 (fun g hg => hDw.hA g hg)
          have HI5 := hide hI1
          have HR1 := hide hrg1
          have HRG := hide hrg
          have HUN := hide hun
          have HUI := hide hui
          have HIN := hide hi
          clear hI hI1 hrg1 hrg hDw hsec hIr hk1 hg1 hg1' hun hui hkey hv hat hi hz1
          go_wp2
          go_region_held3 (fun w'' => w''.cell? ⟨C, 2, none⟩ = some (.map (some M'))) (first | exact y1 | exact y1d | exact y2 | exact y3) ((go_at_call 22; refine hcl.mono ?_; rintro e w5 ⟨a, m, k, rfl, hS5, hB5⟩; have hB5' : Below w'.heap.size w' w5 := ⟨hB5.os, hB5.tape, hB5.output, hB5.size, hB5.block⟩; have hm5 := HI5.out.map.heap (w' := w5) (hB5'.block _ HI5.out.map.lt); obtain ⟨w6, hrun, hM6, hG6, hz6⟩ := hm5.update (by have := H.out.b4; omega) i HIN.out (.slice a m k); have HI6 := hide (HI5.out.step hB5' hS5 hM6 hG6); have y2 : w5.cell? ⟨C, 2, none⟩ = some (.map (some M')) := (HI5.out.row.below hB5' HI5.out.row.lt).cell 2; have y3 : w6.cell? ⟨C, 2, none⟩ = some (.map (some M')) := HI6.out.row.cell 2; have HR6 : Hid (w6.ranges Try.prog 3 HR M (M' + 1) (Maps.size Dm) Dm (fun z => left z && !z.sameKey (.int .i64 (i : Int))) cnt') := (HR1.out.kept (row := none) ⟨hB5'.os, hB5'.tape, hB5'.output, hB5'.size, fun k hk _ => hB5'.block k hk⟩ (by simp) (by simp)).kept hG6 (fun e => hMw (by injection e)) (fun e => hrM (by injection e)); clear hS5 hB5 hB5' hM6 hG6 hm5 hz6))
          go_wp2
          go_roundw
          case rel =>
            refine ⟨_, cnt', _, HR6.out, HI6.out, fun j => ?_⟩
            unfold vput
            by_cases e : j = i
            · subst e
              simp [Lit.sameKey, HUI.out]
            · have h1 : (Lit.int .i64 (j : Int)).sameKey (.int .i64 (i : Int)) = false := Maps.sameKey_ne (int_ne e)
              simp only [e, if_false, h1, Bool.not_false, Bool.and_true]
              exact HUN.out j
          case measure => rw [HR6.out.left_eq, HRG.out.left_eq]; exact hlt
end Go.Proofs.Ytmjdlejomohbdaa
