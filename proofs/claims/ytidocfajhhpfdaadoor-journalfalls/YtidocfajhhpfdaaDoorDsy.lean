/- Sync. -/
import Derived.Test.YtidocfajhhpfdaaDoorDww
namespace Go.Proofs.YtidocfajhhpfdaaDoor
open Go.RowKit
set_option maxRecDepth 5000 in
theorem row_set (n : Nat) (f : Nat → Value) (i : Nat) (v : Value) : ((List.range n).map f).toArray.setIfInBounds i v = ((List.range n).map (fun j => if j = i then v else f j)).toArray := by
  apply Array.ext_getElem?
  intro j
  simp only [Array.getElem?_setIfInBounds, List.getElem?_toArray, List.getElem?_map, List.size_toArray, List.length_map, List.length_range]
  by_cases hj : j < n
  · by_cases e : i = j
    · subst e; simp [hj]
    · have e' : ¬ j = i := fun h => e h.symm
      simp [hj, e, e']
  · have : (List.range n)[j]? = none := by simp; omega
    simp [this]
    by_cases e : i = j
    · simp [e]; omega
    · simp [e]
set_option maxRecDepth 5000 in
theorem row_congr (n : Nat) (f g : Nat → Value) (h : ∀ i, i < n → f i = g i) : ((List.range n).map f).toArray = ((List.range n).map g).toArray := by
  congr 1
  exact List.map_congr_left fun i hi => h i (List.mem_range.1 hi)
set_option maxRecDepth 5000 in
theorem grown_set (w : World) (g j : Nat) (v : Value) : w.grownBy (w.setCell ⟨g, j, none⟩ v) (some g) := ⟨rfl, rfl, rfl, by simp [World.setCell], fun k _ hne => heap_setCell_other _ _ _ _ (fun e => hne (by rw [e]))⟩
/- the key and the value that come next -/
set_option maxRecDepth 5000 in
theorem next_key {D : DataW Value} {uv : Nat → Option Value} {n : Nat} (hv : MapV D uv n) {x : Int} {c : Value} {kl : Lit} {y : DataW Value × List MemPlace} (hk : keyOf Tryd.prog 3 (.int .i64 x) = some kl) (hR : HR c = some y) (hat : ∀ zd, D.atKey kl zd = y.1) :
    ∃ i : Nat, i < n ∧ x = (i : Int) ∧ kl = .int .i64 (i : Int) ∧ uv i = some c := by
  obtain ⟨x', ex, rfl, _⟩ := Maps.keyOf_i64 Tryd.underlying3 hk
  obtain rfl : x = x' := encZ_inj ex
  have hh : Maps.has D (.int .i64 x) = true := Maps.has_true_of_atKey hat
  obtain ⟨i, hi, e⟩ := hv.key _ hh
  injection e with _ e
  subst e
  refine ⟨i, hi, rfl, rfl, ?_⟩
  rw [hv.has] at hh
  cases hu : uv i with
  | none => rw [hu] at hh; cases hh
  | some v =>
    have h1 := hat (.held c)
    rw [hv.val, hu] at h1
    simp only [HR, Option.some.injEq] at hR
    rw [← hR] at h1
    simp at h1
    rw [h1]
set_option maxRecDepth 5000 in
theorem Dk.fin_sync {A : Nat → Prop} {w w' : World} {D S M M' : Nat} {s : K.St} {sv sv' : Nat → Value} {uv : Nat → Option Value} (h : Dk A w D S M s sv uv) (hz : w.heap.size ≤ w'.heap.size) (hr : RowAt w' D 63 (dkRow s.sz S s.n M' s.dead s.cut s.left)) (hs : RowAt w' S 22 ((List.range s.n).map sv').toArray) (hm : MapAt w' M' (fun _ => none) s.n)
    (su' : Nat → Option (List UInt8)) (he : ∀ i, i < s.n → Sec A w' s.sz (sv' i) (su' i)) : Dk A w' D S M' { s with su := su', un := fun _ => none } sv' (fun _ => none) :=
  ⟨hr, hs, hm, he, fun _ => rfl, fun _ _ _ e => (by cases e), fun _ e => (by cases e), h.b1, h.b2, h.b3, h.b4, h.b5, fun g hg => Nat.lt_of_lt_of_le (h.hA g hg) hz⟩
set_option maxRecDepth 5000 in
theorem Dk.sec {A : Nat → Prop} {w : World} {D S M : Nat} {s : K.St} {sv : Nat → Value} {uv : Nat → Option Value} (h : Dk A w D S M s sv uv) (i : Nat) (hi : i < s.n) : Sec A w s.sz ((uv i).getD (sv i)) ((s.un i).orElse fun _ => s.su i) := by
  have h1 := h.hun i
  cases hu : uv i with
  | none =>
    rw [hu] at h1
    cases hv : s.un i with
    | some l => rw [hv] at h1; cases h1
    | none => exact h.hsu i hi
  | some v =>
    rw [hu] at h1
    cases hv : s.un i with
    | none => rw [hv] at h1; cases h1
    | some l => exact h.huv i v l hu hv
set_option maxRecDepth 5000 in
theorem Sec.form {A : Nat → Prop} {w : World} {sz : Nat} {v : Value} {o : Option (List UInt8)} (h : Sec A w sz v o) : ∃ a m k, v = .slice a m k := by
  cases o with
  | none => exact ⟨_, _, _, h⟩
  | some l =>
    have h0 : w.ownsRow 0 5 1 v l.length (vb l) := h.2.1
    rcases h0.2 with ⟨e, _⟩ | ⟨g, cap, cur, e, _⟩
    · exact ⟨_, _, _, e⟩
    · exact ⟨_, _, _, e⟩
set_option maxRecDepth 5000 in
theorem Dk.uform {A : Nat → Prop} {w : World} {D S M : Nat} {s : K.St} {sv : Nat → Value} {uv : Nat → Option Value} (h : Dk A w D S M s sv uv) {i : Nat} {c : Value} (hu : uv i = some c) : ∃ a m k, c = .slice a m k := by
  have h1 := h.hun i
  rw [hu] at h1
  cases hv : s.un i with
  | none => rw [hv] at h1; cases h1
  | some l => exact (h.huv i c l hu hv).form
set_option maxRecDepth 5000 in
theorem sync_dead {A : Nat → Prop} (w : World) (D S M : Nat) (s : K.St) (h : DiskAt A w D S M s) (hd : s.dead = true) : Calls Tryd.prog 27 #[.pointer (some ⟨D, 0, none⟩)] w fun e w' => e = .returned (.int .i64 82) ∧ w' = w := by
  obtain ⟨sv, uv, h⟩ := h
  have c3 : w.cell? ⟨D, 3, none⟩ = some (.bool s.dead) := h.cell 3
  rw [hd] at c3
  clear h
  go_enter Tryd.func27, Tryd.ntmps27
  go_wp2
  go_ret
  exact ⟨rfl, rfl⟩
set_option maxRecDepth 5000 in
theorem sync_cut {A : Nat → Prop} (w : World) (D S M : Nat) (s : K.St) (h : DiskAt A w D S M s) (hd : s.dead = false) (hc : s.can = false) : Calls Tryd.prog 27 #[.pointer (some ⟨D, 0, none⟩)] w fun e w' => e = .returned (.int .i64 82) ∧ DiskAt A w' D S M s.spent ∧ Mv D S M w w' := by
  have hsp := spend_any w D S M s h
  rw [hc] at hsp
  obtain ⟨sv, uv, h⟩ := h
  have c3 : w.cell? ⟨D, 3, none⟩ = some (.bool s.dead) := h.cell 3
  rw [hd] at c3
  clear h
  go_enter Tryd.func27, Tryd.ntmps27
  go_wp2_with (go_at_call 42; refine hsp.mono ?_; rintro e w1 ⟨rfl, h1, h2, h3⟩)
  go_ret
  exact ⟨rfl, h1, h2⟩
set_option maxHeartbeats 1000000 in
set_option maxRecDepth 5000 in
theorem sync_ok {A : Nat → Prop} (w : World) (D S M : Nat) (s : K.St) (h : DiskAt A w D S M s) (hd : s.dead = false) (hc : s.can = true) : Calls Tryd.prog 27 #[.pointer (some ⟨D, 0, none⟩)] w fun e w' => e = .returned (.int .i64 0) ∧ ∃ M', DiskAt A w' D S M' s.synced ∧ Mv D S M w w' ∧ w.heap.size ≤ M' ∧ M' < w'.heap.size := by
  have hsp := spend_any w D S M s h
  rw [hc] at hsp
  obtain ⟨sv0, uv0, h⟩ := h
  have c3 : w.cell? ⟨D, 3, none⟩ = some (.bool s.dead) := h.cell 3
  rw [hd] at c3
  clear h
  go_enter Tryd.func27, Tryd.ntmps27
  go_wp2_with (first
    | (go_at_call 42; refine hsp.mono ?_; rintro e w1 ⟨rfl, h1, h2, h3⟩; obtain ⟨sv, uv, h1⟩ := h1; have x2 : w1.cell? ⟨D, 2, none⟩ = some (.map (some M)) := h1.cell 2; have H1 := hide h1; have H2 := hide h2; have H3 := hide h3; obtain ⟨Dm, hown, hmv⟩ := h1.un; clear h1 h2 h3 hsp)
    | (at_range; refine wpList_range_own _ rfl _ 61 rfl 3 22 keyedI Tryd.underlying61 HR M _ Dm rfl hown ?_; intro w2 hrg0 hg0 hs0)
    | go_in)
  obtain ⟨n, hn⟩ : ∃ n, n = s.spent.n := ⟨_, rfl⟩
  rw [← hn] at hmv
  have HN := hide hn
  have hn4 : n ≤ 4096 := by rw [hn]; exact H1.out.b4
  clear hn
  go_frame
  go_loopw [3] (fun _ wr => ∃ (left : Lit → Bool) (cnt : Nat) (sw : Nat → Value), wr.ranges Tryd.prog 3 HR M w1.heap.size (Maps.size Dm) Dm left cnt ∧ RowAt wr S 22 ((List.range n).map sw).toArray ∧ w1.grownBy wr (some S) ∧ ∀ i : Nat, i < n → sw i = if left (.int .i64 (i : Int)) then sv i else (uv i).getD (sv i))
    (fun _ wr => wr.rangeLeft M w1.heap.size)
  case atStart =>
    refine ⟨_, _, sv, hrg0, ?_, ⟨hg0.os, hg0.tape, hg0.output, hg0.size, fun k hk _ => hg0.block k hk (by simp)⟩, fun i hi => ?_⟩
    · rw [HN.out]; exact (hg0.block S H1.out.sure.lt (by simp)).trans H1.out.sure
    · rw [hmv.has]
      cases hu : uv i <;> simp
  case round =>
    obtain ⟨left, cnt, sw, hrg, hS, hG, hsw⟩ := hrel
    go_wp2_with (first
      | (at_next; refine wpList_next_ranges _ rfl _ rfl 3 keyedI HR (Value.int .i64) id (fun key kl hk => by obtain ⟨x, hx, _⟩ := Maps.keyOf_i64 Tryd.underlying3 hk; exact ⟨x, hx⟩) (fun v _ _ => ⟨v, rfl⟩) M w1.heap.size _ _ _ _ rfl hrg ?_ ?_)
      | go_in)
    · intro hc0 hl0
      have hRD : RowAt wr D 63 (dkRow s.spent.sz S s.spent.n M s.spent.dead s.spent.cut s.spent.left) := (hG.block D H1.out.row.lt (fun e => H1.out.DS (by injection e))).trans H1.out.row
      have f2 : (wr.alloc (.map #[] 0)).frozen? ⟨D, 2, none⟩ = false := (hRD.alloc _).frozen 2
      have y2 : (wr.alloc (.map #[] 0)).cell? ⟨D, 2, none⟩ = some (.map (some M)) := (hRD.alloc _).cell 2
      have hmm : ∀ W : World, (Instr.makeMap 61 none).run Tryd.prog W = .ok (.map (some W.heap.size)) (W.alloc (.map #[] 0)) := fun W => run_makeMap _ W
      have HRD := hide hRD
      have HRS := hide hS
      have HGG := hide hG
      have HSW := hide hsw
      clear hRD hS hG hsw hrg
      go_wp2
      go_ret
      have hDS := H1.out.DS
      have hDM := H1.out.DM
      have hSM := H1.out.SM
      have hlt := HRD.out.lt
      have hkw : Rows w1 wr := fun g c hg => (HGG.out.block g hg.lt (fun e => (H1.out.sure.ne hg tne2) (by injection e with e; exact e.symm))).trans hg
      have hk2 : Rows wr ((wr.alloc (.map #[] 0)).setCell ⟨D, 2, none⟩ (.map (some wr.heap.size))) := fun g c hg => (hg.alloc _).other _ _ (fun e => (HRD.out.ne hg tne1) e.symm)
      refine ⟨rfl, wr.heap.size, ⟨fun i => (uv i).getD (sv i), fun _ => none, ?_⟩, ?_, ?_, by simp [World.setCell]⟩
      · have hF := Dk.fin_sync (M' := wr.heap.size) (sv' := fun i => (uv i).getD (sv i)) (w' := (wr.alloc (.map #[] 0)).setCell ⟨D, 2, none⟩ (.map (some wr.heap.size))) H1.out (by simp [World.setCell]; have := HGG.out.size; omega) ?_ ?_ ?_ (fun i => (s.un i).orElse fun _ => s.su i) ?_
        · have e1 : s.synced = { s.spent with su := fun i => (s.un i).orElse fun _ => s.su i, un := fun _ => none } := rfl
          rw [e1]; exact hF
        · exact (HRD.out.alloc _).set 2 (.map (some wr.heap.size))
        · rw [← HN.out]
          refine RowAt.other ?_ _ _ (fun e => hDS e.symm)
          have := HRS.out.alloc (.map #[] 0)
          rw [row_congr n sw (fun i => (uv i).getD (sv i)) (fun i hi => by rw [HSW.out i hi, hl0]; rfl)] at this
          exact this
        · have h0 := MapAt.made wr s.spent.n
          exact h0.heap (heap_setCell_other _ _ _ _ (by show wr.heap.size ≠ D; omega))
        · intro i hi
          have := H1.out.sec i hi
          rw [spent_un, spent_su] at this
          exact (this.heap hkw).heap hk2
      · have hm1 : Mv D S M w1 wr := ⟨HGG.out.os, HGG.out.tape, HGG.out.output, HGG.out.size, fun g hg _ h2 _ => HGG.out.block g hg (fun e => h2 (by injection e))⟩
        refine (H2.out.trans hm1 (Or.inl rfl)).trans (M' := M) ?_ (Or.inl rfl)
        exact (Mv.of_below ((Below.refl _ wr).alloc (Nat.le_refl _) _)).trans (Mv.setD _ _ _) (Or.inl rfl)
      · rw [← H3.out]; exact HGG.out.size
    · intro x c kl yd yp w' cnt' hkey hlk hv hat hrg1 hlt hg1 hs1 hen
      obtain ⟨i, hi, rfl, rfl, hui⟩ := next_key hmv hkey hv hat
      obtain ⟨va, vm, vk, rfl⟩ := H1.out.uform hui
      have hne : S ≠ w1.heap.size := fun e => by have := H1.out.sure.lt; omega
      have hS1 : RowAt w' S 22 ((List.range n).map sw).toArray := (hg1.block S hS.lt (fun e => hne (by injection e))).trans hS
      have hG1 : w1.grownBy w' (some S) := ⟨hg1.os.trans hG.os, hg1.tape.trans hG.tape, hg1.output.trans hG.output, Nat.le_trans hG.size hg1.size, fun k hk hk2 => (hg1.block k (Nat.lt_of_lt_of_le hk hG.size) (fun e => by injection e with e; omega)).trans (hG.block k hk hk2)⟩
      have hRD : RowAt w' D 63 (dkRow s.spent.sz S s.spent.n M s.spent.dead s.spent.cut s.spent.left) := (hG1.block D H1.out.row.lt (fun e => H1.out.DS (by injection e))).trans H1.out.row
      have z1 : w'.cell? ⟨D, 1, none⟩ = some (.slice (some ⟨S, 0, none⟩) n n) := by rw [HN.out]; exact hRD.cell 1
      have z2 : w'.cell? ⟨S, i, none⟩ = some (sw i) := by rw [hS1.cell i]; simp [hi]
      have z3 : w'.frozen? ⟨S, i, none⟩ = false := hS1.frozen i
      have HR1 := hide hrg1
      have HS1 := hide hS1
      have HG1 := hide hG1
      have HSW := hide hsw
      have HRG := hide hrg
      clear hrg1 hS1 hG1 hsw hrg hS hG hg1 hRD hkey hv hat
      go_wp2
      go_roundw
      case rel =>
        refine ⟨_, cnt', fun j => if j = i then .slice va vm vk else sw j, HR1.out.kept (grown_set w' S i (.slice va vm vk)) (fun e => H1.out.SM (by injection e with e; exact e.symm)) (fun e => hne (by injection e with e; exact e.symm)), ?_, ?_, ?_⟩
        · have := HS1.out.set i (.slice va vm vk)
          rw [row_set] at this
          exact this
        · exact ⟨HG1.out.os, HG1.out.tape, HG1.out.output, by simp [World.setCell]; exact HG1.out.size, fun k hk hk2 => by rw [heap_setCell_other _ _ _ _ (fun e => hk2 (by rw [e]))]; exact HG1.out.block k hk hk2⟩
        · intro j hj
          by_cases e : j = i
          · subst e
            simp [Lit.sameKey, hui]
          · have h1 : (Lit.int .i64 (j : Int)).sameKey (.int .i64 (i : Int)) = false := Maps.sameKey_ne (int_ne e)
            simp only [e, if_false, h1, Bool.not_false, Bool.and_true]
            exact HSW.out j hj
      case measure =>
        rw [(HR1.out.kept (grown_set w' S i (.slice va vm vk)) (fun e => H1.out.SM (by injection e with e; exact e.symm)) (fun e => hne (by injection e with e; exact e.symm))).left_eq, HRG.out.left_eq]; exact hlt
end Go.Proofs.YtidocfajhhpfdaaDoor
