/- last, Read, Write. -/
import Derived.Test.YtidocfajhhpfdaaDoorDnw
import Derived.Deep.DeepMust
namespace Go.Proofs.YtidocfajhhpfdaaDoor
open Go.RowKit
set_option maxRecDepth 5000 in
theorem Dk.scell {A : Nat → Prop} {w : World} {D S M : Nat} {s : K.St} {sv : Nat → Value} {uv : Nat → Option Value} (h : Dk A w D S M s sv uv) (i : Nat) (hi : i < s.n) : w.cell? ⟨S, i, none⟩ = some (sv i) := by
  rw [h.sure.cell i]; simp [hi]
set_option maxRecDepth 5000 in
theorem last_any {A : Nat → Prop} (w : World) (D S M : Nat) (s : K.St) (sv : Nat → Value) (uv : Nat → Option Value) (h : Dk A w D S M s sv uv) (i : Nat) (hi : i < s.n) : Calls Tryd.prog 41 #[.pointer (some ⟨D, 0, none⟩), .int .i64 (i : Int)] w fun e w' => e = .returned ((uv i).getD (sv i)) ∧ w' = w := by
  have c1 : w.cell? ⟨D, 1, none⟩ = some (.slice (some ⟨S, 0, none⟩) s.n s.n) := h.cell 1
  have c2 : w.cell? ⟨D, 2, none⟩ = some (.map (some M)) := h.cell 2
  have c3 := h.scell i hi
  have b4 := h.b4
  have hl := h.un.look i (by omega)
  clear h
  generalize s.n = N at *
  cases hu : uv i with
  | none =>
    rw [hu] at hl
    simp only [Option.getD_none, Option.isSome_none] at hl
    go_enter Tryd.func41, Tryd.ntmps41
    go_wp2
    go_ret
    exact ⟨rfl, rfl⟩
  | some v =>
    rw [hu] at hl
    simp only [Option.getD_some, Option.isSome_some] at hl
    go_enter Tryd.func41, Tryd.ntmps41
    go_wp2
    go_ret
    exact ⟨rfl, rfl⟩
/- what was written last at i -/
set_option maxRecDepth 5000 in
theorem Dk.last {A : Nat → Prop} {w : World} {D S M : Nat} {s : K.St} {sv : Nat → Value} {uv : Nat → Option Value} (h : Dk A w D S M s sv uv) (i : Nat) (hi : i < s.n) : ((uv i).getD (sv i) = .slice none 0 0 ∧ s.rd i = List.replicate s.sz 0) ∨ ∃ l, l.length = s.sz ∧ OwnB w 0 ((uv i).getD (sv i)) l ∧ s.rd i = l := by
  have h1 := h.hun i
  cases hu : uv i with
  | none =>
    rw [hu] at h1
    cases hv : s.un i with
    | some l => rw [hv] at h1; cases h1
    | none =>
      have h2 := h.hsu i hi
      cases hw : s.su i with
      | none => rw [hw] at h2; exact Or.inl ⟨h2, by simp [K.St.rd, K.St.old, hv, hw]⟩
      | some l => rw [hw] at h2; exact Or.inr ⟨l, h2.1, h2.2.1, by simp [K.St.rd, K.St.old, hv, hw]⟩
  | some v =>
    rw [hu] at h1
    cases hv : s.un i with
    | none => rw [hv] at h1; cases h1
    | some l =>
      have h2 := h.huv i v l hu hv
      exact Or.inr ⟨l, h2.1, h2.2.1, by simp [K.St.rd, hv]⟩
set_option maxRecDepth 5000 in
theorem Dk.rdlen {A : Nat → Prop} {w : World} {D S M : Nat} {s : K.St} {sv : Nat → Value} {uv : Nat → Option Value} (h : Dk A w D S M s sv uv) (i : Nat) (hi : i < s.n) : (s.rd i).length = s.sz := by
  rcases h.last i hi with ⟨_, e⟩ | ⟨l, e1, _, e2⟩
  · rw [e]; simp
  · rw [e2, e1]
set_option maxRecDepth 5000 in
theorem read_dead {A : Nat → Prop} (w : World) (D S M : Nat) (s : K.St) (h : DiskAt A w D S M s) (hd : s.dead = true) (i : Int) : Calls Tryd.prog 25 #[.pointer (some ⟨D, 0, none⟩), .int .i64 i] w fun e w' => e = .returned (.tuple #[.slice none 0 0, .int .i64 82]) ∧ w' = w := by
  obtain ⟨sv, uv, h⟩ := h
  have c3 : w.cell? ⟨D, 3, none⟩ = some (.bool s.dead) := h.cell 3
  rw [hd] at c3
  clear h
  go_enter Tryd.func25, Tryd.ntmps25
  go_wp2
  go_ret2
  exact ⟨rfl, rfl⟩
set_option maxRecDepth 5000 in
theorem read_out {A : Nat → Prop} (w : World) (D S M : Nat) (s : K.St) (h : DiskAt A w D S M s) (hd : s.dead = false) (i : Int) (hi : (decide (0 ≤ i) && decide (i < (s.n : Int))) = false) : Calls Tryd.prog 25 #[.pointer (some ⟨D, 0, none⟩), .int .i64 i] w fun e w' => e = .returned (.tuple #[.slice none 0 0, .int .i64 80]) ∧ w' = w := by
  have hh := has_any w D S M s h i
  rw [hi] at hh
  obtain ⟨sv, uv, h⟩ := h
  have c3 : w.cell? ⟨D, 3, none⟩ = some (.bool s.dead) := h.cell 3
  rw [hd] at c3
  clear h hi
  go_enter Tryd.func25, Tryd.ntmps25
  go_wp2_with (go_at_call 40; refine hh.mono ?_; rintro e w' ⟨rfl, hw⟩; rw [hw]; clear hw w')
  go_ret2
  exact ⟨rfl, rfl⟩
set_option maxRecDepth 5000 in
theorem size5 : (Tryd.prog.info? 5).map (·.size) = some 1 := by kernel_rfl
set_option maxRecDepth 5000 in
theorem read_ok {A : Nat → Prop} (w : World) (D S M : Nat) (s : K.St) (h : DiskAt A w D S M s) (hd : s.dead = false) (i : Nat) (hi : i < s.n) : Calls Tryd.prog 25 #[.pointer (some ⟨D, 0, none⟩), .int .i64 (i : Int)] w fun e w' => e = .returned (.tuple #[.slice (some ⟨w.heap.size, 0, none⟩) s.sz s.sz, .int .i64 0]) ∧ RowAt w' w.heap.size 5 (vb (s.rd i)).toArray ∧ Below w.heap.size w w' := by
  have hh := has_any w D S M s h i
  rw [show (decide (0 ≤ (i : Int)) && decide ((i : Int) < (s.n : Int))) = true by simp; omega] at hh
  obtain ⟨sv, uv, h⟩ := h
  have c3 : w.cell? ⟨D, 3, none⟩ = some (.bool s.dead) := h.cell 3
  have c0 : w.cell? ⟨D, 0, none⟩ = some (.int .i64 (s.sz : Int)) := h.cell 0
  rw [hd] at c3
  have hmk := make_zeros s.sz (by have := h.b2; omega)
  have hLA : ∀ o : Obj, Calls Tryd.prog 41 #[.pointer (some ⟨D, 0, none⟩), .int .i64 (i : Int)] (w.alloc o) fun e w' => e = .returned ((uv i).getD (sv i)) ∧ w' = w.alloc o := fun o => last_any _ D S M s sv uv (h.below ((Below.refl w.heap.size w).alloc (Nat.le_refl _) o) (Nat.le_refl _)) i hi
  have HL := hide (h.last i hi)
  have b1 := h.b1
  clear h
  rcases HL.out with ⟨e1, e2⟩ | ⟨l, e1, e2, e3⟩
  · rw [e1] at hLA
    have HR := hide e2
    clear HL e1 e2
    generalize s.sz = Z at *
    go_enter Tryd.func25, Tryd.ntmps25
    go_wp2_with (first
      | (go_at_call 40; refine hh.mono ?_; rintro e w' ⟨rfl, hw⟩; rw [hw]; clear hw w')
      | (go_at_call 41; refine (hLA _).mono ?_; rintro e w' ⟨rfl, hw⟩; rw [hw]; clear hw w')
      | (refine wpList_copy_nothing rfl (.tmp 22) (.tmp 25) 22 22 rfl 5 Tryd.underlying22 size5 _ _ Z Z 0 0 rfl rfl (by simp) ?_))
    go_ret2
    refine ⟨rfl, ?_, (Below.refl _ w).alloc (Nat.le_refl _) _⟩
    rw [HR.out]
    exact RowAt.new w _ _
  · obtain ⟨g, cap, e4, _, hcap, hm, hlt, hc⟩ := e2.form (by omega)
    rw [e4] at hLA
    rw [e1] at hLA
    have HR := hide e3
    have HE := hide e1
    have HC := hide hc
    clear HL e1 e3 e2 e4 hc
    have hsrc : ∀ (o : Obj), SlL (w.alloc o) (some ⟨g, 0, none⟩) l := fun o => (show SlL w (some ⟨g, 0, none⟩) l from fun _ => ⟨g, 0, rfl, hlt, fun j hj => by rw [Nat.zero_add]; exact HC.out j hj⟩).alloc o
    have HS := hide hsrc
    clear hsrc
    have HB := hide b1
    clear b1
    generalize s.sz = Z at *
    have Q1 : Hid ((vb l).length = Nat.min Z Z) := by show _ = _; rw [vb_len, HE.out]; exact (Nat.min_self Z).symm
    have Q3 : Hid (0 + (vb l).length ≤ (vb (List.replicate Z 0)).length) := by show _ ≤ _; rw [vb_len, vb_len, HE.out]; simp
    have Q2 : Hid (∀ (o : Obj) (j : Nat) (v : Value), (vb l)[j]? = some v → (w.alloc o).cell? ((⟨g, 0, none⟩ : Addr).add j) = some v) := by
      intro o j v hv
      have hj : j < l.length := by have := (List.getElem?_eq_some_iff.1 hv).1; rwa [vb_len] at this
      obtain ⟨b', o', e', _, hc'⟩ := HS.out o (by omega)
      cases e'
      rw [Addr.add_mid, hc' j hj, ← vb_get l j hj, hv]
    go_enter Tryd.func25, Tryd.ntmps25
    go_wp2_with (first
      | (go_at_call 40; refine hh.mono ?_; rintro e w' ⟨rfl, hw⟩; rw [hw]; clear hw w')
      | (go_at_call 41; refine (hLA _).mono ?_; rintro e w' ⟨rfl, hw⟩; rw [hw]; clear hw w')
      | (refine wpList_copy_splice rfl (.tmp 22) (.tmp 25) 22 22 rfl 5 Tryd.underlying22 size5 _ _ Z Z Z cap rfl rfl w.heap.size 0 (vb (List.replicate Z 0)) 5 (RowAt.new w _ _) (vb l) Q1.out (fun _ => ⟨rfl, _, rfl, Q2.out _⟩) Q3.out (vb_one l) w.heap.size w ((Below.refl _ w).alloc (Nat.le_refl _) _) (Nat.le_refl _) ?_; intro w2 HR2 hb2))
    go_ret2
    refine ⟨rfl, ?_, hb2⟩
    have h2 := HR2.out
    have e5 : splice (vb (List.replicate Z 0)) 0 (vb l) = vb l := by
      unfold splice
      simp [vb_len, HE.out, List.drop_eq_nil_of_le]
    rw [e5] at h2
    rw [HR.out]
    exact h2
end Go.Proofs.YtidocfajhhpfdaaDoor
