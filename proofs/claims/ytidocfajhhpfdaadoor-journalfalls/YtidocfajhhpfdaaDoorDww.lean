/- Write. -/
import Derived.Test.YtidocfajhhpfdaaDoorDwr
namespace Go.Proofs.YtidocfajhhpfdaaDoor
open Go.RowKit
set_option maxRecDepth 5000 in
theorem spent_sz (s : K.St) : s.spent.sz = s.sz := by unfold K.St.spent; split <;> rfl
set_option maxRecDepth 5000 in
theorem spent_n (s : K.St) : s.spent.n = s.n := by unfold K.St.spent; split <;> rfl
set_option maxRecDepth 5000 in
theorem spent_su (s : K.St) : s.spent.su = s.su := by unfold K.St.spent; split <;> rfl
set_option maxRecDepth 5000 in
theorem spent_un (s : K.St) : s.spent.un = s.un := by unfold K.St.spent; split <;> rfl
set_option maxRecDepth 5000 in
theorem write_dead {A : Nat → Prop} (w : World) (D S M : Nat) (s : K.St) (h : DiskAt A w D S M s) (hd : s.dead = true) (i : Int) (b : Value) : Calls Tryd.prog 26 #[.pointer (some ⟨D, 0, none⟩), .int .i64 i, b] w fun e w' => e = .returned (.int .i64 82) ∧ w' = w := by
  obtain ⟨sv, uv, h⟩ := h
  have c3 : w.cell? ⟨D, 3, none⟩ = some (.bool s.dead) := h.cell 3
  rw [hd] at c3
  clear h
  go_enter Tryd.func26, Tryd.ntmps26
  go_wp2
  go_ret
  exact ⟨rfl, rfl⟩
set_option maxRecDepth 5000 in
theorem write_out {A : Nat → Prop} (w : World) (D S M : Nat) (s : K.St) (h : DiskAt A w D S M s) (hd : s.dead = false) (i : Int) (hi : (decide (0 ≤ i) && decide (i < (s.n : Int))) = false) (b : Value) : Calls Tryd.prog 26 #[.pointer (some ⟨D, 0, none⟩), .int .i64 i, b] w fun e w' => e = .returned (.int .i64 80) ∧ w' = w := by
  have hh := has_any w D S M s h i
  rw [hi] at hh
  obtain ⟨sv, uv, h⟩ := h
  have c3 : w.cell? ⟨D, 3, none⟩ = some (.bool s.dead) := h.cell 3
  rw [hd] at c3
  clear h hi
  go_enter Tryd.func26, Tryd.ntmps26
  go_wp2_with (go_at_call 40; refine hh.mono ?_; rintro e w' ⟨rfl, hw⟩; rw [hw]; clear hw w')
  go_ret
  exact ⟨rfl, rfl⟩
set_option maxRecDepth 5000 in
theorem write_size {A : Nat → Prop} (w : World) (D S M : Nat) (s : K.St) (h : DiskAt A w D S M s) (hd : s.dead = false) (i : Int) (hi : (decide (0 ≤ i) && decide (i < (s.n : Int))) = true) (ao : Option Addr) (m c : Nat) (hm : m ≠ s.sz) : Calls Tryd.prog 26 #[.pointer (some ⟨D, 0, none⟩), .int .i64 i, .slice ao m c] w fun e w' => e = .returned (.int .i64 81) ∧ w' = w := by
  have hh := has_any w D S M s h i
  rw [hi] at hh
  obtain ⟨sv, uv, h⟩ := h
  have c3 : w.cell? ⟨D, 3, none⟩ = some (.bool s.dead) := h.cell 3
  have c0 : w.cell? ⟨D, 0, none⟩ = some (.int .i64 (s.sz : Int)) := h.cell 0
  rw [hd] at c3
  have hne : ((m : Int) != (s.sz : Int)) = true := by simp; omega
  clear h hi hm
  go_enter Tryd.func26, Tryd.ntmps26
  go_wp2_with (go_at_call 40; refine hh.mono ?_; rintro e w' ⟨rfl, hw⟩; rw [hw]; clear hw w')
  go_ret
  exact ⟨rfl, rfl⟩
set_option maxRecDepth 5000 in
theorem write_cut {A : Nat → Prop} (w : World) (D S M : Nat) (s : K.St) (h : DiskAt A w D S M s) (hd : s.dead = false) (i : Int) (hi : (decide (0 ≤ i) && decide (i < (s.n : Int))) = true) (ao : Option Addr) (m c : Nat) (hm : m = s.sz) (hc : s.can = false) : Calls Tryd.prog 26 #[.pointer (some ⟨D, 0, none⟩), .int .i64 i, .slice ao m c] w fun e w' => e = .returned (.int .i64 82) ∧ DiskAt A w' D S M s.spent ∧ Mv D S M w w' := by
  subst hm
  have hh := has_any w D S M s h i
  rw [hi] at hh
  have hsp := spend_any w D S M s h
  rw [hc] at hsp
  obtain ⟨sv, uv, h⟩ := h
  have c3 : w.cell? ⟨D, 3, none⟩ = some (.bool s.dead) := h.cell 3
  have c0 : w.cell? ⟨D, 0, none⟩ = some (.int .i64 (s.sz : Int)) := h.cell 0
  rw [hd] at c3
  clear h hi
  go_enter Tryd.func26, Tryd.ntmps26
  go_wp2_with (first
    | (go_at_call 40; refine hh.mono ?_; rintro e w' ⟨rfl, hw⟩; rw [hw]; clear hw w')
    | (go_at_call 42; refine hsp.mono ?_; rintro e w1 ⟨rfl, h1, h2, h3⟩))
  go_ret
  exact ⟨rfl, h1, h2⟩
set_option maxRecDepth 5000 in
theorem Dk.drew {A : Nat → Prop} {w : World} {D S M : Nat} {s : K.St} {sv : Nat → Value} {uv : Nat → Option Value} (h : Dk A w D S M s sv uv) : Dk A w.drew D S M s sv uv := h.keepA (Nat.le_refl _) rfl rfl rfl (fun _ _ _ hg => hg)
set_option maxRecDepth 5000 in
theorem Mv.drew {D S M : Nat} {w w' : World} (h : Mv D S M w w') : Mv D S M w w'.drew := ⟨h.os, h.tape, h.output, h.size, h.block⟩
/- what was written lies in the map -/
set_option maxRecDepth 5000 in
theorem Dk.putk {A : Nat → Prop} {w1 w2 w3 : World} {D S M : Nat} {s : K.St} {sv : Nat → Value} {uv : Nat → Option Value} (h : Dk A w1 D S M s sv uv) (hb : Below w1.heap.size w1 w2) {v : Value} {l : List UInt8} (hl : l.length = s.sz) (ho : OwnB w2 w1.heap.size v l) (i : Nat) (hi : i < s.n)
    (hm : MapAt w3 M (vput uv i v) s.n) (hg : w2.grownBy w3 (some M)) : Dk A w3 D S M { s with un := K.upd s.un i l } sv (vput uv i v) ∧ Mv D S M w1 w3 := by
  have h2 := h.below hb (Nat.le_refl _)
  have hk : Rows w2 w3 := fun g c hr => (hg.block g hr.lt (fun e => h2.un.row_ne hr (by injection e))).trans hr
  refine ⟨⟨?_, ?_, hm, ?_, ?_, ?_, ?_, h.b1, h.b2, h.b3, h.b4, h.b5, fun g hg' => Nat.lt_of_lt_of_le (h2.hA g hg') hg.size⟩, ?_⟩
  · exact (hg.block D h2.row.lt (fun e => h2.DM (by injection e))).trans h2.row
  · exact (hg.block S h2.sure.lt (fun e => h2.SM (by injection e))).trans h2.sure
  · exact fun j hj => (h2.hsu j hj).heap hk
  · intro j
    unfold vput K.upd
    by_cases e : j = i
    · simp [e]
    · simp only [e, if_false]; exact h2.hun j
  · intro j v' l' h1' h2'
    unfold vput at h1'
    simp only [K.upd] at h2'
    by_cases e : j = i
    · rw [if_pos e] at h1' h2'
      injection h1' with h1'
      injection h2' with h2'
      subst h1'; subst h2'
      have ho' : OwnB w2 0 v l := by
        have h0 : w2.ownsRow w1.heap.size 5 1 v l.length (vb l) := ho
        refine ⟨h0.1, ?_⟩
        rcases h0.2 with h1 | ⟨g, cap, cur, e, h1, h2, h3⟩
        · exact Or.inl h1
        · exact Or.inr ⟨g, cap, cur, e, Nat.zero_le _, h2, h3⟩
      refine ⟨hl, ho'.heap hk, fun g hgv hAg => ?_⟩
      have h0 : w2.ownsRow w1.heap.size 5 1 v l.length (vb l) := ho
      rcases h0.2 with ⟨e, _⟩ | ⟨g', cap, cur, e, h1, _⟩
      · rw [e] at hgv; cases hgv
      · rw [e] at hgv; injection hgv with hgv; subst hgv
        have := h.hA _ hAg
        simp at this; omega
    · rw [if_neg e] at h1' h2'
      exact (h2.huv j v' l' h1' h2').heap hk
  · intro j hj
    simp only [K.upd] at hj
    by_cases e : j = i
    · rw [e]; exact hi
    · rw [if_neg e] at hj; exact h.hlt j hj
  · refine (Mv.of_below hb).trans (M' := M) ⟨hg.os, hg.tape, hg.output, hg.size, fun g hg1 _ _ hne => hg.block g hg1 (fun e => hne (by injection e))⟩ (Or.inl rfl)
/- a slice of a row of bytes, which holds l -/
def SlU (w : World) (ao : Option Addr) (l : List UInt8) : Prop := ∃ g o c, ao = some ⟨g, o, none⟩ ∧ RowAt w g 5 c ∧ ∀ j, j < l.length → c[o + j]? = some (.int .u8 (l.getD j 0).toNat)
set_option maxRecDepth 5000 in
theorem SlU.heap {w w' : World} {ao : Option Addr} {l : List UInt8} (h : SlU w ao l) (hk : Rows w w') : SlU w' ao l := by
  obtain ⟨g, o, c, e, h1, h2⟩ := h; exact ⟨g, o, c, e, hk g c h1, h2⟩
set_option maxRecDepth 5000 in
theorem SlU.sl {w : World} {ao : Option Addr} {l : List UInt8} (h : SlU w ao l) : SlL w ao l := fun _ => by
  obtain ⟨g, o, c, e, h1, h2⟩ := h; exact ⟨g, o, e, h1.lt, fun j hj => by rw [h1.cell]; exact h2 j hj⟩
set_option maxRecDepth 5000 in
theorem SlU.row {w : World} {g : Nat} {l : List UInt8} (h : RowAt w g 5 (vb l).toArray) : SlU w (some ⟨g, 0, none⟩) l := ⟨g, 0, _, rfl, h, fun j hj => by rw [Nat.zero_add]; simp only [List.getElem?_toArray]; exact vb_get l j hj⟩
set_option maxHeartbeats 1000000 in
set_option maxRecDepth 5000 in
theorem write_ok {A : Nat → Prop} (w : World) (D S M : Nat) (s : K.St) (h : DiskAt A w D S M s) (hd : s.dead = false) (i : Nat) (hi : i < s.n) (ao : Option Addr) (c : Nat) (l : List UInt8) (hl : l.length = s.sz) (hs : SlU w ao l) (hc : s.can = true) :
    Calls Tryd.prog 26 #[.pointer (some ⟨D, 0, none⟩), .int .i64 (i : Int), .slice ao l.length c] w fun e w' => e = .returned (.int .i64 0) ∧ DiskAt A w' D S M (s.put i l) ∧ Mv D S M w w' := by
  have hh := has_any w D S M s h i
  rw [show (decide (0 ≤ (i : Int)) && decide ((i : Int) < (s.n : Int))) = true by simp; omega] at hh
  have hsp := spend_any w D S M s h
  rw [hc] at hsp
  obtain ⟨sv0, uv0, h⟩ := h
  have c3 : w.cell? ⟨D, 3, none⟩ = some (.bool s.dead) := h.cell 3
  have c0 : w.cell? ⟨D, 0, none⟩ = some (.int .i64 (s.sz : Int)) := h.cell 0
  rw [hd] at c3
  have hb1 := h.b1
  have hb2 := h.b2
  have hb4 := h.b4
  have H0 := hide h
  have HSL := hide hs
  have HL := hide hl
  rw [hl]
  obtain ⟨Z, hZ⟩ : ∃ Z, Z = s.sz := ⟨_, rfl⟩
  rw [← hZ] at c0 hb1 hb2 ⊢
  have HZ := hide hZ
  clear h hs hl hZ
  go_enter Tryd.func26, Tryd.ntmps26
  go_wp2_with (first
    | (go_at_call 40; refine hh.mono ?_; rintro e w' ⟨rfl, hw⟩; rw [hw]; clear hw w')
    | (go_at_call 42; refine hsp.mono ?_; rintro e w1 ⟨rfl, h1, h2, h3⟩))
  have HS1 := hide (HSL.out.heap (h2.rows H0.out))
  obtain ⟨sv, uv, h1⟩ := h1
  have H1 := hide h1
  have H2 := hide h2
  have x2 : w1.cell? ⟨D, 2, none⟩ = some (.map (some M)) := h1.cell 2
  have x2d : w1.drew.cell? ⟨D, 2, none⟩ = some (.map (some M)) := x2
  have hCl : ∀ W, SlL W ao l → Calls Tryd.prog 43 #[.slice ao Z c] W fun e w' => ∃ v, e = .returned v ∧ OwnB w' W.heap.size v l ∧ Below W.heap.size W w' := fun W hW => by
    have := clone_any W ao c l (by rw [HL.out, ← HZ.out]; omega) (by rw [HL.out, ← HZ.out]; omega) hW
    rw [HL.out, ← HZ.out] at this
    exact this
  have HI := hide hi
  have HB4 := hide hb4
  clear h1 h2 h3 hh hsp hi hb4 hb1 hb2
  go_region_held3 (fun w' => w'.cell? ⟨D, 2, none⟩ = some (.map (some M))) (first | exact x2 | exact x2d | exact x3 | exact x4) ((go_at_call 43; refine (hCl _ (by exact HS1.out.sl)).mono ?_; rintro e w2 ⟨v, rfl, hO, hB⟩; have h2k := H1.out.drew.below hB (Nat.le_refl _); have x3 : w2.cell? ⟨D, 2, none⟩ = some (.map (some M)) := h2k.cell 2; obtain ⟨w3, hrun, hM3, hG3, hz3⟩ := h2k.un.update (by rw [spent_n]; have := HB4.out; omega) i (by rw [spent_n]; exact HI.out) v; have x4 : w3.cell? ⟨D, 2, none⟩ = some (.map (some M)) := ((show RowAt w3 D 63 _ from (hG3.block D h2k.row.lt (fun e => h2k.DM (by injection e))).trans h2k.row)).cell 2; have HO := hide hO; have HB := hide hB; have HM3 := hide hM3; have HG3 := hide hG3; clear hO hB h2k hM3 hG3 hz3))
  have hP := H1.out.drew.putk HB.out (by rw [spent_sz]; exact HL.out) HO.out i (by rw [spent_n]; exact HI.out) HM3.out HG3.out
  have F1 : Hid (DiskAt A w3 D S M (s.put i l)) := ⟨sv, vput uv i v, by
    have := hP.1
    rw [spent_un] at this
    exact this⟩
  have F2 : Hid (Mv D S M w w3) := H2.out.drew.trans hP.2 (Or.inl rfl)
  clear hP
  go_wp2
  go_ret
  exact ⟨rfl, F1.out, F2.out⟩
end Go.Proofs.YtidocfajhhpfdaaDoor
