/- The store: must, read, sync, areas. -/
import Derived.Test.YtidocfajhhpfdaaDoorJof
namespace Go.Proofs.YtidocfajhhpfdaaDoor
open Go.RowKit
def FF : Nat → Prop := fun _ => False
def stv (D : Nat) : Value := .agg #[.pointer (some ⟨D, 0, none⟩)]
/- the power is there, and stays -/
def Pw (s : K.St) : Prop := s.dead = false ∧ s.cut = false
set_option maxRecDepth 5000 in
theorem Pw.can {s : K.St} (h : Pw s) : s.can = true := by simp [K.St.can, h.2]
set_option maxRecDepth 5000 in
theorem Pw.spent {s : K.St} (h : Pw s) : s.spent = s := by cases s; simp_all [K.St.spent, K.St.can, Pw]
set_option maxRecDepth 5000 in
theorem must_ok (w : World) : Calls Tryd.prog 53 #[.int .i64 0] w fun e w' => e = .returned (.tuple #[]) ∧ w' = w := by
  go_enter Tryd.func53, Tryd.ntmps53
  go_wp2
  go_end0
  exact ⟨rfl, rfl⟩
set_option maxRecDepth 5000 in
theorem Mv.alloc {D S M : Nat} (w : World) (o : Obj) : Mv D S M w (w.alloc o) := Mv.of_below ((Below.refl w.heap.size w).alloc (Nat.le_refl _) o)
set_option maxRecDepth 5000 in
theorem sread_ok (w : World) (D S M : Nat) (s : K.St) (h : DiskAt FF w D S M s) (hd : s.dead = false) (i : Nat) (hi : i < s.n) : Calls Tryd.prog 45 #[stv D, .int .i64 (i : Int)] w fun e w' =>
    ∃ g, e = .returned (.slice (some ⟨g, 0, none⟩) s.sz s.sz) ∧ w.heap.size ≤ g ∧ RowAt w' g 5 (vb (s.rd i)).toArray ∧ Below w.heap.size w w' := by
  unfold stv
  have hr := read_ok (w.alloc (.cells #[.pointer (some ⟨D, 0, none⟩)] 65)) D S M s (h.alloc _) hd i hi
  have hm := must_ok
  clear h
  go_enter Tryd.func45, Tryd.ntmps45
  go_wp2_with (first
    | (go_at_call 25; refine hr.mono ?_; rintro e w1 ⟨rfl, hR, hB⟩; have HR := hide hR; have HB := hide hB; clear hR hB)
    | (go_at_call 53; refine (hm _).mono ?_; rintro e w' ⟨rfl, hw⟩; rw [hw]; clear hw w'))
  go_ret
  exact ⟨_, rfl, by simp, by simpa using HR.out, ((Below.refl _ w).alloc (Nat.le_refl _) _).trans (HB.out.mono (by simp))⟩
set_option maxRecDepth 5000 in
theorem ssync_ok (w : World) (D S M : Nat) (s : K.St) (h : DiskAt FF w D S M s) (hp : Pw s) : Calls Tryd.prog 34 #[stv D] w fun e w' =>
    e = .returned (.tuple #[]) ∧ ∃ M', DiskAt FF w' D S M' s.synced ∧ Mv D S M w w' ∧ w.heap.size ≤ M' := by
  unfold stv
  have hr := sync_ok (w.alloc (.cells #[.pointer (some ⟨D, 0, none⟩)] 65)) D S M s (h.alloc _) hp.1 hp.can
  have hm := must_ok
  clear h
  go_enter Tryd.func34, Tryd.ntmps34
  go_wp2_with (first
    | (go_at_call 27; refine hr.mono ?_; rintro e w1 ⟨rfl, M', hD, hM, hz, _⟩; have HD := hide hD; have HM := hide hM; have HZ := hide hz; clear hD hM hz)
    | (go_at_call 53; refine (hm _).mono ?_; rintro e w' ⟨rfl, hw⟩; rw [hw]; clear hw w'))
  go_end0
  exact ⟨rfl, M', HD.out, (Mv.alloc w _).trans HM.out (Or.inl rfl), by have := HZ.out; simp at this; omega⟩
/- how many sectors an area has -/
def J.ars (s : K.St) : Nat := (s.n - 2) / 2
def J.arb (s : K.St) : Nat := J.ars s * s.sz
set_option maxRecDepth 5000 in
theorem areaSectors_any (w : World) (D S M : Nat) (s : K.St) (h : DiskAt FF w D S M s) (hn : 8 ≤ s.n) : Calls Tryd.prog 54 #[stv D] w fun e w' => e = .returned (.int .i64 (J.ars s : Int)) ∧ Below w.heap.size w w' := by
  unfold stv
  have hr := sectors_any (w.alloc (.cells #[.pointer (some ⟨D, 0, none⟩)] 65)) D S M s (h.alloc _)
  obtain ⟨sv, uv, hk⟩ := h
  have b4 := hk.b4
  clear hk
  have e1 : ((s.n : Int) - 2).tdiv 2 = (J.ars s : Int) := by
    rw [Int.tdiv_eq_ediv_of_nonneg (by omega)]; unfold J.ars; omega
  have e2 : ((s.n : Int) - 2) / 2 = (J.ars s : Int) := by unfold J.ars; omega
  have e3 : IntKind.i64.wrap (J.ars s : Int) = (J.ars s : Int) := by rw [IntKind.wrap_i64]; unfold J.ars; omega
  have hb : J.ars s ≤ 4096 := by unfold J.ars; omega
  generalize J.ars s = A at *
  generalize s.n = N at *
  go_enter Tryd.func54, Tryd.ntmps54
  go_wp2_with (go_at_call 28; refine hr.mono ?_; rintro e w' ⟨rfl, hw⟩; rw [hw]; clear hw w')
  go_ret
  exact ⟨rfl, (Below.refl _ w).alloc (Nat.le_refl _) _⟩
set_option maxRecDepth 5000 in
theorem areaStart_any (w : World) (D S M : Nat) (s : K.St) (h : DiskAt FF w D S M s) (hn : 8 ≤ s.n) (a : Nat) (ha : a < 2) : Calls Tryd.prog 52 #[stv D, .int .i64 (a : Int)] w fun e w' => e = .returned (.int .i64 ((2 + a * J.ars s : Nat) : Int)) ∧ Below w.heap.size w w' := by
  unfold stv
  have hr := areaSectors_any (w.alloc (.cells #[.pointer (some ⟨D, 0, none⟩)] 65)) D S M s (h.alloc _) hn
  unfold stv at hr
  obtain ⟨sv, uv, hk⟩ := h
  have b4 := hk.b4
  clear hk
  have hb : J.ars s ≤ 4096 := by unfold J.ars; omega
  generalize J.ars s = A at *
  have hm : a * A ≤ 1 * 4096 := Nat.mul_le_mul (by omega) hb
  have e1 : (a : Int) * (A : Int) = ((a * A : Nat) : Int) := by simp
  generalize a * A = X at *
  go_enter Tryd.func52, Tryd.ntmps52
  go_wp2_with (go_at_call 54; refine hr.mono ?_; rintro e w1 ⟨rfl, hB⟩; have HB := hide hB; clear hB)
  go_ret
  exact ⟨by simp, ((Below.refl _ w).alloc (Nat.le_refl _) _).trans (HB.out.mono (by simp))⟩
set_option maxRecDepth 5000 in
theorem areaBytes_any (w : World) (D S M : Nat) (s : K.St) (h : DiskAt FF w D S M s) (hn : 8 ≤ s.n) : Calls Tryd.prog 35 #[stv D] w fun e w' => e = .returned (.int .i64 (J.arb s : Int)) ∧ Below w.heap.size w w' := by
  unfold stv
  have hr : ∀ W, Below w.heap.size w W → Calls Tryd.prog 54 #[.agg #[.pointer (some ⟨D, 0, none⟩)]] W fun e w' => e = .returned (.int .i64 (J.ars s : Int)) ∧ Below W.heap.size W w' := fun W hW => areaSectors_any W D S M s (h.below hW (Nat.le_refl _)) hn
  have hz : ∀ W, Below w.heap.size w W → Calls Tryd.prog 55 #[.pointer (some ⟨D, 0, none⟩)] W fun e w' => e = .returned (.int .i64 (s.sz : Int)) ∧ w' = W := fun W hW => size_any W D S M s (h.below hW (Nat.le_refl _))
  obtain ⟨sv, uv, hk⟩ := h
  have b4 := hk.b4
  have b2 := hk.b2
  clear hk
  have hb : J.ars s ≤ 4096 := by unfold J.ars; omega
  have hm : J.arb s ≤ 4096 * 4096 := Nat.mul_le_mul hb b2
  have e1 : (J.ars s : Int) * (s.sz : Int) = (J.arb s : Int) := by unfold J.arb; simp
  generalize J.ars s = A at *
  generalize J.arb s = X at *
  generalize s.sz = Z at *
  have R0 : RowAt (w.alloc (.cells #[.pointer (some ⟨D, 0, none⟩)] 65)) w.heap.size 65 #[.pointer (some ⟨D, 0, none⟩)] := RowAt.new w _ _
  have B0 := (Below.refl w.heap.size w).alloc (Nat.le_refl _) (.cells #[.pointer (some ⟨D, 0, none⟩)] 65)
  go_enter Tryd.func35, Tryd.ntmps35
  go_wp2
  generalize w.alloc (.cells #[.pointer (some ⟨D, 0, none⟩)] 65) = w1 at R0 B0 ⊢
  have x0 : w1.cell? ⟨w.heap.size, 0, none⟩ = some (.pointer (some ⟨D, 0, none⟩)) := R0.cell 0
  have x1 : w1.drew.cell? ⟨w.heap.size, 0, none⟩ = some (.pointer (some ⟨D, 0, none⟩)) := R0.cell 0
  have R0H := hide R0
  have B0H := hide B0
  clear R0 B0
  go_region_held3 (fun w' => w'.cell? ⟨w.heap.size, 0, none⟩ = some (.pointer (some ⟨D, 0, none⟩))) (first | exact x0 | exact x1 | exact x2) (first
    | (go_at_call 54; refine (hr _ (by first | exact B0H.out | exact B0H.out.drew | exact below_drewN B0H.out _)).mono ?_; rintro e w2 ⟨rfl, hB⟩; have hB1 : Below w1.heap.size w1 w2 := ⟨hB.os, hB.tape, hB.output, hB.size, hB.block⟩; have R2 := R0H.out.below hB1 R0H.out.lt; have x2 : w2.cell? ⟨w.heap.size, 0, none⟩ = some (.pointer (some ⟨D, 0, none⟩)) := R2.cell 0; have B2 := hide (B0H.out.trans (hB1.mono B0H.out.size)); clear hB hB1 R2)
    | (go_at_call 55; refine (hz _ (by first | exact B0H.out | exact B0H.out.drew | exact B2.out | exact B2.out.drew)).mono ?_; rintro e w' ⟨rfl, hw⟩; rw [hw]; clear hw w'))
  have e2 : IntKind.i64.wrap (X : Int) = (X : Int) := by rw [IntKind.wrap_i64]; omega
  go_wp2
  go_ret
  exact ⟨by rw [e2]; rfl, B2.out⟩
end Go.Proofs.YtidocfajhhpfdaaDoor
