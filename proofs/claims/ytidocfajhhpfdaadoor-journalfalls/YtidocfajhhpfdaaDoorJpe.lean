/- sync, putHead, put at any place, where the power may fail. -/
import Derived.Test.YtidocfajhhpfdaaDoorJpd
import Derived.Test.YtidocfajhhpfdaaDoorJfz
import Derived.Deep.RegionHeld2
namespace Go.Proofs.YtidocfajhhpfdaaDoor
open Go.RowKit
set_option maxRecDepth 5000 in
theorem ssync_can (w : World) (D S M : Nat) (s : K.St) (h : DiskAt FF w D S M s) (hd : s.dead = false) (hc : s.can = true) : Calls Tryd.prog 34 #[stv D] w fun e w' =>
    e = .returned (.tuple #[]) ∧ ∃ M', DiskAt FF w' D S M' s.synced ∧ Mv D S M w w' ∧ w.heap.size ≤ M' := by
  unfold stv
  have hr := sync_ok (w.alloc (.cells #[.pointer (some ⟨D, 0, none⟩)] 65)) D S M s (h.alloc _) hd hc
  have hm := must_ok
  clear h
  go_enter Tryd.func34, Tryd.ntmps34
  go_wp2_with (first
    | (go_at_call 27; refine hr.mono ?_; rintro e w1 ⟨rfl, M', hD, hM, hz, _⟩; have HD := hide hD; have HM := hide hM; have HZ := hide hz; clear hD hM hz)
    | (go_at_call 53; refine (hm _).mono ?_; rintro e w' ⟨rfl, hw⟩; rw [hw]; clear hw w'))
  go_end0
  exact ⟨rfl, M', HD.out, (Mv.alloc w _).trans HM.out (Or.inl rfl), by have := HZ.out; simp at this; omega⟩
set_option maxRecDepth 5000 in
theorem ssync_cut (w : World) (D S M : Nat) (s : K.St) (h : DiskAt FF w D S M s) (hd : s.dead = false) (hc : s.can = false) : Calls Tryd.prog 34 #[stv D] w fun e w' =>
    e = fell 82 ∧ DiskAt FF w' D S M s.spent ∧ Mv D S M w w' := by
  unfold stv
  have hr := sync_cut (w.alloc (.cells #[.pointer (some ⟨D, 0, none⟩)] 65)) D S M s (h.alloc _) hd hc
  have hm := must_bad
  clear h
  go_enter Tryd.func34, Tryd.ntmps34
  go_wp2_with (first
    | (go_at_call 27; refine hr.mono ?_; rintro e w1 ⟨rfl, hD, hM⟩; have HD := hide hD; have HM := hide hM; clear hD hM)
    | (go_at_call 53; refine (hm _).mono ?_; rintro e w' ⟨rfl, hw⟩; rw [hw]; clear hw w'; unfold fell))
  exact ⟨rfl, rfl, HD.out, (Mv.alloc w _).trans HM.out (Or.inl rfl)⟩
set_option maxRecDepth 5000 in
theorem putW2 (w : World) (D S M : Nat) (s : K.St) (h : DiskAt FF w D S M s) (hd : s.dead = false) (hc : s.can = true) (i : Nat) (hi : i < s.n) (ao : Option Addr) (c : Nat) (l : List UInt8) (hl : l.length = s.sz) (hs : SlU w ao l) :
    Calls Tryd.prog 26 #[.pointer (some ⟨D, 0, none⟩), .int .i64 (i : Int), .slice ao s.sz c] w fun e w' => e = .returned (.int .i64 0) ∧ DiskAt FF w' D S M (s.put i l) ∧ Mv D S M w w' := by
  have := write_ok w D S M s h hd i hi ao c l hl hs hc
  rw [hl] at this; exact this
set_option maxRecDepth 5000 in
theorem write_two (w : World) (D S M : Nat) (s : K.St) (h : DiskAt FF w D S M s) (hd : s.dead = false) (i : Nat) (hi : i < s.n) (ao : Option Addr) (c : Nat) (l : List UInt8) (hl : l.length = s.sz) (hs : SlU w ao l) :
    Calls Tryd.prog 26 #[.pointer (some ⟨D, 0, none⟩), .int .i64 (i : Int), .slice ao s.sz c] w fun e w' => ∃ X : Int, e = .returned (.int .i64 X) ∧ Mv D S M w w' ∧ ((X = 0 ∧ s.can = true ∧ DiskAt FF w' D S M (s.put i l)) ∨ (X = 82 ∧ s.can = false ∧ DiskAt FF w' D S M s.spent)) := by
  cases hc : s.can
  · refine (write_cut w D S M s h hd (i : Int) (by simp; omega) ao s.sz c rfl hc).mono ?_
    rintro e w' ⟨rfl, h1, h2⟩
    exact ⟨82, rfl, h2, Or.inr ⟨rfl, rfl, h1⟩⟩
  · refine (putW2 w D S M s h hd hc i hi ao c l hl hs).mono ?_
    rintro e w' ⟨rfl, h1, h2⟩
    exact ⟨0, rfl, h2, Or.inl ⟨rfl, rfl, h1⟩⟩
set_option maxRecDepth 5000 in
theorem must_two (X : Int) (w : World) (h : X = 0 ∨ X = 82) : Calls Tryd.prog 53 #[.int .i64 X] w fun e w' => w' = w ∧ ((X = 0 ∧ e = .returned (.tuple #[])) ∨ (X = 82 ∧ e = fell 82)) := by
  rcases h with rfl | rfl
  · refine (must_ok w).mono ?_
    rintro e w' ⟨rfl, hw⟩
    exact ⟨hw, Or.inl ⟨rfl, rfl⟩⟩
  · refine (must_bad w).mono ?_
    rintro e w' ⟨rfl, hw⟩
    exact ⟨hw, Or.inr ⟨rfl, rfl⟩⟩
set_option maxRecDepth 5000 in
theorem ssync_two (w : World) (D S M : Nat) (s : K.St) (h : DiskAt FF w D S M s) (hd : s.dead = false) : Calls Tryd.prog 34 #[stv D] w fun e w' =>
    (e = .returned (.tuple #[]) ∧ s.can = true ∧ ∃ M', DiskAt FF w' D S M' s.synced ∧ Mv D S M w w' ∧ w.heap.size ≤ M') ∨ (e = fell 82 ∧ s.can = false ∧ DiskAt FF w' D S M s.spent ∧ Mv D S M w w') := by
  cases hc : s.can
  · refine (ssync_cut w D S M s h hd hc).mono ?_
    rintro e w' ⟨rfl, h1, h2⟩
    exact Or.inr ⟨rfl, rfl, h1, h2⟩
  · refine (ssync_can w D S M s h hd hc).mono ?_
    rintro e w' ⟨rfl, h1⟩
    exact Or.inl ⟨rfl, rfl, h1⟩
set_option maxHeartbeats 2000000 in
set_option maxRecDepth 5000 in
theorem putHead_two (w : World) (ht : Tab w) (D S M : Nat) (s : K.St) (h : DiskAt FF w D S M s) (hp : s.dead = false) (sl : Nat) (hsl : sl < s.n) (hd : J.H) (hh : HOk hd) :
    Calls Tryd.prog 62 #[stv D, .int .i64 (sl : Int), .agg (hrow hd)] w fun e w' => (e = .returned (.tuple #[]) ∧ s.can = true ∧ DiskAt FF w' D S M (s.put sl (J.hb hd s.sz)) ∧ Mv D S M w w') ∨ (e = fell 82 ∧ s.can = false ∧ DiskAt FF w' D S M s.spent ∧ Mv D S M w w') := by
  obtain ⟨hb1, hb2, hb3, hb4⟩ := h.bds
  unfold stv
  have hpos := ht.1
  have R0 : RowAt ((w.alloc (.cells #[.pointer (some ⟨D, 0, none⟩)] 65)).alloc (.cells (hrow hd) 67)) w.heap.size 65 #[.pointer (some ⟨D, 0, none⟩)] := (RowAt.new w _ _).alloc _
  have R1 : RowAt ((w.alloc (.cells #[.pointer (some ⟨D, 0, none⟩)] 65)).alloc (.cells (hrow hd) 67)) (w.heap.size + 1) 67 (hrow hd) := by
    have := RowAt.new (w.alloc (.cells #[.pointer (some ⟨D, 0, none⟩)] 65)) 67 (hrow hd)
    rwa [World.size_alloc] at this
  have B1 : Below w.heap.size w ((w.alloc (.cells #[.pointer (some ⟨D, 0, none⟩)] 65)).alloc (.cells (hrow hd) 67)) := ((Below.refl _ w).alloc (Nat.le_refl _) _).alloc (by simp) _
  obtain ⟨hD, hS, hM⟩ := h.lts
  have HH := hide hh
  have HT := hide ht
  have HD := hide h
  obtain ⟨C, A, U, Bl⟩ := hd
  unfold hrow at R0 R1 B1 ⊢
  simp only at R0 R1 B1 ⊢
  clear hh ht h
  go_enter Tryd.func62, Tryd.ntmps62
  go_wp2
  generalize (w.alloc (.cells #[.pointer (some ⟨D, 0, none⟩)] 65)).alloc (.cells #[.int .u64 (C : Int), .int .i64 (A : Int), .int .i64 (U : Int), .int .i64 (Bl : Int)] 67) = w1 at R0 R1 B1 ⊢
  have D1 := hide (HD.out.below B1 (Nat.le_refl _))
  have hsz : ∀ W, DiskAt FF W D S M s → Calls Tryd.prog 55 #[.pointer (some ⟨D, 0, none⟩)] W fun e w' => e = .returned (.int .i64 (s.sz : Int)) ∧ w' = W := fun W hW => size_any W D S M s hW
  have hby : ∀ W, Tab W → Calls Tryd.prog 68 #[.agg #[.int .u64 (C : Int), .int .i64 (A : Int), .int .i64 (U : Int), .int .i64 (Bl : Int)], .int .i64 (s.sz : Int)] W fun e w' => ∃ v', e = .returned v' ∧ OwnB w' W.heap.size v' (J.hb ⟨C, A, U, Bl⟩ s.sz) ∧ Below W.heap.size W w' := fun W hW => hbytes_any W hW ⟨C, A, U, Bl⟩ HH.out s.sz hb1 hb2
  have hbl := hide (J.hb_len ⟨C, A, U, Bl⟩ s.sz (by omega))
  have T1 := hide (HT.out.below B1 hpos)
  have x0 : w1.cell? ⟨w.heap.size, 0, none⟩ = some (.pointer (some ⟨D, 0, none⟩)) := R0.cell 0
  have y0 : w1.cell? ⟨w.heap.size + 1, 0, none⟩ = some (.int .u64 (C : Int)) := R1.cell 0
  have y1 : w1.cell? ⟨w.heap.size + 1, 1, none⟩ = some (.int .i64 (A : Int)) := R1.cell 1
  have y2 : w1.cell? ⟨w.heap.size + 1, 2, none⟩ = some (.int .i64 (U : Int)) := R1.cell 2
  have y3 : w1.cell? ⟨w.heap.size + 1, 3, none⟩ = some (.int .i64 (Bl : Int)) := R1.cell 3
  have hm := must_two
  have R0H := hide R0
  have R1H := hide R1
  have B1H := hide B1
  have HP := hide hp
  clear R0 R1 B1 hp
  go_region_held2 (fun w' => w'.cell? ⟨w.heap.size, 0, none⟩ = some (.pointer (some ⟨D, 0, none⟩)) ∧ w'.cell? ⟨w.heap.size + 1, 0, none⟩ = some (.int .u64 (C : Int)) ∧ w'.cell? ⟨w.heap.size + 1, 1, none⟩ = some (.int .i64 (A : Int)) ∧ w'.cell? ⟨w.heap.size + 1, 2, none⟩ = some (.int .i64 (U : Int)) ∧ w'.cell? ⟨w.heap.size + 1, 3, none⟩ = some (.int .i64 (Bl : Int))) (first | exact ⟨x0, y0, y1, y2, y3⟩ | exact cc2.out | exact cc3.out | fail) (first
    | (go_at_call 55; refine (hsz _ (by exact DiskAt.drewN D1.out _)).mono ?_; rintro e w' ⟨rfl, hw⟩; rw [hw]; clear hw w')
    | (go_at_call 68; refine (hby _ (by exact T1.out)).mono ?_; rintro e w2 ⟨v2, rfl, O2, b2⟩; have b2a : Below w1.heap.size w1 w2 := ⟨b2.os, b2.tape, b2.output, b2.size, b2.block⟩; obtain ⟨a2, c2, hv2⟩ := O2.slice; rw [hbl.out] at hv2; rw [hv2] at O2 ⊢; have S2 := hide (O2.slu (by rw [hbl.out]; omega)); have R02 := hide (R0H.out.below b2a R0H.out.lt); have R12 := hide (R1H.out.below b2a R1H.out.lt); have D2 := hide (D1.out.below b2a (Nat.le_refl _)); have B2 := hide (B1H.out.trans (b2a.mono B1H.out.size)); have cc2 := hide (And.intro (R02.out.cell 0) (And.intro (R12.out.cell 0) (And.intro (R12.out.cell 1) (And.intro (R12.out.cell 2) (R12.out.cell 3))))); clear O2 b2 b2a hv2)
    | (go_at_call 26; refine (write_two _ D S M s (by exact D2.out) HP.out sl hsl a2 c2 (J.hb ⟨C, A, U, Bl⟩ s.sz) hbl.out (by exact S2.out)).mono ?_; rintro e w3 ⟨X, rfl, M3, D3⟩; have DD3 := hide D3; have MM3 := hide M3; have cc3 := hide (And.intro ((MM3.out.row R02.out (by omega) (by omega) (by omega)).cell 0) (And.intro ((MM3.out.row R12.out (by omega) (by omega) (by omega)).cell 0) (And.intro ((MM3.out.row R12.out (by omega) (by omega) (by omega)).cell 1) (And.intro ((MM3.out.row R12.out (by omega) (by omega) (by omega)).cell 2) ((MM3.out.row R12.out (by omega) (by omega) (by omega)).cell 3))))); clear D3 M3)
    | (go_at_call 53; refine (hm _ _ (by rcases DD3.out with h | h; exact Or.inl h.1; exact Or.inr h.1)).mono ?_; rintro e w' ⟨hw, ⟨hX, rfl⟩ | ⟨hX, rfl⟩⟩; rotate_left; (rw [hw]; unfold fell; refine ⟨rfl, Or.inr ?_⟩; rcases DD3.out with h | h; (exfalso; have := h.1; omega); exact ⟨rfl, h.2.1, h.2.2, (Mv.of_below B2.out).trans MM3.out (Or.inl rfl)⟩); rw [hw]; have HX := hide hX; clear hw w'))
  all_goals go_end0
  all_goals (refine Or.inl ⟨rfl, ?_⟩; rcases DD3.out with h | h; exact ⟨h.2.1, h.2.2, (Mv.of_below B2.out).trans MM3.out (Or.inl rfl)⟩; (exfalso; have := h.1; have := HX.out; omega))
set_option maxRecDepth 5000 in
theorem put_any2 (w : World) (D S M : Nat) (s : K.St) (h : DiskAt FF w D S M s) (hdead : s.dead = false) (hn : 8 ≤ s.n) (ar : Nat) (har : ar < 2) (u : Nat) (g o C : Nat) (b : List UInt8) (cs : Array Value) (hb : RowAt w g 5 cs) (hbc : ∀ j, j < b.length → cs[o + j]? = some (.int .u8 (b.getD j 0).toNat)) (hbC : b.length ≤ C) (hroom : u + b.length ≤ J.arb s) :
    Calls Tryd.prog 61 #[stv D, .int .i64 (ar : Int), .int .i64 (u : Int), .slice (some ⟨g, o, none⟩) b.length C] w fun e w' => (e = .returned (.tuple #[]) ∧
      ∃ k, (J.bef s (2 + ar * J.ars s) u b).length ≤ k * s.sz ∧ k * s.sz < (J.bef s (2 + ar * J.ars s) u b).length + s.sz ∧ DiskAt FF w' D S M (J.laid s (2 + ar * J.ars s) u b k) ∧ (J.laid s (2 + ar * J.ars s) u b k).dead = false ∧ Mv D S M w w') ∨
      (e = fell 82 ∧ ∃ j, j * s.sz < (J.bef s (2 + ar * J.ars s) u b).length ∧ (J.laid s (2 + ar * J.ars s) u b j).can = false ∧ (J.laid s (2 + ar * J.ars s) u b j).dead = false ∧ DiskAt FF w' D S M (J.laid s (2 + ar * J.ars s) u b j).spent ∧ Mv D S M w w') := by
  obtain ⟨hb1, hb2, hb3, hb4⟩ := h.bds
  have hdm := Nat.div_add_mod' u s.sz
  by_cases hr : u % s.sz = 0
  · have e : u = u / s.sz * s.sz := by omega
    have eb : J.bef s (2 + ar * J.ars s) u b = b := by unfold J.bef; rw [hr]; rfl
    have := put_zero2 w D S M s h hdead hn ar har (u / s.sz) g o C b cs hb hbc hbC (by omega)
    rw [← e] at this
    unfold J.laid
    rw [eb]
    exact this
  · have := put_mid2 w D S M s h hdead hn ar har (u / s.sz) (u % s.sz) (by omega) (Nat.mod_lt _ (by omega)) g o C b cs hb hbc (by omega) _ rfl
    rw [hdm] at this
    exact this
end Go.Proofs.YtidocfajhhpfdaaDoor
