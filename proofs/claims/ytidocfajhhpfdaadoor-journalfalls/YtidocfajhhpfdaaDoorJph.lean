/- putHead. -/
import Derived.Test.YtidocfajhhpfdaaDoorJoh
namespace Go.Proofs.YtidocfajhhpfdaaDoor
open Go.RowKit
set_option maxRecDepth 5000 in
theorem OwnB.slu {w : World} {base : Nat} {a : Option Addr} {n c : Nat} {l : List UInt8} (h : OwnB w base (.slice a n c) l) (hl : 0 < l.length) : SlU w a l := by
  obtain ⟨a', c', e, hi, _⟩ := h.inb
  injection e with e1 e2 e3
  subst e1
  have h0 : w.ownsRow base 5 1 (.slice a n c) l.length (vb l) := h
  rcases h0.2 with ⟨_, e⟩ | ⟨g, cap, cur, e, _, h2, _⟩
  · omega
  · injection e with e1 _ _
    subst e1
    obtain ⟨g', o', cs, fr, e', h3, h4⟩ := hi hl
    injection e' with e'
    injection e' with e1 e2
    subst e1; subst e2
    rw [h2] at h3
    injection h3 with h3
    injection h3 with h5 _ _
    subst h5
    exact ⟨g, 0, cur, rfl, h2, h4⟩
set_option maxRecDepth 5000 in
theorem DiskAt.drewN {A : Nat → Prop} {w : World} {D S M : Nat} {s : K.St} (h : DiskAt A w D S M s) (n : Nat) : DiskAt A (w.drewN n) D S M s := by
  obtain ⟨sv, uv, h⟩ := h; exact ⟨sv, uv, h.keepA (Nat.le_refl _) rfl rfl rfl (fun _ _ _ hg => hg)⟩
set_option maxRecDepth 5000 in
theorem Mv.row {D S M : Nat} {w w' : World} {g : Nat} {t : TypeId} {c : Array Value} (hm : Mv D S M w w') (h : RowAt w g t c) (h1 : g ≠ D) (h2 : g ≠ S) (h3 : g ≠ M) : RowAt w' g t c := (hm.block g h.lt h1 h2 h3).trans h
/- the disk's blocks are there -/
set_option maxRecDepth 5000 in
theorem DiskAt.lts {A : Nat → Prop} {w : World} {D S M : Nat} {s : K.St} (h : DiskAt A w D S M s) : D < w.heap.size ∧ S < w.heap.size ∧ M < w.heap.size := by
  obtain ⟨sv, uv, h⟩ := h; exact ⟨h.row.lt, h.sure.lt, h.un.lt⟩
set_option maxRecDepth 5000 in
theorem putW (w : World) (D S M : Nat) (s : K.St) (h : DiskAt FF w D S M s) (hp : Pw s) (i : Nat) (hi : i < s.n) (ao : Option Addr) (c : Nat) (l : List UInt8) (hl : l.length = s.sz) (hs : SlU w ao l) :
    Calls Tryd.prog 26 #[.pointer (some ⟨D, 0, none⟩), .int .i64 (i : Int), .slice ao s.sz c] w fun e w' => e = .returned (.int .i64 0) ∧ DiskAt FF w' D S M (s.put i l) ∧ Mv D S M w w' := by
  have := write_ok w D S M s h hp.1 i hi ao c l hl hs hp.can
  rw [hl] at this; exact this
set_option maxHeartbeats 2000000 in
set_option maxRecDepth 5000 in
theorem putHead_ok (w : World) (ht : Tab w) (D S M : Nat) (s : K.St) (h : DiskAt FF w D S M s) (hp : Pw s) (sl : Nat) (hsl : sl < s.n) (hd : J.H) (hh : HOk hd) :
    Calls Tryd.prog 62 #[stv D, .int .i64 (sl : Int), .agg (hrow hd)] w fun e w' => e = .returned (.tuple #[]) ∧ DiskAt FF w' D S M (s.put sl (J.hb hd s.sz)) ∧ Mv D S M w w' := by
  obtain ⟨hb1, hb2, hb3, hb4⟩ := h.bds
  unfold stv
  have hpos := ht.1
  have R0 : RowAt ((w.alloc (.cells #[.pointer (some ⟨D, 0, none⟩)] 65)).alloc (.cells (hrow hd) 67)) w.heap.size 65 #[.pointer (some ⟨D, 0, none⟩)] := (RowAt.new w _ _).alloc _
  have R1 : RowAt ((w.alloc (.cells #[.pointer (some ⟨D, 0, none⟩)] 65)).alloc (.cells (hrow hd) 67)) (w.heap.size + 1) 67 (hrow hd) := by
    have := RowAt.new (w.alloc (.cells #[.pointer (some ⟨D, 0, none⟩)] 65)) 67 (hrow hd)
    rwa [World.size_alloc] at this
  have B1 : Below w.heap.size w ((w.alloc (.cells #[.pointer (some ⟨D, 0, none⟩)] 65)).alloc (.cells (hrow hd) 67)) := ((Below.refl _ w).alloc (Nat.le_refl _) _).alloc (by simp) _
  obtain ⟨hD, hS, hM⟩ := h.lts
  have HH := hide hh
  have HT := hide ht
  have HD := hide h
  obtain ⟨C, A, U, Bl⟩ := hd
  unfold hrow at R0 R1 B1 ⊢
  simp only at R0 R1 B1 ⊢
  clear hh ht h
  go_enter Tryd.func62, Tryd.ntmps62
  go_wp2
  generalize (w.alloc (.cells #[.pointer (some ⟨D, 0, none⟩)] 65)).alloc (.cells #[.int .u64 (C : Int), .int .i64 (A : Int), .int .i64 (U : Int), .int .i64 (Bl : Int)] 67) = w1 at R0 R1 B1 ⊢
  have D1 := hide (HD.out.below B1 (Nat.le_refl _))
  have hsz : ∀ W, DiskAt FF W D S M s → Calls Tryd.prog 55 #[.pointer (some ⟨D, 0, none⟩)] W fun e w' => e = .returned (.int .i64 (s.sz : Int)) ∧ w' = W := fun W hW => size_any W D S M s hW
  have hby : ∀ W, Tab W → Calls Tryd.prog 68 #[.agg #[.int .u64 (C : Int), .int .i64 (A : Int), .int .i64 (U : Int), .int .i64 (Bl : Int)], .int .i64 (s.sz : Int)] W fun e w' => ∃ v', e = .returned v' ∧ OwnB w' W.heap.size v' (J.hb ⟨C, A, U, Bl⟩ s.sz) ∧ Below W.heap.size W w' := fun W hW => hbytes_any W hW ⟨C, A, U, Bl⟩ HH.out s.sz hb1 hb2
  have hbl := hide (J.hb_len ⟨C, A, U, Bl⟩ s.sz (by omega))
  have T1 := hide (HT.out.below B1 hpos)
  have x0 : w1.cell? ⟨w.heap.size, 0, none⟩ = some (.pointer (some ⟨D, 0, none⟩)) := R0.cell 0
  have y0 : w1.cell? ⟨w.heap.size + 1, 0, none⟩ = some (.int .u64 (C : Int)) := R1.cell 0
  have y1 : w1.cell? ⟨w.heap.size + 1, 1, none⟩ = some (.int .i64 (A : Int)) := R1.cell 1
  have y2 : w1.cell? ⟨w.heap.size + 1, 2, none⟩ = some (.int .i64 (U : Int)) := R1.cell 2
  have y3 : w1.cell? ⟨w.heap.size + 1, 3, none⟩ = some (.int .i64 (Bl : Int)) := R1.cell 3
  have hm := must_ok
  have R0H := hide R0
  have R1H := hide R1
  have B1H := hide B1
  have HP := hide hp
  clear R0 R1 B1 hp
  go_region_held3 (fun w' => w'.cell? ⟨w.heap.size, 0, none⟩ = some (.pointer (some ⟨D, 0, none⟩)) ∧ w'.cell? ⟨w.heap.size + 1, 0, none⟩ = some (.int .u64 (C : Int)) ∧ w'.cell? ⟨w.heap.size + 1, 1, none⟩ = some (.int .i64 (A : Int)) ∧ w'.cell? ⟨w.heap.size + 1, 2, none⟩ = some (.int .i64 (U : Int)) ∧ w'.cell? ⟨w.heap.size + 1, 3, none⟩ = some (.int .i64 (Bl : Int))) (first | exact ⟨x0, y0, y1, y2, y3⟩ | exact cc2.out | exact cc3.out | fail) (first
    | (go_at_call 55; refine (hsz _ (by exact DiskAt.drewN D1.out _)).mono ?_; rintro e w' ⟨rfl, hw⟩; rw [hw]; clear hw w')
    | (go_at_call 68; refine (hby _ (by exact T1.out)).mono ?_; rintro e w2 ⟨v2, rfl, O2, b2⟩; have b2a : Below w1.heap.size w1 w2 := ⟨b2.os, b2.tape, b2.output, b2.size, b2.block⟩; obtain ⟨a2, c2, hv2⟩ := O2.slice; rw [hbl.out] at hv2; rw [hv2] at O2 ⊢; have S2 := hide (O2.slu (by rw [hbl.out]; omega)); have R02 := hide (R0H.out.below b2a R0H.out.lt); have R12 := hide (R1H.out.below b2a R1H.out.lt); have D2 := hide (D1.out.below b2a (Nat.le_refl _)); have B2 := hide (B1H.out.trans (b2a.mono B1H.out.size)); have cc2 := hide (And.intro (R02.out.cell 0) (And.intro (R12.out.cell 0) (And.intro (R12.out.cell 1) (And.intro (R12.out.cell 2) (R12.out.cell 3))))); clear O2 b2 b2a hv2)
    | (go_at_call 26; refine (putW _ D S M s (by exact D2.out) HP.out sl hsl a2 c2 (J.hb ⟨C, A, U, Bl⟩ s.sz) hbl.out (by exact S2.out)).mono ?_; rintro e w3 ⟨rfl, D3, M3⟩; have DD3 := hide D3; have MM3 := hide M3; have cc3 := hide (And.intro ((MM3.out.row R02.out (by omega) (by omega) (by omega)).cell 0) (And.intro ((MM3.out.row R12.out (by omega) (by omega) (by omega)).cell 0) (And.intro ((MM3.out.row R12.out (by omega) (by omega) (by omega)).cell 1) (And.intro ((MM3.out.row R12.out (by omega) (by omega) (by omega)).cell 2) ((MM3.out.row R12.out (by omega) (by omega) (by omega)).cell 3))))); clear D3 M3)
    | (go_at_call 53; refine (hm _).mono ?_; rintro e w' ⟨rfl, hw⟩; rw [hw]; clear hw w'))
  all_goals go_end0
  all_goals exact ⟨rfl, DD3.out, (Mv.of_below B2.out).trans MM3.out (Or.inl rfl)⟩
end Go.Proofs.YtidocfajhhpfdaaDoor
