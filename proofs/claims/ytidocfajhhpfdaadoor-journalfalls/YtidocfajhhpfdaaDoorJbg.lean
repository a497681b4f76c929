/- begin. -/
import Derived.Test.YtidocfajhhpfdaaDoorJph
namespace Go.Proofs.YtidocfajhhpfdaaDoor
open Go.RowKit
def h0 : J.H := ⟨0, 0, 0, 0⟩
set_option maxRecDepth 5000 in
theorem h0_ok : HOk h0 := ⟨by decide, by decide, by decide, by decide⟩
def h0row : Array Value := #[.int .u64 0, .int .i64 0, .int .i64 0, .int .i64 0]
set_option maxRecDepth 5000 in
theorem h0_row : hrow h0 = h0row := rfl
set_option maxRecDepth 5000 in
theorem DiskAt.keptB {A : Nat → Prop} {w w' : World} {B D S M : Nat} {s : K.St} (h : DiskAt A w D S M s) (hb : Below B w w') (hk : Rows w w') (hD : D < B) (hS : S < B) (hM : M < B) : DiskAt A w' D S M s := by
  obtain ⟨sv, uv, h⟩ := h
  exact ⟨sv, uv, h.keepA hb.size (hb.block _ hD) (hb.block _ hS) (hb.block _ hM) hk.any⟩
set_option maxRecDepth 5000 in
theorem Mv.belowB {D S M B : Nat} {w w1 w' : World} (h : Mv D S M w w1) (hb : Below B w1 w') (hB : w.heap.size ≤ B) : Mv D S M w w' :=
  ⟨hb.os.trans h.os, hb.tape.trans h.tape, hb.output.trans h.output, Nat.le_trans h.size hb.size, fun g hg h1 h2 h3 => by rw [hb.block g (by omega), h.block g hg h1 h2 h3]⟩
set_option maxHeartbeats 4000000 in
set_option maxRecDepth 5000 in
theorem begin_ok (w : World) (ht : Tab w) (D S M : Nat) (s : K.St) (h : DiskAt FF w D S M s) (hp : Pw s) (hz : ∀ i, i < s.n → s.rd i = List.replicate s.sz 0) :
    Calls Tryd.prog 47 #[stv D] w fun e w' => e = .returned (.agg h0row) ∧ DiskAt FF w' D S M (s.put 0 (J.hb h0 s.sz)) ∧ Mv D S M w w' := by
  obtain ⟨hb1, hb2, hb3, hb4⟩ := h.bds
  obtain ⟨hD, hS, hM⟩ := h.lts
  unfold stv
  have hpos := ht.1
  have R0 : RowAt ((w.alloc (.cells #[.pointer (some ⟨D, 0, none⟩)] 65)).alloc (.cells h0row 67)) w.heap.size 65 #[.pointer (some ⟨D, 0, none⟩)] := (RowAt.new w _ _).alloc _
  have R1 : RowAt ((w.alloc (.cells #[.pointer (some ⟨D, 0, none⟩)] 65)).alloc (.cells h0row 67)) (w.heap.size + 1) 67 h0row := by
    have := RowAt.new (w.alloc (.cells #[.pointer (some ⟨D, 0, none⟩)] 65)) 67 h0row
    rwa [World.size_alloc] at this
  have B1 : Below w.heap.size w ((w.alloc (.cells #[.pointer (some ⟨D, 0, none⟩)] 65)).alloc (.cells h0row 67)) := ((Below.refl _ w).alloc (Nat.le_refl _) _).alloc (by simp) _
  have HT := hide ht
  have HD := hide h
  have HZ := hide hz
  have HP := hide hp
  unfold h0row at R0 R1 B1
  clear ht h hz hp
  go_enter Tryd.func47, Tryd.ntmps47
  have hse : ∀ W, DiskAt FF W D S M s → Calls Tryd.prog 28 #[.pointer (some ⟨D, 0, none⟩)] W fun e w' => e = .returned (.int .i64 (s.n : Int)) ∧ w' = W := fun W hW => sectors_any W D S M s hW
  go_wp2_with (go_at_call 28; refine (hse _ (by exact HD.out.below B1 (Nat.le_refl _))).mono ?_; rintro e w' ⟨rfl, hw⟩; rw [hw]; clear hw w')
  generalize (w.alloc (.cells #[.pointer (some ⟨D, 0, none⟩)] 65)).alloc (.cells #[.int .u64 0, .int .i64 0, .int .i64 0, .int .i64 0] 67) = w1 at R0 R1 B1 ⊢
  go_loopw [8] (fun i wr => ∃ k : Nat, k ≤ s.n ∧ i = .int .i64 (k : Int) ∧ RowAt wr w.heap.size 65 #[.pointer (some ⟨D, 0, none⟩)] ∧ RowAt wr (w.heap.size + 1) 67 #[.int .u64 0, .int .i64 0, .int .i64 0, .int .i64 0] ∧ Below w.heap.size w wr) (fun i wr => s.n - (intOf i).toNat)
  case atStart => exact ⟨0, by omega, rfl, R0, R1, B1⟩
  case round =>
    clear R0 R1 B1
    obtain ⟨k, hk, rfl, R0, R1, B1⟩ := hrel
    have x0 : wr.cell? ⟨w.heap.size, 0, none⟩ = some (.pointer (some ⟨D, 0, none⟩)) := R0.cell 0
    by_cases hlt : k < s.n
    · have hrd := sread_ok wr D S M s (HD.out.below B1 (Nat.le_refl _)) HP.out.1 k hlt
      rw [HZ.out k hlt] at hrd
      unfold stv at hrd
      have hlt' : (k : Int) < (s.n : Int) := by omega
      have R0H := hide R0
      have R1H := hide R1
      have B1H := hide B1
      obtain ⟨Z, hZ⟩ : ∃ Z, Z = s.sz := ⟨_, rfl⟩
      rw [← hZ] at hrd hb1 hb2
      clear R0 R1 B1 hZ
      go_wp2_with (first
        | (go_at_call 45; refine hrd.mono ?_; rintro e w2 ⟨g2, rfl, hg2, R2, b2⟩; have S2 := hide (SlU.sl (SlU.row R2)); have B2 := hide (B1H.out.trans (b2.mono B1H.out.size)); have R02 := hide (R0H.out.below b2 R0H.out.lt); have R12 := hide (R1H.out.below b2 R1H.out.lt); clear R2 b2)
        | (go_at_call 46; refine (blank_any _ g2 0 Z Z (List.replicate Z 0) (by simp) (by omega) S2.out).mono ?_; rintro e w3 ⟨rfl, b3⟩; rw [decide_eq_true rfl]; have B3 := hide (B2.out.trans (b3.mono B2.out.size)); have R03 := hide (R02.out.below b3 R02.out.lt); have R13 := hide (R12.out.below b3 R12.out.lt); clear b3)
        | fail)
      go_roundw
      case rel => exact ⟨k + 1, by omega, by go_num, R03.out, R13.out, B3.out⟩
      case measure => simp [intOf]; omega
    · have hlt' : ¬ (k : Int) < (s.n : Int) := by omega
      have z1 : w.heap.size + 1 < wr.heap.size := R1.lt
      have R0a := R0.alloc (.cells #[.int .u64 0, .int .i64 0, .int .i64 0, .int .i64 0] 67)
      have R1a := R1.alloc (.cells #[.int .u64 0, .int .i64 0, .int .i64 0, .int .i64 0] 67)
      have R2a : RowAt (wr.alloc (.cells #[.int .u64 0, .int .i64 0, .int .i64 0, .int .i64 0] 67)) wr.heap.size 67 #[.int .u64 0, .int .i64 0, .int .i64 0, .int .i64 0] := RowAt.new wr _ _
      have B2 := B1.alloc B1.size (.cells #[.int .u64 0, .int .i64 0, .int .i64 0, .int .i64 0] 67)
      clear R0 R1 B1
      go_wp2
      generalize wr.alloc (.cells #[.int .u64 0, .int .i64 0, .int .i64 0, .int .i64 0] 67) = w2 at R0a R1a R2a B2 ⊢
      generalize wr.heap.size = gh at R2a z1 ⊢
      have T2 := hide (HT.out.below B2 hpos)
      have D2 := hide (HD.out.below B2 (Nat.le_refl _))
      have z2 : w.heap.size ≤ w2.heap.size := B2.size
      have hsl : ∀ W, Calls Tryd.prog 60 #[.agg #[.int .u64 0, .int .i64 0, .int .i64 0, .int .i64 0]] W fun e w' => e = .returned (.int .i64 0) ∧ Below W.heap.size W w' := fun W => slot_any W h0 h0_ok
      have hph : ∀ W, Tab W → DiskAt FF W D S M s → Calls Tryd.prog 62 #[.agg #[.pointer (some ⟨D, 0, none⟩)], .int .i64 0, .agg #[.int .u64 0, .int .i64 0, .int .i64 0, .int .i64 0]] W fun e w' => e = .returned (.tuple #[]) ∧ DiskAt FF w' D S M (s.put 0 (J.hb h0 s.sz)) ∧ Mv D S M W w' := fun W hT hW => putHead_ok W hT D S M s hW HP.out 0 (by omega) h0 h0_ok
      have x1 : w2.cell? ⟨w.heap.size, 0, none⟩ = some (.pointer (some ⟨D, 0, none⟩)) := R0a.cell 0
      have y0 : w2.cell? ⟨gh, 0, none⟩ = some (.int .u64 0) := R2a.cell 0
      have y1 : w2.cell? ⟨gh, 1, none⟩ = some (.int .i64 0) := R2a.cell 1
      have y2 : w2.cell? ⟨gh, 2, none⟩ = some (.int .i64 0) := R2a.cell 2
      have y3 : w2.cell? ⟨gh, 3, none⟩ = some (.int .i64 0) := R2a.cell 3
      have R0H := hide R0a
      have R1H := hide R1a
      have R2H := hide R2a
      have B2H := hide B2
      clear R0a R1a R2a B2 x0
      go_region_held3 (fun w' => w'.cell? ⟨w.heap.size, 0, none⟩ = some (.pointer (some ⟨D, 0, none⟩)) ∧ w'.cell? ⟨gh, 0, none⟩ = some (.int .u64 0) ∧ w'.cell? ⟨gh, 1, none⟩ = some (.int .i64 0) ∧ w'.cell? ⟨gh, 2, none⟩ = some (.int .i64 0) ∧ w'.cell? ⟨gh, 3, none⟩ = some (.int .i64 0)) (first | exact ⟨x1, y0, y1, y2, y3⟩ | exact cc3.out | exact cc4.out | fail) (first
        | (go_at_call 60; refine (hsl _).mono ?_; rintro e w3 ⟨rfl, b3⟩; have b3a : Below w2.heap.size w2 w3 := ⟨b3.os, b3.tape, b3.output, b3.size, b3.block⟩; have R03 := hide (R0H.out.below b3a R0H.out.lt); have R13 := hide (R1H.out.below b3a R1H.out.lt); have R23 := hide (R2H.out.below b3a R2H.out.lt); have D3 := hide (D2.out.below b3a (Nat.le_refl _)); have T3 := hide (T2.out.below b3a (by omega)); have B3 := hide (B2H.out.trans (b3a.mono z2)); have cc3 := hide (And.intro (R03.out.cell 0) (And.intro (R23.out.cell 0) (And.intro (R23.out.cell 1) (And.intro (R23.out.cell 2) (R23.out.cell 3))))); clear b3 b3a)
        | (go_at_call 62; refine (hph _ (by exact T3.out) (by first | exact D3.out | exact DiskAt.drewN D3.out _)).mono ?_; rintro e w4 ⟨rfl, D4, M4⟩; have M4a : Mv D S M w3 w4 := ⟨M4.os, M4.tape, M4.output, M4.size, M4.block⟩; have DD4 := hide D4; have MM4 := hide M4a; have R14 := hide (M4a.row R13.out (by omega) (by omega) (by omega)); have R24 := hide (M4a.row R23.out (by omega) (by omega) (by omega)); have R04 := M4a.row R03.out (by omega) (by omega) (by omega); have cc4 := hide (And.intro (R04.cell 0) (And.intro (R24.out.cell 0) (And.intro (R24.out.cell 1) (And.intro (R24.out.cell 2) (R24.out.cell 3))))); clear D4 M4 M4a R04))
      all_goals (have u0 : w4.cell? ⟨gh, 0, none⟩ = some (.int .u64 0) := R24.out.cell 0; have u1 : w4.cell? ⟨gh, 1, none⟩ = some (.int .i64 0) := R24.out.cell 1; have u2 : w4.cell? ⟨gh, 2, none⟩ = some (.int .i64 0) := R24.out.cell 2; have u3 : w4.cell? ⟨gh, 3, none⟩ = some (.int .i64 0) := R24.out.cell 3; have q0 : w4.cell? ⟨w.heap.size + 1, 0, none⟩ = some (.int .u64 0) := R14.out.cell 0; have q1 : w4.cell? ⟨w.heap.size + 1, 1, none⟩ = some (.int .i64 0) := R14.out.cell 1; have q2 : w4.cell? ⟨w.heap.size + 1, 2, none⟩ = some (.int .i64 0) := R14.out.cell 2; have q3 : w4.cell? ⟨w.heap.size + 1, 3, none⟩ = some (.int .i64 0) := R14.out.cell 3; have f0 := R14.out.frozen 0; have f1 := R14.out.frozen 1; have f2 := R14.out.frozen 2; have f3 := R14.out.frozen 3)
      all_goals go_wp2
      all_goals (
        have R5 : RowAt ((((w4.setCell ⟨w.heap.size + 1, 0, none⟩ (.int .u64 0)).setCell ⟨w.heap.size + 1, 1, none⟩ (.int .i64 0)).setCell ⟨w.heap.size + 1, 2, none⟩ (.int .i64 0)).setCell ⟨w.heap.size + 1, 3, none⟩ (.int .i64 0)) (w.heap.size + 1) 67 h0row := (((R14.out.set 0 (.int .u64 0)).set 1 (.int .i64 0)).set 2 (.int .i64 0)).set 3 (.int .i64 0)
        have BB5 : Below (w.heap.size + 1) w4 ((((w4.setCell ⟨w.heap.size + 1, 0, none⟩ (.int .u64 0)).setCell ⟨w.heap.size + 1, 1, none⟩ (.int .i64 0)).setCell ⟨w.heap.size + 1, 2, none⟩ (.int .i64 0)).setCell ⟨w.heap.size + 1, 3, none⟩ (.int .i64 0)) := ((((Below.refl _ w4).setCell (by simp) _).setCell (by simp) _).setCell (by simp) _).setCell (by simp) _
        have hk5 : Rows w4 ((((w4.setCell ⟨w.heap.size + 1, 0, none⟩ (.int .u64 0)).setCell ⟨w.heap.size + 1, 1, none⟩ (.int .i64 0)).setCell ⟨w.heap.size + 1, 2, none⟩ (.int .i64 0)).setCell ⟨w.heap.size + 1, 3, none⟩ (.int .i64 0)) := fun g c hg => by
          have hne : g ≠ w.heap.size + 1 := (R14.out.ne hg (by decide)).symm
          exact (((hg.other _ _ hne).other _ _ hne).other _ _ hne).other _ _ hne
        generalize ((((w4.setCell ⟨w.heap.size + 1, 0, none⟩ (.int .u64 0)).setCell ⟨w.heap.size + 1, 1, none⟩ (.int .i64 0)).setCell ⟨w.heap.size + 1, 2, none⟩ (.int .i64 0)).setCell ⟨w.heap.size + 1, 3, none⟩ (.int .i64 0)) = w5 at R5 BB5 hk5 ⊢
        exact bodyPost_ret (v := .agg h0row) (results_cell_row Tryd.results47 _ _ (w.heap.size + 1) 67 _ (0, 0) _ rfl R5 Tryd.underlying67 rfl (by exact infoHead)) rfl ⟨rfl, DD4.out.keptB BB5 hk5 (by omega) (by omega) (by omega), (((Mv.of_below B3.out).trans MM4.out (Or.inl rfl)).belowB BB5 (by omega))⟩)
end Go.Proofs.YtidocfajhhpfdaaDoor
