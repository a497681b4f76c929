/- newest. -/
import Derived.Test.YtidocfajhhpfdaaDoorJbg
namespace Go.Proofs.YtidocfajhhpfdaaDoor
open Go.RowKit
set_option maxRecDepth 5000 in
theorem sread_int (w : World) (D S M : Nat) (s : K.St) (h : DiskAt FF w D S M s) (hd : s.dead = false) (i : Int) (h0 : 0 ≤ i) (hi : i < (s.n : Int)) : Calls Tryd.prog 45 #[.agg #[.pointer (some ⟨D, 0, none⟩)], .int .i64 i] w fun e w' =>
    ∃ g, e = .returned (.slice (some ⟨g, 0, none⟩) s.sz s.sz) ∧ w.heap.size ≤ g ∧ RowAt w' g 5 (vb (s.rd i.toNat)).toArray ∧ Below w.heap.size w w' := by
  have := sread_ok w D S M s h hd i.toNat (by omega)
  rw [Int.toNat_of_nonneg h0] at this
  exact this
set_option maxRecDepth 5000 in
theorem below_re {B : Nat} {w W w' : World} (h : Below B W w') (e1 : W.os = w.os) (e2 : W.tape = w.tape) (e3 : W.output = w.output) (e4 : W.heap = w.heap) : Below B w w' := ⟨h.os.trans e1, h.tape.trans e2, h.output.trans e3, by rw [← e4]; exact h.size, fun g hg => by rw [← e4]; exact h.block g hg⟩
set_option maxRecDepth 5000 in
theorem hb_not_blank (h : J.H) (sz n : Nat) : J.hb h sz ≠ List.replicate n 0 := fun e => by
  have h1 : (J.hb h sz).head? = some 106 := by simp [J.hb, J.hpre, J.mark]
  rw [e] at h1
  cases n with
  | zero => simp at h1
  | succ n => simp [List.replicate_succ] at h1
/- a head that is written field by field -/
set_option maxRecDepth 5000 in
theorem four_sets {w : World} {g : Nat} {c : Array Value} (h : RowAt w g 67 c) (hc : c.size = 4) (x y z u : Int) : ∃ w', w' = ((((w.setCell ⟨g, 0, none⟩ (.int .u64 x)).setCell ⟨g, 1, none⟩ (.int .i64 y)).setCell ⟨g, 2, none⟩ (.int .i64 z)).setCell ⟨g, 3, none⟩ (.int .i64 u)) ∧ RowAt w' g 67 #[.int .u64 x, .int .i64 y, .int .i64 z, .int .i64 u] ∧ Below g w w' ∧ Rows w w' := by
  refine ⟨_, rfl, ?_, ((((Below.refl _ w).setCell (by simp) _).setCell (by simp) _).setCell (by simp) _).setCell (by simp) _, fun g' c' hg => ?_⟩
  · have h4 := (((h.set 0 (.int .u64 x)).set 1 (.int .i64 y)).set 2 (.int .i64 z)).set 3 (.int .i64 u)
    have e : (((c.setIfInBounds 0 (.int .u64 x)).setIfInBounds 1 (.int .i64 y)).setIfInBounds 2 (.int .i64 z)).setIfInBounds 3 (.int .i64 u) = #[.int .u64 x, .int .i64 y, .int .i64 z, .int .i64 u] := by
      apply Array.ext
      · simp [hc]
      · intro i h1 h2
        simp at h2
        have : i = 0 ∨ i = 1 ∨ i = 2 ∨ i = 3 := by omega
        rcases this with rfl | rfl | rfl | rfl <;> simp [hc]
    rw [e] at h4
    exact h4
  · have hne : g' ≠ g := (h.ne hg (by decide)).symm
    exact (((hg.other _ _ hne).other _ _ hne).other _ _ hne).other _ _ hne
set_option maxHeartbeats 4000000 in
set_option maxRecDepth 5000 in
theorem newest_new (w : World) (ht : Tab w) (D S M : Nat) (s : K.St) (h : DiskAt FF w D S M s) (hp : Pw s) (hn : 8 ≤ s.n) (hz : ∀ i, i < s.n → s.rd i = List.replicate s.sz 0) :
    Calls Tryd.prog 31 #[stv D] w fun e w' => e = .returned (.agg h0row) ∧ DiskAt FF w' D S M (s.put 0 (J.hb h0 s.sz)) ∧ Mv D S M w w' := by
  obtain ⟨hb1, hb2, hb3, hb4⟩ := h.bds
  obtain ⟨hD, hS, hM⟩ := h.lts
  unfold stv
  have hpos := ht.1
  have R0 : RowAt ((w.alloc (.cells #[.pointer (some ⟨D, 0, none⟩)] 65)).alloc (.cells h0row 67)) w.heap.size 65 #[.pointer (some ⟨D, 0, none⟩)] := (RowAt.new w _ _).alloc _
  have R1 : RowAt ((w.alloc (.cells #[.pointer (some ⟨D, 0, none⟩)] 65)).alloc (.cells h0row 67)) (w.heap.size + 1) 67 h0row := by
    have := RowAt.new (w.alloc (.cells #[.pointer (some ⟨D, 0, none⟩)] 65)) 67 h0row
    rwa [World.size_alloc] at this
  have B1 : Below w.heap.size w ((w.alloc (.cells #[.pointer (some ⟨D, 0, none⟩)] 65)).alloc (.cells h0row 67)) := ((Below.refl _ w).alloc (Nat.le_refl _) _).alloc (by simp) _
  have HT := hide ht
  have HD := hide h
  have HZ := hide hz
  have HP := hide hp
  unfold h0row at R0 R1 B1
  clear ht h hz hp
  have hrd : ∀ (W : World) (i : Int), DiskAt FF W D S M s → 0 ≤ i → i < (s.n : Int) → Calls Tryd.prog 45 #[.agg #[.pointer (some ⟨D, 0, none⟩)], .int .i64 i] W fun e w' => ∃ g, e = .returned (.slice (some ⟨g, 0, none⟩) s.sz s.sz) ∧ RowAt w' g 5 (vb (List.replicate s.sz 0)).toArray ∧ Below W.heap.size W w' := fun W i hW h1 h2 => by
    refine (sread_int W D S M s hW HP.out.1 i h1 h2).mono ?_
    rintro e w' ⟨g, e1, _, e3, e4⟩
    rw [HZ.out _ (by omega)] at e3
    exact ⟨g, e1, e3, e4⟩
  go_enter Tryd.func31, Tryd.ntmps31
  go_wp2
  generalize (w.alloc (.cells #[.pointer (some ⟨D, 0, none⟩)] 65)).alloc (.cells #[.int .u64 0, .int .i64 0, .int .i64 0, .int .i64 0] 67) = w1 at R0 R1 B1 ⊢
  have x0 : w1.cell? ⟨w.heap.size, 0, none⟩ = some (.pointer (some ⟨D, 0, none⟩)) := R0.cell 0
  have FL : Hid (RowAt w1 w.heap.size 65 #[.pointer (some ⟨D, 0, none⟩)] ∧ RowAt w1 (w.heap.size + 1) 67 #[.int .u64 0, .int .i64 0, .int .i64 0, .int .i64 0] ∧ Below w.heap.size w w1) := ⟨R0, R1, B1⟩
  have cL : w1.cell? ⟨w.heap.size, 0, none⟩ = some (.pointer (some ⟨D, 0, none⟩)) := R0.cell 0
  clear R0 R1 B1
  go_region_held3 (fun w' => w'.cell? ⟨w.heap.size, 0, none⟩ = some (.pointer (some ⟨D, 0, none⟩))) (first | exact x0 | exact cLB | exact cLA | fail) (first
    | (go_at_call 45; have hchk := RA.out; clear hchk; refine (hrd _ _ (by first | exact (HD.out.below FL.out.2.2 (Nat.le_refl _)) | exact DiskAt.drewN (HD.out.below FL.out.2.2 (Nat.le_refl _)) _) (by omega) (by omega)).mono ?_; rintro e wB ⟨gB, rfl, RB, bB⟩; have cB := below_re (w := wA) bB rfl rfl rfl rfl; have RA2 := RA.out.below cB RA.out.lt; clear RA; have RA := hide RA2; clear RA2; have fl := FL.out; clear FL; have FL : Hid (RowAt wB w.heap.size 65 #[.pointer (some ⟨D, 0, none⟩)] ∧ RowAt wB (w.heap.size + 1) 67 #[.int .u64 0, .int .i64 0, .int .i64 0, .int .i64 0] ∧ Below w.heap.size w wB) := ⟨fl.1.below cB fl.1.lt, fl.2.1.below cB fl.2.1.lt, fl.2.2.trans (cB.mono fl.2.2.size)⟩; clear fl; have cLB : wB.cell? ⟨w.heap.size, 0, none⟩ = some (.pointer (some ⟨D, 0, none⟩)) := FL.out.1.cell 0; clear bB cB; have RB := hide RB)
    | (go_at_call 45; refine (hrd _ _ (by first | exact (HD.out.below FL.out.2.2 (Nat.le_refl _)) | exact DiskAt.drewN (HD.out.below FL.out.2.2 (Nat.le_refl _)) _) (by omega) (by omega)).mono ?_; rintro e wA ⟨gA, rfl, RA, bA⟩; have cA := below_re (w := w1) bA rfl rfl rfl rfl; have fl := FL.out; clear FL; have FL : Hid (RowAt wA w.heap.size 65 #[.pointer (some ⟨D, 0, none⟩)] ∧ RowAt wA (w.heap.size + 1) 67 #[.int .u64 0, .int .i64 0, .int .i64 0, .int .i64 0] ∧ Below w.heap.size w wA) := ⟨fl.1.below cA fl.1.lt, fl.2.1.below cA fl.2.1.lt, fl.2.2.trans (cA.mono fl.2.2.size)⟩; clear fl; have cLA : wA.cell? ⟨w.heap.size, 0, none⟩ = some (.pointer (some ⟨D, 0, none⟩)) := FL.out.1.cell 0; clear bA cA; have RA := hide RA))
  have hbg : ∀ W, Tab W → DiskAt FF W D S M s → Calls Tryd.prog 47 #[.agg #[.pointer (some ⟨D, 0, none⟩)]] W fun e w' => e = .returned (.agg h0row) ∧ DiskAt FF w' D S M (s.put 0 (J.hb h0 s.sz)) ∧ Mv D S M W w' := fun W hT hW => begin_ok W hT D S M s hW HP.out HZ.out
  unfold h0row at hbg
  go_wp2_with (first
    | (go_at_call 46; refine (blank_any _ gA 0 s.sz s.sz (List.replicate s.sz 0) (by simp) (by omega) (SlU.sl (SlU.row RA.out))).mono ?_; rintro e wC ⟨rfl, bC⟩; rw [decide_eq_true rfl]; have FC : Hid (RowAt wC w.heap.size 65 #[.pointer (some ⟨D, 0, none⟩)] ∧ RowAt wC (w.heap.size + 1) 67 #[.int .u64 0, .int .i64 0, .int .i64 0, .int .i64 0] ∧ Below w.heap.size w wC) := ⟨FL.out.1.below bC FL.out.1.lt, FL.out.2.1.below bC FL.out.2.1.lt, FL.out.2.2.trans (bC.mono FL.out.2.2.size)⟩; have cLC : wC.cell? ⟨w.heap.size, 0, none⟩ = some (.pointer (some ⟨D, 0, none⟩)) := FC.out.1.cell 0; clear bC FL cLA cLB cL x0)
    | (go_at_call 47; refine (hbg _ (HT.out.below FC.out.2.2 hpos) (HD.out.below FC.out.2.2 (Nat.le_refl _))).mono ?_; rintro e w4 ⟨rfl, D4, M4⟩; have DD4 := hide D4; have MM4 := hide M4; have R14 := hide (M4.row FC.out.2.1 (by omega) (by omega) (by omega)); have q0 : w4.cell? ⟨w.heap.size + 1, 0, none⟩ = some (.int .u64 0) := R14.out.cell 0; have q1 : w4.cell? ⟨w.heap.size + 1, 1, none⟩ = some (.int .i64 0) := R14.out.cell 1; have q2 : w4.cell? ⟨w.heap.size + 1, 2, none⟩ = some (.int .i64 0) := R14.out.cell 2; have q3 : w4.cell? ⟨w.heap.size + 1, 3, none⟩ = some (.int .i64 0) := R14.out.cell 3; have f0 := R14.out.frozen 0; have f1 := R14.out.frozen 1; have f2 := R14.out.frozen 2; have f3 := R14.out.frozen 3; clear D4 M4)
    | fail)
  obtain ⟨w5, hw5, R5, BB5, hk5⟩ := four_sets R14.out rfl 0 0 0 0
  rw [show ((((w4.setCell ⟨w.heap.size + 1, 0, none⟩ (.int .u64 0)).setCell ⟨w.heap.size + 1, 1, none⟩ (.int .i64 0)).setCell ⟨w.heap.size + 1, 2, none⟩ (.int .i64 0)).setCell ⟨w.heap.size + 1, 3, none⟩ (.int .i64 0)) = w5 from hw5.symm]
  exact bodyPost_ret (v := .agg h0row) (results_cell_row Tryd.results31 _ _ (w.heap.size + 1) 67 _ (0, 0) _ rfl R5 Tryd.underlying67 rfl (by exact infoHead)) rfl ⟨rfl, DD4.out.keptB BB5 hk5 (by omega) (by omega) (by omega), (((Mv.of_below FC.out.2.2).trans MM4.out (Or.inl rfl)).belowB BB5 (by omega))⟩
set_option maxHeartbeats 4000000 in
set_option maxRecDepth 5000 in
theorem newest_at (w : World) (ht : Tab w) (D S M : Nat) (s : K.St) (h : DiskAt FF w D S M s) (hd : s.dead = false) (hn : 8 ≤ s.n) (hA : J.H) (hAo : HOk hA) (hAu : hA.u ≤ J.arb s) (hA0 : s.rd 0 = J.hb hA s.sz) (X : J.H)
    (hX : (hA.c = 0 ∧ s.rd 1 = List.replicate s.sz 0 ∧ X = hA) ∨ ∃ hB, s.rd 1 = J.hb hB s.sz ∧ HOk hB ∧ hB.u ≤ J.arb s ∧ X = if hA.c < hB.c then hB else hA) :
    Calls Tryd.prog 31 #[stv D] w fun e w' => e = .returned (.agg (hrow X)) ∧ Below w.heap.size w w' := by
  obtain ⟨hb1, hb2, hb3, hb4⟩ := h.bds
  unfold stv
  have hpos := ht.1
  have hab : J.arb s ≤ 1000000000 := by
    have : J.arb s ≤ 4096 * 4096 := Nat.mul_le_mul (by unfold J.ars; omega) hb2
    omega
  have R0 : RowAt ((w.alloc (.cells #[.pointer (some ⟨D, 0, none⟩)] 65)).alloc (.cells h0row 67)) w.heap.size 65 #[.pointer (some ⟨D, 0, none⟩)] := (RowAt.new w _ _).alloc _
  have R1 : RowAt ((w.alloc (.cells #[.pointer (some ⟨D, 0, none⟩)] 65)).alloc (.cells h0row 67)) (w.heap.size + 1) 67 h0row := by
    have := RowAt.new (w.alloc (.cells #[.pointer (some ⟨D, 0, none⟩)] 65)) 67 h0row
    rwa [World.size_alloc] at this
  have B1 : Below w.heap.size w ((w.alloc (.cells #[.pointer (some ⟨D, 0, none⟩)] 65)).alloc (.cells h0row 67)) := ((Below.refl _ w).alloc (Nat.le_refl _) _).alloc (by simp) _
  have HT := hide ht
  have HD := hide h
  have HAC := hide hAo.c
  unfold h0row at R0 R1 B1
  have hrd0 : ∀ (W : World), DiskAt FF W D S M s → Calls Tryd.prog 45 #[.agg #[.pointer (some ⟨D, 0, none⟩)], .int .i64 0] W fun e w' => ∃ g, e = .returned (.slice (some ⟨g, 0, none⟩) s.sz s.sz) ∧ RowAt w' g 5 (vb (J.hb hA s.sz)).toArray ∧ Below W.heap.size W w' := fun W hW => by
    refine (sread_int W D S M s hW hd 0 (by omega) (by omega)).mono ?_
    rintro e w' ⟨g, e1, _, e3, e4⟩
    rw [show s.rd (0 : Int).toNat = _ from hA0] at e3
    exact ⟨g, e1, e3, e4⟩
  obtain ⟨L, hL⟩ : ∃ L, L = s.rd 1 := ⟨_, rfl⟩
  have hLl : L.length = s.sz := by rw [hL]; exact h.rdlen 1 (by omega)
  have hrd1 : ∀ (W : World), DiskAt FF W D S M s → Calls Tryd.prog 45 #[.agg #[.pointer (some ⟨D, 0, none⟩)], .int .i64 1] W fun e w' => ∃ g, e = .returned (.slice (some ⟨g, 0, none⟩) s.sz s.sz) ∧ RowAt w' g 5 (vb L).toArray ∧ Below W.heap.size W w' := fun W hW => by
    refine (sread_int W D S M s hW hd 1 (by omega) (by omega)).mono ?_
    rintro e w' ⟨g, e1, _, e3, e4⟩
    rw [show s.rd (1 : Int).toNat = L from hL.symm] at e3
    exact ⟨g, e1, e3, e4⟩
  rw [← hL] at hX
  have hal := hide (J.hb_len hA s.sz (by omega))
  have hab1 : ∀ W, DiskAt FF W D S M s → Calls Tryd.prog 35 #[.agg #[.pointer (some ⟨D, 0, none⟩)]] W fun e w' => e = .returned (.int .i64 (J.arb s : Int)) ∧ Below W.heap.size W w' := fun W hW => areaBytes_any W D S M s hW hn
  have HX := hide hX
  have HAo := hide hAo
  have HLl := hide hLl
  clear ht h hA0 hL hX hAo hLl
  go_enter Tryd.func31, Tryd.ntmps31
  go_wp2
  generalize (w.alloc (.cells #[.pointer (some ⟨D, 0, none⟩)] 65)).alloc (.cells #[.int .u64 0, .int .i64 0, .int .i64 0, .int .i64 0] 67) = w1 at R0 R1 B1 ⊢
  have x0 : w1.cell? ⟨w.heap.size, 0, none⟩ = some (.pointer (some ⟨D, 0, none⟩)) := R0.cell 0
  have FL : Hid (RowAt w1 w.heap.size 65 #[.pointer (some ⟨D, 0, none⟩)] ∧ RowAt w1 (w.heap.size + 1) 67 #[.int .u64 0, .int .i64 0, .int .i64 0, .int .i64 0] ∧ Below w.heap.size w w1) := ⟨R0, R1, B1⟩
  clear R0 R1 B1
  go_region_held3 (fun w' => w'.cell? ⟨w.heap.size, 0, none⟩ = some (.pointer (some ⟨D, 0, none⟩))) (first | exact x0 | exact cLwB | exact cLwA | fail) (first
    | (go_at_call 45; have hchk := RA.out; clear hchk; refine (hrd1 _ (by first | exact (HD.out.below FL.out.2.2 (Nat.le_refl _)) | exact DiskAt.drewN (HD.out.below FL.out.2.2 (Nat.le_refl _)) _)).mono ?_; rintro e wB ⟨gB, rfl, RB0, bB⟩; have cB := below_re (w := wA) bB rfl rfl rfl rfl; have RA2 := RA.out.below cB RA.out.lt; clear RA; have RA := hide RA2; clear RA2; have fl := FL.out; clear FL; have FL : Hid (RowAt wB w.heap.size 65 #[.pointer (some ⟨D, 0, none⟩)] ∧ RowAt wB (w.heap.size + 1) 67 #[.int .u64 0, .int .i64 0, .int .i64 0, .int .i64 0] ∧ Below w.heap.size w wB) := ⟨fl.1.below cB fl.1.lt, fl.2.1.below cB fl.2.1.lt, fl.2.2.trans (cB.mono fl.2.2.size)⟩; clear fl; have cLwB : wB.cell? ⟨w.heap.size, 0, none⟩ = some (.pointer (some ⟨D, 0, none⟩)) := FL.out.1.cell 0; clear bB cB; have RB := hide RB0; clear RB0)
    | (go_at_call 45; refine (hrd0 _ (by first | exact (HD.out.below FL.out.2.2 (Nat.le_refl _)) | exact DiskAt.drewN (HD.out.below FL.out.2.2 (Nat.le_refl _)) _)).mono ?_; rintro e wA ⟨gA, rfl, RA0, bA⟩; have cA := below_re (w := w1) bA rfl rfl rfl rfl; have fl := FL.out; clear FL; have FL : Hid (RowAt wA w.heap.size 65 #[.pointer (some ⟨D, 0, none⟩)] ∧ RowAt wA (w.heap.size + 1) 67 #[.int .u64 0, .int .i64 0, .int .i64 0, .int .i64 0] ∧ Below w.heap.size w wA) := ⟨fl.1.below cA fl.1.lt, fl.2.1.below cA fl.2.1.lt, fl.2.2.trans (cA.mono fl.2.2.size)⟩; clear fl; have cLwA : wA.cell? ⟨w.heap.size, 0, none⟩ = some (.pointer (some ⟨D, 0, none⟩)) := FL.out.1.cell 0; clear bA cA; have RA := hide RA0; clear RA0))
  clear x0 cLwA
  obtain ⟨Ac, Aa, Au, Ab⟩ := hA
  simp only at hAu
  have hnb := hide (hb_not_blank ⟨Ac, Aa, Au, Ab⟩ s.sz s.sz)
  have hop : ∀ W, Tab W → SlL W (some ⟨gA, 0, none⟩) (J.hb ⟨Ac, Aa, Au, Ab⟩ s.sz) → Calls Tryd.prog 48 #[.slice (some ⟨gA, 0, none⟩) s.sz s.sz, .int .i64 (J.arb s : Int)] W fun e w' => e = .returned (.agg #[.int .u64 (Ac : Int), .int .i64 (Aa : Int), .int .i64 (Au : Int), .int .i64 (Ab : Int)]) ∧ Below W.heap.size W w' := fun W hT hW => openHead_ok W hT ⟨Ac, Aa, Au, Ab⟩ HAo.out s.sz (J.arb s) gA 0 s.sz hb1 hb2 (Nat.le_refl _) hAu hab hW
  have TK1 : True := trivial
  rcases HX.out with ⟨hc0, hL0, hXe⟩ | ⟨hB, hLB, hBo, hBu, hXe⟩
  · have HXE := hide hXe
    have e0 : ((Ac : Int) == 0) = true := by have : Ac = 0 := hc0; rw [this]; rfl
    have HL0 := hide hL0
    clear hc0 hL0 hXe HX
    go_wp2_with (first
    | (go_at_call 46; have htk := TK1; refine (blank_any _ gA 0 s.sz s.sz _ hal.out (by omega) (SlU.sl (SlU.row RA.out))).mono ?_; rintro e wC ⟨rfl, bC⟩; rw [decide_eq_false hnb.out]; clear htk TK1; have TK2 : True := trivial; have RA2 := RA.out.below bC RA.out.lt; clear RA; have RA := hide RA2; clear RA2; have RB2 := RB.out.below bC RB.out.lt; clear RB; have RB := hide RB2; clear RB2; have fl := FL.out; clear FL; have FL : Hid (RowAt wC w.heap.size 65 #[.pointer (some ⟨D, 0, none⟩)] ∧ RowAt wC (w.heap.size + 1) 67 #[.int .u64 0, .int .i64 0, .int .i64 0, .int .i64 0] ∧ Below w.heap.size w wC) := ⟨fl.1.below bC fl.1.lt, fl.2.1.below bC fl.2.1.lt, fl.2.2.trans (bC.mono fl.2.2.size)⟩; clear fl; have cLwC : wC.cell? ⟨w.heap.size, 0, none⟩ = some (.pointer (some ⟨D, 0, none⟩)) := FL.out.1.cell 0; clear bC cLwB)
    | (go_at_call 35; have htk := TK2; refine (hab1 _ (HD.out.below FL.out.2.2 (Nat.le_refl _))).mono ?_; rintro e wE ⟨rfl, bE⟩; clear htk TK2; have TK3 : True := trivial; have RA2 := RA.out.below bE RA.out.lt; clear RA; have RA := hide RA2; clear RA2; have RB2 := RB.out.below bE RB.out.lt; clear RB; have RB := hide RB2; clear RB2; have fl := FL.out; clear FL; have FL : Hid (RowAt wE w.heap.size 65 #[.pointer (some ⟨D, 0, none⟩)] ∧ RowAt wE (w.heap.size + 1) 67 #[.int .u64 0, .int .i64 0, .int .i64 0, .int .i64 0] ∧ Below w.heap.size w wE) := ⟨fl.1.below bE fl.1.lt, fl.2.1.below bE fl.2.1.lt, fl.2.2.trans (bE.mono fl.2.2.size)⟩; clear fl; have cLwE : wE.cell? ⟨w.heap.size, 0, none⟩ = some (.pointer (some ⟨D, 0, none⟩)) := FL.out.1.cell 0; clear bE cLwC)
    | (go_at_call 48; have htk := TK3; refine (hop _ (HT.out.below FL.out.2.2 hpos) (SlU.sl (SlU.row RA.out))).mono ?_; rintro e wF ⟨rfl, bF⟩; clear htk TK3; have RA2 := RA.out.below bF RA.out.lt; clear RA; have RA := hide RA2; clear RA2; have RB2 := RB.out.below bF RB.out.lt; clear RB; have RB := hide RB2; clear RB2; have fl := FL.out; clear FL; have FL : Hid (RowAt wF w.heap.size 65 #[.pointer (some ⟨D, 0, none⟩)] ∧ RowAt wF (w.heap.size + 1) 67 #[.int .u64 0, .int .i64 0, .int .i64 0, .int .i64 0] ∧ Below w.heap.size w wF) := ⟨fl.1.below bF fl.1.lt, fl.2.1.below bF fl.2.1.lt, fl.2.2.trans (bF.mono fl.2.2.size)⟩; clear fl; have cLwF : wF.cell? ⟨w.heap.size, 0, none⟩ = some (.pointer (some ⟨D, 0, none⟩)) := FL.out.1.cell 0; have cAF : ∀ o : Obj, (wF.alloc o).cell? ⟨w.heap.size, 0, none⟩ = some (.pointer (some ⟨D, 0, none⟩)) := fun o => (FL.out.1.alloc o).cell 0; clear bF cLwE)
    | fail)
    have RF : Hid (RowAt (wF.alloc (.cells #[.int .u64 (Ac : Int), .int .i64 (Aa : Int), .int .i64 (Au : Int), .int .i64 (Ab : Int)] 67)) wF.heap.size 67 #[.int .u64 (Ac : Int), .int .i64 (Aa : Int), .int .i64 (Au : Int), .int .i64 (Ab : Int)]) := RowAt.new wF _ _
    have bG := (Below.refl wF.heap.size wF).alloc (Nat.le_refl _) (.cells #[.int .u64 (Ac : Int), .int .i64 (Aa : Int), .int .i64 (Au : Int), .int .i64 (Ab : Int)] 67)
    have zF : w.heap.size + 1 < wF.heap.size := FL.out.2.1.lt
    generalize wF.alloc (.cells #[.int .u64 (Ac : Int), .int .i64 (Aa : Int), .int .i64 (Au : Int), .int .i64 (Ab : Int)] 67) = wG at RF bG ⊢
    have RA2 := RA.out.below bG RA.out.lt
    clear RA
    have RA := hide RA2
    clear RA2
    have RB2 := RB.out.below bG RB.out.lt
    clear RB
    have RB := hide RB2
    clear RB2
    have fl := FL.out
    clear FL
    have FL : Hid (RowAt wG w.heap.size 65 #[.pointer (some ⟨D, 0, none⟩)] ∧ RowAt wG (w.heap.size + 1) 67 #[.int .u64 0, .int .i64 0, .int .i64 0, .int .i64 0] ∧ Below w.heap.size w wG) := ⟨fl.1.below bG fl.1.lt, fl.2.1.below bG fl.2.1.lt, fl.2.2.trans (bG.mono fl.2.2.size)⟩
    clear fl
    have cLwG : wG.cell? ⟨w.heap.size, 0, none⟩ = some (.pointer (some ⟨D, 0, none⟩)) := FL.out.1.cell 0
    generalize wF.heap.size = gh at RF zF ⊢
    clear bG cLwF cAF
    refine (blank_any wG gB 0 s.sz s.sz L HLl.out (by omega) (SlU.sl (SlU.row RB.out))).mono ?_
    rintro e wH ⟨rfl, bH⟩
    rw [decide_eq_true HL0.out]
    have RF2 := RF.out.below bH RF.out.lt
    clear RF
    have RF := hide RF2
    clear RF2
    have fl := FL.out
    clear FL
    have FL : Hid (RowAt wH w.heap.size 65 #[.pointer (some ⟨D, 0, none⟩)] ∧ RowAt wH (w.heap.size + 1) 67 #[.int .u64 0, .int .i64 0, .int .i64 0, .int .i64 0] ∧ Below w.heap.size w wH) := ⟨fl.1.below bH fl.1.lt, fl.2.1.below bH fl.2.1.lt, fl.2.2.trans (bH.mono fl.2.2.size)⟩
    clear fl
    have cLwH : wH.cell? ⟨w.heap.size, 0, none⟩ = some (.pointer (some ⟨D, 0, none⟩)) := FL.out.1.cell 0
    have r0 : wH.cell? ⟨gh, 0, none⟩ = some (.int .u64 (Ac : Int)) := RF.out.cell 0
    have r1 : wH.cell? ⟨gh, 1, none⟩ = some (.int .i64 (Aa : Int)) := RF.out.cell 1
    have r2 : wH.cell? ⟨gh, 2, none⟩ = some (.int .i64 (Au : Int)) := RF.out.cell 2
    have r3 : wH.cell? ⟨gh, 3, none⟩ = some (.int .i64 (Ab : Int)) := RF.out.cell 3
    have q0 : wH.cell? ⟨w.heap.size + 1, 0, none⟩ = some (.int .u64 0) := FL.out.2.1.cell 0
    have q1 : wH.cell? ⟨w.heap.size + 1, 1, none⟩ = some (.int .i64 0) := FL.out.2.1.cell 1
    have q2 : wH.cell? ⟨w.heap.size + 1, 2, none⟩ = some (.int .i64 0) := FL.out.2.1.cell 2
    have q3 : wH.cell? ⟨w.heap.size + 1, 3, none⟩ = some (.int .i64 0) := FL.out.2.1.cell 3
    have f0 := FL.out.2.1.frozen 0
    have f1 := FL.out.2.1.frozen 1
    have f2 := FL.out.2.1.frozen 2
    have f3 := FL.out.2.1.frozen 3
    clear bH cLwG hop hrd0 hrd1 hab1
    go_wp2
    obtain ⟨w5, hw5, R5, BB5, _⟩ := four_sets (FL.out.2.1) rfl (Ac : Int) (Aa : Int) (Au : Int) (Ab : Int)
    rw [show ((((wH.setCell ⟨w.heap.size + 1, 0, none⟩ (.int .u64 (Ac : Int))).setCell ⟨w.heap.size + 1, 1, none⟩ (.int .i64 (Aa : Int))).setCell ⟨w.heap.size + 1, 2, none⟩ (.int .i64 (Au : Int))).setCell ⟨w.heap.size + 1, 3, none⟩ (.int .i64 (Ab : Int))) = w5 from hw5.symm]
    exact bodyPost_ret (v := .agg #[.int .u64 (Ac : Int), .int .i64 (Aa : Int), .int .i64 (Au : Int), .int .i64 (Ab : Int)]) (results_cell_row Tryd.results31 _ _ (w.heap.size + 1) 67 _ (0, 0) _ rfl R5 Tryd.underlying67 rfl (by exact infoHead)) rfl ⟨by rw [HXE.out]; rfl, (FL.out.2.2).trans (BB5.mono (Nat.le_succ _))⟩
  · obtain ⟨Bc, Ba, Bu, Bb⟩ := hB
    simp only at hBu hXe
    have HXE := hide hXe
    have hbl := hide (J.hb_len ⟨Bc, Ba, Bu, Bb⟩ s.sz (by omega))
    have hnB := hide (hb_not_blank ⟨Bc, Ba, Bu, Bb⟩ s.sz s.sz)
    have hop2 : ∀ W, Tab W → SlL W (some ⟨gB, 0, none⟩) (J.hb ⟨Bc, Ba, Bu, Bb⟩ s.sz) → Calls Tryd.prog 48 #[.slice (some ⟨gB, 0, none⟩) s.sz s.sz, .int .i64 (J.arb s : Int)] W fun e w' => e = .returned (.agg #[.int .u64 (Bc : Int), .int .i64 (Ba : Int), .int .i64 (Bu : Int), .int .i64 (Bb : Int)]) ∧ Below W.heap.size W w' := fun W hT hW => openHead_ok W hT ⟨Bc, Ba, Bu, Bb⟩ hBo s.sz (J.arb s) gB 0 s.sz hb1 hb2 (Nat.le_refl _) hBu hab hW
    rw [hLB] at RB
    have hBc := hBo.c
    simp only at hBc
    obtain ⟨Z, hz1⟩ : ∃ Z, IntKind.u64.wrap ((Bc : Int) - (Ac : Int)) = Z := ⟨_, rfl⟩
    obtain ⟨Y, hz2⟩ : ∃ Y, IntKind.i64.wrap Z = Y := ⟨_, rfl⟩
    have hzY : Y = (Bc : Int) - (Ac : Int) := by
      have hAc : Ac < 4611686018427387904 := HAC.out
      rw [← hz2, ← hz1, IntKind.wrap_u64, IntKind.wrap_i64]; omega
    clear hXe HX hLB hBo hrd0 hrd1 hBc
    by_cases hlt : Ac < Bc
    · have hlt' : (0 : Int) < Y := by omega
      clear hzY
      have HXF : Hid (X = ⟨Bc, Ba, Bu, Bb⟩) := by show _ = _; rw [HXE.out, if_pos hlt]
      clear hlt HXE
      by_cases hc0 : Ac = 0
      · have e0 : ((Ac : Int) == 0) = true := by rw [hc0]; rfl
        clear hc0
        have TK1 : True := trivial
        go_wp2_with (first
    | (go_at_call 46; have htk := TK1; refine (blank_any _ gA 0 s.sz s.sz _ hal.out (by omega) (SlU.sl (SlU.row RA.out))).mono ?_; rintro e wC ⟨rfl, bC⟩; rw [decide_eq_false hnb.out]; clear htk TK1; have TK2 : True := trivial; have RA2 := RA.out.below bC RA.out.lt; clear RA; have RA := hide RA2; clear RA2; have RB2 := RB.out.below bC RB.out.lt; clear RB; have RB := hide RB2; clear RB2; have fl := FL.out; clear FL; have FL : Hid (RowAt wC w.heap.size 65 #[.pointer (some ⟨D, 0, none⟩)] ∧ RowAt wC (w.heap.size + 1) 67 #[.int .u64 0, .int .i64 0, .int .i64 0, .int .i64 0] ∧ Below w.heap.size w wC) := ⟨fl.1.below bC fl.1.lt, fl.2.1.below bC fl.2.1.lt, fl.2.2.trans (bC.mono fl.2.2.size)⟩; clear fl; have cLwC : wC.cell? ⟨w.heap.size, 0, none⟩ = some (.pointer (some ⟨D, 0, none⟩)) := FL.out.1.cell 0; clear bC cLwB)
    | (go_at_call 35; have htk := TK2; refine (hab1 _ (HD.out.below FL.out.2.2 (Nat.le_refl _))).mono ?_; rintro e wE ⟨rfl, bE⟩; clear htk TK2; have TK3 : True := trivial; have RA2 := RA.out.below bE RA.out.lt; clear RA; have RA := hide RA2; clear RA2; have RB2 := RB.out.below bE RB.out.lt; clear RB; have RB := hide RB2; clear RB2; have fl := FL.out; clear FL; have FL : Hid (RowAt wE w.heap.size 65 #[.pointer (some ⟨D, 0, none⟩)] ∧ RowAt wE (w.heap.size + 1) 67 #[.int .u64 0, .int .i64 0, .int .i64 0, .int .i64 0] ∧ Below w.heap.size w wE) := ⟨fl.1.below bE fl.1.lt, fl.2.1.below bE fl.2.1.lt, fl.2.2.trans (bE.mono fl.2.2.size)⟩; clear fl; have cLwE : wE.cell? ⟨w.heap.size, 0, none⟩ = some (.pointer (some ⟨D, 0, none⟩)) := FL.out.1.cell 0; clear bE cLwC)
    | (go_at_call 48; have htk := TK3; refine (hop _ (HT.out.below FL.out.2.2 hpos) (SlU.sl (SlU.row RA.out))).mono ?_; rintro e wF ⟨rfl, bF⟩; clear htk TK3; have RA2 := RA.out.below bF RA.out.lt; clear RA; have RA := hide RA2; clear RA2; have RB2 := RB.out.below bF RB.out.lt; clear RB; have RB := hide RB2; clear RB2; have fl := FL.out; clear FL; have FL : Hid (RowAt wF w.heap.size 65 #[.pointer (some ⟨D, 0, none⟩)] ∧ RowAt wF (w.heap.size + 1) 67 #[.int .u64 0, .int .i64 0, .int .i64 0, .int .i64 0] ∧ Below w.heap.size w wF) := ⟨fl.1.below bF fl.1.lt, fl.2.1.below bF fl.2.1.lt, fl.2.2.trans (bF.mono fl.2.2.size)⟩; clear fl; have cLwF : wF.cell? ⟨w.heap.size, 0, none⟩ = some (.pointer (some ⟨D, 0, none⟩)) := FL.out.1.cell 0; have cAF : ∀ o : Obj, (wF.alloc o).cell? ⟨w.heap.size, 0, none⟩ = some (.pointer (some ⟨D, 0, none⟩)) := fun o => (FL.out.1.alloc o).cell 0; clear bF cLwE)
    | fail)
        have RF : Hid (RowAt (wF.alloc (.cells #[.int .u64 (Ac : Int), .int .i64 (Aa : Int), .int .i64 (Au : Int), .int .i64 (Ab : Int)] 67)) wF.heap.size 67 #[.int .u64 (Ac : Int), .int .i64 (Aa : Int), .int .i64 (Au : Int), .int .i64 (Ab : Int)]) := RowAt.new wF _ _
        have bG := (Below.refl wF.heap.size wF).alloc (Nat.le_refl _) (.cells #[.int .u64 (Ac : Int), .int .i64 (Aa : Int), .int .i64 (Au : Int), .int .i64 (Ab : Int)] 67)
        have zF : w.heap.size + 1 < wF.heap.size := FL.out.2.1.lt
        generalize wF.alloc (.cells #[.int .u64 (Ac : Int), .int .i64 (Aa : Int), .int .i64 (Au : Int), .int .i64 (Ab : Int)] 67) = wG at RF bG ⊢
        have RA2 := RA.out.below bG RA.out.lt
        clear RA
        have RA := hide RA2
        clear RA2
        have RB2 := RB.out.below bG RB.out.lt
        clear RB
        have RB := hide RB2
        clear RB2
        have fl := FL.out
        clear FL
        have FL : Hid (RowAt wG w.heap.size 65 #[.pointer (some ⟨D, 0, none⟩)] ∧ RowAt wG (w.heap.size + 1) 67 #[.int .u64 0, .int .i64 0, .int .i64 0, .int .i64 0] ∧ Below w.heap.size w wG) := ⟨fl.1.below bG fl.1.lt, fl.2.1.below bG fl.2.1.lt, fl.2.2.trans (bG.mono fl.2.2.size)⟩
        clear fl
        have cLwG : wG.cell? ⟨w.heap.size, 0, none⟩ = some (.pointer (some ⟨D, 0, none⟩)) := FL.out.1.cell 0
        generalize wF.heap.size = gh at RF zF ⊢
        clear bG cLwF cAF
        refine (blank_any wG gB 0 s.sz s.sz _ hbl.out (by omega) (SlU.sl (SlU.row RB.out))).mono ?_
        rintro e wH ⟨rfl, bH⟩
        rw [decide_eq_false hnB.out]
        have RF2 := RF.out.below bH RF.out.lt
        clear RF
        have RF := hide RF2
        clear RF2
        have RB2 := RB.out.below bH RB.out.lt
        clear RB
        have RB := hide RB2
        clear RB2
        have fl := FL.out
        clear FL
        have FL : Hid (RowAt wH w.heap.size 65 #[.pointer (some ⟨D, 0, none⟩)] ∧ RowAt wH (w.heap.size + 1) 67 #[.int .u64 0, .int .i64 0, .int .i64 0, .int .i64 0] ∧ Below w.heap.size w wH) := ⟨fl.1.below bH fl.1.lt, fl.2.1.below bH fl.2.1.lt, fl.2.2.trans (bH.mono fl.2.2.size)⟩
        clear fl
        have cLwH : wH.cell? ⟨w.heap.size, 0, none⟩ = some (.pointer (some ⟨D, 0, none⟩)) := FL.out.1.cell 0
        clear bH cLwG
        go_wp2_with fail
        refine (hab1 _ (HD.out.below FL.out.2.2 (Nat.le_refl _))).mono ?_
        rintro e wI ⟨rfl, bI⟩
        have RF2 := RF.out.below bI RF.out.lt
        clear RF
        have RF := hide RF2
        clear RF2
        have RB2 := RB.out.below bI RB.out.lt
        clear RB
        have RB := hide RB2
        clear RB2
        have fl := FL.out
        clear FL
        have FL : Hid (RowAt wI w.heap.size 65 #[.pointer (some ⟨D, 0, none⟩)] ∧ RowAt wI (w.heap.size + 1) 67 #[.int .u64 0, .int .i64 0, .int .i64 0, .int .i64 0] ∧ Below w.heap.size w wI) := ⟨fl.1.below bI fl.1.lt, fl.2.1.below bI fl.2.1.lt, fl.2.2.trans (bI.mono fl.2.2.size)⟩
        clear fl
        have cLwI : wI.cell? ⟨w.heap.size, 0, none⟩ = some (.pointer (some ⟨D, 0, none⟩)) := FL.out.1.cell 0
        clear bI
        go_wp2_with fail
        refine (hop2 _ (HT.out.below FL.out.2.2 hpos) (SlU.sl (SlU.row RB.out))).mono ?_
        rintro e wK ⟨rfl, bK⟩
        have RF2 := RF.out.below bK RF.out.lt
        clear RF
        have RF := hide RF2
        clear RF2
        have fl := FL.out
        clear FL
        have FL : Hid (RowAt wK w.heap.size 65 #[.pointer (some ⟨D, 0, none⟩)] ∧ RowAt wK (w.heap.size + 1) 67 #[.int .u64 0, .int .i64 0, .int .i64 0, .int .i64 0] ∧ Below w.heap.size w wK) := ⟨fl.1.below bK fl.1.lt, fl.2.1.below bK fl.2.1.lt, fl.2.2.trans (bK.mono fl.2.2.size)⟩
        clear fl
        have cLwK : wK.cell? ⟨w.heap.size, 0, none⟩ = some (.pointer (some ⟨D, 0, none⟩)) := FL.out.1.cell 0
        have r0 : ∀ o : Obj, (wK.alloc o).cell? ⟨gh, 0, none⟩ = some (.int .u64 (Ac : Int)) := fun o => (RF.out.alloc o).cell 0
        have r1 : ∀ o : Obj, (wK.alloc o).cell? ⟨gh, 1, none⟩ = some (.int .i64 (Aa : Int)) := fun o => (RF.out.alloc o).cell 1
        have r2 : ∀ o : Obj, (wK.alloc o).cell? ⟨gh, 2, none⟩ = some (.int .i64 (Au : Int)) := fun o => (RF.out.alloc o).cell 2
        have r3 : ∀ o : Obj, (wK.alloc o).cell? ⟨gh, 3, none⟩ = some (.int .i64 (Ab : Int)) := fun o => (RF.out.alloc o).cell 3
        have q0 : ∀ o : Obj, (wK.alloc o).cell? ⟨w.heap.size + 1, 0, none⟩ = some (.int .u64 0) := fun o => (FL.out.2.1.alloc o).cell 0
        have q1 : ∀ o : Obj, (wK.alloc o).cell? ⟨w.heap.size + 1, 1, none⟩ = some (.int .i64 0) := fun o => (FL.out.2.1.alloc o).cell 1
        have q2 : ∀ o : Obj, (wK.alloc o).cell? ⟨w.heap.size + 1, 2, none⟩ = some (.int .i64 0) := fun o => (FL.out.2.1.alloc o).cell 2
        have q3 : ∀ o : Obj, (wK.alloc o).cell? ⟨w.heap.size + 1, 3, none⟩ = some (.int .i64 0) := fun o => (FL.out.2.1.alloc o).cell 3
        have f0 : ∀ o : Obj, (wK.alloc o).frozen? ⟨w.heap.size + 1, 0, none⟩ = false := fun o => (FL.out.2.1.alloc o).frozen 0
        have f1 : ∀ o : Obj, (wK.alloc o).frozen? ⟨w.heap.size + 1, 1, none⟩ = false := fun o => (FL.out.2.1.alloc o).frozen 1
        have f2 : ∀ o : Obj, (wK.alloc o).frozen? ⟨w.heap.size + 1, 2, none⟩ = false := fun o => (FL.out.2.1.alloc o).frozen 2
        have f3 : ∀ o : Obj, (wK.alloc o).frozen? ⟨w.heap.size + 1, 3, none⟩ = false := fun o => (FL.out.2.1.alloc o).frozen 3
        clear bK hop hop2 hab1
        go_wp2
        obtain ⟨w5, hw5, R5, BB5, _⟩ := four_sets (FL.out.2.1.alloc (.cells #[.int .u64 (Bc : Int), .int .i64 (Ba : Int), .int .i64 (Bu : Int), .int .i64 (Bb : Int)] 67)) rfl (Bc : Int) (Ba : Int) (Bu : Int) (Bb : Int)
        rw [show (((((wK.alloc (.cells #[.int .u64 (Bc : Int), .int .i64 (Ba : Int), .int .i64 (Bu : Int), .int .i64 (Bb : Int)] 67)).setCell ⟨w.heap.size + 1, 0, none⟩ (.int .u64 (Bc : Int))).setCell ⟨w.heap.size + 1, 1, none⟩ (.int .i64 (Ba : Int))).setCell ⟨w.heap.size + 1, 2, none⟩ (.int .i64 (Bu : Int))).setCell ⟨w.heap.size + 1, 3, none⟩ (.int .i64 (Bb : Int))) = w5 from hw5.symm]
        exact bodyPost_ret (v := .agg #[.int .u64 (Bc : Int), .int .i64 (Ba : Int), .int .i64 (Bu : Int), .int .i64 (Bb : Int)]) (results_cell_row Tryd.results31 _ _ (w.heap.size + 1) 67 _ (0, 0) _ rfl R5 Tryd.underlying67 rfl (by exact infoHead)) rfl ⟨by rw [HXF.out]; rfl, (FL.out.2.2.alloc FL.out.2.2.size _).trans (BB5.mono (Nat.le_succ _))⟩
      · have e0 : ((Ac : Int) == 0) = false := by simp; omega
        clear hc0
        have TK1 : True := trivial
        go_wp2_with (first
    | (go_at_call 46; have htk := TK1; refine (blank_any _ gA 0 s.sz s.sz _ hal.out (by omega) (SlU.sl (SlU.row RA.out))).mono ?_; rintro e wC ⟨rfl, bC⟩; rw [decide_eq_false hnb.out]; clear htk TK1; have TK2 : True := trivial; have RA2 := RA.out.below bC RA.out.lt; clear RA; have RA := hide RA2; clear RA2; have RB2 := RB.out.below bC RB.out.lt; clear RB; have RB := hide RB2; clear RB2; have fl := FL.out; clear FL; have FL : Hid (RowAt wC w.heap.size 65 #[.pointer (some ⟨D, 0, none⟩)] ∧ RowAt wC (w.heap.size + 1) 67 #[.int .u64 0, .int .i64 0, .int .i64 0, .int .i64 0] ∧ Below w.heap.size w wC) := ⟨fl.1.below bC fl.1.lt, fl.2.1.below bC fl.2.1.lt, fl.2.2.trans (bC.mono fl.2.2.size)⟩; clear fl; have cLwC : wC.cell? ⟨w.heap.size, 0, none⟩ = some (.pointer (some ⟨D, 0, none⟩)) := FL.out.1.cell 0; clear bC cLwB)
    | (go_at_call 35; have htk := TK2; refine (hab1 _ (HD.out.below FL.out.2.2 (Nat.le_refl _))).mono ?_; rintro e wE ⟨rfl, bE⟩; clear htk TK2; have TK3 : True := trivial; have RA2 := RA.out.below bE RA.out.lt; clear RA; have RA := hide RA2; clear RA2; have RB2 := RB.out.below bE RB.out.lt; clear RB; have RB := hide RB2; clear RB2; have fl := FL.out; clear FL; have FL : Hid (RowAt wE w.heap.size 65 #[.pointer (some ⟨D, 0, none⟩)] ∧ RowAt wE (w.heap.size + 1) 67 #[.int .u64 0, .int .i64 0, .int .i64 0, .int .i64 0] ∧ Below w.heap.size w wE) := ⟨fl.1.below bE fl.1.lt, fl.2.1.below bE fl.2.1.lt, fl.2.2.trans (bE.mono fl.2.2.size)⟩; clear fl; have cLwE : wE.cell? ⟨w.heap.size, 0, none⟩ = some (.pointer (some ⟨D, 0, none⟩)) := FL.out.1.cell 0; clear bE cLwC)
    | (go_at_call 48; have htk := TK3; refine (hop _ (HT.out.below FL.out.2.2 hpos) (SlU.sl (SlU.row RA.out))).mono ?_; rintro e wF ⟨rfl, bF⟩; clear htk TK3; have RA2 := RA.out.below bF RA.out.lt; clear RA; have RA := hide RA2; clear RA2; have RB2 := RB.out.below bF RB.out.lt; clear RB; have RB := hide RB2; clear RB2; have fl := FL.out; clear FL; have FL : Hid (RowAt wF w.heap.size 65 #[.pointer (some ⟨D, 0, none⟩)] ∧ RowAt wF (w.heap.size + 1) 67 #[.int .u64 0, .int .i64 0, .int .i64 0, .int .i64 0] ∧ Below w.heap.size w wF) := ⟨fl.1.below bF fl.1.lt, fl.2.1.below bF fl.2.1.lt, fl.2.2.trans (bF.mono fl.2.2.size)⟩; clear fl; have cLwF : wF.cell? ⟨w.heap.size, 0, none⟩ = some (.pointer (some ⟨D, 0, none⟩)) := FL.out.1.cell 0; have cAF : ∀ o : Obj, (wF.alloc o).cell? ⟨w.heap.size, 0, none⟩ = some (.pointer (some ⟨D, 0, none⟩)) := fun o => (FL.out.1.alloc o).cell 0; clear bF cLwE)
    | fail)
        have RF : Hid (RowAt (wF.alloc (.cells #[.int .u64 (Ac : Int), .int .i64 (Aa : Int), .int .i64 (Au : Int), .int .i64 (Ab : Int)] 67)) wF.heap.size 67 #[.int .u64 (Ac : Int), .int .i64 (Aa : Int), .int .i64 (Au : Int), .int .i64 (Ab : Int)]) := RowAt.new wF _ _
        have bG := (Below.refl wF.heap.size wF).alloc (Nat.le_refl _) (.cells #[.int .u64 (Ac : Int), .int .i64 (Aa : Int), .int .i64 (Au : Int), .int .i64 (Ab : Int)] 67)
        have zF : w.heap.size + 1 < wF.heap.size := FL.out.2.1.lt
        generalize wF.alloc (.cells #[.int .u64 (Ac : Int), .int .i64 (Aa : Int), .int .i64 (Au : Int), .int .i64 (Ab : Int)] 67) = wG at RF bG ⊢
        have RA2 := RA.out.below bG RA.out.lt
        clear RA
        have RA := hide RA2
        clear RA2
        have RB2 := RB.out.below bG RB.out.lt
        clear RB
        have RB := hide RB2
        clear RB2
        have fl := FL.out
        clear FL
        have FL : Hid (RowAt wG w.heap.size 65 #[.pointer (some ⟨D, 0, none⟩)] ∧ RowAt wG (w.heap.size + 1) 67 #[.int .u64 0, .int .i64 0, .int .i64 0, .int .i64 0] ∧ Below w.heap.size w wG) := ⟨fl.1.below bG fl.1.lt, fl.2.1.below bG fl.2.1.lt, fl.2.2.trans (bG.mono fl.2.2.size)⟩
        clear fl
        have cLwG : wG.cell? ⟨w.heap.size, 0, none⟩ = some (.pointer (some ⟨D, 0, none⟩)) := FL.out.1.cell 0
        generalize wF.heap.size = gh at RF zF ⊢
        clear bG cLwF cAF
        refine (hab1 _ (HD.out.below FL.out.2.2 (Nat.le_refl _))).mono ?_
        rintro e wI ⟨rfl, bI⟩
        have RF2 := RF.out.below bI RF.out.lt
        clear RF
        have RF := hide RF2
        clear RF2
        have RB2 := RB.out.below bI RB.out.lt
        clear RB
        have RB := hide RB2
        clear RB2
        have fl := FL.out
        clear FL
        have FL : Hid (RowAt wI w.heap.size 65 #[.pointer (some ⟨D, 0, none⟩)] ∧ RowAt wI (w.heap.size + 1) 67 #[.int .u64 0, .int .i64 0, .int .i64 0, .int .i64 0] ∧ Below w.heap.size w wI) := ⟨fl.1.below bI fl.1.lt, fl.2.1.below bI fl.2.1.lt, fl.2.2.trans (bI.mono fl.2.2.size)⟩
        clear fl
        have cLwI : wI.cell? ⟨w.heap.size, 0, none⟩ = some (.pointer (some ⟨D, 0, none⟩)) := FL.out.1.cell 0
        clear bI
        go_wp2_with fail
        refine (hop2 _ (HT.out.below FL.out.2.2 hpos) (SlU.sl (SlU.row RB.out))).mono ?_
        rintro e wK ⟨rfl, bK⟩
        have RF2 := RF.out.below bK RF.out.lt
        clear RF
        have RF := hide RF2
        clear RF2
        have fl := FL.out
        clear FL
        have FL : Hid (RowAt wK w.heap.size 65 #[.pointer (some ⟨D, 0, none⟩)] ∧ RowAt wK (w.heap.size + 1) 67 #[.int .u64 0, .int .i64 0, .int .i64 0, .int .i64 0] ∧ Below w.heap.size w wK) := ⟨fl.1.below bK fl.1.lt, fl.2.1.below bK fl.2.1.lt, fl.2.2.trans (bK.mono fl.2.2.size)⟩
        clear fl
        have cLwK : wK.cell? ⟨w.heap.size, 0, none⟩ = some (.pointer (some ⟨D, 0, none⟩)) := FL.out.1.cell 0
        have r0 : ∀ o : Obj, (wK.alloc o).cell? ⟨gh, 0, none⟩ = some (.int .u64 (Ac : Int)) := fun o => (RF.out.alloc o).cell 0
        have r1 : ∀ o : Obj, (wK.alloc o).cell? ⟨gh, 1, none⟩ = some (.int .i64 (Aa : Int)) := fun o => (RF.out.alloc o).cell 1
        have r2 : ∀ o : Obj, (wK.alloc o).cell? ⟨gh, 2, none⟩ = some (.int .i64 (Au : Int)) := fun o => (RF.out.alloc o).cell 2
        have r3 : ∀ o : Obj, (wK.alloc o).cell? ⟨gh, 3, none⟩ = some (.int .i64 (Ab : Int)) := fun o => (RF.out.alloc o).cell 3
        have q0 : ∀ o : Obj, (wK.alloc o).cell? ⟨w.heap.size + 1, 0, none⟩ = some (.int .u64 0) := fun o => (FL.out.2.1.alloc o).cell 0
        have q1 : ∀ o : Obj, (wK.alloc o).cell? ⟨w.heap.size + 1, 1, none⟩ = some (.int .i64 0) := fun o => (FL.out.2.1.alloc o).cell 1
        have q2 : ∀ o : Obj, (wK.alloc o).cell? ⟨w.heap.size + 1, 2, none⟩ = some (.int .i64 0) := fun o => (FL.out.2.1.alloc o).cell 2
        have q3 : ∀ o : Obj, (wK.alloc o).cell? ⟨w.heap.size + 1, 3, none⟩ = some (.int .i64 0) := fun o => (FL.out.2.1.alloc o).cell 3
        have f0 : ∀ o : Obj, (wK.alloc o).frozen? ⟨w.heap.size + 1, 0, none⟩ = false := fun o => (FL.out.2.1.alloc o).frozen 0
        have f1 : ∀ o : Obj, (wK.alloc o).frozen? ⟨w.heap.size + 1, 1, none⟩ = false := fun o => (FL.out.2.1.alloc o).frozen 1
        have f2 : ∀ o : Obj, (wK.alloc o).frozen? ⟨w.heap.size + 1, 2, none⟩ = false := fun o => (FL.out.2.1.alloc o).frozen 2
        have f3 : ∀ o : Obj, (wK.alloc o).frozen? ⟨w.heap.size + 1, 3, none⟩ = false := fun o => (FL.out.2.1.alloc o).frozen 3
        clear bK hop hop2 hab1
        go_wp2
        obtain ⟨w5, hw5, R5, BB5, _⟩ := four_sets (FL.out.2.1.alloc (.cells #[.int .u64 (Bc : Int), .int .i64 (Ba : Int), .int .i64 (Bu : Int), .int .i64 (Bb : Int)] 67)) rfl (Bc : Int) (Ba : Int) (Bu : Int) (Bb : Int)
        rw [show (((((wK.alloc (.cells #[.int .u64 (Bc : Int), .int .i64 (Ba : Int), .int .i64 (Bu : Int), .int .i64 (Bb : Int)] 67)).setCell ⟨w.heap.size + 1, 0, none⟩ (.int .u64 (Bc : Int))).setCell ⟨w.heap.size + 1, 1, none⟩ (.int .i64 (Ba : Int))).setCell ⟨w.heap.size + 1, 2, none⟩ (.int .i64 (Bu : Int))).setCell ⟨w.heap.size + 1, 3, none⟩ (.int .i64 (Bb : Int))) = w5 from hw5.symm]
        exact bodyPost_ret (v := .agg #[.int .u64 (Bc : Int), .int .i64 (Ba : Int), .int .i64 (Bu : Int), .int .i64 (Bb : Int)]) (results_cell_row Tryd.results31 _ _ (w.heap.size + 1) 67 _ (0, 0) _ rfl R5 Tryd.underlying67 rfl (by exact infoHead)) rfl ⟨by rw [HXF.out]; rfl, (FL.out.2.2.alloc FL.out.2.2.size _).trans (BB5.mono (Nat.le_succ _))⟩
    · have hlt' : ¬ (0 : Int) < Y := by omega
      clear hzY
      have HXF : Hid (X = ⟨Ac, Aa, Au, Ab⟩) := by show _ = _; rw [HXE.out, if_neg hlt]
      clear hlt HXE
      by_cases hc0 : Ac = 0
      · have e0 : ((Ac : Int) == 0) = true := by rw [hc0]; rfl
        clear hc0
        have TK1 : True := trivial
        go_wp2_with (first
    | (go_at_call 46; have htk := TK1; refine (blank_any _ gA 0 s.sz s.sz _ hal.out (by omega) (SlU.sl (SlU.row RA.out))).mono ?_; rintro e wC ⟨rfl, bC⟩; rw [decide_eq_false hnb.out]; clear htk TK1; have TK2 : True := trivial; have RA2 := RA.out.below bC RA.out.lt; clear RA; have RA := hide RA2; clear RA2; have RB2 := RB.out.below bC RB.out.lt; clear RB; have RB := hide RB2; clear RB2; have fl := FL.out; clear FL; have FL : Hid (RowAt wC w.heap.size 65 #[.pointer (some ⟨D, 0, none⟩)] ∧ RowAt wC (w.heap.size + 1) 67 #[.int .u64 0, .int .i64 0, .int .i64 0, .int .i64 0] ∧ Below w.heap.size w wC) := ⟨fl.1.below bC fl.1.lt, fl.2.1.below bC fl.2.1.lt, fl.2.2.trans (bC.mono fl.2.2.size)⟩; clear fl; have cLwC : wC.cell? ⟨w.heap.size, 0, none⟩ = some (.pointer (some ⟨D, 0, none⟩)) := FL.out.1.cell 0; clear bC cLwB)
    | (go_at_call 35; have htk := TK2; refine (hab1 _ (HD.out.below FL.out.2.2 (Nat.le_refl _))).mono ?_; rintro e wE ⟨rfl, bE⟩; clear htk TK2; have TK3 : True := trivial; have RA2 := RA.out.below bE RA.out.lt; clear RA; have RA := hide RA2; clear RA2; have RB2 := RB.out.below bE RB.out.lt; clear RB; have RB := hide RB2; clear RB2; have fl := FL.out; clear FL; have FL : Hid (RowAt wE w.heap.size 65 #[.pointer (some ⟨D, 0, none⟩)] ∧ RowAt wE (w.heap.size + 1) 67 #[.int .u64 0, .int .i64 0, .int .i64 0, .int .i64 0] ∧ Below w.heap.size w wE) := ⟨fl.1.below bE fl.1.lt, fl.2.1.below bE fl.2.1.lt, fl.2.2.trans (bE.mono fl.2.2.size)⟩; clear fl; have cLwE : wE.cell? ⟨w.heap.size, 0, none⟩ = some (.pointer (some ⟨D, 0, none⟩)) := FL.out.1.cell 0; clear bE cLwC)
    | (go_at_call 48; have htk := TK3; refine (hop _ (HT.out.below FL.out.2.2 hpos) (SlU.sl (SlU.row RA.out))).mono ?_; rintro e wF ⟨rfl, bF⟩; clear htk TK3; have RA2 := RA.out.below bF RA.out.lt; clear RA; have RA := hide RA2; clear RA2; have RB2 := RB.out.below bF RB.out.lt; clear RB; have RB := hide RB2; clear RB2; have fl := FL.out; clear FL; have FL : Hid (RowAt wF w.heap.size 65 #[.pointer (some ⟨D, 0, none⟩)] ∧ RowAt wF (w.heap.size + 1) 67 #[.int .u64 0, .int .i64 0, .int .i64 0, .int .i64 0] ∧ Below w.heap.size w wF) := ⟨fl.1.below bF fl.1.lt, fl.2.1.below bF fl.2.1.lt, fl.2.2.trans (bF.mono fl.2.2.size)⟩; clear fl; have cLwF : wF.cell? ⟨w.heap.size, 0, none⟩ = some (.pointer (some ⟨D, 0, none⟩)) := FL.out.1.cell 0; have cAF : ∀ o : Obj, (wF.alloc o).cell? ⟨w.heap.size, 0, none⟩ = some (.pointer (some ⟨D, 0, none⟩)) := fun o => (FL.out.1.alloc o).cell 0; clear bF cLwE)
    | fail)
        have RF : Hid (RowAt (wF.alloc (.cells #[.int .u64 (Ac : Int), .int .i64 (Aa : Int), .int .i64 (Au : Int), .int .i64 (Ab : Int)] 67)) wF.heap.size 67 #[.int .u64 (Ac : Int), .int .i64 (Aa : Int), .int .i64 (Au : Int), .int .i64 (Ab : Int)]) := RowAt.new wF _ _
        have bG := (Below.refl wF.heap.size wF).alloc (Nat.le_refl _) (.cells #[.int .u64 (Ac : Int), .int .i64 (Aa : Int), .int .i64 (Au : Int), .int .i64 (Ab : Int)] 67)
        have zF : w.heap.size + 1 < wF.heap.size := FL.out.2.1.lt
        generalize wF.alloc (.cells #[.int .u64 (Ac : Int), .int .i64 (Aa : Int), .int .i64 (Au : Int), .int .i64 (Ab : Int)] 67) = wG at RF bG ⊢
        have RA2 := RA.out.below bG RA.out.lt
        clear RA
        have RA := hide RA2
        clear RA2
        have RB2 := RB.out.below bG RB.out.lt
        clear RB
        have RB := hide RB2
        clear RB2
        have fl := FL.out
        clear FL
        have FL : Hid (RowAt wG w.heap.size 65 #[.pointer (some ⟨D, 0, none⟩)] ∧ RowAt wG (w.heap.size + 1) 67 #[.int .u64 0, .int .i64 0, .int .i64 0, .int .i64 0] ∧ Below w.heap.size w wG) := ⟨fl.1.below bG fl.1.lt, fl.2.1.below bG fl.2.1.lt, fl.2.2.trans (bG.mono fl.2.2.size)⟩
        clear fl
        have cLwG : wG.cell? ⟨w.heap.size, 0, none⟩ = some (.pointer (some ⟨D, 0, none⟩)) := FL.out.1.cell 0
        generalize wF.heap.size = gh at RF zF ⊢
        clear bG cLwF cAF
        refine (blank_any wG gB 0 s.sz s.sz _ hbl.out (by omega) (SlU.sl (SlU.row RB.out))).mono ?_
        rintro e wH ⟨rfl, bH⟩
        rw [decide_eq_false hnB.out]
        have RF2 := RF.out.below bH RF.out.lt
        clear RF
        have RF := hide RF2
        clear RF2
        have RB2 := RB.out.below bH RB.out.lt
        clear RB
        have RB := hide RB2
        clear RB2
        have fl := FL.out
        clear FL
        have FL : Hid (RowAt wH w.heap.size 65 #[.pointer (some ⟨D, 0, none⟩)] ∧ RowAt wH (w.heap.size + 1) 67 #[.int .u64 0, .int .i64 0, .int .i64 0, .int .i64 0] ∧ Below w.heap.size w wH) := ⟨fl.1.below bH fl.1.lt, fl.2.1.below bH fl.2.1.lt, fl.2.2.trans (bH.mono fl.2.2.size)⟩
        clear fl
        have cLwH : wH.cell? ⟨w.heap.size, 0, none⟩ = some (.pointer (some ⟨D, 0, none⟩)) := FL.out.1.cell 0
        clear bH cLwG
        go_wp2_with fail
        refine (hab1 _ (HD.out.below FL.out.2.2 (Nat.le_refl _))).mono ?_
        rintro e wI ⟨rfl, bI⟩
        have RF2 := RF.out.below bI RF.out.lt
        clear RF
        have RF := hide RF2
        clear RF2
        have RB2 := RB.out.below bI RB.out.lt
        clear RB
        have RB := hide RB2
        clear RB2
        have fl := FL.out
        clear FL
        have FL : Hid (RowAt wI w.heap.size 65 #[.pointer (some ⟨D, 0, none⟩)] ∧ RowAt wI (w.heap.size + 1) 67 #[.int .u64 0, .int .i64 0, .int .i64 0, .int .i64 0] ∧ Below w.heap.size w wI) := ⟨fl.1.below bI fl.1.lt, fl.2.1.below bI fl.2.1.lt, fl.2.2.trans (bI.mono fl.2.2.size)⟩
        clear fl
        have cLwI : wI.cell? ⟨w.heap.size, 0, none⟩ = some (.pointer (some ⟨D, 0, none⟩)) := FL.out.1.cell 0
        clear bI
        go_wp2_with fail
        refine (hop2 _ (HT.out.below FL.out.2.2 hpos) (SlU.sl (SlU.row RB.out))).mono ?_
        rintro e wK ⟨rfl, bK⟩
        have RF2 := RF.out.below bK RF.out.lt
        clear RF
        have RF := hide RF2
        clear RF2
        have fl := FL.out
        clear FL
        have FL : Hid (RowAt wK w.heap.size 65 #[.pointer (some ⟨D, 0, none⟩)] ∧ RowAt wK (w.heap.size + 1) 67 #[.int .u64 0, .int .i64 0, .int .i64 0, .int .i64 0] ∧ Below w.heap.size w wK) := ⟨fl.1.below bK fl.1.lt, fl.2.1.below bK fl.2.1.lt, fl.2.2.trans (bK.mono fl.2.2.size)⟩
        clear fl
        have cLwK : wK.cell? ⟨w.heap.size, 0, none⟩ = some (.pointer (some ⟨D, 0, none⟩)) := FL.out.1.cell 0
        have r0 : ∀ o : Obj, (wK.alloc o).cell? ⟨gh, 0, none⟩ = some (.int .u64 (Ac : Int)) := fun o => (RF.out.alloc o).cell 0
        have r1 : ∀ o : Obj, (wK.alloc o).cell? ⟨gh, 1, none⟩ = some (.int .i64 (Aa : Int)) := fun o => (RF.out.alloc o).cell 1
        have r2 : ∀ o : Obj, (wK.alloc o).cell? ⟨gh, 2, none⟩ = some (.int .i64 (Au : Int)) := fun o => (RF.out.alloc o).cell 2
        have r3 : ∀ o : Obj, (wK.alloc o).cell? ⟨gh, 3, none⟩ = some (.int .i64 (Ab : Int)) := fun o => (RF.out.alloc o).cell 3
        have q0 : ∀ o : Obj, (wK.alloc o).cell? ⟨w.heap.size + 1, 0, none⟩ = some (.int .u64 0) := fun o => (FL.out.2.1.alloc o).cell 0
        have q1 : ∀ o : Obj, (wK.alloc o).cell? ⟨w.heap.size + 1, 1, none⟩ = some (.int .i64 0) := fun o => (FL.out.2.1.alloc o).cell 1
        have q2 : ∀ o : Obj, (wK.alloc o).cell? ⟨w.heap.size + 1, 2, none⟩ = some (.int .i64 0) := fun o => (FL.out.2.1.alloc o).cell 2
        have q3 : ∀ o : Obj, (wK.alloc o).cell? ⟨w.heap.size + 1, 3, none⟩ = some (.int .i64 0) := fun o => (FL.out.2.1.alloc o).cell 3
        have f0 : ∀ o : Obj, (wK.alloc o).frozen? ⟨w.heap.size + 1, 0, none⟩ = false := fun o => (FL.out.2.1.alloc o).frozen 0
        have f1 : ∀ o : Obj, (wK.alloc o).frozen? ⟨w.heap.size + 1, 1, none⟩ = false := fun o => (FL.out.2.1.alloc o).frozen 1
        have f2 : ∀ o : Obj, (wK.alloc o).frozen? ⟨w.heap.size + 1, 2, none⟩ = false := fun o => (FL.out.2.1.alloc o).frozen 2
        have f3 : ∀ o : Obj, (wK.alloc o).frozen? ⟨w.heap.size + 1, 3, none⟩ = false := fun o => (FL.out.2.1.alloc o).frozen 3
        clear bK hop hop2 hab1
        go_wp2
        obtain ⟨w5, hw5, R5, BB5, _⟩ := four_sets (FL.out.2.1.alloc (.cells #[.int .u64 (Bc : Int), .int .i64 (Ba : Int), .int .i64 (Bu : Int), .int .i64 (Bb : Int)] 67)) rfl (Ac : Int) (Aa : Int) (Au : Int) (Ab : Int)
        rw [show (((((wK.alloc (.cells #[.int .u64 (Bc : Int), .int .i64 (Ba : Int), .int .i64 (Bu : Int), .int .i64 (Bb : Int)] 67)).setCell ⟨w.heap.size + 1, 0, none⟩ (.int .u64 (Ac : Int))).setCell ⟨w.heap.size + 1, 1, none⟩ (.int .i64 (Aa : Int))).setCell ⟨w.heap.size + 1, 2, none⟩ (.int .i64 (Au : Int))).setCell ⟨w.heap.size + 1, 3, none⟩ (.int .i64 (Ab : Int))) = w5 from hw5.symm]
        exact bodyPost_ret (v := .agg #[.int .u64 (Ac : Int), .int .i64 (Aa : Int), .int .i64 (Au : Int), .int .i64 (Ab : Int)]) (results_cell_row Tryd.results31 _ _ (w.heap.size + 1) 67 _ (0, 0) _ rfl R5 Tryd.underlying67 rfl (by exact infoHead)) rfl ⟨by rw [HXF.out]; rfl, (FL.out.2.2.alloc FL.out.2.2.size _).trans (BB5.mono (Nat.le_succ _))⟩
      · have e0 : ((Ac : Int) == 0) = false := by simp; omega
        clear hc0
        have TK1 : True := trivial
        go_wp2_with (first
    | (go_at_call 46; have htk := TK1; refine (blank_any _ gA 0 s.sz s.sz _ hal.out (by omega) (SlU.sl (SlU.row RA.out))).mono ?_; rintro e wC ⟨rfl, bC⟩; rw [decide_eq_false hnb.out]; clear htk TK1; have TK2 : True := trivial; have RA2 := RA.out.below bC RA.out.lt; clear RA; have RA := hide RA2; clear RA2; have RB2 := RB.out.below bC RB.out.lt; clear RB; have RB := hide RB2; clear RB2; have fl := FL.out; clear FL; have FL : Hid (RowAt wC w.heap.size 65 #[.pointer (some ⟨D, 0, none⟩)] ∧ RowAt wC (w.heap.size + 1) 67 #[.int .u64 0, .int .i64 0, .int .i64 0, .int .i64 0] ∧ Below w.heap.size w wC) := ⟨fl.1.below bC fl.1.lt, fl.2.1.below bC fl.2.1.lt, fl.2.2.trans (bC.mono fl.2.2.size)⟩; clear fl; have cLwC : wC.cell? ⟨w.heap.size, 0, none⟩ = some (.pointer (some ⟨D, 0, none⟩)) := FL.out.1.cell 0; clear bC cLwB)
    | (go_at_call 35; have htk := TK2; refine (hab1 _ (HD.out.below FL.out.2.2 (Nat.le_refl _))).mono ?_; rintro e wE ⟨rfl, bE⟩; clear htk TK2; have TK3 : True := trivial; have RA2 := RA.out.below bE RA.out.lt; clear RA; have RA := hide RA2; clear RA2; have RB2 := RB.out.below bE RB.out.lt; clear RB; have RB := hide RB2; clear RB2; have fl := FL.out; clear FL; have FL : Hid (RowAt wE w.heap.size 65 #[.pointer (some ⟨D, 0, none⟩)] ∧ RowAt wE (w.heap.size + 1) 67 #[.int .u64 0, .int .i64 0, .int .i64 0, .int .i64 0] ∧ Below w.heap.size w wE) := ⟨fl.1.below bE fl.1.lt, fl.2.1.below bE fl.2.1.lt, fl.2.2.trans (bE.mono fl.2.2.size)⟩; clear fl; have cLwE : wE.cell? ⟨w.heap.size, 0, none⟩ = some (.pointer (some ⟨D, 0, none⟩)) := FL.out.1.cell 0; clear bE cLwC)
    | (go_at_call 48; have htk := TK3; refine (hop _ (HT.out.below FL.out.2.2 hpos) (SlU.sl (SlU.row RA.out))).mono ?_; rintro e wF ⟨rfl, bF⟩; clear htk TK3; have RA2 := RA.out.below bF RA.out.lt; clear RA; have RA := hide RA2; clear RA2; have RB2 := RB.out.below bF RB.out.lt; clear RB; have RB := hide RB2; clear RB2; have fl := FL.out; clear FL; have FL : Hid (RowAt wF w.heap.size 65 #[.pointer (some ⟨D, 0, none⟩)] ∧ RowAt wF (w.heap.size + 1) 67 #[.int .u64 0, .int .i64 0, .int .i64 0, .int .i64 0] ∧ Below w.heap.size w wF) := ⟨fl.1.below bF fl.1.lt, fl.2.1.below bF fl.2.1.lt, fl.2.2.trans (bF.mono fl.2.2.size)⟩; clear fl; have cLwF : wF.cell? ⟨w.heap.size, 0, none⟩ = some (.pointer (some ⟨D, 0, none⟩)) := FL.out.1.cell 0; have cAF : ∀ o : Obj, (wF.alloc o).cell? ⟨w.heap.size, 0, none⟩ = some (.pointer (some ⟨D, 0, none⟩)) := fun o => (FL.out.1.alloc o).cell 0; clear bF cLwE)
    | fail)
        have RF : Hid (RowAt (wF.alloc (.cells #[.int .u64 (Ac : Int), .int .i64 (Aa : Int), .int .i64 (Au : Int), .int .i64 (Ab : Int)] 67)) wF.heap.size 67 #[.int .u64 (Ac : Int), .int .i64 (Aa : Int), .int .i64 (Au : Int), .int .i64 (Ab : Int)]) := RowAt.new wF _ _
        have bG := (Below.refl wF.heap.size wF).alloc (Nat.le_refl _) (.cells #[.int .u64 (Ac : Int), .int .i64 (Aa : Int), .int .i64 (Au : Int), .int .i64 (Ab : Int)] 67)
        have zF : w.heap.size + 1 < wF.heap.size := FL.out.2.1.lt
        generalize wF.alloc (.cells #[.int .u64 (Ac : Int), .int .i64 (Aa : Int), .int .i64 (Au : Int), .int .i64 (Ab : Int)] 67) = wG at RF bG ⊢
        have RA2 := RA.out.below bG RA.out.lt
        clear RA
        have RA := hide RA2
        clear RA2
        have RB2 := RB.out.below bG RB.out.lt
        clear RB
        have RB := hide RB2
        clear RB2
        have fl := FL.out
        clear FL
        have FL : Hid (RowAt wG w.heap.size 65 #[.pointer (some ⟨D, 0, none⟩)] ∧ RowAt wG (w.heap.size + 1) 67 #[.int .u64 0, .int .i64 0, .int .i64 0, .int .i64 0] ∧ Below w.heap.size w wG) := ⟨fl.1.below bG fl.1.lt, fl.2.1.below bG fl.2.1.lt, fl.2.2.trans (bG.mono fl.2.2.size)⟩
        clear fl
        have cLwG : wG.cell? ⟨w.heap.size, 0, none⟩ = some (.pointer (some ⟨D, 0, none⟩)) := FL.out.1.cell 0
        generalize wF.heap.size = gh at RF zF ⊢
        clear bG cLwF cAF
        refine (hab1 _ (HD.out.below FL.out.2.2 (Nat.le_refl _))).mono ?_
        rintro e wI ⟨rfl, bI⟩
        have RF2 := RF.out.below bI RF.out.lt
        clear RF
        have RF := hide RF2
        clear RF2
        have RB2 := RB.out.below bI RB.out.lt
        clear RB
        have RB := hide RB2
        clear RB2
        have fl := FL.out
        clear FL
        have FL : Hid (RowAt wI w.heap.size 65 #[.pointer (some ⟨D, 0, none⟩)] ∧ RowAt wI (w.heap.size + 1) 67 #[.int .u64 0, .int .i64 0, .int .i64 0, .int .i64 0] ∧ Below w.heap.size w wI) := ⟨fl.1.below bI fl.1.lt, fl.2.1.below bI fl.2.1.lt, fl.2.2.trans (bI.mono fl.2.2.size)⟩
        clear fl
        have cLwI : wI.cell? ⟨w.heap.size, 0, none⟩ = some (.pointer (some ⟨D, 0, none⟩)) := FL.out.1.cell 0
        clear bI
        go_wp2_with fail
        refine (hop2 _ (HT.out.below FL.out.2.2 hpos) (SlU.sl (SlU.row RB.out))).mono ?_
        rintro e wK ⟨rfl, bK⟩
        have RF2 := RF.out.below bK RF.out.lt
        clear RF
        have RF := hide RF2
        clear RF2
        have fl := FL.out
        clear FL
        have FL : Hid (RowAt wK w.heap.size 65 #[.pointer (some ⟨D, 0, none⟩)] ∧ RowAt wK (w.heap.size + 1) 67 #[.int .u64 0, .int .i64 0, .int .i64 0, .int .i64 0] ∧ Below w.heap.size w wK) := ⟨fl.1.below bK fl.1.lt, fl.2.1.below bK fl.2.1.lt, fl.2.2.trans (bK.mono fl.2.2.size)⟩
        clear fl
        have cLwK : wK.cell? ⟨w.heap.size, 0, none⟩ = some (.pointer (some ⟨D, 0, none⟩)) := FL.out.1.cell 0
        have r0 : ∀ o : Obj, (wK.alloc o).cell? ⟨gh, 0, none⟩ = some (.int .u64 (Ac : Int)) := fun o => (RF.out.alloc o).cell 0
        have r1 : ∀ o : Obj, (wK.alloc o).cell? ⟨gh, 1, none⟩ = some (.int .i64 (Aa : Int)) := fun o => (RF.out.alloc o).cell 1
        have r2 : ∀ o : Obj, (wK.alloc o).cell? ⟨gh, 2, none⟩ = some (.int .i64 (Au : Int)) := fun o => (RF.out.alloc o).cell 2
        have r3 : ∀ o : Obj, (wK.alloc o).cell? ⟨gh, 3, none⟩ = some (.int .i64 (Ab : Int)) := fun o => (RF.out.alloc o).cell 3
        have q0 : ∀ o : Obj, (wK.alloc o).cell? ⟨w.heap.size + 1, 0, none⟩ = some (.int .u64 0) := fun o => (FL.out.2.1.alloc o).cell 0
        have q1 : ∀ o : Obj, (wK.alloc o).cell? ⟨w.heap.size + 1, 1, none⟩ = some (.int .i64 0) := fun o => (FL.out.2.1.alloc o).cell 1
        have q2 : ∀ o : Obj, (wK.alloc o).cell? ⟨w.heap.size + 1, 2, none⟩ = some (.int .i64 0) := fun o => (FL.out.2.1.alloc o).cell 2
        have q3 : ∀ o : Obj, (wK.alloc o).cell? ⟨w.heap.size + 1, 3, none⟩ = some (.int .i64 0) := fun o => (FL.out.2.1.alloc o).cell 3
        have f0 : ∀ o : Obj, (wK.alloc o).frozen? ⟨w.heap.size + 1, 0, none⟩ = false := fun o => (FL.out.2.1.alloc o).frozen 0
        have f1 : ∀ o : Obj, (wK.alloc o).frozen? ⟨w.heap.size + 1, 1, none⟩ = false := fun o => (FL.out.2.1.alloc o).frozen 1
        have f2 : ∀ o : Obj, (wK.alloc o).frozen? ⟨w.heap.size + 1, 2, none⟩ = false := fun o => (FL.out.2.1.alloc o).frozen 2
        have f3 : ∀ o : Obj, (wK.alloc o).frozen? ⟨w.heap.size + 1, 3, none⟩ = false := fun o => (FL.out.2.1.alloc o).frozen 3
        clear bK hop hop2 hab1
        go_wp2
        obtain ⟨w5, hw5, R5, BB5, _⟩ := four_sets (FL.out.2.1.alloc (.cells #[.int .u64 (Bc : Int), .int .i64 (Ba : Int), .int .i64 (Bu : Int), .int .i64 (Bb : Int)] 67)) rfl (Ac : Int) (Aa : Int) (Au : Int) (Ab : Int)
        rw [show (((((wK.alloc (.cells #[.int .u64 (Bc : Int), .int .i64 (Ba : Int), .int .i64 (Bu : Int), .int .i64 (Bb : Int)] 67)).setCell ⟨w.heap.size + 1, 0, none⟩ (.int .u64 (Ac : Int))).setCell ⟨w.heap.size + 1, 1, none⟩ (.int .i64 (Aa : Int))).setCell ⟨w.heap.size + 1, 2, none⟩ (.int .i64 (Au : Int))).setCell ⟨w.heap.size + 1, 3, none⟩ (.int .i64 (Ab : Int))) = w5 from hw5.symm]
        exact bodyPost_ret (v := .agg #[.int .u64 (Ac : Int), .int .i64 (Aa : Int), .int .i64 (Au : Int), .int .i64 (Ab : Int)]) (results_cell_row Tryd.results31 _ _ (w.heap.size + 1) 67 _ (0, 0) _ rfl R5 Tryd.underlying67 rfl (by exact infoHead)) rfl ⟨by rw [HXF.out]; rfl, (FL.out.2.2.alloc FL.out.2.2.size _).trans (BB5.mono (Nat.le_succ _))⟩
end Go.Proofs.YtidocfajhhpfdaaDoor
