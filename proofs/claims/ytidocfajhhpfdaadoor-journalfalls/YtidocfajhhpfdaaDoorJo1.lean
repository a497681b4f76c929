/- Open's inside. -/
import Derived.Test.YtidocfajhhpfdaaDoorJop
namespace Go.Proofs.YtidocfajhhpfdaaDoor
open Go.RowKit
/- what Open's inside has at hand -/
structure OpW (D bj bJ bl be : Nat) (h : J.H) (v : Value) (W : World) : Prop where
  cj : RowAt W bj 31 #[.pointer (some ⟨bJ, 0, none⟩)]
  jr : RowAt W bJ 69 (jrow D h false)
  cl : RowAt W bl 32 #[v]
  ce : RowAt W be 33 #[.int .i64 0]
set_option maxRecDepth 5000 in
theorem OpW.below {D bj bJ bl be : Nat} {h : J.H} {v : Value} {w w' : World} (hw : OpW D bj bJ bl be h v w) (hb : Below w.heap.size w w') : OpW D bj bJ bl be h v w' := ⟨hw.cj.below hb hw.cj.lt, hw.jr.below hb hw.jr.lt, hw.cl.below hb hw.cl.lt, hw.ce.below hb hw.ce.lt⟩
set_option maxRecDepth 5000 in
theorem OpW.mv {D S M bj bJ bl be B : Nat} {h : J.H} {v : Value} {w w' : World} (hw : OpW D bj bJ bl be h v w) (hm : Mv D S M w w') (hD : D < B) (hS : S < B) (hM : M < B) (h1 : B ≤ bj) (h2 : B ≤ bJ) (h3 : B ≤ bl) (h4 : B ≤ be) : OpW D bj bJ bl be h v w' :=
  ⟨hm.row hw.cj (by omega) (by omega) (by omega), hm.row hw.jr (by omega) (by omega) (by omega), hm.row hw.cl (by omega) (by omega) (by omega), hm.row hw.ce (by omega) (by omega) (by omega)⟩
set_option maxRecDepth 5000 in
theorem Tab.mvw {D S M : Nat} {w0 w w' : World} (h : Tab w) (h0 : Mv D S M w0 w) (hm : Mv D S M w0 w') (hp : 0 < w0.heap.size ∧ 0 < D ∧ 0 < S ∧ 0 < M) : Tab w' :=
  ⟨Nat.lt_of_lt_of_le hp.1 hm.size, fun i hi => by
    have e1 := h0.block 0 hp.1 (by omega) (by omega) (by omega)
    have e2 := hm.block 0 hp.1 (by omega) (by omega) (by omega)
    have := h.2 i hi
    unfold World.cell? at this ⊢
    rw [e2, ← e1]; exact this⟩
set_option maxRecDepth 5000 in
theorem OwnBs.slice {w : World} {base : Nat} {v : Value} {L : List (List UInt8)} (h : OwnBs w base v L) : ∃ a c, v = .slice a L.length c := by
  obtain ⟨vs, h, _⟩ := h
  rcases h.2 with ⟨rfl, e⟩ | ⟨g, cap, cur, rfl, _⟩
  · exact ⟨none, 0, by rw [e]⟩
  · exact ⟨_, _, rfl⟩
set_option maxRecDepth 5000 in
theorem OwnBs.kept {w w' : World} {base : Nat} {v : Value} {L : List (List UInt8)} (h : OwnBs w base v L) (hz : w.heap.size ≤ w'.heap.size) (hk : ∀ (g : Nat) (o : Obj), w.heap[g]? = some o → ((∃ c fr, o = .cells c 5 fr) ∨ (base ≤ g ∧ ∃ c fr, o = .cells c 22 fr)) → w'.heap[g]? = w.heap[g]?) : OwnBs w' base v L := by
  obtain ⟨vs, h1, h2⟩ := h
  refine ⟨vs, ⟨h1.1, ?_⟩, h2.kb ⟨hz, fun g cs fr hg => (hk g _ hg (Or.inl ⟨cs, fr, rfl⟩)).trans hg⟩⟩
  rcases h1.2 with h3 | ⟨g, cap, cur, e, h3, h4, h5⟩
  · exact Or.inl h3
  · exact Or.inr ⟨g, cap, cur, e, h3, (hk g _ h4 (Or.inr ⟨h3, cur, _, rfl⟩)).trans h4, h5⟩
set_option maxRecDepth 5000 in
theorem OwnBs.low {w : World} {B B' : Nat} {v : Value} {L : List (List UInt8)} (h : OwnBs w B v L) (hb : B' ≤ B) : OwnBs w B' v L := by
  obtain ⟨vs, h1, h2⟩ := h
  refine ⟨vs, ⟨h1.1, ?_⟩, h2⟩
  rcases h1.2 with h3 | ⟨g, cap, cur, e, h3, h4⟩
  · exact Or.inl h3
  · exact Or.inr ⟨g, cap, cur, e, by omega, h4⟩
set_option maxHeartbeats 4000000 in
set_option maxRecDepth 5000 in
theorem opn1_ok (w0 w : World) (ht : Tab w) (D S M bj bJ bl be : Nat) (s s1 : K.St) (H : J.H) (hH : HOk H) (fs : List (Nat × List UInt8)) (hB0 : Mv D S M w0 w) (hD : D < w0.heap.size) (hS : S < w0.heap.size) (hM : M < w0.heap.size) (h1 : w0.heap.size ≤ bj) (h2 : w0.heap.size ≤ bJ) (h3 : w0.heap.size ≤ bl) (h4 : w0.heap.size ≤ be)
    (hw : OpW D bj bJ bl be ⟨0, 0, 0, 0⟩ (.slice none 0 0) w) (hd : DiskAt FF w D S M s) (hT0 : 0 < w0.heap.size ∧ 0 < D ∧ 0 < S ∧ 0 < M)
    (hnew : ∀ W, Tab W → DiskAt FF W D S M s → Calls Tryd.prog 31 #[.agg #[.pointer (some ⟨D, 0, none⟩)]] W fun e w' => e = .returned (.agg (hrow H)) ∧ DiskAt FF w' D S M s1 ∧ Mv D S M W w')
    (hp : Pw s1) (hn : 8 ≤ s1.n) (hHu : H.u ≤ J.arb s1) (henc : (J.cat s1 (2 + H.a * J.ars s1) (J.ars s1)).take H.u = J.enc fs) (hul : (J.enc fs).length = H.u) (hri : J.Ri 0 fs H.b) :
    Calls Tryd.prog 30 #[.pointer (some ⟨bj, 0, none⟩), .pointer (some ⟨bl, 0, none⟩)] w fun e w' => e = .returned (.tuple #[]) ∧ ∃ v M', OpW D bj bJ bl be H v w' ∧ DiskAt FF w' D S M' s1.synced ∧ Mv D S M w0 w' ∧ w0.heap.size ≤ M' ∧ OwnBs w' w0.heap.size v (J.dec fs H.b) := by
  have x0 : w.cell? ⟨bj, 0, none⟩ = some (.pointer (some ⟨bJ, 0, none⟩)) := hw.cj.cell 0
  have x1 : w.cell? ⟨bJ, 0, none⟩ = some (.pointer (some ⟨D, 0, none⟩)) := hw.jr.cell 0
  have HW := hide hw
  have HD := hide hd
  have HT := hide ht
  have HB0 := hide hB0
  obtain ⟨Hc, Ha, Hu, Hb⟩ := H
  unfold hrow at hnew
  simp only at hnew hHu henc hul hri
  have HEN := hide henc
  have HUL := hide hul
  have HRI := hide hri
  have HP := hide hp
  have HOK := hide hH
  clear hw hd ht hB0 henc hul hri hp hH
  go_enter Tryd.func30, Tryd.ntmps30
  go_wp2
  go_region_held3 (fun w' => w'.cell? ⟨bj, 0, none⟩ = some (.pointer (some ⟨bJ, 0, none⟩)) ∧ w'.cell? ⟨bJ, 0, none⟩ = some (.pointer (some ⟨D, 0, none⟩))) (first | exact ⟨x0, x1⟩ | exact ⟨y0, y1⟩ | exact ⟨((((W2.out.cj.other _ _ (W2.out.jr.ne W2.out.cj (by decide)).symm).other _ _ (W2.out.jr.ne W2.out.cj (by decide)).symm).other _ _ (W2.out.jr.ne W2.out.cj (by decide)).symm).other _ _ (W2.out.jr.ne W2.out.cj (by decide)).symm).cell 0, ((((W2.out.jr.set 1 _).set 2 _).set 3 _).set 4 _).cell 0⟩ | fail) (first
    | (go_at_call 31; refine (hnew _ (by exact HT.out) (by first | exact HD.out | exact DiskAt.drewN HD.out _)).mono ?_; rintro e w2 ⟨rfl, D2, M2⟩; have M2a : Mv D S M w w2 := ⟨M2.os, M2.tape, M2.output, M2.size, M2.block⟩; have W2 := hide (HW.out.mv M2a hD hS hM h1 h2 h3 h4); have DD2 := hide D2; have MM2 := hide M2a; have y0 : w2.cell? ⟨bj, 0, none⟩ = some (.pointer (some ⟨bJ, 0, none⟩)) := W2.out.cj.cell 0; have y1 : w2.cell? ⟨bJ, 0, none⟩ = some (.pointer (some ⟨D, 0, none⟩)) := W2.out.jr.cell 0; have q1 : w2.cell? ⟨bJ, 1, none⟩ = some (.int .u64 0) := W2.out.jr.cell 1; have q2 : w2.cell? ⟨bJ, 2, none⟩ = some (.int .i64 0) := W2.out.jr.cell 2; have q3 : w2.cell? ⟨bJ, 3, none⟩ = some (.int .i64 0) := W2.out.jr.cell 3; have q4 : w2.cell? ⟨bJ, 4, none⟩ = some (.int .i64 0) := W2.out.jr.cell 4; have f1 := W2.out.jr.frozen 1; have f2 := W2.out.jr.frozen 2; have f3 := W2.out.jr.frozen 3; have f4 := W2.out.jr.frozen 4; clear D2 M2 M2a))
  have hne := (W2.out.jr.ne W2.out.cj (by decide)).symm
  have hnl := (W2.out.jr.ne W2.out.cl (by decide)).symm
  have hnx := (W2.out.jr.ne W2.out.ce (by decide)).symm
  have W3 : Hid (OpW D bj bJ bl be ⟨Hc, Ha, Hu, Hb⟩ (.slice none 0 0) ((((w2.setCell ⟨bJ, 1, none⟩ (.int .u64 (Hc : Int))).setCell ⟨bJ, 2, none⟩ (.int .i64 (Ha : Int))).setCell ⟨bJ, 3, none⟩ (.int .i64 (Hu : Int))).setCell ⟨bJ, 4, none⟩ (.int .i64 (Hb : Int)))) := ⟨(((W2.out.cj.other _ _ hne).other _ _ hne).other _ _ hne).other _ _ hne, (((W2.out.jr.set 1 (.int .u64 (Hc : Int))).set 2 (.int .i64 (Ha : Int))).set 3 (.int .i64 (Hu : Int))).set 4 (.int .i64 (Hb : Int)), (((W2.out.cl.other _ _ hnl).other _ _ hnl).other _ _ hnl).other _ _ hnl, (((W2.out.ce.other _ _ hnx).other _ _ hnx).other _ _ hnx).other _ _ hnx⟩
  have b3 : Below bJ w2 ((((w2.setCell ⟨bJ, 1, none⟩ (.int .u64 (Hc : Int))).setCell ⟨bJ, 2, none⟩ (.int .i64 (Ha : Int))).setCell ⟨bJ, 3, none⟩ (.int .i64 (Hu : Int))).setCell ⟨bJ, 4, none⟩ (.int .i64 (Hb : Int))) := ((((Below.refl bJ w2).setCell (p := ⟨bJ, 1, none⟩) (Nat.le_refl bJ) _).setCell (p := ⟨bJ, 2, none⟩) (Nat.le_refl bJ) _).setCell (p := ⟨bJ, 3, none⟩) (Nat.le_refl bJ) _).setCell (p := ⟨bJ, 4, none⟩) (Nat.le_refl bJ) _
  have k3 : Rows w2 ((((w2.setCell ⟨bJ, 1, none⟩ (.int .u64 (Hc : Int))).setCell ⟨bJ, 2, none⟩ (.int .i64 (Ha : Int))).setCell ⟨bJ, 3, none⟩ (.int .i64 (Hu : Int))).setCell ⟨bJ, 4, none⟩ (.int .i64 (Hb : Int))) := fun g' c' hg' => by
    have hn' := (W2.out.jr.ne hg' (by decide)).symm
    exact (((hg'.other _ _ hn').other _ _ hn').other _ _ hn').other _ _ hn'
  have D3 := hide (DD2.out.keptB b3 k3 (by omega) (by omega) (by omega))
  have MM3 := hide ((HB0.out.trans MM2.out (Or.inl rfl)).belowB b3 h2)
  clear W2 DD2 MM2 y0 y1 q1 q2 q3 q4 f1 f2 f3 f4 k3 b3 hne hnl hnx x0 x1 hnew
  generalize ((((w2.setCell ⟨bJ, 1, none⟩ (.int .u64 (Hc : Int))).setCell ⟨bJ, 2, none⟩ (.int .i64 (Ha : Int))).setCell ⟨bJ, 3, none⟩ (.int .i64 (Hu : Int))).setCell ⟨bJ, 4, none⟩ (.int .i64 (Hb : Int))) = w3 at W3 D3 MM3 ⊢
  have T3 := hide (HT.out.mvw HB0.out MM3.out hT0)
  have z3 : w0.heap.size ≤ w3.heap.size := MM3.out.size
  have c0 : w3.cell? ⟨bj, 0, none⟩ = some (.pointer (some ⟨bJ, 0, none⟩)) := W3.out.cj.cell 0
  have c1 : w3.cell? ⟨bJ, 0, none⟩ = some (.pointer (some ⟨D, 0, none⟩)) := W3.out.jr.cell 0
  have c2 : w3.cell? ⟨bJ, 2, none⟩ = some (.int .i64 (Ha : Int)) := W3.out.jr.cell 2
  have c3 : w3.cell? ⟨bJ, 3, none⟩ = some (.int .i64 (Hu : Int)) := W3.out.jr.cell 3
  have c4 : w3.cell? ⟨bJ, 4, none⟩ = some (.int .i64 (Hb : Int)) := W3.out.jr.cell 4
  have hsb : ∀ W, DiskAt FF W D S M s1 → Calls Tryd.prog 33 #[.agg #[.pointer (some ⟨D, 0, none⟩)], .int .i64 (Ha : Int), .int .i64 (Hu : Int)] W fun e w' => ∃ ao c, e = .returned (.slice ao Hu c) ∧ Hu ≤ c ∧ (ao = none → Hu = 0 ∧ c = 0) ∧ (∀ ad, ao = some ad → ∃ g, ad = ⟨g, 0, none⟩) ∧ SlL w' ao (J.enc fs) ∧ Below W.heap.size W w' := fun W hW => by
    have := sbytes_ok W D S M s1 hW HP.out.1 hn Ha HOK.out.a Hu hHu
    rw [HEN.out] at this; exact this
  have hu9 : Hu ≤ 1000000000 := by have := HOK.out.u; have : J.arb s1 ≤ 4096 * 4096 := (by obtain ⟨_, e2, _, e4⟩ := D3.out.bds; exact Nat.mul_le_mul (by unfold J.ars; omega) e2); omega
  go_wp2
  go_region_held3 (fun w' => w'.cell? ⟨bj, 0, none⟩ = some (.pointer (some ⟨bJ, 0, none⟩)) ∧ w'.cell? ⟨bJ, 0, none⟩ = some (.pointer (some ⟨D, 0, none⟩)) ∧ w'.cell? ⟨bJ, 2, none⟩ = some (.int .i64 (Ha : Int)) ∧ w'.cell? ⟨bJ, 3, none⟩ = some (.int .i64 (Hu : Int)) ∧ w'.cell? ⟨bJ, 4, none⟩ = some (.int .i64 (Hb : Int))) (first | exact ⟨c0, c1, c2, c3, c4⟩ | exact cc5.out | exact cc6.out _ | exact cc4.out | fail) (first
    | (go_at_call 33; refine (hsb _ (by first | exact D3.out | exact DiskAt.drewN D3.out _)).mono ?_; rintro e w4 ⟨ao, ca, rfl, ha1, ha2, ha3, ha4, b4⟩; have b4a := below_rx (w := w3) b4 rfl rfl rfl rfl; have W4 := hide (W3.out.below b4a); have D4 := hide (D3.out.below b4a (Nat.le_refl _)); have MM4 := hide (MM3.out.belowB b4a z3); have T4 := hide (T3.out.below b4a (Nat.lt_of_lt_of_le hT0.1 z3)); have HA1 := hide ha1; have HA2 := hide ha2; have HA3 := hide ha3; have HA4 := hide ha4; have cc4 := hide (And.intro (W4.out.cj.cell 0) (And.intro (W4.out.jr.cell 0) (And.intro (W4.out.jr.cell 2) (And.intro (W4.out.jr.cell 3) (W4.out.jr.cell 4))))); have z4 : w0.heap.size ≤ w4.heap.size := MM4.out.size; clear b4 b4a ha1 ha2 ha3 ha4)
    | (go_at_call 32; refine (openFrames_at _ (by exact T4.out) ao Hu ca Hb fs HUL.out HRI.out HOK.out.b hu9 HA1.out (by exact HA4.out) HA2.out HA3.out).mono ?_; rintro e w5 ⟨v5, rfl, O5, b5⟩; have b5a := below_rx (w := w4) b5 rfl rfl rfl rfl; have W5 := hide (W4.out.below b5a); have D5 := hide (D4.out.below b5a (Nat.le_refl _)); have MM5 := hide (MM4.out.belowB b5a z4); have O5a : OwnBs w5 w4.heap.size v5 (J.dec fs Hb) := O5; obtain ⟨a5, n5, hv5⟩ := O5a.slice; have HO5 := hide O5a; have l0 : w5.cell? ⟨bl, 0, none⟩ = some (.slice none 0 0) := W5.out.cl.cell 0; have lf := W5.out.cl.frozen 0; have hn5 := (W5.out.jr.ne W5.out.cl (by decide)); have hn6 := (W5.out.cj.ne W5.out.cl (by decide)); have cc5 := hide (And.intro (W5.out.cj.cell 0) (And.intro (W5.out.jr.cell 0) (And.intro (W5.out.jr.cell 2) (And.intro (W5.out.jr.cell 3) (W5.out.jr.cell 4))))); have cc6 : Hid (∀ u, _ ∧ _ ∧ _ ∧ _ ∧ _) := fun u => (And.intro ((W5.out.cj.other ⟨bl, 0, none⟩ u hn6).cell 0) (And.intro ((W5.out.jr.other ⟨bl, 0, none⟩ u hn5).cell 0) (And.intro ((W5.out.jr.other ⟨bl, 0, none⟩ u hn5).cell 2) (And.intro ((W5.out.jr.other ⟨bl, 0, none⟩ u hn5).cell 3) ((W5.out.jr.other ⟨bl, 0, none⟩ u hn5).cell 4))))); rw [hv5]; rw [hv5] at HO5; clear O5 O5a b5 b5a hv5))
  have W6 : Hid (OpW D bj bJ bl be ⟨Hc, Ha, Hu, Hb⟩ (.slice a5 (J.dec fs Hb).length n5) (w5.setCell ⟨bl, 0, none⟩ (.slice a5 (J.dec fs Hb).length n5))) := ⟨W5.out.cj.other _ _ hn6, W5.out.jr.other _ _ hn5, W5.out.cl.set 0 (.slice a5 (J.dec fs Hb).length n5), W5.out.ce.other _ _ (W5.out.cl.ne W5.out.ce (by decide)).symm⟩
  have b6 : Below bl w5 (w5.setCell ⟨bl, 0, none⟩ (.slice a5 (J.dec fs Hb).length n5)) := (Below.refl bl w5).setCell (p := ⟨bl, 0, none⟩) (Nat.le_refl bl) _
  have k6 : Rows w5 (w5.setCell ⟨bl, 0, none⟩ (.slice a5 (J.dec fs Hb).length n5)) := fun g' c' hg' => hg'.other _ _ (W5.out.cl.ne hg' (by decide)).symm
  have D6 := hide (D5.out.keptB b6 k6 (by omega) (by omega) (by omega))
  have MM6 := hide (MM5.out.belowB b6 h3)
  have O6 : Hid (OwnBs (w5.setCell ⟨bl, 0, none⟩ (.slice a5 (J.dec fs Hb).length n5)) w4.heap.size (.slice a5 (J.dec fs Hb).length n5) (J.dec fs Hb)) := HO5.out.kept (by simp) (fun g o ho hb => heap_setCell_other _ _ _ _ (fun e => by
    have h9 := W5.out.cl
    unfold RowAt at h9
    rw [show g = bl from e, h9] at ho
    injection ho with ho
    rcases hb with ⟨c, fr, hb⟩ | ⟨_, c, fr, hb⟩
    · rw [hb] at ho; injection ho with _ ho _; exact absurd ho (by decide)
    · rw [hb] at ho; injection ho with _ ho _; exact absurd ho (by decide)))
  clear W5 D5 MM5 HO5 l0 lf hn5 hn6 cc4 cc5 cc6 b6 k6
  generalize w5.setCell ⟨bl, 0, none⟩ (.slice a5 (J.dec fs Hb).length n5) = w6 at W6 D6 MM6 O6 ⊢
  have d0 : w6.cell? ⟨bj, 0, none⟩ = some (.pointer (some ⟨bJ, 0, none⟩)) := W6.out.cj.cell 0
  have d1 : w6.cell? ⟨bJ, 0, none⟩ = some (.pointer (some ⟨D, 0, none⟩)) := W6.out.jr.cell 0
  have hsy := ssync_ok w6 D S M s1 D6.out HP.out
  unfold stv at hsy
  go_wp2_with (go_at_call 34; refine hsy.mono ?_; rintro e w7 ⟨rfl, M', D7, M7, z7⟩; have DD7 := hide D7; have MM7 := hide M7; have ZZ7 := hide z7; clear D7 M7 z7)
  go_end0
  refine ⟨rfl, _, M', W6.out.mv MM7.out hD hS hM h1 h2 h3 h4, DD7.out, MM6.out.trans MM7.out (Or.inl rfl), Nat.le_trans MM6.out.size ZZ7.out, ?_⟩
  refine (O6.out.kept MM7.out.size (fun g o ho hb => ?_)).low z4
  have hlt : g < w6.heap.size := (Array.getElem?_eq_some_iff.1 ho).1
  obtain ⟨sv, uv, hkk⟩ := D6.out
  rcases hb with ⟨c, fr, rfl⟩ | ⟨hbg, c, fr, rfl⟩
  · refine MM7.out.block g hlt (fun e => ?_) (fun e => ?_) (hkk.un.row_ne ho)
    · have := hkk.row; unfold RowAt at this; rw [e, this] at ho; injection ho with ho; injection ho with _ ho _; exact absurd ho (by decide)
    · have := hkk.sure; unfold RowAt at this; rw [e, this] at ho; injection ho with ho; injection ho with _ ho _; exact absurd ho (by decide)
  · exact MM7.out.block g hlt (by omega) (by omega) (by omega)
end Go.Proofs.YtidocfajhhpfdaaDoor
