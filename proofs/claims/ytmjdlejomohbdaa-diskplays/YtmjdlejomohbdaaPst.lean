/- The law DiskPlays, whole. -/
import Derived.Test.YtmjdlejomohbdaaPin
namespace Go.Proofs.Ytmjdlejomohbdaa
open Go.RowKit
set_option maxRecDepth 5000 in
theorem owns_row {w : World} {base : Nat} {e : TypeId} {v : Value} {n : Nat} {xs : List Value} (h : w.ownsRow base e 1 v n xs) (hn : 1 ≤ n) : ∃ g cap cur, v = .slice (some ⟨g, 0, none⟩) n cap ∧ base ≤ g ∧ RowAt w g e cur ∧ ∀ i, i < n → cur[i]? = xs[i]? := by
  rcases h.2 with ⟨_, e⟩ | ⟨g, cap, cur, e1, h1, h2, h3, h4, h5, h6⟩
  · omega
  · refine ⟨g, cap, cur, e1, h1, h2, fun i hi => ?_⟩
    rw [← h6, List.getElem?_take, Nat.mul_one, if_pos hi]
    simp
set_option maxRecDepth 5000 in
theorem MI.pw {base MM Z N B D S M : Nat} {w0 wb w : World} {cM : Array Value} (h : MI base MM Z N wb w) (hN : 1 ≤ N) (hd : DiskAt (fun _ => False) wb D S M (K.St.new N Z)) (hwb : wb.heap.size = base) (hrow : RowAt wb MM 31 cM) (hbel : Below B w0 wb) (_bB : B ≤ base) (bD : B ≤ D) (bS : B ≤ S) (bM : B ≤ M) (bMM : B ≤ MM) :
    ∃ ML MS MF, PW B w0 D S M MM ML MS MF (K.St.new N Z) (fun _ => List.replicate Z 0) (fun _ => List.replicate Z 0) (fun _ => false) false false 0 w := by
  obtain ⟨lv, sv, fv, Ls, Ss, hr, hl, hs, hf, bl, bs, ne⟩ := h.st
  obtain ⟨ML, cl, c1, e1, b1, r1, g1⟩ := owns_row hl hN
  obtain ⟨MS, cs, c2, e2, b2, r2, g2⟩ := owns_row hs hN
  obtain ⟨MF, cf, c3, e3, b3, r3, g3⟩ := owns_row hf hN
  subst e1; subst e2; subst e3
  obtain ⟨sv0, uv0, hk⟩ := hd
  have hD := hk.row.lt
  have hS := hk.sure.lt
  have hM := hk.un.lt
  rw [hwb] at hD hS hM
  have hlL : Ls.length = N := by simpa using hl.1
  have hlS : Ss.length = N := by simpa using hs.1
  have hdw : DiskAt (fun _ => False) w D S M (K.St.new N Z) := ⟨sv0, uv0, hk.keepA (by rw [hwb]; exact h.size) (h.block D hD (fun e => hrow.ne hk.row tm6 e.symm)) (h.block S hS (fun e => hrow.ne hk.sure tm1 e.symm)) (h.block M hM (fun e => hk.un.row_ne hrow e.symm)) (fun g c _ hg => (h.block g (by have := hg.lt; rw [hwb] at this; exact this) (fun e => hrow.ne hg tm3 e.symm)).trans hg)⟩
  have hel : ∀ (Xs : List Value), Xs.length = N → (∀ v ∈ Xs, Blk w v Z (List.replicate Z 0)) → ∀ c : Array Value, (∀ i, i < N → c[i]? = Xs[i]?) → ∀ i, i < N → c[i]? = some (Xs.getD i undef) ∧ Blk w (Xs.getD i undef) Z (List.replicate Z 0) := fun Xs hX hB c hc i hi => by
    have h1 : Xs[i]? = some (Xs.getD i undef) := by simp [hX, hi]
    exact ⟨(hc i hi).trans h1, hB _ (List.mem_of_getElem? h1)⟩
  refine ⟨ML, MS, MF, hdw, ⟨⟨cl, cs, cf, hr⟩, ⟨c1, fun i => Ls.getD i undef, r1, hel Ls hlL bl c1 g1⟩, ⟨c2, fun i => Ss.getD i undef, r2, hel Ss hlS bs c2 g2⟩, ⟨c3, r3, fun i hi => ?_⟩⟩, ?_, bD, bS, bM, bMM, by omega, by omega, by omega, fun e => ne ML rfl (by rw [e]; rfl), by omega, by omega⟩
  · rw [g3 i hi]
    have hi' : i < N := hi
    simp [hi']
  · exact ⟨h.os.trans hbel.os, h.tape.trans hbel.tape, h.output.trans hbel.output, Nat.le_trans hbel.size (by rw [hwb]; exact h.size), fun g hg => (h.block g (by omega) (by omega)).trans (hbel.block g hg)⟩
set_option maxRecDepth 5000 in
theorem agr_new (N Z : Nat) : Agr (K.St.new N Z) (fun _ => List.replicate Z 0) (fun _ => List.replicate Z 0) (fun _ => false) false false 0 :=
  ⟨fun _ _ => rfl, fun _ _ => rfl, fun _ _ => rfl, rfl, rfl, fun e => (by cases e), by omega, by omega⟩
set_option maxHeartbeats 2000000 in
set_option maxRecDepth 100000 in
theorem rest_any {ao : Option Addr} {na ca : Nat} {n z : Int} {D S M MM ML MS MF base Z N : Nat} {w0 wb : World} {a : Act} {w : World} (Q : Exit → Act → World → Prop) (hacts : Acts w0 ao na) (hna : na ≤ 60) (hmax : max z 64 = (Z : Int)) (h : JI ao na ca n z D MM base Z N N wb a w)
    (hP : PW w0.heap.size w0 D S M MM ML MS MF (K.St.new N Z) (fun _ => List.replicate Z 0) (fun _ => List.replicate Z 0) (fun _ => false) false false 0 w)
    (hQ : ∀ a w, a.tmps.size = 386 → a.defers = [] → sl a 6 = .bool true → Below w0.heap.size w0 w → Q .ret a w) : cRest.wp Try.prog Q a w := by
  have HQ := hide hQ
  have HP := hide hP
  have g0 := h.s0
  have g1 := h.s1
  have g2 := h.s2
  have g7 := h.s7
  have g8 := h.s8
  rw [fr_of a h.zz h.dd]
  unfold sl at g0 g1 g2 g7 g8
  clear h hQ hP
  generalize hg : (fun i => a.tmps.getD i undef) = g
  have k0 : g 0 = .int .i64 n := by rw [← hg]; exact g0
  have k1 : g 1 = .int .i64 z := by rw [← hg]; exact g1
  have k2 : g 2 = .slice ao na ca := by rw [← hg]; exact g2
  have k7 : g 7 = .pointer (some ⟨D, 0, none⟩) := by rw [← hg]; exact g7
  have k8 : g 8 = .pointer (some ⟨MM, 0, none⟩) := by rw [← hg]; exact g8
  clear g0 g1 g2 g7 g8 hg
  unfold Fr
  rw [k0, k1, k2, k7, k8]
  clear k0 k1 k2 k7 k8
  have e : cRest = .seq (cL cRest) (.seq (.seq (cL (cL (cR cRest))) cMain) (cR (cR cRest))) := by kernel_rfl
  rw [e]
  clear e
  obtain ⟨cl, cs, cf, hrw⟩ := HP.out.md.row
  have m0 : w.cell? ⟨MM, 0, none⟩ = some (.slice (some ⟨ML, 0, none⟩) N cl) := hrw.cell 0
  have hse : ∀ q, Calls Try.prog 9 #[.pointer (some ⟨D, 0, none⟩)] (w.drewN q) fun e w' => e = .returned (.int .i64 (N : Int)) ∧ w' = w.drewN q := fun q => sectors_any (w.drewN q) D S M _ (HP.out.drewN q).dk
  have hsi : ∀ q, Calls Try.prog 10 #[.pointer (some ⟨D, 0, none⟩)] (w.drewN q) fun e w' => e = .returned (.int .i64 (Z : Int)) ∧ w' = w.drewN q := fun q => size_any (w.drewN q) D S M _ (HP.out.drewN q).dk
  clear hrw
  refine wp_seq ?_
  conv => arg 2; whnf
  go_wp2
  go_quiet ((first | (go_at_call 9; exact Calls.quiet_of_same (hse _)) | (go_at_call 10; exact Calls.quiet_of_same (hsi _))))
  have HP2 := hide (HP.out.drewN nq)
  generalize w.drewN nq = w2 at HP2 ⊢
  clear m0 hse hsi
  go_wp2
  conv => arg 2; whnf
  go_wp2
  refine cut_mono _ (main_any (ca := ca) hacts hna ⟨rfl, rfl, rfl, rfl, D, S, M, MM, ML, MS, MF, K.St.new N Z, _, _, _, false, false, 0, rfl, rfl, HP2.out, agr_new N Z⟩) (fun a' w' hJE => ?_)
  rename_i hK
  apply hK
  rw [fr_of a' hJE.z hJE.d]
  generalize (fun i => a'.tmps.getD i undef) = g2
  unfold Fr
  have hb := hJE.bel
  clear hK hJE HP HP2
  conv => arg 2; whnf
  go_wp2
  exact HQ.out _ _ rfl rfl rfl hb
end Go.Proofs.Ytmjdlejomohbdaa
