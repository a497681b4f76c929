/- The law DiskPlays: what holds between its pieces; the codes of the pieces; the first piece. -/
import Derived.Test.YtmjdlejomohbdaaMdl
namespace Go.Proofs.Ytmjdlejomohbdaa
open Go.RowKit
noncomputable def cA : Code := cR (cR (cR cF))
noncomputable def cInit : Code := cL (cR (cR (cR cA)))
noncomputable def cRest : Code := cR (cR (cR (cR cA)))
noncomputable def cMain : Code := cR (cL (cR cRest))
noncomputable def cBody : Code := cB (cB cMain)
noncomputable def cWork : Code := cB (cL (cR cBody))
noncomputable def cSw : Code := cL (cR (cR (cR cWork)))
noncomputable def cTail : Code := cR (cR (cR (cR cWork)))
/- all that is below B is as it was; the disk is sd; the model says L, O, Fh .. -/
structure PW (B : Nat) (w0 : World) (D S M MM ML MS MF : Nat) (sd : K.St) (L O : Nat → List UInt8) (Fh : Nat → Bool) (dead armed : Bool) (mn : Int) (w : World) : Prop where
  dk : DiskAt (fun _ => False) w D S M sd
  md : Md w MM ML MS MF sd.n sd.sz L O Fh dead armed mn
  bel : Below B w0 w
  bD : B ≤ D
  bS : B ≤ S
  bM : B ≤ M
  bMM : B ≤ MM
  bML : B ≤ ML
  bMS : B ≤ MS
  bMF : B ≤ MF
  n1 : ML ≠ MS
  n2 : ML ≠ S
  n3 : MS ≠ S
section
variable {B : Nat} {w0 w w' : World} {D S M MM ML MS MF : Nat} {sd : K.St} {L O : Nat → List UInt8} {Fh : Nat → Bool} {dead armed : Bool} {mn : Int}
set_option maxRecDepth 5000 in
theorem PW.lt (h : PW B w0 D S M MM ML MS MF sd L O Fh dead armed mn w) : B ≤ w.heap.size := by
  obtain ⟨cl, cs, cf, hr⟩ := h.md.row
  exact Nat.le_trans h.bMM (Nat.le_of_lt hr.lt)
set_option maxRecDepth 5000 in
theorem PW.below (h : PW B w0 D S M MM ML MS MF sd L O Fh dead armed mn w) (hb : Below w.heap.size w w') : PW B w0 D S M MM ML MS MF sd L O Fh dead armed mn w' :=
  ⟨h.dk.below hb (Nat.le_refl _), h.md.below hb (Nat.le_refl _), h.bel.trans (hb.mono h.lt), h.bD, h.bS, h.bM, h.bMM, h.bML, h.bMS, h.bMF, h.n1, h.n2, h.n3⟩
set_option maxRecDepth 5000 in
theorem PW.drew (h : PW B w0 D S M MM ML MS MF sd L O Fh dead armed mn w) : PW B w0 D S M MM ML MS MF sd L O Fh dead armed mn w.drew := h.below ⟨rfl, rfl, rfl, Nat.le_refl _, fun _ _ => rfl⟩
set_option maxRecDepth 5000 in
theorem PW.drewN (h : PW B w0 D S M MM ML MS MF sd L O Fh dead armed mn w) (k : Nat) : PW B w0 D S M MM ML MS MF sd L O Fh dead armed mn (w.drewN k) := h.below ⟨rfl, rfl, rfl, Nat.le_refl _, fun _ _ => rfl⟩
set_option maxRecDepth 5000 in
theorem PW.mv {M' : Nat} {sd' : K.St} (h : PW B w0 D S M MM ML MS MF sd L O Fh dead armed mn w) (hd : DiskAt (fun _ => False) w' D S M' sd') (hm : Mv D S M w w') (e1 : sd'.n = sd.n) (e2 : sd'.sz = sd.sz) (hM : B ≤ M') : PW B w0 D S M' MM ML MS MF sd' L O Fh dead armed mn w' :=
  ⟨hd, by rw [e1, e2]; exact h.md.mv h.dk hm h.n2 h.n3, hm.below h.bel h.lt h.bD h.bS h.bM, h.bD, h.bS, hM, h.bMM, h.bML, h.bMS, h.bMF, h.n1, h.n2, h.n3⟩
set_option maxRecDepth 5000 in
theorem PW.setM (h : PW B w0 D S M MM ML MS MF sd L O Fh dead armed mn w) (j : Nat) (v : Value) {dead' armed' : Bool} {mn' : Int} (hm : Md (w.setCell ⟨MM, j, none⟩ v) MM ML MS MF sd.n sd.sz L O Fh dead' armed' mn') : PW B w0 D S M MM ML MS MF sd L O Fh dead' armed' mn' (w.setCell ⟨MM, j, none⟩ v) := by
  obtain ⟨cl, cs, cf, hr⟩ := h.md.row
  obtain ⟨sv, uv, hk⟩ := h.dk
  exact ⟨h.dk.cell hr tm6 (fun e => (hr.ne hk.sure tm1) e) tm3 j v, hm, h.bel.setCell h.bMM _, h.bD, h.bS, h.bM, h.bMM, h.bML, h.bMS, h.bMF, h.n1, h.n2, h.n3⟩
set_option maxRecDepth 5000 in
theorem PW.setL (h : PW B w0 D S M MM ML MS MF sd L O Fh dead armed mn w) {i : Nat} (hi : i < sd.n) {v : Value} {l : List UInt8} (hv : Blk w v sd.sz l) : PW B w0 D S M MM ML MS MF sd (fput L i l) O Fh dead armed mn (w.setCell ⟨ML, i, none⟩ v) := by
  obtain ⟨c1, l1, hr1, hv1⟩ := h.md.rl
  exact ⟨h.dk.cell hr1 (fun e => tne3 e.symm) h.n2 tne2 i v, h.md.setL h.n1 hi hv, h.bel.setCell h.bML _, h.bD, h.bS, h.bM, h.bMM, h.bML, h.bMS, h.bMF, h.n1, h.n2, h.n3⟩
set_option maxRecDepth 5000 in
theorem PW.setS (h : PW B w0 D S M MM ML MS MF sd L O Fh dead armed mn w) {i : Nat} (hi : i < sd.n) {v : Value} {l : List UInt8} (hv : Blk w v sd.sz l) : PW B w0 D S M MM ML MS MF sd L (fput O i l) Fh dead armed mn (w.setCell ⟨MS, i, none⟩ v) := by
  obtain ⟨c1, l1, hr1, hv1⟩ := h.md.rs
  exact ⟨h.dk.cell hr1 (fun e => tne3 e.symm) h.n3 tne2 i v, h.md.setS h.n1 hi hv, h.bel.setCell h.bMS _, h.bD, h.bS, h.bM, h.bMM, h.bML, h.bMS, h.bMF, h.n1, h.n2, h.n3⟩
set_option maxRecDepth 5000 in
theorem PW.setF (h : PW B w0 D S M MM ML MS MF sd L O Fh dead armed mn w) {i : Nat} (hi : i < sd.n) (b : Bool) : PW B w0 D S M MM ML MS MF sd L O (fput Fh i b) dead armed mn (w.setCell ⟨MF, i, none⟩ (.bool b)) := by
  obtain ⟨c1, hr1, hv1⟩ := h.md.rf
  obtain ⟨sv, uv, hk⟩ := h.dk
  exact ⟨h.dk.cell hr1 (fun e => tm7 e.symm) (fun e => hk.sure.ne hr1 tm4 e.symm) tm5 i _, h.md.setF hi b, h.bel.setCell h.bMF _, h.bD, h.bS, h.bM, h.bMM, h.bML, h.bMS, h.bMF, h.n1, h.n2, h.n3⟩
end
/- Place, as a function -/
def plc (k : Int) (n : Nat) : Int := if Int.tmod k (n : Int) < 0 then Int.tmod k (n : Int) + (n : Int) else Int.tmod k (n : Int)
set_option maxRecDepth 5000 in
theorem plc_bounds (k : Int) (n : Nat) (h0 : 0 < n) : 0 ≤ plc k n ∧ plc k n < (n : Int) := by
  have e1 : Int.tmod k (n : Int) < (n : Int) := Int.tmod_lt_of_pos k (by omega)
  have e2 : -(n : Int) < Int.tmod k (n : Int) := by
    have h3 := Int.natAbs_tmod k (n : Int)
    have h4 : k.natAbs % (n : Int).natAbs < n := by rw [Int.natAbs_natCast]; exact Nat.mod_lt _ h0
    omega
  unfold plc
  split <;> omega
set_option maxRecDepth 5000 in
theorem place_is (k : Int) (n : Nat) (w : World) (h0 : 0 < n) (hn : n < 1000000) : Calls Try.prog 7 #[.int .i64 k, .int .i64 (n : Int)] w fun e w' => e = .returned (.int .i64 (plc k n)) ∧ w' = w := by
  have hb := plc_bounds k n h0
  unfold plc at hb ⊢
  have hnz : ¬ ((n : Int) = 0) := by omega
  have hn1 : ¬ ((n : Int) = -1) := by omega
  obtain ⟨t, ht⟩ : ∃ t, Int.tmod k (n : Int) = t := ⟨_, rfl⟩
  rw [ht] at hb ⊢
  by_cases h1 : t < 0
  · rw [if_pos h1] at hb ⊢
    have hw : IntKind.i64.wrap t = t := by rw [IntKind.wrap_i64]; omega
    have q : decide (t < 0) = true := by simpa using h1
    have hw2 : IntKind.i64.wrap (t + (n : Int)) = t + (n : Int) := by rw [IntKind.wrap_i64]; omega
    clear hb
    go_enter Try.func7, Try.ntmps7
    go_wp2
    go_ret
    exact ⟨rfl, rfl⟩
  · rw [if_neg h1] at hb ⊢
    have hw : IntKind.i64.wrap t = t := by rw [IntKind.wrap_i64]; omega
    have q : decide (t < 0) = false := by simpa using h1
    clear hb
    go_enter Try.func7, Try.ntmps7
    go_wp2
    go_ret
    exact ⟨rfl, rfl⟩
def sl (a : Act) (k : Nat) : Value := a.tmps.getD k undef
/- an act of the script in memory -/
structure ActT where
  what : Int
  i : Int
  n : Int
  keep : Nat
  x : UInt8
def actRow (t : ActT) : Array Value := #[.int .i64 t.what, .int .i64 t.i, .int .i64 t.n, .int .u64 (t.keep : Int), .int .u8 (t.x.toNat : Int)]
/- at the head of the loop -/
structure J0 (B : Nat) (w0 : World) (ao : Option Addr) (na ca : Nat) (i : Nat) (a : Act) (w : World) : Prop where
  z : a.tmps.size = 386
  d : a.defers = []
  s2 : sl a 2 = .slice ao na ca
  s10 : sl a 10 = .int .i64 (i : Int)
  st : ∃ D S M MM ML MS MF s L O Fh dead armed mn, sl a 7 = .pointer (some ⟨D, 0, none⟩) ∧ sl a 8 = .pointer (some ⟨MM, 0, none⟩) ∧ PW B w0 D S M MM ML MS MF s L O Fh dead armed mn w ∧ Agr s L O Fh dead armed mn
/- an act is taken -/
structure J1 (B : Nat) (w0 : World) (ao : Option Addr) (na ca : Nat) (i : Nat) (t : ActT) (D S M MM ML MS MF X : Nat) (s : K.St) (L O : Nat → List UInt8) (Fh : Nat → Bool) (dead armed : Bool) (mn : Int) (at_ : Int) (a : Act) (w : World) : Prop where
  z : a.tmps.size = 386
  d : a.defers = []
  s2 : sl a 2 = .slice ao na ca
  s10 : sl a 10 = .int .i64 (i : Int)
  s7 : sl a 7 = .pointer (some ⟨D, 0, none⟩)
  s8 : sl a 8 = .pointer (some ⟨MM, 0, none⟩)
  s11 : sl a 11 = .pointer (some ⟨X, 0, none⟩)
  s12 : sl a 12 = .int .i64 at_
  s13 : sl a 13 = .bool (decide (0 ≤ at_) && decide (at_ < (s.n : Int)))
  pw : PW B w0 D S M MM ML MS MF s L O Fh dead armed mn w
  ag : Agr s L O Fh dead armed mn
  rx : RowAt w X 36 (actRow t)
  b0 : -1 ≤ at_
  b1 : at_ ≤ (s.n : Int)
  bX : B ≤ X
set_option maxHeartbeats 2000000 in
set_option maxRecDepth 100000 in
theorem piece1 {B : Nat} {w0 : World} {ao : Option Addr} {na ca i : Nat} {a : Act} {w : World} (Q : Exit → Act → World → Prop) (t : ActT) (b o : Nat) (hao : ao = some ⟨b, o, none⟩) (hc : ∀ k, k < 5 → w.cell? ⟨b, o + i * 5 + k, none⟩ = (actRow t)[k]?) (hi : i < na) (h : J0 B w0 ao na ca i a w)
    (hQ : ∀ D S M MM ML MS MF X s L O Fh dead armed mn at_ a w, J1 B w0 ao na ca i t D S M MM ML MS MF X s L O Fh dead armed mn at_ a w → (cR (cR (cR cWork))).wp Try.prog Q a w) : cWork.wp Try.prog Q a w := by
  obtain ⟨D, S, M, MM, ML, MS, MF, s, L, O, Fh, dead, armed, mn, h7, h8, hP, hA⟩ := h.st
  have h2 := h.s2
  have h10 := h.s10
  rw [fr_of a h.z h.d]
  unfold sl at h2 h10 h7 h8
  clear h
  have e : cWork = .seq (cL cWork) (.seq (cL (cR cWork)) (.seq (cL (cR (cR cWork))) (cR (cR (cR cWork))))) := by kernel_rfl
  rw [e]
  generalize hg : (fun i => a.tmps.getD i undef) = g
  have k2 : g 2 = .slice ao na ca := by rw [← hg]; exact h2
  have k7 : g 7 = .pointer (some ⟨D, 0, none⟩) := by rw [← hg]; exact h7
  have k8 : g 8 = .pointer (some ⟨MM, 0, none⟩) := by rw [← hg]; exact h8
  have k10 : g 10 = .int .i64 (i : Int) := by rw [← hg]; exact h10
  clear h2 h7 h8 h10 hg
  subst hao
  unfold Fr
  rw [k2, k7, k8, k10]
  clear k2 k7 k8 k10
  have HP := hide hP
  have HA := hide hA
  have HQ := hide hQ
  have q0 : w.cell? ⟨b, o + i * 5, none⟩ = some (.int .i64 t.what) := hc 0 (by omega)
  have q1 : w.cell? ⟨b, o + i * 5 + 1, none⟩ = some (.int .i64 t.i) := hc 1 (by omega)
  have q2 : w.cell? ⟨b, o + i * 5 + 2, none⟩ = some (.int .i64 t.n) := hc 2 (by omega)
  have q3 : w.cell? ⟨b, o + i * 5 + 3, none⟩ = some (.int .u64 (t.keep : Int)) := hc 3 (by omega)
  have q4 : w.cell? ⟨b, o + i * 5 + 4, none⟩ = some (.int .u8 (t.x.toNat : Int)) := hc 4 (by omega)
  clear hc hP hA hQ e
  refine wp_seq ?_
  conv => arg 2; whnf
  go_wp2
  have HP1 := hide (HP.out.below ((Below.refl _ w).alloc (Nat.le_refl _) (.cells (actRow t) 36)))
  have HX1 : Hid (RowAt (w.alloc (.cells (actRow t) 36)) w.heap.size 36 (actRow t)) := RowAt.new w _ _
  have HBX := hide HP.out.lt
  unfold actRow at HP1 HX1
  generalize w.heap.size = X at HX1 HBX ⊢
  generalize (w.alloc _) = W1 at HP1 HX1 ⊢
  obtain ⟨cl, cs, cf, hrw⟩ := HP1.out.md.row
  have x1 : W1.cell? ⟨X, 1, none⟩ = some (.int .i64 t.i) := HX1.out.cell 1
  have m0 : W1.cell? ⟨MM, 0, none⟩ = some (.slice (some ⟨ML, 0, none⟩) s.n cl) := hrw.cell 0
  have x1d : W1.drew.cell? ⟨X, 1, none⟩ = some (.int .i64 t.i) := x1
  have m0d : W1.drew.cell? ⟨MM, 0, none⟩ = some (.slice (some ⟨ML, 0, none⟩) s.n cl) := m0
  have hn4 : s.n ≤ 4096 := by obtain ⟨sv, uv, hk⟩ := HP1.out.dk; exact hk.b4
  have hw2 : IntKind.i64.wrap ((s.n : Int) + 2) = ((s.n + 2 : Nat) : Int) := by rw [IntKind.wrap_i64]; omega
  have hpl := fun W => place_is t.i (s.n + 2) W (by omega) (by omega)
  have hpb := plc_bounds t.i (s.n + 2) (by omega)
  obtain ⟨p, hp⟩ : ∃ p, p = plc t.i (s.n + 2) := ⟨_, rfl⟩
  rw [← hp] at hpl hpb
  clear hp q0 q1 q2 q3 q4 hrw HP
  have hw3 : IntKind.i64.wrap (p - 1) = p - 1 := by rw [IntKind.wrap_i64]; omega
  have HPB := hide hpb
  clear hpb
  conv => arg 2; whnf
  go_quiet ((go_at_call 7; exact Calls.quiet_of_same (hpl _)))
  replace HP1 := hide (HP1.out.drewN nq)
  replace HX1 := hide (HX1.out.drewN nq)
  generalize W1.drewN nq = W2 at HP1 HX1 ⊢
  clear x1 m0 x1d m0d hpl hw2
  obtain ⟨cl, cs, cf, hrw⟩ := HP1.out.md.row
  have m0 : W2.cell? ⟨MM, 0, none⟩ = some (.slice (some ⟨ML, 0, none⟩) s.n cl) := hrw.cell 0
  clear hrw
  go_wp2
  conv => arg 2; whnf
  obtain ⟨q, hq⟩ : ∃ q, q = p - 1 := ⟨_, rfl⟩
  rw [← hq]
  have HQB : Hid (-1 ≤ q ∧ q ≤ (s.n : Int)) := by
    have := HPB.out
    constructor <;> omega
  clear hw3 HPB hq
  cases h0 : decide (q ≥ 0)
  · go_wp2
    refine HQ.out D S M MM ML MS MF X s L O Fh dead armed mn q _ _ ⟨rfl, rfl, rfl, rfl, rfl, rfl, rfl, rfl, ?_, HP1.out, HA.out, HX1.out, HQB.out.1, HQB.out.2, HBX.out⟩
    have : decide (0 ≤ q) = false := h0
    rw [this]; rfl
  · go_wp2
    refine HQ.out D S M MM ML MS MF X s L O Fh dead armed mn q _ _ ⟨rfl, rfl, rfl, rfl, rfl, rfl, rfl, rfl, ?_, HP1.out, HA.out, HX1.out, HQB.out.1, HQB.out.2, HBX.out⟩
    have : decide (0 ≤ q) = true := h0
    rw [this]; rfl
end Go.Proofs.Ytmjdlejomohbdaa
