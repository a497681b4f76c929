/- The law DiskPlays: Sync. Made by gsw.py. -/
import Derived.Test.YtmjdlejomohbdaaPag
namespace Go.Proofs.Ytmjdlejomohbdaa
open Go.RowKit
set_option maxHeartbeats 1500000 in
set_option maxRecDepth 100000 in
theorem sw_sync_dead {B : Nat} {w0 : World} {ao : Option Addr} {na ca i : Nat} {t : ActT} {D S M MM ML MS MF X : Nat} {s : K.St} {L O : Nat → List UInt8} {Fh : Nat → Bool} {dead armed : Bool} {mn at_ : Int} {a : Act} {w : World} (Q : Exit → Act → World → Prop) (h : J1 B w0 ao na ca i t D S M MM ML MS MF X s L O Fh dead armed mn at_ a w) (hk : t.what = 3) (hdd : dead = true)
    (hQ : ∀ D S M s L O Fh dead armed mn a w, J2 B w0 ao na ca i D S M MM ML MS MF s L O Fh dead armed mn at_ a w → Q .normal a w) : cSw.wp Try.prog Q a w := by
  have hP := h.pw
  have hA := h.ag
  have hX := h.rx
  have h2 := h.s2
  have h10 := h.s10
  have h7 := h.s7
  have h8 := h.s8
  have h11 := h.s11
  have h12 := h.s12
  have h13 := h.s13
  rw [fr_of a h.z h.d]
  unfold sl at h2 h10 h7 h8 h11 h12 h13
  clear h
  generalize hg : (fun i => a.tmps.getD i undef) = g
  have k2 : g 2 = .slice ao na ca := by rw [← hg]; exact h2
  have k7 : g 7 = .pointer (some ⟨D, 0, none⟩) := by rw [← hg]; exact h7
  have k8 : g 8 = .pointer (some ⟨MM, 0, none⟩) := by rw [← hg]; exact h8
  have k10 : g 10 = .int .i64 (i : Int) := by rw [← hg]; exact h10
  have k11 : g 11 = .pointer (some ⟨X, 0, none⟩) := by rw [← hg]; exact h11
  have k12 : g 12 = .int .i64 at_ := by rw [← hg]; exact h12
  have k13 : g 13 = .bool (decide (0 ≤ at_) && decide (at_ < (s.n : Int))) := by rw [← hg]; exact h13
  clear h2 h7 h8 h10 h11 h12 h13 hg
  unfold Fr
  rw [k2, k7, k8, k10, k11, k12, k13]
  clear k2 k7 k8 k10 k11 k12 k13
  have HP := hide hP
  have HA := hide hA
  have HQ := hide hQ
  have HX := hide hX
  have x0 : w.cell? ⟨X, 0, none⟩ = some (.int .i64 t.what) := hX.cell 0
  clear hP hA hQ hX
  have t0 : (t.what == 0) = false := by rw [hk]; decide
  have t1 : (t.what == 1) = false := by rw [hk]; decide
  have t2 : (t.what == 2) = false := by rw [hk]; decide
  have t3 : (t.what == 3) = true := by rw [hk]; decide
  clear hk
  subst hdd
  obtain ⟨cl, cs, cf, hrw⟩ := HP.out.md.row
  have m3 : w.cell? ⟨MM, 3, none⟩ = some (.bool true) := hrw.cell 3
  have hsy := sync_dead w D S M s HP.out.dk HA.out.d.symm
  clear hrw
  conv => arg 2; whnf
  go_wp2_with (go_at_call 13; refine hsy.mono ?_; rintro e w' ⟨rfl, hw⟩; rw [hw]; clear hw w')
  exact HQ.out D S M s L O Fh true armed mn _ _ ⟨rfl, rfl, rfl, rfl, rfl, rfl, rfl, rfl, HP.out, HA.out⟩
set_option maxRecDepth 5000 in
theorem PW.or {B : Nat} {w0 w w' : World} {D S M MM ML MS MF : Nat} {s : K.St} {L O : Nat → List UInt8} {Fh : Nat → Bool} {dead armed dead' armed' : Bool} {mn mn' : Int} (h : PW B w0 D S M MM ML MS MF s L O Fh dead armed mn w) (hm : Md w' MM ML MS MF s.n s.sz L O Fh dead' armed' mn') (he : ∃ j v, w' = w ∨ w' = w.setCell ⟨MM, j, none⟩ v) : PW B w0 D S M MM ML MS MF s L O Fh dead' armed' mn' w' := by
  obtain ⟨j, v, rfl | rfl⟩ := he
  · exact ⟨h.dk, hm, h.bel, h.bD, h.bS, h.bM, h.bMM, h.bML, h.bMS, h.bMF, h.n1, h.n2, h.n3⟩
  · exact h.setM j v hm
set_option maxHeartbeats 1500000 in
set_option maxRecDepth 100000 in
theorem sw_sync_cut {B : Nat} {w0 : World} {ao : Option Addr} {na ca i : Nat} {t : ActT} {D S M MM ML MS MF X : Nat} {s : K.St} {L O : Nat → List UInt8} {Fh : Nat → Bool} {dead armed : Bool} {mn at_ : Int} {a : Act} {w : World} (Q : Exit → Act → World → Prop) (h : J1 B w0 ao na ca i t D S M MM ML MS MF X s L O Fh dead armed mn at_ a w) (hk : t.what = 3) (hdd : dead = false) (hcan : s.can = false)
    (hQ : ∀ D S M s L O Fh dead armed mn a w, J2 B w0 ao na ca i D S M MM ML MS MF s L O Fh dead armed mn at_ a w → Q .normal a w) : cSw.wp Try.prog Q a w := by
  have hP := h.pw
  have hA := h.ag
  have hX := h.rx
  have h2 := h.s2
  have h10 := h.s10
  have h7 := h.s7
  have h8 := h.s8
  have h11 := h.s11
  have h12 := h.s12
  have h13 := h.s13
  rw [fr_of a h.z h.d]
  unfold sl at h2 h10 h7 h8 h11 h12 h13
  clear h
  generalize hg : (fun i => a.tmps.getD i undef) = g
  have k2 : g 2 = .slice ao na ca := by rw [← hg]; exact h2
  have k7 : g 7 = .pointer (some ⟨D, 0, none⟩) := by rw [← hg]; exact h7
  have k8 : g 8 = .pointer (some ⟨MM, 0, none⟩) := by rw [← hg]; exact h8
  have k10 : g 10 = .int .i64 (i : Int) := by rw [← hg]; exact h10
  have k11 : g 11 = .pointer (some ⟨X, 0, none⟩) := by rw [← hg]; exact h11
  have k12 : g 12 = .int .i64 at_ := by rw [← hg]; exact h12
  have k13 : g 13 = .bool (decide (0 ≤ at_) && decide (at_ < (s.n : Int))) := by rw [← hg]; exact h13
  clear h2 h7 h8 h10 h11 h12 h13 hg
  unfold Fr
  rw [k2, k7, k8, k10, k11, k12, k13]
  clear k2 k7 k8 k10 k11 k12 k13
  have HP := hide hP
  have HA := hide hA
  have HQ := hide hQ
  have HX := hide hX
  have x0 : w.cell? ⟨X, 0, none⟩ = some (.int .i64 t.what) := hX.cell 0
  clear hP hA hQ hX
  have t0 : (t.what == 0) = false := by rw [hk]; decide
  have t1 : (t.what == 1) = false := by rw [hk]; decide
  have t2 : (t.what == 2) = false := by rw [hk]; decide
  have t3 : (t.what == 3) = true := by rw [hk]; decide
  clear hk
  subst hdd
  obtain ⟨cl, cs, cf, hrw⟩ := HP.out.md.row
  have m3 : w.cell? ⟨MM, 3, none⟩ = some (.bool false) := hrw.cell 3
  have hpo := power_any HP.out.md HA.out.b0 HA.out.b1
  rw [HA.out.can, hcan] at hpo
  have HA2 := hide HA.out.spent
  obtain ⟨dd, hdd⟩ : ∃ dd, dd = (false || (armed && mn == 0)) := ⟨_, rfl⟩
  obtain ⟨mm, hmm⟩ : ∃ mm, mm = mdec armed mn := ⟨_, rfl⟩
  rw [← hdd, ← hmm] at hpo HA2
  have HCAN := hide hcan
  clear hrw hdd hmm hcan
  conv => arg 2; whnf
  go_wp2_with (first
    | (go_at_call 11; refine hpo.mono ?_; rintro e w2 ⟨rfl, hm2, he2⟩; have HP2 := hide (HP.out.or hm2 he2); have hsy := sync_cut w2 D S M s HP2.out.dk HA.out.d.symm HCAN.out; clear hm2 he2)
    | (go_at_call 13; refine hsy.mono ?_; rintro e w3 ⟨rfl, hD3, hM3⟩; have HP3 := hide (HP2.out.mv hD3 hM3 (spent_n s) (spent_sz s) HP2.out.bM); clear hD3 hM3))
  refine HQ.out D S M s.spent L O Fh dd armed mm _ _ ⟨rfl, rfl, rfl, rfl, rfl, rfl, rfl, ?_, HP3.out, HA2.out⟩
  rw [spent_n]; rfl
set_option maxHeartbeats 1500000 in
set_option maxRecDepth 100000 in
theorem sw_sync_ok {B : Nat} {w0 : World} {ao : Option Addr} {na ca i : Nat} {t : ActT} {D S M MM ML MS MF X : Nat} {s : K.St} {L O : Nat → List UInt8} {Fh : Nat → Bool} {dead armed : Bool} {mn at_ : Int} {a : Act} {w : World} (Q : Exit → Act → World → Prop) (h : J1 B w0 ao na ca i t D S M MM ML MS MF X s L O Fh dead armed mn at_ a w) (hk : t.what = 3) (hdd : dead = false) (hcan : s.can = true)
    (hQ : ∀ D S M s L O Fh dead armed mn a w, J2 B w0 ao na ca i D S M MM ML MS MF s L O Fh dead armed mn at_ a w → Q .normal a w) : cSw.wp Try.prog Q a w := by
  have hP := h.pw
  have hA := h.ag
  have hX := h.rx
  have h2 := h.s2
  have h10 := h.s10
  have h7 := h.s7
  have h8 := h.s8
  have h11 := h.s11
  have h12 := h.s12
  have h13 := h.s13
  rw [fr_of a h.z h.d]
  unfold sl at h2 h10 h7 h8 h11 h12 h13
  clear h
  generalize hg : (fun i => a.tmps.getD i undef) = g
  have k2 : g 2 = .slice ao na ca := by rw [← hg]; exact h2
  have k7 : g 7 = .pointer (some ⟨D, 0, none⟩) := by rw [← hg]; exact h7
  have k8 : g 8 = .pointer (some ⟨MM, 0, none⟩) := by rw [← hg]; exact h8
  have k10 : g 10 = .int .i64 (i : Int) := by rw [← hg]; exact h10
  have k11 : g 11 = .pointer (some ⟨X, 0, none⟩) := by rw [← hg]; exact h11
  have k12 : g 12 = .int .i64 at_ := by rw [← hg]; exact h12
  have k13 : g 13 = .bool (decide (0 ≤ at_) && decide (at_ < (s.n : Int))) := by rw [← hg]; exact h13
  clear h2 h7 h8 h10 h11 h12 h13 hg
  unfold Fr
  rw [k2, k7, k8, k10, k11, k12, k13]
  clear k2 k7 k8 k10 k11 k12 k13
  have HP := hide hP
  have HA := hide hA
  have HQ := hide hQ
  have HX := hide hX
  have x0 : w.cell? ⟨X, 0, none⟩ = some (.int .i64 t.what) := hX.cell 0
  clear hP hA hQ hX
  have t0 : (t.what == 0) = false := by rw [hk]; decide
  have t1 : (t.what == 1) = false := by rw [hk]; decide
  have t2 : (t.what == 2) = false := by rw [hk]; decide
  have t3 : (t.what == 3) = true := by rw [hk]; decide
  clear hk
  subst hdd
  obtain ⟨cl, cs, cf, hrw⟩ := HP.out.md.row
  have m3 : w.cell? ⟨MM, 3, none⟩ = some (.bool false) := hrw.cell 3
  have hpo := power_any HP.out.md HA.out.b0 HA.out.b1
  have hz : (false || (armed && mn == 0)) = false := by
    have := HA.out.can
    rw [hcan] at this
    cases hq : (armed && mn == 0)
    · rfl
    · rw [hq] at this; cases this
  rw [HA.out.can, hcan, hz] at hpo
  have HA2 := hide (HA.out.synced hcan rfl)
  obtain ⟨mm, hmm⟩ : ∃ mm, mm = mdec armed mn := ⟨_, rfl⟩
  rw [← hmm] at hpo HA2
  have HCAN := hide hcan
  have hn4 : s.n ≤ 4096 := by obtain ⟨sv, uv, hk⟩ := HP.out.dk; exact hk.b4
  obtain ⟨n, hn⟩ : ∃ n, n = s.n := ⟨_, rfl⟩
  rw [← hn] at hn4
  have HN := hide hn
  clear hrw hmm hcan hz hn
  conv => arg 2; whnf
  go_wp2_with (go_at_call 11; refine hpo.mono ?_; rintro e w2 ⟨rfl, hm2, he2⟩; have HP2 := hide (HP.out.or hm2 he2); clear hm2 he2)
  go_loopw [18] (fun k wr => ∃ (kk : Nat) (O' : Nat → List UInt8) (F' : Nat → Bool), k = .int .i64 (kk : Int) ∧ kk ≤ n ∧ PW B w0 D S M MM ML MS MF s L O' F' false armed mm wr ∧ (∀ i, i < kk → O' i = L i ∧ F' i = false))
    (fun k _ => n - (match k with | .int _ x => x.toNat | _ => 0))
  case atStart => exact ⟨0, O, Fh, rfl, Nat.zero_le _, HP2.out, fun i hi => absurd hi (Nat.not_lt_zero _)⟩
  case round =>
    obtain ⟨kk, O', F', rfl, hkk, hPr, hdone⟩ := hrel
    obtain ⟨cl, cs, cf, hrw⟩ := hPr.md.row
    have a0 : wr.cell? ⟨MM, 0, none⟩ = some (.slice (some ⟨ML, 0, none⟩) n cl) := by rw [HN.out]; exact hrw.cell 0
    have a1 : wr.cell? ⟨MM, 1, none⟩ = some (.slice (some ⟨MS, 0, none⟩) n cs) := by rw [HN.out]; exact hrw.cell 1
    have a2 : wr.cell? ⟨MM, 2, none⟩ = some (.slice (some ⟨MF, 0, none⟩) n cf) := by rw [HN.out]; exact hrw.cell 2
    by_cases hlt : kk < n
    · have hd : decide ((kk : Int) < (n : Int)) = true := by simp; exact hlt
      have hkn : kk < s.n := by rw [← HN.out]; exact hlt
      obtain ⟨c1, lv, hr1, hv1⟩ := hPr.md.rl
      obtain ⟨hc1, hbl⟩ := hv1 kk hkn
      obtain ⟨gl, capl, hlv, hll, hsu⟩ := hbl
      have hbl2 : Blk wr (.slice (some ⟨gl, 0, none⟩) s.sz capl) s.sz (L kk) := ⟨gl, capl, rfl, hll, hsu⟩
      rw [hlv] at hc1
      obtain ⟨c2, lv2, hr2, hv2⟩ := hPr.md.rs
      obtain ⟨c3, hr3, hv3⟩ := hPr.md.rf
      have a3 : wr.cell? ⟨ML, kk, none⟩ = some (.slice (some ⟨gl, 0, none⟩) s.sz capl) := by rw [hr1.cell kk]; exact hc1
      have b1 : wr.cell? ⟨MS, kk, none⟩ = some (lv2 kk) := by rw [hr2.cell kk]; exact (hv2 kk hkn).1
      have b2 : wr.frozen? ⟨MS, kk, none⟩ = false := hr2.frozen kk
      have hS := hPr.drew.setS hkn (hbl2.heap (w' := wr.drew) (fun _ _ h => h))
      have hF := hS.setF hkn false
      obtain ⟨cl2, cs2, cf2, hrw2⟩ := hS.md.row
      obtain ⟨c4, hr4, hv4⟩ := hS.md.rf
      have b3 : (wr.drew.setCell ⟨MS, kk, none⟩ (.slice (some ⟨gl, 0, none⟩) s.sz capl)).cell? ⟨MF, kk, none⟩ = some (.bool (F' kk)) := by rw [hr4.cell kk]; exact hv4 kk hkn
      have b4 : (wr.drew.setCell ⟨MS, kk, none⟩ (.slice (some ⟨gl, 0, none⟩) s.sz capl)).frozen? ⟨MF, kk, none⟩ = false := hr4.frozen kk
      have hne1 : MM ≠ MS := hrw.ne hr2 tm1
      have hne2 : MM ≠ MF := hrw.ne hr3 tm2
      have hne3 : ML ≠ MS := hPr.n1
      have hne4 : ML ≠ MF := hr1.ne hr3 tm4
      have q1 : (wr.drew.setCell ⟨MS, kk, none⟩ (.slice (some ⟨gl, 0, none⟩) s.sz capl)).cell? ⟨MM, 0, none⟩ = some (.slice (some ⟨ML, 0, none⟩) n cl) ∧ (wr.drew.setCell ⟨MS, kk, none⟩ (.slice (some ⟨gl, 0, none⟩) s.sz capl)).cell? ⟨MM, 1, none⟩ = some (.slice (some ⟨MS, 0, none⟩) n cs) ∧ (wr.drew.setCell ⟨MS, kk, none⟩ (.slice (some ⟨gl, 0, none⟩) s.sz capl)).cell? ⟨MM, 2, none⟩ = some (.slice (some ⟨MF, 0, none⟩) n cf) ∧ (wr.drew.setCell ⟨MS, kk, none⟩ (.slice (some ⟨gl, 0, none⟩) s.sz capl)).cell? ⟨ML, kk, none⟩ = some (.slice (some ⟨gl, 0, none⟩) s.sz capl) := ⟨(World.cell?_setCell_far _ _ _ _ hne1.symm).trans a0, (World.cell?_setCell_far _ _ _ _ hne1.symm).trans a1, (World.cell?_setCell_far _ _ _ _ hne1.symm).trans a2, (World.cell?_setCell_far _ _ _ _ hne3.symm).trans a3⟩
      have q2 : ((wr.drew.setCell ⟨MS, kk, none⟩ (.slice (some ⟨gl, 0, none⟩) s.sz capl)).setCell ⟨MF, kk, none⟩ (.bool false)).cell? ⟨MM, 0, none⟩ = some (.slice (some ⟨ML, 0, none⟩) n cl) ∧ ((wr.drew.setCell ⟨MS, kk, none⟩ (.slice (some ⟨gl, 0, none⟩) s.sz capl)).setCell ⟨MF, kk, none⟩ (.bool false)).cell? ⟨MM, 1, none⟩ = some (.slice (some ⟨MS, 0, none⟩) n cs) ∧ ((wr.drew.setCell ⟨MS, kk, none⟩ (.slice (some ⟨gl, 0, none⟩) s.sz capl)).setCell ⟨MF, kk, none⟩ (.bool false)).cell? ⟨MM, 2, none⟩ = some (.slice (some ⟨MF, 0, none⟩) n cf) ∧ ((wr.drew.setCell ⟨MS, kk, none⟩ (.slice (some ⟨gl, 0, none⟩) s.sz capl)).setCell ⟨MF, kk, none⟩ (.bool false)).cell? ⟨ML, kk, none⟩ = some (.slice (some ⟨gl, 0, none⟩) s.sz capl) := ⟨(World.cell?_setCell_far _ _ _ _ hne2.symm).trans q1.1, (World.cell?_setCell_far _ _ _ _ hne2.symm).trans q1.2.1, (World.cell?_setCell_far _ _ _ _ hne2.symm).trans q1.2.2.1, (World.cell?_setCell_far _ _ _ _ hne4.symm).trans q1.2.2.2⟩
      have HF := hide hF
      have HD := hide hdone
      have hadd : IntKind.i64.wrap ((kk : Int) + 1) = ((kk + 1 : Nat) : Int) := by rw [IntKind.wrap_i64]; omega
      have hne5 : MF ≠ MS := fun e => hr2.ne hr3 tm4 e.symm
      have hfa : ∀ (W : World) (v : Value), (W.setCell ⟨MS, kk, none⟩ v).cell? ⟨MF, kk, none⟩ = W.cell? ⟨MF, kk, none⟩ := fun W v => World.cell?_setCell_far _ _ _ _ (fun e => hne5 e.symm)
      have hfb : ∀ (W : World) (v : Value), (W.setCell ⟨MS, kk, none⟩ v).frozen? ⟨MF, kk, none⟩ = W.frozen? ⟨MF, kk, none⟩ := fun W v => World.frozen?_setCell _ _ _ _
      have b5 : wr.cell? ⟨MF, kk, none⟩ = some (.bool (F' kk)) := by rw [hr3.cell kk]; exact hv3 kk hkn
      have b6 : wr.frozen? ⟨MF, kk, none⟩ = false := hr3.frozen kk
      clear b3 b4
      clear hS hF hrw hrw2 hr1 hr2 hr3 hr4 hv1 hv2 hv3 hv4 hc1 hlv hll hsu hbl2 hPr hdone hpo x0 m3 t0 t1 t2 t3
      generalize hv : (Value.slice (some ⟨gl, 0, none⟩) s.sz capl) = vv at *
      generalize hZ : s.sz = Z at *
      subst hv
      go_wp2
      go_region_held3 (fun w' => w'.cell? ⟨MM, 0, none⟩ = some (.slice (some ⟨ML, 0, none⟩) n cl) ∧ w'.cell? ⟨MM, 1, none⟩ = some (.slice (some ⟨MS, 0, none⟩) n cs) ∧ w'.cell? ⟨MM, 2, none⟩ = some (.slice (some ⟨MF, 0, none⟩) n cf) ∧ w'.cell? ⟨ML, kk, none⟩ = some (.slice (some ⟨gl, 0, none⟩) Z capl)) (first | exact ⟨a0, a1, a2, a3⟩ | exact q1 | exact q2) (fail)
      clear q1 q2 a0 a1 a2 a3 b1 b2 b5 b6 hfa hfb
      go_wp2
      go_roundw
      case rel =>
        refine ⟨kk + 1, fput O' kk (L kk), fput F' kk false, rfl, by omega, HF.out, fun i hi => ?_⟩
        unfold fput
        by_cases e : i = kk
        · subst e; simp
        · simp only [e, if_false]; exact HD.out i (by omega)
      case measure => show n - ((kk + 1 : Nat) : Int).toNat < n - ((kk : Nat) : Int).toNat; omega
    · have hd : decide ((kk : Int) < (n : Int)) = false := by simp; omega
      have hkn : kk = n := by omega
      have hsy := sync_ok wr D S M s hPr.dk HA.out.d.symm HCAN.out
      have HPr := hide hPr
      have e2 : s.synced.n = s.n := spent_n s
      have HA3 : Hid (Agr s.synced L O' F' false armed mm) := HA2.out.congr (fun _ _ => rfl) (fun i hi => (hdone i (by rw [hkn, HN.out]; rw [e2] at hi; exact hi)).1) (fun i hi => (hdone i (by rw [hkn, HN.out]; rw [e2] at hi; exact hi)).2)
      clear hrw hPr hdone hkn hpo x0 m3 t0 t1 t2 t3 e2
      go_wp2_with (go_at_call 13; refine hsy.mono ?_; rintro e w3 ⟨rfl, M3, hD3, hM3, hm1, hm2⟩; have HP3 := hide (HPr.out.mv hD3 hM3 (spent_n s) (spent_sz s) (Nat.le_trans HPr.out.lt hm1)); clear hD3 hM3)
      refine HQ.out D S M3 s.synced L O' F' false armed mm _ _ ⟨rfl, rfl, rfl, rfl, rfl, rfl, rfl, ?_, HP3.out, HA3.out⟩
      rw [show s.synced.n = s.n from spent_n s]; rfl
end Go.Proofs.Ytmjdlejomohbdaa
