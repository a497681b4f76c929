/- The law DiskPlays: Write: what comes of it. Made by gwf.py. -/
import Derived.Test.YtmjdlejomohbdaaPwf
namespace Go.Proofs.Ytmjdlejomohbdaa
open Go.RowKit
set_option maxHeartbeats 1500000 in
set_option maxRecDepth 100000 in
theorem w_dead {B : Nat} {w0 : World} {ao : Option Addr} {na ca i : Nat} {t : ActT} {D S M MM ML MS MF X : Nat} {s : K.St} {L O : Nat → List UInt8} {Fh : Nat → Bool} {dead armed : Bool} {mn at_ : Int} {gB o m : Nat} {l : List UInt8} {a : Act} {w : World} (Q : Exit → Act → World → Prop) (hW : JW B w0 ao na ca i t D S M MM ML MS MF X s L O Fh dead armed mn at_ gB o m l a w) (hdd : dead = true)
    (hQ : ∀ D S M s L O Fh dead armed mn a w, J2 B w0 ao na ca i D S M MM ML MS MF s L O Fh dead armed mn at_ a w → Q .normal a w) : cW2.wp Try.prog Q a w := by
  have h := hW.j
  have hRW := hW.row
  have hLW := hW.len
  have hOM := hW.om
  have h14 := hW.s14
  have hP := h.pw
  have hA := h.ag
  have hX := h.rx
  have h2 := h.s2
  have h10 := h.s10
  have h7 := h.s7
  have h8 := h.s8
  have h11 := h.s11
  have h12 := h.s12
  have h13 := h.s13
  rw [fr_of a h.z h.d]
  unfold sl at h14 h2 h10 h7 h8 h11 h12 h13
  clear h hW
  generalize hg : (fun i => a.tmps.getD i undef) = g
  have k2 : g 2 = .slice ao na ca := by rw [← hg]; exact h2
  have k7 : g 7 = .pointer (some ⟨D, 0, none⟩) := by rw [← hg]; exact h7
  have k8 : g 8 = .pointer (some ⟨MM, 0, none⟩) := by rw [← hg]; exact h8
  have k10 : g 10 = .int .i64 (i : Int) := by rw [← hg]; exact h10
  have k11 : g 11 = .pointer (some ⟨X, 0, none⟩) := by rw [← hg]; exact h11
  have k12 : g 12 = .int .i64 at_ := by rw [← hg]; exact h12
  have k13 : g 13 = .bool (decide (0 ≤ at_) && decide (at_ < (s.n : Int))) := by rw [← hg]; exact h13
  have k14 : g 14 = .slice (some ⟨gB, o, none⟩) m m := by rw [← hg]; exact h14
  clear h14 h2 h7 h8 h10 h11 h12 h13 hg
  unfold Fr
  rw [k2, k7, k8, k10, k11, k12, k13, k14]
  clear k2 k7 k8 k10 k11 k12 k13 k14
  have HP := hide hP
  have HA := hide hA
  have HQ := hide hQ
  have HX := hide hX
  have HRW := hide hRW
  have HLW := hide hLW
  clear hP hA hQ hX hRW hLW
  subst hdd
  obtain ⟨cl, cs, cf, hrw⟩ := HP.out.md.row
  have m3 : w.cell? ⟨MM, 3, none⟩ = some (.bool true) := hrw.cell 3
  have hwr := write_dead w D S M s HP.out.dk HA.out.d.symm at_ (.slice (some ⟨gB, o, none⟩) m m)
  clear hrw hOM
  conv => arg 2; whnf
  go_wp2_with (go_at_call 12; refine hwr.mono ?_; rintro e w' ⟨rfl, hw⟩; rw [hw]; clear hw w')
  refine HQ.out D S M s L O Fh true armed mn _ _ ⟨rfl, rfl, rfl, rfl, rfl, rfl, rfl, ?_, HP.out, HA.out⟩
  rfl
set_option maxHeartbeats 1500000 in
set_option maxRecDepth 100000 in
theorem w_out {B : Nat} {w0 : World} {ao : Option Addr} {na ca i : Nat} {t : ActT} {D S M MM ML MS MF X : Nat} {s : K.St} {L O : Nat → List UInt8} {Fh : Nat → Bool} {dead armed : Bool} {mn at_ : Int} {gB o m : Nat} {l : List UInt8} {a : Act} {w : World} (Q : Exit → Act → World → Prop) (hW : JW B w0 ao na ca i t D S M MM ML MS MF X s L O Fh dead armed mn at_ gB o m l a w) (hdd : dead = false) (hin : (decide (0 ≤ at_) && decide (at_ < (s.n : Int))) = false)
    (hQ : ∀ D S M s L O Fh dead armed mn a w, J2 B w0 ao na ca i D S M MM ML MS MF s L O Fh dead armed mn at_ a w → Q .normal a w) : cW2.wp Try.prog Q a w := by
  have h := hW.j
  have hRW := hW.row
  have hLW := hW.len
  have hOM := hW.om
  have h14 := hW.s14
  have hP := h.pw
  have hA := h.ag
  have hX := h.rx
  have h2 := h.s2
  have h10 := h.s10
  have h7 := h.s7
  have h8 := h.s8
  have h11 := h.s11
  have h12 := h.s12
  have h13 := h.s13
  rw [fr_of a h.z h.d]
  unfold sl at h14 h2 h10 h7 h8 h11 h12 h13
  clear h hW
  generalize hg : (fun i => a.tmps.getD i undef) = g
  have k2 : g 2 = .slice ao na ca := by rw [← hg]; exact h2
  have k7 : g 7 = .pointer (some ⟨D, 0, none⟩) := by rw [← hg]; exact h7
  have k8 : g 8 = .pointer (some ⟨MM, 0, none⟩) := by rw [← hg]; exact h8
  have k10 : g 10 = .int .i64 (i : Int) := by rw [← hg]; exact h10
  have k11 : g 11 = .pointer (some ⟨X, 0, none⟩) := by rw [← hg]; exact h11
  have k12 : g 12 = .int .i64 at_ := by rw [← hg]; exact h12
  have k13 : g 13 = .bool (decide (0 ≤ at_) && decide (at_ < (s.n : Int))) := by rw [← hg]; exact h13
  have k14 : g 14 = .slice (some ⟨gB, o, none⟩) m m := by rw [← hg]; exact h14
  clear h14 h2 h7 h8 h10 h11 h12 h13 hg
  unfold Fr
  rw [k2, k7, k8, k10, k11, k12, k13, k14]
  clear k2 k7 k8 k10 k11 k12 k13 k14
  have HP := hide hP
  have HA := hide hA
  have HQ := hide hQ
  have HX := hide hX
  have HRW := hide hRW
  have HLW := hide hLW
  clear hP hA hQ hX hRW hLW
  subst hdd
  obtain ⟨cl, cs, cf, hrw⟩ := HP.out.md.row
  have m3 : w.cell? ⟨MM, 3, none⟩ = some (.bool false) := hrw.cell 3
  have hwr := write_out w D S M s HP.out.dk HA.out.d.symm at_ hin (.slice (some ⟨gB, o, none⟩) m m)
  rw [hin]
  have HIN := hide hin
  clear hrw hOM hin
  conv => arg 2; whnf
  go_wp2_with (go_at_call 12; refine hwr.mono ?_; rintro e w' ⟨rfl, hw⟩; rw [hw]; clear hw w')
  refine HQ.out D S M s L O Fh false armed mn _ _ ⟨rfl, rfl, rfl, rfl, rfl, rfl, rfl, ?_, HP.out, HA.out⟩
  rw [HIN.out]; rfl
set_option maxHeartbeats 1500000 in
set_option maxRecDepth 100000 in
theorem w_size {B : Nat} {w0 : World} {ao : Option Addr} {na ca i : Nat} {t : ActT} {D S M MM ML MS MF X : Nat} {s : K.St} {L O : Nat → List UInt8} {Fh : Nat → Bool} {dead armed : Bool} {mn at_ : Int} {gB o m : Nat} {l : List UInt8} {a : Act} {w : World} (Q : Exit → Act → World → Prop) (hW : JW B w0 ao na ca i t D S M MM ML MS MF X s L O Fh dead armed mn at_ gB o m l a w) (hdd : dead = false) (hin : (decide (0 ≤ at_) && decide (at_ < (s.n : Int))) = true) (hm : m ≠ s.sz)
    (hQ : ∀ D S M s L O Fh dead armed mn a w, J2 B w0 ao na ca i D S M MM ML MS MF s L O Fh dead armed mn at_ a w → Q .normal a w) : cW2.wp Try.prog Q a w := by
  have h := hW.j
  have hRW := hW.row
  have hLW := hW.len
  have hOM := hW.om
  have h14 := hW.s14
  have hP := h.pw
  have hA := h.ag
  have hX := h.rx
  have h2 := h.s2
  have h10 := h.s10
  have h7 := h.s7
  have h8 := h.s8
  have h11 := h.s11
  have h12 := h.s12
  have h13 := h.s13
  rw [fr_of a h.z h.d]
  unfold sl at h14 h2 h10 h7 h8 h11 h12 h13
  clear h hW
  generalize hg : (fun i => a.tmps.getD i undef) = g
  have k2 : g 2 = .slice ao na ca := by rw [← hg]; exact h2
  have k7 : g 7 = .pointer (some ⟨D, 0, none⟩) := by rw [← hg]; exact h7
  have k8 : g 8 = .pointer (some ⟨MM, 0, none⟩) := by rw [← hg]; exact h8
  have k10 : g 10 = .int .i64 (i : Int) := by rw [← hg]; exact h10
  have k11 : g 11 = .pointer (some ⟨X, 0, none⟩) := by rw [← hg]; exact h11
  have k12 : g 12 = .int .i64 at_ := by rw [← hg]; exact h12
  have k13 : g 13 = .bool (decide (0 ≤ at_) && decide (at_ < (s.n : Int))) := by rw [← hg]; exact h13
  have k14 : g 14 = .slice (some ⟨gB, o, none⟩) m m := by rw [← hg]; exact h14
  clear h14 h2 h7 h8 h10 h11 h12 h13 hg
  unfold Fr
  rw [k2, k7, k8, k10, k11, k12, k13, k14]
  clear k2 k7 k8 k10 k11 k12 k13 k14
  have HP := hide hP
  have HA := hide hA
  have HQ := hide hQ
  have HX := hide hX
  have HRW := hide hRW
  have HLW := hide hLW
  clear hP hA hQ hX hRW hLW
  subst hdd
  obtain ⟨cl, cs, cf, hrw⟩ := HP.out.md.row
  have m3 : w.cell? ⟨MM, 3, none⟩ = some (.bool false) := hrw.cell 3
  have hwr := write_size w D S M s HP.out.dk HA.out.d.symm at_ hin (some ⟨gB, o, none⟩) m m hm
  have hsz := size_any w D S M s HP.out.dk
  have hne : ((m : Int) != (s.sz : Int)) = true := by simp; omega
  rw [hin]
  have HIN := hide hin
  clear hrw hOM hin hm
  conv => arg 2; whnf
  go_wp2_with (first
    | (go_at_call 10; refine hsz.mono ?_; rintro e w' ⟨rfl, hw⟩; rw [hw]; clear hw w')
    | (go_at_call 12; refine hwr.mono ?_; rintro e w' ⟨rfl, hw⟩; rw [hw]; clear hw w'))
  refine HQ.out D S M s L O Fh false armed mn _ _ ⟨rfl, rfl, rfl, rfl, rfl, rfl, rfl, ?_, HP.out, HA.out⟩
  rw [HIN.out]; rfl
set_option maxHeartbeats 1500000 in
set_option maxRecDepth 100000 in
theorem w_cut {B : Nat} {w0 : World} {ao : Option Addr} {na ca i : Nat} {t : ActT} {D S M MM ML MS MF X : Nat} {s : K.St} {L O : Nat → List UInt8} {Fh : Nat → Bool} {dead armed : Bool} {mn at_ : Int} {gB o m : Nat} {l : List UInt8} {a : Act} {w : World} (Q : Exit → Act → World → Prop) (hW : JW B w0 ao na ca i t D S M MM ML MS MF X s L O Fh dead armed mn at_ gB o m l a w) (hdd : dead = false) (hin : (decide (0 ≤ at_) && decide (at_ < (s.n : Int))) = true) (hm : m = s.sz) (hcan : s.can = false)
    (hQ : ∀ D S M s L O Fh dead armed mn a w, J2 B w0 ao na ca i D S M MM ML MS MF s L O Fh dead armed mn at_ a w → Q .normal a w) : cW2.wp Try.prog Q a w := by
  have h := hW.j
  have hRW := hW.row
  have hLW := hW.len
  have hOM := hW.om
  have h14 := hW.s14
  have hP := h.pw
  have hA := h.ag
  have hX := h.rx
  have h2 := h.s2
  have h10 := h.s10
  have h7 := h.s7
  have h8 := h.s8
  have h11 := h.s11
  have h12 := h.s12
  have h13 := h.s13
  rw [fr_of a h.z h.d]
  unfold sl at h14 h2 h10 h7 h8 h11 h12 h13
  clear h hW
  generalize hg : (fun i => a.tmps.getD i undef) = g
  have k2 : g 2 = .slice ao na ca := by rw [← hg]; exact h2
  have k7 : g 7 = .pointer (some ⟨D, 0, none⟩) := by rw [← hg]; exact h7
  have k8 : g 8 = .pointer (some ⟨MM, 0, none⟩) := by rw [← hg]; exact h8
  have k10 : g 10 = .int .i64 (i : Int) := by rw [← hg]; exact h10
  have k11 : g 11 = .pointer (some ⟨X, 0, none⟩) := by rw [← hg]; exact h11
  have k12 : g 12 = .int .i64 at_ := by rw [← hg]; exact h12
  have k13 : g 13 = .bool (decide (0 ≤ at_) && decide (at_ < (s.n : Int))) := by rw [← hg]; exact h13
  have k14 : g 14 = .slice (some ⟨gB, o, none⟩) m m := by rw [← hg]; exact h14
  clear h14 h2 h7 h8 h10 h11 h12 h13 hg
  unfold Fr
  rw [k2, k7, k8, k10, k11, k12, k13, k14]
  clear k2 k7 k8 k10 k11 k12 k13 k14
  have HP := hide hP
  have HA := hide hA
  have HQ := hide hQ
  have HX := hide hX
  have HRW := hide hRW
  have HLW := hide hLW
  clear hP hA hQ hX hRW hLW
  subst hdd
  obtain ⟨cl, cs, cf, hrw⟩ := HP.out.md.row
  have m3 : w.cell? ⟨MM, 3, none⟩ = some (.bool false) := hrw.cell 3
  have hpo := power_any HP.out.md HA.out.b0 HA.out.b1
  rw [HA.out.can, hcan] at hpo
  have HA2 := hide HA.out.spent
  obtain ⟨dd, hdd⟩ : ∃ dd, dd = (false || (armed && mn == 0)) := ⟨_, rfl⟩
  obtain ⟨mm, hmm⟩ : ∃ mm, mm = mdec armed mn := ⟨_, rfl⟩
  rw [← hdd, ← hmm] at hpo HA2
  have hsz := size_any w D S M s HP.out.dk
  rw [← hm] at hsz
  rw [hin]
  have HIN := hide hin
  have HM := hide hm
  have HCAN := hide hcan
  clear hrw hOM hin hm hcan hdd hmm
  conv => arg 2; whnf
  go_wp2_with (first
    | (go_at_call 10; refine hsz.mono ?_; rintro e w' ⟨rfl, hw⟩; rw [hw]; clear hw w')
    | (go_at_call 11; refine hpo.mono ?_; rintro e w2 ⟨rfl, hm2, he2⟩; have HP2 := hide (HP.out.or hm2 he2); have hwr := write_cut w2 D S M s HP2.out.dk HA.out.d.symm at_ HIN.out (some ⟨gB, o, none⟩) m m HM.out HCAN.out; clear hm2 he2)
    | (go_at_call 12; refine hwr.mono ?_; rintro e w3 ⟨rfl, hD3, hM3⟩; have HP3 := hide (HP2.out.mv hD3 hM3 (spent_n s) (spent_sz s) HP2.out.bM); clear hD3 hM3))
  refine HQ.out D S M s.spent L O Fh dd armed mm _ _ ⟨rfl, rfl, rfl, rfl, rfl, rfl, rfl, ?_, HP3.out, HA2.out⟩
  rw [spent_n, HIN.out]; rfl
set_option maxHeartbeats 1500000 in
set_option maxRecDepth 100000 in
theorem w_ok {B : Nat} {w0 : World} {ao : Option Addr} {na ca i : Nat} {t : ActT} {D S M MM ML MS MF X : Nat} {s : K.St} {L O : Nat → List UInt8} {Fh : Nat → Bool} {dead armed : Bool} {mn at_ : Int} {gB o m : Nat} {l : List UInt8} {a : Act} {w : World} (Q : Exit → Act → World → Prop) (hW : JW B w0 ao na ca i t D S M MM ML MS MF X s L O Fh dead armed mn at_ gB o m l a w) (hdd : dead = false) (p : Nat) (hat : at_ = (p : Int)) (hpn : p < s.n) (ho : o = 0) (hm : m = s.sz) (hcan : s.can = true)
    (hQ : ∀ D S M s L O Fh dead armed mn a w, J2 B w0 ao na ca i D S M MM ML MS MF s L O Fh dead armed mn at_ a w → Q .normal a w) : cW2.wp Try.prog Q a w := by
  have h := hW.j
  have hRW := hW.row
  have hLW := hW.len
  have hOM := hW.om
  have h14 := hW.s14
  have hP := h.pw
  have hA := h.ag
  have hX := h.rx
  have h2 := h.s2
  have h10 := h.s10
  have h7 := h.s7
  have h8 := h.s8
  have h11 := h.s11
  have h12 := h.s12
  have h13 := h.s13
  rw [fr_of a h.z h.d]
  unfold sl at h14 h2 h10 h7 h8 h11 h12 h13
  clear h hW
  generalize hg : (fun i => a.tmps.getD i undef) = g
  have k2 : g 2 = .slice ao na ca := by rw [← hg]; exact h2
  have k7 : g 7 = .pointer (some ⟨D, 0, none⟩) := by rw [← hg]; exact h7
  have k8 : g 8 = .pointer (some ⟨MM, 0, none⟩) := by rw [← hg]; exact h8
  have k10 : g 10 = .int .i64 (i : Int) := by rw [← hg]; exact h10
  have k11 : g 11 = .pointer (some ⟨X, 0, none⟩) := by rw [← hg]; exact h11
  have k12 : g 12 = .int .i64 at_ := by rw [← hg]; exact h12
  have k13 : g 13 = .bool (decide (0 ≤ at_) && decide (at_ < (s.n : Int))) := by rw [← hg]; exact h13
  have k14 : g 14 = .slice (some ⟨gB, o, none⟩) m m := by rw [← hg]; exact h14
  clear h14 h2 h7 h8 h10 h11 h12 h13 hg
  unfold Fr
  rw [k2, k7, k8, k10, k11, k12, k13, k14]
  clear k2 k7 k8 k10 k11 k12 k13 k14
  have HP := hide hP
  have HA := hide hA
  have HQ := hide hQ
  have HX := hide hX
  have HRW := hide hRW
  have HLW := hide hLW
  clear hP hA hQ hX hRW hLW
  subst hdd
  subst hat
  subst ho
  obtain ⟨cl, cs, cf, hrw⟩ := HP.out.md.row
  have m3 : w.cell? ⟨MM, 3, none⟩ = some (.bool false) := hrw.cell 3
  have hpo := power_any HP.out.md HA.out.b0 HA.out.b1
  have hz : (false || (armed && mn == 0)) = false := by
    have := HA.out.can
    rw [hcan] at this
    cases hq : (armed && mn == 0)
    · rfl
    · rw [hq] at this; cases this
  rw [HA.out.can, hcan, hz] at hpo
  have HA2 := hide (HA.out.put hcan rfl p l)
  obtain ⟨mm, hmm⟩ : ∃ mm, mm = mdec armed mn := ⟨_, rfl⟩
  rw [← hmm] at hpo HA2
  have hsz := size_any w D S M s HP.out.dk
  have HM := hide hm
  have HPN := hide hpn
  have HCAN := hide hcan
  have hn4 : s.n ≤ 4096 := by obtain ⟨sv, uv, hk⟩ := HP.out.dk; exact hk.b4
  obtain ⟨n, hn⟩ : ∃ n, n = s.n := ⟨_, rfl⟩
  have hpn2 : p < n := by rw [hn]; exact hpn
  rw [← hn] at hn4
  have HN := hide hn
  have hin : (decide (0 ≤ (p : Int)) && decide ((p : Int) < (s.n : Int))) = true := by simp; omega
  rw [hin]
  rw [← hm] at hsz
  have HIN := hide hin
  clear hrw hOM hin hm hcan hz hmm hpn hn
  conv => arg 2; whnf
  go_wp2_with (first
    | (go_at_call 10; refine hsz.mono ?_; rintro e w' ⟨rfl, hw⟩; rw [hw]; clear hw w')
    | (go_at_call 11; refine hpo.mono ?_; rintro e w2 ⟨rfl, hm2, he2⟩; have HP2 := hide (HP.out.or hm2 he2); have HR2 : Hid (RowAt w2 gB 5 (vb l).toArray) := (by obtain ⟨cl, cs, cf, hrw⟩ := HP.out.md.row; obtain ⟨jq, vq, rfl | rfl⟩ := he2; exact HRW.out; exact HRW.out.other _ _ (fun e => hrw.ne HRW.out tm3 e.symm)); clear hm2 he2))
  have hBk : Blk w2 (.slice (some ⟨gB, 0, none⟩) s.sz m) s.sz l := ⟨gB, m, rfl, HLW.out, SlU.row HR2.out⟩
  obtain ⟨cl2, cf2, v2, hc, hb, hfa, hfb, hq1, hq2, hPf⟩ := facts_w HP2.out p HPN.out _ l hBk
  rw [← HM.out] at hPf
  simp only [← HN.out] at hc hq1 hq2
  obtain ⟨a0, a2⟩ := hc
  obtain ⟨b1, b2, b5, b6⟩ := hb
  have q1 := hq1 (.slice (some ⟨gB, 0, none⟩) m m)
  have q2 := hq2 (.slice (some ⟨gB, 0, none⟩) m m) (.bool true)
  have HPf : Hid (PW B w0 D S M MM ML MS MF s (fput L p l) O (fput Fh p true) false armed mm ((w2.setCell ⟨ML, p, none⟩ (.slice (some ⟨gB, 0, none⟩) m m)).setCell ⟨MF, p, none⟩ (.bool true)).drew) := hPf
  have HR3 : Hid (RowAt ((w2.setCell ⟨ML, p, none⟩ (.slice (some ⟨gB, 0, none⟩) m m)).setCell ⟨MF, p, none⟩ (.bool true)).drew gB 5 (vb l).toArray) := by
    obtain ⟨c1, lv, hr1, _⟩ := HP2.out.md.rl
    obtain ⟨c3, hr3, _⟩ := HP2.out.md.rf
    exact (HR2.out.other _ _ (fun e => hr1.ne HR2.out tne2 e.symm)).other _ _ (fun e => hr3.ne HR2.out tm5 e.symm)
  clear hq1 hq2 hPf hBk
  go_region_held3 (fun w' => w'.cell? ⟨MM, 0, none⟩ = some (.slice (some ⟨ML, 0, none⟩) n cl2) ∧ w'.cell? ⟨MM, 2, none⟩ = some (.slice (some ⟨MF, 0, none⟩) n cf2)) (first | exact ⟨a0, a2⟩ | exact q1 | exact q2) (fail)
  clear q1 q2 a0 a2 b1 b2 b5 b6 hfa hfb
  generalize ((w2.setCell ⟨ML, p, none⟩ (.slice (some ⟨gB, 0, none⟩) m m)).setCell ⟨MF, p, none⟩ (.bool true)).drew = W3 at HPf HR3 ⊢
  have hwr := write_ok W3 D S M s HPf.out.dk HA.out.d.symm p HPN.out (some ⟨gB, 0, none⟩) m l HLW.out (SlU.row HR3.out) HCAN.out
  rw [HLW.out, ← HM.out] at hwr
  go_wp2_with (go_at_call 12; refine hwr.mono ?_; rintro e w4 ⟨rfl, hD4, hM4⟩; have HP4 := hide (HPf.out.mv hD4 hM4 (spent_n s) (spent_sz s) HPf.out.bM); clear hD4 hM4)
  refine HQ.out D S M (s.put p l) (fput L p l) O (fput Fh p true) false armed mm _ _ ⟨rfl, rfl, rfl, rfl, rfl, rfl, rfl, ?_, HP4.out, HA2.out⟩
  rw [show (s.put p l).n = s.n from spent_n s, HIN.out]; rfl
end Go.Proofs.Ytmjdlejomohbdaa
