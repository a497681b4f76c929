/- The law DiskPlays: its last piece of a round: what is read is what the model says. -/
import Derived.Test.YtmjdlejomohbdaaPia
namespace Go.Proofs.Ytmjdlejomohbdaa
open Go.RowKit
/- behind the switch -/
structure J2 (B : Nat) (w0 : World) (ao : Option Addr) (na ca : Nat) (i : Nat) (D S M MM ML MS MF : Nat) (s : K.St) (L O : Nat → List UInt8) (Fh : Nat → Bool) (dead armed : Bool) (mn : Int) (at_ : Int) (a : Act) (w : World) : Prop where
  z : a.tmps.size = 386
  d : a.defers = []
  s2 : sl a 2 = .slice ao na ca
  s10 : sl a 10 = .int .i64 (i : Int)
  s7 : sl a 7 = .pointer (some ⟨D, 0, none⟩)
  s8 : sl a 8 = .pointer (some ⟨MM, 0, none⟩)
  s12 : sl a 12 = .int .i64 at_
  s13 : sl a 13 = .bool (decide (0 ≤ at_) && decide (at_ < (s.n : Int)))
  pw : PW B w0 D S M MM ML MS MF s L O Fh dead armed mn w
  ag : Agr s L O Fh dead armed mn
set_option maxHeartbeats 2000000 in
set_option maxRecDepth 100000 in
theorem tail_any {B : Nat} {w0 : World} {ao : Option Addr} {na ca i : Nat} {D S M MM ML MS MF : Nat} {s : K.St} {L O : Nat → List UInt8} {Fh : Nat → Bool} {dead armed : Bool} {mn at_ : Int} {a : Act} {w : World} (Q : Exit → Act → World → Prop) (h : J2 B w0 ao na ca i D S M MM ML MS MF s L O Fh dead armed mn at_ a w)
    (hQ : ∀ a w, J0 B w0 ao na ca i a w → Q .normal a w) : cTail.wp Try.prog Q a w := by
  have hP := h.pw
  have hA := h.ag
  have h2 := h.s2
  have h10 := h.s10
  have h7 := h.s7
  have h8 := h.s8
  have h12 := h.s12
  have h13 := h.s13
  rw [fr_of a h.z h.d]
  unfold sl at h2 h10 h7 h8 h12 h13
  clear h
  generalize hg : (fun i => a.tmps.getD i undef) = g
  have k2 : g 2 = .slice ao na ca := by rw [← hg]; exact h2
  have k7 : g 7 = .pointer (some ⟨D, 0, none⟩) := by rw [← hg]; exact h7
  have k8 : g 8 = .pointer (some ⟨MM, 0, none⟩) := by rw [← hg]; exact h8
  have k10 : g 10 = .int .i64 (i : Int) := by rw [← hg]; exact h10
  have k12 : g 12 = .int .i64 at_ := by rw [← hg]; exact h12
  have k13 : g 13 = .bool (decide (0 ≤ at_) && decide (at_ < (s.n : Int))) := by rw [← hg]; exact h13
  clear h2 h7 h8 h10 h12 h13 hg
  unfold Fr
  rw [k2, k7, k8, k10, k12, k13]
  clear k2 k7 k8 k10 k12 k13
  have HP := hide hP
  have HA := hide hA
  have HQ := hide hQ
  clear hP hA hQ
  obtain ⟨cl, cs, cf, hrw⟩ := HP.out.md.row
  have m3 : w.cell? ⟨MM, 3, none⟩ = some (.bool dead) := hrw.cell 3
  have hdeW : ∀ W, PW B w0 D S M MM ML MS MF s L O Fh dead armed mn W → ∀ k, Calls Try.prog 18 #[.pointer (some ⟨D, 0, none⟩)] (W.drewN k) fun e w' => e = .returned (.bool dead) ∧ w' = W.drewN k := fun W hW k => by
    have := dead_any (W.drewN k) D S M s (hW.drewN k).dk
    rw [← HA.out.d] at this
    exact this
  have HDW := hide hdeW
  clear hdeW
  conv => arg 2; whnf
  cases hdd : dead
  · have hsd : s.dead = false := by rw [← HA.out.d]; exact hdd
    cases hin : (decide (0 ≤ at_) && decide (at_ < (s.n : Int)))
    · have hrd := read_out w D S M s HP.out.dk hsd at_ hin
      have hde := HDW.out w HP.out
      rw [hdd] at m3 hde
      have HDD := hide hdd
      clear hrw hdd
      go_wp2_with (go_at_call 17; refine hrd.mono ?_; rintro e w' ⟨rfl, hw⟩; rw [hw]; clear hw w')
      go_quiet ((go_at_call 18; exact Calls.quiet_of_same (hde _)))
      have HP2 := hide (HP.out.drewN nq)
      go_wp2
      exact HQ.out _ _ ⟨rfl, rfl, rfl, rfl, D, S, M, MM, ML, MS, MF, s, L, O, Fh, dead, armed, mn, rfl, rfl, HP2.out, HA.out⟩
    · obtain ⟨p, rfl, hpn⟩ : ∃ p : Nat, at_ = (p : Int) ∧ p < s.n := by
        simp at hin
        exact ⟨at_.toNat, by omega, by omega⟩
      have hrd := read_ok w D S M s HP.out.dk hsd p hpn
      obtain ⟨c1, lv, hr1, hv1⟩ := HP.out.md.rl
      obtain ⟨hc1, gl, capl, hlv, hll, hsu⟩ := hv1 p hpn
      rw [hlv] at hc1
      have HLL := hide hll
      rw [← HA.out.l p hpn] at hrd
      have HDD := hide hdd
      have hb1 : 0 < s.sz := by obtain ⟨sv, uv, hk⟩ := HP.out.dk; have := hk.b1; omega
      have hz0 : ((s.sz : Int) != 0) = true := by simp; omega
      clear hll hv1 hlv hdd hin m3
      generalize hZ : s.sz = Z at *
      go_wp2_with (go_at_call 17; refine hrd.mono ?_; rintro e w2 ⟨rfl, hR2, hB2⟩; have HP2 := hide (HP.out.below hB2); have hde := HDW.out w2 HP2.out; rw [HDD.out] at hde; have m3 : w2.cell? ⟨MM, 3, none⟩ = some (.bool dead) := (hrw.below hB2 hrw.lt).cell 3; rw [HDD.out] at m3; have m0 : w2.cell? ⟨MM, 0, none⟩ = some (.slice (some ⟨ML, 0, none⟩) s.n cl) := (hrw.below hB2 hrw.lt).cell 0; have m1 : w2.cell? ⟨ML, p, none⟩ = some (.slice (some ⟨gl, 0, none⟩) Z capl) := (by rw [(hr1.below hB2 hr1.lt).cell p]; exact hc1); have hbs : ∀ k, Calls Try.prog 19 #[.slice (some ⟨w.heap.size, 0, none⟩) Z Z, .slice (some ⟨gl, 0, none⟩) Z capl] (w2.drewN k) fun e w' => e = .returned (.bool true) ∧ w' = w2.drewN k := (fun k => bytes_same (L p) _ _ Z Z Z capl _ ((SlU.row hR2).heap (fun _ _ h => h)).sl ((hsu.heap (fun _ _ hg => hg.below hB2 hg.lt)).heap (fun _ _ h => h)).sl HLL HLL); clear hR2 hB2)
      go_quiet ((first | (go_at_call 18; exact Calls.quiet_of_same (hde _)) | (go_at_call 19; exact Calls.quiet_of_same (hbs _))))
      have HP3 := hide (HP2.out.drewN nq)
      go_wp2
      exact HQ.out _ _ ⟨rfl, rfl, rfl, rfl, D, S, M, MM, ML, MS, MF, s, L, O, Fh, dead, armed, mn, rfl, rfl, HP3.out, HA.out⟩
  · have hsd : s.dead = true := by rw [← HA.out.d]; exact hdd
    have hrd := read_dead w D S M s HP.out.dk hsd at_
    have hde := HDW.out w HP.out
    rw [hdd] at m3 hde
    have HDD := hide hdd
    clear hrw hdd
    go_wp2_with (go_at_call 17; refine hrd.mono ?_; rintro e w' ⟨rfl, hw⟩; rw [hw]; clear hw w')
    go_quiet ((go_at_call 18; exact Calls.quiet_of_same (hde _)))
    have HP2 := hide (HP.out.drewN nq)
    go_wp2
    exact HQ.out _ _ ⟨rfl, rfl, rfl, rfl, D, S, M, MM, ML, MS, MF, s, L, O, Fh, dead, armed, mn, rfl, rfl, HP2.out, HA.out⟩
end Go.Proofs.Ytmjdlejomohbdaa
