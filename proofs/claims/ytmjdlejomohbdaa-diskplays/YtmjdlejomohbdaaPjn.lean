/- The law DiskPlays: its pieces joined: the switch, a round, the loop. Made by gjn.py. -/
import Derived.Test.YtmjdlejomohbdaaPso
import Derived.Test.YtmjdlejomohbdaaPcp
import Derived.Test.YtmjdlejomohbdaaPcr
import Derived.Test.YtmjdlejomohbdaaPww
namespace Go.Proofs.Ytmjdlejomohbdaa
open Go.RowKit
set_option maxRecDepth 5000 in
theorem sw_any {B : Nat} {w0 : World} {ao : Option Addr} {na ca i : Nat} {t : ActT} {D S M MM ML MS MF X : Nat} {s : K.St} {L O : Nat → List UInt8} {Fh : Nat → Bool} {dead armed : Bool} {mn at_ : Int} {a : Act} {w : World} (Q : Exit → Act → World → Prop) (h : J1 B w0 ao na ca i t D S M MM ML MS MF X s L O Fh dead armed mn at_ a w) (hkp : t.keep < 18446744073709551616)
    (hQ : ∀ D S M s L O Fh dead armed mn a w, J2 B w0 ao na ca i D S M MM ML MS MF s L O Fh dead armed mn at_ a w → Q .normal a w) : cSw.wp Try.prog Q a w := by
  by_cases c0 : t.what = 0 ∨ t.what = 1 ∨ t.what = 2
  · refine sw_test Q h c0 fun a w h1 => w_fill _ h1 fun gB o m l a w hW => ?_
    have hQ' : ∀ D S M s L O Fh dead armed mn a w, J2 B w0 ao na ca i D S M MM ML MS MF s L O Fh dead armed mn at_ a w → Exit.inBlock 4 Q .normal a w := hQ
    cases hd : dead
    · cases hin : (decide (0 ≤ at_) && decide (at_ < (s.n : Int)))
      · exact w_out _ hW hd hin hQ'
      · rcases hW.om with ⟨ho, hm⟩ | ⟨ho, hm⟩
        · cases hc : s.can
          · exact w_cut _ hW hd hin hm hc hQ'
          · simp at hin
            exact w_ok _ hW hd at_.toNat (by omega) (by omega) ho hm hc hQ'
        · exact w_size _ hW hd hin (by omega) hQ'
    · exact w_dead _ hW hd hQ'
  · by_cases c3 : t.what = 3
    · cases hd : dead
      · cases hc : s.can
        · exact sw_sync_cut Q h c3 hd hc hQ
        · exact sw_sync_ok Q h c3 hd hc hQ
      · exact sw_sync_dead Q h c3 hd hQ
    · by_cases c4 : t.what = 4
      · exact sw_cut Q h c4 hQ
      · by_cases c5 : t.what = 5
        · exact sw_crash Q h c5 hkp hQ
        · by_cases c6 : t.what = 6
          · exact sw_copy Q h c6 hQ
          · exact sw_other Q h (fun j h0 h6 e => by omega) hQ
set_option maxHeartbeats 1500000 in
set_option maxRecDepth 100000 in
theorem inc_any {B : Nat} {w0 : World} {ao : Option Addr} {na ca i : Nat} {a : Act} {w : World} (Q : Exit → Act → World → Prop) (h : J0 B w0 ao na ca i a w) (hi : i < 1000) (hQ : ∀ a, J0 B w0 ao na ca (i + 1) a w → Q .normal a w) : (cR (cR cBody)).wp Try.prog Q a w := by
  have h2 := h.s2
  have h10 := h.s10
  obtain ⟨D, S, M, MM, ML, MS, MF, s, L, O, Fh, dead, armed, mn, h7, h8, hP, hA⟩ := h.st
  rw [fr_of a h.z h.d]
  unfold sl at h2 h10 h7 h8
  clear h
  generalize hg : (fun i => a.tmps.getD i undef) = g
  have k2 : g 2 = .slice ao na ca := by rw [← hg]; exact h2
  have k7 : g 7 = .pointer (some ⟨D, 0, none⟩) := by rw [← hg]; exact h7
  have k8 : g 8 = .pointer (some ⟨MM, 0, none⟩) := by rw [← hg]; exact h8
  have k10 : g 10 = .int .i64 (i : Int) := by rw [← hg]; exact h10
  clear h2 h7 h8 h10 hg
  unfold Fr
  rw [k2, k7, k8, k10]
  clear k2 k7 k8 k10
  have hadd : IntKind.i64.wrap ((i : Int) + 1) = ((i + 1 : Nat) : Int) := by rw [IntKind.wrap_i64]; omega
  have HQ := hide hQ
  have HP := hide hP
  have HA := hide hA
  clear hQ hP hA
  conv => arg 2; whnf
  go_wp2
  exact HQ.out _ ⟨rfl, rfl, rfl, rfl, D, S, M, MM, ML, MS, MF, s, L, O, Fh, dead, armed, mn, rfl, rfl, HP.out, HA.out⟩
set_option maxHeartbeats 1500000 in
set_option maxRecDepth 100000 in
theorem head_any {B : Nat} {w0 : World} {ao : Option Addr} {na ca i : Nat} {a : Act} {w : World} (Q : Exit → Act → World → Prop) (h : J0 B w0 ao na ca i a w) (h1 : i < na → ∀ a, J0 B w0 ao na ca i a w → Q .normal a w) (h2 : ¬ i < na → ∀ a, J0 B w0 ao na ca i a w → Q (.exit 2) a w) : (cL cBody).wp Try.prog Q a w := by
  have H1 := hide h1
  have H2 := hide h2
  clear h1 h2
  have h2 := h.s2
  have h10 := h.s10
  obtain ⟨D, S, M, MM, ML, MS, MF, s, L, O, Fh, dead, armed, mn, h7, h8, hP, hA⟩ := h.st
  rw [fr_of a h.z h.d]
  unfold sl at h2 h10 h7 h8
  clear h
  generalize hg : (fun i => a.tmps.getD i undef) = g
  have k2 : g 2 = .slice ao na ca := by rw [← hg]; exact h2
  have k7 : g 7 = .pointer (some ⟨D, 0, none⟩) := by rw [← hg]; exact h7
  have k8 : g 8 = .pointer (some ⟨MM, 0, none⟩) := by rw [← hg]; exact h8
  have k10 : g 10 = .int .i64 (i : Int) := by rw [← hg]; exact h10
  clear h2 h7 h8 h10 hg
  unfold Fr
  rw [k2, k7, k8, k10]
  clear k2 k7 k8 k10
  have HP := hide hP
  have HA := hide hA
  clear hP hA
  conv => arg 2; whnf
  by_cases hlt : i < na
  · have hd : decide ((i : Int) < (na : Int)) = true := by simp; exact hlt
    go_wp2
    exact H1.out hlt _ ⟨rfl, rfl, rfl, rfl, D, S, M, MM, ML, MS, MF, s, L, O, Fh, dead, armed, mn, rfl, rfl, HP.out, HA.out⟩
  · have hd : decide ((i : Int) < (na : Int)) = false := by simp; omega
    go_wp2
    exact H2.out hlt _ ⟨rfl, rfl, rfl, rfl, D, S, M, MM, ML, MS, MF, s, L, O, Fh, dead, armed, mn, rfl, rfl, HP.out, HA.out⟩
/- the acts that came in -/
def Acts (w : World) (ao : Option Addr) (na : Nat) : Prop := ∀ i, i < na → ∃ (t : ActT) (b o : Nat), ao = some ⟨b, o, none⟩ ∧ b < w.heap.size ∧ t.keep < 18446744073709551616 ∧ ∀ k, k < 5 → w.cell? ⟨b, o + i * 5 + k, none⟩ = (actRow t)[k]?
/- behind the loop -/
structure JE (B : Nat) (w0 : World) (a : Act) (w : World) : Prop where
  z : a.tmps.size = 386
  d : a.defers = []
  bel : Below B w0 w
def cntOf (a : Act) : Nat := match sl a 10 with | .int _ x => x.toNat | _ => 0
set_option maxRecDepth 5000 in
theorem main_any {w0 : World} {ao : Option Addr} {na ca : Nat} {a : Act} {w : World} (hacts : Acts w0 ao na) (hna : na ≤ 60) (h : J0 w0.heap.size w0 ao na ca 0 a w) : cMain.wp Try.prog (NJ (JE w0.heap.size w0)) a w := by
  have e : cMain = .block 2 (.loop cBody) := by kernel_rfl
  have e1 : cBody = .seq (cL cBody) (.seq (.block 3 cWork) (cR (cR cBody))) := by kernel_rfl
  have e2 : cR (cR (cR cWork)) = .seq cSw cTail := by kernel_rfl
  rw [e]
  refine wp_block (wp_loop (fun a w => ∃ i, i ≤ na ∧ J0 w0.heap.size w0 ao na ca i a w) (fun a _ => na - cntOf a) ⟨0, Nat.zero_le _, h⟩ ?_)
  rintro a w ⟨i, hi, hJ⟩
  have hm : cntOf a = i := by unfold cntOf; rw [hJ.s10]; rfl
  rw [e1]
  refine wp_seq (head_any _ hJ (fun hlt a' hJ' => ?_) (fun _ a' hJ' => ?_))
  · show (Code.seq (.block 3 cWork) (cR (cR cBody))).wp Try.prog _ a' w
    refine wp_seq (wp_block ?_)
    obtain ⟨t, b, o, hao, hb, hkp, hc⟩ := hacts i hlt
    have hbel : Below w0.heap.size w0 w := by obtain ⟨D, S, M, MM, ML, MS, MF, s, L, O, Fh, dead, armed, mn, h7, h8, hP, hA⟩ := hJ'.st; exact hP.bel
    refine piece1 _ t b o hao (fun k hk => (hbel.cell (p := ⟨b, o + i * 5 + k, none⟩) hb).trans (hc k hk)) hlt hJ' (fun D S M MM ML MS MF X s L O Fh dead armed mn at_ a w hJ1 => ?_)
    rw [e2]
    refine wp_seq (sw_any _ hJ1 hkp (fun D S M s L O Fh dead armed mn a w hJ2 => ?_))
    show cTail.wp Try.prog _ a w
    refine tail_any _ hJ2 (fun a w hJ0 => ?_)
    show (cR (cR cBody)).wp Try.prog _ a w
    refine inc_any _ hJ0 (by omega) (fun a hJ3 => ?_)
    show (∃ i, i ≤ na ∧ J0 w0.heap.size w0 ao na ca i a w) ∧ _
    refine ⟨⟨i + 1, by omega, hJ3⟩, ?_⟩
    have hm3 : cntOf a = i + 1 := by unfold cntOf; rw [hJ3.s10]; rfl
    show na - cntOf a < na - cntOf _
    omega
  · obtain ⟨D, S, M, MM, ML, MS, MF, s, L, O, Fh, dead, armed, mn, h7, h8, hP, hA⟩ := hJ'.st
    exact ⟨hJ'.z, hJ'.d, hP.bel⟩
end Go.Proofs.Ytmjdlejomohbdaa
