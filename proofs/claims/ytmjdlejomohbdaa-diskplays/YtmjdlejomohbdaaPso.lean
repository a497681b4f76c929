/- The law DiskPlays: acts of no kind, and Cut. Made by gsw.py. -/
import Derived.Test.YtmjdlejomohbdaaPtl
namespace Go.Proofs.Ytmjdlejomohbdaa
open Go.RowKit
set_option maxHeartbeats 1500000 in
set_option maxRecDepth 100000 in
theorem sw_other {B : Nat} {w0 : World} {ao : Option Addr} {na ca i : Nat} {t : ActT} {D S M MM ML MS MF X : Nat} {s : K.St} {L O : Nat → List UInt8} {Fh : Nat → Bool} {dead armed : Bool} {mn at_ : Int} {a : Act} {w : World} (Q : Exit → Act → World → Prop) (h : J1 B w0 ao na ca i t D S M MM ML MS MF X s L O Fh dead armed mn at_ a w) (hk : ∀ j : Int, 0 ≤ j → j ≤ 6 → t.what ≠ j)
    (hQ : ∀ D S M s L O Fh dead armed mn a w, J2 B w0 ao na ca i D S M MM ML MS MF s L O Fh dead armed mn at_ a w → Q .normal a w) : cSw.wp Try.prog Q a w := by
  have hP := h.pw
  have hA := h.ag
  have hX := h.rx
  have h2 := h.s2
  have h10 := h.s10
  have h7 := h.s7
  have h8 := h.s8
  have h11 := h.s11
  have h12 := h.s12
  have h13 := h.s13
  rw [fr_of a h.z h.d]
  unfold sl at h2 h10 h7 h8 h11 h12 h13
  clear h
  generalize hg : (fun i => a.tmps.getD i undef) = g
  have k2 : g 2 = .slice ao na ca := by rw [← hg]; exact h2
  have k7 : g 7 = .pointer (some ⟨D, 0, none⟩) := by rw [← hg]; exact h7
  have k8 : g 8 = .pointer (some ⟨MM, 0, none⟩) := by rw [← hg]; exact h8
  have k10 : g 10 = .int .i64 (i : Int) := by rw [← hg]; exact h10
  have k11 : g 11 = .pointer (some ⟨X, 0, none⟩) := by rw [← hg]; exact h11
  have k12 : g 12 = .int .i64 at_ := by rw [← hg]; exact h12
  have k13 : g 13 = .bool (decide (0 ≤ at_) && decide (at_ < (s.n : Int))) := by rw [← hg]; exact h13
  clear h2 h7 h8 h10 h11 h12 h13 hg
  unfold Fr
  rw [k2, k7, k8, k10, k11, k12, k13]
  clear k2 k7 k8 k10 k11 k12 k13
  have HP := hide hP
  have HA := hide hA
  have HQ := hide hQ
  have HX := hide hX
  have x0 : w.cell? ⟨X, 0, none⟩ = some (.int .i64 t.what) := hX.cell 0
  clear hP hA hQ hX
  have t0 : (t.what == 0) = false := by simpa using hk 0 (by omega) (by omega)
  have t1 : (t.what == 1) = false := by simpa using hk 1 (by omega) (by omega)
  have t2 : (t.what == 2) = false := by simpa using hk 2 (by omega) (by omega)
  have t3 : (t.what == 3) = false := by simpa using hk 3 (by omega) (by omega)
  have t4 : (t.what == 4) = false := by simpa using hk 4 (by omega) (by omega)
  have t5 : (t.what == 5) = false := by simpa using hk 5 (by omega) (by omega)
  have t6 : (t.what == 6) = false := by simpa using hk 6 (by omega) (by omega)
  clear hk
  conv => arg 2; whnf
  go_wp2
  exact HQ.out _ _ _ _ _ _ _ _ _ _ _ _ ⟨rfl, rfl, rfl, rfl, rfl, rfl, rfl, rfl, HP.out, HA.out⟩
set_option maxRecDepth 5000 in
theorem agr_cut {s : K.St} {L O : Nat → List UInt8} {Fh : Nat → Bool} {dead armed : Bool} {mn : Int} (h : Agr s L O Fh dead armed mn) (c : Int) (hc : c ≤ 1000000) : Agr (s.cutAt c.toNat) L O Fh dead true (max c 0) :=
  ⟨h.l, h.o, h.f, h.d, rfl, fun _ => (by show max c 0 = (c.toNat : Int); omega), by omega, by omega⟩
set_option maxHeartbeats 1500000 in
set_option maxRecDepth 100000 in
theorem sw_cut {B : Nat} {w0 : World} {ao : Option Addr} {na ca i : Nat} {t : ActT} {D S M MM ML MS MF X : Nat} {s : K.St} {L O : Nat → List UInt8} {Fh : Nat → Bool} {dead armed : Bool} {mn at_ : Int} {a : Act} {w : World} (Q : Exit → Act → World → Prop) (h : J1 B w0 ao na ca i t D S M MM ML MS MF X s L O Fh dead armed mn at_ a w) (hk : t.what = 4)
    (hQ : ∀ D S M s L O Fh dead armed mn a w, J2 B w0 ao na ca i D S M MM ML MS MF s L O Fh dead armed mn at_ a w → Q .normal a w) : cSw.wp Try.prog Q a w := by
  have hP := h.pw
  have hA := h.ag
  have hX := h.rx
  have h2 := h.s2
  have h10 := h.s10
  have h7 := h.s7
  have h8 := h.s8
  have h11 := h.s11
  have h12 := h.s12
  have h13 := h.s13
  rw [fr_of a h.z h.d]
  unfold sl at h2 h10 h7 h8 h11 h12 h13
  clear h
  generalize hg : (fun i => a.tmps.getD i undef) = g
  have k2 : g 2 = .slice ao na ca := by rw [← hg]; exact h2
  have k7 : g 7 = .pointer (some ⟨D, 0, none⟩) := by rw [← hg]; exact h7
  have k8 : g 8 = .pointer (some ⟨MM, 0, none⟩) := by rw [← hg]; exact h8
  have k10 : g 10 = .int .i64 (i : Int) := by rw [← hg]; exact h10
  have k11 : g 11 = .pointer (some ⟨X, 0, none⟩) := by rw [← hg]; exact h11
  have k12 : g 12 = .int .i64 at_ := by rw [← hg]; exact h12
  have k13 : g 13 = .bool (decide (0 ≤ at_) && decide (at_ < (s.n : Int))) := by rw [← hg]; exact h13
  clear h2 h7 h8 h10 h11 h12 h13 hg
  unfold Fr
  rw [k2, k7, k8, k10, k11, k12, k13]
  clear k2 k7 k8 k10 k11 k12 k13
  have HP := hide hP
  have HA := hide hA
  have HQ := hide hQ
  have HX := hide hX
  have x0 : w.cell? ⟨X, 0, none⟩ = some (.int .i64 t.what) := hX.cell 0
  clear hP hA hQ hX
  have t0 : (t.what == 0) = false := by rw [hk]; decide
  have t1 : (t.what == 1) = false := by rw [hk]; decide
  have t2 : (t.what == 2) = false := by rw [hk]; decide
  have t3 : (t.what == 3) = false := by rw [hk]; decide
  have t4 : (t.what == 4) = true := by rw [hk]; decide
  clear hk
  have x2 : w.cell? ⟨X, 2, none⟩ = some (.int .i64 t.n) := HX.out.cell 2
  have hpl : ∀ W, Calls Try.prog 7 #[.int .i64 t.n, .int .i64 7] W fun e w' => e = .returned (.int .i64 (plc t.n 7)) ∧ w' = W := fun W => place_is t.n 7 W (by omega) (by omega)
  have hpb := plc_bounds t.n 7 (by omega)
  obtain ⟨p, hp⟩ : ∃ p, p = plc t.n 7 := ⟨_, rfl⟩
  rw [← hp] at hpl hpb
  clear hp
  obtain ⟨cc, hcc⟩ : ∃ cc, cc = p - 1 := ⟨_, rfl⟩
  have hw3 : IntKind.i64.wrap (p - 1) = cc := by rw [IntKind.wrap_i64]; omega
  have hcu := cut_any w D S M s HP.out.dk cc (by omega)
  have HA2 := hide (agr_cut HA.out cc (by omega))
  clear hpb hcc
  conv => arg 2; whnf
  go_wp2_with (first
    | (go_at_call 7; refine (hpl _).mono ?_; rintro e w' ⟨rfl, hw⟩; rw [hw]; clear hw w')
    | (go_at_call 14; refine hcu.mono ?_; rintro e w2 ⟨rfl, hD2, hM2, _⟩; have HP2 := hide (HP.out.mv hD2 hM2 rfl rfl HP.out.bM); obtain ⟨cl, cs, cf, hrw⟩ := HP2.out.md.row; have m4 : w2.cell? ⟨MM, 4, none⟩ = some (.bool armed) := hrw.cell 4; have m5 : w2.cell? ⟨MM, 5, none⟩ = some (.int .i64 mn) := hrw.cell 5; have n4 := hrw.frozen 4; have n5 := hrw.frozen 5; have HP3 := hide (HP2.out.setM 4 (.bool true) (HP2.out.md.setRow 4 (.bool true) (dead' := dead) (armed' := true) (mn' := mn) (fun _ _ _ => rfl))); have HP4 := hide (HP3.out.setM 5 (.int .i64 (max cc 0)) (HP3.out.md.setRow 5 (.int .i64 (max cc 0)) (dead' := dead) (armed' := true) (mn' := max cc 0) (fun _ _ _ => rfl))); clear hD2 hM2 hrw))
  exact HQ.out D S M (s.cutAt cc.toNat) L O Fh dead true (max cc 0) _ _ ⟨rfl, rfl, rfl, rfl, rfl, rfl, rfl, rfl, HP4.out, HA2.out⟩
end Go.Proofs.Ytmjdlejomohbdaa
