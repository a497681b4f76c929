/- The law DiskPlays: Copy. Made by gsw.py. -/
import Derived.Test.YtmjdlejomohbdaaPtl
namespace Go.Proofs.Ytmjdlejomohbdaa
open Go.RowKit
/- a Write, whatever comes of it -/
set_option maxRecDepth 5000 in
theorem write_some {A : Nat → Prop} (w : World) (D S M : Nat) (s : K.St) (h : DiskAt A w D S M s) (ao : Option Addr) (c : Nat) (l : List UInt8) (hl : l.length = s.sz) (hs : SlU w ao l) : Calls Try.prog 12 #[.pointer (some ⟨D, 0, none⟩), .int .i64 0, .slice ao l.length c] w fun e w' => ∃ x s', e = .returned (.int .i64 x) ∧ DiskAt A w' D S M s' ∧ Mv D S M w w' := by
  have hn : 1 ≤ s.n := by obtain ⟨sv, uv, hk⟩ := h; exact hk.b3
  cases hd : s.dead
  · cases hc : s.can
    · refine (write_cut w D S M s h hd 0 (by simp; omega) ao l.length c hl hc).mono ?_
      rintro e w' ⟨rfl, h1, h2⟩
      exact ⟨_, _, rfl, h1, h2⟩
    · refine (write_ok w D S M s h hd 0 (by omega) ao c l hl hs hc).mono ?_
      rintro e w' ⟨rfl, h1, h2⟩
      exact ⟨_, _, rfl, h1, h2⟩
  · refine (write_dead w D S M s h hd 0 _).mono ?_
    rintro e w' ⟨rfl, rfl⟩
    exact ⟨_, _, rfl, h, Mv.refl _ _ _ _⟩
/- another disk is kept -/
set_option maxRecDepth 5000 in
theorem DiskAt.apart {A : Nat → Prop} {w w' : World} {D S M C S' M' : Nat} {s s2 : K.St} (h : DiskAt A w C S' M' s) (hd : DiskAt A w D S M s2) (hm : Mv D S M w w') (h1 : S' ≠ S) (h2 : C ≠ D) (h3 : M' ≠ M) : DiskAt A w' C S' M' s := by
  obtain ⟨sv, uv, hk⟩ := h
  obtain ⟨sv2, uv2, hk2⟩ := hd
  exact ⟨sv, uv, hk.keepA hm.size (hm.block C hk.row.lt h2 (fun e => hk.row.ne hk2.sure tne3 e) (hk2.un.row_ne hk.row)) (hm.block S' hk.sure.lt (fun e => hk2.row.ne hk.sure tne3 e.symm) h1 (hk2.un.row_ne hk.sure)) (hm.block M' hk.un.lt (fun e => hk.un.row_ne hk2.row e.symm) (fun e => hk.un.row_ne hk2.sure e.symm) h3) (hm.rows hk2).any⟩
set_option maxRecDepth 5000 in
theorem PW.other {B : Nat} {w0 w w' : World} {D S M MM ML MS MF C S' M' M2 : Nat} {s : K.St} {s2 s3 : K.St} {L O : Nat → List UInt8} {Fh : Nat → Bool} {dead armed : Bool} {mn : Int} (h : PW B w0 C S' M' MM ML MS MF s L O Fh dead armed mn w) (hd : DiskAt (fun _ => False) w D S M s2) (hm : Mv D S M w w') (_hd' : DiskAt (fun _ => False) w' D S M2 s3) (h1 : S' ≠ S) (h2 : C ≠ D) (h3 : M' ≠ M) (h4 : ML ≠ S) (h5 : MS ≠ S) (hB : B ≤ D) (hB2 : B ≤ S) (hB3 : B ≤ M) : PW B w0 C S' M' MM ML MS MF s L O Fh dead armed mn w' :=
  ⟨h.dk.apart hd hm h1 h2 h3, h.md.mv hd hm h4 h5, hm.below h.bel h.lt hB hB2 hB3, h.bD, h.bS, h.bM, h.bMM, h.bML, h.bMS, h.bMF, h.n1, h.n2, h.n3⟩
set_option maxHeartbeats 1500000 in
set_option maxRecDepth 100000 in
theorem sw_copy {B : Nat} {w0 : World} {ao : Option Addr} {na ca i : Nat} {t : ActT} {D S M MM ML MS MF X : Nat} {s : K.St} {L O : Nat → List UInt8} {Fh : Nat → Bool} {dead armed : Bool} {mn at_ : Int} {a : Act} {w : World} (Q : Exit → Act → World → Prop) (h : J1 B w0 ao na ca i t D S M MM ML MS MF X s L O Fh dead armed mn at_ a w) (hk : t.what = 6)
    (hQ : ∀ D S M s L O Fh dead armed mn a w, J2 B w0 ao na ca i D S M MM ML MS MF s L O Fh dead armed mn at_ a w → Q .normal a w) : cSw.wp Try.prog Q a w := by
  have hP := h.pw
  have hA := h.ag
  have hX := h.rx
  have h2 := h.s2
  have h10 := h.s10
  have h7 := h.s7
  have h8 := h.s8
  have h11 := h.s11
  have h12 := h.s12
  have h13 := h.s13
  rw [fr_of a h.z h.d]
  unfold sl at h2 h10 h7 h8 h11 h12 h13
  clear h
  generalize hg : (fun i => a.tmps.getD i undef) = g
  have k2 : g 2 = .slice ao na ca := by rw [← hg]; exact h2
  have k7 : g 7 = .pointer (some ⟨D, 0, none⟩) := by rw [← hg]; exact h7
  have k8 : g 8 = .pointer (some ⟨MM, 0, none⟩) := by rw [← hg]; exact h8
  have k10 : g 10 = .int .i64 (i : Int) := by rw [← hg]; exact h10
  have k11 : g 11 = .pointer (some ⟨X, 0, none⟩) := by rw [← hg]; exact h11
  have k12 : g 12 = .int .i64 at_ := by rw [← hg]; exact h12
  have k13 : g 13 = .bool (decide (0 ≤ at_) && decide (at_ < (s.n : Int))) := by rw [← hg]; exact h13
  clear h2 h7 h8 h10 h11 h12 h13 hg
  unfold Fr
  rw [k2, k7, k8, k10, k11, k12, k13]
  clear k2 k7 k8 k10 k11 k12 k13
  have HP := hide hP
  have HA := hide hA
  have HQ := hide hQ
  have HX := hide hX
  have x0 : w.cell? ⟨X, 0, none⟩ = some (.int .i64 t.what) := hX.cell 0
  clear hP hA hQ hX
  have t0 : (t.what == 0) = false := by rw [hk]; decide
  have t1 : (t.what == 1) = false := by rw [hk]; decide
  have t2 : (t.what == 2) = false := by rw [hk]; decide
  have t3 : (t.what == 3) = false := by rw [hk]; decide
  have t4 : (t.what == 4) = false := by rw [hk]; decide
  have t5 : (t.what == 5) = false := by rw [hk]; decide
  have t6 : (t.what == 6) = true := by rw [hk]; decide
  clear hk
  have hcp := copy_any w D S M s HP.out.dk
  have hlt : D < w.heap.size ∧ S < w.heap.size ∧ M < w.heap.size ∧ ML < w.heap.size ∧ MS < w.heap.size := by
    obtain ⟨sv, uv, hk⟩ := HP.out.dk
    obtain ⟨c1, l1, hr1, _⟩ := HP.out.md.rl
    obtain ⟨c2, l2, hr2, _⟩ := HP.out.md.rs
    exact ⟨hk.row.lt, hk.sure.lt, hk.un.lt, hr1.lt, hr2.lt⟩
  have hz4 : s.sz ≤ 4096 := by obtain ⟨sv, uv, hk⟩ := HP.out.dk; exact hk.b2
  have hmk := make_zeros s.sz (by omega)
  have HLT := hide hlt
  clear hlt
  conv => arg 2; whnf
  go_wp2_with (first
    | (go_at_call 16; refine hcp.mono ?_; rintro e w2 ⟨C, S', M', rfl, hD2, hB2, hC, hS', hM'⟩; have HD0 := hide (HP.out.dk.below hB2 (Nat.le_refl _)); have HP2 : Hid (PW B w0 C S' M' MM ML MS MF s L O Fh dead armed mn w2) := ⟨hD2, HP.out.md.below hB2 (Nat.le_refl _), HP.out.bel.trans (hB2.mono HP.out.lt), Nat.le_trans HP.out.lt hC, Nat.le_trans HP.out.lt hS', Nat.le_trans HP.out.lt hM', HP.out.bMM, HP.out.bML, HP.out.bMS, HP.out.bMF, HP.out.n1, by have := HLT.out; omega, by have := HLT.out; omega⟩; have HNE : Hid (S' ≠ S ∧ C ≠ D ∧ M' ≠ M) := (by have := HLT.out; exact ⟨by omega, by omega, by omega⟩); have hsz := size_any w2 D S M s HD0.out; have hwr := write_some (w2.alloc (.cells (vb (List.replicate s.sz 0)).toArray 5)) D S M s (HD0.out.alloc _) (some ⟨w2.heap.size, 0, none⟩) s.sz (List.replicate s.sz 0) (by simp) (SlU.row (RowAt.new w2 _ _)); rw [List.length_replicate] at hwr; clear hD2 hB2 hC hS' hM' hcp)
    | (go_at_call 10; refine hsz.mono ?_; rintro e w' ⟨rfl, hw⟩; rw [hw]; clear hw w')
    | (go_at_call 12; refine hwr.mono ?_; rintro e w3 ⟨xw, s3, rfl, hD3, hM3⟩; have HD3 := hide hD3; have HP3 := hide ((HP2.out.below ((Below.refl _ w2).alloc (Nat.le_refl _) _)).other (HD0.out.alloc _) hM3 hD3 HNE.out.1 HNE.out.2.1 HNE.out.2.2 HP.out.n2 HP.out.n3 HP.out.bD HP.out.bS HP.out.bM); have hcr := crash_any w3 D S M s3 HD3.out 0 (by omega); clear hD3 hM3)
    | (go_at_call 15; refine hcr.mono ?_; rintro e w4 ⟨rfl, M4, hD4, hM4, _, _⟩; have HP4 := hide (HP3.out.other HD3.out hM4 hD4 HNE.out.1 HNE.out.2.1 HNE.out.2.2 HP.out.n2 HP.out.n3 HP.out.bD HP.out.bS HP.out.bM); clear hD4 hM4))
  exact HQ.out C S' M' s L O Fh dead armed mn _ _ ⟨rfl, rfl, rfl, rfl, rfl, rfl, rfl, rfl, HP4.out, HA.out⟩
end Go.Proofs.Ytmjdlejomohbdaa
