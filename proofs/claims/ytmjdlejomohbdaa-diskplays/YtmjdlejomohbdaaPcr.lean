/- The law DiskPlays: Crash. Made by gcr.py. -/
import Derived.Test.YtmjdlejomohbdaaPrf
namespace Go.Proofs.Ytmjdlejomohbdaa
open Go.RowKit
set_option maxHeartbeats 1500000 in
set_option maxRecDepth 100000 in
theorem sw_crash {B : Nat} {w0 : World} {ao : Option Addr} {na ca i : Nat} {t : ActT} {D S M MM ML MS MF X : Nat} {s : K.St} {L O : Nat → List UInt8} {Fh : Nat → Bool} {dead armed : Bool} {mn at_ : Int} {a : Act} {w : World} (Q : Exit → Act → World → Prop) (h : J1 B w0 ao na ca i t D S M MM ML MS MF X s L O Fh dead armed mn at_ a w) (hk : t.what = 5) (hkp : t.keep < 18446744073709551616)
    (hQ : ∀ D S M s L O Fh dead armed mn a w, J2 B w0 ao na ca i D S M MM ML MS MF s L O Fh dead armed mn at_ a w → Q .normal a w) : cSw.wp Try.prog Q a w := by
  have hP := h.pw
  have hA := h.ag
  have hX := h.rx
  have h2 := h.s2
  have h10 := h.s10
  have h7 := h.s7
  have h8 := h.s8
  have h11 := h.s11
  have h12 := h.s12
  have h13 := h.s13
  rw [fr_of a h.z h.d]
  unfold sl at h2 h10 h7 h8 h11 h12 h13
  clear h
  generalize hg : (fun i => a.tmps.getD i undef) = g
  have k2 : g 2 = .slice ao na ca := by rw [← hg]; exact h2
  have k7 : g 7 = .pointer (some ⟨D, 0, none⟩) := by rw [← hg]; exact h7
  have k8 : g 8 = .pointer (some ⟨MM, 0, none⟩) := by rw [← hg]; exact h8
  have k10 : g 10 = .int .i64 (i : Int) := by rw [← hg]; exact h10
  have k11 : g 11 = .pointer (some ⟨X, 0, none⟩) := by rw [← hg]; exact h11
  have k12 : g 12 = .int .i64 at_ := by rw [← hg]; exact h12
  have k13 : g 13 = .bool (decide (0 ≤ at_) && decide (at_ < (s.n : Int))) := by rw [← hg]; exact h13
  clear h2 h7 h8 h10 h11 h12 h13 hg
  unfold Fr
  rw [k2, k7, k8, k10, k11, k12, k13]
  clear k2 k7 k8 k10 k11 k12 k13
  have HP := hide hP
  have HA := hide hA
  have HQ := hide hQ
  have HX := hide hX
  have x0 : w.cell? ⟨X, 0, none⟩ = some (.int .i64 t.what) := hX.cell 0
  clear hP hA hQ hX
  have t0 : (t.what == 0) = false := by rw [hk]; decide
  have t1 : (t.what == 1) = false := by rw [hk]; decide
  have t2 : (t.what == 2) = false := by rw [hk]; decide
  have t3 : (t.what == 3) = false := by rw [hk]; decide
  have t4 : (t.what == 4) = false := by rw [hk]; decide
  have t5 : (t.what == 5) = true := by rw [hk]; decide
  clear hk
  have x3 : w.cell? ⟨X, 3, none⟩ = some (.int .u64 (t.keep : Int)) := HX.out.cell 3
  have hcr := crash_any w D S M s HP.out.dk t.keep hkp
  have hn4 : s.n ≤ 4096 := by obtain ⟨sv, uv, hk⟩ := HP.out.dk; exact hk.b4
  obtain ⟨n, hn⟩ : ∃ n, n = s.n := ⟨_, rfl⟩
  rw [← hn] at hn4
  have HN := hide hn
  obtain ⟨kp, hkpe⟩ : ∃ kp, kp = t.keep := ⟨_, rfl⟩
  rw [← hkpe] at hkp hcr x3
  have HKP := hide hkpe
  have HN2 : Hid ((s.crashed kp).n = n) := hn.symm
  obtain ⟨Z, hZ⟩ : ∃ Z, Z = s.sz := ⟨_, rfl⟩
  have HZ2 : Hid ((s.crashed kp).sz = Z) := hZ.symm
  clear hn hkpe hZ
  conv => arg 2; whnf
  go_wp2_with (go_at_call 15; refine hcr.mono ?_; rintro e w2 ⟨rfl, M2, hD2, hM2, hm1, hm2⟩; have HP2 := hide (HP.out.mv hD2 hM2 rfl rfl (Nat.le_trans HP.out.lt hm1)); have HX2 := hide (HP.out.act HX.out hM2); clear hD2 hM2 hm1 hm2)
  clear hcr x0 x3 t0 t1 t2 t3 t4 t5
  go_loopw [20, 21] (fun kv jv wr => ∃ (jj kc : Nat) (L' O' : Nat → List UInt8) (F' : Nat → Bool), kv = .int .i64 (kc : Int) ∧ jv = .int .i64 (jj : Int) ∧ jj ≤ n ∧ kc = K.cnt (K.fr s) jj ∧ PW B w0 D S M2 MM ML MS MF (s.crashed kp) L' O' F' dead armed mn wr ∧ RowAt wr X 36 (actRow t) ∧ ∀ i, i < n → (L' i = if i < jj then crL s kp i else L i) ∧ (O' i = if i < jj then crL s kp i else O i) ∧ (F' i = if i < jj then false else Fh i))
    (fun _ jv _ => n - (match jv with | .int _ x => x.toNat | _ => 0))
  case atStart => exact ⟨0, 0, L, O, Fh, rfl, rfl, Nat.zero_le _, rfl, HP2.out, HX2.out, fun i _ => ⟨rfl, rfl, rfl⟩⟩
  case round =>
    obtain ⟨jj, kc, L', O', F', rfl, rfl, hjj, hkc, hPr, hXr, hall⟩ := hrel
    have HPr := hide hPr
    have HXr := hide hXr
    have HALL := hide hall
    have HKC := hide hkc
    clear hPr hXr hall hkc
    by_cases hlt : jj < n
    · have hd : decide ((jj : Int) < (n : Int)) = true := by simp; exact hlt
      have hjn : jj < (s.crashed kp).n := by show jj < s.n; rw [← HN.out]; exact hlt
      have hkc4 : kc ≤ 4096 := by rw [HKC.out]; have := K.cnt_self (K.fr s) jj; omega
      obtain ⟨hl0, ho0, hf0⟩ := HALL.out jj hlt
      rw [if_neg (Nat.lt_irrefl _)] at hl0 ho0 hf0
      have hLj : L' jj = s.rd jj := by rw [hl0]; exact HA.out.l jj (by rw [← HN.out]; exact hlt)
      have hOj : O' jj = s.old jj := by rw [ho0]; exact HA.out.o jj (by rw [← HN.out]; exact hlt)
      have hFj : F' jj = K.fr s jj := by rw [hf0]; exact HA.out.f jj (by rw [← HN.out]; exact hlt)
      have HL := hide hLj
      have HO := hide hOj
      have hadd : IntKind.i64.wrap ((jj : Int) + 1) = ((jj + 1 : Nat) : Int) := by rw [IntKind.wrap_i64]; omega
      have haddk : IntKind.i64.wrap ((kc : Int) + 1) = ((kc + 1 : Nat) : Int) := by rw [IntKind.wrap_i64]; omega
      obtain ⟨clr, csr, cfr, hrwr⟩ := HPr.out.md.row
      obtain ⟨c3r, hr3r, hv3r⟩ := HPr.out.md.rf
      have y0 : wr.cell? ⟨MM, 0, none⟩ = some (.slice (some ⟨ML, 0, none⟩) n clr) := by rw [HN.out]; exact hrwr.cell 0
      have y2 : wr.cell? ⟨MM, 2, none⟩ = some (.slice (some ⟨MF, 0, none⟩) n cfr) := by rw [HN.out]; exact hrwr.cell 2
      have y3 : wr.cell? ⟨MF, jj, none⟩ = some (.bool (F' jj)) := by rw [hr3r.cell jj]; exact hv3r jj hjn
      have hbt := bit_and kp (kc % 64) hkp
      have x3 : wr.cell? ⟨X, 3, none⟩ = some (.int .u64 (kp : Int)) := by rw [HKP.out]; exact HXr.out.cell 3
      clear hl0 ho0 hf0 hLj hOj hrwr hr3r hv3r
      rw [hFj] at y3
      cases hfr : K.fr s jj
      · rw [hfr] at y3
        have HFR := hide hfr
        clear hfr hFj hbt x3
        have hstep : ∀ i, i < n → (L' i = if i < jj + 1 then crL s kp i else L i) ∧ (fput O' jj (L' jj) i = if i < jj + 1 then crL s kp i else O i) ∧ (fput F' jj false i = if i < jj + 1 then false else Fh i) := fun i hi => by
          obtain ⟨h1, h2, h3⟩ := HALL.out i hi
          unfold fput
          by_cases e : i = jj
          · subst e
            simp only [if_true, if_pos (Nat.lt_succ_self i)]
            have hc : crL s kp i = s.rd i := by unfold crL; rw [HFR.out]; rfl
            exact ⟨by rw [hc]; exact HL.out, by rw [hc]; exact HL.out, by first | rfl | trivial⟩
          · simp only [e, if_false]
            by_cases hq : i < jj
            · rw [if_pos hq] at h1 h2 h3; rw [if_pos (by omega), if_pos (by omega), if_pos (by omega)]; exact ⟨h1, h2, h3⟩
            · rw [if_neg hq] at h1 h2 h3; rw [if_neg (by omega), if_neg (by omega), if_neg (by omega)]; exact ⟨h1, h2, h3⟩
        have HST := hide hstep
        clear hstep
        obtain ⟨clA, csA, cfA, glA, caplA, v2A, hcA, hbA, hfaA, hfbA, hq1A, hq2A, hPfA⟩ := facts_sf HPr.out jj hjn
        simp only [HN2.out, HZ2.out] at hcA hq1A hq2A hPfA
        have hx9A : RowAt ((wr.drew.setCell ⟨MS, jj, none⟩ (.slice (some ⟨glA, 0, none⟩) Z caplA)).setCell ⟨MF, jj, none⟩ (.bool false)) X 36 (actRow t) := PW.actF HPr.out HXr.out _ (PW.actS HPr.out.drew (show RowAt wr.drew X 36 (actRow t) from HXr.out) jj _) jj _
        obtain ⟨a0, a1, a2, a3⟩ := hcA
        obtain ⟨b1, b2, b5, b6⟩ := hbA
        have q1 := hq1A (.slice (some ⟨glA, 0, none⟩) Z caplA)
        have q2 := hq2A (.slice (some ⟨glA, 0, none⟩) Z caplA) (.bool false)
        have HPf := hide hPfA
        have HXf := hide hx9A
        clear hq1A hq2A hPfA hx9A
        go_wp2
        go_region_held3 (fun w' => w'.cell? ⟨MM, 0, none⟩ = some (.slice (some ⟨ML, 0, none⟩) n clA) ∧ w'.cell? ⟨MM, 1, none⟩ = some (.slice (some ⟨MS, 0, none⟩) n csA) ∧ w'.cell? ⟨MM, 2, none⟩ = some (.slice (some ⟨MF, 0, none⟩) n cfA) ∧ w'.cell? ⟨ML, jj, none⟩ = some (.slice (some ⟨glA, 0, none⟩) Z caplA)) (first | exact ⟨a0, a1, a2, a3⟩ | exact q1 | exact q2) (fail)
        clear q1 q2 a0 a1 a2 a3 b1 b2 b5 b6 hfaA hfbA
        go_wp2
        go_roundw
        case rel => exact ⟨jj + 1, kc, L', _, _, rfl, rfl, by omega, by rw [HKC.out]; simp only [K.cnt, HFR.out]; simp, HPf.out, HXf.out, HST.out⟩
        case measure => show n - ((jj + 1 : Nat) : Int).toNat < n - ((jj : Nat) : Int).toNat; omega
      · rw [hfr] at y3
        have HFR := hide hfr
        clear hfr hFj
        cases hbk : K.bit kp kc
        · have hbk' : kp.testBit (kc % 64) = false := hbk
          rw [hbk'] at hbt
          simp only [Bool.false_eq_true, if_false] at hbt
          have HBK := hide hbk
          clear hbk hbk'
          obtain ⟨cl0, cs0, gl0, capl0, v20, hc0, hb0, hq0, hPf0⟩ := facts_l HPr.out jj hjn
          simp only [HN2.out, HZ2.out] at hc0 hq0 hPf0
          obtain ⟨g0, g1, g3⟩ := hc0
          obtain ⟨r1, r2⟩ := hb0
          have qq := hq0 (.slice (some ⟨gl0, 0, none⟩) Z capl0)
          have HP5 := hide hPf0
          have HX5 := hide (PW.actL HPr.out.drew (show RowAt wr.drew X 36 (actRow t) from HXr.out) jj (.slice (some ⟨gl0, 0, none⟩) Z capl0))
          clear hq0 hPf0
          have hstep : ∀ i, i < n → (fput L' jj (O' jj) i = if i < jj + 1 then crL s kp i else L i) ∧ (fput O' jj (fput L' jj (O' jj) jj) i = if i < jj + 1 then crL s kp i else O i) ∧ (fput F' jj false i = if i < jj + 1 then false else Fh i) := fun i hi => by
            obtain ⟨h1, h2, h3⟩ := HALL.out i hi
            unfold fput
            by_cases e : i = jj
            · subst e
              simp only [if_true, if_pos (Nat.lt_succ_self i)]
              have hc : crL s kp i = s.old i := by unfold crL; rw [HFR.out, ← HKC.out, HBK.out]; rfl
              exact ⟨by rw [hc]; exact HO.out, by rw [hc]; exact HO.out, by first | rfl | trivial⟩
            · simp only [e, if_false]
              by_cases hq : i < jj
              · rw [if_pos hq] at h1 h2 h3; rw [if_pos (by omega), if_pos (by omega), if_pos (by omega)]; exact ⟨h1, h2, h3⟩
              · rw [if_neg hq] at h1 h2 h3; rw [if_neg (by omega), if_neg (by omega), if_neg (by omega)]; exact ⟨h1, h2, h3⟩
          have HST := hide hstep
          clear hstep
          go_wp2
          go_region_held3 (fun w' => w'.cell? ⟨MM, 0, none⟩ = some (.slice (some ⟨ML, 0, none⟩) n cl0) ∧ w'.cell? ⟨MM, 1, none⟩ = some (.slice (some ⟨MS, 0, none⟩) n cs0) ∧ w'.cell? ⟨MS, jj, none⟩ = some (.slice (some ⟨gl0, 0, none⟩) Z capl0)) (first | exact ⟨g0, g1, g3⟩ | exact qq) (fail)
          have HP6 : Hid (PW B w0 D S M2 MM ML MS MF (s.crashed kp) (fput L' jj (O' jj)) O' F' dead armed mn (wr.setCell ⟨ML, jj, none⟩ (.slice (some ⟨gl0, 0, none⟩) Z capl0)).drew) := HP5.out
          have HX6 : Hid (RowAt (wr.setCell ⟨ML, jj, none⟩ (.slice (some ⟨gl0, 0, none⟩) Z capl0)).drew X 36 (actRow t)) := HX5.out
          clear HP5 HX5 qq g0 g1 g3 r1 r2 y0 y2 y3 x3 hbt
          generalize (wr.setCell ⟨ML, jj, none⟩ (.slice (some ⟨gl0, 0, none⟩) Z capl0)).drew = W6 at HP6 HX6 ⊢
          obtain ⟨clB, csB, cfB, glB, caplB, v2B, hcB, hbB, hfaB, hfbB, hq1B, hq2B, hPfB⟩ := facts_sf HP6.out jj hjn
          simp only [HN2.out, HZ2.out] at hcB hq1B hq2B hPfB
          have hx9B : RowAt ((W6.drew.setCell ⟨MS, jj, none⟩ (.slice (some ⟨glB, 0, none⟩) Z caplB)).setCell ⟨MF, jj, none⟩ (.bool false)) X 36 (actRow t) := PW.actF HP6.out HX6.out _ (PW.actS HP6.out.drew (show RowAt W6.drew X 36 (actRow t) from HX6.out) jj _) jj _
          obtain ⟨a0, a1, a2, a3⟩ := hcB
          obtain ⟨b1, b2, b5, b6⟩ := hbB
          have q1 := hq1B (.slice (some ⟨glB, 0, none⟩) Z caplB)
          have q2 := hq2B (.slice (some ⟨glB, 0, none⟩) Z caplB) (.bool false)
          have HPf := hide hPfB
          have HXf := hide hx9B
          clear hq1B hq2B hPfB hx9B
          go_wp2
          go_region_held3 (fun w' => w'.cell? ⟨MM, 0, none⟩ = some (.slice (some ⟨ML, 0, none⟩) n clB) ∧ w'.cell? ⟨MM, 1, none⟩ = some (.slice (some ⟨MS, 0, none⟩) n csB) ∧ w'.cell? ⟨MM, 2, none⟩ = some (.slice (some ⟨MF, 0, none⟩) n cfB) ∧ w'.cell? ⟨ML, jj, none⟩ = some (.slice (some ⟨glB, 0, none⟩) Z caplB)) (first | exact ⟨a0, a1, a2, a3⟩ | exact q1 | exact q2) (fail)
          clear q1 q2 a0 a1 a2 a3 b1 b2 b5 b6 hfaB hfbB
          go_wp2
          go_roundw
          case rel => exact ⟨jj + 1, kc + 1, _, _, _, rfl, rfl, by omega, by rw [HKC.out]; simp only [K.cnt, HFR.out]; simp, HPf.out, HXf.out, HST.out⟩
          case measure => show n - ((jj + 1 : Nat) : Int).toNat < n - ((jj : Nat) : Int).toNat; omega
        · have hbk' : kp.testBit (kc % 64) = true := hbk
          rw [hbk'] at hbt
          simp only [if_true] at hbt
          have HBK := hide hbk
          clear hbk hbk'
          have hstep : ∀ i, i < n → (L' i = if i < jj + 1 then crL s kp i else L i) ∧ (fput O' jj (L' jj) i = if i < jj + 1 then crL s kp i else O i) ∧ (fput F' jj false i = if i < jj + 1 then false else Fh i) := fun i hi => by
            obtain ⟨h1, h2, h3⟩ := HALL.out i hi
            unfold fput
            by_cases e : i = jj
            · subst e
              simp only [if_true, if_pos (Nat.lt_succ_self i)]
              have hc : crL s kp i = s.rd i := by unfold crL; rw [HFR.out, ← HKC.out, HBK.out]; rfl
              exact ⟨by rw [hc]; exact HL.out, by rw [hc]; exact HL.out, by first | rfl | trivial⟩
            · simp only [e, if_false]
              by_cases hq : i < jj
              · rw [if_pos hq] at h1 h2 h3; rw [if_pos (by omega), if_pos (by omega), if_pos (by omega)]; exact ⟨h1, h2, h3⟩
              · rw [if_neg hq] at h1 h2 h3; rw [if_neg (by omega), if_neg (by omega), if_neg (by omega)]; exact ⟨h1, h2, h3⟩
          have HST := hide hstep
          clear hstep
          obtain ⟨clC, csC, cfC, glC, caplC, v2C, hcC, hbC, hfaC, hfbC, hq1C, hq2C, hPfC⟩ := facts_sf HPr.out jj hjn
          simp only [HN2.out, HZ2.out] at hcC hq1C hq2C hPfC
          have hx9C : RowAt ((wr.drew.setCell ⟨MS, jj, none⟩ (.slice (some ⟨glC, 0, none⟩) Z caplC)).setCell ⟨MF, jj, none⟩ (.bool false)) X 36 (actRow t) := PW.actF HPr.out HXr.out _ (PW.actS HPr.out.drew (show RowAt wr.drew X 36 (actRow t) from HXr.out) jj _) jj _
          obtain ⟨a0, a1, a2, a3⟩ := hcC
          obtain ⟨b1, b2, b5, b6⟩ := hbC
          have q1 := hq1C (.slice (some ⟨glC, 0, none⟩) Z caplC)
          have q2 := hq2C (.slice (some ⟨glC, 0, none⟩) Z caplC) (.bool false)
          have HPf := hide hPfC
          have HXf := hide hx9C
          clear hq1C hq2C hPfC hx9C
          go_wp2
          go_region_held3 (fun w' => w'.cell? ⟨MM, 0, none⟩ = some (.slice (some ⟨ML, 0, none⟩) n clC) ∧ w'.cell? ⟨MM, 1, none⟩ = some (.slice (some ⟨MS, 0, none⟩) n csC) ∧ w'.cell? ⟨MM, 2, none⟩ = some (.slice (some ⟨MF, 0, none⟩) n cfC) ∧ w'.cell? ⟨ML, jj, none⟩ = some (.slice (some ⟨glC, 0, none⟩) Z caplC)) (first | exact ⟨a0, a1, a2, a3⟩ | exact q1 | exact q2) (fail)
          clear q1 q2 a0 a1 a2 a3 b1 b2 b5 b6 hfaC hfbC
          go_wp2
          go_roundw
          case rel => exact ⟨jj + 1, kc + 1, L', _, _, rfl, rfl, by omega, by rw [HKC.out]; simp only [K.cnt, HFR.out]; simp, HPf.out, HXf.out, HST.out⟩
          case measure => show n - ((jj + 1 : Nat) : Int).toNat < n - ((jj : Nat) : Int).toNat; omega
    · have hd : decide ((jj : Int) < (n : Int)) = false := by simp; omega
      have hjn : jj = n := by omega
      obtain ⟨clr, csr, cfr, hrwr⟩ := HPr.out.md.row
      have y0 : wr.cell? ⟨MM, 0, none⟩ = some (.slice (some ⟨ML, 0, none⟩) n clr) := by rw [HN.out]; exact hrwr.cell 0
      have m3 : wr.cell? ⟨MM, 3, none⟩ = some (.bool dead) := hrwr.cell 3
      have n3 := hrwr.frozen 3
      have HP3 := hide (HPr.out.setM 3 (.bool false) (HPr.out.md.setRow 3 (.bool false) (dead' := false) (armed' := armed) (mn' := mn) (fun _ _ _ => rfl)))
      obtain ⟨cl5, cs5, cf5, hrw5⟩ := HP3.out.md.row
      have m4 : (wr.setCell ⟨MM, 3, none⟩ (.bool false)).cell? ⟨MM, 4, none⟩ = some (.bool armed) := hrw5.cell 4
      have n4 := hrw5.frozen 4
      have HP4 := hide (HP3.out.setM 4 (.bool false) (HP3.out.md.setRow 4 (.bool false) (dead' := false) (armed' := false) (mn' := mn) (fun _ _ _ => rfl)))
      have HA4 : Hid (Agr (s.crashed kp) L' O' F' false false mn) := (HA.out.crashed kp (L' := crL s kp) (fun _ _ => rfl)).congr (fun i hi => by
        have h := (HALL.out i (by rw [HN.out]; exact hi)).1
        rw [if_pos (by rw [hjn, HN.out]; exact hi)] at h; exact h) (fun i hi => by
        have h := (HALL.out i (by rw [HN.out]; exact hi)).2.1
        rw [if_pos (by rw [hjn, HN.out]; exact hi)] at h; exact h) (fun i hi => by
        have h := (HALL.out i (by rw [HN.out]; exact hi)).2.2
        rw [if_pos (by rw [hjn, HN.out]; exact hi)] at h; exact h)
      clear hrwr hrw5 hjn
      go_wp2
      exact HQ.out D S M2 (s.crashed kp) L' O' F' false false mn _ _ ⟨rfl, rfl, rfl, rfl, rfl, rfl, rfl, rfl, HP4.out, HA4.out⟩
end Go.Proofs.Ytmjdlejomohbdaa
