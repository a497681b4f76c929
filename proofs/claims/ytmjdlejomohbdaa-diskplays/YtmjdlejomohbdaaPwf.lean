/- The law DiskPlays: Write: which acts are one; its bytes. Made by gwf.py. -/
import Derived.Test.YtmjdlejomohbdaaPrf
namespace Go.Proofs.Ytmjdlejomohbdaa
open Go.RowKit
noncomputable def cW : Code := cT (cR (cB (cR cSw)))
noncomputable def cW2 : Code := cR (cR (cR cW))
set_option maxHeartbeats 1500000 in
set_option maxRecDepth 100000 in
theorem sw_test {B : Nat} {w0 : World} {ao : Option Addr} {na ca i : Nat} {t : ActT} {D S M MM ML MS MF X : Nat} {s : K.St} {L O : Nat → List UInt8} {Fh : Nat → Bool} {dead armed : Bool} {mn at_ : Int} {a : Act} {w : World} (Q : Exit → Act → World → Prop) (h : J1 B w0 ao na ca i t D S M MM ML MS MF X s L O Fh dead armed mn at_ a w) (hk : t.what = 0 ∨ t.what = 1 ∨ t.what = 2)
    (hQ : ∀ a w, J1 B w0 ao na ca i t D S M MM ML MS MF X s L O Fh dead armed mn at_ a w → cW.wp Try.prog (Exit.inBlock 4 Q) a w) : cSw.wp Try.prog Q a w := by
  have hb0 := h.b0
  have hb1 := h.b1
  have hbX := h.bX
  have hP := h.pw
  have hA := h.ag
  have hX := h.rx
  have h2 := h.s2
  have h10 := h.s10
  have h7 := h.s7
  have h8 := h.s8
  have h11 := h.s11
  have h12 := h.s12
  have h13 := h.s13
  rw [fr_of a h.z h.d]
  unfold sl at h2 h10 h7 h8 h11 h12 h13
  clear h
  generalize hg : (fun i => a.tmps.getD i undef) = g
  have k2 : g 2 = .slice ao na ca := by rw [← hg]; exact h2
  have k7 : g 7 = .pointer (some ⟨D, 0, none⟩) := by rw [← hg]; exact h7
  have k8 : g 8 = .pointer (some ⟨MM, 0, none⟩) := by rw [← hg]; exact h8
  have k10 : g 10 = .int .i64 (i : Int) := by rw [← hg]; exact h10
  have k11 : g 11 = .pointer (some ⟨X, 0, none⟩) := by rw [← hg]; exact h11
  have k12 : g 12 = .int .i64 at_ := by rw [← hg]; exact h12
  have k13 : g 13 = .bool (decide (0 ≤ at_) && decide (at_ < (s.n : Int))) := by rw [← hg]; exact h13
  clear h2 h7 h8 h10 h11 h12 h13 hg
  unfold Fr
  rw [k2, k7, k8, k10, k11, k12, k13]
  clear k2 k7 k8 k10 k11 k12 k13
  have HP := hide hP
  have HA := hide hA
  have HQ := hide hQ
  have HX := hide hX
  have x0 : w.cell? ⟨X, 0, none⟩ = some (.int .i64 t.what) := hX.cell 0
  clear hP hA hQ hX
  have e : cSw = .seq (cL cSw) (.block 4 (.seq (cL (cB (cR cSw))) (.cond (.tmp 128) cW (cE (cR (cB (cR cSw))))))) := by kernel_rfl
  rw [e]
  clear e
  refine wp_seq ?_
  conv => arg 2; whnf
  go_wp2
  conv => arg 2; whnf
  rcases hk with hk | hk | hk
  · have t0 : (t.what == 0) = true := by rw [hk]; decide
    clear hk
    go_wp2
    refine HQ.out _ _ ⟨rfl, rfl, rfl, rfl, rfl, rfl, rfl, rfl, rfl, HP.out, HA.out, HX.out, hb0, hb1, hbX⟩
  · have t0 : (t.what == 0) = false := by rw [hk]; decide
    have t1 : (t.what == 1) = true := by rw [hk]; decide
    clear hk
    go_wp2
    refine HQ.out _ _ ⟨rfl, rfl, rfl, rfl, rfl, rfl, rfl, rfl, rfl, HP.out, HA.out, HX.out, hb0, hb1, hbX⟩
  · have t0 : (t.what == 0) = false := by rw [hk]; decide
    have t1 : (t.what == 1) = false := by rw [hk]; decide
    have t2 : (t.what == 2) = true := by rw [hk]; decide
    clear hk
    go_wp2
    refine HQ.out _ _ ⟨rfl, rfl, rfl, rfl, rfl, rfl, rfl, rfl, rfl, HP.out, HA.out, HX.out, hb0, hb1, hbX⟩
/- the bytes to be written are made -/
structure JW (B : Nat) (w0 : World) (ao : Option Addr) (na ca : Nat) (i : Nat) (t : ActT) (D S M MM ML MS MF X : Nat) (s : K.St) (L O : Nat → List UInt8) (Fh : Nat → Bool) (dead armed : Bool) (mn : Int) (at_ : Int) (gB o m : Nat) (l : List UInt8) (a : Act) (w : World) : Prop where
  j : J1 B w0 ao na ca i t D S M MM ML MS MF X s L O Fh dead armed mn at_ a w
  s14 : sl a 14 = .slice (some ⟨gB, o, none⟩) m m
  row : RowAt w gB 5 (vb l).toArray
  len : l.length = s.sz
  om : (o = 0 ∧ m = s.sz) ∨ (o = 1 ∧ m + 1 = s.sz)
set_option maxRecDepth 5000 in
theorem vb_set (l : List UInt8) (k : Nat) (y : UInt8) : (vb l).toArray.setIfInBounds k (.int .u8 (y.toNat : Int)) = (vb (l.set k y)).toArray := by
  simp [vb, List.map_set]
set_option maxRecDepth 5000 in
theorem u8_wrap (x : Int) : ∃ y : UInt8, IntKind.u8.wrap x = (y.toNat : Int) := by
  refine ⟨UInt8.ofNat (IntKind.u8.wrap x).toNat, ?_⟩
  rw [UInt8.toNat_ofNat', IntKind.wrap_u8]
  omega
set_option maxHeartbeats 1500000 in
set_option maxRecDepth 100000 in
theorem w_fill {B : Nat} {w0 : World} {ao : Option Addr} {na ca i : Nat} {t : ActT} {D S M MM ML MS MF X : Nat} {s : K.St} {L O : Nat → List UInt8} {Fh : Nat → Bool} {dead armed : Bool} {mn at_ : Int} {a : Act} {w : World} (Q : Exit → Act → World → Prop) (h : J1 B w0 ao na ca i t D S M MM ML MS MF X s L O Fh dead armed mn at_ a w) 
    (hQ : ∀ gB o m l a w, JW B w0 ao na ca i t D S M MM ML MS MF X s L O Fh dead armed mn at_ gB o m l a w → cW2.wp Try.prog Q a w) : cW.wp Try.prog Q a w := by
  have hb0 := h.b0
  have hb1 := h.b1
  have hbX := h.bX
  have hP := h.pw
  have hA := h.ag
  have hX := h.rx
  have h2 := h.s2
  have h10 := h.s10
  have h7 := h.s7
  have h8 := h.s8
  have h11 := h.s11
  have h12 := h.s12
  have h13 := h.s13
  rw [fr_of a h.z h.d]
  unfold sl at h2 h10 h7 h8 h11 h12 h13
  clear h
  generalize hg : (fun i => a.tmps.getD i undef) = g
  have k2 : g 2 = .slice ao na ca := by rw [← hg]; exact h2
  have k7 : g 7 = .pointer (some ⟨D, 0, none⟩) := by rw [← hg]; exact h7
  have k8 : g 8 = .pointer (some ⟨MM, 0, none⟩) := by rw [← hg]; exact h8
  have k10 : g 10 = .int .i64 (i : Int) := by rw [← hg]; exact h10
  have k11 : g 11 = .pointer (some ⟨X, 0, none⟩) := by rw [← hg]; exact h11
  have k12 : g 12 = .int .i64 at_ := by rw [← hg]; exact h12
  have k13 : g 13 = .bool (decide (0 ≤ at_) && decide (at_ < (s.n : Int))) := by rw [← hg]; exact h13
  clear h2 h7 h8 h10 h11 h12 h13 hg
  unfold Fr
  rw [k2, k7, k8, k10, k11, k12, k13]
  clear k2 k7 k8 k10 k11 k12 k13
  have HP := hide hP
  have HA := hide hA
  have HQ := hide hQ
  have HX := hide hX
  have x0 : w.cell? ⟨X, 0, none⟩ = some (.int .i64 t.what) := hX.cell 0
  clear hP hA hQ hX
  clear x0
  have e : cW = .seq (cL cW) (.seq (cL (cR cW)) (.seq (cL (cR (cR cW))) cW2)) := by kernel_rfl
  rw [e]
  clear e
  have hsz := size_any w D S M s HP.out.dk
  have hz4 : s.sz ≤ 4096 := by obtain ⟨sv, uv, hk⟩ := HP.out.dk; exact hk.b2
  have hz1 : 64 ≤ s.sz := by obtain ⟨sv, uv, hk⟩ := HP.out.dk; exact hk.b1
  obtain ⟨Z, hZ⟩ : ∃ Z, Z = s.sz := ⟨_, rfl⟩
  rw [← hZ] at hsz hz4 hz1
  have hmk := make_zeros Z (by omega)
  have HZ := hide hZ
  clear hZ
  refine wp_seq ?_
  conv => arg 2; whnf
  go_wp2_with (go_at_call 10; refine hsz.mono ?_; rintro e w' ⟨rfl, hw⟩; rw [hw]; clear hw w')
  have HB2 : Hid (Below w.heap.size w (w.alloc (.cells (vb (List.replicate Z 0)).toArray 5))) := (Below.refl _ w).alloc (Nat.le_refl _) _
  have HR2 : Hid (RowAt (w.alloc (.cells (vb (List.replicate Z 0)).toArray 5)) w.heap.size 5 (vb (List.replicate Z 0)).toArray) := RowAt.new w _ _
  obtain ⟨gB, hgB⟩ : ∃ gB, gB = w.heap.size := ⟨_, rfl⟩
  rw [← hgB] at HB2 HR2 ⊢
  have HGB := hide hgB
  clear hgB hsz hmk
  generalize (w.alloc (.cells (vb (List.replicate Z 0)).toArray 5)) = w2 at HB2 HR2 ⊢
  conv => arg 2; whnf
  go_wp2
  go_loopw [15] (fun k wr => ∃ (kk : Nat) (l : List UInt8), k = .int .i64 (kk : Int) ∧ kk ≤ Z ∧ l.length = Z ∧ RowAt wr gB 5 (vb l).toArray ∧ Below gB w wr)
    (fun k _ => Z - (match k with | .int _ x => x.toNat | _ => 0))
  case atStart => exact ⟨0, List.replicate Z 0, rfl, Nat.zero_le _, by simp, HR2.out, HB2.out⟩
  case round =>
    obtain ⟨kk, l, rfl, hkk, hl, hR, hB⟩ := hrel
    have HL := hide hl
    have HR := hide hR
    have HB := hide hB
    by_cases hlt : kk < Z
    · have hd : decide ((kk : Int) < (Z : Int)) = true := by simp; exact hlt
      have x4 : wr.cell? ⟨X, 4, none⟩ = some (.int .u8 (t.x.toNat : Int)) := (HX.out.below hB (by rw [HGB.out]; exact HX.out.lt)).cell 4
      have r1 : wr.cell? ⟨gB, kk, none⟩ = some (.int .u8 ((l.getD kk 0).toNat : Int)) := by rw [hR.cell kk]; simp only [List.getElem?_toArray]; exact vb_get l kk (by omega)
      have r2 : wr.frozen? ⟨gB, kk, none⟩ = false := hR.frozen kk
      obtain ⟨kb, hkb⟩ := u8_wrap (kk : Int)
      obtain ⟨y, hy⟩ := u8_wrap ((t.x.toNat : Int) + (kb.toNat : Int))
      have HR3 : Hid (RowAt (wr.setCell ⟨gB, kk, none⟩ (.int .u8 (y.toNat : Int))) gB 5 (vb (l.set kk y)).toArray) := by
        have := hR.set kk (.int .u8 (y.toNat : Int))
        rw [vb_set] at this
        exact this
      have HB3 : Hid (Below gB w (wr.setCell ⟨gB, kk, none⟩ (.int .u8 (y.toNat : Int)))) := hB.setCell (Nat.le_refl _) _
      have hadd : IntKind.i64.wrap ((kk : Int) + 1) = ((kk + 1 : Nat) : Int) := by rw [IntKind.wrap_i64]; omega
      clear hl hR hB
      go_wp2
      go_roundw
      case rel => exact ⟨kk + 1, l.set kk y, rfl, by omega, by rw [List.length_set]; exact HL.out, HR3.out, HB3.out⟩
      case measure => show Z - ((kk + 1 : Nat) : Int).toNat < Z - ((kk : Nat) : Int).toNat; omega
    · have hd : decide ((kk : Int) < (Z : Int)) = false := by simp; omega
      have HP3 := hide (HP.out.below (by rw [← HGB.out]; exact hB))
      have HX3 := hide (HX.out.below hB (by rw [HGB.out]; exact HX.out.lt))
      have x2 : wr.cell? ⟨X, 2, none⟩ = some (.int .i64 t.n) := HX3.out.cell 2
      have hb7 : -7 < Int.tmod t.n 7 ∧ Int.tmod t.n 7 < 7 := by
        have e1 : Int.tmod t.n 7 < 7 := Int.tmod_lt_of_pos t.n (by omega)
        have h3 := Int.natAbs_tmod t.n 7
        have h4 : t.n.natAbs % (7 : Int).natAbs < 7 := Nat.mod_lt _ (by decide)
        omega
      obtain ⟨r7, hr7⟩ : ∃ r7, Int.tmod t.n 7 = r7 := ⟨_, rfl⟩
      rw [hr7] at hb7
      have hw7 : IntKind.i64.wrap r7 = r7 := by rw [IntKind.wrap_i64]; omega
      clear hl hR hB hb7
      go_wp2
      conv => arg 2; whnf
      by_cases h0 : r7 = 0
      · have q7 : (r7 == 0) = true := by simpa using h0
        subst h0
        clear hw7
        go_wp2
        refine HQ.out gB 1 (Z - 1) l _ _ ⟨⟨rfl, rfl, rfl, rfl, rfl, rfl, rfl, rfl, rfl, HP3.out, HA.out, HX3.out, hb0, hb1, hbX⟩, rfl, HR.out, by rw [← HZ.out]; exact HL.out, Or.inr ⟨rfl, by rw [← HZ.out]; omega⟩⟩
      · have q7 : (r7 == 0) = false := by simpa using h0
        clear h0
        go_wp2
        refine HQ.out gB 0 Z l _ _ ⟨⟨rfl, rfl, rfl, rfl, rfl, rfl, rfl, rfl, rfl, HP3.out, HA.out, HX3.out, hb0, hb1, hbX⟩, rfl, HR.out, by rw [← HZ.out]; exact HL.out, Or.inl ⟨rfl, HZ.out⟩⟩
end Go.Proofs.Ytmjdlejomohbdaa
