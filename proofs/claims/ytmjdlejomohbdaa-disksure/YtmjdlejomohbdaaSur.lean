/- The law DiskSure, walked. -/
import Derived.Test.YtmjdlejomohbdaaSup
namespace Go.Proofs.Ytmjdlejomohbdaa
open Go.RowKit
set_option maxRecDepth 5000 in
theorem SlL.at {w : World} {ao : Option Addr} {l : List UInt8} (h : SlL w ao l) {i : Nat} (hi : i < l.length) : ∃ b o, ao = some ⟨b, o, none⟩ ∧ b < w.heap.size ∧ w.cell? ⟨b, o + i, none⟩ = some (.int .u8 (l.getD i 0).toNat) := by
  obtain ⟨b, o, e, h1, h2⟩ := h (by omega)
  exact ⟨b, o, e, h1, h2 i hi⟩
/- what the law's own memory is: the disk, the sector X, all below B as it was -/
structure SI (B : Nat) (w : World) (D S M X : Nat) (s : K.St) (x : UInt8) (wr : World) : Prop where
  dk : DiskAt (fun g => g = X) wr D S M s
  row : RowAt wr X 5 (vb (lz x)).toArray
  bel : Below B w wr
  bD : B ≤ D
  bS : B ≤ S
  bM : B ≤ M
  bX : B ≤ X
set_option maxRecDepth 5000 in
theorem SI.lt {B : Nat} {w : World} {D S M X : Nat} {s : K.St} {x : UInt8} {wr : World} (h : SI B w D S M X s x wr) : B ≤ wr.heap.size := Nat.le_trans h.bX (Nat.le_of_lt h.row.lt)
set_option maxRecDepth 5000 in
theorem SI.set {B : Nat} {w : World} {D S M X : Nat} {s : K.St} {x : UInt8} {wr : World} (h : SI B w D S M X s x wr) (y : UInt8) : SI B w D S M X s y (wr.setCell ⟨X, 0, none⟩ (.int .u8 (y.toNat : Int))) := by
  obtain ⟨sv, uv, hk⟩ := h.dk
  have hD : D ≠ X := hk.row.ne h.row tne1
  have hS : S ≠ X := hk.sure.ne h.row tne2
  have hM : M ≠ X := fun e => hk.un.row_ne h.row e.symm
  refine ⟨⟨sv, uv, hk.keepA (by simp [World.setCell]) (heap_setCell_other _ _ _ _ hD) (heap_setCell_other _ _ _ _ hS) (heap_setCell_other _ _ _ _ hM) fun g c hne hg => hg.other _ _ hne⟩, ?_, h.bel.setCell h.bX _, h.bD, h.bS, h.bM, h.bX⟩
  have := h.row.set 0 (.int .u8 (y.toNat : Int))
  rw [lz_set] at this
  exact this
set_option maxRecDepth 5000 in
theorem SI.mv {B : Nat} {w : World} {D S M M' X : Nat} {s s' : K.St} {x : UInt8} {wr w' : World} (h : SI B w D S M X s x wr) (hd : DiskAt (fun g => g = X) w' D S M' s') (hm : Mv D S M wr w') (hM : B ≤ M') : SI B w D S M' X s' x w' := by
  refine ⟨hd, ?_, hm.below h.bel h.lt h.bD h.bS h.bM, h.bD, h.bS, hM, h.bX⟩
  obtain ⟨sv, uv, hk⟩ := h.dk
  exact hm.rows hk _ _ h.row
set_option maxHeartbeats 1000000 in
set_option maxRecDepth 5000 in
theorem sure_walk (la lb : List UInt8) (ao bo : Option Addr) (na nb ca cb kp : Nat) (hkp : kp < 18446744073709551616) (w : World) (hla : Hid (la.length = na)) (hlb : Hid (lb.length = nb)) (hsa : SlL w ao la) (hsb : SlL w bo lb) :
    Calls Try.prog 5 #[.slice ao na ca, .slice bo nb cb, .int .u64 (kp : Int)] w fun e w' => e = .returned (.bool true) ∧ Below w.heap.size w w' := by
  have HSA := hide hsa
  have HSB := hide hsb
  clear hsa hsb
  cases h1 : decide ((na : Int) > 40)
  · cases h2 : decide ((nb : Int) > 40)
    · have hna : na ≤ 40 := by simp at h1; omega
      have hnb : nb ≤ 40 := by simp at h2; omega
      have hmk := make_64
      obtain ⟨zz, hzz⟩ : ∃ zz, zz = (vb (lz 0)).toArray := ⟨_, rfl⟩
      rw [← hzz] at hmk
      have HZ := hide hzz
      clear hzz
      go_enter Try.func5, Try.ntmps5
      go_wp2_with (first
        | (go_at_call 6; refine (known_any _).mono ?_; rintro e w1 ⟨rfl, hB1⟩)
        | (go_at_call 8; refine (show Calls Try.prog 8 #[.int .i64 40, .int .i64 64] w1 _ from new_at (fun _ => False) w1 (fun _ h => h.elim) 40 64 40 64 (by omega) (by omega) (by omega) (by omega) (by decide) (by decide)).mono ?_; rintro e w2 ⟨rfl, hD2, hB2, hs2⟩))
      obtain ⟨D, hDe⟩ : ∃ D, D = w1.heap.size + 2 := ⟨_, rfl⟩
      obtain ⟨S, hSe⟩ : ∃ S, S = w1.heap.size := ⟨_, rfl⟩
      obtain ⟨M, hMe⟩ : ∃ M, M = w1.heap.size + 1 := ⟨_, rfl⟩
      obtain ⟨X, hXe⟩ : ∃ X, X = w1.heap.size + 3 := ⟨_, rfl⟩
      rw [← hDe, ← hMe, ← hSe] at hD2
      have HI0 : Hid (SI w.heap.size w D S M X (K.s1 (fun j => la.getD j 0) 0) 0 (w2.alloc (.cells zz 5))) := by
        rw [K.s1_zero]
        have hB := hB1.size
        refine ⟨hD2.avoid ((Below.refl _ w2).alloc (Nat.le_refl _) _) fun g hg => Or.inr ⟨by omega, by simp; omega⟩, ?_, ((hB1.trans (hB2.mono hB)).alloc (by rw [hs2]; omega) _), by omega, by omega, by omega, by omega⟩
        rw [hXe, ← hs2, ← HZ.out]; exact RowAt.new w2 _ _
      rw [← hDe, ← hXe]
      generalize (w2.alloc (.cells zz 5)) = w3 at HI0 ⊢
      clear hDe hSe hMe hXe hD2 hB2 hs2 hB1 HZ hmk
      go_loopw [9] (fun k wr => ∃ (i : Nat) (x : UInt8), k = .int .i64 (i : Int) ∧ i ≤ na ∧ SI w.heap.size w D S M X (K.s1 (fun j => la.getD j 0) i) x wr)
        (fun k _ => na - (match k with | .int _ x => x.toNat | _ => 0))
      case atStart => exact ⟨0, 0, rfl, Nat.zero_le _, HI0.out⟩
      case round =>
        obtain ⟨i, x, rfl, hi, hI⟩ := hrel
        by_cases hlt : i < na
        · have hd : decide ((i : Int) < (na : Int)) = true := by simp; exact hlt
          obtain ⟨b, o, ea, hb, hcell⟩ := HSA.out.at (show i < la.length by rw [hla.out]; exact hlt)
          have y0 : wr.cell? ⟨b, o + i, none⟩ = some (.int .u8 ((la.getD i 0).toNat : Int)) := by
            have := hI.bel.cell (p := ⟨b, o + i, none⟩) hb
            rw [this]; exact hcell
          have y1 : wr.cell? ⟨X, 0, none⟩ = some (.int .u8 (x.toNat : Int)) := lz_cell hI.row
          have y2 : wr.frozen? ⟨X, 0, none⟩ = false := hI.row.frozen 0
          have HI1 := hide (hI.set (la.getD i 0))
          have hW := write_ok _ D S M _ HI1.out.dk rfl i (by show i < 40; omega) (some ⟨X, 0, none⟩) 64 (lz (la.getD i 0)) rfl (SlU.row HI1.out.row) rfl
          have hW' : Calls Try.prog 12 #[.pointer (some ⟨D, 0, none⟩), .int .i64 (i : Int), .slice (some ⟨X, 0, none⟩) 64 64] (wr.setCell ⟨X, 0, none⟩ (.int .u8 ((la.getD i 0).toNat : Int))) _ := hW
          have hadd : IntKind.i64.wrap ((i : Int) + 1) = ((i + 1 : Nat) : Int) := by rw [IntKind.wrap_i64]; omega
          subst ea
          clear hcell hI hW
          go_wp2_with (go_at_call 12; refine hW'.mono ?_; rintro e w5 ⟨rfl, hD5, hM5⟩; have HI5 := hide (HI1.out.mv hD5 hM5 HI1.out.bM); clear hD5 hM5)
          go_roundw
          case rel =>
            refine ⟨i + 1, la.getD i 0, rfl, by omega, ?_⟩
            have := HI5.out
            rw [K.s1_put (fun j => la.getD j 0) i] at this
            exact this
          case measure => show na - ((i + 1 : Nat) : Int).toNat < na - ((i : Nat) : Int).toNat; omega
        · have hd : decide ((i : Int) < (na : Int)) = false := by simp; omega
          have hin : i = na := by omega
          subst hin
          have HI1 := hide hI
          clear hI
          have hSy := sync_ok _ D S M _ HI1.out.dk rfl rfl
          rw [K.s1_sync (fun j => la.getD j 0) (fun j => lb.getD j 0)] at hSy
          go_wp2_with (go_at_call 13; refine hSy.mono ?_; rintro e w4 ⟨rfl, M2, hD4, hM4, hm1, hm2⟩)
          have HI4 := hide (HI1.out.mv hD4 hM4 (Nat.le_trans HI1.out.lt hm1))
          clear hD4 hM4 hm1 hm2 hSy HI1
          clear HI0 hi hlt hd
          go_loopw [10] (fun k wr => ∃ (j : Nat) (x : UInt8), k = .int .i64 (j : Int) ∧ j ≤ nb ∧ SI w.heap.size w D S M2 X (K.s2 (fun j => la.getD j 0) (fun j => lb.getD j 0) i j) x wr)
            (fun k _ => nb - (match k with | .int _ x => x.toNat | _ => 0))
          case atStart => exact ⟨0, x, rfl, Nat.zero_le _, HI4.out⟩
          case round =>
            obtain ⟨j, x, rfl, hj, hI⟩ := hrel
            by_cases hlt : j < nb
            · have hd : decide ((j : Int) < (nb : Int)) = true := by simp; exact hlt
              obtain ⟨b, o, ea, hb, hcell⟩ := HSB.out.at (show j < lb.length by rw [hlb.out]; exact hlt)
              have y0 : wr.cell? ⟨b, o + j, none⟩ = some (.int .u8 ((lb.getD j 0).toNat : Int)) := by
                have := hI.bel.cell (p := ⟨b, o + j, none⟩) hb
                rw [this]; exact hcell
              have y1 : wr.cell? ⟨X, 0, none⟩ = some (.int .u8 (x.toNat : Int)) := lz_cell hI.row
              have y2 : wr.frozen? ⟨X, 0, none⟩ = false := hI.row.frozen 0
              have HI1 := hide (hI.set (lb.getD j 0))
              have hW := write_ok _ D S M2 _ HI1.out.dk rfl j (by show j < 40; omega) (some ⟨X, 0, none⟩) 64 (lz (lb.getD j 0)) rfl (SlU.row HI1.out.row) rfl
              have hW' : Calls Try.prog 12 #[.pointer (some ⟨D, 0, none⟩), .int .i64 (j : Int), .slice (some ⟨X, 0, none⟩) 64 64] (wr.setCell ⟨X, 0, none⟩ (.int .u8 ((lb.getD j 0).toNat : Int))) _ := hW
              have hadd : IntKind.i64.wrap ((j : Int) + 1) = ((j + 1 : Nat) : Int) := by rw [IntKind.wrap_i64]; omega
              subst ea
              clear hcell hI hW
              go_wp2_with (go_at_call 12; refine hW'.mono ?_; rintro e w5 ⟨rfl, hD5, hM5⟩; have HI5 := hide (HI1.out.mv hD5 hM5 HI1.out.bM); clear hD5 hM5)
              go_roundw
              case rel =>
                refine ⟨j + 1, lb.getD j 0, rfl, by omega, ?_⟩
                have := HI5.out
                rw [K.s2_put (fun j => la.getD j 0) (fun j => lb.getD j 0) i j] at this
                exact this
              case measure => show nb - ((j + 1 : Nat) : Int).toNat < nb - ((j : Nat) : Int).toNat; omega
            · have hd : decide ((j : Int) < (nb : Int)) = false := by simp; omega
              have hjn : j = nb := by omega
              have HI1 := hide hI
              rw [hjn] at HI1 hd ⊢
              clear hI hj hlt hjn j
              have hCr := crash_any _ D S M2 _ HI1.out.dk kp hkp
              go_wp2_with (go_at_call 15; refine hCr.mono ?_; rintro e w6 ⟨rfl, M3, hD6, hM6, hm1, hm2⟩)
              have HI6 := hide (HI1.out.mv hD6 hM6 (Nat.le_trans HI1.out.lt hm1))
              clear hD6 hM6 hm1 hm2 hCr HI1 hd HI4
              go_loopw [11] (fun k wr => ∃ (j : Nat), k = .int .i64 (j : Int) ∧ j ≤ 40 ∧ SI w.heap.size w D S M3 X ((K.s2 (fun j => la.getD j 0) (fun j => lb.getD j 0) i nb).crashed kp) x wr)
                (fun k _ => 40 - (match k with | .int _ x => x.toNat | _ => 0))
              case atStart => exact ⟨0, rfl, by omega, HI6.out⟩
              case round =>
                obtain ⟨j, rfl, hj, hI⟩ := hrel
                by_cases hlt : j < 40
                · have hd : decide ((j : Int) < 40) = true := by simp; omega
                  have HI7 := hide hI
                  have hRd := read_ok _ D S M3 _ HI7.out.dk rfl j (by show j < 40; exact hlt)
                  rw [K.s2_read _ _ i nb kp j hlt] at hRd
                  have hRd' : Calls Try.prog 17 #[.pointer (some ⟨D, 0, none⟩), .int .i64 (j : Int)] wr fun e w' => e = .returned (.tuple #[.slice (some ⟨wr.heap.size, 0, none⟩) 64 64, .int .i64 0]) ∧ RowAt w' wr.heap.size 5 (vb (lz (K.want (fun j => la.getD j 0) (fun j => lb.getD j 0) i nb kp j))).toArray ∧ Below wr.heap.size wr w' := hRd
                  obtain ⟨wv, hwv⟩ : ∃ wv, wv = K.want (fun j => la.getD j 0) (fun j => lb.getD j 0) i nb kp j := ⟨_, rfl⟩
                  rw [← hwv] at hRd'
                  have HWV := hide hwv
                  have hadd : IntKind.i64.wrap ((j : Int) + 1) = ((j + 1 : Nat) : Int) := by rw [IntKind.wrap_i64]; omega
                  have hbt := bit_and kp j hkp
                  clear hRd hI hwv
                  by_cases hA : j < i
                  · have hdA : decide ((j : Int) < (i : Int)) = true := by simp; omega
                    by_cases hB : j < nb
                    · have hdB : decide ((j : Int) < (nb : Int)) = true := by simp; omega
                      cases hbk : kp.testBit j
                      · rw [hbk] at hbt; simp only [Bool.false_eq_true, if_false] at hbt
                        have hv : wv = la.getD j 0 := by rw [HWV.out]; unfold K.want; rw [if_neg (fun h => by rw [hbk] at h; cases h.2), if_pos hA]
                        subst hv
                        obtain ⟨b, o, ea, hb, hcell⟩ := HSA.out.at (show j < la.length by rw [hla.out]; exact hA)
                        have y0 : wr.cell? ⟨b, o + j, none⟩ = some (.int .u8 ((la.getD j 0).toNat : Int)) := by
                          have := HI7.out.bel.cell (p := ⟨b, o + j, none⟩) hb
                          rw [this]; exact hcell
                        subst ea
                        clear hcell
                        clear HWV hbk
                        go_wp2_with (go_at_call 17; refine hRd'.mono ?_; rintro e w8 ⟨rfl, hR8, hB8⟩; have x8 := lz_cell hR8; have HI8 := hide (show SI w.heap.size w D S M3 X _ x w8 from ⟨HI7.out.dk.below hB8 (Nat.le_refl _), HI7.out.row.below hB8 HI7.out.row.lt, HI7.out.bel.trans (hB8.mono HI7.out.lt), HI7.out.bD, HI7.out.bS, HI7.out.bM, HI7.out.bX⟩); clear hR8 hB8)
                        go_roundw
                        case rel => exact ⟨j + 1, rfl, by omega, HI8.out⟩
                        case measure => show 40 - ((j + 1 : Nat) : Int).toNat < 40 - ((j : Nat) : Int).toNat; omega
                      · rw [hbk] at hbt; simp only [if_true] at hbt
                        have hv : wv = lb.getD j 0 := by rw [HWV.out]; unfold K.want; rw [if_pos ⟨hB, hbk⟩]
                        subst hv
                        obtain ⟨b, o, ea, hb, hcell⟩ := HSA.out.at (show j < la.length by rw [hla.out]; exact hA)
                        have y0 : wr.cell? ⟨b, o + j, none⟩ = some (.int .u8 ((la.getD j 0).toNat : Int)) := by
                          have := HI7.out.bel.cell (p := ⟨b, o + j, none⟩) hb
                          rw [this]; exact hcell
                        subst ea
                        clear hcell
                        obtain ⟨b', o', ea', hb', hcell'⟩ := HSB.out.at (show j < lb.length by rw [hlb.out]; exact hB)
                        have y0' : wr.cell? ⟨b', o' + j, none⟩ = some (.int .u8 ((lb.getD j 0).toNat : Int)) := by
                          have := HI7.out.bel.cell (p := ⟨b', o' + j, none⟩) hb'
                          rw [this]; exact hcell'
                        subst ea'
                        clear hcell'
                        clear HWV hbk
                        go_wp2_with (go_at_call 17; refine hRd'.mono ?_; rintro e w8 ⟨rfl, hR8, hB8⟩; have x8 := lz_cell hR8; have HI8 := hide (show SI w.heap.size w D S M3 X _ x w8 from ⟨HI7.out.dk.below hB8 (Nat.le_refl _), HI7.out.row.below hB8 HI7.out.row.lt, HI7.out.bel.trans (hB8.mono HI7.out.lt), HI7.out.bD, HI7.out.bS, HI7.out.bM, HI7.out.bX⟩); clear hR8 hB8)
                        go_roundw
                        case rel => exact ⟨j + 1, rfl, by omega, HI8.out⟩
                        case measure => show 40 - ((j + 1 : Nat) : Int).toNat < 40 - ((j : Nat) : Int).toNat; omega
                    · have hdB : decide ((j : Int) < (nb : Int)) = false := by simp; omega
                      have hv : wv = la.getD j 0 := by rw [HWV.out]; unfold K.want; rw [if_neg (fun h => hB h.1), if_pos hA]
                      subst hv
                      obtain ⟨b, o, ea, hb, hcell⟩ := HSA.out.at (show j < la.length by rw [hla.out]; exact hA)
                      have y0 : wr.cell? ⟨b, o + j, none⟩ = some (.int .u8 ((la.getD j 0).toNat : Int)) := by
                        have := HI7.out.bel.cell (p := ⟨b, o + j, none⟩) hb
                        rw [this]; exact hcell
                      subst ea
                      clear hcell
                      clear HWV
                      go_wp2_with (go_at_call 17; refine hRd'.mono ?_; rintro e w8 ⟨rfl, hR8, hB8⟩; have x8 := lz_cell hR8; have HI8 := hide (show SI w.heap.size w D S M3 X _ x w8 from ⟨HI7.out.dk.below hB8 (Nat.le_refl _), HI7.out.row.below hB8 HI7.out.row.lt, HI7.out.bel.trans (hB8.mono HI7.out.lt), HI7.out.bD, HI7.out.bS, HI7.out.bM, HI7.out.bX⟩); clear hR8 hB8)
                      go_roundw
                      case rel => exact ⟨j + 1, rfl, by omega, HI8.out⟩
                      case measure => show 40 - ((j + 1 : Nat) : Int).toNat < 40 - ((j : Nat) : Int).toNat; omega
                  · have hdA : decide ((j : Int) < (i : Int)) = false := by simp; omega
                    by_cases hB : j < nb
                    · have hdB : decide ((j : Int) < (nb : Int)) = true := by simp; omega
                      cases hbk : kp.testBit j
                      · rw [hbk] at hbt; simp only [Bool.false_eq_true, if_false] at hbt
                        have hv : wv = 0 := by rw [HWV.out]; unfold K.want; rw [if_neg (fun h => by rw [hbk] at h; cases h.2), if_neg hA]
                        subst hv
                        clear HWV hbk
                        go_wp2_with (go_at_call 17; refine hRd'.mono ?_; rintro e w8 ⟨rfl, hR8, hB8⟩; have x8 := lz_cell hR8; have HI8 := hide (show SI w.heap.size w D S M3 X _ x w8 from ⟨HI7.out.dk.below hB8 (Nat.le_refl _), HI7.out.row.below hB8 HI7.out.row.lt, HI7.out.bel.trans (hB8.mono HI7.out.lt), HI7.out.bD, HI7.out.bS, HI7.out.bM, HI7.out.bX⟩); clear hR8 hB8)
                        go_roundw
                        case rel => exact ⟨j + 1, rfl, by omega, HI8.out⟩
                        case measure => show 40 - ((j + 1 : Nat) : Int).toNat < 40 - ((j : Nat) : Int).toNat; omega
                      · rw [hbk] at hbt; simp only [if_true] at hbt
                        have hv : wv = lb.getD j 0 := by rw [HWV.out]; unfold K.want; rw [if_pos ⟨hB, hbk⟩]
                        subst hv
                        obtain ⟨b', o', ea', hb', hcell'⟩ := HSB.out.at (show j < lb.length by rw [hlb.out]; exact hB)
                        have y0' : wr.cell? ⟨b', o' + j, none⟩ = some (.int .u8 ((lb.getD j 0).toNat : Int)) := by
                          have := HI7.out.bel.cell (p := ⟨b', o' + j, none⟩) hb'
                          rw [this]; exact hcell'
                        subst ea'
                        clear hcell'
                        clear HWV hbk
                        go_wp2_with (go_at_call 17; refine hRd'.mono ?_; rintro e w8 ⟨rfl, hR8, hB8⟩; have x8 := lz_cell hR8; have HI8 := hide (show SI w.heap.size w D S M3 X _ x w8 from ⟨HI7.out.dk.below hB8 (Nat.le_refl _), HI7.out.row.below hB8 HI7.out.row.lt, HI7.out.bel.trans (hB8.mono HI7.out.lt), HI7.out.bD, HI7.out.bS, HI7.out.bM, HI7.out.bX⟩); clear hR8 hB8)
                        go_roundw
                        case rel => exact ⟨j + 1, rfl, by omega, HI8.out⟩
                        case measure => show 40 - ((j + 1 : Nat) : Int).toNat < 40 - ((j : Nat) : Int).toNat; omega
                    · have hdB : decide ((j : Int) < (nb : Int)) = false := by simp; omega
                      have hv : wv = 0 := by rw [HWV.out]; unfold K.want; rw [if_neg (fun h => hB h.1), if_neg hA]
                      subst hv
                      clear HWV
                      go_wp2_with (go_at_call 17; refine hRd'.mono ?_; rintro e w8 ⟨rfl, hR8, hB8⟩; have x8 := lz_cell hR8; have HI8 := hide (show SI w.heap.size w D S M3 X _ x w8 from ⟨HI7.out.dk.below hB8 (Nat.le_refl _), HI7.out.row.below hB8 HI7.out.row.lt, HI7.out.bel.trans (hB8.mono HI7.out.lt), HI7.out.bD, HI7.out.bS, HI7.out.bM, HI7.out.bX⟩); clear hR8 hB8)
                      go_roundw
                      case rel => exact ⟨j + 1, rfl, by omega, HI8.out⟩
                      case measure => show 40 - ((j + 1 : Nat) : Int).toNat < 40 - ((j : Nat) : Int).toNat; omega
                · have hd : decide ((j : Int) < 40) = false := by simp; omega
                  have HI7 := hide hI
                  clear hI
                  go_wp2
                  go_ret
                  exact ⟨rfl, HI7.out.bel⟩
    · go_enter Try.func5, Try.ntmps5
      go_wp2_with (go_at_call 6; refine (known_any _).mono ?_; rintro e w1 ⟨rfl, hB1⟩)
      go_ret
      exact ⟨rfl, hB1⟩
  · go_enter Try.func5, Try.ntmps5
    go_wp2_with (go_at_call 6; refine (known_any _).mono ?_; rintro e w1 ⟨rfl, hB1⟩)
    go_ret
    exact ⟨rfl, hB1⟩
end Go.Proofs.Ytmjdlejomohbdaa
