/- hash.Sum hands back the sum of the bytes of its slice, and turns nothing that was there. -/
import Derived.Test.YtgmjppmcfmcmkaaDoorSumA
namespace Go.Proofs.YtgmjppmcfmcmkaaDoor
namespace H
open Go.RowKit
/- what every round of the two loops leaves: the result's row, the state's row, old memory as it was -/
set_option maxRecDepth 5000 in
theorem hide {p : Prop} (h : p) : Hid p := h
set_option maxRecDepth 5000 in
theorem unhide {p : Prop} (h : Hid p) : p := h
structure SumInv (w wr : World) (s : Sha.St) : Prop where
  below : Below w.heap.size w wr
  res : ∃ c, RowAt wr w.heap.size 42 c ∧ c.size = 32
  st : RowAt wr (w.heap.size + 1) 52 (rowS s)
set_option maxRecDepth 5000 in
theorem SumInv.drew {w wr : World} {s : Sha.St} (h : SumInv w wr s) : SumInv w wr.drew s := ⟨h.below.drew, h.res, h.st⟩
set_option maxRecDepth 5000 in
theorem SumInv.call {w wr w' : World} {s : Sha.St} (h : SumInv w wr s) (hb : Below wr.heap.size wr w') : SumInv w w' s := by
  have h1 := h.st.lt
  obtain ⟨c, hr, hs⟩ := h.res
  exact ⟨h.below.trans (hb.mono (by omega)), ⟨c, hr.below hb (by omega), hs⟩, h.st.below hb h1⟩
set_option maxRecDepth 5000 in
theorem SumInv.set {w wr : World} {s : Sha.St} (h : SumInv w wr s) (t : Sha.St) : SumInv w ((((((((wr.setCell ⟨w.heap.size + 1, 0, none⟩ (.int .u32 t.a.toNat)).setCell ⟨w.heap.size + 1, 1, none⟩ (.int .u32 t.b.toNat)).setCell ⟨w.heap.size + 1, 2, none⟩ (.int .u32 t.c.toNat)).setCell ⟨w.heap.size + 1, 3, none⟩ (.int .u32 t.d.toNat)).setCell ⟨w.heap.size + 1, 4, none⟩ (.int .u32 t.e.toNat)).setCell ⟨w.heap.size + 1, 5, none⟩ (.int .u32 t.f.toNat)).setCell ⟨w.heap.size + 1, 6, none⟩ (.int .u32 t.g.toNat)).setCell ⟨w.heap.size + 1, 7, none⟩ (.int .u32 t.h.toNat)) t := by
  obtain ⟨c, hr, hs⟩ := h.res
  refine ⟨?_, ⟨c, ?_, hs⟩, st_set h.st t⟩
  · exact (((((((h.below.setCell (by simp) _).setCell (by simp) _).setCell (by simp) _).setCell (by simp) _).setCell (by simp) _).setCell (by simp) _).setCell (by simp) _).setCell (by simp) _
  · exact (((((((hr.other _ _ (by simp)).other _ _ (by simp)).other _ _ (by simp)).other _ _ (by simp)).other _ _ (by simp)).other _ _ (by simp)).other _ _ (by simp)).other _ _ (by simp)
set_option maxRecDepth 5000 in
theorem SumInv.next {w w1 : World} {bs : List (BitVec 8)} {k : Nat} {t : Sha.St} (hI : SumInv w w1 (Sha.run (Sha.padF bs) k)) (HT : t = Sha.comp (Sha.run (Sha.padF bs) k) (Sha.mw (Sha.padF bs) (64 * k))) : SumInv w ((((((((w1.setCell ⟨w.heap.size + 1, 0, none⟩ (.int .u32 t.a.toNat)).setCell ⟨w.heap.size + 1, 1, none⟩ (.int .u32 t.b.toNat)).setCell ⟨w.heap.size + 1, 2, none⟩ (.int .u32 t.c.toNat)).setCell ⟨w.heap.size + 1, 3, none⟩ (.int .u32 t.d.toNat)).setCell ⟨w.heap.size + 1, 4, none⟩ (.int .u32 t.e.toNat)).setCell ⟨w.heap.size + 1, 5, none⟩ (.int .u32 t.f.toNat)).setCell ⟨w.heap.size + 1, 6, none⟩ (.int .u32 t.g.toNat)).setCell ⟨w.heap.size + 1, 7, none⟩ (.int .u32 t.h.toNat)) (Sha.run (Sha.padF bs) (k + 1)) := by
  have h := hI.set t
  rw [show Sha.run (Sha.padF bs) (k + 1) = t from HT.symm]
  exact h
set_option maxRecDepth 5000 in
theorem sum_next {w wN : World} {bs : List (BitVec 8)} {n cap k m c b o : Nat} (h1 : 64 * k + m ≤ n) (h2 : n ≤ 64 * k + m) (h3 : m ≤ c) (h4 : c ≤ cap) (hlt : 64 ≤ m) (hb : b < w.heap.size)
    (hc : ∀ j, j < m → w.cell? ⟨b, o + j, none⟩ = some (.int .u8 (Sha.padF bs (64 * k + j)).toNat)) (hI : SumInv w wN (Sha.run (Sha.padF bs) (k + 1))) :
    ∃ (k' m' c' : Nat) (a : Option Addr), Value.slice (if c = 64 then some ⟨b, o, none⟩ else some ⟨b, o + 64, none⟩) (m - 64) (c - 64) = .slice a m' c' ∧ 64 * k' + m' ≤ n ∧ n ≤ 64 * k' + m' ∧ m' ≤ c' ∧ c' ≤ cap ∧ (0 < m' → ∃ b o, a = some ⟨b, o, none⟩ ∧ b < w.heap.size ∧ ∀ j, j < m' → w.cell? ⟨b, o + j, none⟩ = some (.int .u8 (Sha.padF bs (64 * k' + j)).toNat)) ∧ SumInv w wN (Sha.run (Sha.padF bs) k') := by
  refine ⟨k + 1, m - 64, c - 64, _, rfl, by omega, by omega, by omega, by omega, fun h => ?_, hI⟩
  refine ⟨b, o + 64, by rw [if_neg (by omega)], hb, fun j hj => ?_⟩
  rw [show o + 64 + j = o + (64 + j) by omega, hc (64 + j) (by omega), show 64 * k + (64 + j) = 64 * (k + 1) + j by omega]
set_option maxRecDepth 5000 in
theorem run_cutB {P : Program} {t e : TypeId} {n : Nat} (hu : P.underlying t = some (.array n e)) (he : (P.info? e).map (·.size) = some 1) (g m d : Nat) (hm : m + d ≤ n) (hd : 0 < d) (l h : Int) (hl : l = (m : Int)) (hh : h = (m : Int) + (d : Int)) (w : World) :
    (Instr.sliceAt t (.pointer (some ⟨g, 0, none⟩)) (some (.int .i64 l)) (some (.int .i64 h)) none).run P w = .ok (.slice (some ⟨g, m, none⟩) d (n - m)) w := by
  subst hl; subst hh
  have h1 := run_size he w
  have hne : n ≠ m := by omega
  have e1 : (0 : Int) ≤ (m : Int) + (d : Int) := by omega
  have e2 : (m : Int) + (d : Int) ≤ (n : Int) := by omega
  have e3 : (m : Int) ≤ (m : Int) + (d : Int) := by omega
  have e4 : ((m : Int) + (d : Int)).toNat = m + d := by omega
  simp [Instr.sliceAt, Instr.sureAddr, run_underlying hu, Instr.sliceBounds, Instr.sliceBound, asIntOf, h1, hne, Addr.add, e1, e2, e4]
  intro h; exact h.symm
set_option maxRecDepth 3000 in
set_option maxHeartbeats 1000000 in
theorem sum_any (bs : List (BitVec 8)) (ao : Option Addr) (n cap : Nat) (w : World) (hl : Hid (bs.length = n)) (hs : SlAt w ao n (Sha.padF bs)) (hn : n ≤ cap) (hn2 : n < 1152921504606846976) (hT : Tab w) :
    Calls Tryd.prog 20 #[.slice ao n cap] w fun e w' => e = .returned (.agg (rowB 32 (Sha.digB (Sha.run (Sha.padF bs) (Sha.nb n))))) ∧ Below w.heap.size w w' := by
  go_enter Tryd.func20, Tryd.ntmps20
  go_wp2
  go_loopw [4] (fun v wr => ∃ (k m c : Nat) (a : Option Addr), v = .slice a m c ∧ 64 * k + m ≤ n ∧ n ≤ 64 * k + m ∧ m ≤ c ∧ c ≤ cap ∧ (0 < m → ∃ b o, a = some ⟨b, o, none⟩ ∧ b < w.heap.size ∧ ∀ j, j < m → w.cell? ⟨b, o + j, none⟩ = some (.int .u8 (Sha.padF bs (64 * k + j)).toNat)) ∧ SumInv w wr (Sha.run (Sha.padF bs) k)) (fun v _ => match v with | .slice _ m _ => m | _ => 0)
  case atStart =>
    refine ⟨0, n, cap, ao, rfl, by omega, by omega, hn, by omega, ?_, ?_⟩
    · intro h; obtain ⟨b, o, e, hb, hc⟩ := hs h; exact ⟨b, o, e, hb, fun j hj => by rw [hc j hj, show 64 * 0 + j = j by omega]⟩
    · exact ⟨((Below.refl _ _).alloc (Nat.le_refl _) _).alloc (by simp) _, ⟨_, (RowAt.new _ _ _).alloc _, rfl⟩, row_snd _ _ _ _⟩
  case round =>
    obtain ⟨k, m, c, a, rfl, h1, h2, h3, h4, h5, hI⟩ := hrel
    by_cases hlt : 64 ≤ m
    · obtain ⟨b, o, rfl, hb, hc⟩ := h5 (by omega)
      have hst := hI.st.st
      obtain ⟨hrow, s0, s1, s2, s3, s4, s5, s6, s7⟩ := hst
      have hTr := hT.below hI.below hT.1
      have hbr : b < wr.heap.size := Nat.lt_of_lt_of_le hb hI.below.size
      have hcr : ∀ j, j < 64 → wr.cell? ⟨b, o + j, none⟩ = some (.int .u8 (Sha.padF bs (64 * k + j)).toNat) := fun j hj => (hI.below.cell (p := ⟨b, o + j, none⟩) hb).trans (hc j (by omega))
      have HC := hide hcr
      have HS := hide hs
      have HC0 := hide hc
      clear hs hrow h5 hcr hc
      go_wp2
      go_region_with (go_at_call 32; refine (comp_at (Sha.run (Sha.padF bs) k) (Sha.padF bs) (64 * k) b o _ _ _ (by omega) (by omega) (by exact hbr) (by exact unhide HC) (by exact hTr)).mono ?_; rintro e w1 ⟨t, HT, rfl, hB1⟩; have hI1 := (hI.drew).call hB1; obtain ⟨hrow1, t0, t1, t2, t3, t4, t5, t6, t7⟩ := hI1.st.st; have f0 := hrow1.frozen 0; have f1 := hrow1.frozen 1; have f2 := hrow1.frozen 2; have f3 := hrow1.frozen 3; have f4 := hrow1.frozen 4; have f5 := hrow1.frozen 5; have f6 := hrow1.frozen 6; have f7 := hrow1.frozen 7; clear hrow1 s0 s1 s2 s3 s4 s5 s6 s7 hB1)
      all_goals go_wp2
      all_goals go_roundw
      all_goals first | exact sum_next h1 h2 h3 h4 hlt hb (unhide HC0) (hI1.next (unhide HT)) | (show m - 64 < m; omega)
    · have hSl : SlAt wr a m (fun j => Sha.padF bs (64 * k + j)) := fun h => by
        obtain ⟨b, o, e, hb, hc⟩ := h5 h
        exact ⟨b, o, e, Nat.lt_of_lt_of_le hb hI.below.size, fun j hj => (hI.below.cell (p := ⟨b, o + j, none⟩) hb).trans (hc j hj)⟩
      obtain ⟨en, hen⟩ : ∃ en, en = 64 ∧ m + 9 ≤ 64 ∨ en = 128 ∧ 64 < m + 9 := by
        by_cases h : m + 9 ≤ 64
        · exact ⟨64, Or.inl ⟨rfl, h⟩⟩
        · exact ⟨128, Or.inr ⟨rfl, by omega⟩⟩
      have hT0 := hT.1
      have hzv := (zero_of_info zero39).1
      clear hs h5
      go_wp2_with fail
      refine (padded_any (fun j => Sha.padF bs (64 * k + j)) a m c n en _ (by exact hSl) (by omega) (by omega) hen).mono ?_
      rintro e w2 ⟨rfl, hB2⟩
      have hI2 := hI.call hB2
      have HEN : Hid (en = 64 ∧ m + 9 ≤ 64 ∨ en = 128 ∧ 64 < m + 9) := hen
      have hen1 : 64 ≤ en := by omega
      have hen2 : en ≤ 128 := by omega
      have hz2 := hI2.st.lt
      clear hI hB2 hSl hen
      go_wp2_with (refine wpList_store_abs rfl 54 (.tmp 5) (.tmp 25) rfl w2.heap.size (rowB 128 (lastF (fun j => Sha.padF bs (64 * k + j)) m n en)) rfl rfl 54 zeroA (RowAt.new w2 54 _) (by rw [rowB_size]; exact info39) (by rw [rowB_size]; exact zeroL_len) (rowB_one _ _) w2.heap.size (Nat.le_refl _) ?_; intro w3 hR3 hO3 hz3 hB3)
      have hI3 : SumInv w w3 (Sha.run (Sha.padF bs) k) := by
        obtain ⟨c0, hr0, hs0⟩ := hI2.res
        exact ⟨(hI2.below.alloc (by omega) _).trans (hB3.mono (by omega)), ⟨c0, hO3 _ _ _ (by omega) (hr0.alloc _), hs0⟩, hO3 _ _ _ (by omega) (hI2.st.alloc _)⟩
      have HLP : Hid (∀ j, j < en → lastF (fun j => Sha.padF bs (64 * k + j)) m n en j = Sha.padF bs (64 * k + j)) := fun j hj => by
        have hbl : bs.length = n := hl.out
        have := last_pad bs k m en (by omega) (by omega) HEN.out j hj
        rw [hbl] at this; exact this
      clear hO3 hz3 hB3 hI2
      go_loopw [7] (fun v wr => ∃ i at' : Nat, v = .int .i64 (at' : Int) ∧ at' ≤ en ∧ 64 * i ≤ at' ∧ at' ≤ 64 * i ∧ SumInv w wr (Sha.run (Sha.padF bs) (k + i)) ∧ RowAt wr w2.heap.size 54 (rowB 128 (lastF (fun j => Sha.padF bs (64 * k + j)) m n en))) (fun v _ => 128 - (intOf v).toNat)
      case atStart => exact ⟨0, 0, rfl, by omega, by omega, by omega, hI3, hR3⟩
      case round =>
        clear hI3 hR3
        obtain ⟨i, at', rfl, g1, g2, g3, hI, hR⟩ := hrel
        by_cases hat : at' < en
        · have hat64 : at' + 64 ≤ en := by have := HEN.out; omega
          have hcut := run_cutB Tryd.underlying54 size5 w2.heap.size at' 64 (by omega) (by omega) (at' : Int) (IntKind.i64.wrap ((at' : Int) + 64)) rfl (by rw [IntKind.wrap_i64]; omega)
          obtain ⟨hrow, s0, s1, s2, s3, s4, s5, s6, s7⟩ := hI.st.st
          have hTr := hT.below hI.below hT0
          have hbr := hR.lt
          have HC : Hid (∀ j, j < 64 → wr.cell? ⟨w2.heap.size, at' + j, none⟩ = some (.int .u8 (Sha.padF bs (64 * (k + i) + j)).toNat)) := fun j hj => by
            rw [hR.cell, rowB_get _ _ _ (by omega), HLP.out _ (by omega), show 64 * k + (at' + j) = 64 * (k + i) + j by omega]
          clear hrow
          go_wp2
          go_region_with (go_at_call 32; refine (comp_at (Sha.run (Sha.padF bs) (k + i)) (Sha.padF bs) (64 * (k + i)) w2.heap.size at' _ _ _ (by omega) (by omega) (by exact hbr) (by exact unhide HC) (by exact hTr)).mono ?_; rintro e w4 ⟨t, HT, rfl, hB4⟩; have hI4 := (hI.drew).call hB4; have hR4 := (hR.drew).below hB4 (by exact hbr); obtain ⟨hrow4, t0, t1, t2, t3, t4, t5, t6, t7⟩ := hI4.st.st; have f0 := hrow4.frozen 0; have f1 := hrow4.frozen 1; have f2 := hrow4.frozen 2; have f3 := hrow4.frozen 3; have f4 := hrow4.frozen 4; have f5 := hrow4.frozen 5; have f6 := hrow4.frozen 6; have f7 := hrow4.frozen 7; clear hrow4 s0 s1 s2 s3 s4 s5 s6 s7 hB4)
          all_goals go_wp2
          all_goals go_roundw
          all_goals first
            | exact ⟨i + 1, at' + 64, by go_num, by omega, by omega, by omega, hI4.next (unhide HT), (((((((hR4.other _ _ (by simp; omega)).other _ _ (by simp; omega)).other _ _ (by simp; omega)).other _ _ (by simp; omega)).other _ _ (by simp; omega)).other _ _ (by simp; omega)).other _ _ (by simp; omega)).other _ _ (by simp; omega)⟩
            | (simp [intOf]; omega)
        · have hki : Sha.nb n = k + i := by
            have := nb_of n k m en (by omega) (by omega) HEN.out
            have h64 := HEN.out
            omega
          have HK : Hid (Sha.nb n = k + i) := hki
          obtain ⟨hrow, s0, s1, s2, s3, s4, s5, s6, s7⟩ := hI.st.st
          obtain ⟨c0, hr0, hs0⟩ := hI.res
          have hB := hI.below
          have hz := hI.st.lt
          clear hki hrow hI hR HLP
          go_wp2_with fail
          refine (pack_lit _ _).mono ?_
          rintro e w5 ⟨rfl, hB5⟩
          have hr5 := hr0.below hB5 (by omega)
          have hb5 := hB.trans (hB5.mono (by omega))
          clear hB5 hB hr0 s0 s1 s2 s3 s4 s5 s6 s7
          go_wp2_with (refine wpList_store_rowAt rfl 42 (.tmp 2) (.tmp 39) rfl w.heap.size (rowB 32 (Sha.digB (Sha.run (Sha.padF bs) (k + i)))) rfl rfl 42 c0 hr5 (by rw [rowB_size]; exact info24) (by rw [rowB_size]; exact hs0) (rowB_one _ _) ?_)
          rw [← HK.out]
          exact bodyPost_ret (v := .agg (rowB 32 (Sha.digB (Sha.run (Sha.padF bs) (Sha.nb n))))) (results_rowAt Tryd.results20 _ _ w.heap.size 42 _ _ rfl (setRow_same hr5 _) Tryd.underlying42 rfl (by rw [rowB_size]; exact info24)) rfl ⟨rfl, below_setRow hb5 (Nat.le_refl _) _⟩
end H
end Go.Proofs.YtgmjppmcfmcmkaaDoor
