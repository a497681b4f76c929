/- hash.padded hands back the last block or two of a text, and how many bytes of them count. -/
import Derived.Test.YtgmjppmcfmcmkaaDoorPack
import Derived.Laws.CopyOwn
namespace Go.Proofs.YtgmjppmcfmcmkaaDoor
namespace H
open Go.RowKit
set_option maxRecDepth 5000 in
theorem info39 : (Tryd.prog.info? 54).map (·.size) = some 128 := by kernel_rfl
/- a slice of n bytes p 0, p 1 .. -/
def SlAt (w : World) (ao : Option Addr) (n : Nat) (p : Nat → BitVec 8) : Prop := 0 < n → ∃ b o, ao = some ⟨b, o, none⟩ ∧ b < w.heap.size ∧ ∀ j, j < n → w.cell? ⟨b, o + j, none⟩ = some (.int .u8 (p j).toNat)
set_option maxRecDepth 5000 in
theorem SlAt.below {B : Nat} {w w' : World} {ao : Option Addr} {n : Nat} {p : Nat → BitVec 8} (h : SlAt w ao n p) (hb : Below B w w') (hB : w.heap.size ≤ B) : SlAt w' ao n p := fun hn => by
  obtain ⟨b, o, e, hlt, hc⟩ := h hn
  exact ⟨b, o, e, Nat.lt_of_lt_of_le hlt hb.size, fun j hj => (hb.cell (p := ⟨b, o + j, none⟩) (Nat.lt_of_lt_of_le hlt hB)).trans (hc j hj)⟩
def lastF (p : Nat → BitVec 8) (n sz en : Nat) (j : Nat) : BitVec 8 :=
  if j < n then p j else if j = n then 0x80 else if en - 8 ≤ j ∧ j < en then Sha.lenB sz (j - (en - 8)) else 0
def bsL (n : Nat) (p : Nat → BitVec 8) : List Value := (List.range n).map (fb p)
def zeroL : List Value := List.replicate 128 (.int .u8 0)
def zeroA : Array Value := zeroL.toArray
set_option maxRecDepth 5000 in
theorem zeroL_get (j : Nat) (h : j < 128) : zeroL[j]? = some (.int .u8 0) := by unfold zeroL; rw [List.getElem?_replicate, if_pos h]
set_option maxRecDepth 5000 in
theorem zeroL_len : zeroL.length = 128 := by unfold zeroL; rw [List.length_replicate]
set_option maxRecDepth 5000 in
theorem zero39 : (Tryd.prog.info? 54).map (fun i => (i.zero, i.size)) = some (some (.agg zeroA), 128) := by kernel_rfl
set_option maxRecDepth 5000 in
theorem lenB_nat (n i : Nat) : ((Sha.lenB n i).toNat : Int) = (((n * 8 / 2 ^ (8 * (7 - i))) % 256 : Nat) : Int) := by
  simp [Sha.lenB]
set_option maxRecDepth 5000 in
theorem last_row (p : Nat → BitVec 8) (n sz en : Nat) (hn : n < 64) (hsz : sz < 1152921504606846976) (he : en = 64 ∧ n + 9 ≤ 64 ∨ en = 128 ∧ 64 < n + 9) :
    put4 (put4 ((splice zeroL 0 (bsL n p)).toArray.setIfInBounds n (.int .u8 128)) (en - 8) ((sz : Int) * 8 / 4294967296)) (en - 4) ((sz : Int) * 8 % 4294967296) = rowB 128 (lastF p n sz en) := by
  have hL : (splice zeroL 0 (bsL n p)).length = 128 := by rw [length_splice _ _ _ (by rw [zeroL_len]; simp [bsL]; omega)]; exact zeroL_len
  have hS : ((splice zeroL 0 (bsL n p)).toArray.setIfInBounds n (.int .u8 128)).size = 128 := by simp [hL]
  apply Array.ext_getElem?
  intro j
  obtain ⟨a0, a1, a2, a3⟩ := put4_in (put4 ((splice zeroL 0 (bsL n p)).toArray.setIfInBounds n (.int .u8 128)) (en - 8) ((sz : Int) * 8 / 4294967296)) (en - 4) ((sz : Int) * 8 % 4294967296) (by rw [put4_size, hS]; omega)
  obtain ⟨b0, b1, b2, b3⟩ := put4_in ((splice zeroL 0 (bsL n p)).toArray.setIfInBounds n (.int .u8 128)) (en - 8) ((sz : Int) * 8 / 4294967296) (by rw [hS]; omega)
  by_cases hj : j < 128
  · rw [rowB_get _ _ _ hj]
    by_cases h1 : en - 8 ≤ j ∧ j < en
    · have e1 : lastF p n sz en j = Sha.lenB sz (j - (en - 8)) := by
        unfold lastF; rw [if_neg (by omega), if_neg (by omega), if_pos h1]
      rw [e1, lenB_nat]
      by_cases h2 : en - 4 ≤ j
      · rcases (show j = en - 4 ∨ j = en - 4 + 1 ∨ j = en - 4 + 2 ∨ j = en - 4 + 3 by omega) with e | e | e | e
        · rw [e, a0, show en - 4 - (en - 8) = 4 by omega]; simp <;> omega
        · rw [e, a1, show en - 4 + 1 - (en - 8) = 5 by omega]; simp <;> omega
        · rw [e, a2, show en - 4 + 2 - (en - 8) = 6 by omega]; simp <;> omega
        · rw [e, a3, show en - 4 + 3 - (en - 8) = 7 by omega]; simp <;> omega
      · rw [put4_out _ _ _ _ (by omega)]
        rcases (show j = en - 8 ∨ j = en - 8 + 1 ∨ j = en - 8 + 2 ∨ j = en - 8 + 3 by omega) with e | e | e | e
        · rw [e, b0, show en - 8 - (en - 8) = 0 by omega]; simp <;> omega
        · rw [e, b1, show en - 8 + 1 - (en - 8) = 1 by omega]; simp <;> omega
        · rw [e, b2, show en - 8 + 2 - (en - 8) = 2 by omega]; simp <;> omega
        · rw [e, b3, show en - 8 + 3 - (en - 8) = 3 by omega]; simp <;> omega
    · rw [put4_out _ _ _ _ (by omega), put4_out _ _ _ _ (by omega), Array.getElem?_setIfInBounds]
      by_cases h3 : n = j
      · rw [if_pos h3, if_pos (by simp [hL]; omega)]
        unfold lastF; rw [if_neg (by omega), if_pos h3.symm]; rfl
      · rw [if_neg h3]
        by_cases h4 : j < n
        · unfold lastF; rw [if_pos h4]
          simp [splice, bsL, List.getElem?_append, h4, fb]
        · unfold lastF; rw [if_neg h4, if_neg (by omega), if_neg h1]
          simp [splice, bsL, List.getElem?_append, h4]
          exact zeroL_get _ (by omega)
  · rw [Array.getElem?_eq_none (by rw [put4_size, put4_size, hS]; omega), Array.getElem?_eq_none (by rw [rowB_size]; omega)]
set_option maxRecDepth 5000 in
theorem src_of (w : World) (ao : Option Addr) (n : Nat) (p : Nat → BitVec 8) (hs : SlAt w ao n p) (g : Nat) : 0 < (bsL n p).length → (some (⟨g, 0, none⟩ : Addr)) = some ⟨g, 0, none⟩ ∧ ∃ ad, ao = some ad ∧ ∀ j v, (bsL n p)[j]? = some v → w.cell? (ad.add j) = some v := fun hn => by
  obtain ⟨b, o, e, _, hc⟩ := hs (by simpa [bsL] using hn)
  refine ⟨rfl, ⟨b, o, none⟩, e, fun j v hv => ?_⟩
  have hj : j < n := by have := (List.getElem?_eq_some_iff.1 hv).1; simpa [bsL] using this
  rw [Addr.add_mid, hc j hj]
  simp [bsL, hj, fb] at hv
  rw [hv]
set_option maxRecDepth 5000 in
theorem bsL_one (n : Nat) (p : Nat → BitVec 8) : ∀ v ∈ bsL n p, v.oneCell' = true := fun v hv => by
  simp only [bsL, List.mem_map] at hv; obtain ⟨j, _, rfl⟩ := hv; rfl
set_option maxRecDepth 5000 in
theorem bsL_len (n : Nat) (p : Nat → BitVec 8) : (bsL n p).length = n := by simp [bsL]
set_option maxRecDepth 5000 in
theorem spl_len (n : Nat) (p : Nat → BitVec 8) (hn : n < 64) : (splice zeroL 0 (bsL n p)).toArray.size = 128 := by
  simp only [List.size_toArray]
  rw [length_splice _ _ _ (by rw [zeroL_len, bsL_len]; omega)]; exact zeroL_len
set_option maxRecDepth 5000 in
theorem rowAt_some {w : World} {g : Nat} {t : TypeId} {c : Array Value} (h : RowAt w g t c) (j : Nat) (hj : j < c.size) : ∃ v, w.cell? ⟨g, j, none⟩ = some v :=
  ⟨c[j], by rw [h.cell]; simp [hj]⟩
set_option maxRecDepth 5000 in
theorem results_rowAt_tmp {P : Program} {fn : Func} {p u : Tmp} {ty : TypeId} (h : fn.results = #[.cell p ty, .tmp u]) (tmps : Array Value) (w : World) (g : Nat) (t : TypeId) (cs : Array Value) (d : TypeDesc) (v : Value)
    (hp : tmps.getD p undef = .pointer (some ⟨g, 0, none⟩)) (hv : tmps.getD u undef = v) (hg : RowAt w g t cs)
    (hu : P.underlying ty = some d) (hd : (match d with | .struct _ | .array _ _ => true | _ => false) = true) (hi : (P.info? ty).map (·.size) = some cs.size) :
    (results fn tmps).run P w = .ok (.tuple #[.agg cs, v]) w := by
  rw [results_cell_tmp h, hp, hv]
  simp [asAddr, run_loadVar_row w g t ty cs (0, 0) d hg hu hd hi]
set_option maxRecDepth 3000 in
set_option maxHeartbeats 400000 in
theorem padded_any (p : Nat → BitVec 8) (ao : Option Addr) (n cap sz en : Nat) (w : World) (hs : SlAt w ao n p) (hn : n < 64) (hsz : sz < 1152921504606846976) (he : en = 64 ∧ n + 9 ≤ 64 ∨ en = 128 ∧ 64 < n + 9) :
    Calls Tryd.prog 33 #[.slice ao n cap, .int .u64 sz] w fun e w' => e = .returned (.tuple #[.agg (rowB 128 (lastF p n sz en)), .int .i64 en]) ∧ Below w.heap.size w w' := by
  have hz : ∀ o, RowAt ((w.alloc o).alloc (.cells zeroA 54)) (w.heap.size + 1) 54 zeroL.toArray := fun o => row_snd _ _ _ _
  have hz0 : ∀ o, RowAt ((w.alloc (.cells zeroA 54)).alloc o) w.heap.size 54 zeroA := fun o => (RowAt.new _ _ _).alloc _
  have hzv := (zero_of_info zero39).1
  have hcs : (bsL n p).length = Nat.min n 128 := by rw [bsL_len]; exact (Nat.min_eq_left (by omega)).symm
  have hs2 : ∀ o1 o2, SlAt ((w.alloc o1).alloc o2) ao n p := fun o1 o2 => hs.below (((Below.refl w.heap.size w).alloc (Nat.le_refl _) o1).alloc (by simp) o2) (Nat.le_refl _)
  have hb0 : Below w.heap.size w ((w.alloc (.cells zeroA 54)).alloc (.cells zeroA 54)) := ((Below.refl w.heap.size w).alloc (Nat.le_refl _) _).alloc (by simp) _
  rcases he with ⟨rfl, h9⟩ | ⟨rfl, h9⟩
  · go_enter Tryd.func33, Tryd.ntmps33
    go_wp2_with (refine wpList_copy_splice rfl (.tmp 9) (.tmp 10) 24 24 rfl 5 Tryd.underlying24 size5 _ ao 128 128 n cap rfl rfl (w.heap.size + 1) 0 zeroL 54 (hz _) (bsL n p) hcs (src_of _ _ _ _ (hs2 _ _) _) (by rw [zeroL_len, bsL_len]; omega) (bsL_one n p) (w.heap.size + 1) _ (Below.refl _ _) (Nat.le_refl _) ?_; intro w2 HR2 hB2; have hR2 : RowAt w2 (w.heap.size + 1) 54 (splice zeroL 0 (bsL n p)).toArray := HR2.out; obtain ⟨v, hv⟩ := rowAt_some hR2 n (by rw [spl_len n p hn]; omega); have hf := hR2.frozen n; have hQ2 := (hz0 (.cells zeroA 54)).below hB2 (by omega); have hBB := hb0.trans (hB2.mono (by omega)); clear HR2 hB2 hz hz0 hs2 hb0)
    refine (put_any _ _ (w.heap.size + 1) 56 _ _ 54 _ (by omega) (by omega) (hR2.set n _) (by simp only [Array.size_setIfInBounds]; rw [spl_len n p hn]; omega) (by omega) (by omega)).mono ?_
    rintro e w3 ⟨rfl, hO3⟩
    go_wp2_with fail
    refine (put_any _ w3 (w.heap.size + 1) 60 _ _ 54 _ (by omega) (by omega) hO3.row (by rw [put4_size]; simp only [Array.size_setIfInBounds]; rw [spl_len n p hn]; omega) (by omega) (by omega)).mono ?_
    rintro e w4 ⟨rfl, hO4⟩
    have hR4 := hO4.row
    have hlast := last_row p n sz 64 hn hsz (by omega)
    simp only [show 64 - 8 = 56 from rfl, show 64 - 4 = 60 from rfl] at hlast
    rw [hlast] at hR4
    clear hlast
    have hQ4 : RowAt w4 w.heap.size 54 zeroA := hO4.rowAt (hO3.rowAt (hQ2.other _ _ (by simp)) (by omega)) (by omega)
    have hB4 : Below w.heap.size w w4 := ((hBB.setCell (by simp) _).trans (hO3.below.mono (by omega))).trans (hO4.below.mono (by omega))
    clear hO4 hO3 hR2 hv hf hQ2 hBB
    go_wp2_with (first
      | (refine wpList_load_rowAt rfl 54 (.tmp 6) rfl (w.heap.size + 1) rfl 54 _ _ hR4 Tryd.underlying54 rfl (by rw [rowB_size]; exact info39) ?_)
      | (refine wpList_store_rowAt rfl 54 (.tmp 4) (.tmp 35) rfl w.heap.size _ rfl rfl 54 zeroA hQ4 (by rw [rowB_size]; exact info39) (by rw [rowB_size]; exact zeroL_len) (rowB_one _ _) ?_))
    exact bodyPost_ret (v := .tuple #[.agg (rowB 128 (lastF p n sz 64)), .int .i64 64]) (results_rowAt_tmp Tryd.results33 _ _ w.heap.size 54 _ _ _ rfl rfl (setRow_same hQ4 _) Tryd.underlying54 rfl (by rw [rowB_size]; exact info39)) rfl ⟨rfl, below_setRow hB4 (Nat.le_refl _) _⟩
  · go_enter Tryd.func33, Tryd.ntmps33
    go_wp2_with (refine wpList_copy_splice rfl (.tmp 9) (.tmp 10) 24 24 rfl 5 Tryd.underlying24 size5 _ ao 128 128 n cap rfl rfl (w.heap.size + 1) 0 zeroL 54 (hz _) (bsL n p) hcs (src_of _ _ _ _ (hs2 _ _) _) (by rw [zeroL_len, bsL_len]; omega) (bsL_one n p) (w.heap.size + 1) _ (Below.refl _ _) (Nat.le_refl _) ?_; intro w2 HR2 hB2; have hR2 : RowAt w2 (w.heap.size + 1) 54 (splice zeroL 0 (bsL n p)).toArray := HR2.out; obtain ⟨v, hv⟩ := rowAt_some hR2 n (by rw [spl_len n p hn]; omega); have hf := hR2.frozen n; have hQ2 := (hz0 (.cells zeroA 54)).below hB2 (by omega); have hBB := hb0.trans (hB2.mono (by omega)); clear HR2 hB2 hz hz0 hs2 hb0)
    refine (put_any _ _ (w.heap.size + 1) 120 _ _ 54 _ (by omega) (by omega) (hR2.set n _) (by simp only [Array.size_setIfInBounds]; rw [spl_len n p hn]; omega) (by omega) (by omega)).mono ?_
    rintro e w3 ⟨rfl, hO3⟩
    go_wp2_with fail
    refine (put_any _ w3 (w.heap.size + 1) 124 _ _ 54 _ (by omega) (by omega) hO3.row (by rw [put4_size]; simp only [Array.size_setIfInBounds]; rw [spl_len n p hn]; omega) (by omega) (by omega)).mono ?_
    rintro e w4 ⟨rfl, hO4⟩
    have hR4 := hO4.row
    have hlast := last_row p n sz 128 hn hsz (by omega)
    simp only [show 128 - 8 = 120 from rfl, show 128 - 4 = 124 from rfl] at hlast
    rw [hlast] at hR4
    clear hlast
    have hQ4 : RowAt w4 w.heap.size 54 zeroA := hO4.rowAt (hO3.rowAt (hQ2.other _ _ (by simp)) (by omega)) (by omega)
    have hB4 : Below w.heap.size w w4 := ((hBB.setCell (by simp) _).trans (hO3.below.mono (by omega))).trans (hO4.below.mono (by omega))
    clear hO4 hO3 hR2 hv hf hQ2 hBB
    go_wp2_with (first
      | (refine wpList_load_rowAt rfl 54 (.tmp 6) rfl (w.heap.size + 1) rfl 54 _ _ hR4 Tryd.underlying54 rfl (by rw [rowB_size]; exact info39) ?_)
      | (refine wpList_store_rowAt rfl 54 (.tmp 4) (.tmp 35) rfl w.heap.size _ rfl rfl 54 zeroA hQ4 (by rw [rowB_size]; exact info39) (by rw [rowB_size]; exact zeroL_len) (rowB_one _ _) ?_))
    exact bodyPost_ret (v := .tuple #[.agg (rowB 128 (lastF p n sz 128)), .int .i64 128]) (results_rowAt_tmp Tryd.results33 _ _ w.heap.size 54 _ _ _ rfl rfl (setRow_same hQ4 _) Tryd.underlying54 rfl (by rw [rowB_size]; exact info39)) rfl ⟨rfl, below_setRow hB4 (Nat.le_refl _) _⟩
end H
end Go.Proofs.YtgmjppmcfmcmkaaDoor
