/- signetref1.Cut hands back the first eight bytes of the sum; signetref1.Short those of a tag and its parts. -/
import Derived.Test.YtpiehjfoojipiaaDoorShort
import Derived.Test.YtpiehjfoojipiaaDoorRef
namespace Go.Proofs.YtpiehjfoojipiaaDoor
open Go.RowKit
set_option maxRecDepth 5000 in
theorem row_range {w : World} {g : Nat} {t : TypeId} {n m : Nat} {f : Nat → BitVec 8} (h : RowAt w g t (rowB n f)) (hm : m ≤ n) : w.rangeAt g 0 (bsL m f) := fun j v hv => by
  have hj : j < m := by have := (List.getElem?_eq_some_iff.1 hv).1; rwa [bsL_len] at this
  rw [Nat.zero_add, h.cell, rowB_get _ _ _ (by omega)]
  simp [bsL, hj, fb] at hv
  rw [hv]
set_option maxRecDepth 5000 in
theorem run_arr (a : Addr) (c : Nat) (w : World) : (Instr.arrayAt 22 (.slice (some a) 8 c)).run Tryd.prog w = .ok (.pointer (some a)) w := by
  simp [Instr.arrayAt, run_underlying Tryd.underlying22]
set_option maxRecDepth 5000 in
theorem bsL_arr (n : Nat) (f : Nat → BitVec 8) : (bsL n f).toArray = rowB n f := rfl
set_option maxRecDepth 3000 in
set_option maxHeartbeats 1000000 in
theorem cut_any (bs : List (BitVec 8)) (ao : Option Addr) (n cap : Nat) (w : World) (hl : Hid (bs.length = n)) (hs : SlL w ao bs) (hnil : ao = none → cap = 0) (hn : n < 1000000000) :
    Calls Tryd.prog 51 #[.slice ao n cap] w fun e w' => e = .returned (.agg (rowB 8 (sumF bs))) ∧ Below w.heap.size w w' := by
  have hb0 : ∀ o, Below w.heap.size w (w.alloc o) := fun o => (Below.refl _ _).alloc (Nat.le_refl _) _
  have hs0 : ∀ o, SlL (w.alloc o) ao bs := fun o => hs.alloc o
  have HN := hide hnil
  have HSF : Hid (sumF bs = Sha.digB (Sha.run (Sha.padF bs) (Sha.nb n))) := by show _ = _; unfold sumF; rw [hl.out]
  clear hs hnil
  have harr := run_arr
  go_enter Tryd.func51, Tryd.ntmps51
  go_wp2_with fail
  refine (ref_any bs ao n cap _ hl (by exact hs0 _) HN.out hn).mono ?_
  rintro e w1 ⟨rfl, hB1⟩
  rw [← HSF.out]
  have hb1 : Below w.heap.size w w1 := (hb0 _).trans (hB1.mono (by simp))
  have hr1 : ∃ c, RowAt w1 w.heap.size 22 c ∧ c.size = 8 := ⟨_, (RowAt.new w 22 _).below hB1 (by simp), rfl⟩
  have hz1 : w.heap.size < w1.heap.size := by have := hB1.size; simp at this; omega
  clear hB1 hb0 hs0
  go_wp2_with (first
    | (refine wpList_store_abs rfl 74 (.tmp 3) (.tmp 5) rfl w1.heap.size (rowB 32 (sumF bs)) rfl rfl 74 _ (RowAt.new w1 74 _) (by rw [rowB_size]; exact info24) (by rw [rowB_size]; rfl) (rowB_one _ _) w1.heap.size (Nat.le_refl _) ?_; intro w2 hR2 hO2 hz2 hB2; obtain ⟨cr, hr1, hc1⟩ := hr1; have hr2 := hO2 _ _ _ (by omega) (hr1.alloc _); have hb2 := (hb1.alloc (by omega) _).trans (hB2.mono (by omega)); clear hO2 hz2 hB2 hr1)
    | (refine wpList_load_mid rfl 22 (.tmp 7) rfl w1.heap.size 0 rfl (bsL 8 (sumF bs)) _ (row_range hR2 (by omega)) Tryd.underlying22 rfl (by rw [bsL_len]; exact info28) ?_)
    | (refine wpList_store_rowAt rfl 22 (.tmp 2) (.tmp 8) rfl w.heap.size (rowB 8 (sumF bs)) rfl rfl 22 cr hr2 (by rw [rowB_size]; exact info28) (by rw [rowB_size]; exact hc1) (rowB_one _ _) ?_))
  exact bodyPost_ret (v := .agg (rowB 8 (sumF bs))) (results_rowAt Tryd.results51 _ _ w.heap.size 22 _ _ rfl (setRow_same hr2 _) Tryd.underlying22 rfl (by rw [rowB_size]; exact info28)) rfl ⟨rfl, below_setRow hb2 (Nat.le_refl _) _⟩
set_option maxRecDepth 3000 in
set_option maxHeartbeats 1000000 in
theorem refShort_any (tag : BitVec 8) (l : List (List (BitVec 8))) (ao : Option Addr) (n cap : Nat) (w : World) (hl : Hid (l.length = n)) (hs : PartsAt w ao l) (hn : n ≤ 900) (hp : ∀ p ∈ l, p.length ≤ 1000000) :
    Calls Tryd.prog 45 #[.int .u8 tag.toNat, .slice ao n cap] w fun e w' => e = .returned (.agg (rowB 8 (sumF (tag :: ptext l)))) ∧ Below w.heap.size w w' := by
  have HP := hide hp
  have HS := hide hs
  clear hp hs
  go_enter Tryd.func45, Tryd.ntmps45
  go_wp2
  go_loopw [5, 6] (fun v i wr => ∃ k : Nat, k ≤ n ∧ i = .int .i64 (k : Int) ∧ OwnB wr (w.heap.size + 1) v (tag :: ptext (l.take k)) ∧ ShInv w wr) (fun _ i _ => n - (intOf i).toNat)
  case atStart =>
    refine ⟨0, by omega, rfl, ?_, ?_⟩
    · have h := OwnB.build (w.alloc (.cells #[.int .u8 0, .int .u8 0, .int .u8 0, .int .u8 0, .int .u8 0, .int .u8 0, .int .u8 0, .int .u8 0] 22)) tag (w.heap.size + 1) (by simp)
      simpa [ptext] using h
    · exact ShInv.next (wr := w.alloc (.cells #[.int .u8 0, .int .u8 0, .int .u8 0, .int .u8 0, .int .u8 0, .int .u8 0, .int .u8 0, .int .u8 0] 22)) ⟨(Below.refl _ _).alloc (Nat.le_refl _) _, _, RowAt.new _ _ _, rfl⟩ ((Below.refl _ _).alloc (by simp) _)
  case round =>
    obtain ⟨k, hk, rfl, hO, hI⟩ := hrel
    have hlt1 := hI.lt
    by_cases hlt : k < n
    · have hkl : k < l.length := by have := hl.out; omega
      obtain ⟨b, o, rfl, hb, hc⟩ := HS.out (by omega)
      obtain ⟨a, c, hcell, hsl, hnl, hle⟩ := hc k hkl
      have hlen := getD_le HP.out k hkl
      have htot := take_le HP.out k (by omega) (by have := hl.out; omega)
      generalize hpe : l.getD k [] = p at hcell hsl hle hlen
      have HPE := hide hpe
      clear hc hpe
      have hcell' : wr.cell? ⟨b, o + k, none⟩ = some (.slice a p.length c) := (hI.below.cell (p := ⟨b, o + k, none⟩) hb).trans hcell
      have hlow : Hid (0 < p.length → ∀ b' o', a = some ⟨b', o', none⟩ → b' < w.heap.size + 1) := fun h0 b' o' e => by
        obtain ⟨b2, o2, e2, hlt2, _⟩ := hsl h0
        rw [e2] at e
        cases e; omega
      have hsl' := hsl.below hI.below (Nat.le_refl _)
      have HSL := hide hsl'
      have HNL := hide hnl
      clear hsl hnl hcell hsl'
      go_wp2_with (go_at_call 50; refine (part_any (w.heap.size + 1) _ _ p a p.length c _ rfl hO (by exact HSL.out) hlow.out HNL.out (by simp; omega) (by omega) (by exact hlt1)).mono ?_; rintro e w2 ⟨v2, rfl, hO2, hB2⟩)
      have hI2 := hI.next hB2
      clear hO hI hB2
      go_wp2
      go_roundw
      case rel =>
        refine ⟨k + 1, by omega, by go_num, ?_, hI2⟩
        rw [ptext_take l k hkl, HPE.out]
        simpa using hO2
      case measure => simp [intOf]; omega
    · have hkk : l.take k = l := by
        have := hl.out
        rw [List.take_of_length_le (by omega)]
      rw [hkk] at hO
      have htot : (ptext l).length < 999999999 := by
        have h1 := ptext_len l HP.out
        have h2 := hl.out
        omega
      clear hkk
      obtain ⟨g, c, rfl, hg1, hg2, hg3, hg4, _⟩ := hO.form (by simp)
      have hsl := hO.sl
      clear hg3 hO
      go_wp2_with fail
      refine (cut_any (tag :: ptext l) _ _ c _ (by exact rfl) (by exact hsl) (by simp) (by omega)).mono ?_
      rintro e w3 ⟨rfl, hB3⟩
      have hI3 := hI.next (hB3.mono hlt1)
      obtain ⟨cr, hRr, hsr⟩ := hI3.res
      have hB9 := hI3.below
      clear hB3 hI hsl hI3
      go_wp2_with (refine wpList_store_rowAt rfl 22 (.tmp 4) (.tmp 22) rfl w.heap.size _ rfl rfl 22 cr hRr (by rw [rowB_size]; exact info28) (by rw [rowB_size]; exact hsr) (rowB_one _ _) ?_)
      exact bodyPost_ret (v := .agg (rowB 8 (sumF (tag :: ptext l)))) (results_rowAt Tryd.results45 _ _ w.heap.size 22 _ _ rfl (setRow_same hRr _) Tryd.underlying22 rfl (by rw [rowB_size]; exact info28)) rfl ⟨rfl, below_setRow hB9 (Nat.le_refl _) _⟩
end Go.Proofs.YtpiehjfoojipiaaDoor
