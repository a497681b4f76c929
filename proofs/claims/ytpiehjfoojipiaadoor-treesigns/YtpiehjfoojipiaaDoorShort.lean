/- hash.Short hands back the first eight bytes of the sum of its tag and parts, each with its length ahead. -/
import Derived.Test.YtpiehjfoojipiaaDoorParts
namespace Go.Proofs.YtpiehjfoojipiaaDoor
open Go.RowKit
def sumF (l : List (BitVec 8)) : Nat → BitVec 8 := Sha.digB (Sha.run (Sha.padF l) (Sha.nb l.length))
set_option maxRecDepth 5000 in
theorem info28 : (Tryd.prog.info? 22).map (·.size) = some 8 := by kernel_rfl
structure ShInv (w wr : World) : Prop where
  below : Below w.heap.size w wr
  res : ∃ c, RowAt wr w.heap.size 22 c ∧ c.size = 8
set_option maxRecDepth 5000 in
theorem ShInv.next {w wr w' : World} (h : ShInv w wr) (hb : Below (w.heap.size + 1) wr w') : ShInv w w' := by
  obtain ⟨c, hr, hs⟩ := h.res
  exact ⟨h.below.trans (hb.mono (by omega)), c, hr.below hb (by omega), hs⟩
set_option maxRecDepth 5000 in
theorem ShInv.lt {w wr : World} (h : ShInv w wr) : w.heap.size + 1 ≤ wr.heap.size := by
  obtain ⟨c, hr, _⟩ := h.res
  exact hr.lt
set_option maxRecDepth 5000 in
theorem ShInv.drew {w wr : World} (h : ShInv w wr) : ShInv w wr.drew := ⟨h.below.drew, h.res⟩
set_option maxRecDepth 5000 in
theorem grown_next {w w' : World} {base : Nat} {v : Value} {l : List (BitVec 8)} (hown : OwnB w base v l) (hg : w.grownBy w' v.ownBlock) (hB : base ≤ w.heap.size) : Below base w w' := grown_below hown hg (Below.refl _ _) hB
def zero8 : List Value := [.int .u8 0, .int .u8 0, .int .u8 0, .int .u8 0, .int .u8 0, .int .u8 0, .int .u8 0, .int .u8 0]
set_option maxRecDepth 5000 in
theorem spl8 (f : Nat → BitVec 8) : (splice zero8 0 (bsL 8 f)).toArray = rowB 8 f := by
  unfold splice rowB bsL zero8; simp
set_option maxRecDepth 5000 in
theorem RowAt.slAt {w : World} {g : Nat} {t : TypeId} {n m : Nat} {f : Nat → BitVec 8} (h : RowAt w g t (rowB n f)) (hm : m ≤ n) : SlAt w (some ⟨g, 0, none⟩) m f := fun _ =>
  ⟨g, 0, rfl, h.lt, fun j hj => by rw [Nat.zero_add, h.cell, rowB_get _ _ _ (by omega)]⟩
set_option maxRecDepth 3000 in
set_option maxHeartbeats 1000000 in
theorem short_any (tag : BitVec 8) (l : List (List (BitVec 8))) (ao : Option Addr) (n cap : Nat) (w : World) (hl : Hid (l.length = n)) (hs : PartsAt w ao l) (hn : n ≤ 1000) (hp : ∀ p ∈ l, p.length ≤ 1000000) (hT : Tab w) :
    Calls Tryd.prog 44 #[.int .u8 tag.toNat, .slice ao n cap] w fun e w' => e = .returned (.agg (rowB 8 (sumF (tag :: ptext l)))) ∧ Below w.heap.size w w' := by
  obtain ⟨i0, hi, hz0, hz1, hz2⟩ := info_parts info5
  have HP := hide hp
  have HS := hide hs
  have hT0 := hT.1
  clear hp hs
  go_enter Tryd.func44, Tryd.ntmps44
  go_wp2_with (first
    | (at_make; go_must (refine wpList_make_own _ rfl (.const (.int .i64 0)) (.const (.int .i64 128)) 34 rfl (w.heap.size + 1) 5 i0 (.int .u8 0) 1 Tryd.underlying34 hi hz0 hz1 .i64 .i64 128 128 rfl rfl rfl (by rw [hz2]; omega) (by unfold maxLen; omega) (by simp) ?_); intro w1 hO1 hG1; go_must (have hb1 := (Below.refl (w.heap.size + 1) _).grown hG1 (by simp) (fun k hk => by cases hk); have ho1 : OwnB w1 (w.heap.size + 1) (.slice (some ⟨w.heap.size + 1, 0, none⟩) 0 128) [] := (by simpa [OwnB, vb] using hO1)); clear hG1 hO1)
    | (at_builtin; refine wpList_append_B rfl (.tmp 12) (.tmp 14) rfl (w.heap.size + 1) _ [] rfl (by exact ho1.alloc _) _ _ _ [tag] rfl rfl (SlL.one _ _ _) (by simp) (by simp) (by have := hb1.size; simp at this; simp; omega) ?_; intro v2 w2 hO2 hG2))
  have hI2 : ShInv w w2 := by
    have hI1 : ShInv w w1 := ShInv.next (wr := w.alloc (.cells #[.int .u8 0, .int .u8 0, .int .u8 0, .int .u8 0, .int .u8 0, .int .u8 0, .int .u8 0, .int .u8 0] 22)) ⟨(Below.refl _ _).alloc (Nat.le_refl _) _, _, RowAt.new _ _ _, rfl⟩ hb1
    have h3 := hI1.lt
    exact (hI1.next ((Below.refl _ _).alloc h3 _)).next (grown_next (ho1.alloc _) hG2 (by simp; omega))
  have hO3 : OwnB w2 (w.heap.size + 1) v2 (tag :: ptext (l.take 0)) := by simpa [ptext] using hO2
  clear hO2 hG2 hb1 ho1
  go_loopw [5, 18] (fun v i wr => ∃ k : Nat, k ≤ n ∧ i = .int .i64 (k : Int) ∧ OwnB wr (w.heap.size + 1) v (tag :: ptext (l.take k)) ∧ ShInv w wr) (fun _ i _ => n - (intOf i).toNat)
  case atStart => exact ⟨0, by omega, rfl, hO3, hI2⟩
  case round =>
    clear hO3 hI2
    obtain ⟨k, hk, rfl, hO, hI⟩ := hrel
    have hlt1 := hI.lt
    by_cases hlt : k < n
    · have hkl : k < l.length := by have := hl.out; omega
      obtain ⟨b, o, rfl, hb, hc⟩ := HS.out (by omega)
      obtain ⟨a, c, hcell, hsl, hnl, hle⟩ := hc k hkl
      have hlen := getD_le HP.out k hkl
      have htot := take_le HP.out k (by omega) (by have := hl.out; omega)
      generalize hpe : l.getD k [] = p at hcell hsl hle hlen
      have HPE := hide hpe
      clear hc hpe
      have hcell' : wr.cell? ⟨b, o + k, none⟩ = some (.slice a p.length c) := (hI.below.cell (p := ⟨b, o + k, none⟩) hb).trans hcell
      have HSL : Hid (SlL w a p) := hsl
      have HNL : Hid (a = none → c = 0) := hnl
      clear hsl hnl hcell
      go_wp2_with fail
      refine (put_any _ _ wr.heap.size 0 _ _ 77 _ (by omega) (by omega) (RowAt.new wr 77 _) (by simp) (by omega) (by omega)).mono ?_
      rintro e w3 ⟨rfl, hO3⟩
      have hb3 : Below wr.heap.size wr w3 := ((Below.refl _ _).alloc (Nat.le_refl _) _).trans hO3.below
      have ho3 := hO.below hb3
      have hs3 := SlL.put4 (by omega) rfl hO3.row
      have hI3 := hI.next (hb3.mono hlt1)
      have hlt3 := hI3.lt
      clear hO hI hb3 hO3
      go_wp2_with (first
        | (at_builtin; refine wpList_append_B rfl (.tmp 27) (.tmp 28) rfl (w.heap.size + 1) _ _ rfl ho3 _ _ _ (Sha.len4 p.length) rfl rfl hs3 (by simp) (by simp; omega) (by omega) ?_; intro v4 w4 ho4 hG4; have hI4 := hI3.next (grown_next ho3 hG4 hlt3); have hlt4 := hI4.lt; have hs4 := HSL.out.below hI4.below (Nat.le_refl _); clear hG4 ho3 hI3)
        | (at_builtin; refine wpList_append_B rfl (.tmp 30) (.tmp 31) rfl (w.heap.size + 1) _ _ rfl ho4 _ _ _ p rfl rfl hs4 HNL.out (by simp [Sha.len4]; omega) (by omega) ?_; intro v5 w5 ho5 hG5; have hI5 := hI4.next (grown_next ho4 hG5 hlt4); clear hG5 ho4 hI4 hs4))
      go_roundw
      case rel =>
        refine ⟨k + 1, by omega, by go_num, ?_, hI5⟩
        rw [ptext_take l k hkl, HPE.out]
        simpa using ho5
      case measure => simp [intOf]; omega
    · have hkk : l.take k = l := by
        have := hl.out
        rw [List.take_of_length_le (by omega)]
      rw [hkk] at hO
      have htot := take_le HP.out l.length (Nat.le_refl _) (by have := hl.out; omega)
      rw [List.take_length] at htot
      clear hkk
      obtain ⟨g, c, rfl, hg1, hg2, hg3, hg4, _⟩ := hO.form (by simp)
      have hsl := hO.sl.pad
      have hTr := hT.below hI.below hT0
      clear hg3
      go_wp2_with fail
      refine (sum_any (tag :: ptext l) _ _ c _ (by exact rfl) (by exact hsl) (by exact hg2) (by omega) hTr).mono ?_
      rintro e w6 ⟨rfl, hB6⟩
      have hI6 := hI.next (hB6.mono hlt1)
      have hlt6 := hI6.lt
      clear hB6 hI hO hsl hTr
      go_wp2_with (refine wpList_store_abs rfl 74 (.tmp 9) (.tmp 35) rfl w6.heap.size _ rfl rfl 74 _ (RowAt.new w6 74 _) (by rw [rowB_size]; exact info24) (by rw [rowB_size]; rfl) (rowB_one _ _) w6.heap.size (Nat.le_refl _) ?_; intro w7 hR7 hO7 hz7 hB7)
      have hz7' : w7.heap.size = w6.heap.size + 1 := by rw [hz7]; simp
      have hI7 : ShInv w w7 := (hI6.next ((Below.refl _ _).alloc hlt6 _)).next (hB7.mono hlt6)
      have hlt7 := hI7.lt
      have hR8 := RowAt.new w7 22 zero8.toArray
      rw [hz7'] at hR8
      have hS8 := (hR7.alloc (.cells zero8.toArray 22)).slAt (m := 8) (by omega)
      have hI8 : ShInv w (w7.alloc (.cells zero8.toArray 22)) := hI7.next ((Below.refl _ _).alloc hlt7 _)
      clear hO7 hz7 hB7 hI6 hI7
      go_region_law (refine step_copy_splice rfl (.tmp 36) (.tmp 37) 34 34 rfl 5 Tryd.underlying34 size5 _ _ 8 8 32 32 rfl rfl (w6.heap.size + 1) 0 zero8 22 (by exact hR8) (bsL 8 (sumF (tag :: ptext l))) (by rw [bsL_len]; rfl) (by exact src_of _ _ _ _ hS8 _) (by rw [bsL_len]; simp [zero8]) (bsL_one _ _) (w6.heap.size + 1) _ (Below.refl _ _) (Nat.le_refl _) ?_; intro w8 HR8 hB8)
      have hR9 : RowAt w8 (w6.heap.size + 1) 22 (rowB 8 (sumF (tag :: ptext l))) := by
        have h9 := HR8.out
        rw [spl8] at h9; exact h9
      have hI9 : ShInv w w8 := hI8.drew.next (hB8.mono (by omega))
      obtain ⟨cr, hRr, hsr⟩ := hI9.res
      have hB9 := hI9.below
      clear HR8 hB8 hI8 hR8 hS8 hR7 hI9
      go_wp2_with (first
        | (refine wpList_load_rowAt rfl 22 (.tmp 10) rfl (w6.heap.size + 1) rfl 22 _ _ hR9 Tryd.underlying22 rfl (by rw [rowB_size]; exact info28) ?_)
        | (refine wpList_store_rowAt rfl 22 (.tmp 4) (.tmp 39) rfl w.heap.size _ rfl rfl 22 cr hRr (by rw [rowB_size]; exact info28) (by rw [rowB_size]; exact hsr) (rowB_one _ _) ?_))
      exact bodyPost_ret (v := .agg (rowB 8 (sumF (tag :: ptext l)))) (results_rowAt Tryd.results44 _ _ w.heap.size 22 _ _ rfl (setRow_same hRr _) Tryd.underlying22 rfl (by rw [rowB_size]; exact info28)) rfl ⟨rfl, below_setRow hB9 (Nat.le_refl _) _⟩
end Go.Proofs.YtpiehjfoojipiaaDoor
