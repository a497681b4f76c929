/- frames of records that are all empty; frames, as a row. -/
import Derived.Test.YtidocfajhhpfdaaDoorJl1
namespace Go.Proofs.YtidocfajhhpfdaaDoor
open Go.RowKit
set_option maxRecDepth 5000 in
theorem J.fsz_zero {L : List (List UInt8)} (h : J.fsz L = 0) (k : Nat) : L.getD k [] = [] := by
  by_cases hk : k < L.length
  · have h1 := J.fsz_take L (k + 1)
    rw [take_snoc L k hk, J.fsz_snoc, h] at h1
    by_cases e : L.getD k [] = []
    · exact e
    · rw [if_neg e] at h1; omega
  · simp [List.getD_eq_getElem?_getD, List.getElem?_eq_none (by omega : L.length ≤ k)]
set_option maxHeartbeats 2000000 in
set_option maxRecDepth 5000 in
theorem frames_zero (w : World) (ao : Option Addr) (c B : Nat) (L : List (List UInt8)) (hz : J.fsz L = 0) (hl2 : L.length ≤ 1000000000) (hs : SlBs w ao L) :
    Calls Tryd.prog 57 #[.int .i64 (B : Int), .slice ao L.length c] w fun e w' => e = .returned (.slice (some ⟨w.heap.size, 0, none⟩) 0 0) ∧ RowAt w' w.heap.size 5 #[] ∧ Below w.heap.size w w' := by
  have HS := hide hs
  have hfs := framesSize_any w ao c L (by omega) (by omega) hs
  have hmk := make_cap (J.fsz L) (by omega)
  have hE := hide (J.fsz_zero hz)
  obtain ⟨N, hN⟩ : ∃ N, N = J.fsz L := ⟨_, rfl⟩
  rw [← hN] at hfs hmk hz
  have HN := hide hz
  have R0 : Hid (RowAt (w.alloc (.cells (vb (List.replicate N 0)).toArray 5)) w.heap.size 5 (vb (List.replicate N 0)).toArray) := RowAt.new w _ _
  have B0 : Hid (Below w.heap.size w (w.alloc (.cells (vb (List.replicate N 0)).toArray 5))) := (Below.refl _ w).alloc (Nat.le_refl _) _
  clear hs hz hN
  generalize (Obj.cells (vb (List.replicate N 0)).toArray 5) = ob at hmk R0 B0
  go_enter Tryd.func57, Tryd.ntmps57
  go_wp2_with (go_at_call 56; refine hfs.mono ?_; rintro e w' ⟨rfl, hw⟩; rw [hw]; clear hw w')
  go_loopw [5, 14] (fun v i wr => ∃ k : Nat, k ≤ L.length ∧ i = .int .i64 (k : Int) ∧ v = .slice (some ⟨w.heap.size, 0, none⟩) 0 N ∧ wr = w.alloc ob) (fun v i wr => L.length - (intOf i).toNat)
  case atStart => exact ⟨0, by omega, rfl, rfl, rfl⟩
  case round =>
    obtain ⟨k, hk, rfl, rfl, hw⟩ := hrel
    rw [hw]
    clear hw
    by_cases hlt : k < L.length
    · obtain ⟨b, o, rfl, hb, hc⟩ := HS.out (by omega)
      obtain ⟨a, c2, c1, hx, hxn⟩ := hc k hlt
      replace c1 := (B0.out.cell (p := ⟨b, o + k, none⟩) hb).trans c1
      rw [hE.out k] at c1
      have hlt' : (k : Int) < (L.length : Int) := by omega
      clear hc hx hxn
      go_wp2
      go_roundw
      case rel => exact ⟨k + 1, by omega, by go_num, rfl, trivial⟩
      case measure => simp [intOf]; omega
    · have hlt' : ¬ (k : Int) < (L.length : Int) := by omega
      go_wp2
      go_ret
      have h0 := HN.out
      subst h0
      exact ⟨rfl, R0.out, B0.out⟩
set_option maxRecDepth 5000 in
theorem frames_row (w : World) (ht : Tab w) (ao : Option Addr) (c B : Nat) (L : List (List UInt8)) (hl : J.fsz L ≤ 1000000000) (hl2 : L.length ≤ 1000000000) (hB : B ≤ 1000000000000) (hs : SlBs w ao L) :
    Calls Tryd.prog 57 #[.int .i64 (B : Int), .slice ao L.length c] w fun e w' => ∃ g c', e = .returned (.slice (some ⟨g, 0, none⟩) (J.fsz L) c') ∧ J.fsz L ≤ c' ∧ (∃ cs, RowAt w' g 5 cs ∧ ∀ j, j < J.fsz L → cs[0 + j]? = some (.int .u8 ((J.enc (J.frl B L)).getD j 0).toNat)) ∧ Below w.heap.size w w' := by
  have hel := J.frl_len B L
  by_cases hz : J.fsz L = 0
  · refine (frames_zero w ao c B L hz hl2 hs).mono ?_
    rintro e w' ⟨rfl, h1, h2⟩
    exact ⟨_, 0, by rw [hz], by omega, ⟨_, h1, fun j hj => by omega⟩, h2⟩
  · refine (frames_any w ht ao c B L hl hl2 hB hs).mono ?_
    rintro e w' ⟨v, rfl, hO, hb⟩
    obtain ⟨g, c', hv, _, hc, _⟩ := hO.form (by omega)
    rw [hel] at hv hc
    rw [hv] at hO ⊢
    obtain ⟨g', o', cs, hga, hgr, hgc⟩ := hO.slu (by omega)
    obtain ⟨rfl, rfl⟩ : g = g' ∧ 0 = o' := by injection hga with hga; injection hga with h1 h2; exact ⟨h1, h2⟩
    exact ⟨g, c', rfl, hc, ⟨cs, hgr, fun j hj => hgc j (by omega)⟩, hb⟩
end Go.Proofs.YtidocfajhhpfdaaDoor
