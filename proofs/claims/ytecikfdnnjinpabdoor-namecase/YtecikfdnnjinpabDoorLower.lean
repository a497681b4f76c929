/- name.Lower: a name in small letters. Bytes of a text that may be written. -/
import Derived.Test.YtecikfdnnjinpabDoorKnown
import Derived.Laws.OwnMore
namespace Go.Proofs.YtecikfdnnjinpabDoor
open Go.RowKit
/- the block g holds the bytes q, none of them frozen -/
def WrB (w : World) (g : Nat) (q : List UInt8) : Prop := ∃ cur fr, w.heap[g]? = some (.cells cur 5 fr) ∧ q.length ≤ fr.1 ∧ ∀ j, j < q.length → cur[j]? = some (.int .u8 (q.getD j 0).toNat)
theorem WrB.cell {w : World} {g : Nat} {q : List UInt8} (h : WrB w g q) (j : Nat) (hj : j < q.length) : w.cell? ⟨g, j, none⟩ = some (.int .u8 (q.getD j 0).toNat) := by
  obtain ⟨cur, fr, h1, _, h3⟩ := h
  rw [cell_of_row w g j cur 5 fr h1]; exact h3 j hj
theorem WrB.frozen {w : World} {g : Nat} {q : List UInt8} (h : WrB w g q) (j : Nat) (hj : j < q.length) : w.frozen? ⟨g, j, none⟩ = false := by
  obtain ⟨cur, fr, h1, h2, _⟩ := h
  unfold World.frozen?
  simp only [h1]
  have : ¬ (fr.1 ≤ j) := by omega
  simp [this]
theorem WrB.lt {w : World} {g : Nat} {q : List UInt8} (h : WrB w g q) : g < w.heap.size := by
  obtain ⟨cur, fr, h1, _⟩ := h
  exact (Array.getElem?_eq_some_iff.1 h1).1
theorem WrB.set {w : World} {g : Nat} {q : List UInt8} (h : WrB w g q) (j : Nat) (hj : j < q.length) (c : UInt8) : WrB (w.setCell ⟨g, j, none⟩ (.int .u8 (c.toNat : Int))) g (q.set j c) := by
  obtain ⟨cur, fr, h1, h2, h3⟩ := h
  refine ⟨cur.setIfInBounds j (.int .u8 (c.toNat : Int)), fr, ?_, by simpa using h2, fun i hi => ?_⟩
  · rw [setCell_eq_setRow w g j cur 5 fr _ h1]
    exact setRow_heap w g cur _ 5 fr h1
  · rw [List.length_set] at hi
    have hlt : j < cur.size := (Array.getElem?_eq_some_iff.1 (h3 j hj)).1
    rw [Array.getElem?_setIfInBounds]
    by_cases e : j = i
    · subst e
      rw [if_pos rfl, if_pos hlt]
      simp [hj]
    · rw [if_neg e, h3 i hi]
      simp [List.getD_eq_getElem?_getD, e]
theorem WrB.sl {w : World} {g : Nat} {q : List UInt8} (h : WrB w g q) : SlL w (some ⟨g, 0, none⟩) q := fun _ => ⟨g, 0, rfl, h.lt, fun j hj => by rw [Nat.zero_add]; exact h.cell j hj⟩
theorem WrB.below {w w' : World} {g : Nat} {q : List UInt8} (h : WrB w g q) (hb : Below w.heap.size w w') : WrB w' g q := by
  have hlt := h.lt
  obtain ⟨cur, fr, h1, h2⟩ := h
  exact ⟨cur, fr, by rw [hb.block g hlt]; exact h1, h2⟩
theorem below_drewA (w : World) (o : Obj) : Below w.heap.size w (w.drew.alloc o) := (below_drew (Below.refl w.heap.size w)).alloc (Nat.le_refl _) o
/- []byte(s) -/
theorem conv_own (w : World) (s : ByteArray) (l : List UInt8) (hs : s.data.toList = l) : ∃ c w', (convert 9 23 (.string s)).run Tryd.prog w = .ok (.slice (some ⟨w.heap.size, 0, none⟩) s.size c) w' ∧ WrB w' w.heap.size l ∧ Below w.heap.size w w' ∧ w.heap.size < w'.heap.size := by
  refine ⟨_, _, run_bytes_of_string w 9 23 5 s Tryd.underlying9 Tryd.underlying23 Tryd.underlying5, ?_, below_drewA w _, by show _ < (w.alloc _).heap.size; simp⟩
  subst hs
  have hlen : s.data.toList.length = s.size := rfl
  refine ⟨_, _, heap_alloc_last w.drew _, ?_, fun j hj => ?_⟩
  · show s.data.toList.length ≤ (bytesRow s _).size
    unfold bytesRow
    rw [Array.size_append, Array.size_map]
    exact Nat.le_add_right _ _
  · unfold bytesRow
    have h1 : j < s.data.size := by rw [hlen] at hj; exact hj
    rw [Array.getElem?_append_left (by simpa using h1), Array.getElem?_map, List.getD_eq_getElem?_getD, Array.getElem?_toList, Array.getElem?_eq_getElem h1]
    rfl
theorem OwnS.wr {w : World} {B : Nat} {v : Value} {n : List (List UInt8)} (h : OwnS w B v n) {g : Nat} {q : List UInt8} (hg : WrB w g q) (j : Nat) (x : Value) : OwnS (w.setCell ⟨g, j, none⟩ x) B v n := by
  have h0 : w.ownsRow B 9 1 v n.length (vs n) := h
  obtain ⟨cur, fr, hgg, _⟩ := hg
  refine ⟨h0.1, ?_⟩
  rcases h0.2 with h2 | ⟨g', cap, cur', rfl, h3, hg', h4⟩
  · exact Or.inl h2
  · refine Or.inr ⟨g', cap, cur', rfl, h3, ?_, h4⟩
    rw [heap_setCell_other _ _ _ _ (fun e1 => ?_)]
    · exact hg'
    · have e2 : g' = g := e1
      subst e2
      rw [hgg] at hg'
      simp at hg'
theorem OwnS.put {w : World} {B g len cap : Nat} {n : List (List UInt8)} (h : OwnS w B (.slice (some ⟨g, 0, none⟩) len cap) n) (j : Nat) (x : List UInt8) : OwnS (w.setCell ⟨g, j, none⟩ (.string ⟨x.toArray⟩)) B (.slice (some ⟨g, 0, none⟩) len cap) (n.set j x) := by
  have h0 : w.ownsRow B 9 1 (.slice (some ⟨g, 0, none⟩) len cap) n.length (vs n) := h
  refine ⟨by rw [vs_len, List.length_set, Nat.mul_one], ?_⟩
  rcases h0.2 with ⟨e, _⟩ | ⟨g', cap', cur, e, h1, h2, h3, h4, h5, h6⟩
  · cases e
  · cases e
    refine Or.inr ⟨g, cap, cur.setIfInBounds j (.string ⟨x.toArray⟩), by rw [List.length_set], h1, heap_setCell_same w g j cur 9 _ h2, by rw [List.length_set]; exact h3, h4, by simpa using h5, ?_⟩
    rw [Array.toList_setIfInBounds, List.length_set, List.take_set, h6]
    simp [vs, List.map_set]
theorem OwnS.cell {w : World} {B g len cap : Nat} {n : List (List UInt8)} (h : OwnS w B (.slice (some ⟨g, 0, none⟩) len cap) n) (j : Nat) (hj : j < n.length) : w.cell? ⟨g, j, none⟩ = some (.string ⟨(n.getD j []).toArray⟩) ∧ w.frozen? ⟨g, j, none⟩ = false ∧ B ≤ g := by
  have h0 : w.ownsRow B 9 1 (.slice (some ⟨g, 0, none⟩) len cap) n.length (vs n) := h
  rcases h0.2 with ⟨e, _⟩ | ⟨g', cap', cur, e, h1, h2, h3, h4, h5, h6⟩
  · cases e
  · cases e
    exact ⟨by rw [World.ownsRow.cellAt h0 j (by omega), vs_get n j hj], frozen_of_row w g j cur 9 h2, h1⟩
theorem make_names (w : World) (len : Nat) (hl : len ≤ 1000000) : ∃ w', (Instr.makeSlice 25 (.int .i64 (len : Int)) (.int .i64 (len : Int))).run Tryd.prog w = .ok (.slice (some ⟨w.heap.size, 0, none⟩) len len) w' ∧ OwnS w' w.heap.size (.slice (some ⟨w.heap.size, 0, none⟩) len len) (List.replicate len []) ∧ Below w.heap.size w w' := by
  obtain ⟨i0, hi, hz0, hz1, hz2⟩ := info_parts infoS
  obtain ⟨w', h1, h2, h3⟩ := run_make_full (P := Tryd.prog) w w.heap.size 25 9 i0 (.string ⟨#[]⟩) 1 Tryd.underlying25 hi hz0 hz1 .i64 .i64 len (by rw [hz2]; omega) (by unfold maxLen; omega) (Nat.le_refl _)
  refine ⟨w', h1, ?_, (Below.refl _ _).grown h3 (Nat.le_refl _) (fun k hk => by cases hk)⟩
  unfold OwnS
  rw [List.length_replicate]
  have e : (madeCells (Value.string ⟨#[]⟩).cells (len * 1)).toList = vs (List.replicate len []) := by
    rw [Nat.mul_one]
    have : (Value.string ⟨#[]⟩).cells = #[.string ⟨#[]⟩] := rfl
    rw [this, toList_madeCells_one]
    simp [vs]
  rw [← e]; exact h2
namespace N
/- one byte, one label more in small letters -/
def half (x : List UInt8) (k : Nat) : List UInt8 := lowL (x.take k) ++ x.drop k
theorem half_len (x : List UInt8) (k : Nat) : (half x k).length = x.length := by
  unfold half; rw [List.length_append, lowL_len, List.length_take, List.length_drop]; omega
theorem half_zero (x : List UInt8) : half x 0 = x := by simp [half, lowL]
theorem half_all (x : List UInt8) (k : Nat) (h : x.length ≤ k) : half x k = lowL x := by
  unfold half; rw [List.take_of_length_le h, List.drop_eq_nil_of_le h, List.append_nil]
theorem half_at (x : List UInt8) (k : Nat) (h : k < x.length) : (half x k).getD k 0 = x.getD k 0 := by
  unfold half
  have hl : (lowL (x.take k)).length = k := by rw [lowL_len, List.length_take]; omega
  rw [drop_at x k h, List.getD_eq_getElem?_getD, List.getElem?_append_right (by omega), hl, Nat.sub_self]
  simp
theorem half_next (x : List UInt8) (k : Nat) (h : k < x.length) : (half x k).set k (low (x.getD k 0)) = half x (k + 1) := by
  unfold half
  have hl : (lowL (x.take k)).length = k := by rw [lowL_len, List.length_take]; omega
  rw [drop_at x k h, List.set_append_right _ _ (by omega), hl, Nat.sub_self, take_nextB x k h]
  simp [lowL]
def halfN (n : List (List UInt8)) (j : Nat) : List (List UInt8) := lowN (n.take j) ++ List.replicate (n.length - j) []
theorem halfN_len (n : List (List UInt8)) (j : Nat) (h : j ≤ n.length) : (halfN n j).length = n.length := by
  unfold halfN; rw [List.length_append, lowN_len, List.length_take, List.length_replicate]; omega
theorem halfN_next (n : List (List UInt8)) (j : Nat) (h : j < n.length) : (halfN n j).set j (lowL (n.getD j [])) = halfN n (j + 1) := by
  unfold halfN
  have hl : (lowN (n.take j)).length = j := by rw [lowN_len, List.length_take]; omega
  obtain ⟨m, hm⟩ : ∃ m, n.length - j = m + 1 := ⟨n.length - j - 1, by omega⟩
  have hm2 : n.length - (j + 1) = m := by omega
  rw [hm, hm2, List.replicate_succ, List.set_append_right _ _ (by omega), hl, Nat.sub_self, take_nextN n j h]
  simp [lowN]
end N
set_option maxRecDepth 3000 in
set_option maxHeartbeats 800000 in
theorem lower_any (n : List (List UInt8)) (ao : Option Addr) (len cap : Nat) (w : World) (hl : Hid (n.length = len)) (hs : SlS w ao n) (hm : Hid (N.Small n)) :
    Calls Tryd.prog 12 #[.slice ao len cap] w fun e w' => ∃ v, e = .returned v ∧ OwnS w' w.heap.size v (N.lowN n) ∧ Below w.heap.size w w' := by
  have HS := hide hs
  have hlen : len ≤ 1000000 := by rw [← hl.out]; exact hm.out.1
  clear hs
  obtain ⟨w1, hmk, hO1, hB1⟩ := make_names w len hlen
  go_enter Tryd.func12, Tryd.ntmps12
  go_wp2
  clear hmk
  go_loopw [14] (fun i wr => ∃ j : Nat, i = .int .i64 (j : Int) ∧ j ≤ len ∧ OwnS wr w.heap.size (.slice (some ⟨w.heap.size, 0, none⟩) len len) (N.halfN n j) ∧ Below w.heap.size w wr) (fun i _ => len - (intOf i).toNat)
  case atStart => exact ⟨0, rfl, by omega, (by unfold N.halfN; rw [hl.out]; simpa [N.lowN] using hO1), hB1⟩
  case round =>
    clear hO1 hB1
    obtain ⟨j, rfl, hj, hO, hB⟩ := hrel
    have hz := hB.size
    by_cases hlt : j < len
    · obtain ⟨b1, o1, rfl, hb1, hc1⟩ := HS.out (by have := hl.out; omega)
      have hx := (hB.cell (p := ⟨b1, o1 + j, none⟩) hb1).trans (hc1 j (by have := hl.out; omega))
      have hn1 := N.halfN_next n j (by have := hl.out; omega)
      have hhl := N.halfN_len n j (by have := hl.out; omega)
      have hxl := hm.out.at j
      clear hc1
      generalize n.getD j [] = x at hx hn1 hxl
      have HN := hide hn1
      clear hn1
      obtain ⟨s, hs, hsd⟩ : ∃ s : ByteArray, (⟨x.toArray⟩ : ByteArray) = s ∧ Hid (s.data.toList = x) := ⟨_, rfl, rfl⟩
      have hsz : s.size ≤ x.length := by rw [← hs]; exact Nat.le_refl _
      have hsz' : x.length ≤ s.size := by rw [← hs]; exact Nat.le_refl _
      rw [hs] at hx
      clear hs
      obtain ⟨c, w2, hcv, hW2, hB2, hz2⟩ := conv_own wr s x hsd.out
      have hO2 := hO.below hB2
      have hb2 := hB.trans (hB2.mono hz)
      have hgl := hb1
      generalize hG : wr.heap.size = g at hcv hW2 hz2
      have hgB : w.heap.size ≤ g := by omega
      go_wp2
      clear hcv hO hB hB2 hx
      go_loopw [23] (fun i wr => ∃ k : Nat, i = .int .i64 (k : Int) ∧ k ≤ s.size ∧ WrB wr g (N.half x k) ∧ OwnS wr w.heap.size (.slice (some ⟨w.heap.size, 0, none⟩) len len) (N.halfN n j) ∧ Below w.heap.size w wr) (fun i _ => s.size - (intOf i).toNat)
      case atStart => exact ⟨0, rfl, by omega, (by rw [N.half_zero]; exact hW2), hO2, hb2⟩
      case round =>
        clear hW2 hO2 hb2 hz2
        obtain ⟨k, rfl, hk, hW, hO, hB⟩ := hrel
        by_cases hkl : k < s.size
        · have c0 := hW.cell k (by rw [N.half_len]; omega)
          have f0 := hW.frozen k (by rw [N.half_len]; omega)
          rw [N.half_at x k (by omega)] at c0
          have hn2 := N.half_next x k (by omega)
          generalize x.getD k 0 = y at c0 hn2
          have HN2 := hide hn2
          have HW := hide hW
          clear hn2 hW
          go_wp2_with (go_at_call 25; refine (lower_c y _).mono ?_; rintro e w5 ⟨rfl, rfl⟩)
          go_roundw
          case rel => exact ⟨k + 1, by go_num, by omega, (by rw [← HN2.out]; exact HW.out.set k (by rw [N.half_len]; omega) _), OwnS.wr hO HW.out _ _, hB.setCell hgB _⟩
          case measure => simp [intOf]; omega
        · obtain rfl : k = s.size := by omega
          rw [N.half_all x s.size (by omega)] at hW
          have hst := run_str s.size c hW.sl (by rw [N.lowL_len]; omega)
          obtain ⟨k0, g0, _⟩ := hO.cell j (by rw [hhl, hl.out]; exact hlt)
          have HO := hide hO
          clear hO hW
          go_wp2
          go_roundw
          case rel => exact ⟨j + 1, by go_num, by omega, (by rw [← HN.out]; exact HO.out.put j _), hB.setCell (Nat.le_refl _) _⟩
          case measure => simp [intOf]; omega
    · obtain rfl : j = len := by omega
      go_wp2
      go_ret
      refine ⟨_, rfl, ?_, hB⟩
      have e : N.halfN n j = N.lowN n := by
        unfold N.halfN
        rw [← hl.out, List.take_length]; simp
      rw [e] at hO
      exact hO
end Go.Proofs.YtecikfdnnjinpabDoor
