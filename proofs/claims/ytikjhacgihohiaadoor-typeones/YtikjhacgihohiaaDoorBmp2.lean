/- rtype.Bitmap: one window. -/
import Derived.Test.YtikjhacgihohiaaDoorBmp
import Derived.Laws.BitsAllLaws
namespace Go.Proofs.YtikjhacgihohiaaDoor
open Go.RowKit
namespace T
theorem take_nextH (n : List UInt16) (j : Nat) (h : j < n.length) : n.take (j + 1) = n.take j ++ [n.getD j 0] := by
  rw [List.take_add_one, List.getElem?_eq_getElem h, List.getD_eq_getElem?_getD, List.getElem?_eq_getElem h]; rfl
theorem map_take_next (l : List UInt16) (i : Nat) (h : i < l.length) : (l.take (i + 1)).map lo = (l.take i).map lo ++ [lo (l.getD i 0)] := by
  rw [take_nextH l i h, List.map_append]; rfl
theorem setb_at (b : List UInt8) (p : Nat) : setb b p = b.set (p / 8) (UInt8.ofNat ((b.getD (p / 8) 0).toNat ||| 2 ^ (7 - p % 8))) := rfl
theorem last_lo (l : List UInt16) (h : 0 < l.length) : (l.map lo).getLastD 0 = lo (l.getD (l.length - 1) 0) := by
  have hne : l ≠ [] := by intro e; subst e; simp at h
  rw [List.getLastD_eq_getLast?, List.getLast?_map, List.getLast?_eq_getElem?, List.getD_eq_getElem?_getD, List.getElem?_eq_getElem (by omega)]
  rfl
end T
theorem grown_ar {w w' : World} {g : Nat} {q : List UInt8} {k : Option Nat} (h : ArB w g q) (hg : w.grownBy w' k) (hk : k ≠ some g) : ArB w' g q := by
  unfold ArB
  rw [hg.block g h.lt (fun e => hk e.symm)]; exact h
theorem OwnB.ar {w : World} {B : Nat} {v : Value} {q : List UInt8} (h : OwnB w B v q) {g : Nat} {x : List UInt8} (hg : ArB w g x) (j : Nat) (c : Value) : OwnB (w.setCell ⟨g, j, none⟩ c) B v q := by
  have h0 : w.ownsRow B 5 1 v q.length (vb q) := h
  refine ⟨h0.1, ?_⟩
  rcases h0.2 with h2 | ⟨g', cap, cur', rfl, h3, hg', h4⟩
  · exact Or.inl h2
  · refine Or.inr ⟨g', cap, cur', rfl, h3, ?_, h4⟩
    rw [heap_setCell_other _ _ _ _ (fun e1 => ?_)]
    · exact hg'
    · have e2 : g' = g := e1
      subst e2
      unfold ArB at hg
      rw [hg] at hg'
      simp at hg'
theorem OwnB.ne_ar {w : World} {B : Nat} {v : Value} {q : List UInt8} (h : OwnB w B v q) {g : Nat} {x : List UInt8} (hg : ArB w g x) : v.ownBlock ≠ some g := by
  have h0 : w.ownsRow B 5 1 v q.length (vb q) := h
  rcases h0.2 with ⟨rfl, _⟩ | ⟨g', cap, cur', rfl, h3, hg', h4⟩
  · simp [Value.ownBlock]
  · intro e
    have e2 : g' = g := by simpa [Value.ownBlock] using e
    subst e2
    unfold ArB at hg
    rw [hg] at hg'
    simp at hg'
theorem ArB.alloc {w : World} {g : Nat} {q : List UInt8} (h : ArB w g q) (o : Obj) : ArB (w.alloc o) g q := by
  have hb := ((Below.refl w.heap.size w).alloc (Nat.le_refl _) o).block g h.lt
  unfold ArB; rw [hb]; exact h
theorem below_drew {B : Nat} {w w' : World} (h : Below B w w') : Below B w w'.drew := ⟨h.os, h.tape, h.output, h.size, h.block⟩
theorem OwnB.drewN {w : World} {B : Nat} {v : Value} {q : List UInt8} (h : OwnB w B v q) (n : Nat) : OwnB (w.drewN n) B v q := h
set_option maxRecDepth 3000 in
set_option maxHeartbeats 3200000 in
theorem appendWindow_any (t : UInt16) (l : List UInt16) (q : List UInt8) (B b o len cap : Nat) (v : Value) (w : World) (hl : Hid (l.length = len)) (h0 : 0 < len) (hlen : len ≤ 1000000) (hs : SlH w (some ⟨b, o, none⟩) l) (hO : OwnB w B v q) (hB : B ≤ w.heap.size) (hq : q.length ≤ 1000000) (hh : ∀ x ∈ l, T.hi x = T.hi t) (hR : T.Rising l) :
    Calls Tryd.prog 27 #[v, .slice (some ⟨b, o, none⟩) len cap] w fun e w' => ∃ v', e = .returned v' ∧ OwnB w' B v' (q ++ T.win (T.hi t) (l.map T.lo)) ∧ Below B w w' := by
  obtain ⟨b', o', e, hb, hc⟩ := hs (by rw [hl.out]; exact h0)
  cases e
  rw [hl.out] at hc
  clear hs
  have HPS : Hid (T.Rise (l.map T.lo)) := T.rise_lo t l hR hh
  clear hR
  have hA : ArB (w.alloc (.cells (vb (List.replicate 32 0)).toArray 65 (0, 0))) w.heap.size (T.row 32 ((l.take 0).map T.lo)) := heap_alloc_last w _
  go_enter Tryd.func27, Tryd.ntmps27
  go_wp2
  have hO1 : OwnB (w.alloc (.cells (vb (List.replicate 32 0)).toArray 65 (0, 0))) B v q := hO.alloc _
  have hB1 : Below w.heap.size w (w.alloc (.cells (vb (List.replicate 32 0)).toArray 65 (0, 0))) := (Below.refl _ _).alloc (Nat.le_refl _) _
  clear hO
  go_loopw [13] (fun u W => ∃ i : Nat, u = .int .i64 (i : Int) ∧ i ≤ len ∧ ArB W w.heap.size (T.row 32 ((l.take i).map T.lo)) ∧ OwnB W B v q ∧ Below w.heap.size w W) (fun u _ => len - (intOf u).toNat)
  case atStart => exact ⟨0, rfl, by omega, hA, hO1, hB1⟩
  case round =>
    clear hA hO1 hB1
    obtain ⟨i, rfl, hi, hA, hO, hBw⟩ := hrel
    have hz := hBw.size
    by_cases hil : i < len
    · have hx := (hBw.cell (p := ⟨b, o + i, none⟩) hb).trans (hc i hil)
      have hn := T.map_take_next l i (by rw [hl.out]; exact hil)
      obtain ⟨x, hxd⟩ : ∃ x, l.getD i 0 = x := ⟨_, rfl⟩
      rw [hxd] at hx hn
      clear hxd
      obtain ⟨p, hp⟩ : ∃ p, T.lo x = p := ⟨_, rfl⟩
      have hp2 : p < 256 := by rw [← hp]; exact T.lo_lt x
      have e1 : (x.toNat : Int) % 256 = (p : Int) := by rw [← hp]; unfold T.lo; omega
      have e1' : Int.tmod (x.toNat : Int) 256 = (p : Int) := by rw [Int.tmod_eq_emod_of_nonneg (by omega)]; exact e1
      have e1'' : IntKind.u16.wrap (p : Int) = (p : Int) := by rw [IntKind.wrap_u16]; omega
      obtain ⟨k, hk⟩ : ∃ k, p / 8 = k := ⟨_, rfl⟩
      have e2 : (p : Int) / 8 = (k : Int) := by omega
      have e2' : Int.tdiv (p : Int) 8 = (k : Int) := by rw [Int.tdiv_eq_ediv_of_nonneg (by omega)]; exact e2
      have hk2 : k < 32 := by omega
      have hk2' : (k : Int) < 32 := by omega
      have e4 : IntKind.i64.wrap (k : Int) = (k : Int) := wrap_nat k (by omega)
      rw [hp] at hn
      have hrow := T.row_snoc 32 ((l.take i).map T.lo) p
      rw [← hn, T.setb_at, hk] at hrow
      have hcell := hA.cell k (by rw [T.row_len]; exact hk2)
      have hfr := hA.frozen k
      obtain ⟨y, hy⟩ : ∃ y, (T.row 32 ((l.take i).map T.lo)).getD k 0 = y := ⟨_, rfl⟩
      rw [hy] at hcell hrow
      obtain ⟨m, hm⟩ : ∃ m : Nat, 2 ^ (7 - p % 8) = m := ⟨_, rfl⟩
      have hm2 : y.toNat ||| m < 256 := by rw [← hm]; exact T.or_small y _ (by omega)
      have hm3 : m < 256 := by
        rw [← hm]
        have : 2 ^ (7 - p % 8) < 2 ^ 8 := Nat.pow_lt_pow_right (by omega) (by omega)
        omega
      rw [hm] at hrow
      obtain ⟨z, hzz⟩ : ∃ z, UInt8.ofNat (y.toNat ||| m) = z := ⟨_, rfl⟩
      have e3 : bits .or .u8 (y.toNat : Int) (m : Int) = (z.toNat : Int) := by
        rw [u8_or_nat _ _ y.toNat_lt hm3, ← hzz, T.nat8 _ hm2]
      rw [hzz] at hrow
      have cb := fun W => bitOf_any p (by omega) W
      rw [hm] at cb
      have HR := hide hrow
      have HA := hide hA
      have HO := hide hO
      clear hrow hn hA hO hm hm2 hm3 hzz hy hk hp
      go_wp2
      go_region_with (go_at_call 36; refine (cb _).mono ?_; rintro e w5 ⟨rfl, rfl⟩)
      all_goals go_wp2
      all_goals
       go_roundw
       case rel => exact ⟨i + 1, by go_num, by omega, (by rw [HR.out]; exact (HA.out.set k z).drewN 1), (HO.out.ar HA.out k _).drewN 1, below_drew (hBw.setCell (Nat.le_refl _) _)⟩
       case measure => simp [intOf]; omega
    · obtain rfl : i = len := by omega
      rw [show l.take i = l from List.take_of_length_le (by rw [hl.out]; exact Nat.le_refl _)] at hA
      have hx := (hBw.cell (p := ⟨b, o + (i - 1), none⟩) hb).trans (hc (i - 1) (by omega))
      have hlast := T.last_lo l (by rw [hl.out]; exact h0)
      rw [hl.out] at hlast
      have hmem : l.getD (i - 1) 0 ∈ l := by
        rw [List.getD_eq_getElem?_getD, List.getElem?_eq_getElem (by rw [hl.out]; omega)]
        exact List.getElem_mem _
      have hhi := hh _ hmem
      obtain ⟨x, hxd⟩ : ∃ x, l.getD (i - 1) 0 = x := ⟨_, rfl⟩
      rw [hxd] at hx hlast hhi
      clear hxd hmem hh
      obtain ⟨p, hp⟩ : ∃ p, T.lo x = p := ⟨_, rfl⟩
      have hp2 : p < 256 := by rw [← hp]; exact T.lo_lt x
      have e1 : (x.toNat : Int) % 256 = (p : Int) := by rw [← hp]; unfold T.lo; omega
      have e1' : Int.tmod (x.toNat : Int) 256 = (p : Int) := by rw [Int.tmod_eq_emod_of_nonneg (by omega)]; exact e1
      have e1'' : IntKind.u16.wrap (p : Int) = (p : Int) := by rw [IntKind.wrap_u16]; omega
      obtain ⟨k, hk⟩ : ∃ k, p / 8 = k := ⟨_, rfl⟩
      have e2 : (p : Int) / 8 = (k : Int) := by omega
      have e2' : Int.tdiv (p : Int) 8 = (k : Int) := by rw [Int.tdiv_eq_ediv_of_nonneg (by omega)]; exact e2
      have e2'' : IntKind.u16.wrap (k : Int) = (k : Int) := by rw [IntKind.wrap_u16]; omega
      have e5 := wrap_hi x
      have h256 := T.hi_lt x
      rw [hhi] at e5 h256
      obtain ⟨H, hH⟩ : ∃ H, T.hi t = H := ⟨_, rfl⟩
      rw [hH] at e5 h256
      obtain ⟨n, hn⟩ : ∃ n, k + 1 = n := ⟨_, rfl⟩
      have e6 : IntKind.u16.wrap ((k : Int) + 1) = (n : Int) := by rw [IntKind.wrap_u16]; omega
      have e7 : IntKind.u8.wrap (H : Int) = (H : Int) := by rw [IntKind.wrap_u8]; omega
      have e8 : IntKind.u8.wrap (n : Int) = (n : Int) := by rw [IntKind.wrap_u8]; omega
      have hn32 : n ≤ 32 := by omega
      have hn32' : (n : Int) ≤ 32 := by omega
      have hsz : T.size (l.map T.lo) = n := by unfold T.size; rw [hlast, hp]; omega
      have hwin : T.win (T.hi t) (l.map T.lo) = [UInt8.ofNat H, UInt8.ofNat n] ++ (T.row 32 (l.map T.lo)).take n := by
        have hb8 := T.size_bound _ HPS.out
        rw [hsz] at hb8
        unfold T.win
        rw [hsz, hH, T.row_take n 32 _ hb8 hn32]; rfl
      have hrl : ((T.row 32 (l.map T.lo)).take n).length = n := by rw [List.length_take, T.row_len]; omega
      have HW := hide hwin
      have HA := hide hA
      have HO := hide hO
      have hz1 : B ≤ wr.heap.size := by omega
      clear hwin hsz hA hO hn hk hp hlast hhi hH hc
      generalize hrw : (T.row 32 (l.map T.lo)) = rw32 at HW HA hrl
      have HRL := hide hrl
      clear hrw hrl
      go_wp2_with (first
        | (at_builtin; refine wpList_append_B rfl (.tmp 39) (.tmp 45) rfl B v q rfl (by exact HO.out.alloc _) _ _ _ [UInt8.ofNat H, UInt8.ofNat n] rfl rfl (SlL.litm _ _ _ _ _ (by simp [vb, T.nat8 H h256, T.nat8 n (by omega)])) (by simp) (by simp; omega) (by simp; omega) ?_; intro v4 w4 hO4 hG4; have HO4 := hide hO4; have hB4 := grown_below (HO.out.alloc _) hG4 ((hBw.mono hB).alloc hz1 _) (by simp; omega); have hA4 := grown_ar (HA.out.alloc _) hG4 (HO.out.ne_ar HA.out); have HA4 := hide hA4; have hz4 : B ≤ w4.heap.size := (by have := hG4.size; simp at this; omega); clear hG4 hO4 hA4)
        | (at_builtin; refine wpList_append_B rfl (.tmp 47) (.tmp 49) rfl B v4 _ rfl (by exact HO4.out) _ _ _ (rw32.take n) rfl HRL.out (by exact HA4.out.sl n) (by simp) (by simp; omega) hz4 ?_; intro v5 w5 hO5 hG5; have hB5 := grown_below HO4.out hG5 hB4 hz4; clear hG5))
      go_ret
      refine ⟨_, rfl, ?_, hB5⟩
      rw [HW.out, ← List.append_assoc]; exact hO5
end Go.Proofs.YtikjhacgihohiaaDoor
