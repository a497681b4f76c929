/- rtype.Clean: l's numbers, rising, each once. -/
import Derived.Test.YtikjhacgihohiaaDoorSrtJ
import Derived.Test.YtikjhacgihohiaaDoorHalf
namespace Go.Proofs.YtikjhacgihohiaaDoor
open Go.RowKit Go.Sort
namespace Q
theorem row_put {w : World} {g n : Nat} {os : Array Obj} {cur : Array Value} {e : TypeId} {fr : Nat × Nat} (d : Array UInt16) (hb : w.heap[g]? = some (.cells cur e fr)) :
    (grow (putRow enc (Sort.ahead w n) g 0 d) os).heap[g]? = some (.cells (putCells enc 0 d cur) e fr) := by
  have hg : g < w.heap.size := (Array.getElem?_eq_some_iff.1 hb).1
  rw [heap_grow_old _ _ (by simpa using hg)]
  simp [putRow, mapBlock, Sort.ahead, Array.getElem?_modify, hb, onCells]
theorem below_put {w : World} {B g n : Nat} (os : Array Obj) (d : Array UInt16) (hB : B ≤ g) (hw : B ≤ w.heap.size) : Below B w (grow (putRow enc (Sort.ahead w n) g 0 d) os) := by
  refine ⟨rfl, rfl, rfl, by simp, fun k hk => ?_⟩
  rw [heap_grow_old _ _ (by simp; omega)]
  have : g ≠ k := by omega
  simp [putRow, mapBlock, Sort.ahead, Array.getElem?_modify, this]
theorem take_put (cur : Array Value) (d : Array UInt16) (k : Nat) (hk : k ≤ d.size) (h : d.size ≤ cur.size) : (putCells enc 0 d cur).toList.take k = vh (d.toList.take k) := by
  apply List.ext_getElem?
  intro j
  by_cases hj : j < k
  · have h1 : j < cur.size := by omega
    have h2 : j < d.size := by omega
    rw [List.getElem?_take_of_lt hj, Array.getElem?_toList]
    simp [putCells, h1, h2, vh, List.getElem?_take_of_lt hj, enc]
  · rw [List.getElem?_eq_none (by simp; omega), List.getElem?_eq_none (by simp [vh]; omega)]
/- the slice's cells, written over -/
theorem own_put {w : World} {base g cap n : Nat} {os : Array Obj} {l : List UInt16} (h : OwnH w base (.slice (some ⟨g, 0, none⟩) l.length cap) l) (d : Array UInt16) (hd : d.size = l.length) (k : Nat) (hk : k ≤ d.size) :
    OwnH (grow (putRow enc (Sort.ahead w n) g 0 d) os) base (.slice (some ⟨g, 0, none⟩) k cap) (d.toList.take k) := by
  have h0 : w.ownsRow base 22 1 (.slice (some ⟨g, 0, none⟩) l.length cap) l.length (vh l) := h
  have hkl : (d.toList.take k).length = k := by rw [List.length_take]; simp; omega
  unfold OwnH
  rw [hkl]
  refine ⟨by rw [vh_len, hkl, Nat.mul_one], ?_⟩
  rcases h0.2 with ⟨e, _⟩ | ⟨g', cap', cur, e, h1, h2, h3, h4, h5, h6⟩
  · cases e
  · cases e
    exact Or.inr ⟨g, cap, _, rfl, h1, row_put d h2, by omega, h4, by simp [putCells, h5], by rw [Nat.mul_one]; exact take_put cur d k hk (by omega)⟩
theorem own_holds {w : World} {base g cap : Nat} {l : List UInt16} (h : OwnH w base (.slice (some ⟨g, 0, none⟩) l.length cap) l) : Holds enc w g 0 l.toArray ∧ g < w.heap.size ∧ base ≤ g ∧ l.length ≤ cap ∧ cap ≤ maxLen := by
  have h0 : w.ownsRow base 22 1 (.slice (some ⟨g, 0, none⟩) l.length cap) l.length (vh l) := h
  rcases h0.2 with ⟨e, _⟩ | ⟨g', cap', cur, e, h1, h2, h3, h4, h5, h6⟩
  · cases e
  · cases e
    refine ⟨fun j hj => ?_, (Array.getElem?_eq_some_iff.1 h2).1, h1, h3, h4⟩
    have hj' : j < l.length := by simpa using hj
    refine ⟨?_, by rw [Nat.zero_add]; exact frozen_of_row w g j cur 22 h2⟩
    rw [Nat.zero_add, World.ownsRow.cellAt h0 j (by omega), vh_get l j hj']
    simp [enc, hj', List.getD_eq_getElem?_getD]
open Go.Lib
/- what is compacted of a row that is sorted -/
theorem compact_rising (d : Array UInt16) (hs : SortedIn lt 0 d.size d) : T.Rising (compactUpTo d d.size) := by
  have hle : ∀ i j, i ≤ j → j < d.size → d[i]!.toNat ≤ d[j]!.toNat := fun i j hij hj => by
    rcases Nat.lt_or_ge i j with h | h
    · have := hs i j (Nat.zero_le _) h hj
      simp only [lt, decide_eq_false_iff_not] at this; omega
    · obtain rfl : i = j := by omega
      exact Nat.le_refl _
  unfold compactUpTo T.Rising
  rw [List.pairwise_map]
  refine (List.Pairwise.filter (keeps d) List.pairwise_lt_range).imp_of_mem fun {i j} _ hj hij => ?_
  rw [List.mem_filter, List.mem_range] at hj
  have hk := hj.2
  have h1 := hle i (j - 1) (by omega) (by omega)
  have h2 := hle (j - 1) j (by omega) hj.1
  have h3 : d[j]! ≠ d[j - 1]! := by
    unfold keeps at hk
    simpa [show j ≠ 0 by omega] using hk
  have h4 : d[j]!.toNat ≠ d[j - 1]!.toNat := fun e => h3 (UInt16.toNat_inj.1 e)
  omega
theorem compact_mem (d : Array UInt16) (x : UInt16) : x ∈ compactUpTo d d.size ↔ x ∈ d.toList := by
  have key : ∀ j, j < d.size → d[j]! ∈ compactUpTo d d.size := fun j => by
    induction j with
    | zero => exact fun hj => List.mem_map.2 ⟨0, List.mem_filter.2 ⟨List.mem_range.2 hj, by simp [keeps]⟩, rfl⟩
    | succ j ih =>
      intro hj
      by_cases hk : keeps d (j + 1) = true
      · exact List.mem_map.2 ⟨j + 1, List.mem_filter.2 ⟨List.mem_range.2 hj, hk⟩, rfl⟩
      · have e : d[j + 1]! = d[j]! := by
          unfold keeps at hk
          simpa using hk
        rw [e]; exact ih (by omega)
  constructor
  · intro hx
    obtain ⟨j, hj, rfl⟩ := List.mem_map.1 hx
    have hj' := List.mem_range.1 (List.mem_filter.1 hj).1
    rw [getElem!_pos d j hj']; simp
  · intro hx
    obtain ⟨j, hj, rfl⟩ := List.getElem_of_mem hx
    have hj' : j < d.size := by simpa using hj
    have := key j hj'
    rw [getElem!_pos d j hj'] at this
    simpa using this
theorem perm_mem {d d' : Array UInt16} {N : Nat} (hd : d.size = N) (h : PermIn 0 N d d') (x : UInt16) : x ∈ d'.toList ↔ x ∈ d.toList := by
  have h3 := h.2.2
  have e1 : d'.extract 0 N = d' := by rw [← hd, ← h.1]; exact Array.extract_size
  have e2 : d.extract 0 N = d := by rw [← hd]; exact Array.extract_size
  rw [e1, e2] at h3
  exact h3.mem_iff
end Q
open Q Go.Lib
theorem compact_short (ao : Option Addr) (n cap : Nat) (w : World) (hn : n < 2) : Calls Tryd.prog 31 #[.slice ao n cap] w fun e w' => e = .returned (.slice ao n cap) ∧ w' = w := by
  have e1 : (n : Int) < 2 := by omega
  go_enter Tryd.func31, Tryd.ntmps31
  go_wp2
  go_ret
  exact ⟨rfl, rfl⟩
theorem zero16 (w : World) : (zeroValue 22).run Tryd.prog w = .ok (Q.enc 0) w := Tryd.zeroValue22 w
theorem dec16 (x y : UInt16) : decide ((x.toNat : Int) = (y.toNat : Int)) = decide (x = y) := by
  apply decide_eq_decide.2
  constructor
  · intro h; exact UInt16.toNat_inj.1 (by omega)
  · rintro rfl; rfl
theorem eql16 : EqlAt Tryd.prog 22 Q.enc (fun x y => decide (x = y)) := by
  refine ⟨fun x y w => ?_, fun op a b x y w => GuardAt.int Tryd.prog 22 .u16 op a b x.toNat y.toNat w⟩
  have h := (EqlAt.intD Tryd.prog 22 .u16).1 (x.toNat : Int) (y.toNat : Int) w
  simp only [dec16] at h
  exact h
theorem neq16 : NeqAt Tryd.prog 22 Q.enc (fun x y => decide (x = y)) := by
  refine ⟨fun x y w => ?_, fun op a b x y w => GuardAt.int Tryd.prog 22 .u16 op a b x.toNat y.toNat w⟩
  have h := (NeqAt.intD Tryd.prog 22 .u16).1 (x.toNat : Int) (y.toNat : Int) w
  simp only [dec16] at h
  exact h
theorem clean_any (l : List UInt16) (ao : Option Addr) (len cap : Nat) (w : World) (hl : Hid (l.length = len)) (hs : SlH w ao l) (hnil : ao = none → cap = 0) (hlen : len ≤ 1000000) :
    Calls Tryd.prog 18 #[.slice ao len cap] w fun e w' => ∃ v c, e = .returned v ∧ T.IsClean l c ∧ c.length ≤ len ∧ OwnH w' w.heap.size v c ∧ Below w.heap.size w w' := by
  have HS := hide hs
  clear hs
  go_enter Tryd.func18, Tryd.ntmps18
  go_wp2_with (at_builtin; refine wpList_append_H rfl (.const (.slice none 0 0)) (.tmp 4) rfl w.heap.size (.slice none 0 0) [] rfl (OwnH.nil _ _) ao _ cap l rfl hl.out (by exact HS.out) hnil (by simp; omega) (Nat.le_refl _) ?_; intro v1 w1 hO1 hG1; have hB1 := grown_belowH (OwnH.nil w w.heap.size) hG1 (Below.refl w.heap.size w) (Nat.le_refl _); rw [List.nil_append] at hO1; clear hG1)
  obtain ⟨a1, c1, rfl, hS1, hn1, hc1, hm1⟩ := hO1.open
  by_cases h0 : l.length = 0
  · obtain rfl : l = [] := List.eq_nil_of_length_eq_zero h0
    refine (sort_none a1 c1 _).mono ?_
    rintro e w2 ⟨rfl, rfl⟩
    clear hS1 hl
    go_wp2_with (go_at_call 31; refine (compact_short a1 0 c1 _ (by omega)).mono ?_; rintro e w3 ⟨rfl, rfl⟩)
    go_ret
    exact ⟨_, [], rfl, ⟨List.Pairwise.nil, fun _ => Iff.rfl⟩, by simp, hO1, hB1⟩
  · obtain ⟨g, cap1, e1, hbg, _, _, hglt, _⟩ := hO1.form (by omega)
    cases e1
    obtain ⟨hH, hg, _, hlc, hcm⟩ := own_holds hO1
    have hz1 := hB1.size
    refine (sort_any w1 g 0 l.length c1 l.toArray (by simp) (by have := hl.out; omega) hg hH).mono ?_
    rintro e w2 ⟨rfl, d', hp, hsrt, hSt⟩
    have hd : d'.size = l.length := hSt.size
    have hmem : ∀ x, x ∈ d'.toList ↔ x ∈ l := fun x => by have := perm_mem (by simp) hp x; simpa using this
    obtain ⟨n2, os2, hw2⟩ := hSt.sw
    have hO2 : OwnH w2 w.heap.size (.slice (some ⟨g, 0, none⟩) l.length c1) d'.toList := by
      have := own_put (n := n2) (os := os2) hO1 d' hd d'.size (Nat.le_refl _)
      rw [hd, show d'.toList.take l.length = d'.toList from List.take_of_length_le (by simp; omega)] at this
      rw [hw2]; exact this
    have hB2 : Below w.heap.size w w2 := by
      rw [hw2]; exact hB1.trans (below_put os2 d' hbg hz1)
    rw [← hd] at hsrt
    have hcl : T.IsClean l (compactUpTo d' d'.size) := ⟨compact_rising d' hsrt, fun x => (compact_mem d' x).trans (hmem x)⟩
    have hz2 := hB2.size
    have hO2' : OwnH w2 w.heap.size (.slice (some ⟨g, 0, none⟩) d'.toList.length c1) d'.toList := by
      rw [show d'.toList.length = l.length by simpa using hd]; exact hO2
    obtain ⟨hH2, _, _, _, _⟩ := own_holds hO2'
    have hH2' : Holds Q.enc w2 g 0 d' := by simpa using hH2
    have cc := Tryd.slices_Compact Q.enc (fun _ => rfl) eql16 neq16 0 zero16 g 0 c1 d' w2 hH2' (by have := hl.out; omega) (by omega)
    rw [hd] at cc
    have hcle : (compactUpTo d' l.length).length ≤ l.length := by
      unfold compactUpTo; rw [List.length_map]; exact Nat.le_trans (List.length_filter_le _ _) (by simp)
    have HD := hide hd
    have HCL := hide hcl
    rw [hd] at HCL
    clear hS1 hH hH2 hH2' hO1 hO2 hp hsrt hSt hw2 hmem hB1 hcl hd
    generalize compactUpTo d' l.length = c at cc HCL hcle
    go_wp2_with (go_at_call 31; refine cc.mono ?_; rintro e w3 ⟨rfl, q, hw3⟩)
    go_ret
    refine ⟨_, c, rfl, HCL.out, by rw [← hl.out]; exact hcle, ?_, ?_⟩
    · have := own_put (n := q) (os := #[]) hO2' (c ++ List.replicate (l.length - c.length) 0).toArray (by have := HD.out; simp; omega) c.length (by simp)
      rw [grow_empty] at this
      simpa using this
    · have := below_put (n := q) #[] (c ++ List.replicate (l.length - c.length) 0).toArray hbg hz2
      rw [grow_empty] at this
      exact hB2.trans this
end Go.Proofs.YtikjhacgihohiaaDoor
