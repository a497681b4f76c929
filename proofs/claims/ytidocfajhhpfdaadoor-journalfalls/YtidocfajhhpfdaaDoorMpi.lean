/- A map from places to lists of bytes, as a function; its keys in order (slices.Sorted of maps.Keys); slices.Clone. -/
import Derived.Test.YtidocfajhhpfdaaDoorMem
namespace Go.Proofs.YtidocfajhhpfdaaDoor
open Go.RowKit Go.Shelf
/- an element of the map, held as it is -/
def HR : Value → Option (DataW Value × List MemPlace) := fun v => some (.held v, [])
def vput (uv : Nat → Option Value) (i : Nat) (v : Value) : Nat → Option Value := fun j => if j = i then some v else uv j
structure MapV (D : DataW Value) (uv : Nat → Option Value) (n : Nat) : Prop where
  isMap : Maps.IsMap D
  has : ∀ i : Nat, Maps.has D (.int .i64 (i : Int)) = (uv i).isSome
  val : ∀ (i : Nat) (z : Value), D.atKey (.int .i64 (i : Int)) (.held z) = .held ((uv i).getD z)
  key : ∀ kl, Maps.has D kl = true → ∃ i : Nat, i < n ∧ kl = .int .i64 (i : Int)
set_option maxRecDepth 5000 in
theorem MapV.nil (n : Nat) : MapV (.map []) (fun _ => none) n := ⟨Maps.isMap_empty, fun _ => rfl, fun _ _ => rfl, fun _ h => by cases h⟩
set_option maxRecDepth 5000 in
theorem int_ne {i j : Nat} (h : i ≠ j) : (Lit.int .i64 (i : Int)) ≠ .int .i64 (j : Int) := fun e => h (by injection e with _ h; omega)
set_option maxRecDepth 5000 in
theorem MapV.put {D : DataW Value} {uv : Nat → Option Value} {n : Nat} (h : MapV D uv n) (i : Nat) (hi : i < n) (v : Value) : MapV (D.put (.int .i64 (i : Int)) (.held v)) (vput uv i v) n := by
  have hk : WideAt.IsKeyLit (.int .i64 (i : Int)) := trivial
  refine ⟨h.isMap.put _ _, fun j => ?_, fun j z => ?_, fun kl hkl => ?_⟩
  · by_cases e : j = i
    · subst e; rw [Maps.has_put_same h.isMap hk]; simp [vput]
    · rw [Maps.has_put_other (int_ne e), h.has]; simp [vput, e]
  · by_cases e : j = i
    · subst e; rw [Maps.atKey_put_same h.isMap hk]; simp [vput]
    · rw [Maps.atKey_put_other (int_ne e), h.val]; simp [vput, e]
  · by_cases e : kl = .int .i64 (i : Int)
    · exact ⟨i, hi, e⟩
    · rw [Maps.has_put_other e] at hkl; exact h.key kl hkl
def MapAt (w : World) (b : Nat) (uv : Nat → Option Value) (n : Nat) : Prop := ∃ D, w.ownsMap Tryd.prog 3 HR b (Maps.size D) D ∧ MapV D uv n
set_option maxRecDepth 5000 in
theorem ownsMap_size {w : World} {b N : Nat} {D : DataW Value} (h : w.ownsMap Tryd.prog 3 HR b N D) : w.ownsMap Tryd.prog 3 HR b (Maps.size D) D := by
  obtain ⟨es, clock, hb, F, _, rfl⟩ := h
  exact ⟨es, clock, hb, F, by simp [Maps.size, length_sorted], rfl⟩
set_option maxRecDepth 5000 in
theorem MapAt.heap {w w' : World} {b n : Nat} {uv : Nat → Option Value} (h : MapAt w b uv n) (hb : w'.heap[b]? = w.heap[b]?) : MapAt w' b uv n := by
  obtain ⟨D, ⟨es, clock, h1, h2⟩, hv⟩ := h
  exact ⟨D, ⟨es, clock, hb.trans h1, h2⟩, hv⟩
set_option maxRecDepth 5000 in
theorem MapAt.obj {w : World} {b n : Nat} {uv : Nat → Option Value} (h : MapAt w b uv n) : ∃ es clock, w.heap[b]? = some (.map es clock) := by
  obtain ⟨D, ⟨es, clock, h1, _⟩, _⟩ := h; exact ⟨es, clock, h1⟩
set_option maxRecDepth 5000 in
theorem MapAt.lt {w : World} {b n : Nat} {uv : Nat → Option Value} (h : MapAt w b uv n) : b < w.heap.size := by
  obtain ⟨D, h1, _⟩ := h; exact h1.lt
set_option maxRecDepth 5000 in
theorem MapAt.row_ne {w : World} {b n g : Nat} {uv : Nat → Option Value} (h : MapAt w b uv n) {c : Array Value} {t : TypeId} {fr : Nat × Nat} (hg : w.heap[g]? = some (.cells c t fr)) : g ≠ b := fun e => by
  obtain ⟨es, clock, h1⟩ := h.obj
  rw [e, h1] at hg; cases hg
set_option maxRecDepth 5000 in
theorem MapAt.made (w : World) (n : Nat) : MapAt (w.alloc (.map #[] 0)) w.heap.size (fun _ => none) n := ⟨_, World.ownsMap_made w _ _ _, MapV.nil n⟩
set_option maxRecDepth 5000 in
theorem keyedI : Maps.Keyed Tryd.prog 3 := Maps.int_keyed Tryd.underlying3
set_option maxRecDepth 5000 in
theorem keyI (i : Nat) (hi : i ≤ 9223372036854775807) : keyOf Tryd.prog 3 (.int .i64 (i : Int)) = some (.int .i64 (i : Int)) := by
  refine Maps.keyOf_int_mk Tryd.underlying3 ?_
  have h1 : IntKind.i64.min = -9223372036854775808 := by decide
  have h2 : IntKind.i64.max = 9223372036854775807 := by decide
  simp only [Lit.wf, Bool.and_eq_true, decide_eq_true_eq, h1, h2]; omega
/- the keys, in order -/
set_option maxRecDepth 5000 in
theorem MapV.perm {w : World} {b N n : Nat} {D : DataW Value} {uv : Nat → Option Value} (ho : w.ownsMap Tryd.prog 3 HR b N D) (h : MapV D uv n) : ((K.ks (fun i => (uv i).isSome) n).map (fun i : Nat => (i : Int))).Perm (intKeys D) := by
  obtain ⟨es, rfl, hp, hk⟩ := ho.entries keyedI
  refine perm_intKeys hp (fun p hp' => ?_) ?_ fun x => ?_
  · obtain ⟨i, _, e⟩ := h.key p.1 (List.any_eq_true.2 ⟨p, hp', WideAt.sameKey_self (hk p hp')⟩)
    exact ⟨_, e⟩
  · exact (K.ks_asc _ n).imp fun {a b} hab => by omega
  · rw [List.mem_map]
    constructor
    · rintro ⟨i, hi, rfl⟩
      rw [h.has]; exact ((K.mem_ks _ _ _).1 hi).2
    · intro hx
      obtain ⟨i, hi, e⟩ := h.key _ hx
      injection e with _ e
      subst e
      exact ⟨i, (K.mem_ks _ _ _).2 ⟨hi, by rw [← h.has]; exact hx⟩, rfl⟩
set_option maxRecDepth 5000 in
theorem MapV.size {w : World} {b N n : Nat} {D : DataW Value} {uv : Nat → Option Value} (ho : w.ownsMap Tryd.prog 3 HR b N D) (h : MapV D uv n) : Maps.size D ≤ n := by
  have h1 := (h.perm ho).length_eq
  rw [List.length_map, K.ks_len] at h1
  have h2 : (intKeys D).length = Maps.size D := by obtain ⟨es, rfl⟩ := h.isMap; simp [intKeys, Maps.size]
  have := K.cnt_self (fun i => (uv i).isSome) n
  omega
set_option maxRecDepth 5000 in
theorem MapAt.look {w : World} {b n : Nat} {uv : Nat → Option Value} (h : MapAt w b uv n) (i : Nat) (hi : i ≤ 9223372036854775807) :
    (Instr.lookup 61 (.map (some b)) (.int .i64 (i : Int)) true).run Tryd.prog w = .ok (.tuple #[(uv i).getD (.slice none 0 0), .bool (uv i).isSome]) w := by
  obtain ⟨D, h1, hv⟩ := h
  obtain ⟨v, ps, hrun, hR⟩ := h1.look_ok keyedI Tryd.underlying61 (Tryd.zeroValue22 w) (zd := .held (.slice none 0 0)) (zp := []) rfl (keyI i hi)
  rw [hv.val i] at hR
  simp only [HR, Option.some.injEq, Prod.mk.injEq, DataW.held.injEq] at hR
  rw [hrun, hv.has i, hR.1]
set_option maxRecDepth 5000 in
theorem MapAt.get {w : World} {b n : Nat} {uv : Nat → Option Value} (h : MapAt w b uv n) (i : Nat) (hi : i ≤ 9223372036854775807) :
    (Instr.lookup 61 (.map (some b)) (.int .i64 (i : Int)) false).run Tryd.prog w = .ok ((uv i).getD (.slice none 0 0)) w := by
  obtain ⟨D, h1, hv⟩ := h
  obtain ⟨v, ps, hrun, hR⟩ := h1.lookup keyedI Tryd.underlying61 (Tryd.zeroValue22 w) (zd := .held (.slice none 0 0)) (zp := []) rfl (keyI i hi)
  rw [hv.val i] at hR
  simp only [HR, Option.some.injEq, Prod.mk.injEq, DataW.held.injEq] at hR
  rw [hrun, hR.1]
set_option maxRecDepth 5000 in
theorem MapAt.update {w : World} {b n : Nat} {uv : Nat → Option Value} (h : MapAt w b uv n) (hn : n ≤ 1000000) (i : Nat) (hi : i < n) (v : Value) :
    ∃ w', (Instr.mapUpdate 61 (.map (some b)) (.int .i64 (i : Int)) v).run Tryd.prog w = .ok () w' ∧ MapAt w' b (vput uv i v) n ∧ w.grownBy w' (some b) ∧ w'.heap.size = w.heap.size := by
  obtain ⟨D, h1, hv⟩ := h
  have hs := hv.size h1
  obtain ⟨w', hrun, ho, ht⟩ := h1.store keyedI Tryd.underlying61 (by unfold maxLen; omega) (keyI i (by omega)) (d := .held v) (ps := []) rfl
  exact ⟨w', hrun, ⟨_, ownsMap_size ho, hv.put i hi v⟩, ht.grown, by obtain ⟨_, _, _, _, _, rfl⟩ := ht; simp [ChangeMaps.setBlock]⟩
set_option maxRecDepth 5000 in
theorem sortsA (m : Nat) : AnyZI.SortsIn Tryd.prog Tryd.sortedA_ren Fence.wide m :=
  ⟨fun blk off cap ss W hH hblk hsz => callsIn_wide.2 (AnyM.slices_Sort_int Tryd.sortA blk off cap ss W hH hblk hsz),
   fun p cap W => callsIn_wide.2 (AnyM.slices_Sort_int_none Tryd.sortA p cap W)⟩
/- maps.Keys: the iterator over a new block -/
set_option maxRecDepth 5000 in
theorem keys_any (mb : Option Nat) (W : World) : Calls Tryd.prog 39 #[.map mb] W fun e w' => e = .returned (.func (.func 65) #[] #[.pointer (some ⟨W.heap.size, 0, none⟩)]) ∧ w' = W.alloc (.cells #[.map mb] 61) :=
  (callsIn_wide (n := 5)).1 (AnyZI.keys_in Tryd.keysA Fence.wide 5 trivial rfl mb W)
/- slices.Sorted of it: a new list of the places, in order -/
set_option maxRecDepth 5000 in
theorem sorted_any (w : World) (b n : Nat) (uv : Nat → Option Value) (h : MapAt w b uv n) (hn : n ≤ 1000000) :
    Calls Tryd.prog 38 #[.func (.func 65) #[] #[.pointer (some ⟨w.heap.size, 0, none⟩)]] (w.alloc (.cells #[.map (some b)] 61)) fun e w' => ∃ v, e = .returned v ∧
      w'.ownsRow (w.heap.size + 1) 3 1 v (K.ks (fun i => (uv i).isSome) n).length ((K.ks (fun i => (uv i).isSome) n).map fun i : Nat => Value.int .i64 (i : Int)) ∧ Below (w.heap.size + 1) (w.alloc (.cells #[.map (some b)] 61)) w' := by
  obtain ⟨D, hown, hv⟩ := h
  have hbl := hown.lt
  have hs := hv.size hown
  have hp := hv.perm hown
  refine (callsIn_wide (n := 5)).1 ?_
  have hseq : SeqGives Fence.wide 2 Tryd.prog 65 #[.pointer (some ⟨w.heap.size, 0, none⟩)] encZ (fun ss => ss.Perm (intKeys D)) (Maps.size D) (w.alloc (.cells #[.map (some b)] 61)) :=
    AnyZI.keys_gives (ρ := Tryd.keysA_ren) { Tryd.keysA with } Fence.wide _ trivial rfl (by omega) w.heap.size b (Maps.size D) D _ (by simp) (by simp) (by
      obtain ⟨es, clock, hb, Ft, hs, hD⟩ := hown
      exact ⟨es, clock, (Below.heap_alloc _ _ b hbl).trans hb, Ft, hs, hD⟩)
  have cS := AnyZI.sorted_in Tryd.sortedA Fence.wide 5 trivial trivial trivial trivial rfl (by omega) (sortsA _) (enters_of Tryd.func64 (by kernel_rfl) rfl) 65 #[.pointer (some ⟨w.heap.size, 0, none⟩)] trivial (enters_of Tryd.func65 (by kernel_rfl) rfl) _ _ (by unfold maxLen; omega) (by omega) _ hseq
  refine cS.mono ?_
  rintro e w' ⟨v, ss, rfl, hS, hrow, hnil, hb⟩
  have e1 : ss.mergeSort (fun x y => decide (x ≤ y)) = (K.ks (fun i => (uv i).isSome) n).map (fun i : Nat => (i : Int)) := by
    rw [← asc_sorted _ (K.ks_asc _ n)]
    exact mergeSort_of_perm_i (hS.trans hp.symm)
  have e2 : ss.length = (K.ks (fun i => (uv i).isSome) n).length := by
    rw [(hS.trans hp.symm).length_eq, List.length_map]
  rw [e1, e2, List.map_map] at hrow
  refine ⟨v, rfl, ?_, ?_⟩
  · have e3 : (w.alloc (.cells #[.map (some b)] 61)).heap.size = w.heap.size + 1 := by simp
    rw [e3] at hrow
    exact hrow
  · simpa using hb
/- slices.Clone of bytes -/
set_option maxRecDepth 5000 in
theorem clone_any (w : World) (ao : Option Addr) (c : Nat) (l : List UInt8) (hl : 0 < l.length) (hl2 : l.length ≤ 1000000000) (hs : SlL w ao l) :
    Calls Tryd.prog 43 #[.slice ao l.length c] w fun e w' => ∃ v, e = .returned v ∧ OwnB w' w.heap.size v l ∧ Below w.heap.size w w' := by
  obtain ⟨i0, hi, hz0, hz1, hz2⟩ := info_parts infoB
  obtain ⟨b, o, rfl, hlt, hc⟩ := hs hl
  refine (AnyE.slices_Clone Tryd.cloneA i0 (.int .u8 0) 1 1 hi hz0 hz1 hz2 rfl (by decide) Tryd.sizeOf5 b o l.length c (vb l) w (by rw [vb_len]; omega) (by unfold maxLen; omega) (by omega) (fun j u hu => ?_) (vb_one l)).mono ?_
  · have hj : j < l.length := by have := (List.getElem?_eq_some_iff.1 hu).1; rwa [vb_len] at this
    rw [hc j hj, ← vb_get l j hj, hu]
  · rintro e w' ⟨v, rfl, h1, _, h2⟩
    exact ⟨v, rfl, h1, h2⟩
set_option maxRecDepth 5000 in
theorem clone_nil (w : World) (n c : Nat) : Calls Tryd.prog 43 #[.slice none n c] w fun e w' => e = .returned (.slice none 0 0) ∧ w' = w := AnyE.slices_Clone_nil Tryd.cloneA n c w
end Go.Proofs.YtidocfajhhpfdaaDoor
