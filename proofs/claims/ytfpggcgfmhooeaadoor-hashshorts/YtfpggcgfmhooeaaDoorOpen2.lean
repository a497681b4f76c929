/- A list of slices of bytes that came in, opened: the bytes of each as words of eight bits. -/
import Derived.Test.YtfpggcgfmhooeaaDoorOpen
import Derived.Test.YtfpggcgfmhooeaaDoorParts
import Derived.Deep.Matrix
namespace Go.Proofs.YtfpggcgfmhooeaaDoor
open Go.ChangeShapes Go.WideShapes Go.ChangeAt Go.WideMaps Go.WideElems Go.RowKit Go.Deep
theorem cells22 : Tryd.prog.cellsOf 22 = 1 := by kernel_rfl
def toB (zs : List Int) : List (BitVec 8) := zs.map fun z => BitVec.ofNat 8 z.toNat
theorem toB_len (zs : List Int) : (toB zs).length = zs.length := by simp [toB]
theorem toB_get {zs : List Int} (hw : ∀ n ∈ zs, (Lit.int .u8 n).wf = true) (k j : Nat) (hk : k ≤ zs.length) (hj : j < k) : (((toB (zs.take k)).getD j 0).toNat : Int) = zs.getD j 0 := by
  have hjz : j < zs.length := by omega
  have hb := bounds_u8 (hw _ (List.getElem_mem hjz))
  have e1 : zs.getD j 0 = zs[j] := by simp [hjz]
  have e2 : (toB (zs.take k)).getD j 0 = BitVec.ofNat 8 (zs[j]).toNat := by simp [toB, hj, hjz]
  rw [e1, e2, BitVec.toNat_ofNat]
  omega
theorem open_parts {H : Type} {enc : TypeId × Value → H} {W : World} {a0 : Option Addr} {len cap : Nat} {d : DataW H} {p : List MemPlace} (h0 : DataW.Trod enc Tryd.prog W 0 (fun _ => true) true 27 (.slice a0 len cap) d p) :
    ∃ l : List (List (BitVec 8)), l.length = len ∧ PartsAt W a0 l ∧ len ≤ 9223372036854775807 ∧ ∀ p ∈ l, p.length ≤ 9223372036854775807 := by
  obtain ⟨fuel, hf⟩ := h0
  rcases open_int_rows Tryd.underlying27 Tryd.underlying22 Tryd.underlying5 cells22 cells5 hf with ⟨hcs, hx⟩ | ⟨a, len', cap', A, L, C, Z, hcs, _, hl, hm, hx, hr⟩
  · simp [Value.cells] at hcs
    obtain ⟨rfl, rfl, rfl⟩ := hcs
    exact ⟨[], rfl, fun h => by simp at h, by omega, fun p hp => by simp at hp⟩
  · simp [Value.cells] at hcs
    obtain ⟨rfl, rfl, rfl⟩ := hcs
    unfold maxLen at hm
    have hll : ((List.range len).map fun r => toB ((Z r).take (L r))).length = len := by simp
    have hg : ∀ j, j < len → ((List.range len).map fun r => toB ((Z r).take (L r))).getD j [] = toB ((Z j).take (L j)) := fun j hj => by simp [hj]
    have hpl : ∀ r, r < len → (toB ((Z r).take (L r))).length = L r := fun r hr' => by
      obtain ⟨_, h2, _, h4, _⟩ := hr r (by omega)
      rw [toB_len, List.length_take]; omega
    refine ⟨(List.range len).map fun r => toB ((Z r).take (L r)), hll, fun hn => ?_, by omega, fun p hp => ?_⟩
    · rw [hll] at hn
      have hc0 := (hr 0 (by omega)).1
      have hspot : a.spot = none := by
        have := World.cell?_spot hc0
        simpa [Addr.add] using this
      obtain ⟨b, off, spot⟩ := a
      simp only at hspot
      subst hspot
      refine ⟨b, off, rfl, ?_, fun j hj => ?_⟩
      · have := block_lt_of_cell hc0
        rw [Addr.add_mid] at this; exact this
      · rw [hll] at hj
        obtain ⟨h1, h2, h3, h4, h5, h6, h7⟩ := hr j (by omega)
        rw [Addr.add_mid] at h1
        rw [hg j hj, hpl j hj]
        refine ⟨A j, C j, h1, fun hn' => ?_, h6, h2⟩
        rw [hpl j hj] at hn'
        cases hA : A j with
        | none => have := h6 hA; omega
        | some a' =>
          obtain ⟨_, hc⟩ := h7 a' hA
          obtain ⟨b', o', rfl, hc'⟩ := ints_at (zs := Z j) (by rw [h4]; exact hc) (by omega)
          refine ⟨b', o', rfl, block_lt_of_cell (hc' 0 (by omega)), fun i hi => ?_⟩
          rw [hpl j hj] at hi
          rw [hc' i (by omega), toB_get h5 (L j) i (by omega) hi]
    · simp only [List.mem_map, List.mem_range] at hp
      obtain ⟨r, hr', rfl⟩ := hp
      obtain ⟨_, h2, h3, _⟩ := hr r (by omega)
      rw [hpl r hr']
      unfold maxLen at h3; omega
end Go.Proofs.YtfpggcgfmhooeaaDoor
