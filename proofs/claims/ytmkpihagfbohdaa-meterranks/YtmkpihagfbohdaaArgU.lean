/- Slices of numbers of 64 bits that came in. -/
import Derived.Test.YtmkpihagfbohdaaArgs
namespace Go.Proofs.Ytmkpihagfbohdaa
open Go.ChangeShapes Go.WideShapes Go.ChangeAt Go.WideMaps Go.WideElems Go.RowKit
set_option maxRecDepth 5000 in
theorem cellsU64 : Try.prog.cellsOf 22 = 1 := by kernel_rfl
set_option maxRecDepth 5000 in
theorem open_u64s {H : Type} {enc : TypeId × Value → H} {W : World} {a0 : Option Addr} {len cap : Nat} {d : DataW H} {p : List MemPlace} (h0 : DataW.Trod enc Try.prog W 0 (fun _ => true) true 29 (.slice a0 len cap) d p) :
    ∃ bs : List Nat, bs.length = len ∧ SlU W a0 bs ∧ Small bs ∧ (a0 = none → cap = 0) ∧ len ≤ cap ∧ cap ≤ maxLen := by
  obtain ⟨fuel, hf⟩ := h0
  rcases open_ints Try.underlying29 Try.underlying22 cellsU64 hf with ⟨hcs, hx⟩ | ⟨a, len', cap', zs, hcs, _, hl, hm, hz, hx, hcell, hwz⟩
  · simp [Value.cells] at hcs
    obtain ⟨rfl, rfl, rfl⟩ := hcs
    exact ⟨[], rfl, fun h => by simp at h, fun x hx => by simp at hx, fun _ => rfl, Nat.le_refl _, Nat.zero_le _⟩
  · simp [Value.cells] at hcs
    obtain ⟨rfl, rfl, rfl⟩ := hcs
    simp only [if_true] at hz
    have hlen : ((zs.take len).map Int.toNat).length = len := by simp; omega
    refine ⟨(zs.take len).map Int.toNat, hlen, fun hn => ?_, fun x hx => ?_, fun h => (by cases h), hl, hm⟩
    · rw [hlen] at hn
      obtain ⟨b, off, rfl, hc⟩ := ints_at hcell (by omega)
      refine ⟨b, off, rfl, block_lt_of_cell (hc 0 (by omega)), fun j hj => ?_⟩
      rw [hlen] at hj
      rw [hc j (by omega)]
      have hjz : j < zs.length := by omega
      obtain ⟨n, hn1, hn2⟩ := u64_of (hwz _ (List.getElem_mem hjz))
      have e1 : zs.getD j 0 = zs[j] := by simp [hjz]
      have e2 : ((zs.take len).map Int.toNat).getD j 0 = (zs[j]).toNat := by
        simp [hj, hjz]
      rw [e1, e2, hn1]
      congr 2
    · obtain ⟨z, hz1, rfl⟩ := List.mem_map.1 hx
      obtain ⟨n, hn1, hn2⟩ := u64_of (hwz z (List.mem_of_mem_take hz1))
      rw [hn1]; exact hn2
end Go.Proofs.Ytmkpihagfbohdaa
