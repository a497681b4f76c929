/- Slices of numbers of 16 bits that came in. -/
import Derived.Test.YtmkpihagfbohdaaArgs
import Derived.Test.YtmkpihagfbohdaaBt1
namespace Go.Proofs.Ytmkpihagfbohdaa
open Go.ChangeShapes Go.WideShapes Go.ChangeAt Go.WideMaps Go.WideElems Go.RowKit
set_option maxRecDepth 5000 in
theorem cellsI16 : Try.prog.cellsOf 48 = 1 := by kernel_rfl
set_option maxRecDepth 5000 in
theorem open_i16s {H : Type} {enc : TypeId × Value → H} {W : World} {a0 : Option Addr} {len cap : Nat} {d : DataW H} {p : List MemPlace} (h0 : DataW.Trod enc Try.prog W 0 (fun _ => true) true 47 (.slice a0 len cap) d p) :
    ∃ bs : List Int, bs.length = len ∧ SlI W a0 bs ∧ (∀ x ∈ bs, x.natAbs ≤ 32768) ∧ (a0 = none → cap = 0) ∧ len ≤ cap ∧ cap ≤ maxLen := by
  obtain ⟨fuel, hf⟩ := h0
  rcases open_ints Try.underlying47 Try.underlying48 cellsI16 hf with ⟨hcs, hx⟩ | ⟨a, len', cap', zs, hcs, _, hl, hm, hz, hx, hcell, hwz⟩
  · simp [Value.cells] at hcs
    obtain ⟨rfl, rfl, rfl⟩ := hcs
    exact ⟨[], rfl, fun h => by simp at h, fun x hx => by simp at hx, fun _ => rfl, Nat.le_refl _, Nat.zero_le _⟩
  · simp [Value.cells] at hcs
    obtain ⟨rfl, rfl, rfl⟩ := hcs
    simp only [if_true] at hz
    have hlen : (zs.take len).length = len := by simp; omega
    refine ⟨zs.take len, hlen, fun hn => ?_, fun x hx => ?_, fun h => (by cases h), hl, hm⟩
    · rw [hlen] at hn
      obtain ⟨b, off, rfl, hc⟩ := ints_at hcell (by omega)
      refine ⟨b, off, rfl, block_lt_of_cell (hc 0 (by omega)), fun j hj => ?_⟩
      rw [hlen] at hj
      rw [hc j (by omega)]
      have hjz : j < zs.length := by omega
      congr 2
      simp [hj, hjz]
    · have := bounds_i16 (hwz x (List.mem_of_mem_take hx))
      omega
end Go.Proofs.Ytmkpihagfbohdaa
