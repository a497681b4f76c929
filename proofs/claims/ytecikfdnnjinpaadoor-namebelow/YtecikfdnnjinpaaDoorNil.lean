/- A name that came in as nil has no room. -/
import Derived.Test.YtecikfdnnjinpaaDoorLaid
namespace Go.Proofs.YtecikfdnnjinpaaDoor
open Go.ChangeShapes Go.WideShapes Go.ChangeAt Go.WideMaps Go.WideElems Go.RowKit Go.Deep
theorem name_nil {H : Type} {enc : TypeId × Value → H} {W : World} {a0 : Option Addr} {len cap : Nat} {d : DataW H} {p : List MemPlace} (h0 : DataW.Trod enc Tryd.prog W 0 (fun _ => true) true 25 (.slice a0 len cap) d p) : a0 = none → cap = 0 := by
  obtain ⟨fuel, hf⟩ := h0
  rcases open_strs Tryd.underlying25 Tryd.underlying9 cellsStr hf with ⟨hcs, hx⟩ | ⟨a, len', cap', m, Sx, hcs, _⟩
  · simp [Value.cells] at hcs
    exact fun _ => hcs.2.2
  · simp [Value.cells] at hcs
    intro e
    rw [hcs.1] at e
    cases e
end Go.Proofs.YtecikfdnnjinpaaDoor
