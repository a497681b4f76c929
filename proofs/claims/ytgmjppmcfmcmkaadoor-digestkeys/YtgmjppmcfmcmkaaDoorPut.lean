/- hash.putWord writes a word's four bytes, the highest first, into the row that its slice lies in, and turns nothing else. -/
import Derived.Test.YtgmjppmcfmcmkaaDoorInv2
namespace Go.Proofs.YtgmjppmcfmcmkaaDoor
namespace H
open Go.RowKit
def put4 (c : Array Value) (o : Nat) (x : Int) : Array Value :=
  (((c.setIfInBounds o (.int .u8 (x / 16777216))).setIfInBounds (o + 1) (.int .u8 (x / 65536 % 256))).setIfInBounds (o + 2) (.int .u8 (x / 256 % 256))).setIfInBounds (o + 3) (.int .u8 (x % 256))
set_option maxRecDepth 5000 in
theorem put4_size (c : Array Value) (o : Nat) (x : Int) : (put4 c o x).size = c.size := by simp [put4]
set_option maxRecDepth 5000 in
theorem put4_out (c : Array Value) (o : Nat) (x : Int) (j : Nat) (h : j < o ∨ o + 4 ≤ j) : (put4 c o x)[j]? = c[j]? := by
  simp only [put4, Array.getElem?_setIfInBounds]
  rw [if_neg (by omega), if_neg (by omega), if_neg (by omega), if_neg (by omega)]
set_option maxRecDepth 5000 in
theorem put4_in (c : Array Value) (o : Nat) (x : Int) (ho : o + 4 ≤ c.size) : (put4 c o x)[o]? = some (.int .u8 (x / 16777216)) ∧ (put4 c o x)[o + 1]? = some (.int .u8 (x / 65536 % 256)) ∧ (put4 c o x)[o + 2]? = some (.int .u8 (x / 256 % 256)) ∧ (put4 c o x)[o + 3]? = some (.int .u8 (x % 256)) := by
  simp only [put4, Array.getElem?_setIfInBounds, Array.size_setIfInBounds]
  refine ⟨?_, ?_, ?_, ?_⟩
  · rw [if_neg (by omega), if_neg (by omega), if_neg (by omega), if_pos trivial, if_pos (by omega)]
  · rw [if_neg (by omega), if_neg (by omega), if_pos trivial, if_pos (by omega)]
  · rw [if_neg (by omega), if_pos trivial, if_pos (by omega)]
  · rw [if_pos trivial, if_pos (by omega)]
/- what a store into block g leaves -/
structure Only (g : Nat) (t : TypeId) (c : Array Value) (w w' : World) : Prop where
  row : RowAt w' g t c
  below : Below g w w'
  other : ∀ k, k ≠ g → w'.heap[k]? = w.heap[k]?
  size : w'.heap.size = w.heap.size
set_option maxRecDepth 5000 in
theorem Only.rowAt {g : Nat} {t : TypeId} {c : Array Value} {w w' : World} (h : Only g t c w w') {g' : Nat} {t' : TypeId} {c' : Array Value} (hr : RowAt w g' t' c') (hne : g' ≠ g) : RowAt w' g' t' c' := by
  unfold RowAt; rw [h.other g' hne]; exact hr
set_option maxHeartbeats 400000 in
set_option maxRecDepth 5000 in
theorem put_any (x : Int) (w : World) (g o n cap : Nat) (t : TypeId) (c : Array Value) (h0 : 0 ≤ x) (h1 : x < 4294967296) (hr : RowAt w g t c) (ho : o + 4 ≤ c.size) (hn : 4 ≤ n) (hm : n ≤ 9223372036854775807) :
    Calls Tryd.prog 45 #[.slice (some ⟨g, o, none⟩) n cap, .int .u32 x] w fun e w' => e = .returned (.tuple #[]) ∧ Only g t (put4 c o x) w w' := by
  have c0 : w.cell? ⟨g, o, none⟩ = some c[o] := (hr.cell o).trans (by simp)
  have c1 : w.cell? ⟨g, o + 1, none⟩ = some c[o + 1] := (hr.cell _).trans (by simp)
  have c2 : w.cell? ⟨g, o + 2, none⟩ = some c[o + 2] := (hr.cell _).trans (by simp)
  have c3 : w.cell? ⟨g, o + 3, none⟩ = some c[o + 3] := (hr.cell _).trans (by simp)
  have f0 := hr.frozen o
  have f1 := hr.frozen (o + 1)
  have f2 := hr.frozen (o + 2)
  have f3 := hr.frozen (o + 3)
  go_enter Tryd.func45, Tryd.ntmps45
  go_wp2
  go_end0
  refine ⟨rfl, ⟨?_, ?_, ?_, ?_⟩⟩
  · exact (((hr.set _ _).set _ _).set _ _).set _ _
  · exact ((((Below.refl g w).setCell (Nat.le_refl _) _).setCell (Nat.le_refl _) _).setCell (Nat.le_refl _) _).setCell (Nat.le_refl _) _
  · intro k hk
    rw [heap_setCell_other _ _ _ _ hk, heap_setCell_other _ _ _ _ hk, heap_setCell_other _ _ _ _ hk, heap_setCell_other _ _ _ _ hk]
  · simp [World.setCell]
end H
end Go.Proofs.YtgmjppmcfmcmkaaDoor
