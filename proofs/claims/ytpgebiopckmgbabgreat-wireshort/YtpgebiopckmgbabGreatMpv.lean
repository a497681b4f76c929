/- The writer's map: names' ends and their places, as a function. -/
import Derived.Test.YtpgebiopckmgbabGreatDat
import Derived.Maps.OwnSet
import Derived.Maps.Views
import Derived.StringKeys
import Derived.Maps.AppendAt
namespace Go.Proofs.YtpgebiopckmgbabGreat
open Go.RowKit
namespace M
def wput (mp : List UInt8 → Option Nat) (k : List UInt8) (p : Nat) : List UInt8 → Option Nat := fun x => if x = k then some p else mp x
/- a name behind what was written: its longest end that has a place as a pointer -/
def wname : List (List UInt8) → (List UInt8 → Option Nat) → List UInt8 → (List UInt8 → Option Nat) × List UInt8
  | [], mp, out => (mp, out ++ [0])
  | l :: r, mp, out => match mp (N.wire (l :: r)) with
    | some p => (mp, out ++ D.p16 (49152 + p))
    | none => wname r (if out.length < 16384 then wput mp (N.wire (l :: r)) out.length else mp) (out ++ UInt8.ofNat l.length :: l)
end M
/- the datum D says what mp says; all places are below 16384 -/
structure MapV (D : DataW Unit) (mp : List UInt8 → Option Nat) : Prop where
  isMap : Maps.IsMap D
  has : ∀ s, Maps.has D (.string s) = (mp s).isSome
  val : ∀ s, D.atKey (.string s) (.lit (.int .i64 0)) = .lit (.int .i64 (((mp s).getD 0 : Nat) : Int))
  low : ∀ s p, mp s = some p → p < 16384
set_option maxRecDepth 5000 in
theorem MapV.nil : MapV (.map []) (fun _ => none) := ⟨Maps.isMap_empty, fun _ => rfl, fun _ => rfl, fun _ _ h => by cases h⟩
set_option maxRecDepth 5000 in
theorem MapV.put {D : DataW Unit} {mp : List UInt8 → Option Nat} (h : MapV D mp) (k : List UInt8) (p : Nat) (hp : p < 16384) : MapV (D.put (.string k) (.lit (.int .i64 (p : Int)))) (M.wput mp k p) := by
  have hk : WideAt.IsKeyLit (.string k) := trivial
  refine ⟨h.isMap.put _ _, fun s => ?_, fun s => ?_, fun s q hq => ?_⟩
  · by_cases e : s = k
    · subst e
      rw [Maps.has_put_same h.isMap hk]; simp [M.wput]
    · rw [Maps.has_put_other (fun e' => e (by injection e')), h.has]; simp [M.wput, e]
  · by_cases e : s = k
    · subst e
      rw [Maps.atKey_put_same h.isMap hk]; simp [M.wput]
    · rw [Maps.atKey_put_other (fun e' => e (by injection e')), h.val]; simp [M.wput, e]
  · unfold M.wput at hq
    by_cases e : s = k
    · rw [if_pos e] at hq; cases hq; exact hp
    · rw [if_neg e] at hq; exact h.low s q hq
/- block b holds the map mp -/
def MapAt (w : World) (b : Nat) (mp : List UInt8 → Option Nat) (N : Nat) : Prop := ∃ D, w.ownsMap (H := Unit) Tryz.prog 9 (plainElem Tryz.prog 3) b N D ∧ MapV D mp
set_option maxRecDepth 5000 in
theorem MapAt.heap {w w' : World} {b N : Nat} {mp : List UInt8 → Option Nat} (h : MapAt w b mp N) (hb : w'.heap[b]? = w.heap[b]?) : MapAt w' b mp N := by
  obtain ⟨D, ⟨es, clock, h1, h2⟩, hv⟩ := h
  exact ⟨D, ⟨es, clock, hb.trans h1, h2⟩, hv⟩
set_option maxRecDepth 5000 in
theorem MapAt.lt {w : World} {b N : Nat} {mp : List UInt8 → Option Nat} (h : MapAt w b mp N) : b < w.heap.size := by
  obtain ⟨D, h1, _⟩ := h; exact h1.lt
set_option maxRecDepth 5000 in
theorem MapAt.obj {w : World} {b N : Nat} {mp : List UInt8 → Option Nat} (h : MapAt w b mp N) : ∃ es clock, w.heap[b]? = some (.map es clock) := by
  obtain ⟨D, ⟨es, clock, h1, _⟩, _⟩ := h; exact ⟨es, clock, h1⟩
set_option maxRecDepth 5000 in
theorem MapAt.drew {w : World} {b N : Nat} {mp : List UInt8 → Option Nat} (h : MapAt w b mp N) : MapAt w.drew b mp N := h
set_option maxRecDepth 5000 in
theorem MapAt.made (w : World) : MapAt (w.alloc (.map #[] 0)) w.heap.size (fun _ => none) 0 := ⟨_, World.ownsMap_made w _ _ _, MapV.nil⟩
set_option maxRecDepth 5000 in
theorem keyedS : Maps.Keyed Tryz.prog 9 := Maps.string_keyed Tryz.underlying9
set_option maxRecDepth 5000 in
theorem zeroI (w : World) : (zeroValue 3).run Tryz.prog w = .ok (.int .i64 0) w := by
  have h : (Tryz.prog.info? 3).map (·.zero) = some (some (.int .i64 0)) := by kernel_rfl
  cases hq : Tryz.prog.info? 3 with
  | none => rw [hq] at h; cases h
  | some i =>
    have hz : i.zero = some (.int .i64 0) := by rw [hq] at h; simpa using h
    simp [zeroValue, typeInfo, hq, hz]
set_option maxRecDepth 5000 in
theorem keyS (s : List UInt8) (hs : s.length ≤ 1000000) : keyOf Tryz.prog 9 (.string ⟨s.toArray⟩) = some (.string s) := by
  have h := WideMaps.keyOf_string_mk (P := Tryz.prog) Tryz.underlying9 (s := ⟨s.toArray⟩) (by show s.toArray.size ≤ maxLen; unfold maxLen; simp; omega)
  simpa using h
set_option maxRecDepth 5000 in
theorem MapAt.look {w : World} {b N : Nat} {mp : List UInt8 → Option Nat} (h : MapAt w b mp N) (s : List UInt8) (hs : s.length ≤ 1000000) :
    (Instr.lookup 58 (.map (some b)) (.string ⟨s.toArray⟩) true).run Tryz.prog w = .ok (.tuple #[.int .i64 (((mp s).getD 0 : Nat) : Int), .bool (mp s).isSome]) w := by
  obtain ⟨D, h1, hv⟩ := h
  obtain ⟨v, ps, hrun, hR⟩ := h1.look_ok keyedS Tryz.underlying58 (zeroI w) (plainElem_int Tryz.underlying3 (by decide)) (keyS s hs)
  obtain ⟨c, rfl, hc, _⟩ := plainElem_int_inv Tryz.underlying3 hR
  rw [hv.val s] at hc
  simp only [Prod.mk.injEq, DataW.lit.injEq, Lit.int.injEq, true_and] at hc
  rw [hrun, hv.has s, ← hc.1]
set_option maxRecDepth 5000 in
theorem MapAt.update {w : World} {b N : Nat} {mp : List UInt8 → Option Nat} (h : MapAt w b mp N) (s : List UInt8) (hs : s.length ≤ 1000000) (p : Nat) (hp : p < 16384) (hN : N ≤ 1000000) :
    ∃ w', (Instr.mapUpdate 58 (.map (some b)) (.string ⟨s.toArray⟩) (.int .i64 (p : Int))).run Tryz.prog w = .ok () w' ∧ MapAt w' b (M.wput mp s p) (N + 1) ∧ w.grownBy w' (some b) := by
  obtain ⟨D, h1, hv⟩ := h
  have hw : (Lit.int .i64 (p : Int)).wf = true := by
    have h1 : IntKind.i64.min = -9223372036854775808 := by decide
    have h2 : IntKind.i64.max = 9223372036854775807 := by decide
    simp only [Lit.wf, Bool.and_eq_true, decide_eq_true_eq, h1, h2]; omega
  obtain ⟨w', hrun, ho, hg⟩ := h1.update keyedS Tryz.underlying58 (by unfold maxLen; omega) (keyS s hs) (plainElem_int Tryz.underlying3 hw)
  exact ⟨w', hrun, ⟨_, ho, hv.put s p hp⟩, hg⟩
end Go.Proofs.YtpgebiopckmgbabGreat
