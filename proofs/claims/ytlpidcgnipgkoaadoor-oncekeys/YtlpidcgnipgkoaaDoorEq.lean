/- Two rows of bytes are held against one another, byte by byte. -/
import Derived.Test.YtlpidcgnipgkoaaDoorShort
import Derived.ChangeKeysEq
namespace Go.Proofs.YtlpidcgnipgkoaaDoor
open Go.RowKit
set_option maxRecDepth 5000 in
theorem run_part5 (n : Nat) (f : Nat → BitVec 8) (j : Nat) (hj : j < n) (w : World) : (part 5 (rowB n f) j).run Tryd.prog w = .ok (.int .u8 (f j).toNat) w := by
  have h := rowB_get n f j hj
  have ha : (isAgg 5).run Tryd.prog w = .ok false w := by simp [isAgg, run_underlying Tryd.underlying5]
  simp [part, ha, h]
set_option maxRecDepth 5000 in
theorem cells5 : Tryd.prog.cellsOf 5 = 1 := by kernel_rfl
set_option maxRecDepth 5000 in
theorem eqItems_B (n : Nat) (f g : Nat → BitVec 8) (d : Nat) : ∀ (is : List Nat) (w : World), (∀ j ∈ is, j < n) → (Op.eqItems (d + 1) 5 1 (rowB n f) (rowB n g) is).run Tryd.prog w = .ok (decide (∀ j ∈ is, f j = g j)) w
  | [], w, _ => by simp [Op.eqItems]
  | j :: is, w, h => by
    have hj := h j (by simp)
    have ih := eqItems_B n f g d is w (fun k hk => h k (by simp [hk]))
    simp only [Op.eqItems, Sem.run_bind, Nat.mul_one, run_part5 n f j hj, run_part5 n g j hj, Result.andThen_ok, run_equalIn_int w d 5 .u8 .u8 _ _ Tryd.underlying5]
    by_cases e : f j = g j
    · simp [e, ih]
    · have e' : ((f j).toNat : Int) ≠ ((g j).toNat : Int) := fun h => e (BitVec.eq_of_toNat_eq (by omega))
      have : (((f j).toNat : Int) == ((g j).toNat : Int)) = false := by simpa using e'
      simp [this, e]
set_option maxRecDepth 5000 in
theorem run_eqB {t : TypeId} {n : Nat} (hu : Tryd.prog.underlying t = some (.array n 5)) (f g : Nat → BitVec 8) (w : World) : (Op.equalIn 10000 t (.agg (rowB n f)) (.agg (rowB n g))).run Tryd.prog w = .ok (decide (∀ j ∈ List.range n, f j = g j)) w := by
  obtain ⟨i0, hi, _⟩ := info_parts info5
  rw [run_equalIn_array w 9999 _ _ hu hi, cells5]
  exact eqItems_B n f g 9998 _ w (fun j hj => by simpa using hj)
set_option maxRecDepth 5000 in
theorem run_eqB_same {t : TypeId} {n : Nat} (hu : Tryd.prog.underlying t = some (.array n 5)) (f : Nat → BitVec 8) (w : World) : (Op.equalIn 10000 t (.agg (rowB n f)) (.agg (rowB n f))).run Tryd.prog w = .ok true w := by
  rw [run_eqB hu]; simp
end Go.Proofs.YtlpidcgnipgkoaaDoor
