/- wire.Id (a text of stage 6's seat a, at this seat). -/
import Derived.Test.YtpgebiopckmgbabGreatRdm
/- stage6/Hlp -/
/- wire.Id; signethelp.Records of none. -/
namespace Go.Proofs.YtpgebiopckmgbabGreat
open Go.RowKit
set_option maxRecDepth 5000 in
theorem id_any (b : List UInt8) (ao : Option Addr) (c : Nat) (w : World) (hs : SlL w ao b) :
    Calls Tryz.prog 14 #[.slice ao b.length c] w fun e w' => e = .returned (.tuple #[.int .u16 ((if b.length < 12 then 0 else M.num b 0 : Nat) : Int), .bool (decide (12 ≤ b.length))]) ∧ Below w.heap.size w w' := by
  by_cases h12 : b.length < 12
  · have q1 : (b.length : Int) < 12 := by omega
    rw [if_pos h12, decide_eq_false (by omega)]
    clear hs
    go_enter Tryz.func14, Tryz.ntmps14
    go_wp2
    go_ret2
    exact ⟨rfl, Below.refl _ _⟩
  · have q1 : ¬ (b.length : Int) < 12 := by omega
    rw [if_neg h12, decide_eq_true (by omega)]
    obtain ⟨g, o, rfl, hg, hc⟩ := hs (by omega)
    have c0 : w.cell? ⟨g, o, none⟩ = some (.int .u8 (M.by_ b 0 : Int)) := hc 0 (by omega)
    have c1 : w.cell? ⟨g, o + 1, none⟩ = some (.int .u8 (M.by_ b 1 : Int)) := hc 1 (by omega)
    have hy : M.by_ b 0 < 256 := (b.getD 0 0).toNat_lt
    have hz : M.by_ b 1 < 256 := (b.getD 1 0).toNat_lt
    have hnum : M.num b 0 = M.by_ b 0 * 256 + M.by_ b 1 := rfl
    have HN := hide hnum
    have i0 : (0 : Int) < (b.length : Int) := by omega
    have i1 : (1 : Int) < (b.length : Int) := by omega
    clear hc hs hnum
    generalize M.by_ b 0 = y at c0 hy HN
    generalize M.by_ b 1 = z at c1 hz HN
    have ho2 := or_16 y z hy hz
    go_enter Tryz.func14, Tryz.ntmps14
    go_wp2
    go_quiet (fail)
    go_wp2
    go_ret2
    refine ⟨?_, drew_below _ ⟨_, rfl⟩⟩
    rw [HN.out, Int.natCast_add, Int.natCast_mul]; rfl
end Go.Proofs.YtpgebiopckmgbabGreat

