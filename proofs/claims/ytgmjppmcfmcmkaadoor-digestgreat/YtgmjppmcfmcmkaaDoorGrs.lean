/- One byte stored, in a region that draws. -/
import Derived.Test.YtgmjppmcfmcmkaaDoorGrp
import Derived.Deep.RegionHeld3
namespace Go.Proofs.YtgmjppmcfmcmkaaDoor
open Go.RowKit
set_option maxRecDepth 5000 in
theorem wp_store1 {o : Oper} {a : Act} {w : World} {K : Act → World → Prop} {Q : Exit → Act → World → Prop} (x y : Operand) (ho : o.op = .store 5 x y) (ad : Addr) (v : Int) (z : Value) (hx : a.eval x = .pointer (some ad)) (hy : a.eval y = .int .u8 v) (hc : w.cell? ad = some z) (hf : w.frozen? ad = false)
    (h : K (a.put o.dst undef) (w.setCell ad (.int .u8 v))) : Oper.wp Tryd.prog o a w K Q := by
  unfold Oper.wp execOp
  simp only [ho, hx, hy, Instr.storeAt, Instr.sureAddr, Sem.run_bind, Sem.run_pure, Result.andThen_ok]
  go_simp
  exact h
end Go.Proofs.YtgmjppmcfmcmkaaDoor
