/- Where two rows of bytes are the same, the comparison answers true. -/
import Derived.Test.YtpiehjfoojipiaaDoorLck
namespace Go.Proofs.YtpiehjfoojipiaaDoor
open Go.RowKit
set_option maxRecDepth 5000 in
theorem wpList_eql_B {w : World} {ops : Array Oper} {rest : List Oper} {o : Oper} {a : Act} {Q : Exit → Act → World → Prop} (hgd : o.guard = none) (t yt : TypeId) (x y : Operand) (ho : o.op = .binOp .eql t x y yt)
    (n : Nat) (f : Nat → BitVec 8) (hu : Tryd.prog.underlying t = some (.array n 5)) (hm : Tryd.prog.eqGuardType Tryd.prog.depth t = false) (hx : a.eval x = .agg (rowB n f)) (hy : a.eval y = .agg (rowB n f))
    (h : wpList Tryd.prog ops Q rest (a.put o.dst (.bool true)) w) : wpList Tryd.prog ops Q (o :: rest) a w :=
  wpList_plain hgd fun _ hK => by
    unfold Oper.wp execOp
    simp only [ho, hx, hy, Sem.run_bind, run_eqGuard_agg _ _ _ _ _ _ _ hm, run_eql_struct, run_eqB_same hu, Result.andThen_ok, Sem.run_pure]
    exact hK _ _ h
set_option maxRecDepth 5000 in
theorem wpList_eql_Bg {w : World} {ops : Array Oper} {rest : List Oper} {o : Oper} {a : Act} {Q : Exit → Act → World → Prop} (hgd : Region.wanted o (yielded ops a.tmps) = true) (t yt : TypeId) (x y : Operand) (ho : o.op = .binOp .eql t x y yt)
    (n : Nat) (f : Nat → BitVec 8) (hu : Tryd.prog.underlying t = some (.array n 5)) (hm : Tryd.prog.eqGuardType Tryd.prog.depth t = false) (hx : a.eval x = .agg (rowB n f)) (hy : a.eval y = .agg (rowB n f))
    (h : wpList Tryd.prog ops Q rest (a.put o.dst (.bool true)) w) : wpList Tryd.prog ops Q (o :: rest) a w :=
  wpList_step fun _ hK => by
    rw [if_pos hgd]
    unfold Oper.wp execOp
    simp only [ho, hx, hy, Sem.run_bind, run_eqGuard_agg _ _ _ _ _ _ _ hm, run_eql_struct, run_eqB_same hu, Result.andThen_ok, Sem.run_pure]
    exact hK _ _ h
set_option maxRecDepth 5000 in
theorem guard24 : Tryd.prog.eqGuardType Tryd.prog.depth 74 = false := by kernel_rfl
set_option maxRecDepth 5000 in
theorem guard28 : Tryd.prog.eqGuardType Tryd.prog.depth 22 = false := by kernel_rfl
end Go.Proofs.YtpiehjfoojipiaaDoor
