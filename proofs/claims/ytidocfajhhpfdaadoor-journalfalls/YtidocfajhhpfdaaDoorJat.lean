/- attempt, where nothing falls. -/
import Derived.Test.YtidocfajhhpfdaaDoorJpt
import Derived.Recover
namespace Go.Proofs.YtidocfajhhpfdaaDoor
open Go.RowKit
set_option maxRecDepth 5000 in
theorem attempt1_idle (A : Nat) (w : World) :
    CallsD Tryd.prog 44 #[.pointer (some ⟨A, 0, none⟩)] .returning w fun e u' w' => e = .returned (.tuple #[]) ∧ u' = .returning ∧ w' = w := by
  refine callsD_of_wpS Tryd.func44 rfl fun c₀ cs hu => ?_
  apply wpS_seq
  apply wpS_region
  simp [wpOpsS, go_sem, recoverD, hu, Tryd.ntmps44, Exit.thenS]
  apply wpS_seq
  apply wpS_region
  simp [wpOpsS, go_sem, Exit.thenS]
  refine wpS_cond (t := false) (by simp [Act.eval]) ?_
  simp only [Bool.false_eq_true, if_false]
  refine wpS_of_wp (wp_skip ?_)
  cases c₀
  simp_all [bodyPostS, results, Tryd.results44]
set_option maxHeartbeats 1000000 in
set_option maxRecDepth 5000 in
theorem attempt_ok (w : World) (k : Nat) (caps : Array Value) (ek : ∀ args w, (callFunc k args).run Tryd.prog w = .ok (.enter k args) w) (R : World → Prop)
    (hf : Calls Tryd.prog k caps (w.alloc (.cells #[.int .i64 0] 33)) fun e w' => e = .returned (.tuple #[]) ∧ R w') (hR : ∀ w', R w' → RowAt w' w.heap.size 33 #[.int .i64 0]) :
    Calls Tryd.prog 29 #[.func (.func k) #[] caps] w fun e w' => e = .returned (.int .i64 0) ∧ ∃ w1, R w1 ∧ w' = w1.setCell ⟨w.heap.size, 0, none⟩ (.int .i64 0) := by
  have hmf : ∀ (fn : Fn) (first cap : Array Value) (w : World), (Instr.makeFunc fn first cap).run Tryd.prog w = .ok (.func fn first cap) w := fun _ _ _ _ => rfl
  go_enter_defers Tryd.func29, Tryd.ntmps29
  go_wp2_with fail
  refine hf.mono ?_
  rintro e w1 ⟨rfl, h1⟩
  have RW := hide (hR w1 h1)
  have HR1 := hide h1
  have x0 : w1.cell? ⟨w.heap.size, 0, none⟩ = some (.int .i64 0) := RW.out.cell 0
  have f0 := RW.out.frozen 0
  clear h1 hf hR
  go_wp2
  refine leaves_cons (f := 44) (args := #[.pointer (some ⟨w.heap.size, 0, none⟩)]) (by simp) (by simp [go_sem]) ?_
  refine (attempt1_idle w.heap.size _).mono ?_
  rintro e u' w'' ⟨rfl, rfl, hw⟩
  have q0 : w''.cell? ⟨w.heap.size, 0, none⟩ = some (.int .i64 0) := by rw [hw]; exact (RW.out.set 0 _).cell 0
  have hw' := hide hw
  clear hw
  simp [Leaves, settle, results, Tryd.results29, go_sem, q0]
  exact ⟨w1, HR1.out, hw'.out⟩
end Go.Proofs.YtidocfajhhpfdaaDoor
