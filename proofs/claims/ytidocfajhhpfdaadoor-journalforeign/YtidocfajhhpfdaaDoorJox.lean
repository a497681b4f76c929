/- attempt, where something may fall; Open of any bytes. -/
import Derived.Test.YtidocfajhhpfdaaDoorJoq
namespace Go.Proofs.YtidocfajhhpfdaaDoor
open Go.RowKit
set_option maxRecDepth 5000 in
theorem run_assert (x : Int) (W : World) : (Instr.typeAssert (.iface 33 (.int .i64 x)) 20 33 true).run Tryd.prog W = .ok (.tuple #[.int .i64 x, .bool true]) W := by
  simp [Instr.typeAssert, run_underlying Tryd.underlying33, go_sem, Result.andThen]
set_option maxRecDepth 5000 in
theorem attempt1_fell (A : Nat) (ve : Value) (x : Int) (w : World) (hq : w.cell? ⟨A, 0, none⟩ = some ve) (fq : w.frozen? ⟨A, 0, none⟩ = false) (hq2 : (w.setCell ⟨A, 0, none⟩ (.int .i64 91)).cell? ⟨A, 0, none⟩ = some (.int .i64 91)) (fq2 : (w.setCell ⟨A, 0, none⟩ (.int .i64 91)).frozen? ⟨A, 0, none⟩ = false) :
    CallsD Tryd.prog 44 #[.pointer (some ⟨A, 0, none⟩)] (.panicking [{ v := .iface 33 (.int .i64 x), recovered := false }]) w fun e u' w' =>
      e = .returned (.tuple #[]) ∧ u' = .panicking [{ v := .iface 33 (.int .i64 x), recovered := true }] ∧ w' = (w.setCell ⟨A, 0, none⟩ (.int .i64 91)).setCell ⟨A, 0, none⟩ (.int .i64 x) := by
  refine callsD_of_wpS Tryd.func44 rfl fun c₀ cs hu => ?_
  apply wpS_seq
  apply wpS_region
  simp [wpOpsS, go_sem, recoverD, hu, Tryd.ntmps44, Exit.thenS]
  apply wpS_seq
  apply wpS_region
  simp [wpOpsS, go_sem, Exit.thenS]
  refine wpS_cond (t := true) (by simp [Act.eval]) ?_
  simp only [if_true]
  have hta := run_assert x
  apply wpS_seq
  apply wpS_region
  simp [wpOpsS, go_sem, Exit.thenS, hq, fq]
  apply wpS_seq
  apply wpS_region
  simp [wpOpsS, go_sem, Exit.thenS, hta]
  apply wpS_seq
  apply wpS_region
  simp [wpOpsS, go_sem, Exit.thenS]
  refine wpS_cond (t := true) (by simp [Act.eval]) ?_
  simp only [if_true]
  apply wpS_region
  simp [wpOpsS, go_sem, hq2, fq2, bodyPostS, results, Tryd.results44]
set_option maxHeartbeats 1000000 in
set_option maxRecDepth 5000 in
theorem attempt_any (w : World) (k : Nat) (caps : Array Value) (ek : ∀ args w, (callFunc k args).run Tryd.prog w = .ok (.enter k args) w) (R : World → Prop) (F : Int → World → Prop)
    (hf : Calls Tryd.prog k caps (w.alloc (.cells #[.int .i64 0] 33)) fun e w' => (e = .returned (.tuple #[]) ∧ R w') ∨ ∃ x, e = fell x ∧ F x w') (hR : ∀ w', R w' → RowAt w' w.heap.size 33 #[.int .i64 0]) (hF : ∀ x w', F x w' → RowAt w' w.heap.size 33 #[.int .i64 0]) :
    Calls Tryd.prog 29 #[.func (.func k) #[] caps] w fun e w' => (e = .returned (.int .i64 0) ∧ ∃ w1, R w1 ∧ w' = w1.setCell ⟨w.heap.size, 0, none⟩ (.int .i64 0)) ∨ ∃ x, e = .returned (.int .i64 x) ∧ ∃ w1, F x w1 ∧ w' = (w1.setCell ⟨w.heap.size, 0, none⟩ (.int .i64 91)).setCell ⟨w.heap.size, 0, none⟩ (.int .i64 x) := by
  have hmf : ∀ (fn : Fn) (first cap : Array Value) (w : World), (Instr.makeFunc fn first cap).run Tryd.prog w = .ok (.func fn first cap) w := fun _ _ _ _ => rfl
  go_enter_defers Tryd.func29, Tryd.ntmps29
  go_wp2_with fail
  refine hf.mono ?_
  rintro e w1 (⟨rfl, h1⟩ | ⟨x, rfl, h1⟩)
  rotate_left
  · have RW := hide (hF x w1 h1)
    have HF1 := hide h1
    clear h1 hf hR hF
    unfold fell
    go_wp2
    refine leaves_cons (f := 44) (args := #[.pointer (some ⟨w.heap.size, 0, none⟩)]) (by simp) (by simp [go_sem]) ?_
    refine (attempt1_fell w.heap.size _ x _ (RW.out.cell 0) (RW.out.frozen 0) ((RW.out.set 0 (.int .i64 91)).cell 0) ((RW.out.set 0 (.int .i64 91)).frozen 0)).mono ?_
    rintro e u' w'' ⟨rfl, rfl, hw⟩
    have q0 : w''.cell? ⟨w.heap.size, 0, none⟩ = some (.int .i64 x) := by rw [hw]; exact ((RW.out.set 0 (.int .i64 91)).set 0 (.int .i64 x)).cell 0
    have hw' := hide hw
    clear hw
    simp [Leaves, settle, results, Tryd.results29, go_sem, q0]
    exact Or.inr ⟨w1, HF1.out, hw'.out⟩
  have RW := hide (hR w1 h1)
  have HR1 := hide h1
  have x0 : w1.cell? ⟨w.heap.size, 0, none⟩ = some (.int .i64 0) := RW.out.cell 0
  have f0 := RW.out.frozen 0
  clear h1 hf hR hF
  go_wp2
  refine leaves_cons (f := 44) (args := #[.pointer (some ⟨w.heap.size, 0, none⟩)]) (by simp) (by simp [go_sem]) ?_
  refine (attempt1_idle w.heap.size _).mono ?_
  rintro e u' w'' ⟨rfl, rfl, hw⟩
  have q0 : w''.cell? ⟨w.heap.size, 0, none⟩ = some (.int .i64 0) := by rw [hw]; exact (RW.out.set 0 _).cell 0
  have hw' := hide hw
  clear hw
  simp [Leaves, settle, results, Tryd.results29, go_sem, q0]
  exact Or.inl ⟨w1, HR1.out, hw'.out⟩
set_option maxHeartbeats 4000000 in
set_option maxRecDepth 5000 in
theorem opn_any (w : World) (ht : Tab w) (D S M : Nat) (s s1 : K.St) (hd : DiskAt FF w D S M s) (hs8 : 8 ≤ s.n) (hpos : 0 < D ∧ 0 < S ∧ 0 < M)
    (hnew : ∀ W, Tab W → DiskAt FF W D S M s → Calls Tryd.prog 31 #[.agg #[.pointer (some ⟨D, 0, none⟩)]] W fun e w' => ((∃ h, HOw h ∧ h.u ≤ J.arb s1 ∧ e = .returned (.agg (hrow h))) ∨ e = fell 91) ∧ DiskAt FF w' D S M s1 ∧ Mv D S M W w')
    (hp : Pw s1) (hn : 8 ≤ s1.n) :
    Calls Tryd.prog 14 #[.pointer (some ⟨D, 0, none⟩)] w fun e w' => ((∃ a n c, e = .returned (.tuple #[.pointer (some ⟨w.heap.size, 0, none⟩), .slice a n c, .int .i64 0])) ∨ e = .returned (.tuple #[.pointer none, .slice none 0 0, .int .i64 91])) ∧ Mv D S M w w' := by
  obtain ⟨hD, hS, hM⟩ := hd.lts
  have hse := sectors_any w D S M s hd
  have he : ∀ W : World, (binOp .eql 29 (.pointer (some ⟨D, 0, none⟩)) (.pointer none)).run Tryd.prog W = .ok (.bool false) W := fun _ => rfl
  have h8 : ¬ (s.n : Int) < 8 := by omega
  have hmf : ∀ (fn : Fn) (first cap : Array Value) (w : World), (Instr.makeFunc fn first cap).run Tryd.prog w = .ok (.func fn first cap) w := fun _ _ _ _ => rfl
  go_enter Tryd.func14, Tryd.ntmps14
  go_wp2_with (go_at_call 28; refine hse.mono ?_; rintro e w' ⟨rfl, hw⟩; rw [hw]; clear hw w')
  have A1 : Hid (RowAt (((w.alloc (.cells #[.pointer (some ⟨D, 0, none⟩), .int .u64 0, .int .i64 0, .int .i64 0, .int .i64 0, .bool false] 69)).alloc (.cells #[.pointer (some ⟨w.heap.size, 0, none⟩)] 31)).alloc (.cells #[.slice none 0 0] 32)) w.heap.size 69 (jrow D ⟨0, 0, 0, 0⟩ false) ∧ RowAt (((w.alloc (.cells #[.pointer (some ⟨D, 0, none⟩), .int .u64 0, .int .i64 0, .int .i64 0, .int .i64 0, .bool false] 69)).alloc (.cells #[.pointer (some ⟨w.heap.size, 0, none⟩)] 31)).alloc (.cells #[.slice none 0 0] 32)) (w.heap.size + 1) 31 #[.pointer (some ⟨w.heap.size, 0, none⟩)] ∧ RowAt (((w.alloc (.cells #[.pointer (some ⟨D, 0, none⟩), .int .u64 0, .int .i64 0, .int .i64 0, .int .i64 0, .bool false] 69)).alloc (.cells #[.pointer (some ⟨w.heap.size, 0, none⟩)] 31)).alloc (.cells #[.slice none 0 0] 32)) (w.heap.size + 2) 32 #[.slice none 0 0] ∧ Below w.heap.size w (((w.alloc (.cells #[.pointer (some ⟨D, 0, none⟩), .int .u64 0, .int .i64 0, .int .i64 0, .int .i64 0, .bool false] 69)).alloc (.cells #[.pointer (some ⟨w.heap.size, 0, none⟩)] 31)).alloc (.cells #[.slice none 0 0] 32)) ∧ (((w.alloc (.cells #[.pointer (some ⟨D, 0, none⟩), .int .u64 0, .int .i64 0, .int .i64 0, .int .i64 0, .bool false] 69)).alloc (.cells #[.pointer (some ⟨w.heap.size, 0, none⟩)] 31)).alloc (.cells #[.slice none 0 0] 32)).heap.size = w.heap.size + 3) := by
    refine ⟨((RowAt.new w _ _).alloc _).alloc _, ?_, ?_, (((Below.refl _ w).alloc (Nat.le_refl _) _).alloc (by simp) _).alloc (by simp; omega) _, by simp⟩
    · have := (RowAt.new (w.alloc (.cells #[.pointer (some ⟨D, 0, none⟩), .int .u64 0, .int .i64 0, .int .i64 0, .int .i64 0, .bool false] 69)) 31 #[.pointer (some ⟨w.heap.size, 0, none⟩)]).alloc (.cells #[.slice none 0 0] 32)
      rwa [World.size_alloc] at this
    · have := RowAt.new ((w.alloc (.cells #[.pointer (some ⟨D, 0, none⟩), .int .u64 0, .int .i64 0, .int .i64 0, .int .i64 0, .bool false] 69)).alloc (.cells #[.pointer (some ⟨w.heap.size, 0, none⟩)] 31)) 32 #[.slice none 0 0]
      rwa [World.size_alloc, World.size_alloc] at this
  generalize (((w.alloc (.cells #[.pointer (some ⟨D, 0, none⟩), .int .u64 0, .int .i64 0, .int .i64 0, .int .i64 0, .bool false] 69)).alloc (.cells #[.pointer (some ⟨w.heap.size, 0, none⟩)] 31)).alloc (.cells #[.slice none 0 0] 32)) = w3 at A1 ⊢
  rw [show w.heap.size + 1 + 1 = w.heap.size + 2 from rfl]
  have hb4 : Below w.heap.size w (w3.alloc (.cells #[.int .i64 0] 33)) := A1.out.2.2.2.1.alloc A1.out.2.2.2.1.size _
  have ho1 := opn1_any w (w3.alloc (.cells #[.int .i64 0] 33)) (ht.below hb4 ht.1) D S M (w.heap.size + 1) w.heap.size (w.heap.size + 2) w3.heap.size s s1 (Mv.of_below hb4) hD hS hM (by omega) (Nat.le_refl _) (by omega) (by rw [A1.out.2.2.2.2]; omega) ⟨A1.out.2.1.alloc _, A1.out.1.alloc _, A1.out.2.2.1.alloc _, RowAt.new w3 _ _⟩ (hd.below hb4 (Nat.le_refl _)) ⟨ht.1, hpos⟩ hnew hp hn
  have hat := attempt_any w3 30 #[.pointer (some ⟨w.heap.size + 1, 0, none⟩), .pointer (some ⟨w.heap.size + 2, 0, none⟩)] (enters_of Tryd.func30 (by kernel_rfl) rfl) (fun w' => ∃ h v M' L, OpW D (w.heap.size + 1) w.heap.size (w.heap.size + 2) w3.heap.size h v w' ∧ DiskAt FF w' D S M' s1.synced ∧ Mv D S M w w' ∧ w.heap.size ≤ M' ∧ OwnBs w' w.heap.size v L) (fun x w' => x = 91 ∧ RowAt w' w3.heap.size 33 #[.int .i64 0] ∧ Mv D S M w w') (ho1.mono (fun e w' h => h.elim (fun h => Or.inl h) (fun h => Or.inr ⟨91, h.1, rfl, h.2.1, h.2.2⟩))) (fun w' ⟨h, v, M', L, hh, _⟩ => hh.ce) (fun x w' h => h.2.1)
  refine hat.mono ?_
  rintro e w5 (⟨rfl, w4, ⟨h, v, M', LL, O4, D4, M4, z4, B4⟩, hw5⟩ | ⟨x, rfl, w4, ⟨rfl, E4, M4⟩, hw5⟩)
  rotate_left
  · have b5 : Below w3.heap.size w4 w5 := by rw [hw5]; exact ((Below.refl w3.heap.size w4).setCell (p := ⟨w3.heap.size, 0, none⟩) (Nat.le_refl _) _).setCell (p := ⟨w3.heap.size, 0, none⟩) (Nat.le_refl _) _
    have MM := hide (M4.belowB b5 A1.out.2.2.2.1.size)
    clear hat ho1 hnew hw5 b5 E4 M4
    go_wp2
    go_ret3
    exact ⟨Or.inr rfl, MM.out⟩
  have hn1 := (O4.ce.ne O4.cj (by decide)).symm
  have hn3 := (O4.ce.ne O4.cl (by decide)).symm
  have b5 : Below w3.heap.size w4 w5 := by rw [hw5]; exact (Below.refl w3.heap.size w4).setCell (p := ⟨w3.heap.size, 0, none⟩) (Nat.le_refl _) _
  have x1 : w5.cell? ⟨w.heap.size + 1, 0, none⟩ = some (.pointer (some ⟨w.heap.size, 0, none⟩)) := by rw [hw5]; exact (O4.cj.other _ _ hn1).cell 0
  have x2 : w5.cell? ⟨w.heap.size + 2, 0, none⟩ = some v := by rw [hw5]; exact (O4.cl.other _ _ hn3).cell 0
  have MM := hide (M4.belowB b5 A1.out.2.2.2.1.size)
  obtain ⟨av, nv, hv⟩ := B4.slice
  rw [hv] at x2
  clear O4 D4 M4 B4 z4 b5 hw5 hn1 hn3 hat ho1 hnew hv
  go_wp2
  go_region_held3 (fun w' => w'.cell? ⟨w.heap.size + 1, 0, none⟩ = some (.pointer (some ⟨w.heap.size, 0, none⟩)) ∧ w'.cell? ⟨w.heap.size + 2, 0, none⟩ = some (.slice av LL.length nv)) (first | exact ⟨x1, x2⟩ | fail) (first | fail)
  all_goals go_wp2
  all_goals go_ret3
  all_goals exact ⟨Or.inl ⟨_, _, _, rfl⟩, MM.out.drew⟩
set_option maxRecDepth 5000 in
theorem open_odd (w : World) (ht : Tab w) (D S M : Nat) (s : K.St) (hd : DiskAt FF w D S M s) (hp : Pw s) (hn : 8 ≤ s.n) (hpos : 0 < D ∧ 0 < S ∧ 0 < M) :
    Calls Tryd.prog 14 #[.pointer (some ⟨D, 0, none⟩)] w fun e w' => ((∃ a n c, e = .returned (.tuple #[.pointer (some ⟨w.heap.size, 0, none⟩), .slice a n c, .int .i64 0])) ∨ e = .returned (.tuple #[.pointer none, .slice none 0 0, .int .i64 91])) ∧ Mv D S M w w' := by
  by_cases hz : ∀ i, i < s.n → s.rd i = List.replicate s.sz 0
  · refine opn_any w ht D S M s (s.put 0 (J.hb h0 s.sz)) hd hn hpos (fun W hT hW => ?_) (put_pw hp _ _) (by rw [put_n hp]; exact hn)
    refine (newest_new W hT D S M s hW hp hn hz).mono ?_
    rintro e w' ⟨rfl, h1, h2⟩
    exact ⟨Or.inl ⟨h0, ⟨by decide, by decide, by decide, by decide⟩, Nat.zero_le _, rfl⟩, h1, h2⟩
  · refine opn_any w ht D S M s s hd hn hpos (fun W hT hW => ?_) hp hn
    refine (newest_odd W hT D S M s hW hp hn hz).mono ?_
    rintro e w' ⟨h1, h2⟩
    exact ⟨h1, hW.below h2 (Nat.le_refl _), Mv.of_below h2⟩
end Go.Proofs.YtidocfajhhpfdaaDoor
