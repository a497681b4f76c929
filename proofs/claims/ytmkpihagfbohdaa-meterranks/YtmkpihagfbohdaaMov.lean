/- A load's value moves: moved, Add, and the reference's. -/
import Derived.Test.YtmkpihagfbohdaaLod
namespace Go.Proofs.Ytmkpihagfbohdaa
open Go.RowKit
set_option maxRecDepth 5000 in
theorem store_float (b : Nat) (a : Addr) (m : Mode) (w : World) : (store a (.float .f64 b) m).run Try.prog w = stored Try.prog w a (.float .f64 b) m := run_store Try.prog w a _ m rfl
set_option maxRecDepth 5000 in
theorem moved_any (g p v x : Nat) (n : Int) (w : World) (hR : RowAt w g 61 (lrow p v n)) (hp : F.fin p = true) (h0 : 0 < F.rung p) (hv : v < 2 ^ 64) (hx : F.nan x = false) :
    Calls Try.prog 40 #[.pointer (some ⟨g, 0, none⟩), .float .f64 x] w fun e w' => e = .returned (.float .f64 (F.step p v x)) ∧ ∃ q, w' = w.drewN q := by
  have hn := hnot
  have c0 : w.cell? ⟨g, 0, none⟩ = some (.float .f64 p) := hR.cell 0
  have c1 : w.cell? ⟨g, 1, none⟩ = some (.float .f64 v) := hR.cell 1
  cases hfv : F.fin v
  · have he : F.step p v x = x := by unfold F.step; rw [hfv]; rfl
    rw [he]
    go_enter Try.func40, Try.ntmps40
    go_wp2_with (go_at_call 47; refine (finite_any _ hv _).mono ?_; rintro e w' ⟨rfl, rfl⟩; rw [hfv])
    go_ret
    exact ⟨rfl, 0, rfl⟩
  · obtain ⟨d, s, r, hd, hs, hr, hrl, he⟩ := F.step_ok hp h0 hfv hx
    have r1 : ∀ (t : TypeId) (W : World), (binOp .sub t (.float .f64 x) (.float .f64 v)).run Try.prog W = .ok (.float .f64 d) W := fun t W => run_float_arith W .sub t .f64 x v d hd
    have r2 : ∀ (t : TypeId) (W : World), (binOp .mul t (.float .f64 p) (.float .f64 d)).run Try.prog W = .ok (.float .f64 s) W := fun t W => run_float_arith W .mul t .f64 p d s hs
    have r3 : ∀ (t : TypeId) (W : World), (binOp .add t (.float .f64 v) (.float .f64 s)).run Try.prog W = .ok (.float .f64 r) W := fun t W => run_float_arith W .add t .f64 v s r hr
    clear hd hs hr hR
    cases hfr : F.fin r
    · have he' : F.step p v x = x := by rw [he, hfr]; rfl
      rw [he']
      clear he he'
      go_enter Try.func40, Try.ntmps40
      go_wp2_with (go_at_call 47; refine (finite_any _ hv _).mono ?_; rintro e w' ⟨rfl, rfl⟩; rw [hfv])
      go_quiet (fail)
      go_wp2_with (go_at_call 47; refine (finite_any _ hrl _).mono ?_; rintro e w' ⟨rfl, rfl⟩; rw [hfr])
      go_ret
      exact ⟨rfl, _, rfl⟩
    · have he' : F.step p v x = r := by rw [he, hfr]; rfl
      rw [he']
      clear he he'
      go_enter Try.func40, Try.ntmps40
      go_wp2_with (go_at_call 47; refine (finite_any _ hv _).mono ?_; rintro e w' ⟨rfl, rfl⟩; rw [hfv])
      go_quiet (fail)
      go_wp2_with (go_at_call 47; refine (finite_any _ hrl _).mono ?_; rintro e w' ⟨rfl, rfl⟩; rw [hfr])
      go_ret
      exact ⟨rfl, _, rfl⟩
/- the block g alone is another -/
def Upd (g : Nat) (W F : World) : Prop := F.os = W.os ∧ F.tape = W.tape ∧ F.output = W.output ∧ F.heap.size = W.heap.size ∧ ∀ k, k ≠ g → F.heap[k]? = W.heap[k]?
set_option maxRecDepth 5000 in
theorem Upd.refl (g : Nat) (W : World) : Upd g W W := ⟨rfl, rfl, rfl, rfl, fun _ _ => rfl⟩
set_option maxRecDepth 5000 in
theorem Upd.set {g : Nat} {W F : World} (h : Upd g W F) (j : Nat) (v : Value) : Upd g W (F.setCell ⟨g, j, none⟩ v) :=
  ⟨h.1, h.2.1, h.2.2.1, by simp [World.setCell]; exact h.2.2.2.1, fun k hk => by rw [heap_setCell_other _ _ _ _ hk]; exact h.2.2.2.2 k hk⟩
set_option maxRecDepth 5000 in
theorem Upd.drewN {g : Nat} {W F : World} (h : Upd g W F) (q : Nat) : Upd g W (F.drewN q) := h
set_option maxRecDepth 5000 in
theorem Upd.below {B g : Nat} {w0 W F : World} (u : Upd g W F) (h : Below B w0 W) (hg : B ≤ g) : Below B w0 F := h.trans ⟨u.1, u.2.1, u.2.2.1, by rw [u.2.2.2.1]; exact Nat.le_refl _, fun k hk => u.2.2.2.2 k (by omega)⟩
set_option maxRecDepth 5000 in
theorem Upd.row {g k t : Nat} {W F : World} {c : Array Value} (u : Upd g W F) (h : RowAt W k t c) (hk : k ≠ g) : RowAt F k t c := by
  unfold RowAt; rw [u.2.2.2.2 k hk]; exact h
set_option maxRecDepth 5000 in
theorem add_nan (g x : Nat) (w : World) (hx : F.nan x = true) :
    Calls Try.prog 25 #[.pointer (some ⟨g, 0, none⟩), .float .f64 x] w fun e w' => e = .returned (.tuple #[]) ∧ w' = w := by
  go_enter Try.func25, Try.ntmps25
  go_wp2_with (go_at_call 32; refine (isNaN_any _ _).mono ?_; rintro e w' ⟨rfl, rfl⟩; rw [hx])
  refine bodyPost_ret (results_none rfl _ _ _) rfl ?_
  exact ⟨rfl, rfl⟩
set_option maxRecDepth 5000 in
theorem add_any (g p v x : Nat) (n : Int) (w : World) (hR : RowAt w g 61 (lrow p v n)) (hp : F.fin p = true) (h0 : 0 < F.rung p) (hv : v < 2 ^ 64) (hx : F.nan x = false) (hn0 : 0 ≤ n) (hn : n < 4611686018427387904) :
    Calls Try.prog 25 #[.pointer (some ⟨g, 0, none⟩), .float .f64 x] w fun e w' => e = .returned (.tuple #[]) ∧ RowAt w' g 61 (lrow p (F.step p v x) (n + 1)) ∧ Upd g w w' := by
  have hcon := moved_any g p v x n w hR hp h0 hv hx
  generalize F.step p v x = V at hcon ⊢
  have hst := store_float V
  have hfz : ∀ q j, (w.drewN q).frozen? ⟨g, j, none⟩ = false := fun q j => (hR.drewN q).frozen j
  have c1 : ∀ q, (w.drewN q).cell? ⟨g, 1, none⟩ = some (.float .f64 v) := fun q => (hR.drewN q).cell 1
  have c2 : ∀ q, ((w.drewN q).setCell ⟨g, 1, none⟩ (.float .f64 V)).cell? ⟨g, 2, none⟩ = some (.int .i64 n) := fun q => ((hR.drewN q).set 1 _).cell 2
  have f2 : ∀ q, ((w.drewN q).setCell ⟨g, 1, none⟩ (.float .f64 V)).frozen? ⟨g, 2, none⟩ = false := fun q => ((hR.drewN q).set 1 _).frozen 2
  have fin : ∀ q, RowAt (((w.drewN q).setCell ⟨g, 1, none⟩ (.float .f64 V)).setCell ⟨g, 2, none⟩ (.int .i64 (n + 1))) g 61 (lrow p V (n + 1)) := fun q => ((hR.drewN q).set 1 _).set 2 _
  have upd : ∀ q, Upd g w (((w.drewN q).setCell ⟨g, 1, none⟩ (.float .f64 V)).setCell ⟨g, 2, none⟩ (.int .i64 (n + 1))) := fun q => ((((Upd.refl g w).drewN q).set 1 _).set 2 _)
  clear hR
  go_enter Try.func25, Try.ntmps25
  go_wp2_with (first | (go_at_call 32; refine (isNaN_any _ _).mono ?_; rintro e w' ⟨rfl, hw⟩; rw [hw, hx]; clear hw w') | (go_at_call 40; refine hcon.mono ?_; rintro e w' ⟨rfl, q, hw⟩; rw [hw]; clear hw w'; have hf1 := hfz q 1; have k1 := c1 q; have k2 := c2 q; have k3 := f2 q; have fin1 := hide (fin q); have upd1 := hide (upd q); clear hfz c1 c2 f2 fin upd; generalize w.drewN q = W at *))
  go_end0
  exact ⟨rfl, unhide fin1, unhide upd1⟩
set_option maxRecDepth 5000 in
theorem radd_nan (g x : Nat) (w : World) (hx : F.nan x = true) :
    Calls Try.prog 26 #[.pointer (some ⟨g, 0, none⟩), .float .f64 x] w fun e w' => e = .returned (.tuple #[]) ∧ w' = w := by
  go_enter Try.func26, Try.ntmps26
  go_wp2_with (go_at_call 34; refine (rnan_any _ _).mono ?_; rintro e w' ⟨rfl, rfl⟩; rw [hx])
  refine bodyPost_ret (results_none rfl _ _ _) rfl ?_
  exact ⟨rfl, rfl⟩
set_option maxRecDepth 5000 in
theorem radd_any (g p v x : Nat) (n : Int) (w : World) (hR : RowAt w g 42 (lrow p v n)) (hp : F.fin p = true) (h0 : 0 < F.rung p) (hv : v < 2 ^ 64) (hx : F.nan x = false) (hn0 : 0 ≤ n) (hn : n < 4611686018427387904) (hz : n = 0 → F.fin v = false) :
    Calls Try.prog 26 #[.pointer (some ⟨g, 0, none⟩), .float .f64 x] w fun e w' => e = .returned (.tuple #[]) ∧ RowAt w' g 42 (lrow p (F.step p v x) (n + 1)) ∧ Upd g w w' := by
  have hnt := hnot
  have c2 : w.cell? ⟨g, 2, none⟩ = some (.int .i64 n) := hR.cell 2
  have f2 : w.frozen? ⟨g, 2, none⟩ = false := hR.frozen 2
  have hR1 : RowAt (w.setCell ⟨g, 2, none⟩ (.int .i64 (n + 1))) g 42 (lrow p v (n + 1)) := hR.set 2 _
  have hU1 : Upd g w (w.setCell ⟨g, 2, none⟩ (.int .i64 (n + 1))) := (Upd.refl g w).set 2 _
  have d0 : (w.setCell ⟨g, 2, none⟩ (.int .i64 (n + 1))).cell? ⟨g, 0, none⟩ = some (.float .f64 p) := hR1.cell 0
  have d1 : (w.setCell ⟨g, 2, none⟩ (.int .i64 (n + 1))).cell? ⟨g, 1, none⟩ = some (.float .f64 v) := hR1.cell 1
  have d2 : (w.setCell ⟨g, 2, none⟩ (.int .i64 (n + 1))).cell? ⟨g, 2, none⟩ = some (.int .i64 (n + 1)) := hR1.cell 2
  have f1 : (w.setCell ⟨g, 2, none⟩ (.int .i64 (n + 1))).frozen? ⟨g, 1, none⟩ = false := hR1.frozen 1
  have e1 : ∀ q, ((w.setCell ⟨g, 2, none⟩ (.int .i64 (n + 1))).drewN q).cell? ⟨g, 1, none⟩ = some (.float .f64 v) := fun q => hR1.cell 1
  have g1 : ∀ q, ((w.setCell ⟨g, 2, none⟩ (.int .i64 (n + 1))).drewN q).frozen? ⟨g, 1, none⟩ = false := fun q => hR1.frozen 1
  have fin : ∀ q V, RowAt (((w.setCell ⟨g, 2, none⟩ (.int .i64 (n + 1))).drewN q).setCell ⟨g, 1, none⟩ (.float .f64 V)) g 42 (lrow p V (n + 1)) := fun q V => (hR1.drewN q).set 1 _
  have upd : ∀ q V, Upd g w (((w.setCell ⟨g, 2, none⟩ (.int .i64 (n + 1))).drewN q).setCell ⟨g, 1, none⟩ (.float .f64 V)) := fun q V => ((hU1.drewN q).set 1 _)
  replace fin := hide fin
  replace upd := hide upd
  clear hR hR1 hU1
  cases hfv : F.fin v
  · have he : F.step p v x = x := by unfold F.step; rw [hfv]; rfl
    rw [he]
    have hst := store_float x
    by_cases hn1 : n = 0
    · have hb : ((n + 1) == 1) = true := by rw [hn1]; rfl
      clear hn1 hz
      go_enter Try.func26, Try.ntmps26
      go_wp2_with (first | (go_at_call 34; refine (rnan_any _ _).mono ?_; rintro e w' ⟨rfl, hw⟩; rw [hw, hx]; clear hw w') | (go_at_call 41; refine (rfinite_any _ hv _).mono ?_; rintro e w' ⟨rfl, hw⟩; rw [hw, hfv]; clear hw w'))
      refine bodyPost_ret (results_none rfl _ _ _) rfl ?_
      exact ⟨rfl, unhide fin 0 x, unhide upd 0 x⟩
    · have hb : ((n + 1) == 1) = false := by simp; omega
      go_enter Try.func26, Try.ntmps26
      go_wp2_with (first | (go_at_call 34; refine (rnan_any _ _).mono ?_; rintro e w' ⟨rfl, hw⟩; rw [hw, hx]; clear hw w') | (go_at_call 41; refine (rfinite_any _ hv _).mono ?_; rintro e w' ⟨rfl, hw⟩; rw [hw, hfv]; clear hw w'))
      refine bodyPost_ret (results_none rfl _ _ _) rfl ?_
      exact ⟨rfl, unhide fin 0 x, unhide upd 0 x⟩
  · obtain ⟨d, s, r, hd, hs, hr, hrl, he⟩ := F.step_ok hp h0 hfv hx
    have r1 : ∀ (t : TypeId) (W : World), (binOp .sub t (.float .f64 x) (.float .f64 v)).run Try.prog W = .ok (.float .f64 d) W := fun t W => run_float_arith W .sub t .f64 x v d hd
    have r2 : ∀ (t : TypeId) (W : World), (binOp .mul t (.float .f64 p) (.float .f64 d)).run Try.prog W = .ok (.float .f64 s) W := fun t W => run_float_arith W .mul t .f64 p d s hs
    have r3 : ∀ (t : TypeId) (W : World), (binOp .add t (.float .f64 v) (.float .f64 s)).run Try.prog W = .ok (.float .f64 r) W := fun t W => run_float_arith W .add t .f64 v s r hr
    clear hd hs hr
    have hn1 : n ≠ 0 := fun h => by rw [hz h] at hfv; cases hfv
    have hb : ((n + 1) == 1) = false := by simp; omega
    cases hfr : F.fin r
    · have he' : F.step p v x = x := by rw [he, hfr]; rfl
      rw [he']
      clear he he'
      have hst := store_float x
      go_enter Try.func26, Try.ntmps26
      go_wp2_with (first | (go_at_call 34; refine (rnan_any _ _).mono ?_; rintro e w' ⟨rfl, hw⟩; rw [hw, hx]; clear hw w') | (go_at_call 41; refine (rfinite_any _ hv _).mono ?_; rintro e w' ⟨rfl, hw⟩; rw [hw, hfv]; clear hw w'))
      go_quiet (fail)
      have x1 := e1 nq
      have x2 := g1 nq
      go_wp2_with (go_at_call 41; refine (rfinite_any _ hrl _).mono ?_; rintro e w' ⟨rfl, hw⟩; rw [hw, hfr]; clear hw w')
      go_end0
      exact ⟨rfl, unhide fin _ x, unhide upd _ x⟩
    · have he' : F.step p v x = r := by rw [he, hfr]; rfl
      rw [he']
      clear he he'
      have hst := store_float r
      go_enter Try.func26, Try.ntmps26
      go_wp2_with (first | (go_at_call 34; refine (rnan_any _ _).mono ?_; rintro e w' ⟨rfl, hw⟩; rw [hw, hx]; clear hw w') | (go_at_call 41; refine (rfinite_any _ hv _).mono ?_; rintro e w' ⟨rfl, hw⟩; rw [hw, hfv]; clear hw w'))
      go_quiet (fail)
      have x1 := e1 nq
      have x2 := g1 nq
      go_wp2_with (go_at_call 41; refine (rfinite_any _ hrl _).mono ?_; rintro e w' ⟨rfl, hw⟩; rw [hw, hfr]; clear hw w')
      go_end0
      exact ⟨rfl, unhide fin _ r, unhide upd _ r⟩
end Go.Proofs.Ytmkpihagfbohdaa
