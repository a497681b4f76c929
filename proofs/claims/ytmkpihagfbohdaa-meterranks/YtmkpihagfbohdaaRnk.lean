/- meter.Rank, walked: place, withoutNaN, the sort by Order. -/
import Derived.Test.YtmkpihagfbohdaaPlc
import Derived.Test.YtmkpihagfbohdaaMea
import Derived.Test.YtmkpihagfbohdaaSh
import Derived.Lib.OwnBridge
namespace Go.Proofs.Ytmkpihagfbohdaa
open Go.RowKit Go.Lib Go.Sort
set_option maxRecDepth 5000 in
theorem run_floor (b : Nat) (hb : (FloatKind.f64.format.read b).isNaN = false) (c : Nat) (hc : FloatKind.f64.encode ((FloatKind.f64.format.read b).integral .down) = c) (w : World) : (callFunc 60 #[.float .f64 b]).run Try.prog w = .ok (.value (.float .f64 c)) w := by
  rw [run_callFunc_extern (e := Extern.MathFloor.toIntegral "math.archFloor" .down) Try.func60 (by kernel_rfl) (by kernel_rfl) (by kernel_rfl) rfl]
  have h : (Extern.MathFloor.toIntegral "math.archFloor" .down #[.float .f64 b]) = pure (.float .f64 c) := by
    rw [← hc]
    unfold Extern.MathFloor.toIntegral
    show (match FloatKind.f64.format.read b with | .nan s t => _ | d => _) = _
    cases hd : FloatKind.f64.format.read b with
    | number s m p => rfl
    | infinity s => rfl
    | nan s t => rw [hd] at hb; cases hb
  rw [h]
  rfl
set_option maxRecDepth 5000 in
theorem floor_any (b : Nat) (hb : (FloatKind.f64.format.read b).isNaN = false) (c : Nat) (hc : FloatKind.f64.encode ((FloatKind.f64.format.read b).integral .down) = c) (w : World) : Calls Try.prog 46 #[.float .f64 b] w fun e w' => e = .returned (.float .f64 c) ∧ w' = w := by
  have hf := run_floor b hb c hc
  clear hc
  go_enter Try.func46, Try.ntmps46
  go_wp2
  go_ret
  exact ⟨rfl, rfl⟩
set_option maxRecDepth 5000 in
theorem place_any (q n : Nat) (hq : q < 2 ^ 64) (hn0 : 0 < n) (hn : n < 1024) (w : World) : Calls Try.prog 39 #[.float .f64 q, .int .i64 (n : Int)] w fun e w' => e = .returned (.int .i64 (F.plc q n : Nat)) ∧ w' = w := by
  unfold F.plc
  cases h1 : F.ge1 q
  · cases h0 : F.ge0 q
    · unfold F.ge1 at h1
      unfold F.ge0 at h0
      go_enter Try.func39, Try.ntmps39
      go_wp2
      go_ret
      exact ⟨rfl, rfl⟩
    · obtain ⟨b, c, hb, ht1, hnb, hc, ht2, hle⟩ := F.place_ok hq h0 h1 hn
      unfold F.ge1 at h1
      unfold F.ge0 at h0
      have r1 : ∀ (t : TypeId) (W : World), (binOp .mul t (.float .f64 q) (.float .f64 (floatOfInt .f64 (n : Int)))).run Try.prog W = .ok (.float .f64 b) W := fun t W => run_float_arith W .mul t .f64 q _ b hb
      have r2 : ∀ (W : World), (convert 25 3 (.float .f64 c)).run Try.prog W = .ok (.int .i64 (F.tr q n : Nat)) W := fun W => run_convert_float_int W _ _ .f64 .i64 c _ (by rw [Try.underlying25]; rfl) Try.underlying3 ht2
      generalize F.tr q n = T at r2 hle ⊢
      have hcon := floor_any b hnb c hc
      clear ht1 ht2 hc hb hnb
      by_cases hT : T < n - 1
      · have e1 : ((n : Int) - 1 < (T : Int)) = False := by simp; omega
        go_enter Try.func39, Try.ntmps39
        go_wp2_with (go_at_call 46; refine (hcon _).mono ?_; rintro e w' ⟨rfl, rfl⟩)
        go_ret
        refine ⟨?_, rfl⟩
        simp
        omega
      · go_enter Try.func39, Try.ntmps39
        go_wp2_with (go_at_call 46; refine (hcon _).mono ?_; rintro e w' ⟨rfl, rfl⟩)
        go_ret
        refine ⟨?_, rfl⟩
        simp
        omega
  · unfold F.ge1 at h1
    go_enter Try.func39, Try.ntmps39
    go_wp2
    go_ret
    refine ⟨?_, rfl⟩
    simp
    omega
end Go.Proofs.Ytmkpihagfbohdaa
