/- The law MeterLoads. -/
import Derived.Test.YtmkpihagfbohdaaKnw
namespace Go.Proofs.Ytmkpihagfbohdaa
open Go.RowKit
set_option maxRecDepth 5000 in
theorem fin_told : F.fin 9221120237041090561 = false := by kernel_rfl
set_option maxHeartbeats 2000000 in
set_option maxRecDepth 5000 in
theorem loads_walk (p : Nat) (l : List Nat) (ao : Option Addr) (n cap : Nat) (hp : p < 2 ^ 64) (hsm : Small l) (w : World) (hl : Hid (l.length = n)) (hs : SlU w ao l) :
    Calls Try.prog 5 #[.int .u64 (p : Int), .slice ao n cap] w fun e w' => e = .returned (.bool true) ∧ Below w.heap.size w w' := by
  have hn := hnot
  have hK := known_any w
  obtain ⟨P1, P2, P3⟩ := F.part_good hp
  have HS := hide hs
  clear hs
  by_cases hn1 : 100 < n
  · have hn2 : (100 : Int) < (n : Int) := by omega
    go_enter Try.func5, Try.ntmps5
    go_wp2_with (go_at_call 9; refine hK.mono ?_; rintro e w1 ⟨rfl, hB⟩)
    go_ret
    exact ⟨rfl, hB⟩
  · have hn2 : ¬ (100 : Int) < (n : Int) := by omega
    go_enter Try.func5, Try.ntmps5
    go_wp2_with (first | (go_at_call 9; refine hK.mono ?_; rintro e w1 ⟨rfl, hB1⟩; clear hK) | (go_at_call 11; refine (at_any _ _).mono ?_; rintro e w' ⟨rfl, hw⟩; rw [hw, Int.toNat_natCast]; clear hw w') | (go_at_call 21; refine (new_any _ _).mono ?_; rintro e w2 ⟨rfl, hw⟩; have hR2 : RowAt w2 w1.heap.size 61 (lrow (F.part p) 9221120237041090561 0) := (by rw [hw]; exact RowAt.new _ _ _); have hB2 : Below w.heap.size w w2 := (by rw [hw]; exact hB1.alloc hB1.size _); clear hw) | (go_at_call 22; refine (rnew_any _ _).mono ?_; rintro e w3 ⟨rfl, hw⟩; have hQ3 : RowAt w3 w2.heap.size 42 (lrow (F.part p) 9221120237041090561 0) := (by rw [hw]; exact RowAt.new _ _ _); have hR3 : RowAt w3 w1.heap.size 61 (lrow (F.part p) 9221120237041090561 0) := (by rw [hw]; exact hR2.alloc _); have hB3 : Below w.heap.size w w3 := (by rw [hw]; exact hB2.alloc hB2.size _); clear hw))
    have hb1 := hB1.size
    have hb2 := hB2.size
    have hne := hR2.lt
    clear hR2 hB2 hB1
    generalize F.part p = P at *
    generalize w1.heap.size = g1 at *
    generalize w2.heap.size = g2 at *

    go_loopw [7] (fun i wr => ∃ (j v : Nat) (k : Int), i = .int .i64 (j : Int) ∧ j ≤ n ∧ RowAt wr g1 61 (lrow P v k) ∧ RowAt wr g2 42 (lrow P v k) ∧ v < 2 ^ 64 ∧ 0 ≤ k ∧ k ≤ (j : Int) ∧ (k = 0 → F.fin v = false) ∧ Below w.heap.size w wr) (fun i _ => n - (intOf i).toNat)
    case atStart => exact ⟨0, 9221120237041090561, 0, rfl, by omega, hR3, hQ3, by decide, by omega, by omega, fun _ => fin_told, hB3⟩
    case round =>
      clear hR3 hQ3 hB3
      obtain ⟨j, v, k, rfl, hj, hR, hQ, hv, hk0, hkj, hz, hB⟩ := hrel
      have q1 : wr.cell? ⟨g2, 1, none⟩ = some (.float .f64 v) := hQ.cell 1
      have q2 : wr.cell? ⟨g2, 2, none⟩ = some (.int .i64 k) := hQ.cell 2
      have ev : ((F.norm v : Int) == (F.norm v : Int)) = true := by simp
      have ek : (k != k) = false := by simp
      have ek2 : (k == k) = true := by simp
      have HR := hide hR
      have HQ := hide hQ
      have HZ := hide hz
      clear hR hQ hz
      by_cases hlt : j < n
      · obtain ⟨b, o, rfl, hblt, hc⟩ := (HS.out.below hB (Nat.le_refl _)) (by have := hl.out; omega)
        have hcj := hc j (by have := hl.out; omega)
        have hbw : b < w.heap.size := by
          obtain ⟨b', o', e, h, _⟩ := HS.out (by have := hl.out; omega)
          cases e; exact h
        clear hc
        have hx := hsm (l.getD j 0) (by
          have hjl : j < l.length := by have := hl.out; omega
          have : l.getD j 0 = l[j] := by simp [hjl]
          rw [this]; exact List.getElem_mem hjl)
        generalize l.getD j 0 = x at hcj hx
        go_wp2
        go_quiet (first | (go_at_call 23; exact Calls.quiet_of_same (value_any _ _ _ _ _ (HR.out.drewN _))) | (go_at_call 24; exact Calls.quiet_of_same (count_any _ _ _ _ _ (HR.out.drewN _))) | (go_at_call 16; exact Calls.quiet_of_same (same_any _ _ _)))
        have HR1 := hide (HR.out.drewN nq)
        have HQ1 := hide (HQ.out.drewN nq)
        have hB1 := below_drewN hB nq
        have hcj1 : (wr.drewN nq).cell? ⟨b, o + j, none⟩ = some (.int .u64 (x : Int)) := hcj
        clear HR HQ hB hcj q1 q2
        generalize wr.drewN nq = wx at *
        cases hnx : F.nan x
        · have hA := add_any g1 P v x k wx HR1.out P1 P2 hv hnx hk0 (by omega)
          have hcy0 : ∀ wy : World, Upd g1 wx wy → wy.cell? ⟨b, o + j, none⟩ = some (.int .u64 (x : Int)) := fun wy hUy => by
            have : wy.heap[b]? = wx.heap[b]? := hUy.2.2.2.2 b (by omega)
            rw [← hcj1]; unfold World.cell?; simp only [this]
          go_wp2_with (first | (go_at_call 11; refine (at_any _ _).mono ?_; rintro e w' ⟨rfl, hw⟩; rw [hw, Int.toNat_natCast]; clear hw w') | (go_at_call 25; refine hA.mono ?_; rintro e wy ⟨rfl, hRy, hUy⟩; clear hA; have hcy := hcy0 wy hUy; have hQy := hUy.row HQ1.out (by omega); have hBy := hUy.below hB1 (by omega); have hA2 := radd_any g2 P v x k wy hQy P1 P2 hv hnx hk0 (by omega) HZ.out; have HRy := hide hRy; clear hRy hQy hUy hcj1 HR1 HQ1 hB1 hcy0) | (go_at_call 26; refine hA2.mono ?_; rintro e wz ⟨rfl, hQz, hUz⟩; clear hA2))
          have hRz := hUz.row HRy.out (by omega)
          have hBz := hUz.below hBy (by omega)
          clear hUz hBy hcy
          go_roundw
          case rel => exact ⟨j + 1, F.step P v x, k + 1, by go_num, by omega, hRz, hQz, F.step_lt hx, by omega, by omega, fun h => by omega, hBz⟩
          case measure => simp [intOf]; omega
        · go_wp2_with (first | (go_at_call 11; refine (at_any _ _).mono ?_; rintro e w' ⟨rfl, hw⟩; rw [hw, Int.toNat_natCast]; clear hw w') | (go_at_call 25; refine (add_nan _ _ _ hnx).mono ?_; rintro e wy ⟨rfl, hw⟩; rw [hw]; clear hw wy) | (go_at_call 26; refine (radd_nan _ _ _ hnx).mono ?_; rintro e wy ⟨rfl, hw⟩; rw [hw]; clear hw wy))
          go_roundw
          case rel => exact ⟨j + 1, v, k, by go_num, by omega, HR1.out, HQ1.out, hv, by omega, by omega, HZ.out, hB1⟩
          case measure => simp [intOf]; omega
      · obtain rfl : j = n := by omega
        go_wp2
        go_quiet (first | (go_at_call 23; exact Calls.quiet_of_same (value_any _ _ _ _ _ (HR.out.drewN _))) | (go_at_call 24; exact Calls.quiet_of_same (count_any _ _ _ _ _ (HR.out.drewN _))) | (go_at_call 16; exact Calls.quiet_of_same (same_any _ _ _)))
        go_wp2
        go_ret
        exact ⟨rfl, below_drewN hB nq⟩
end Go.Proofs.Ytmkpihagfbohdaa
