/- The law MeterBetween. -/
import Derived.Test.YtmkpihagfbohdaaBt1
namespace Go.Proofs.Ytmkpihagfbohdaa
open Go.RowKit
/- the parts: halves, quarters, eighths, the whole -/
set_option maxRecDepth 5000 in
theorem parts4 (k : Nat) : ∃ (K e P : Nat), k % 4 = K ∧ e ≤ 3 ∧ (#[Value.float .f64 4602678819172646912, .float .f64 4598175219545276416, .float .f64 4593671619917905920, .float .f64 4607182418800017408] : Array Value)[K]? = some (.float .f64 P) ∧ K < 4 ∧ FloatKind.f64.format.read P = .number false (2 ^ 52) (-52 - (e : Int)) ∧ F.part P = P ∧ F.fin P = true ∧ 0 < F.rung P := by
  have : k % 4 = 0 ∨ k % 4 = 1 ∨ k % 4 = 2 ∨ k % 4 = 3 := by omega
  rcases this with h | h | h | h
  · exact ⟨0, 1, 4602678819172646912, h, by decide, rfl, by decide, by kernel_rfl, by kernel_rfl, by kernel_rfl, by decide⟩
  · exact ⟨1, 2, 4598175219545276416, h, by decide, rfl, by decide, by kernel_rfl, by kernel_rfl, by kernel_rfl, by decide⟩
  · exact ⟨2, 3, 4593671619917905920, h, by decide, rfl, by decide, by kernel_rfl, by kernel_rfl, by kernel_rfl, by decide⟩
  · exact ⟨3, 0, 4607182418800017408, h, by decide, rfl, by decide, by kernel_rfl, by kernel_rfl, by kernel_rfl, by decide⟩
set_option maxHeartbeats 2000000 in
set_option maxRecDepth 5000 in
theorem between_walk (l : List Int) (k : Nat) (ao : Option Addr) (n cap : Nat) (hk : k < 256) (hsm : ∀ x ∈ l, x.natAbs ≤ 32768) (w : World) (hl : Hid (l.length = n)) (hs : SlI w ao l) :
    Calls Try.prog 7 #[.slice ao n cap, .int .u8 (k : Int)] w fun e w' => e = .returned (.bool true) ∧ Below w.heap.size w w' := by
  have hn := hnot
  have hKn := known_any w
  have HS := hide hs
  clear hs
  by_cases hn0 : n = 0
  · subst hn0
    go_enter Try.func7, Try.ntmps7
    go_wp2_with (go_at_call 9; refine hKn.mono ?_; rintro e w1 ⟨rfl, hB⟩)
    go_ret
    exact ⟨rfl, hB⟩
  · have e0 : ((n : Int) == 0) = false := by simp; omega
    by_cases hn1 : 6 < n
    · have hn2 : (6 : Int) < (n : Int) := by omega
      go_enter Try.func7, Try.ntmps7
      go_wp2_with (go_at_call 9; refine hKn.mono ?_; rintro e w1 ⟨rfl, hB⟩)
      go_ret
      exact ⟨rfl, hB⟩
    · have hn2 : ¬ (6 : Int) < (n : Int) := by omega
      have hn3 : (0 : Int) < (n : Int) := by omega
      have hlen : 0 < l.length := by have := hl.out; omega
      obtain ⟨K, e, P, hKk, he, hcell, hK4, hread, hpart, hfin, hrung⟩ := parts4 k
      have eK : (k : Int) % 4 = (K : Int) := by omega
      have eK2 : (k : Int).tmod 4 = (K : Int) := by rw [Int.tmod_eq_emod_of_nonneg (by omega)]; exact eK
      have hK4i : (K : Int) < 4 := by omega
      have hcK : ∀ W : World, (W.alloc (.cells #[Value.float .f64 4602678819172646912, .float .f64 4598175219545276416, .float .f64 4593671619917905920, .float .f64 4607182418800017408] 25)).cell? ⟨W.heap.size, K, none⟩ = some (.float .f64 P) := fun W => by
        rw [(RowAt.new W 25 _).cell]; exact hcell
      obtain ⟨b, o, rfl, hbw, hc0⟩ := HS.out hlen
      have hX0 := hsm (l.getD 0 0) (by
        have : l.getD 0 0 = l[0] := by simp [hlen]
        rw [this]; exact List.getElem_mem hlen)
      have hc00 := hc0 0 hlen
      rw [Nat.add_zero] at hc00
      clear hc0
      go_enter Try.func7, Try.ntmps7
      have hnew : ∀ (W1 W2 : World), Below w.heap.size w W1 → W2 = (W1.alloc (.cells #[Value.float .f64 4602678819172646912, .float .f64 4598175219545276416, .float .f64 4593671619917905920, .float .f64 4607182418800017408] 25)).alloc (.cells (lrow (F.part P) 9221120237041090561 0) 61) → RowAt W2 (W1.heap.size + 1) 61 (lrow P 9221120237041090561 0) ∧ Below w.heap.size w W2 := fun W1 W2 hB1 hw => by
        constructor
        · rw [hw, hpart]
          have h := RowAt.new (W1.alloc (.cells #[Value.float .f64 4602678819172646912, .float .f64 4598175219545276416, .float .f64 4593671619917905920, .float .f64 4607182418800017408] 25)) 61 (lrow P 9221120237041090561 0)
          rw [show (W1.alloc (.cells #[Value.float .f64 4602678819172646912, .float .f64 4598175219545276416, .float .f64 4593671619917905920, .float .f64 4607182418800017408] 25)).heap.size = W1.heap.size + 1 by simp] at h
          exact h
        · rw [hw]; exact (hB1.alloc hB1.size _).alloc (by simp; have := hB1.size; omega) _
      go_wp2_with (first | (go_at_call 9; refine hKn.mono ?_; rintro e w1 ⟨rfl, hB1⟩; clear hKn; have hcK1 := hcK w1; clear hcK) | (go_at_call 21; refine (new_any _ _).mono ?_; rintro e w2 ⟨rfl, hw⟩; obtain ⟨hR2, hB2⟩ := hnew w1 w2 hB1 hw; clear hw hnew hcK1))
      have hcw2 : w2.cell? ⟨b, o, none⟩ = some (.int .i16 (l.getD 0 0)) := (hB2.cell (p := ⟨b, o, none⟩) hbw).trans hc00
      have hg1 := hB1.size
      clear hB1 hcell eK eK2 hc00 hpart
      generalize w1.heap.size = G at *
      have hgw : w.heap.size ≤ G + 1 := by omega
      have hx0 := F.is_int (l.getD 0 0) hX0
      generalize hX : l.getD 0 0 = X0 at *
      clear hX
      go_quiet (fail)
      go_wp2
      have hR3 : RowAt (w2.drewN nq) (G + 1) 61 (lrow P 9221120237041090561 0) := hR2
      have hB3 := below_drewN hB2 nq
      clear hR2 hB2 hcw2
      generalize w2.drewN nq = w3 at *
      go_loopw [8, 6, 7] (fun i lv hv wr => ∃ (j la ha v : Nat) (lo hi : Int), i = .int .i64 (j : Int) ∧ j ≤ n ∧ lv = .float .f64 la ∧ hv = .float .f64 ha ∧ Hid (F.Is la (lo * 32768) ∧ F.Is ha (hi * 32768) ∧ lo.natAbs ≤ 32768 ∧ hi.natAbs ≤ 32768 ∧ F.Val e j v lo hi ∧ v < 2 ^ 64) ∧ RowAt wr (G + 1) 61 (lrow P v (j : Int)) ∧ Below w.heap.size w wr) (fun i _ _ _ => n - (intOf i).toNat)
      case atStart => exact ⟨0, _, _, 9221120237041090561, X0, X0, rfl, by omega, rfl, rfl, hide ⟨hx0, hx0, hX0, hX0, ⟨fun _ => rfl, fun h => by omega⟩, by decide⟩, hR3, hB3⟩
      case round =>
        clear hR3 hB3
        obtain ⟨j, la, ha, v, lo, hi, rfl, hj, rfl, rfl, hI, hR, hB⟩ := hrel
        by_cases hlt : j < n
        · have hjl : j < l.length := by have := hl.out; omega
          obtain ⟨b', o', e', _, hc⟩ := (HS.out.below hB (Nat.le_refl _)) hlen
          cases e'
          have hcj := hc j hjl
          clear hc
          have hXj := hsm (l.getD j 0) (by
            have : l.getD j 0 = l[j] := by simp [hjl]
            rw [this]; exact List.getElem_mem hjl)
          generalize l.getD j 0 = X at hcj hXj
          have hx := F.is_int X hXj
          obtain ⟨ml, hml, iml⟩ := F.is_min hI.out.1 hx
          obtain ⟨mh, hmh, imh⟩ := F.is_max hI.out.2.1 hx
          obtain ⟨hV, N, hN, hNl, hNh⟩ := F.val_step (P := P) he hread (by omega) hI.out.2.2.2.2.1 hI.out.2.2.1 hI.out.2.2.2.1 hXj
          have hmin : min (lo * 32768) (X * 32768) = min lo X * 32768 := by omega
          have hmax : max (hi * 32768) (X * 32768) = max hi X * 32768 := by omega
          rw [hmin] at iml
          rw [hmax] at imh
          have t1 := F.is_nlt hN iml hNl
          have t2 := F.is_ngt hN imh hNh
          have hA := add_any (G + 1) P v (floatOfInt .f64 X) (j : Int) wr hR hfin hrung hI.out.2.2.2.2.2 (F.fin_nan hx.fin) (by omega) (by omega)
          have HI2 : Hid (F.Is ml (min lo X * 32768) ∧ F.Is mh (max hi X * 32768) ∧ (min lo X).natAbs ≤ 32768 ∧ (max hi X).natAbs ≤ 32768 ∧ F.Val e (j + 1) (F.step P v (floatOfInt .f64 X)) (min lo X) (max hi X) ∧ F.step P v (floatOfInt .f64 X) < 2 ^ 64) := hide ⟨iml, imh, by have := hI.out.2.2.1; omega, by have := hI.out.2.2.2.1; omega, hV, hN.1⟩
          clear iml imh hmin hmax hV hNl hNh hN hI hR
          generalize min lo X = lo2 at HI2
          generalize max hi X = hi2 at HI2
          generalize F.step P v (floatOfInt .f64 X) = v2 at *
          have hm1 := hml Try.prog
          have hm2 := hmh Try.prog
          clear hml hmh hx
          go_wp2_with (first | (go_at_call 25; refine hA.mono ?_; rintro e wy ⟨rfl, hRy, hUy⟩; have hBy := hUy.below hB hgw; have HRy := hide hRy; clear hA hUy hRy hB hcj) | (go_at_call 23; refine (value_any _ _ _ _ _ HRy.out).mono ?_; rintro e w' ⟨rfl, hw⟩; rw [hw]; clear hw w'))
          go_roundw
          case rel => exact ⟨j + 1, ml, mh, v2, lo2, hi2, by go_num, by omega, rfl, rfl, HI2, HRy.out, hBy⟩
          case measure => simp [intOf]; omega
        · obtain rfl : j = n := by omega
          go_wp2_with (go_at_call 24; refine (count_any _ _ _ _ _ hR).mono ?_; rintro e w' ⟨rfl, hw⟩; rw [hw]; clear hw w')
          go_ret
          exact ⟨by simp, hB⟩
end Go.Proofs.Ytmkpihagfbohdaa
