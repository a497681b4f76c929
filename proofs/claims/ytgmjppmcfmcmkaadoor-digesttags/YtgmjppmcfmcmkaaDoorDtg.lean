/- digest.Tag, the reference's Tag; digest.algorithm, digest.rounds. -/
import Derived.Test.YtgmjppmcfmcmkaaDoorDg0
namespace Go.Proofs.YtgmjppmcfmcmkaaDoor
open Go.RowKit
set_option maxRecDepth 5000 in
theorem and16 (s : Nat) (h : s < 4294967296) : bits .and .u32 ((s : Int) / 65536) 65535 = (s : Int) / 65536 := by
  rw [show (s : Int) / 65536 = ((s / 65536 : Nat) : Int) by omega, show (65535 : Int) = ((65535 : Nat) : Int) from rfl, u32_and_nat _ _ (by omega) (by omega), show 65535 = 2 ^ 16 - 1 from rfl, Nat.and_two_pow_sub_one_eq_mod, Nat.mod_eq_of_lt (by omega)]
set_option maxHeartbeats 400000 in
set_option maxRecDepth 5000 in
theorem dtag_any (l : List UInt8) (ao : Option Addr) (n cap : Nat) (w : World) (hl : Hid (l.length = n)) (hs : SlL w ao l) (hn : n ≤ 60000) :
    Calls Tryd.prog 9 #[.slice ao n cap] w fun e w' => e = .returned (.int .u16 (G.tag l : Int)) ∧ w' = w := by
  have HS := hide hs
  clear hs
  go_enter Tryd.func9, Tryd.ntmps9
  go_wp2
  go_loopw [8, 3] (fun i s wr => ∃ j : Nat, i = .int .i64 (j : Int) ∧ j ≤ n ∧ s = .int .u32 (G.ts l j : Int) ∧ w = wr) (fun i _ _ => n - (intOf i).toNat)
  case atStart => exact ⟨0, rfl, by omega, rfl, rfl⟩
  case round =>
    obtain ⟨j, rfl, hj, rfl, rfl⟩ := hrel
    have hle := G.ts_le l j
    by_cases hlt : j < n
    · obtain ⟨b, o, rfl, hblt, hc⟩ := HS.out (by have := hl.out; omega)
      have hcj := hc j (by have := hl.out; omega)
      clear hc
      have hx := (l.getD j 0).toNat_lt
      have hts : G.ts l (j + 1) = G.ts l j + (if j % 2 = 0 then (l.getD j 0).toNat * 256 else (l.getD j 0).toNat) := rfl
      generalize l.getD j 0 = x at hcj hx hts
      have HT := hide hts
      clear hts
      generalize hS : G.ts l j = S at hle HT
      by_cases h2 : j % 2 = 0
      · have HT2 : Hid (G.ts l (j + 1) = S + x.toNat * 256) := by have h := HT.out; rw [if_pos h2] at h; exact h
        clear HT
        go_wp2
        go_roundw
        case rel => exact ⟨j + 1, by go_num, by omega, by rw [HT2.out]; simp, trivial⟩
        case measure => simp [intOf]; omega
      · have HT2 : Hid (G.ts l (j + 1) = S + x.toNat) := by have h := HT.out; rw [if_neg h2] at h; exact h
        clear HT
        go_wp2
        go_roundw
        case rel => exact ⟨j + 1, by go_num, by omega, by rw [HT2.out]; simp, trivial⟩
        case measure => simp [intOf]; omega
    · obtain rfl : j = n := by omega
      have HG : Hid (G.tag l = (G.ts l j + G.ts l j / 65536) % 65536) := by show _ = _; unfold G.tag; rw [hl.out]
      generalize G.ts l j = S at hle HG
      go_wp2
      go_ret
      exact ⟨by rw [HG.out]; simp [IntKind.wrap_u16], rfl⟩
set_option maxHeartbeats 400000 in
set_option maxRecDepth 5000 in
theorem rtag_any (l : List UInt8) (ao : Option Addr) (n cap : Nat) (w : World) (hl : Hid (l.length = n)) (hs : SlL w ao l) (hn : n ≤ 60000) :
    Calls Tryd.prog 10 #[.slice ao n cap] w fun e w' => e = .returned (.int .u16 (G.tag l : Int)) ∧ w' = w := by
  have HS := hide hs
  clear hs
  go_enter Tryd.func10, Tryd.ntmps10
  go_wp2
  go_loopw [4, 3] (fun i s wr => ∃ j : Nat, i = .int .i64 (j : Int) ∧ j ≤ n ∧ s = .int .u32 (G.ts l j : Int) ∧ w = wr) (fun i _ _ => n - (intOf i).toNat)
  case atStart => exact ⟨0, rfl, by omega, rfl, rfl⟩
  case round =>
    obtain ⟨j, rfl, hj, rfl, rfl⟩ := hrel
    have hle := G.ts_le l j
    by_cases hlt : j < n
    · obtain ⟨b, o, rfl, hblt, hc⟩ := HS.out (by have := hl.out; omega)
      have hcj := hc j (by have := hl.out; omega)
      clear hc
      have hx := (l.getD j 0).toNat_lt
      have hts : G.ts l (j + 1) = G.ts l j + (if j % 2 = 0 then (l.getD j 0).toNat * 256 else (l.getD j 0).toNat) := rfl
      generalize l.getD j 0 = x at hcj hx hts
      have HT := hide hts
      clear hts
      generalize hS : G.ts l j = S at hle HT
      by_cases h2 : j % 2 = 0
      · have HT2 : Hid (G.ts l (j + 1) = S + x.toNat * 256) := by have h := HT.out; rw [if_pos h2] at h; exact h
        clear HT
        go_wp2
        go_roundw
        case rel => exact ⟨j + 1, by go_num, by omega, by rw [HT2.out]; simp, trivial⟩
        case measure => simp [intOf]; omega
      · have HT2 : Hid (G.ts l (j + 1) = S + x.toNat) := by have h := HT.out; rw [if_neg h2] at h; exact h
        clear HT
        go_wp2
        go_roundw
        case rel => exact ⟨j + 1, by go_num, by omega, by rw [HT2.out]; simp, trivial⟩
        case measure => simp [intOf]; omega
    · obtain rfl : j = n := by omega
      have HG : Hid (G.tag l = (G.ts l j + G.ts l j / 65536) % 65536) := by show _ = _; unfold G.tag; rw [hl.out]
      have h16 := and16 (G.ts l j) (by omega)
      generalize G.ts l j = S at hle HG h16
      go_wp2
      go_ret
      exact ⟨by rw [HG.out]; simp [IntKind.wrap_u16], rfl⟩
set_option maxRecDepth 5000 in
theorem alg_any (l : List UInt8) (ao : Option Addr) (n cap : Nat) (w : World) (hl : Hid (l.length = n)) (hs : SlL w ao l) (hn : n ≤ 60000) :
    Calls Tryd.prog 23 #[.slice ao n cap] w fun e w' => e = .returned (.int .u8 ((l.getD 3 0).toNat : Int)) ∧ w' = w := by
  have HS := hide hs
  clear hs
  by_cases hlt : 3 < n
  · obtain ⟨b, o, rfl, hblt, hc⟩ := HS.out (by have := hl.out; omega)
    have hcj := hc 3 (by have := hl.out; omega)
    clear hc
    go_enter Tryd.func23, Tryd.ntmps23
    go_wp2
    go_ret
    exact ⟨rfl, rfl⟩
  · have h0 : l.getD 3 0 = 0 := by have := hl.out; simp [List.getD_eq_getElem?_getD, List.getElem?_eq_none (show l.length ≤ 3 by omega)]
    rw [h0]
    go_enter Tryd.func23, Tryd.ntmps23
    go_wp2
    go_ret
    exact ⟨rfl, rfl⟩
set_option maxRecDepth 5000 in
theorem rds_lo {i : Int} (h : i < 0) : (G.rds i : Int) = 0 := by unfold G.rds; omega
set_option maxRecDepth 5000 in
theorem rds_mid {i : Int} (h : 0 ≤ i) (h2 : i ≤ 50) : (G.rds i : Int) = i := by unfold G.rds; omega
set_option maxRecDepth 5000 in
theorem rds_hi {i : Int} (h : 50 < i) : (G.rds i : Int) = 50 := by unfold G.rds; omega
set_option maxRecDepth 5000 in
theorem rds_le (i : Int) : G.rds i ≤ 50 := by unfold G.rds; omega
set_option maxRecDepth 5000 in
theorem rounds_any (i : Int) (w : World) :
    Calls Tryd.prog 29 #[.int .i64 i] w fun e w' => e = .returned (.int .i64 (G.rds i : Int)) ∧ w' = w := by
  rcases (show i < 0 ∨ (0 ≤ i ∧ i ≤ 50) ∨ 50 < i by omega) with h | ⟨h, h2⟩ | h
  · rw [rds_lo h]
    go_enter Tryd.func29, Tryd.ntmps29
    go_wp2
    all_goals first | (exfalso; omega) | (go_ret; exact ⟨rfl, rfl⟩)
  · rw [rds_mid h h2]
    go_enter Tryd.func29, Tryd.ntmps29
    go_wp2
    all_goals first | (exfalso; omega) | (go_ret; exact ⟨rfl, rfl⟩)
  · rw [rds_hi h]
    go_enter Tryd.func29, Tryd.ntmps29
    go_wp2
    all_goals first | (exfalso; omega) | (go_ret; exact ⟨rfl, rfl⟩)
end Go.Proofs.YtgmjppmcfmcmkaaDoor
