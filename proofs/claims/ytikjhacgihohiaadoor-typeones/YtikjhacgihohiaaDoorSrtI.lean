/- slices.Sort at uint16: pdqsortOrdered: a permutation that rises. -/
import Derived.Test.YtikjhacgihohiaaDoorSrtF
import Derived.Test.YtikjhacgihohiaaDoorSrtG
import Derived.Test.YtikjhacgihohiaaDoorSrtH
import Derived.Sort.LotD3
import Derived.Sort.LotB
import Derived.Deep.Cut
import Derived.Deep.LoopGhost
namespace Go.Proofs.YtikjhacgihohiaaDoor
open Go.RowKit Go.Sort Q
set_option maxRecDepth 100000 in
set_option maxHeartbeats 25600000 in
theorem pdq_step (w0 : World) (g o N cap : Nat) (R : Rw w0 g o N) (n : Nat)
    (ih : ∀ m, m < n → ∀ (w : World) (a b : Nat) (z : Int) (d : Array UInt16), St w0 g o N d w → a ≤ b → b ≤ N → Go.Sort.Below lt a b d → b - a = m → Calls Tryd.prog 37 #[.slice (some ⟨g, o, none⟩) N cap, .int .i64 a, .int .i64 b, .int .i64 z] w fun e w' => e = .returned (.tuple #[]) ∧ ∃ d', PermIn a b d d' ∧ SortedIn lt a b d' ∧ St w0 g o N d' w')
    (w : World) (a b : Nat) (z : Int) (d : Array UInt16) (h : St w0 g o N d w) (hab : a ≤ b) (hb : b ≤ N) (hB : Go.Sort.Below lt a b d) (hn : b - a = n) :
    Calls Tryd.prog 37 #[.slice (some ⟨g, o, none⟩) N cap, .int .i64 a, .int .i64 b, .int .i64 z] w fun e w' => e = .returned (.tuple #[]) ∧ ∃ d', PermIn a b d d' ∧ SortedIn lt a b d' ∧ St w0 g o N d' w' := by
  have hsm := R.small
  go_enter Tryd.func37, Tryd.ntmps37
  go_wp2
  go_loopg [1, 2, 3, 8, 9] (b - a) (fun k s1 s2 s3 s8 s9 wr => ∃ (x y : Nat) (z : Int) (wb wp : Bool) (dk : Array UInt16), s1 = .int .i64 (x : Int) ∧ s2 = .int .i64 (y : Int) ∧ s3 = .int .i64 z ∧ s8 = .bool wb ∧ s9 = .bool wp ∧ x ≤ y ∧ y ≤ N ∧ y - x ≤ k ∧ k ≤ n ∧ St w0 g o N dk wr ∧ Go.Sort.Below lt x y dk ∧ ∀ Z, PermIn x y dk Z → SortedIn lt x y Z → PermIn a b d Z ∧ SortedIn lt a b Z)
  case atStart => exact ⟨a, b, z, true, true, d, rfl, rfl, rfl, rfl, rfl, hab, hb, Nat.le_refl _, by omega, h, hB, fun _ z1 z2 => ⟨z1, z2⟩⟩
  case round =>
    clear h hB hn
    obtain ⟨x, y, z, wb, wp, dk, rfl, rfl, rfl, rfl, rfl, hxy, hyN, hyx, hkn, hS, hB, hK⟩ := hrel
    have HK : Hid _ := hK
    have HB0 : Hid (Go.Sort.Below lt x y dk) := hB
    have hsz : y ≤ dk.size := by rw [hS.size]; exact hyN
    have HSZ : Hid (y ≤ dk.size) := hsz
    clear hK hB hsz
    by_cases h12 : y - x ≤ 12
    · have e12 : (y : Int) - (x : Int) ≤ 12 := by omega
      go_wp2_with (go_at_call 47; refine (ins_any w0 _ g o N cap x y dk R hS hxy hyN).mono ?_; rintro e w1 ⟨rfl, hS1⟩)
      have hi := insertionSort_holds swo dk x y hxy HSZ.out
      obtain ⟨i1, i2⟩ := HK.out _ hi.1 hi.2
      (try simp only [Exit.inBlock, Exit.then]); refine bodyPost_ret (results_none rfl _ _ _) rfl ?_
      exact ⟨rfl, _, i1, i2, hS1⟩
    · have e12 : ¬ (y : Int) - (x : Int) ≤ 12 := by omega
      by_cases hz : z = 0
      · subst hz
        go_wp2_with (go_at_call 48; refine (heap_any w0 _ g o N cap x y dk R hS hxy hyN).mono ?_; rintro e w1 ⟨rfl, hS1⟩)
        have hi := heapSort_holds swo dk x y hxy HSZ.out
        obtain ⟨i1, i2⟩ := HK.out _ hi.1 hi.2
        (try simp only [Exit.inBlock, Exit.then]); refine bodyPost_ret (results_none rfl _ _ _) rfl ?_
        exact ⟨rfl, _, i1, i2, hS1⟩
      · have ez : (z == 0) = false := by simpa using hz
        clear hz
        go_upto_if 35 with fail
        go_cut [3] from 19 (fun s3 wc => ∃ (zl : Int) (d1 : Array UInt16), s3 = .int .i64 zl ∧ PermIn x y dk d1 ∧ St w0 g o N d1 wc)
        case first =>
          cases wb
          · go_wp2_with (go_at_call 49; refine (brk_any w0 _ g o N cap x y dk R hS (by omega) hyN).mono ?_; rintro e w1 ⟨rfl, d1, hp1, hS1⟩)
            go_meet
            case rel => exact ⟨_, d1, rfl, hp1, hS1⟩
          · go_wp2_with fail
            go_meet
            case rel => exact ⟨z, dk, rfl, permIn_refl _ _ _, hS⟩
        case rest =>
          clear hS ez
          obtain ⟨zl, d1, rfl, hp1, hS1⟩ := hcut
          have HP1 : Hid _ := hp1
          clear hp1
          go_upto_if 50 with (go_at_call 50; refine (piv_any w0 _ g o N cap x y d1 R hS1 (by omega) hyN).mono ?_; rintro e w2 ⟨p0, zh, rfl, q1, q2, hS2⟩)
          clear hS1
          go_cut [11, 12] from 19 (fun s11 s12 wc => ∃ (p : Nat) (zh : Int) (d2 : Array UInt16), s11 = .int .i64 (p : Int) ∧ s12 = .int .i64 zh ∧ x ≤ p ∧ p < y ∧ PermIn x y dk d2 ∧ St w0 g o N d2 wc)
          case first =>
            by_cases hzh : zh = 2
            · subst hzh
              go_wp2_with (go_at_call 51; refine (rev_any w0 _ g o N cap x y d1 R hS2 hxy hyN).mono ?_; rintro e w3 ⟨rfl, hS3⟩)
              go_meet
              case rel => exact ⟨(y - 1) - (p0 - x), 1, reverseRange d1 x y, by congr 1; omega, rfl, by omega, by omega, permIn_trans _ _ _ _ _ HP1.out (reverseRange_holds d1 x y hxy (by rw [hS2.size]; exact hyN)), hS3⟩
            · have ezh : (zh == 2) = false := by simpa using hzh
              go_wp2_with fail
              go_meet
              case rel => exact ⟨p0, zh, d1, rfl, rfl, q1, q2, HP1.out, hS2⟩
          case rest =>
            clear hS2 HP1 q1 q2
            obtain ⟨p, zh, d2, rfl, rfl, hpx, hpy, hp2, hS2⟩ := hcut
            have HP2 : Hid _ := hp2
            clear hp2
            go_upto_region 15 with fail
            go_cut [12, 68] from 19 (fun s12 s68 wx => ∃ t : Bool, s12 = .int .i64 zh ∧ s68 = .bool t ∧ wx = wc)
            case first =>
              cases wb
              · go_wp2_with fail
                go_meet
                case rel => exact ⟨_, rfl, rfl, rfl⟩
              · cases wp
                · go_wp2_with fail
                  go_meet
                  case rel => exact ⟨_, rfl, rfl, rfl⟩
                · go_wp2_with fail
                  go_meet
                  case rel => exact ⟨_, rfl, rfl, rfl⟩
            case rest =>
              obtain ⟨t, rfl, rfl, rfl⟩ := hcut
              go_upto_if 68 with fail
              go_cut [] from 19 (fun wx => ∃ d3 : Array UInt16, PermIn x y dk d3 ∧ St w0 g o N d3 wx)
              case first =>
                cases t
                · go_wp2_with fail
                  go_meet
                  case rel => exact ⟨d2, HP2.out, hS2⟩
                · have hpi := partialInsertionSort_holds swo d2 x y (by omega) (by rw [hS2.size]; exact hyN) (HB0.out.perm HSZ.out HP2.out)
                  have hcp := pins_any w0 wc g o N cap x y d2 R hS2 (by omega) hyN
                  obtain ⟨d3, bi, hdi⟩ : ∃ d3 bi, partialInsertionSort lt d2 x y = (d3, bi) := ⟨_, _, rfl⟩
                  rw [hdi] at hpi hcp
                  have HPI : Hid _ := hpi
                  clear hpi hdi
                  cases bi
                  · go_wp2_with (go_at_call 52; refine hcp.mono ?_; rintro e w4 ⟨rfl, hS4⟩)
                    go_meet
                    case rel => exact ⟨d3, permIn_trans _ _ _ _ _ HP2.out HPI.out.1, hS4⟩
                  · go_wp2_with (go_at_call 52; refine hcp.mono ?_; rintro e w4 ⟨rfl, hS4⟩)
                    (try simp only [Exit.inBlock, Exit.then]); refine bodyPost_ret (results_none rfl _ _ _) rfl ?_
                    obtain ⟨k1, k2⟩ := HK.out d3 (permIn_trans _ _ _ _ _ HP2.out HPI.out.1) (HPI.out.2 (by trivial))
                    exact ⟨rfl, d3, k1, k2, hS4⟩
              case rest =>
                clear hS2 HP2
                obtain ⟨d3, hp3, hS3⟩ := hcut
                have HP : Hid _ := hp3
                have HB : Hid (Go.Sort.Below lt x y d3) := HB0.out.perm HSZ.out hp3
                clear hp3 HB0 HSZ
                obtain ⟨G, HG, hc, hf⟩ := hS3.look R
                have hpN : p < N := by omega
                go_upto_region 17 with fail
                go_cut [87] from 19 (fun s87 wx => ∃ t : Bool, s87 = .bool t ∧ (t = true → 0 < x ∧ lt d3[x - 1]! d3[p]! = false) ∧ St w0 g o N d3 wx)
                case first =>
                  by_cases hx0 : 0 < x
                  · go_quiet (first | (go_at_call 53; refine Calls.quiet_of_same (less_any _ _ _)))
                    go_wp2_with fail
                    go_meet
                    case rel => exact ⟨_, rfl, fun ht => ⟨hx0, by rw [HG.out, HG.out]; simpa using ht⟩, hS3.drewN _⟩
                  · have ex0 : decide ((0 : Int) < (x : Int)) = false := decide_eq_false (by omega)
                    go_quiet (first | (go_at_call 53; refine Calls.quiet_of_same (less_any _ _ _)))
                    go_wp2_with fail
                    go_meet
                    case rel => exact ⟨false, rfl, fun ht => (by cases ht), hS3.drewN _⟩
                case rest =>
                  clear hS3 hc hf HG
                  obtain ⟨t, rfl, ht, hS5⟩ := hcut
                  cases t
                  · clear ht
                    obtain ⟨mid, ap, d4, hpt⟩ : ∃ mid ap d4, partition lt d3 x y p = (mid, ap, d4) := ⟨_, _, _, rfl⟩
                    have hcp := part_any w0 wc g o N cap x y p d3 R hS5 hpx hpy hyN
                    obtain ⟨m1, m2, m3, m4, m5, mL, mR⟩ := round_part swo (partition_holds lt) hpx hpy (by rw [hS5.size]; exact hyN) HB.out hpt
                    rw [hpt] at hcp
                    have MF : Hid _ := And.intro m4 m5
                    have ML : Hid _ := mL
                    have MR : Hid _ := mR
                    clear hpt m3 m4 m5 mL mR HB
                    go_upto_if 113 with (go_at_call 55; refine hcp.mono ?_; rintro e w6 ⟨rfl, hS6⟩)
                    clear hS5 hcp
                    by_cases hlr : mid - x < y - mid
                    · have elr : (mid : Int) - (x : Int) < (y : Int) - (mid : Int) := by omega
                      go_wp2_with (go_at_call 37; refine (ih (mid - x) (by omega) _ x mid zl d4 hS6 m1 (by omega) MF.out.1 rfl).mono ?_; rintro e w7 ⟨rfl, dl, hL1, hL2, hS7⟩)
                      go_roundg (y - (mid + 1))
                      case measure => omega
                      case rel => exact ⟨mid + 1, y, zl, _, ap, dl, by go_num, rfl, rfl, rfl, rfl, by omega, hyN, Nat.le_refl _, by omega, hS7, (ML.out dl hL1 hL2).1, fun Z z1 z2 => by obtain ⟨y1, y2⟩ := (ML.out dl hL1 hL2).2 Z z1 z2; exact HK.out Z (permIn_trans _ _ _ _ _ HP.out y1) y2⟩
                    · have elr : ¬ (mid : Int) - (x : Int) < (y : Int) - (mid : Int) := by omega
                      have hih := ih (y - (mid + 1)) (by omega) w6 (mid + 1) y zl d4 hS6 (by omega) hyN MF.out.2 rfl
                      rw [show ((mid + 1 : Nat) : Int) = (mid : Int) + 1 by omega] at hih
                      go_wp2_with (go_at_call 37; refine hih.mono ?_; rintro e w7 ⟨rfl, dl, hL1, hL2, hS7⟩)
                      go_roundg (mid - x)
                      case measure => omega
                      case rel => exact ⟨x, mid, zl, _, ap, dl, rfl, rfl, rfl, rfl, rfl, by omega, by omega, Nat.le_refl _, by omega, hS7, (MR.out dl hL1 hL2).1, fun Z z1 z2 => by obtain ⟨y1, y2⟩ := (MR.out dl hL1 hL2).2 Z z1 z2; exact HK.out Z (permIn_trans _ _ _ _ _ HP.out y1) y2⟩
                  · obtain ⟨hx0, hl⟩ := ht rfl
                    obtain ⟨mid, d4, hpe⟩ : ∃ mid d4, partitionEqual lt d3 x y p = (mid, d4) := ⟨_, _, rfl⟩
                    have hcp := peq_any w0 wc g o N cap x y p d3 R hS5 hpx hpy hyN
                    obtain ⟨m1, m2, m3, m4, mR⟩ := round_eq swo (partitionEqual_holds lt) hx0 hpx hpy (by rw [hS5.size]; exact hyN) HB.out hl hpe
                    rw [hpe] at hcp
                    have MF : Hid _ := m4
                    have MR : Hid _ := mR
                    clear m3 m4 mR hl hpe ht
                    go_wp2_with (go_at_call 54; refine hcp.mono ?_; rintro e w6 ⟨rfl, hS6⟩)
                    go_roundg (y - mid)
                    case measure => omega
                    case rel => exact ⟨mid, y, zl, _, _, d4, rfl, rfl, rfl, rfl, rfl, m2, hyN, Nat.le_refl _, by omega, hS6, MF.out, fun Z z1 z2 => by obtain ⟨y1, y2⟩ := MR.out Z z1 z2; exact HK.out Z (permIn_trans _ _ _ _ _ HP.out y1) y2⟩
theorem pdq_any (w0 : World) (g o N cap : Nat) (R : Rw w0 g o N) (n : Nat) : ∀ (w : World) (a b : Nat) (z : Int) (d : Array UInt16), St w0 g o N d w → a ≤ b → b ≤ N → Go.Sort.Below lt a b d → b - a = n → Calls Tryd.prog 37 #[.slice (some ⟨g, o, none⟩) N cap, .int .i64 a, .int .i64 b, .int .i64 z] w fun e w' => e = .returned (.tuple #[]) ∧ ∃ d', PermIn a b d d' ∧ SortedIn lt a b d' ∧ St w0 g o N d' w' := by
  induction n using Nat.strongRecOn with
  | _ n ih => exact fun w a b z d h hab hb hB hn => pdq_step w0 g o N cap R n ih w a b z d h hab hb hB hn
end Go.Proofs.YtikjhacgihohiaaDoor
