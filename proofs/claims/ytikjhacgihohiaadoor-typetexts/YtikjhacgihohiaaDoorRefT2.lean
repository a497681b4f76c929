/- The reference: texts read as types. -/
import Derived.Test.YtikjhacgihohiaaDoorRefT
namespace Go.Proofs.YtikjhacgihohiaaDoor
open Go.RowKit
theorem str_idx (s : List UInt8) (i : Nat) (hi : i < s.length) (w : World) : (Instr.index 9 (.string ⟨s.toArray⟩) (.int .i64 (i : Int))).run Tryd.prog w = .ok (.int .u8 ((s.getD i 0).toNat : Int)) w := by
  have h1 : (⟨s.toArray⟩ : ByteArray)[i]? = some (s.getD i 0) := by
    rw [getElem?_pos _ i (by exact hi), List.getD_eq_getElem?_getD, List.getElem?_eq_getElem hi]
    rfl
  unfold Instr.index
  simp [asIntOf, Sem.run_bind, h1]
theorem ext_take (s : List UInt8) (k : Nat) : ((⟨s.toArray⟩ : ByteArray).extract 0 k).toList = s.take k := by
  have h : ((⟨s.toArray⟩ : ByteArray).extract 0 k).data.toList = s.take k := by
    simp [ByteArray.data_extract]
  rw [ByteArray.toList_eq]; exact h
set_option maxRecDepth 3000 in
set_option maxHeartbeats 3200000 in
theorem rparse_any (s : List UInt8) (hs : s.length ≤ 1000000) (w : World) :
    Calls Tryd.prog 10 #[.string ⟨s.toArray⟩] w fun e w' => e = .returned (T.pv (T.parseOf s)) ∧ Below w.heap.size w w' := by
  go_enter Tryd.func10, Tryd.ntmps10
  go_wp2_with (go_at_call 23; refine (words_any _).mono ?_; rintro e w1 ⟨a, b, rfl, hW, hB⟩)
  go_loopw [6] (fun v W => ∃ j : Nat, v = .int .i64 (j : Int) ∧ j ≤ 14 ∧ W = w1 ∧ T.parseFrom (T.tab.drop j) s = T.parseOf s) (fun v _ => 14 - (intOf v).toNat)
  case atStart => exact ⟨0, rfl, by omega, rfl, rfl⟩
  case round =>
    obtain ⟨j, rfl, hj, rfl, hT⟩ := hrel
    have HT := hide hT
    clear hT
    by_cases h14 : j < 14
    · have hk := hW.kind j h14
      have hw := hW.word j h14
      have e14 : (j : Int) < 14 := by omega
      by_cases h : T.wordAt j = s
      · have e1 : (T.wordAt j == s) = true := by rw [h]; simp
        have e2 : T.parseOf s = some (T.kindAt j) := by rw [← HT.out]; exact T.parseFrom_hit j h14 _ h
        have HE := hide e2
        clear e2 h
        generalize T.kindAt j = kj at hk HE
        generalize T.wordAt j = sj at hw e1
        go_wp2
        go_ret2
        exact ⟨by rw [HE.out]; rfl, hB⟩
      · have e1 : (T.wordAt j == s) = false := by simpa using h
        have e2 := (T.parseFrom_miss j h14 _ h).symm.trans HT.out
        have HE := hide e2
        clear e2 h
        generalize T.kindAt j = kj at hk
        generalize T.wordAt j = sj at hw e1
        go_wp2
        go_roundw
        case rel => exact ⟨j + 1, by go_num, by omega, by trivial, HE.out⟩
        case measure => simp [intOf]; omega
    · obtain rfl : j = 14 := by omega
      obtain ⟨L, hL⟩ : ∃ L, s.length = L := ⟨_, rfl⟩
      have hsz : (⟨s.toArray⟩ : ByteArray).size = L := hL
      by_cases b1 : L < 5
      · have e1 : (L : Int) < 5 := by omega
        have hnone : T.parseOf s = none := by
          rw [← HT.out]; exact T.rest_none s fun _ => T.num_len _ (Or.inl (by rw [List.length_drop]; omega))
        have HE := hide hnone
        clear hnone hL
        go_wp2
        go_ret2
        exact ⟨by rw [HE.out]; rfl, hB⟩
      · have e1 : ¬ (L : Int) < 5 := by omega
        by_cases b2 : 9 < L
        · have e2 : (9 : Int) < (L : Int) := by omega
          have hnone : T.parseOf s = none := by
            rw [← HT.out]; exact T.rest_none s fun _ => T.num_len _ (Or.inr (by rw [List.length_drop]; omega))
          have HE := hide hnone
          clear hnone hL
          go_wp2
          go_ret2
          exact ⟨by rw [HE.out]; rfl, hB⟩
        · have e2 : ¬ (9 : Int) < (L : Int) := by omega
          have h4 : 4 ≤ L := by omega
          have hext := ext_take s 4
          obtain ⟨tk, htk⟩ : ∃ tk, s.take 4 = tk := ⟨_, rfl⟩
          rw [htk] at hext
          by_cases b3 : tk = [84, 89, 80, 69]
          · have e3 : (tk == [84, 89, 80, 69]) = true := by rw [b3]; rfl
            have htk2 : s.take 4 = T.typeW := htk.trans b3
            have hi4 : (Instr.index 9 (.string ⟨s.toArray⟩) (.int .i64 4)).run Tryd.prog wr = .ok (.int .u8 ((s.getD 4 0).toNat : Int)) wr := str_idx s 4 (by omega) wr
            have h5 := T.rest_some s htk2
            rw [HT.out] at h5
            obtain ⟨d, hd⟩ : ∃ d, s.drop 4 = d := ⟨_, rfl⟩
            have hdl : d.length = L - 4 := by rw [← hd, List.length_drop, hL]
            have hgd : ∀ i, s.getD (4 + i) 0 = d.getD i 0 := fun i => by
              rw [← hd, List.getD_eq_getElem?_getD, List.getD_eq_getElem?_getD, List.getElem?_drop]
            rw [hd] at h5
            have hg0 : s.getD 4 0 = d.getD 0 0 := hgd 0
            rw [hg0] at hi4
            obtain ⟨c4, hc4⟩ : ∃ c4, d.getD 0 0 = c4 := ⟨_, rfl⟩
            rw [hc4] at hi4
            have HC4 := hide hc4
            have H5 := hide h5
            have HG := hide hgd
            have HL := hide hL
            have hdl2 : d.length ≤ 5 := by omega
            have hdl1 : 1 ≤ d.length := by omega
            have HDL := hide hdl
            clear htk htk2 h5 hd hg0 hc4 HT hdl hgd hL b3
            by_cases b4 : 5 < L ∧ c4 = 48
            · obtain ⟨b4, b5⟩ := b4
              have e4 : (5 : Int) < (L : Int) := by omega
              have e5 : ((c4.toNat : Int) == 48) = true := by rw [b5]; rfl
              have hnone : T.parseOf s = none := by
                rw [H5.out]; exact T.num_lead d (by have := HDL.out; omega) (by rw [HC4.out]; exact b5)
              have HE := hide hnone
              clear hnone b5
              go_wp2
              go_ret2
              exact ⟨by rw [HE.out]; rfl, hB⟩
            · have HLD : Hid (1 < d.length → d.getD 0 0 ≠ 48) := fun hl he => b4 ⟨by have := HDL.out; omega, by rw [← HC4.out]; exact he⟩
              by_cases h5L : 5 < L
              · have hc48 : c4.toNat ≠ 48 := fun e => b4 ⟨h5L, UInt8.toNat_inj.1 e⟩
                have e4 : (5 : Int) < (L : Int) := by omega
                have e5 : ((c4.toNat : Int) == 48) = false := by simp; omega
                clear b4 hc48
                go_wp2
                go_loopw [7, 8] (fun v u W => ∃ i : Nat, u = .int .i64 ((4 + i : Nat) : Int) ∧ i ≤ d.length ∧ v = .int .i64 ((T.val 0 (d.take i) : Nat) : Int) ∧ W = wr ∧ ∀ c ∈ d.take i, T.dig c) (fun _ u _ => L - (intOf u).toNat)
                case atStart => exact ⟨0, rfl, by omega, by rw [List.take_zero, T.val_nil]; rfl, rfl, by simp⟩
                case round =>
                  obtain ⟨i, rfl, hi, rfl, rfl, hall⟩ := hrel
                  have hLd := HDL.out
                  have hvs := T.val_small (d.take i) hall 5 (by rw [List.length_take]; omega)
                  have HA := hide hall
                  clear hall
                  by_cases hid : i < d.length
                  · have hix := str_idx s (4 + i) (by rw [HL.out]; omega) wr
                    rw [HG.out i] at hix
                    have hvn := T.val_next d i hid
                    have htn : d.take (i + 1) = d.take i ++ [d.getD i 0] := by
                      rw [List.take_succ_eq_append_getElem hid, List.getD_eq_getElem?_getD, List.getElem?_eq_getElem hid]; rfl
                    have hbad := T.num_bad d i hid
                    obtain ⟨c, hc⟩ : ∃ c, d.getD i 0 = c := ⟨_, rfl⟩
                    rw [hc] at hix hvn htn hbad
                    have HB := hide hbad
                    have HV := hide hvn
                    have HT2 := hide htn
                    have cd := fun W => digit_any c W
                    obtain ⟨V, hV⟩ : ∃ V, T.val 0 (d.take i) = V := ⟨_, rfl⟩
                    rw [hV] at hvs
                    rw [hV] at HV
                    obtain ⟨k, hk⟩ : ∃ k : Nat, 4 + i = k := ⟨_, rfl⟩
                    rw [hk] at hix
                    have hkL : k < L := by omega
                    have ekL : (k : Int) < (L : Int) := by omega
                    clear hbad hvn htn hc
                    by_cases hdg : 48 ≤ c.toNat ∧ c.toNat ≤ 57
                    · rw [decide_eq_true hdg] at cd
                      obtain ⟨hd1, hd2⟩ := hdg
                      have HDG : Hid (48 ≤ c.toNat ∧ c.toNat ≤ 57) := ⟨hd1, hd2⟩
                      have e8 : IntKind.u8.wrap ((c.toNat : Int) - 48) = ((c.toNat - 48 : Nat) : Int) := by rw [IntKind.wrap_u8]; omega
                      obtain ⟨m, hm⟩ : ∃ m : Nat, c.toNat - 48 = m := ⟨_, rfl⟩
                      rw [hm] at e8 HV
                      have e9 : IntKind.i64.wrap (m : Int) = (m : Int) := wrap_nat m (by omega)
                      have hm9 : m ≤ 9 := by omega
                      rw [hV, hk]
                      clear hm hd1 hd2
                      go_wp2_with (go_at_call 24; refine (cd _).mono ?_; rintro e w5 ⟨rfl, rfl⟩)
                      go_roundw
                      case rel => exact ⟨i + 1, by congr 1; omega, by omega, by rw [HV.out]; congr 1; omega, by trivial, fun x hx => by
                        rw [HT2.out] at hx
                        rcases List.mem_append.1 hx with hx | hx
                        · exact HA.out x hx
                        · obtain rfl : x = c := by simpa using hx
                          exact HDG.out⟩
                      case measure => simp [intOf]; omega
                    · rw [decide_eq_false hdg] at cd
                      have hnone : T.parseOf s = none := by rw [H5.out]; exact HB.out hdg
                      have HE := hide hnone
                      clear hnone hdg
                      rw [hV, hk]
                      go_wp2_with (go_at_call 24; refine (cd _).mono ?_; rintro e w5 ⟨rfl, rfl⟩)
                      go_ret2
                      exact ⟨by rw [HE.out]; rfl, hB⟩
                  · obtain rfl : i = d.length := by omega
                    have hta : d.take d.length = d := List.take_length
                    rw [hta] at HA hvs ⊢
                    have hne : d ≠ [] := by intro e; subst e; simp at hdl1
                    have eend : ¬ ((4 + d.length : Nat) : Int) < (L : Int) := by omega
                    by_cases hg : 65535 < T.val 0 d
                    · have hnone : T.parseOf s = none := by rw [H5.out]; exact T.num_great d hg
                      have HE := hide hnone
                      clear hnone
                      generalize T.val 0 d = V at *
                      have eg : (65535 : Int) < (V : Int) := by omega
                      generalize 4 + d.length = k at *
                      go_wp2
                      go_ret2
                      exact ⟨by rw [HE.out]; rfl, hB⟩
                    · have hsome : T.parseOf s = some (T.val 0 d) := by rw [H5.out]; exact T.num_good d hne HA.out HLD.out (by omega)
                      have HE := hide hsome
                      clear hsome
                      generalize T.val 0 d = V at *
                      have eg : ¬ (65535 : Int) < (V : Int) := by omega
                      have ew : IntKind.u16.wrap (V : Int) = (V : Int) := by rw [IntKind.wrap_u16]; omega
                      generalize 4 + d.length = k at *
                      go_wp2
                      go_ret2
                      exact ⟨by rw [HE.out]; rfl, hB⟩
              · have e4 : ¬ (5 : Int) < (L : Int) := by omega
                clear b4
                go_wp2
                go_loopw [7, 8] (fun v u W => ∃ i : Nat, u = .int .i64 ((4 + i : Nat) : Int) ∧ i ≤ d.length ∧ v = .int .i64 ((T.val 0 (d.take i) : Nat) : Int) ∧ W = wr ∧ ∀ c ∈ d.take i, T.dig c) (fun _ u _ => L - (intOf u).toNat)
                case atStart => exact ⟨0, rfl, by omega, by rw [List.take_zero, T.val_nil]; rfl, rfl, by simp⟩
                case round =>
                  obtain ⟨i, rfl, hi, rfl, rfl, hall⟩ := hrel
                  have hLd := HDL.out
                  have hvs := T.val_small (d.take i) hall 5 (by rw [List.length_take]; omega)
                  have HA := hide hall
                  clear hall
                  by_cases hid : i < d.length
                  · have hix := str_idx s (4 + i) (by rw [HL.out]; omega) wr
                    rw [HG.out i] at hix
                    have hvn := T.val_next d i hid
                    have htn : d.take (i + 1) = d.take i ++ [d.getD i 0] := by
                      rw [List.take_succ_eq_append_getElem hid, List.getD_eq_getElem?_getD, List.getElem?_eq_getElem hid]; rfl
                    have hbad := T.num_bad d i hid
                    obtain ⟨c, hc⟩ : ∃ c, d.getD i 0 = c := ⟨_, rfl⟩
                    rw [hc] at hix hvn htn hbad
                    have HB := hide hbad
                    have HV := hide hvn
                    have HT2 := hide htn
                    have cd := fun W => digit_any c W
                    obtain ⟨V, hV⟩ : ∃ V, T.val 0 (d.take i) = V := ⟨_, rfl⟩
                    rw [hV] at hvs
                    rw [hV] at HV
                    obtain ⟨k, hk⟩ : ∃ k : Nat, 4 + i = k := ⟨_, rfl⟩
                    rw [hk] at hix
                    have hkL : k < L := by omega
                    have ekL : (k : Int) < (L : Int) := by omega
                    clear hbad hvn htn hc
                    by_cases hdg : 48 ≤ c.toNat ∧ c.toNat ≤ 57
                    · rw [decide_eq_true hdg] at cd
                      obtain ⟨hd1, hd2⟩ := hdg
                      have HDG : Hid (48 ≤ c.toNat ∧ c.toNat ≤ 57) := ⟨hd1, hd2⟩
                      have e8 : IntKind.u8.wrap ((c.toNat : Int) - 48) = ((c.toNat - 48 : Nat) : Int) := by rw [IntKind.wrap_u8]; omega
                      obtain ⟨m, hm⟩ : ∃ m : Nat, c.toNat - 48 = m := ⟨_, rfl⟩
                      rw [hm] at e8 HV
                      have e9 : IntKind.i64.wrap (m : Int) = (m : Int) := wrap_nat m (by omega)
                      have hm9 : m ≤ 9 := by omega
                      rw [hV, hk]
                      clear hm hd1 hd2
                      go_wp2_with (go_at_call 24; refine (cd _).mono ?_; rintro e w5 ⟨rfl, rfl⟩)
                      go_roundw
                      case rel => exact ⟨i + 1, by congr 1; omega, by omega, by rw [HV.out]; congr 1; omega, by trivial, fun x hx => by
                        rw [HT2.out] at hx
                        rcases List.mem_append.1 hx with hx | hx
                        · exact HA.out x hx
                        · obtain rfl : x = c := by simpa using hx
                          exact HDG.out⟩
                      case measure => simp [intOf]; omega
                    · rw [decide_eq_false hdg] at cd
                      have hnone : T.parseOf s = none := by rw [H5.out]; exact HB.out hdg
                      have HE := hide hnone
                      clear hnone hdg
                      rw [hV, hk]
                      go_wp2_with (go_at_call 24; refine (cd _).mono ?_; rintro e w5 ⟨rfl, rfl⟩)
                      go_ret2
                      exact ⟨by rw [HE.out]; rfl, hB⟩
                  · obtain rfl : i = d.length := by omega
                    have hta : d.take d.length = d := List.take_length
                    rw [hta] at HA hvs ⊢
                    have hne : d ≠ [] := by intro e; subst e; simp at hdl1
                    have eend : ¬ ((4 + d.length : Nat) : Int) < (L : Int) := by omega
                    by_cases hg : 65535 < T.val 0 d
                    · have hnone : T.parseOf s = none := by rw [H5.out]; exact T.num_great d hg
                      have HE := hide hnone
                      clear hnone
                      generalize T.val 0 d = V at *
                      have eg : (65535 : Int) < (V : Int) := by omega
                      generalize 4 + d.length = k at *
                      go_wp2
                      go_ret2
                      exact ⟨by rw [HE.out]; rfl, hB⟩
                    · have hsome : T.parseOf s = some (T.val 0 d) := by rw [H5.out]; exact T.num_good d hne HA.out HLD.out (by omega)
                      have HE := hide hsome
                      clear hsome
                      generalize T.val 0 d = V at *
                      have eg : ¬ (65535 : Int) < (V : Int) := by omega
                      have ew : IntKind.u16.wrap (V : Int) = (V : Int) := by rw [IntKind.wrap_u16]; omega
                      generalize 4 + d.length = k at *
                      go_wp2
                      go_ret2
                      exact ⟨by rw [HE.out]; rfl, hB⟩
          · have e3 : (tk == [84, 89, 80, 69]) = false := by simpa using b3
            have hnone : T.parseOf s = none := by
              rw [← HT.out]; exact T.rest_none s fun h => absurd (htk.symm.trans h) b3
            have HE := hide hnone
            clear hnone hL htk b3
            go_wp2
            go_ret2
            exact ⟨by rw [HE.out]; rfl, hB⟩
end Go.Proofs.YtikjhacgihohiaaDoor
