/- signetref3's Parse: the walk. -/
import Derived.Test.YtecikfdnnjinpaaDoorRefP
import Derived.Test.YtecikfdnnjinpaaDoorRef2
namespace Go.Proofs.YtecikfdnnjinpaaDoor
open Go.RowKit
theorem digit_c (c : UInt8) (w : World) : Calls Tryd.prog 36 #[.int .u8 (c.toNat : Int)] w fun e w' => e = .returned (.bool (N.dig c.toNat)) ∧ w' = w := by
  have hc := c.toNat_lt
  rcases Nat.lt_or_ge c.toNat 48 with h | h
  · have hd : N.dig c.toNat = false := decide_eq_false (by omega)
    rw [hd]
    go_enter Tryd.func36, Tryd.ntmps36
    go_wp2
    go_ret
    exact ⟨rfl, rfl⟩
  · rcases Nat.lt_or_ge 57 c.toNat with h2 | h2
    · have hd : N.dig c.toNat = false := decide_eq_false (by omega)
      rw [hd]
      go_enter Tryd.func36, Tryd.ntmps36
      go_wp2
      go_ret
      exact ⟨by simp; omega, rfl⟩
    · have hd : N.dig c.toNat = true := decide_eq_true (by omega)
      rw [hd]
      go_enter Tryd.func36, Tryd.ntmps36
      go_wp2
      go_ret
      exact ⟨by simp; omega, rfl⟩
theorem w64_id (x : Int) (h0 : 0 ≤ x) (h1 : x ≤ 1000000) : wrap64 x = x := by unfold wrap64; omega
theorem w64_sum (a b c V : Nat) (ha : a ≤ 9) (hb : b ≤ 9) (hc : c ≤ 9) (h : 100 * a + 10 * b + c = V) : wrap64 (wrap64 (wrap64 (100 * wrap64 (a : Int)) + wrap64 (10 * wrap64 (b : Int))) + wrap64 (c : Int)) = (V : Int) := by
  rw [w64_id (a : Int) (by omega) (by omega), w64_id (b : Int) (by omega) (by omega), w64_id (c : Int) (by omega) (by omega), w64_id (100 * (a : Int)) (by omega) (by omega), w64_id (10 * (b : Int)) (by omega) (by omega), w64_id (100 * (a : Int) + 10 * (b : Int)) (by omega) (by omega), w64_id _ (by omega) (by omega)]
  omega
theorem own_grownSB {w w' : World} {B : Nat} {v v' : Value} {n : List (List UInt8)} {l : List UInt8} (h : OwnS w B v n) (h' : OwnB w B v' l) (hg : w.grownBy w' v.ownBlock) : OwnB w' B v' l := own_grown h h' (by decide) hg
theorem own_grownBS {w w' : World} {B : Nat} {v v' : Value} {n : List (List UInt8)} {l : List UInt8} (h : OwnB w B v l) (h' : OwnS w B v' n) (hg : w.grownBy w' v.ownBlock) : OwnS w' B v' n := own_grown h h' (by decide) hg
set_option maxRecDepth 3000 in
set_option maxHeartbeats 4000000 in
theorem rParse_any (s : ByteArray) (bs : List UInt8) (w : World) (hs : Hid (s.data.toList = bs)) (hn : s.size ≤ 100000) :
    Calls Tryd.prog 11 #[.string s] w fun e w' => Parsed bs w.heap.size w e w' := by
  have HLEN : Hid (bs.length = s.size) := by rw [← hs.out]; exact rfl
  have hnot : ∀ (x : Bool) (w : World), (Op.unary .not (.bool x)).run Tryd.prog w = .ok (.bool (!x)) w := fun _ _ => rfl
  by_cases hdot : bs = [46]
  · have e : N.rd bs = some [] := by unfold N.rd; rw [if_pos hdot]
    have es : s = ⟨#[46]⟩ := by
      have := hs.out
      rw [hdot] at this
      obtain ⟨⟨l⟩⟩ := s
      simp at this; rw [this]
    have HE := hide e
    subst es
    clear e hdot
    go_enter Tryd.func11, Tryd.ntmps11
    go_wp2
    go_ret2
    exact ⟨Or.inl ⟨[], _, HE.out, rfl, rfl, OwnS.nil _ _⟩, Below.refl _ _⟩
  · have hne : (s.toList == [46]) = false := by
      rw [beq_eq_false_iff_ne, Lib.toList_data, hs.out]; exact hdot
    have HD := hide hdot
    clear hdot
    by_cases hemp : bs = []
    · have HE : Hid (N.rd bs = none) := by rw [hemp]; show _ = _; decide +kernel
      have hem : s.toList.isEmpty = true := by rw [Lib.toList_data, hs.out, hemp]; rfl
      have hem2 : (s.toList == []) = true := by rw [Lib.toList_data, hs.out, hemp]; rfl
      clear hemp
      go_enter Tryd.func11, Tryd.ntmps11
      go_wp2
      go_ret2
      exact ⟨Or.inr ⟨30, Or.inl ⟨HE.out, rfl⟩, by omega, rfl⟩, Below.refl _ _⟩
    · have hem : s.toList.isEmpty = false := by rw [Lib.toList_data, hs.out]; cases bs <;> simp_all
      have hem2 : (s.toList == []) = false := by rw [beq_eq_false_iff_ne, Lib.toList_data, hs.out]; exact hemp
      have hpos : 0 < s.size := by
        rw [← HLEN.out]; exact List.length_pos_iff.2 hemp
      clear hemp
      go_enter Tryd.func11, Tryd.ntmps11
      go_wp2
      clear hem hem2 hne
      go_loopw [4, 5, 6] (fun vn vl i wr => ∃ (j : Nat) (n : List (List UInt8)) (l : List UInt8), i = .int .i64 (j : Int) ∧ j ≤ s.size ∧ n.length + l.length ≤ j ∧ Hid (N.run N.St.zero (bs.take j) = some (N.st0 n l)) ∧ Hid (j = 0 ∨ n ≠ [] ∨ l ≠ []) ∧ OwnS wr w.heap.size vn n ∧ OwnB wr w.heap.size vl l ∧ Below w.heap.size w wr) (fun _ _ i _ => s.size - (intOf i).toNat)
      case atStart => exact ⟨0, [], [], rfl, by omega, by simp, rfl, Or.inl rfl, OwnS.nil _ _, OwnB.nil _ _, Below.refl _ _⟩
      case round =>
        obtain ⟨j, n, l, rfl, hj, hnl, HR, HNE, hOS, hOB, hB⟩ := hrel
        have hz := hB.size
        by_cases hlt : j < s.size
        · have hxs : s[j]'hlt = bs.getD j 0 := by rw [← hs.out]; exact str_at s j hlt
          have hld := @N.go_dot bs j n l HR.out (by have := HLEN.out; omega)
          have hpl := @N.go_plain bs j n l HR.out (by have := HLEN.out; omega)
          have hnd : l = [] → (bs.getD j 0).toNat = 46 → N.rd bs = none := fun hl0 hc => N.rd_fell HD.out (j + 1) (by have h := HR.out; rw [hl0] at h; exact N.no_dot h (by have := HLEN.out; omega) hc)
          have hne1 := @N.no_end bs HD.out j n l HR.out
          have hge := @N.go_esc bs j n l HR.out
          have hnn := @N.no_num bs HD.out j n l HR.out
          have hni := @N.num_is bs j n l HR.out
          generalize hx : bs.getD j 0 = x at hxs hld hpl hnd hne1 hge hnn hni
          have HX := hide hx
          have HLD := hide hld
          have HPL := hide hpl
          have HND := hide hnd
          have HNE1 := hide hne1
          have HGE := hide hge
          have HNN := hide hnn
          have HNI := hide hni
          clear hx hld hpl hnd hne1 hge hnn hni
          have hxb := x.toNat_lt
          by_cases h46 : x.toNat = 46
          · have hxi : ((x.toNat : Int) == 46) = true := by rw [h46]; rfl
            by_cases hl0 : l = []
            · have HRD := hide (HND.out hl0 h46)
              obtain ⟨al, cl, rfl, _, _, _, _⟩ := hOB.open
              have hll : l.length = 0 := by rw [hl0]; rfl
              rw [hll]
              clear hOB
              go_wp2
              go_ret2
              exact ⟨Or.inr ⟨30, Or.inl ⟨HRD.out, rfl⟩, by omega, rfl⟩, hB⟩
            · have HN2 := hide (HLD.out h46 hl0)
              obtain ⟨al, cl, rfl, hSl, _, _, _⟩ := hOB.open
              have hst := run_str l.length cl hSl rfl
              have hlne : ((l.length : Int) == 0) = false := by rw [beq_eq_false_iff_ne]; have := List.length_pos_iff.2 hl0; omega
              clear hSl hOB
              go_wp2_with (at_builtin; refine wpList_append_S rfl (.tmp 76) (.tmp 79) rfl w.heap.size _ n rfl (by exact hOS.alloc _) _ _ _ [l] rfl rfl (SlS.one _ _ _) (by simp; omega) (by simp; omega) ?_; intro v4 w4 hO4 hG4; have hB4 := grown_belowS (hOS.alloc _) hG4 (hB.alloc hz _) (by simp; omega); clear hG4 hOS)
              go_roundw
              case rel => exact ⟨j + 1, n ++ [l], [], by go_num, by omega, by simp; omega, HN2, (by right; left; simp), hO4, OwnB.nil _ _, hB4⟩
              case measure => simp [intOf]; omega
          · have hxi : ((x.toNat : Int) == 46) = false := by simp; omega
            by_cases h92 : x.toNat = 92
            · have hxi2 : ((x.toNat : Int) != 92) = false := by simp; omega
              rcases Nat.lt_or_ge (j + 1) s.size with hj1 | hj1
              · have hj1i : ((j : Int) + 1 : Int) < (s.size : Int) := by omega
                have hys : s[j + 1]'hj1 = bs.getD (j + 1) 0 := by rw [← hs.out]; exact str_at s (j + 1) hj1
                have hge := HGE.out (by have := HLEN.out; omega) h92
                have hnn := HNN.out (by have := HLEN.out; omega) h92
                have hni : j + 3 < s.size → _ := fun h => HNI.out (by have := HLEN.out; omega) h92
                generalize hy : bs.getD (j + 1) 0 = y at hys hge hnn hni
                have hyb := y.toNat_lt
                have HY := hide hy
                have HGE2 := hide hge
                have HNN2 := hide hnn
                have HNI2 := hide hni
                clear hy hge hnn hni HND HLD HPL HNE1 HGE HNN HNI
                cases hdy : N.dig y.toNat with
                | false =>
                  have HN2 := hide (HGE2.out hdy)
                  have HDY := hide hdy
                  clear hdy
                  go_wp2_with (first
                    | (go_at_call 36; refine (digit_c y _).mono ?_; rw [HDY.out]; rintro e w3 ⟨rfl, rfl⟩)
                    | (at_builtin; refine wpList_append_B rfl (.tmp 107) (.tmp 109) rfl w.heap.size _ l rfl (by exact hOB.alloc _) _ _ _ [y] rfl rfl (SlL.oneI _ _ _ _ (by rfl)) (by simp) (by simp; omega) (by simp; omega) ?_; intro v4 w4 hO4 hG4; have hB4 := grown_below (hOB.alloc _) hG4 (hB.alloc hz _) (by simp; omega); have hOS4 := own_grownBS (hOB.alloc _) (hOS.alloc _) hG4; clear hG4 hOS hOB))
                  go_roundw
                  case rel => exact ⟨j + 2, n, l ++ [y], by go_num, by omega, by simp; omega, HN2, (by right; right; simp), hOS4, hO4, hB4⟩
                  case measure => simp [intOf]; omega
                | true =>
                  have HDY := hide hdy
                  have hyd := N.dig_true hdy
                  clear hdy
                  rcases Nat.lt_or_ge (j + 3) s.size with hj3 | hj3
                  · have hj3i : ¬ ((s.size : Int) ≤ (j : Int) + 3) := by omega
                    have hj3j : (j : Int) + 3 < (s.size : Int) := by omega
                    have hj2j : (j : Int) + 2 < (s.size : Int) := by omega
                    have hus : s[j + 2]'(by omega) = bs.getD (j + 2) 0 := by rw [← hs.out]; exact str_at s (j + 2) (by omega)
                    have hvs : s[j + 3]'hj3 = bs.getD (j + 3) 0 := by rw [← hs.out]; exact str_at s (j + 3) hj3
                    have hni := HNI2.out hj3 HDY.out
                    generalize hu : bs.getD (j + 2) 0 = u at hus hni
                    generalize hv : bs.getD (j + 3) 0 = v at hvs hni
                    have hub := u.toNat_lt
                    have hvb := v.toNat_lt
                    have HNI3 := hide hni
                    clear hu hv hni HNI2 HNN2 HGE2
                    cases hdu : N.dig u.toNat with
                    | false =>
                      have HRD : Hid (N.rd bs = none) := N.rd_fell HD.out (j + 4) (by rw [HNI3.out, if_neg (by simp [hdu])])
                      have HDU := hide hdu
                      clear hdu
                      go_wp2_with (first
                        | (go_at_call_of 36 y; refine (digit_c y _).mono ?_; rw [HDY.out]; rintro e w3 ⟨rfl, rfl⟩)
                        | (go_at_call_of 36 u; refine (digit_c u _).mono ?_; rw [HDU.out]; rintro e w3 ⟨rfl, rfl⟩))
                      go_ret2
                      exact ⟨Or.inr ⟨30, Or.inl ⟨HRD.out, rfl⟩, by omega, rfl⟩, hB⟩
                    | true =>
                      have HDU := hide hdu
                      have hud := N.dig_true hdu
                      clear hdu
                      cases hdv : N.dig v.toNat with
                      | false =>
                        have HRD : Hid (N.rd bs = none) := N.rd_fell HD.out (j + 4) (by rw [HNI3.out, if_neg (by simp [hdv])])
                        have HDV := hide hdv
                        clear hdv
                        go_wp2_with (first
                          | (go_at_call_of 36 y; refine (digit_c y _).mono ?_; rw [HDY.out]; rintro e w3 ⟨rfl, rfl⟩)
                          | (go_at_call_of 36 u; refine (digit_c u _).mono ?_; rw [HDU.out]; rintro e w3 ⟨rfl, rfl⟩)
                          | (go_at_call_of 36 v; refine (digit_c v _).mono ?_; rw [HDV.out]; rintro e w3 ⟨rfl, rfl⟩))
                        go_ret2
                        exact ⟨Or.inr ⟨30, Or.inl ⟨HRD.out, rfl⟩, by omega, rfl⟩, hB⟩
                      | true =>
                        have HDV := hide hdv
                        have hvd := N.dig_true hdv
                        clear hdv
                        have hni := HNI3.out
                        rw [if_pos ⟨HDU.out, HDV.out⟩] at hni
                        obtain ⟨d1, hd1⟩ : ∃ d1, y.toNat - 48 = d1 := ⟨_, rfl⟩
                        obtain ⟨d2, hd2⟩ : ∃ d2, u.toNat - 48 = d2 := ⟨_, rfl⟩
                        obtain ⟨d3, hd3⟩ : ∃ d3, v.toNat - 48 = d3 := ⟨_, rfl⟩
                        rw [hd1, hd2, hd3] at hni
                        have f1 : IntKind.u8.wrap ((y.toNat : Int) - 48) = (d1 : Int) := by rw [IntKind.wrap_u8]; omega
                        have f2 : IntKind.u8.wrap ((u.toNat : Int) - 48) = (d2 : Int) := by rw [IntKind.wrap_u8]; omega
                        have f3 : IntKind.u8.wrap ((v.toNat : Int) - 48) = (d3 : Int) := by rw [IntKind.wrap_u8]; omega
                        have g1 : IntKind.i64.wrap (100 * (d1 : Int)) = 100 * (d1 : Int) := by rw [IntKind.wrap_i64]; omega
                        have g2 : IntKind.i64.wrap (10 * (d2 : Int)) = 10 * (d2 : Int) := by rw [IntKind.wrap_i64]; omega
                        have g3 : IntKind.i64.wrap (100 * (d1 : Int) + 10 * (d2 : Int)) = 100 * (d1 : Int) + 10 * (d2 : Int) := by rw [IntKind.wrap_i64]; omega
                        have g5 : IntKind.i64.wrap ((j : Int) + 1) = (j : Int) + 1 := by rw [IntKind.wrap_i64]; omega
                        have g6 : IntKind.i64.wrap ((j : Int) + 2) = (j : Int) + 2 := by rw [IntKind.wrap_i64]; omega
                        have g7 : IntKind.i64.wrap ((j : Int) + 3) = (j : Int) + 3 := by rw [IntKind.wrap_i64]; omega
                        obtain ⟨V, hV⟩ : ∃ V, 100 * d1 + 10 * d2 + d3 = V := ⟨_, rfl⟩
                        rw [hV] at hni
                        have g4 : IntKind.i64.wrap (100 * (d1 : Int) + 10 * (d2 : Int) + (d3 : Int)) = (V : Int) := by rw [IntKind.wrap_i64]; omega
                        have hVb : V ≤ 999 := by omega
                        have HNI4 := hide hni
                        have hW : wrap64 (wrap64 (wrap64 (100 * wrap64 (d1 : Int)) + wrap64 (10 * wrap64 (d2 : Int))) + wrap64 (d3 : Int)) = (V : Int) := w64_sum d1 d2 d3 V (by omega) (by omega) (by omega) hV
                        have HW := hide hW
                        clear hni HNI3 hd1 hd2 hd3 hV hW g1 g2 g3 g4
                        go_wp2_with (first
                          | (go_at_call_of 36 y; refine (digit_c y _).mono ?_; rw [HDY.out]; rintro e w3 ⟨rfl, rfl⟩)
                          | (go_at_call_of 36 u; refine (digit_c u _).mono ?_; rw [HDU.out]; rintro e w3 ⟨rfl, rfl⟩)
                          | (go_at_call_of 36 v; refine (digit_c v _).mono ?_; rw [HDV.out]; rintro e w3 ⟨rfl, rfl⟩))
                        go_quiet (fail)
                        rw [HW.out]
                        have hOS' : OwnS (w3.drewN nq) w.heap.size u4 n := hOS
                        have hOB' : OwnB (w3.drewN nq) w.heap.size u5 l := hOB
                        have hB' : Below w.heap.size w (w3.drewN nq) := hB.trans (drew_below _ ⟨nq, rfl⟩)
                        generalize w3.drewN nq = w5 at hOS' hOB' hB'
                        have hz5 := hB'.size
                        clear hOS hOB hB hz f1 f2 f3 g5 g6 g7
                        by_cases h255 : 255 < V
                        · have HRD : Hid (N.rd bs = none) := N.rd_fell HD.out (j + 4) (by rw [HNI4.out, if_pos h255])
                          go_wp2
                          go_ret2
                          exact ⟨Or.inr ⟨30, Or.inl ⟨HRD.out, rfl⟩, by omega, rfl⟩, hB'⟩
                        · have HN2 : Hid (N.run N.St.zero (bs.take (j + 4)) = some (N.st0 n (l ++ [UInt8.ofNat V]))) := by rw [HNI4.out, if_neg h255]; exact rfl
                          go_wp2_with (at_builtin; refine wpList_append_B rfl (.tmp 107) (.tmp 109) rfl w.heap.size _ l rfl (by exact hOB'.alloc _) _ _ _ [UInt8.ofNat V] rfl rfl (SlL.oneI _ _ _ _ (by first | rfl | (rw [UInt8.toNat_ofNat']; omega))) (by simp) (by simp; omega) (by simp; omega) ?_; intro v4 w4 hO4 hG4; have hB4 := grown_below (hOB'.alloc _) hG4 (hB'.alloc hz5 _) (by simp; omega); have hOS4 := own_grownBS (hOB'.alloc _) (hOS'.alloc _) hG4; clear hG4 hOS' hOB')
                          go_roundw
                          case rel => exact ⟨j + 4, n, l ++ [UInt8.ofNat V], by go_num, by omega, by simp; omega, HN2, (by right; right; simp), hOS4, hO4, hB4⟩
                          case measure => simp [intOf]; omega
                  · have HRD := hide (HNN2.out HDY.out (by have := HLEN.out; omega))
                    have hj3i : (s.size : Int) ≤ (j : Int) + 3 := by omega
                    go_wp2_with (go_at_call 36; refine (digit_c y _).mono ?_; rw [HDY.out]; rintro e w3 ⟨rfl, rfl⟩)
                    go_ret2
                    exact ⟨Or.inr ⟨30, Or.inl ⟨HRD.out, rfl⟩, by omega, rfl⟩, hB⟩
              · have HRD := hide (HNE1.out (by have := HLEN.out; omega) h92)
                have hj1i : (s.size : Int) ≤ (j : Int) + 1 := by omega
                go_wp2
                go_ret2
                exact ⟨Or.inr ⟨30, Or.inl ⟨HRD.out, rfl⟩, by omega, rfl⟩, hB⟩
            · have hxi2 : ((x.toNat : Int) != 92) = true := by simp; omega
              have HN2 := hide (HPL.out h46 h92)
              go_wp2_with (at_builtin; refine wpList_append_B rfl (.tmp 107) (.tmp 109) rfl w.heap.size _ l rfl (by exact hOB.alloc _) _ _ _ [x] rfl rfl (SlL.oneI _ _ _ _ (by rfl)) (by simp) (by simp; omega) (by simp; omega) ?_; intro v4 w4 hO4 hG4; have hB4 := grown_below (hOB.alloc _) hG4 (hB.alloc hz _) (by simp; omega); have hOS4 := own_grownBS (hOB.alloc _) (hOS.alloc _) hG4; clear hG4 hOS hOB)
              go_roundw
              case rel => exact ⟨j + 1, n, l ++ [x], by go_num, by omega, by simp; omega, HN2, (by right; right; simp), hOS4, hO4, hB4⟩
              case measure => simp [intOf]; omega
        · obtain rfl : j = s.size := by omega
          have HRN : Hid (N.run N.St.zero bs = some (N.st0 n l)) := by
            have h1 := HR.out
            rw [List.take_of_length_le (by have := HLEN.out; omega)] at h1
            exact h1
          obtain ⟨al, cl, rfl, hSl, _, _, _⟩ := hOB.open
          rcases Nat.eq_zero_or_pos l.length with hl0 | hl0
          · have hl1 : l = [] := List.eq_nil_of_length_eq_zero hl0
            have HRD : Hid (N.rd bs = some n) := by
              rw [N.rd_run HD.out, HRN.out, hl1]
              show N.fin (N.st0 n []) = _
              refine N.fin_same n ?_
              rcases HNE.out with h | h | h
              · omega
              · exact h
              · exact absurd hl1 h
            have HSM : Hid (N.Small n) := by
              obtain ⟨h1, h2⟩ := N.rd_bounds HRD.out
              have := HLEN.out
              exact ⟨by omega, fun l hl => by have := h2 l hl; omega⟩
            obtain ⟨an, cn, rfl, hSn, _, _, _⟩ := hOS.open
            have HSn := hide hSn
            obtain ⟨cc, hcc⟩ : ∃ cc, N.chk n = cc := ⟨_, rfl⟩
            have HC := hide hcc
            have HOS := hide hOS
            rw [hl0]
            clear hl1 hOB hOS hSl hSn hcc
            by_cases hc0 : cc = 0
            · subst hc0
              go_wp2_with (go_at_call 17; refine (rCheck_any n an n.length cn _ rfl (by exact HSn.out) HSM).mono ?_; rw [HC.out]; rintro e w2 ⟨rfl, rfl⟩)
              go_ret2
              exact ⟨Or.inl ⟨n, _, HRD.out, HC.out, rfl, HOS.out⟩, hB⟩
            · have hne : (cc != 0) = true := by simp [hc0]
              go_wp2_with (go_at_call 17; refine (rCheck_any n an n.length cn _ rfl (by exact HSn.out) HSM).mono ?_; rw [HC.out]; rintro e w2 ⟨rfl, rfl⟩)
              go_ret2
              exact ⟨Or.inr ⟨cc, Or.inr ⟨n, HRD.out, HC.out⟩, hc0, rfl⟩, hB⟩
          · have hl1 : l ≠ [] := List.length_pos_iff.1 hl0
            have HRD : Hid (N.rd bs = some (n ++ [l])) := by
              rw [N.rd_run HD.out, HRN.out]
              exact N.fin_more n l hl1
            have HSM : Hid (N.Small (n ++ [l])) := by
              obtain ⟨h1, h2⟩ := N.rd_bounds HRD.out
              have := HLEN.out
              exact ⟨by omega, fun l hl => by have := h2 l hl; omega⟩
            have hst := run_str l.length cl hSl rfl
            obtain ⟨cc, hcc⟩ : ∃ cc, N.chk (n ++ [l]) = cc := ⟨_, rfl⟩
            have HC := hide hcc
            have hlp : (0 : Int) < (l.length : Int) := by omega
            clear hl1 hOB hSl hcc
            by_cases hc0 : cc = 0
            · subst hc0
              go_wp2_with (first
                | (at_builtin; refine wpList_append_S rfl (.tmp 114) (.tmp 117) rfl w.heap.size _ n rfl (by exact hOS.alloc _) _ _ _ [l] rfl rfl (SlS.one _ _ _) (by simp; omega) (by simp; omega) ?_; intro v4 w4 hO4 hG4; have hB4 := grown_belowS (hOS.alloc _) hG4 (hB.alloc hz _) (by simp; omega); obtain ⟨a4, c4, rfl, hS4, _⟩ := hO4.open; have HS4 := hide hS4; have HO4 := hide hO4; clear hG4 hOS hS4 hO4)
                | (go_at_call 17; refine (rCheck_any (n ++ [l]) a4 (n.length + 1) c4 _ (by show _ = _; simp) (by exact HS4.out) HSM).mono ?_; rw [HC.out]; rintro e w2 ⟨rfl, rfl⟩))
              go_ret2
              exact ⟨Or.inl ⟨n ++ [l], _, HRD.out, HC.out, rfl, by have h := HO4.out; rw [show (n ++ [l]).length = n.length + 1 by simp] at h; exact h⟩, hB4⟩
            · have hne : (cc != 0) = true := by simp [hc0]
              go_wp2_with (first
                | (at_builtin; refine wpList_append_S rfl (.tmp 114) (.tmp 117) rfl w.heap.size _ n rfl (by exact hOS.alloc _) _ _ _ [l] rfl rfl (SlS.one _ _ _) (by simp; omega) (by simp; omega) ?_; intro v4 w4 hO4 hG4; have hB4 := grown_belowS (hOS.alloc _) hG4 (hB.alloc hz _) (by simp; omega); obtain ⟨a4, c4, rfl, hS4, _⟩ := hO4.open; have HS4 := hide hS4; have HO4 := hide hO4; clear hG4 hOS hS4 hO4)
                | (go_at_call 17; refine (rCheck_any (n ++ [l]) a4 (n.length + 1) c4 _ (by show _ = _; simp) (by exact HS4.out) HSM).mono ?_; rw [HC.out]; rintro e w2 ⟨rfl, rfl⟩))
              go_ret2
              exact ⟨Or.inr ⟨cc, Or.inr ⟨n ++ [l], HRD.out, HC.out⟩, hc0, rfl⟩, hB4⟩
end Go.Proofs.YtecikfdnnjinpaaDoor
