/- The reference: Bitmap, the whole. -/
import Derived.Test.YtikjhacgihohiaaDoorRefB
namespace Go.Proofs.YtikjhacgihohiaaDoor
open Go.RowKit
theorem OwnB.slo {w : World} {B n c : Nat} {a : Option Addr} {x : List UInt8} (h : OwnB w B (.slice a n c) x) : SlL w a x := by
  obtain ⟨a', c', e, hs, _⟩ := h.open
  cases e
  exact hs
theorem own_apart {w0 w w' : World} {B B2 : Nat} {v3 v6 : Value} {q x : List UInt8} (h3 : OwnB w0 B v3 q) (hB2 : w0.heap.size ≤ B2) (h6 : OwnB w B2 v6 x) (hg : w.grownBy w' v3.ownBlock) : OwnB w' B2 v6 x := by
  have h30 : w0.ownsRow B 5 1 v3 q.length (vb q) := h3
  have h60 : w.ownsRow B2 5 1 v6 x.length (vb x) := h6
  refine World.ownsRow.kept h60 hg ?_
  cases e6 : v6.ownBlock with
  | none => exact Or.inl rfl
  | some g6 =>
    refine Or.inr fun e => ?_
    have h1 := (h60.lt g6 e6).1
    have h2 := (h30.lt g6 e.symm).2
    omega
set_option maxRecDepth 10000 in
set_option maxHeartbeats 12800000 in
theorem rbitmap_any (l : List UInt16) (ao : Option Addr) (len cap : Nat) (w : World) (hl : Hid (l.length = len)) (hs : SlH w ao l) (hlen : len ≤ 20000) :
    Calls Tryd.prog 16 #[.slice ao len cap] w fun e w' => ∃ v c, e = .returned v ∧ T.IsClean l c ∧ OwnB w' w.heap.size v (T.bmp c) ∧ Below w.heap.size w w' := by
  have cc := rclean_any l ao len cap w hl hs hlen
  clear hs
  go_enter Tryd.func16, Tryd.ntmps16
  go_wp2_with (go_at_call 14; refine cc.mono ?_; rintro e w1 ⟨v1, c, rfl, hcl, hcn, hO1, hB1⟩)
  clear cc
  obtain ⟨a1, c1, rfl, hS1, _, hc1, hm1⟩ := hO1.open
  have hbl := T.bmp_len c.length c (Nat.le_refl _)
  have HCL := hide hcl
  have HRC := hide hcl.1
  have HS1 := hide hS1
  clear hcl hO1 hS1
  obtain ⟨n, hn⟩ : ∃ n, c.length = n := ⟨_, rfl⟩
  rw [hn] at hbl hcn hc1 ⊢
  have HN := hide hn
  clear hn
  go_loopw [3, 4] (fun v u W => ∃ (i : Nat) (q : List UInt8), u = .int .i64 (i : Int) ∧ i ≤ n ∧ OwnB W w1.heap.size v q ∧ Below w1.heap.size w1 W ∧ q ++ T.bmp (c.drop i) = T.bmp c) (fun _ u _ => n - (intOf u).toNat)
  case atStart => exact ⟨0, [], rfl, by omega, OwnB.nil _ _, Below.refl _ _, by simp⟩
  case round =>
    obtain ⟨i, q, rfl, hi, hOo, hBo, hE⟩ := hrel
    obtain ⟨W0, rfl⟩ : ∃ W0, W0 = wr := ⟨wr, rfl⟩
    have hzo := hBo.size
    by_cases hin : i < n
    · obtain ⟨b, o, rfl, hb, hc⟩ := HS1.out (by rw [HN.out]; omega)
      rw [HN.out] at hc
      have hlenq : q.length ≤ 1000000 := by
        have := congrArg List.length hE
        rw [List.length_append] at this; omega
      have hci := fun j (hj : j < n) => (hBo.cell (p := ⟨b, o + j, none⟩) hb).trans (hc j hj)
      obtain ⟨rest, hrd⟩ : ∃ rest, c.drop i = rest := ⟨_, rfl⟩
      have hrl : rest.length = n - i := by rw [← hrd, List.length_drop, HN.out]
      have hrg : ∀ j, c.getD (i + j) 0 = rest.getD j 0 := fun j => by
        rw [← hrd, List.getD_eq_getElem?_getD, List.getD_eq_getElem?_getD, List.getElem?_drop]
      obtain ⟨t, r, hr0⟩ : ∃ t r, rest = t :: r := by
        cases rest with
        | nil => simp at hrl; omega
        | cons t r => exact ⟨t, r, rfl⟩
      have hrr : T.Rising rest := by rw [← hrd]; exact T.rising_sub (List.drop_sublist _ _) HRC.out
      rw [hrd] at hE
      have ht0 : rest.getD 0 0 = t := by rw [hr0]; rfl
      have c0 := hci i hin
      rw [show c.getD i 0 = t by rw [← ht0]; exact hrg 0] at c0
      have et := hi_div t
      have HE := hide hE
      have HRD := hide hrd.symm
      have HRL := hide hrl
      have HRG := hide hrg
      have HR0 := hide hr0
      have HRR := hide hrr
      have HT0 := hide ht0
      have HC := hide hc
      clear hE hrd hrl hrg hr0 hrr ht0 hc hci
      go_wp2
      go_loopw [4, 6] (fun u v W => ∃ m : Nat, u = .int .i64 ((i + m : Nat) : Int) ∧ i + m ≤ n ∧ OwnB W W0.heap.size v (T.wb rest m) ∧ Below W0.heap.size W0 W ∧ ∀ j, j < m → T.hi (rest.getD j 0) = T.hi t) (fun u _ _ => n - (intOf u).toNat)
      case atStart => exact ⟨0, rfl, by omega, (by rw [T.wb_zero]; exact OwnB.nil _ _), Below.refl _ _, fun j hj => by omega⟩
      case round =>
        clear c0
        obtain ⟨m, rfl, him, hO6, hB2, hsm⟩ := hrel
        have HSM := hide hsm
        clear hsm
        have hz2 := hB2.size
        by_cases hkn : i + m < n
        · have ekn : ((i + m : Nat) : Int) < (n : Int) := by omega
          have cx := ((hB2.cell (p := ⟨b, o + (i + m), none⟩) (by show b < _; omega)).trans ((hBo.cell (p := ⟨b, o + (i + m), none⟩) hb).trans (HC.out (i + m) hkn)))
          rw [HRG.out m] at cx
          obtain ⟨x, hxd⟩ : ∃ x, rest.getD m 0 = x := ⟨_, rfl⟩
          rw [hxd] at cx
          have ex := hi_div x
          by_cases hsm0 : T.hi x = T.hi t
          · have hsame : Hid (T.hi (rest.getD m 0) = T.hi t) := by show T.hi (rest.getD m 0) = T.hi t; rw [hxd]; exact hsm0
            have e9 : (((T.hi x : Nat) : Int) == ((T.hi t : Nat) : Int)) = true := by rw [hsm0]; simp
            have hml : m < rest.length := by rw [HRL.out]; omega
            have hrise : T.Rise ((rest.take (m + 1)).map T.lo) := T.rise_lo t _ (T.rising_sub (List.take_sublist _ _) HRR.out) (fun y hy => by
              obtain ⟨j, hj, rfl⟩ := List.getElem_of_mem hy
              rw [List.length_take] at hj
              have hjm : j < m + 1 := by omega
              have e : (rest.take (m + 1))[j] = rest.getD j 0 := by
                rw [List.getElem_take, List.getD_eq_getElem?_getD, List.getElem?_eq_getElem (by omega)]; rfl
              rw [e]
              rcases Nat.lt_or_ge j m with h | h
              · exact HSM.out j h
              · obtain rfl : j = m := by omega
                exact hsame.out)
            have hrise0 : T.Rise ((rest.take m).map T.lo) := by
              rw [T.map_take_next rest m hml] at hrise; exact (List.pairwise_append.1 hrise).1
            have hmono := T.wb_mono rest m hml hrise
            have HNX := hide (T.wb_next rest m hml hrise0)
            have eand := lo_and x
            have hKl := T.lo_lt x
            rw [hxd] at hmono HNX
            obtain ⟨K, hK⟩ : ∃ K, T.lo x = K := ⟨_, rfl⟩
            rw [hK] at hmono HNX eand hKl
            obtain ⟨p, hp⟩ : ∃ p, K / 8 = p := ⟨_, rfl⟩
            rw [hp] at hmono HNX
            have ep : (K : Int) / 8 = (p : Int) := by omega
            have ep2 : Int.tdiv (K : Int) 8 = (p : Int) := by rw [Int.tdiv_eq_ediv_of_nonneg (by omega)]; exact ep
            have eK : IntKind.i64.wrap (K : Int) = (K : Int) := wrap_nat K (by omega)
            have hp32 : p < 32 := by omega
            clear hrise hrise0 hK hxd hsm0
            generalize hbl6 : T.wb rest m = bl at *
            clear hbl6
            go_wp2
            go_loopw [6] (fun v W => ∃ zc : Nat, OwnB W W0.heap.size v (bl ++ List.replicate zc 0) ∧ bl.length + zc ≤ p + 1 ∧ Below W0.heap.size W0 W) (fun v _ => p + 1 - lenOf v)
            case atStart => exact ⟨0, (by simpa using hO6), by omega, hB2⟩
            case round =>
              clear hO6 hB2 hz2 cx
              obtain ⟨zc, hO, hzc, hB2⟩ := hrel
              have hz2 := hB2.size
              have hbz : (bl ++ List.replicate zc (0 : UInt8)).length = bl.length + zc := by simp
              by_cases hlp : bl.length + zc ≤ p
              · obtain ⟨a6, c6, rfl, -, -, -, -⟩ := hO.open
                obtain ⟨Q, hQ⟩ : ∃ Q, bl.length + zc = Q := ⟨_, rfl⟩
                rw [hbz, hQ] at hO ⊢
                rw [hQ] at hbz
                have HO := hide hO
                have HBZ := hide hbz
                have elp : (Q : Int) ≤ (p : Int) := by omega
                have hQp : Q ≤ p := by omega
                have HQ := hide hQ
                clear hO hbz hQ hlp hzc
                go_wp2_with (at_builtin; refine wpList_append_B rfl (.tmp 43) (.tmp 44) rfl W0.heap.size (.slice a6 Q c6) (bl ++ List.replicate zc 0) rfl (by exact HO.out.alloc _) _ _ _ [0] rfl rfl (SlL.oneI _ _ _ _ (by rfl)) (by simp) (by rw [HBZ.out]; omega) (by simp; omega) ?_; intro v4 w4 hO4 hG4; have hB4 := grown_below (HO.out.alloc _) hG4 (hB2.alloc hz2 _) (by simp; omega); clear hG4)
                obtain ⟨a4, c4, rfl, -⟩ := hO4.open
                go_roundw
                case rel => exact ⟨zc + 1, (by rw [List.replicate_succ', ← List.append_assoc]; exact hO4), by have := HQ.out; omega, hB4⟩
                case measure =>
                  have := HBZ.out
                  simp [lenOf] at this ⊢; omega
              · obtain ⟨g6, c6, rfl, hbg, -, -, -, -⟩ := hO.form (by rw [hbz]; omega)
                obtain ⟨cy, cf, -⟩ := hO.cellf p (by rw [hbz]; omega)
                obtain ⟨y, hy⟩ : ∃ y, (bl ++ List.replicate zc (0 : UInt8)).getD p 0 = y := ⟨_, rfl⟩
                rw [hy] at cy
                have HY := hide hy
                have hQ2 : bl.length + zc = p + 1 := by omega
                obtain ⟨Q, hQ⟩ : ∃ Q, p + 1 = Q := ⟨_, rfl⟩
                rw [hbz, hQ2, hQ] at hO ⊢
                have HO := hide hO
                have HQ2 := hide hQ2
                have elp : ¬ (Q : Int) ≤ (p : Int) := by omega
                have ep3 : IntKind.i64.wrap (p : Int) = (p : Int) := wrap_nat p (by omega)
                have hpl : p < Q := by omega
                have hQ33 : Q ≤ 33 := by omega
                clear hO hy hbz hQ2 hQ hlp hzc
                rcases (by omega : K % 8 = 0 ∨ K % 8 = 1 ∨ K % 8 = 2 ∨ K % 8 = 3 ∨ K % 8 = 4 ∨ K % 8 = 5 ∨ K % 8 = 6 ∨ K % 8 = 7) with hr | hr | hr | hr | hr | hr | hr | hr
                · have hm : 2 ^ (7 - K % 8) = 128 := by rw [hr]
                  have hm2 : y.toNat ||| 128 < 256 := by have := T.or_small y (7 - K % 8) (by omega); rw [hm] at this; exact this
                  obtain ⟨z, hzz⟩ : ∃ z, UInt8.ofNat (y.toNat ||| 128) = z := ⟨_, rfl⟩
                  have e3 : bits .or .u8 (y.toNat : Int) 128 = (z.toNat : Int) := by
                    have := u8_or_nat y.toNat 128 y.toNat_lt (by omega)
                    rw [← hzz, T.nat8 _ hm2]; exact this
                  have er1 : (K : Int) % 8 = 0 := by omega
                  have er2 : Int.tmod (K : Int) 8 = 0 := by rw [Int.tmod_eq_emod_of_nonneg (by omega)]; exact er1
                  have HROW : Hid (T.wb rest (m + 1) = (bl ++ List.replicate zc 0).set p z) := by
                    show T.wb rest (m + 1) = _
                    rw [← HNX.out zc HQ2.out, T.setb_at, hp, HY.out, hm, hzz]
                  clear hzz hm hm2 hr
                  go_wp2
                  go_region
                  all_goals go_wp2
                  go_roundw
                  case rel => exact ⟨m + 1, by first | rfl | (congr 1; done) | (congr 1; omega), by omega, (by rw [HROW.out]; exact (HO.out.put p z).drewN 1), below_drew (hB2.setCell hbg _), fun j hj => by
                    rcases Nat.lt_or_ge j m with h | h
                    · exact HSM.out j h
                    · obtain rfl : j = m := by omega
                      exact hsame.out⟩
                  case measure => simp [intOf]; omega
                · have hm : 2 ^ (7 - K % 8) = 64 := by rw [hr]
                  have hm2 : y.toNat ||| 64 < 256 := by have := T.or_small y (7 - K % 8) (by omega); rw [hm] at this; exact this
                  obtain ⟨z, hzz⟩ : ∃ z, UInt8.ofNat (y.toNat ||| 64) = z := ⟨_, rfl⟩
                  have e3 : bits .or .u8 (y.toNat : Int) 64 = (z.toNat : Int) := by
                    have := u8_or_nat y.toNat 64 y.toNat_lt (by omega)
                    rw [← hzz, T.nat8 _ hm2]; exact this
                  have er1 : (K : Int) % 8 = 1 := by omega
                  have er2 : Int.tmod (K : Int) 8 = 1 := by rw [Int.tmod_eq_emod_of_nonneg (by omega)]; exact er1
                  have HROW : Hid (T.wb rest (m + 1) = (bl ++ List.replicate zc 0).set p z) := by
                    show T.wb rest (m + 1) = _
                    rw [← HNX.out zc HQ2.out, T.setb_at, hp, HY.out, hm, hzz]
                  clear hzz hm hm2 hr
                  go_wp2
                  go_region
                  all_goals go_wp2
                  go_roundw
                  case rel => exact ⟨m + 1, by first | rfl | (congr 1; done) | (congr 1; omega), by omega, (by rw [HROW.out]; exact (HO.out.put p z).drewN 1), below_drew (hB2.setCell hbg _), fun j hj => by
                    rcases Nat.lt_or_ge j m with h | h
                    · exact HSM.out j h
                    · obtain rfl : j = m := by omega
                      exact hsame.out⟩
                  case measure => simp [intOf]; omega
                · have hm : 2 ^ (7 - K % 8) = 32 := by rw [hr]
                  have hm2 : y.toNat ||| 32 < 256 := by have := T.or_small y (7 - K % 8) (by omega); rw [hm] at this; exact this
                  obtain ⟨z, hzz⟩ : ∃ z, UInt8.ofNat (y.toNat ||| 32) = z := ⟨_, rfl⟩
                  have e3 : bits .or .u8 (y.toNat : Int) 32 = (z.toNat : Int) := by
                    have := u8_or_nat y.toNat 32 y.toNat_lt (by omega)
                    rw [← hzz, T.nat8 _ hm2]; exact this
                  have er1 : (K : Int) % 8 = 2 := by omega
                  have er2 : Int.tmod (K : Int) 8 = 2 := by rw [Int.tmod_eq_emod_of_nonneg (by omega)]; exact er1
                  have HROW : Hid (T.wb rest (m + 1) = (bl ++ List.replicate zc 0).set p z) := by
                    show T.wb rest (m + 1) = _
                    rw [← HNX.out zc HQ2.out, T.setb_at, hp, HY.out, hm, hzz]
                  clear hzz hm hm2 hr
                  go_wp2
                  go_region
                  all_goals go_wp2
                  go_roundw
                  case rel => exact ⟨m + 1, by first | rfl | (congr 1; done) | (congr 1; omega), by omega, (by rw [HROW.out]; exact (HO.out.put p z).drewN 1), below_drew (hB2.setCell hbg _), fun j hj => by
                    rcases Nat.lt_or_ge j m with h | h
                    · exact HSM.out j h
                    · obtain rfl : j = m := by omega
                      exact hsame.out⟩
                  case measure => simp [intOf]; omega
                · have hm : 2 ^ (7 - K % 8) = 16 := by rw [hr]
                  have hm2 : y.toNat ||| 16 < 256 := by have := T.or_small y (7 - K % 8) (by omega); rw [hm] at this; exact this
                  obtain ⟨z, hzz⟩ : ∃ z, UInt8.ofNat (y.toNat ||| 16) = z := ⟨_, rfl⟩
                  have e3 : bits .or .u8 (y.toNat : Int) 16 = (z.toNat : Int) := by
                    have := u8_or_nat y.toNat 16 y.toNat_lt (by omega)
                    rw [← hzz, T.nat8 _ hm2]; exact this
                  have er1 : (K : Int) % 8 = 3 := by omega
                  have er2 : Int.tmod (K : Int) 8 = 3 := by rw [Int.tmod_eq_emod_of_nonneg (by omega)]; exact er1
                  have HROW : Hid (T.wb rest (m + 1) = (bl ++ List.replicate zc 0).set p z) := by
                    show T.wb rest (m + 1) = _
                    rw [← HNX.out zc HQ2.out, T.setb_at, hp, HY.out, hm, hzz]
                  clear hzz hm hm2 hr
                  go_wp2
                  go_region
                  all_goals go_wp2
                  go_roundw
                  case rel => exact ⟨m + 1, by first | rfl | (congr 1; done) | (congr 1; omega), by omega, (by rw [HROW.out]; exact (HO.out.put p z).drewN 1), below_drew (hB2.setCell hbg _), fun j hj => by
                    rcases Nat.lt_or_ge j m with h | h
                    · exact HSM.out j h
                    · obtain rfl : j = m := by omega
                      exact hsame.out⟩
                  case measure => simp [intOf]; omega
                · have hm : 2 ^ (7 - K % 8) = 8 := by rw [hr]
                  have hm2 : y.toNat ||| 8 < 256 := by have := T.or_small y (7 - K % 8) (by omega); rw [hm] at this; exact this
                  obtain ⟨z, hzz⟩ : ∃ z, UInt8.ofNat (y.toNat ||| 8) = z := ⟨_, rfl⟩
                  have e3 : bits .or .u8 (y.toNat : Int) 8 = (z.toNat : Int) := by
                    have := u8_or_nat y.toNat 8 y.toNat_lt (by omega)
                    rw [← hzz, T.nat8 _ hm2]; exact this
                  have er1 : (K : Int) % 8 = 4 := by omega
                  have er2 : Int.tmod (K : Int) 8 = 4 := by rw [Int.tmod_eq_emod_of_nonneg (by omega)]; exact er1
                  have HROW : Hid (T.wb rest (m + 1) = (bl ++ List.replicate zc 0).set p z) := by
                    show T.wb rest (m + 1) = _
                    rw [← HNX.out zc HQ2.out, T.setb_at, hp, HY.out, hm, hzz]
                  clear hzz hm hm2 hr
                  go_wp2
                  go_region
                  all_goals go_wp2
                  go_roundw
                  case rel => exact ⟨m + 1, by first | rfl | (congr 1; done) | (congr 1; omega), by omega, (by rw [HROW.out]; exact (HO.out.put p z).drewN 1), below_drew (hB2.setCell hbg _), fun j hj => by
                    rcases Nat.lt_or_ge j m with h | h
                    · exact HSM.out j h
                    · obtain rfl : j = m := by omega
                      exact hsame.out⟩
                  case measure => simp [intOf]; omega
                · have hm : 2 ^ (7 - K % 8) = 4 := by rw [hr]
                  have hm2 : y.toNat ||| 4 < 256 := by have := T.or_small y (7 - K % 8) (by omega); rw [hm] at this; exact this
                  obtain ⟨z, hzz⟩ : ∃ z, UInt8.ofNat (y.toNat ||| 4) = z := ⟨_, rfl⟩
                  have e3 : bits .or .u8 (y.toNat : Int) 4 = (z.toNat : Int) := by
                    have := u8_or_nat y.toNat 4 y.toNat_lt (by omega)
                    rw [← hzz, T.nat8 _ hm2]; exact this
                  have er1 : (K : Int) % 8 = 5 := by omega
                  have er2 : Int.tmod (K : Int) 8 = 5 := by rw [Int.tmod_eq_emod_of_nonneg (by omega)]; exact er1
                  have HROW : Hid (T.wb rest (m + 1) = (bl ++ List.replicate zc 0).set p z) := by
                    show T.wb rest (m + 1) = _
                    rw [← HNX.out zc HQ2.out, T.setb_at, hp, HY.out, hm, hzz]
                  clear hzz hm hm2 hr
                  go_wp2
                  go_region
                  all_goals go_wp2
                  go_roundw
                  case rel => exact ⟨m + 1, by first | rfl | (congr 1; done) | (congr 1; omega), by omega, (by rw [HROW.out]; exact (HO.out.put p z).drewN 1), below_drew (hB2.setCell hbg _), fun j hj => by
                    rcases Nat.lt_or_ge j m with h | h
                    · exact HSM.out j h
                    · obtain rfl : j = m := by omega
                      exact hsame.out⟩
                  case measure => simp [intOf]; omega
                · have hm : 2 ^ (7 - K % 8) = 2 := by rw [hr]
                  have hm2 : y.toNat ||| 2 < 256 := by have := T.or_small y (7 - K % 8) (by omega); rw [hm] at this; exact this
                  obtain ⟨z, hzz⟩ : ∃ z, UInt8.ofNat (y.toNat ||| 2) = z := ⟨_, rfl⟩
                  have e3 : bits .or .u8 (y.toNat : Int) 2 = (z.toNat : Int) := by
                    have := u8_or_nat y.toNat 2 y.toNat_lt (by omega)
                    rw [← hzz, T.nat8 _ hm2]; exact this
                  have er1 : (K : Int) % 8 = 6 := by omega
                  have er2 : Int.tmod (K : Int) 8 = 6 := by rw [Int.tmod_eq_emod_of_nonneg (by omega)]; exact er1
                  have HROW : Hid (T.wb rest (m + 1) = (bl ++ List.replicate zc 0).set p z) := by
                    show T.wb rest (m + 1) = _
                    rw [← HNX.out zc HQ2.out, T.setb_at, hp, HY.out, hm, hzz]
                  clear hzz hm hm2 hr
                  go_wp2
                  go_region
                  all_goals go_wp2
                  go_roundw
                  case rel => exact ⟨m + 1, by first | rfl | (congr 1; done) | (congr 1; omega), by omega, (by rw [HROW.out]; exact (HO.out.put p z).drewN 1), below_drew (hB2.setCell hbg _), fun j hj => by
                    rcases Nat.lt_or_ge j m with h | h
                    · exact HSM.out j h
                    · obtain rfl : j = m := by omega
                      exact hsame.out⟩
                  case measure => simp [intOf]; omega
                · have hm : 2 ^ (7 - K % 8) = 1 := by rw [hr]
                  have hm2 : y.toNat ||| 1 < 256 := by have := T.or_small y (7 - K % 8) (by omega); rw [hm] at this; exact this
                  obtain ⟨z, hzz⟩ : ∃ z, UInt8.ofNat (y.toNat ||| 1) = z := ⟨_, rfl⟩
                  have e3 : bits .or .u8 (y.toNat : Int) 1 = (z.toNat : Int) := by
                    have := u8_or_nat y.toNat 1 y.toNat_lt (by omega)
                    rw [← hzz, T.nat8 _ hm2]; exact this
                  have er1 : (K : Int) % 8 = 7 := by omega
                  have er2 : Int.tmod (K : Int) 8 = 7 := by rw [Int.tmod_eq_emod_of_nonneg (by omega)]; exact er1
                  have HROW : Hid (T.wb rest (m + 1) = (bl ++ List.replicate zc 0).set p z) := by
                    show T.wb rest (m + 1) = _
                    rw [← HNX.out zc HQ2.out, T.setb_at, hp, HY.out, hm, hzz]
                  clear hzz hm hm2 hr
                  go_wp2
                  go_region
                  all_goals go_wp2
                  go_roundw
                  case rel => exact ⟨m + 1, by first | rfl | (congr 1; done) | (congr 1; omega), by omega, (by rw [HROW.out]; exact (HO.out.put p z).drewN 1), below_drew (hB2.setCell hbg _), fun j hj => by
                    rcases Nat.lt_or_ge j m with h | h
                    · exact HSM.out j h
                    · obtain rfl : j = m := by omega
                      exact hsame.out⟩
                  case measure => simp [intOf]; omega
          · have hne : Hid (T.hi (rest.getD m 0) ≠ T.hi t) := by show T.hi (rest.getD m 0) ≠ T.hi t; rw [hxd]; exact hsm0
            have e9 : (((T.hi x : Nat) : Int) == ((T.hi t : Nat) : Int)) = false := by simp; omega
            have HEND : Hid (i + m = n ∨ (i + m < n ∧ T.hi (rest.getD m 0) ≠ T.hi t)) := Or.inr ⟨hkn, hne.out⟩
            generalize T.hi x = hix at ex e9
            clear hsm0 hxd
            have hm0 : 0 < m := by
              rcases Nat.eq_zero_or_pos m with h | h
              · subst h
                exact absurd HEND.out (by
                  rintro (h1 | h1)
                  · omega
                  · exact h1.2 (by rw [HT0.out]))
              · exact h
            have hrl : m ≤ rest.length := by rw [HRL.out]; omega
            obtain ⟨wa1, wa2⟩ := T.wb_all rest m hrl hm0
            have htw : (rest.takeWhile (T.same t)).length = m := T.takeWhile_len (T.same t) rest m (fun j hj => by simp only [T.same, decide_eq_true_eq]; exact HSM.out j hj) (by
              rcases HEND.out with h1 | h1
              · exact Or.inl (by rw [HRL.out]; omega)
              · exact Or.inr ⟨by rw [HRL.out]; omega, by simp only [T.same, decide_eq_false_iff_not]; exact h1.2⟩)
            obtain ⟨m1, m2⟩ := T.tw_take (T.same t) rest
            rw [htw] at m1 m2
            have hE2 : (q ++ T.win (T.hi t) ((rest.take m).map T.lo)) ++ T.bmp (c.drop (i + m)) = T.bmp c := by
              rw [← HE.out, HR0.out, T.bmp_cons, ← T.tw_self, ← HR0.out, m1, List.append_assoc, show c.drop (i + m) = rest.drop m by rw [HRD.out, List.drop_drop], m2, HR0.out, T.dw_self]
            have hlo : ∀ x ∈ (rest.take m).map T.lo, x < 256 := fun x hx => by obtain ⟨y, _, rfl⟩ := List.mem_map.1 hx; exact T.lo_lt y
            have hsl := T.size_le _ hlo
            rw [wa1] at hO6
            have hwin : T.win (T.hi t) ((rest.take m).map T.lo) = [UInt8.ofNat (T.hi t), UInt8.ofNat (T.size ((rest.take m).map T.lo))] ++ T.row (T.size ((rest.take m).map T.lo)) ((rest.take m).map T.lo) := rfl
            rw [hwin] at hE2
            have hrow := T.row_len (T.size ((rest.take m).map T.lo)) ((rest.take m).map T.lo)
            have HE2 := hide hE2
            clear hE2 hwin wa1 wa2 m1 m2 htw hlo
            have hhl := T.hi_lt t
            generalize T.row (T.size ((rest.take m).map T.lo)) ((rest.take m).map T.lo) = rw0 at *
            generalize T.size ((rest.take m).map T.lo) = Z at *
            generalize T.hi t = HH at *
            obtain ⟨a6, c6, rfl, _, hn6, _, _⟩ := hO6.open
            have HO6 := hide hO6
            have HRW := hide hrow
            have HN6 := hide hn6
            rw [hrow]
            have e7 : IntKind.u8.wrap (HH : Int) = (HH : Int) := by rw [IntKind.wrap_u8]; omega
            have e8 : IntKind.u8.wrap (Z : Int) = (Z : Int) := by rw [IntKind.wrap_u8]; omega
            have hq2 := hBo.trans (hB2.mono hzo)
            have hzq := hq2.size
            have HOV := hide (hOo.below hB2)
            clear hO6 hrow hn6
            go_wp2_with (first
              | (at_builtin; refine wpList_append_B rfl (.tmp 58) (.tmp 64) rfl w1.heap.size u3 q rfl (by exact HOV.out.alloc _) _ _ _ [UInt8.ofNat HH, UInt8.ofNat Z] rfl rfl (SlL.litm _ _ _ _ _ (by simp [vb, T.nat8 HH hhl, T.nat8 Z (by omega)])) (by simp) (by simp; omega) (by simp; omega) ?_; intro v4 w4 hO4 hG4; have hbw := grown_below (base := w1.heap.size) (HOV.out.alloc _) hG4 (hq2.alloc hzq _) (by simp; omega); have HS7 : Hid (SlL w4 a6 rw0) := (own_apart hOo (Nat.le_refl _) (HO6.out.alloc _) hG4).slo; have HO4 := hide hO4; have hz4 := hbw.size; clear hG4 hO4)
              | (at_builtin; refine wpList_append_B rfl (.tmp 65) (.tmp 66) rfl w1.heap.size v4 _ rfl (by exact HO4.out) _ _ _ rw0 rfl HRW.out (by exact HS7.out) HN6.out (by simp; omega) hz4 ?_; intro v5 w5 hO5 hG5; have hB5 := grown_below HO4.out hG5 hbw hz4; have HO5 := hide hO5; clear hG5 hO5))
            go_roundw
            case rel => exact ⟨i + m, _, rfl, by omega, HO5.out, hB5, by rw [← HE2.out]; simp [List.append_assoc]⟩
            case measure => simp [intOf]; omega
        · have ekn : ¬ ((i + m : Nat) : Int) < (n : Int) := by omega
          have HEND : Hid (i + m = n ∨ (i + m < n ∧ T.hi (rest.getD m 0) ≠ T.hi t)) := Or.inl (by omega)
          have hm0 : 0 < m := by
            rcases Nat.eq_zero_or_pos m with h | h
            · subst h
              exact absurd HEND.out (by
                rintro (h1 | h1)
                · omega
                · exact h1.2 (by rw [HT0.out]))
            · exact h
          have hrl : m ≤ rest.length := by rw [HRL.out]; omega
          obtain ⟨wa1, wa2⟩ := T.wb_all rest m hrl hm0
          have htw : (rest.takeWhile (T.same t)).length = m := T.takeWhile_len (T.same t) rest m (fun j hj => by simp only [T.same, decide_eq_true_eq]; exact HSM.out j hj) (by
            rcases HEND.out with h1 | h1
            · exact Or.inl (by rw [HRL.out]; omega)
            · exact Or.inr ⟨by rw [HRL.out]; omega, by simp only [T.same, decide_eq_false_iff_not]; exact h1.2⟩)
          obtain ⟨m1, m2⟩ := T.tw_take (T.same t) rest
          rw [htw] at m1 m2
          have hE2 : (q ++ T.win (T.hi t) ((rest.take m).map T.lo)) ++ T.bmp (c.drop (i + m)) = T.bmp c := by
            rw [← HE.out, HR0.out, T.bmp_cons, ← T.tw_self, ← HR0.out, m1, List.append_assoc, show c.drop (i + m) = rest.drop m by rw [HRD.out, List.drop_drop], m2, HR0.out, T.dw_self]
          have hlo : ∀ x ∈ (rest.take m).map T.lo, x < 256 := fun x hx => by obtain ⟨y, _, rfl⟩ := List.mem_map.1 hx; exact T.lo_lt y
          have hsl := T.size_le _ hlo
          rw [wa1] at hO6
          have hwin : T.win (T.hi t) ((rest.take m).map T.lo) = [UInt8.ofNat (T.hi t), UInt8.ofNat (T.size ((rest.take m).map T.lo))] ++ T.row (T.size ((rest.take m).map T.lo)) ((rest.take m).map T.lo) := rfl
          rw [hwin] at hE2
          have hrow := T.row_len (T.size ((rest.take m).map T.lo)) ((rest.take m).map T.lo)
          have HE2 := hide hE2
          clear hE2 hwin wa1 wa2 m1 m2 htw hlo
          have hhl := T.hi_lt t
          generalize T.row (T.size ((rest.take m).map T.lo)) ((rest.take m).map T.lo) = rw0 at *
          generalize T.size ((rest.take m).map T.lo) = Z at *
          generalize T.hi t = HH at *
          obtain ⟨a6, c6, rfl, _, hn6, _, _⟩ := hO6.open
          have HO6 := hide hO6
          have HRW := hide hrow
          have HN6 := hide hn6
          rw [hrow]
          have e7 : IntKind.u8.wrap (HH : Int) = (HH : Int) := by rw [IntKind.wrap_u8]; omega
          have e8 : IntKind.u8.wrap (Z : Int) = (Z : Int) := by rw [IntKind.wrap_u8]; omega
          have hq2 := hBo.trans (hB2.mono hzo)
          have hzq := hq2.size
          have HOV := hide (hOo.below hB2)
          clear hO6 hrow hn6
          go_wp2_with (first
            | (at_builtin; refine wpList_append_B rfl (.tmp 58) (.tmp 64) rfl w1.heap.size u3 q rfl (by exact HOV.out.alloc _) _ _ _ [UInt8.ofNat HH, UInt8.ofNat Z] rfl rfl (SlL.litm _ _ _ _ _ (by simp [vb, T.nat8 HH hhl, T.nat8 Z (by omega)])) (by simp) (by simp; omega) (by simp; omega) ?_; intro v4 w4 hO4 hG4; have hbw := grown_below (base := w1.heap.size) (HOV.out.alloc _) hG4 (hq2.alloc hzq _) (by simp; omega); have HS7 : Hid (SlL w4 a6 rw0) := (own_apart hOo (Nat.le_refl _) (HO6.out.alloc _) hG4).slo; have HO4 := hide hO4; have hz4 := hbw.size; clear hG4 hO4)
            | (at_builtin; refine wpList_append_B rfl (.tmp 65) (.tmp 66) rfl w1.heap.size v4 _ rfl (by exact HO4.out) _ _ _ rw0 rfl HRW.out (by exact HS7.out) HN6.out (by simp; omega) hz4 ?_; intro v5 w5 hO5 hG5; have hB5 := grown_below HO4.out hG5 hbw hz4; have HO5 := hide hO5; clear hG5 hO5))
          go_roundw
          case rel => exact ⟨i + m, _, rfl, by omega, HO5.out, hB5, by rw [← HE2.out]; simp [List.append_assoc]⟩
          case measure => simp [intOf]; omega
    · obtain rfl : i = n := by omega
      have HE := hide hE
      clear hE
      go_wp2
      go_ret
      refine ⟨_, c, rfl, HCL.out, ?_, hB1.trans (hBo.mono hB1.size)⟩
      have e := HE.out
      rw [List.drop_eq_nil_of_le (by rw [HN.out]; exact Nat.le_refl _), T.bmp_nil, List.append_nil] at e
      rw [← e]
      exact hOo.lower hB1.size
end Go.Proofs.YtikjhacgihohiaaDoor
