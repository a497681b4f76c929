/- (*signetref6.reader).name. -/
import Derived.Test.YtpgebiopckmgbaaGreatRff
namespace Go.Proofs.YtpgebiopckmgbaaGreat
open Go.RowKit
def badOf (R : Nat) (wr : World) : Bool := match wr.cell? ⟨R, 2, none⟩ with
  | some (.bool x) => x
  | _ => false
set_option maxRecDepth 5000 in
theorem badOf_at {B R : Nat} {ao : Option Addr} {c : Nat} {b : List UInt8} {p : Nat} {bad : Bool} {w : World} (h : RfR B R ao c b p bad w) : badOf R w = bad := by
  have h1 : w.cell? ⟨R, 2, none⟩ = some (.bool bad) := by rw [h.1.cell 2]; rfl
  unfold badOf
  rw [h1]
set_option maxRecDepth 5000 in
theorem ownS_mv {w w' : World} {base T t : Nat} {v : Value} {n : List (List UInt8)} {c : Array Value} (h : OwnS w base v n) (hT : RowAt w T t c) (hne : t ≠ 9) (hg : Mv T w w') : OwnS w' base v n := own_mv (show World.ownsRow _ _ _ _ _ _ _ from h) hT hne hg
set_option maxRecDepth 5000 in
theorem len_le_size (n : List (List UInt8)) : n.length ≤ N.size n := by
  unfold N.size
  induction n with
  | nil => simp
  | cons a r ih => simp only [List.map_cons, List.sum_cons, List.length_cons]; omega
def RnP (B R : Nat) (ao : Option Addr) (c : Nat) (b : List UInt8) (p : Nat) (w : World) (e : Ending) (w' : World) : Prop :=
  ((∃ n q v, M.wn b p p [] = some (n, q) ∧ e = .returned v ∧ OwnS w' w.heap.size v n ∧ RfR B R ao c b q false w') ∨ (M.wn b p p [] = none ∧ e = .returned (.slice none 0 0) ∧ ∃ q, RfR B R ao c b q true w')) ∧ Mv R w w'
set_option maxHeartbeats 6400000 in
set_option maxRecDepth 5000 in
theorem rfname_any (B R : Nat) (ao : Option Addr) (c : Nat) (b : List UInt8) (p : Nat) (w : World) (hR : RfR B R ao c b p false w) :
    Calls Tryz.prog 24 #[.pointer (some ⟨R, 0, none⟩)] w fun e w' => RnP B R ao c b p w e w' := by
  have HR := hide hR
  obtain ⟨hT, _, hc, hnil, hBT, hl, hp, hB⟩ := hR
  have c1 : w.cell? ⟨R, 1, none⟩ = some (.int .i64 (p : Int)) := by rw [hT.cell 1]; rfl
  have hlt := hT.lt
  clear hT
  go_enter Tryz.func24, Tryz.ntmps24
  go_wp2
  go_quiet (fail)
  go_wp2
  go_loopw [3, 4, 5, 6, 7] (fun nv av bv lv jv wr => ∃ (acc : List (List UInt8)) (begin pp pi : Nat) (jd bad : Bool) (al : Int), av = .int .i64 (pp : Int) ∧ bv = .int .i64 (begin : Int) ∧ lv = .int .i64 al ∧ jv = .bool jd ∧ pp ≤ b.length ∧ begin ≤ b.length ∧ RfR B R ao c b pi bad wr ∧ OwnS wr w.heap.size nv acc ∧ Mv R w wr ∧ ((bad = false ∧ al = (N.size acc : Int) ∧ N.size acc ≤ 255 ∧ (jd = false → pi = p) ∧ Hid (M.wn b p p [] = (M.wn b begin pp acc).map fun r => (r.1, if jd = true then pi else r.2))) ∨ (bad = true ∧ Hid (M.wn b p p [] = none)))) (fun _ av bv _ _ wr => if badOf R wr = true then 0 else 1 + (intOf bv).toNat * (b.length + 1) + (b.length - (intOf av).toNat))
  case atStart => exact ⟨[], p, p, p, false, false, 1, rfl, rfl, rfl, rfl, hp, hp, HR.out, OwnS.nil _ _, Mv.of (drew_below _ ⟨nq, rfl⟩), Or.inl ⟨rfl, by simp [N.size], by simp [N.size], fun _ => rfl, by show _ = _; simp⟩⟩
  case round =>
    obtain ⟨acc, begin, pp, pi, jd, bad, al, rfl, rfl, rfl, rfl, hpp, hbl, hD, hO, hM, hcase⟩ := hrel
    have e1 : wr.cell? ⟨R, 1, none⟩ = some (.int .i64 (pi : Int)) := by rw [hD.1.cell 1]; rfl
    have e0 : wr.cell? ⟨R, 0, none⟩ = some (.slice ao b.length c) := by rw [hD.1.cell 0]; rfl
    have e2 : wr.cell? ⟨R, 2, none⟩ = some (.bool bad) := by rw [hD.1.cell 2]; rfl
    have g1 := hD.1.frozen 1
    have g2 := hD.1.frozen 2
    have HBD := hide (badOf_at hD)
    have DD := hide hD
    have OO := hide hO
    have MM := hide hM
    have zz : w.heap.size ≤ wr.heap.size := hM.size
    rcases hcase with ⟨rfl, rfl, hsz, hpi, HW⟩ | ⟨rfl, HN⟩
    rotate_left
    · clear hD hO hM
      go_wp2
      go_ret
      exact ⟨Or.inr ⟨HN.out, rfl, _, DD.out⟩, MM.out⟩
    have HE := hide (M.wn.eq_1 b begin pp acc)
    have HPI := hide hpi
    clear hpi
    by_cases hA : b.length ≤ pp
    · have q1 : (b.length : Int) ≤ (pp : Int) := by omega
      have HN : Hid (M.wn b p p [] = none) := by show _ = _; rw [HW.out, HE.out, dif_pos hA]; rfl
      clear hD hO hM HW HE
      go_wp2
      go_ret
      exact ⟨Or.inr ⟨HN.out, rfl, _, DD.out.bad⟩, MM.out.trans (Mv.set R 2 _ _)⟩
    have q1 : ¬ (b.length : Int) ≤ (pp : Int) := by omega
    have qa : (pp : Int) < (b.length : Int) := by omega
    obtain ⟨g, o, rfl, hg, hcell⟩ := hD.2.1 (by omega)
    have x0 : wr.cell? ⟨g, o + pp, none⟩ = some (.int .u8 (M.by_ b pp : Int)) := hcell pp (by omega)
    have x1 : pp + 1 < b.length → wr.cell? ⟨g, o + (pp + 1), none⟩ = some (.int .u8 (M.by_ b (pp + 1) : Int)) := fun h => hcell (pp + 1) h
    have X1 := hide x1
    have hk : M.by_ b pp < 256 := (b.getD pp 0).toNat_lt
    have hy : M.by_ b (pp + 1) < 256 := (b.getD (pp + 1) 0).toNat_lt
    have SB := hide hD.2.1
    clear hD hO hM hcell x1
    generalize hkk : M.by_ b pp = k at x0 hk HE
    have HKK := hide hkk
    clear hkk
    by_cases hk0 : k = 0
    · have q2 : ((k : Int) == 0) = true := beq_iff_eq.2 (by omega)
      have HN : Hid (M.wn b p p [] = some (acc, if jd = true then pi else pp + 1)) := by
        show _ = _
        rw [HW.out, HE.out, dif_neg hA, if_pos hk0]; rfl
      clear HW HE HKK X1 hk0
      cases jd
      · go_wp2
        go_ret
        exact ⟨Or.inl ⟨acc, _, _, HN.out, rfl, ownS_mv OO.out DD.out.1 (by decide) (Mv.set R 1 _ _), DD.out.at_ (pp + 1) (by omega)⟩, MM.out.trans (Mv.set R 1 _ _)⟩
      · go_wp2
        go_ret
        exact ⟨Or.inl ⟨acc, _, _, HN.out, rfl, OO.out, DD.out⟩, MM.out⟩
    have q2 : ((k : Int) == 0) = false := beq_eq_false_iff_ne.2 (by omega)
    by_cases h192 : 192 ≤ k
    · have q3 : (192 : Int) ≤ (k : Int) := by omega
      by_cases hs2 : b.length < pp + 2
      · have q4 : (b.length : Int) < (pp : Int) + 2 := by omega
        have HN : Hid (M.wn b p p [] = none) := by show _ = _; rw [HW.out, HE.out, dif_neg hA, if_neg hk0, if_pos h192, if_pos hs2]; rfl
        clear HW HE HKK X1
        go_wp2
        go_roundw
        case rel => exact ⟨acc, begin, pp, pi, jd, true, _, rfl, rfl, rfl, rfl, hpp, hbl, DD.out.bad, ownS_mv OO.out DD.out.1 (by decide) (Mv.set R 2 _ _), MM.out.trans (Mv.set R 2 _ _), Or.inr ⟨rfl, HN⟩⟩
        case measure =>
          have h1 := HBD.out
          have h2 := badOf_at DD.out.bad
          rw [h1, h2]; simp <;> omega
      have q4 : ¬ (b.length : Int) < (pp : Int) + 2 := by omega
      have x1 := X1.out (by omega)
      have hand := and_63 k hk
      obtain ⟨u, hu⟩ : ∃ u, k % 64 = u := ⟨_, rfl⟩
      have hu2 : u < 64 := by omega
      rw [hu] at hand
      have HU := hide hu
      clear hu
      have hwr : wrap64 ((u : Int) * 256) = (u : Int) * 256 := by unfold wrap64; omega
      generalize hyy : M.by_ b (pp + 1) = y at x1 hy
      have HPL : Hid (M.plc b pp = u * 256 + y) := by show _ = _; unfold M.plc; rw [HKK.out, hyy, HU.out]
      have hor := or_64 u y hu2 hy
      obtain ⟨pl, hpl⟩ : ∃ pl, u * 256 + y = pl := ⟨_, rfl⟩
      rw [hpl] at hor HPL
      have x1' : wr.cell? ⟨g, o + (pp + 1), none⟩ = some (.int .u8 (y : Int)) := x1
      have qi : (pp : Int) + 1 < (b.length : Int) := by omega
      clear hpl hyy X1 x1
      by_cases hge : begin ≤ pl
      · have q5 : (begin : Int) ≤ (pl : Int) := by omega
        have HN : Hid (M.wn b p p [] = none) := by show _ = _; rw [HW.out, HE.out, dif_neg hA, if_neg hk0, if_pos h192, if_neg hs2, dif_pos (by rw [HPL.out]; exact hge)]; rfl
        clear HW HE HKK
        cases jd
        · have DB := (DD.out.at_ (pp + 2) (by omega)).bad
          have m2 := (Mv.set R 1 wr (.int .i64 ((pp + 2 : Nat) : Int))).trans (Mv.set R 2 _ (.bool true))
          have OB := ownS_mv OO.out DD.out.1 (by decide) m2
          rw [show ((pp + 2 : Nat) : Int) = (pp : Int) + 2 by omega] at DB m2 OB
          have HDB := hide DB
          have HOB := hide OB
          have HMB := hide (MM.out.trans m2)
          clear DB m2 OB
          go_wp2
          go_roundw
          case rel => exact ⟨acc, begin, pp, pp + 2, false, true, _, rfl, rfl, rfl, rfl, hpp, hbl, HDB.out, HOB.out, HMB.out, Or.inr ⟨rfl, HN⟩⟩
          case measure =>
            have h1 := HBD.out
            have h2 := badOf_at HDB.out
            rw [h1, h2]; simp <;> omega
        · go_wp2
          go_roundw
          case rel => exact ⟨acc, begin, pp, pi, true, true, _, rfl, rfl, rfl, rfl, hpp, hbl, DD.out.bad, ownS_mv OO.out DD.out.1 (by decide) (Mv.set R 2 _ _), MM.out.trans (Mv.set R 2 _ _), Or.inr ⟨rfl, HN⟩⟩
          case measure =>
            have h1 := HBD.out
            have h2 := badOf_at DD.out.bad
            rw [h1, h2]; simp <;> omega
      · have q5 : ¬ (begin : Int) ≤ (pl : Int) := by omega
        have HS : Hid (M.wn b begin pp acc = (M.wn b pl pl acc).map fun r => (r.1, pp + 2)) := by
          show _ = _
          rw [HE.out, dif_neg hA, if_neg hk0, if_pos h192, if_neg hs2, dif_neg (by rw [HPL.out]; exact hge), HPL.out]
        have h3 : (pl + 1) * (b.length + 1) ≤ begin * (b.length + 1) := Nat.mul_le_mul_right _ (by omega)
        rw [Nat.add_mul] at h3
        have H3 := hide h3
        clear HE HKK h3
        cases jd
        · have DB := DD.out.at_ (pp + 2) (by omega)
          have m2 := Mv.set R 1 wr (.int .i64 ((pp + 2 : Nat) : Int))
          have OB := ownS_mv OO.out DD.out.1 (by decide) m2
          rw [show ((pp + 2 : Nat) : Int) = (pp : Int) + 2 by omega] at DB m2 OB
          have HDB := hide DB
          have HOB := hide OB
          have HMB := hide (MM.out.trans m2)
          clear DB m2 OB
          go_wp2
          go_roundw
          case rel =>
            refine ⟨acc, pl, pl, pp + 2, true, false, _, rfl, rfl, rfl, rfl, by omega, by omega, HDB.out, HOB.out, HMB.out, Or.inl ⟨rfl, rfl, hsz, (fun h => by cases h), ?_⟩⟩
            show _ = _
            rw [HW.out, HS.out, Option.map_map]; rfl
          case measure =>
            have h1 := HBD.out
            have h2 := badOf_at HDB.out
            have h3 := H3.out
            rw [h1, h2]; simp [intOf]; omega
        · go_wp2
          go_roundw
          case rel =>
            refine ⟨acc, pl, pl, pi, true, false, _, rfl, rfl, rfl, rfl, by omega, by omega, DD.out, OO.out, MM.out, Or.inl ⟨rfl, rfl, hsz, (fun h => by cases h), ?_⟩⟩
            show _ = _
            rw [HW.out, HS.out, Option.map_map]; rfl
          case measure =>
            have h1 := HBD.out
            have h3 := H3.out
            rw [h1]; simp [intOf]; omega
    have q3 : ¬ (192 : Int) ≤ (k : Int) := by omega
    by_cases hbig : 63 < k ∨ b.length < pp + 1 + k
    · have HN : Hid (M.wn b p p [] = none) := by show _ = _; rw [HW.out, HE.out, dif_neg hA, if_neg hk0, if_neg h192, dif_pos hbig]; rfl
      clear HW HE HKK X1
      have hcs : 63 < k ∨ (¬ 63 < k ∧ b.length < pp + 1 + k) := by omega
      rcases hcs with h63 | ⟨h63, hov⟩
      · have q4 : (63 : Int) < (k : Int) := by omega
        go_wp2
        go_roundw
        case rel => exact ⟨acc, begin, pp, pi, jd, true, _, rfl, rfl, rfl, rfl, hpp, hbl, DD.out.bad, ownS_mv OO.out DD.out.1 (by decide) (Mv.set R 2 _ _), MM.out.trans (Mv.set R 2 _ _), Or.inr ⟨rfl, HN⟩⟩
        case measure =>
          have h1 := HBD.out
          have h2 := badOf_at DD.out.bad
          rw [h1, h2]; simp <;> omega
      · have q4 : ¬ (63 : Int) < (k : Int) := by omega
        have q5 : (b.length : Int) - (pp : Int) - 1 < (k : Int) := by omega
        go_wp2
        go_roundw
        case rel => exact ⟨acc, begin, pp, pi, jd, true, _, rfl, rfl, rfl, rfl, hpp, hbl, DD.out.bad, ownS_mv OO.out DD.out.1 (by decide) (Mv.set R 2 _ _), MM.out.trans (Mv.set R 2 _ _), Or.inr ⟨rfl, HN⟩⟩
        case measure =>
          have h1 := HBD.out
          have h2 := badOf_at DD.out.bad
          rw [h1, h2]; simp <;> omega
    have q4 : ¬ (63 : Int) < (k : Int) := by omega
    have q5 : ¬ (b.length : Int) - (pp : Int) - 1 < (k : Int) := by omega
    obtain ⟨ao', hsl, hs'⟩ := slice_mid (k := pp + 1) (m := k) (x := (pp : Int) + 1) (y := (pp : Int) + 1 + (k : Int)) (by omega) (by omega) (SB.out.sl DD.out.2.2.2.2.2.2.2) rfl (by omega) hc
    have hxl : ((b.drop (pp + 1)).take k).length = k := by rw [List.length_take, List.length_drop]; omega
    have hst := run_str k (c - (pp + 1)) hs' hxl
    have HLB : Hid (M.lab b pp = (b.drop (pp + 1)).take k) := by show _ = _; unfold M.lab; rw [HKK.out]
    have HXL := hide hxl
    generalize (b.drop (pp + 1)).take k = L at hst HLB HXL
    have HS2 := hide (M.size_more acc L)
    have hasz : acc.length ≤ 255 := by have := len_le_size acc; omega
    clear hs' hxl HKK X1
    by_cases h255 : 255 < N.size acc + k + 1
    · have q6 : (255 : Int) < (N.size acc : Int) + ((k : Int) + 1) := by omega
      have HN : Hid (M.wn b p p [] = none) := by
        show _ = _
        rw [HW.out, HE.out, dif_neg hA, if_neg hk0, if_neg h192, dif_neg hbig, if_pos (by rw [HLB.out, HS2.out, HXL.out]; exact h255)]; rfl
      clear HW HE
      go_wp2_with (at_builtin; refine wpList_append_S rfl (.tmp 41) (.tmp 54) rfl w.heap.size _ acc rfl (by exact OO.out.alloc _) _ _ _ [L] rfl rfl (SlS.one _ _ _) (by simp; omega) (by simp; omega) ?_; intro v4 w4 hO4 hG4; have D4 := hide ((DD.out.below ((Below.refl _ wr).alloc (Nat.le_refl _) (.cells #[.string ⟨L.toArray⟩] 9))).grown (show World.ownsRow _ _ _ _ _ _ _ from OO.out.alloc (.cells #[.string ⟨L.toArray⟩] 9)) (by decide) hB (by exact hG4)); have M4 := hide (grown_mv (MM.out.trans (Mv.of ((Below.refl _ wr).alloc (Nat.le_refl _) (.cells #[.string ⟨L.toArray⟩] 9)))) (show World.ownsRow _ _ _ _ _ _ _ from OO.out.alloc (.cells #[.string ⟨L.toArray⟩] 9)) (by exact hG4)); have O4 := hide hO4; have k2 : w4.cell? ⟨R, 2, none⟩ = some (.bool false) := (by rw [D4.out.1.cell 2]; rfl); have k3 : w4.frozen? ⟨R, 2, none⟩ = false := D4.out.1.frozen 2; clear hO4 hG4)
      go_roundw
      case rel => exact ⟨acc ++ [L], begin, pp + 1 + k, pi, jd, true, _, by go_num, rfl, rfl, rfl, by omega, hbl, D4.out.bad, ownS_mv O4.out D4.out.1 (by decide) (Mv.set R 2 _ _), M4.out.trans (Mv.set R 2 _ _), Or.inr ⟨rfl, HN⟩⟩
      case measure =>
        have h1 := HBD.out
        have h2 := badOf_at D4.out.bad
        rw [h1, h2]; simp <;> omega
    · have q6 : ¬ (255 : Int) < (N.size acc : Int) + ((k : Int) + 1) := by omega
      have HW2 : Hid (M.wn b p p [] = (M.wn b begin (pp + 1 + k) (acc ++ [L])).map fun r => (r.1, if jd = true then pi else r.2)) := by
        show _ = _
        rw [HW.out, HE.out, dif_neg hA, if_neg hk0, if_neg h192, dif_neg hbig, if_neg (by rw [HLB.out, HS2.out, HXL.out]; exact h255), HLB.out]
      clear HW HE
      go_wp2_with (at_builtin; refine wpList_append_S rfl (.tmp 41) (.tmp 54) rfl w.heap.size _ acc rfl (by exact OO.out.alloc _) _ _ _ [L] rfl rfl (SlS.one _ _ _) (by simp; omega) (by simp; omega) ?_; intro v4 w4 hO4 hG4; have D4 := hide ((DD.out.below ((Below.refl _ wr).alloc (Nat.le_refl _) (.cells #[.string ⟨L.toArray⟩] 9))).grown (show World.ownsRow _ _ _ _ _ _ _ from OO.out.alloc (.cells #[.string ⟨L.toArray⟩] 9)) (by decide) hB (by exact hG4)); have M4 := hide (grown_mv (MM.out.trans (Mv.of ((Below.refl _ wr).alloc (Nat.le_refl _) (.cells #[.string ⟨L.toArray⟩] 9)))) (show World.ownsRow _ _ _ _ _ _ _ from OO.out.alloc (.cells #[.string ⟨L.toArray⟩] 9)) (by exact hG4)); have O4 := hide hO4; have k2 : w4.cell? ⟨R, 2, none⟩ = some (.bool false) := (by rw [D4.out.1.cell 2]; rfl); have k3 : w4.frozen? ⟨R, 2, none⟩ = false := D4.out.1.frozen 2; clear hO4 hG4)
      go_roundw
      case rel => exact ⟨acc ++ [L], begin, pp + 1 + k, pi, jd, false, _, by go_num, rfl, rfl, rfl, by omega, hbl, D4.out, O4.out, M4.out, Or.inl ⟨rfl, by rw [HS2.out, HXL.out]; omega, by rw [HS2.out, HXL.out]; omega, HPI.out, HW2⟩⟩
      case measure =>
        have h1 := HBD.out
        have h2 := badOf_at D4.out
        rw [h1, h2]; simp [intOf]; omega
end Go.Proofs.YtpgebiopckmgbaaGreat
