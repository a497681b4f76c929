/- reader.record of types 1 and 99, class IN, with what lies at its name and its data. -/
import Derived.Test.YtpgebiopckmgbabGreatRcd
import Derived.Test.YtpgebiopckmgbabGreatQsl
namespace Go.Proofs.YtpgebiopckmgbabGreat
open Go.RowKit
set_option maxRecDepth 3000 in
set_option maxHeartbeats 1600000 in
theorem record_99 (B T : Nat) (ao : Option Addr) (c : Nat) (b : List UInt8) (p : Nat) (w : World) (hR : RdW B T ao c b p w) (nm : List (List UInt8)) (q t cl ttl ln : Nat) (hn : Hid (M.wn b p p [] = some (nm, q))) (h1 : Hid (M.v16 b q = t)) (h2 : Hid (M.v16 b (q + 2) = cl)) (h3 : Hid (M.v32 b (q + 4) = ttl)) (h4 : Hid (M.v16 b (q + 8) = ln)) (hl : q + 10 + ln ≤ b.length)
    (hcl : Hid (cl = 1)) (hc : (t = 1 ∧ ln = 4) ∨ (t = 99 ∧ ln ≤ 8192)) :
    Calls Tryz.prog 50 #[.pointer (some ⟨T, 0, none⟩)] w fun e w' => ∃ na nc da dc, e = .returned (.agg (rec5 na nm.length nc t cl ttl da ln dc)) ∧ RdW B T ao c b (q + 10 + ln) w' ∧ Mv T w w' ∧ (∃ bs, w.heap.size ≤ bs ∧ OwnS w' bs (.slice na nm.length nc) nm) ∧ ∃ bs, w.heap.size ≤ bs ∧ OwnB w' bs (.slice da ln dc) ((b.drop (q + 10)).take ln) := by
  have hlt := hR.lt
  have hB := hR.2.2.2.2.2.2.2
  have h65 := hR.2.2.2.2.2.1
  have hTX : T ≠ w.heap.size := by omega
  have hXT : w.heap.size ≠ T := by omega
  have hln := M.v16_lt b (q + 8)
  rw [h4.out] at hln
  have hq0 : p ≤ b.length := hR.2.2.2.2.2.2.1
  have K0 : Hid (RK B T ao c b w.heap.size w p none 0 0 0 0 0 none 0 0 (w.alloc (.cells #[.slice none 0 0, .int .u16 0, .int .u16 0, .int .u32 0, .slice none 0 0] 39))) := ⟨hR.below ((Below.refl _ w).alloc (Nat.le_refl _) _), RowAt.new w 39 _, Mv.of ((Below.refl _ w).alloc (Nat.le_refl _) _)⟩
  clear hR
  go_enter Tryz.func50, Tryz.ntmps50
  go_wp2_with fail
  refine (wnm_any B T ao c b p _ (by exact K0.out.rd)).mono ?_
  rintro e w1 ⟨⟨nm', q', v, ho, rfl, hO, hr⟩ | ⟨ho, rfl⟩, hm⟩
  rotate_left
  · rw [hn.out] at ho; cases ho
  rw [hn.out] at ho
  cases ho
  obtain ⟨a1, c1, rfl, _⟩ := hO.open
  have k1 := K0.out.call hXT hr hm
  have N1 := hide (own_mv3 (show World.ownsRow _ _ _ _ _ _ _ from hO) k1.row (by decide) (Mv.set w.heap.size 0 w1 (.slice a1 nm.length c1)))
  have f0 := k1.row.frozen 0
  have y0 := k1.cells.1
  have K1 := hide (k1.upd hTX hB (Nat.le_refl _) 0 (.slice a1 nm.length c1) (na' := a1) (nn' := nm.length) (nc' := c1) rfl)
  clear k1 hr hm hO K0
  go_wp2_with fail
  generalize (w1.setCell ⟨w.heap.size, 0, none⟩ (.slice a1 nm.length c1)) = w1' at K1 N1 ⊢
  clear f0 y0
  refine (n16_ok B T ao c b q _ (by exact K1.out.rd) (by omega)).mono ?_
  rintro e w2 ⟨rfl, hr, hm⟩
  rw [show M.by_ b q * 256 + M.by_ b (q + 1) = t from h1.out]
  have k2 := K1.out.call hXT hr hm
  have N2 := hide (own_mv3 (own_mv3 N1.out K1.out.rd.1 (by decide) hm) k2.row (by decide) (Mv.set w.heap.size 1 w2 (.int .u16 (t : Int))))
  clear N1
  have f1 := k2.row.frozen 1
  have y1 := k2.cells.2.1
  have K2 := hide (k2.upd hTX hB (Nat.le_refl _) 1 (.int .u16 (t : Int)) (t' := t) rfl)
  clear k2 hr hm K1
  go_wp2_with fail
  generalize (w2.setCell ⟨w.heap.size, 1, none⟩ (.int .u16 (t : Int))) = w2' at K2 N2 ⊢
  clear f1 y1
  refine (n16_ok B T ao c b (q + 2) _ (by exact K2.out.rd) (by omega)).mono ?_
  rintro e w3 ⟨rfl, hr, hm⟩
  rw [show M.by_ b (q + 2) * 256 + M.by_ b (q + 2 + 1) = cl from h2.out]
  have k3 := K2.out.call hXT hr hm
  have N3 := hide (own_mv3 (own_mv3 N2.out K2.out.rd.1 (by decide) hm) k3.row (by decide) (Mv.set w.heap.size 2 w3 (.int .u16 (cl : Int))))
  clear N2
  have f2 := k3.row.frozen 2
  have y2 := k3.cells.2.2.1
  have K3 := hide (k3.upd hTX hB (Nat.le_refl _) 2 (.int .u16 (cl : Int)) (cl' := cl) rfl)
  clear k3 hr hm K2
  go_wp2_with fail
  generalize (w3.setCell ⟨w.heap.size, 2, none⟩ (.int .u16 (cl : Int))) = w3' at K3 N3 ⊢
  clear f2 y2
  refine (n32_ok B T ao c b (q + 2 + 2) _ (by exact K3.out.rd) (by omega)).mono ?_
  rintro e w4 ⟨rfl, hr, hm⟩
  rw [show M.v32 b (q + 2 + 2) = ttl from h3.out]
  have k4 := K3.out.call hXT hr hm
  have N4 := hide (own_mv3 (own_mv3 N3.out K3.out.rd.1 (by decide) hm) k4.row (by decide) (Mv.set w.heap.size 3 w4 (.int .u32 (ttl : Int))))
  clear N3
  have f3 := k4.row.frozen 3
  have y3 := k4.cells.2.2.2.1
  have K4 := hide (k4.upd hTX hB (Nat.le_refl _) 3 (.int .u32 (ttl : Int)) (ttl' := ttl) rfl)
  clear k4 hr hm K3
  go_wp2_with fail
  generalize (w4.setCell ⟨w.heap.size, 3, none⟩ (.int .u32 (ttl : Int))) = w4' at K4 N4 ⊢
  clear f3 y3
  refine (n16_ok B T ao c b (q + 2 + 2 + 4) _ (by exact K4.out.rd) (by omega)).mono ?_
  rintro e w5 ⟨rfl, hr, hm⟩
  rw [show M.by_ b (q + 2 + 2 + 4) * 256 + M.by_ b (q + 2 + 2 + 4 + 1) = ln from h4.out]
  have k5 := K4.out.call hXT hr hm
  have N5 := hide (own_mv3 N4.out K4.out.rd.1 (by decide) hm)
  clear N4
  have K5 := hide k5
  obtain ⟨_, y1, y2, _, _, _⟩ := k5.cells
  clear k5 hr hm K4
  have hcv : IntKind.i64.wrap (ln : Int) = (ln : Int) := by rw [IntKind.wrap_i64]; omega
  have hcl2 : cl = 1 := hcl.out
  subst hcl2
  · have g1 : (((1 : Nat) : Int) != 1) = false := by decide
    have g2 : ((t : Int) == 41) = false := by simp; omega
    have HDL : Hid (((b.drop (q + 2 + 2 + 4 + 2)).take ln).length = ln) := by show _ = _; rw [List.length_take, List.length_drop]; omega
    obtain ⟨EN, en1, en2⟩ : ∃ EN : Nat, EN ≤ q + 2 + 2 + 4 + 2 + ln ∧ q + 2 + 2 + 4 + 2 + ln ≤ EN := ⟨_, Nat.le_refl _, Nat.le_refl _⟩
    have hend : IntKind.i64.wrap (((q + 2 + 2 + 4 + 2 : Nat) : Int) + (ln : Int)) = (EN : Int) := by rw [IntKind.wrap_i64]; omega
    have hat := K5.out.rd.at1
    obtain ⟨PQ, HPQ⟩ : ∃ PQ, Hid (q + 2 + 2 + 4 + 2 = PQ) := ⟨_, hide rfl⟩
    have hpq : PQ ≤ q + 10 ∧ q + 10 ≤ PQ := by have := HPQ.out; omega
    rw [HPQ.out] at hend hat HDL K5
    obtain ⟨hpq1, hpq2⟩ := hpq
    go_wp2_with fail
    refine (wholeData_ok B T ao c b PQ t ln _ (by exact K5.out.rd) (by omega) (by omega) (by omega)).mono ?_
    rintro e w6 ⟨v6, rfl, hO6, hr, hm⟩
    obtain ⟨a6, c6, rfl, hs6, hn6, hc6, _⟩ := hO6.open
    rw [HDL.out]
    rw [HDL.out] at hc6
    have k6 := K5.out.call hXT hr hm
    have N6 := hide (own_mv3 (own_mv3 N5.out K5.out.rd.1 (by decide) hm) k6.row (by decide) (Mv.set w.heap.size 4 w6 (.slice a6 ln c6)))
    clear N5
    have f4 := k6.row.frozen 4
    have y4 := k6.cells.2.2.2.2.1
    have K6 := hide (k6.upd hTX hB (Nat.le_refl _) 4 (.slice a6 ln c6) (da' := a6) (dn' := ln) (dc' := c6) rfl)
    have hO6' : OwnB w6 w5.heap.size (.slice a6 ln c6) ((b.drop PQ).take ln) := by have h := hO6; rw [HDL.out] at h; exact h
    have hS6 : SlL (w6.setCell ⟨w.heap.size, 4, none⟩ (.slice a6 ln c6)) a6 ((b.drop PQ).take ln) := by
      have ho := own_set (show World.ownsRow _ _ _ _ _ _ _ from hO6') k6.row (by decide) 4 (.slice a6 ln c6)
      have ho2 : OwnB (w6.setCell ⟨w.heap.size, 4, none⟩ (.slice a6 ln c6)) w5.heap.size (.slice a6 ((b.drop PQ).take ln).length c6) ((b.drop PQ).take ln) := by rw [HDL.out]; exact ho
      obtain ⟨a', c', e', hs', _⟩ := ho2.open
      cases e'
      exact hs'
    have D6 := hide (own_set (show World.ownsRow _ _ _ _ _ _ _ from hO6') k6.row (by decide) 4 (.slice a6 ln c6))
    have hz5 := K5.out.mv.size
    have HS6 := hide hS6
    have HN6 := hide hn6
    have z1 := K6.out.cells.2.1
    have z4 := K6.out.cells.2.2.2.2.1
    have zat := K6.out.rd.at1
    rw [show PQ + ln = EN by omega] at zat
    have g3 : ((EN : Int) != (EN : Int)) = false := by simp
    clear k6 hr hm hO6 hO6' hS6 K5 hs6 hn6
    go_wp2_with fail
    refine (check_ok t ((b.drop PQ).take ln) a6 ln c6 _ HDL (by exact HS6.out) hc6 HN6.out hc).mono ?_
    rintro e w7 ⟨rfl, hb7⟩
    have K7 : Hid (RK B T ao c b w.heap.size w (PQ + ln) a1 nm.length c1 t 1 ttl a6 ln c6 w7) := ⟨K6.out.rd.below hb7, K6.out.row.below hb7 K6.out.row.lt, K6.out.mv.trans (Mv.of hb7)⟩
    have N7 := hide (own_below N6.out hb7)
    have D7 := hide (own_below D6.out hb7)
    clear hb7 K6 N6 D6
    go_wp2_with (first
      | (refine wpList_load_row rfl 39 (.tmp 2) rfl w.heap.size rfl 39 _ (0, 0) _ (by exact K7.out.row) Tryz.underlying39 rfl (by exact infoRs) ?_)
      | (refine wpList_store_rowR rfl 39 (.tmp 2) (.tmp 60) rfl w.heap.size (rec5 a1 nm.length c1 t 1 ttl a6 ln c6) rfl rfl 39 _ (by exact K7.out.row) (by exact infoRs) rfl (rec5_one _ _ _ _ _ _ _ _ _) ?_))
    have hr9 := K7.out.rd.mv hTX hB (mv_setRow w.heap.size _ (rec5 a1 nm.length c1 t 1 ttl a6 ln c6))
    have hm9 := K7.out.mv.part (mv_setRow w.heap.size _ (rec5 a1 nm.length c1 t 1 ttl a6 ln c6)) (Or.inr (Nat.le_refl _))
    have n9 := own_mv3 N7.out K7.out.row (by decide) (mv_setRow w.heap.size _ (rec5 a1 nm.length c1 t 1 ttl a6 ln c6))
    have d9 := own_mv3 D7.out K7.out.row (by decide) (mv_setRow w.heap.size _ (rec5 a1 nm.length c1 t 1 ttl a6 ln c6))
    have hpe : PQ = q + 10 := by omega
    have d9' : OwnB (w7.setRow w.heap.size (rec5 a1 nm.length c1 t 1 ttl a6 ln c6)) w5.heap.size (.slice a6 ln c6) ((b.drop (q + 10)).take ln) := by
      rw [← hpe]
      exact d9
    exact bodyPost_ret (v := .agg (rec5 a1 nm.length c1 t 1 ttl a6 ln c6)) (results_cell_row Tryz.results50 _ _ w.heap.size 39 _ (0, 0) _ rfl (setRow_same K7.out.row _) Tryz.underlying39 rfl (by exact infoRs)) rfl ⟨a1, c1, a6, c6, rfl, by rw [show q + 10 + ln = PQ + ln by omega]; exact hr9, hm9, ⟨_, by simp, n9⟩, ⟨_, hz5, d9'⟩⟩
end Go.Proofs.YtpgebiopckmgbabGreat
