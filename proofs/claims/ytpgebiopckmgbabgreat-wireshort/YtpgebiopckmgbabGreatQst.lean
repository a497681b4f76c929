/- (*wire.reader).name, question. -/
import Derived.Test.YtpgebiopckmgbabGreatWhn
namespace Go.Proofs.YtpgebiopckmgbabGreat
open Go.RowKit
set_option maxRecDepth 5000 in
theorem wnm_any (B T : Nat) (ao : Option Addr) (c : Nat) (b : List UInt8) (p : Nat) (w : World) (hR : RdW B T ao c b p w) :
    Calls Tryz.prog 49 #[.pointer (some ⟨T, 0, none⟩)] w fun e w' => GotW B T ao c b (M.wn b p p []) (fun n v w' => OwnS w' w.heap.size v n) w e w' := by
  have hq := M.wq_wn b p p [] (by simp [N.size])
  go_enter Tryz.func49, Tryz.ntmps49
  go_wp2_with fail
  refine (whn_any B T ao c b p _ hR).mono ?_
  rw [hq]
  rintro e w1 ⟨⟨n, q, v, ho, rfl, hO, hr⟩ | ⟨ho, rfl⟩, hm⟩
  · obtain ⟨hg, _⟩ := M.wn_good b p p [] M.good_nil n q ho
    have hop : N.opn (N.wire n) = some n := by have h := N.opn_wire n [] hg.1 hg.2.1; rwa [List.append_nil] at h
    have hz := hg.2.2
    obtain ⟨a1, c1, rfl, hs, hn, hle, _⟩ := OwnB.open hO
    have S1 := hide hs
    have HO := hide ho
    have HP := hide hop
    have HR := hide hr
    have HM := hide hm
    have HL := hide (N.wire_len n)
    clear hs hO ho hop hr hm hq
    go_wp2_with fail
    refine (open_any (N.wire n) a1 (N.wire n).length c1 _ rfl (by exact S1.out) (by have := HL.out; omega) hle).mono ?_
    rintro e w2 ⟨⟨m, v, h1, h2, rfl, hO2⟩ | ⟨h1, rfl⟩ | ⟨m, h1, h2, rfl⟩, hb2⟩
    · rw [HP.out] at h1; cases h1
      go_wp2
      go_ret
      exact ⟨Or.inl ⟨n, q, v, HO.out, rfl, hO2.lower HM.out.size, HR.out.below hb2⟩, HM.out.trans (Mv.of hb2)⟩
    · rw [HP.out] at h1; cases h1
    · rw [HP.out] at h1; cases h1; omega
  · have HO := hide ho
    clear ho hq
    unfold fell60
    go_wp2
    exact ⟨rfl, Or.inr ⟨HO.out, rfl⟩, hm⟩
def QV (base : Nat) (q : M.Q) (v : Value) (w : World) : Prop := ∃ a c, v = .agg #[.slice a q.name.length c, .int .u16 (q.type : Int), .int .u16 (q.cls : Int)] ∧ OwnS w base (.slice a q.name.length c) q.name
set_option maxHeartbeats 1600000 in
set_option maxRecDepth 5000 in
theorem qst_any (B T : Nat) (ao : Option Addr) (c : Nat) (b : List UInt8) (p : Nat) (w : World) (hR : RdW B T ao c b p w) :
    Calls Tryz.prog 34 #[.pointer (some ⟨T, 0, none⟩)] w fun e w' => GotW B T ao c b (M.qn b p) (fun q v w' => QV w.heap.size q v w') w e w' := by
  have hlt := hR.lt
  have hB := hR.2.2.2.2.2.2.2
  have HQ : Hid (M.qn b p = (M.wn b p p []).bind fun r => (M.n16 b r.2).bind fun t => (M.n16 b t.2).map fun c => (⟨r.1, t.1, c.1⟩, c.2)) := rfl
  have HR0 : Hid (RdW B T ao c b p (w.alloc (.cells #[.slice none 0 0, .int .u16 0, .int .u16 0] 28))) := hR.below ((Below.refl _ w).alloc (Nat.le_refl _) _)
  have R0 : Hid (RowAt (w.alloc (.cells #[.slice none 0 0, .int .u16 0, .int .u16 0] 28)) w.heap.size 28 #[.slice none 0 0, .int .u16 0, .int .u16 0]) := RowAt.new w 28 _
  have M0 : Hid (Mv T w (w.alloc (.cells #[.slice none 0 0, .int .u16 0, .int .u16 0] 28))) := Mv.of ((Below.refl _ w).alloc (Nat.le_refl _) _)
  clear hR
  go_enter Tryz.func34, Tryz.ntmps34
  go_wp2_with fail
  refine (wnm_any B T ao c b p _ (by exact HR0.out)).mono ?_
  rintro e w1 ⟨⟨n, q, v, ho, rfl, hO, hr⟩ | ⟨ho, rfl⟩, hm⟩
  rotate_left
  · have HN : Hid (M.qn b p = none) := by show _ = _; rw [HQ.out, ho]; rfl
    have HM := hide (M0.out.trans hm)
    clear ho hm
    unfold fell60
    go_wp2
    exact ⟨rfl, Or.inr ⟨HN.out, rfl⟩, HM.out⟩
  obtain ⟨a1, c1, rfl, _⟩ := hO.open
  rw [ho] at HQ
  have r1 := row_mv R0.out (by omega) hm
  have g0 : w1.cell? ⟨w.heap.size, 0, none⟩ = some (.slice none 0 0) := r1.cell 0
  have f0 := r1.frozen 0
  have D1 := hide (hr.mv (by omega) hB (Mv.set w.heap.size 0 w1 (.slice a1 n.length c1)))
  have R1 := hide (r1.set 0 (.slice a1 n.length c1))
  have O1 : Hid (OwnS (w1.setCell ⟨w.heap.size, 0, none⟩ (.slice a1 n.length c1)) w.heap.size (.slice a1 n.length c1) n) := hide (own_set (show World.ownsRow _ _ _ _ _ _ _ from OwnS.lower (base' := w.heap.size) hO (by simp)) r1 (by decide) 0 (.slice a1 n.length c1))
  have M1 := hide ((M0.out.trans hm).part (Mv.set w.heap.size 0 w1 (.slice a1 n.length c1)) (Or.inr (Nat.le_refl _)))
  clear ho hm hO hr r1 R0 M0 HR0
  go_wp2_with fail
  refine (n16_any B T ao c b q _ (by exact D1.out)).mono ?_
  rintro e w2 ⟨⟨t, q2, v1, ho, rfl, rfl, hr⟩ | ⟨ho, rfl⟩, hm⟩
  rotate_left
  · have HN : Hid (M.qn b p = none) := by show _ = _; rw [HQ.out]; simp only [Option.bind_some]; rw [ho]; rfl
    have HM := hide (M1.out.trans hm)
    clear ho hm
    unfold fell60
    go_wp2
    exact ⟨rfl, Or.inr ⟨HN.out, rfl⟩, HM.out⟩
  replace HQ := hide (by have h := HQ.out; simp only [Option.bind_some] at h; rw [ho] at h; exact h)
  have r2 := row_mv R1.out (by omega) hm
  have o2 := own_mv (show World.ownsRow _ _ _ _ _ _ _ from O1.out) D1.out.1 (by decide) hm
  have y0 : w2.cell? ⟨w.heap.size, 0, none⟩ = some (.slice a1 n.length c1) := r2.cell 0
  have y1 : w2.cell? ⟨w.heap.size, 1, none⟩ = some (.int .u16 0) := r2.cell 1
  have y2 : w2.cell? ⟨w.heap.size, 2, none⟩ = some (.int .u16 0) := r2.cell 2
  have f1 : w2.frozen? ⟨w.heap.size, 1, none⟩ = false := r2.frozen 1
  have D2 := hide (hr.mv (by omega) hB (Mv.set w.heap.size 1 w2 (.int .u16 (t : Int))))
  have R2 := hide (r2.set 1 (.int .u16 (t : Int)))
  have O2 : Hid (OwnS (w2.setCell ⟨w.heap.size, 1, none⟩ (.int .u16 (t : Int))) w.heap.size (.slice a1 n.length c1) n) := hide (own_set o2 r2 (by decide) 1 (.int .u16 (t : Int)))
  have M2 := hide ((M1.out.trans hm).part (Mv.set w.heap.size 1 w2 (.int .u16 (t : Int))) (Or.inr (Nat.le_refl _)))
  clear ho hm hr r2 o2 D1 R1 O1 M1
  clear y0 y2
  go_wp2_with fail
  refine (n16_any B T ao c b q2 _ (by exact D2.out)).mono ?_
  rintro e w3 ⟨⟨k, q3, v2, ho, rfl, rfl, hr⟩ | ⟨ho, rfl⟩, hm⟩
  rotate_left
  · have HN : Hid (M.qn b p = none) := by show _ = _; rw [HQ.out]; simp only [Option.bind_some]; rw [ho]; rfl
    have HM := hide (M2.out.trans hm)
    clear ho hm
    unfold fell60
    go_wp2
    exact ⟨rfl, Or.inr ⟨HN.out, rfl⟩, HM.out⟩
  replace HQ := hide (by have h := HQ.out; simp only [Option.bind_some] at h; rw [ho] at h; exact h)
  have r3 := row_mv R2.out (by omega) hm
  have o3 := own_mv (show World.ownsRow _ _ _ _ _ _ _ from O2.out) D2.out.1 (by decide) hm
  have y0 : w3.cell? ⟨w.heap.size, 0, none⟩ = some (.slice a1 n.length c1) := r3.cell 0
  have y1 : w3.cell? ⟨w.heap.size, 1, none⟩ = some (.int .u16 (t : Int)) := r3.cell 1
  have y2 : w3.cell? ⟨w.heap.size, 2, none⟩ = some (.int .u16 0) := r3.cell 2
  have f0 : w3.frozen? ⟨w.heap.size, 0, none⟩ = false := r3.frozen 0
  have f1 : w3.frozen? ⟨w.heap.size, 1, none⟩ = false := r3.frozen 1
  have f2 : w3.frozen? ⟨w.heap.size, 2, none⟩ = false := r3.frozen 2
  have D3 := hide (hr.mv (by omega) hB (Mv.set w.heap.size 2 w3 (.int .u16 (k : Int))))
  have R3 := hide (r3.set 2 (.int .u16 (k : Int)))
  have O3 : Hid (OwnS (w3.setCell ⟨w.heap.size, 2, none⟩ (.int .u16 (k : Int))) w.heap.size (.slice a1 n.length c1) n) := hide (own_set o3 r3 (by decide) 2 (.int .u16 (k : Int)))
  have M3 := hide ((M2.out.trans hm).part (Mv.set w.heap.size 2 w3 (.int .u16 (k : Int))) (Or.inr (Nat.le_refl _)))
  clear ho hm hr r3 o3 D2 R2 O2 M2
  go_wp2
  have mm := ((Mv.set w.heap.size 0 (w3.setCell ⟨w.heap.size, 2, none⟩ (.int .u16 (k : Int))) (.slice a1 n.length c1)).trans (Mv.set w.heap.size 1 _ (.int .u16 (t : Int)))).trans (Mv.set w.heap.size 2 _ (.int .u16 (k : Int)))
  have RF : RowAt _ w.heap.size 28 #[.slice a1 n.length c1, .int .u16 (t : Int), .int .u16 (k : Int)] := ((R3.out.set 0 (.slice a1 n.length c1)).set 1 (.int .u16 (t : Int))).set 2 (.int .u16 (k : Int))
  have DF := D3.out.mv (by omega) hB mm
  have OF := own_mv (show World.ownsRow _ _ _ _ _ _ _ from O3.out) R3.out (by decide) mm
  have MF := M3.out.part mm (Or.inr (Nat.le_refl _))
  clear y0 y1 y2 f0 f1 f2 D3 R3 O3 M3 mm
  generalize ((((w3.setCell ⟨w.heap.size, 2, none⟩ (.int .u16 (k : Int))).setCell ⟨w.heap.size, 0, none⟩ (.slice a1 n.length c1)).setCell ⟨w.heap.size, 1, none⟩ (.int .u16 (t : Int))).setCell ⟨w.heap.size, 2, none⟩ (.int .u16 (k : Int))) = F at RF DF OF MF ⊢
  have q0 : F.cell? ⟨w.heap.size, 0, none⟩ = some (.slice a1 n.length c1) := RF.cell 0
  have q1 : F.cell? ⟨w.heap.size, 1, none⟩ = some (.int .u16 (t : Int)) := RF.cell 1
  have q2 : F.cell? ⟨w.heap.size, 2, none⟩ = some (.int .u16 (k : Int)) := RF.cell 2
  simp [bodyPost, results, Tryz.results34, go_sem, q0, q1, q2]
  exact ⟨Or.inl ⟨⟨n, t, k⟩, q3, _, HQ.out, rfl, ⟨a1, c1, rfl, OF⟩, DF⟩, MF⟩
end Go.Proofs.YtpgebiopckmgbabGreat
