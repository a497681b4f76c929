/- (*wire.reader).message of answers of type 99 alone. -/
import Derived.Test.YtpgebiopckmgbabGreatRan
import Derived.Test.YtpgebiopckmgbabGreatRde
namespace Go.Proofs.YtpgebiopckmgbabGreat
open Go.RowKit
set_option maxRecDepth 3000 in
set_option maxHeartbeats 1600000 in
theorem message_a (B T : Nat) (ao : Option Addr) (c : Nat) (b : List UInt8) (f cd k : Nat) (X : List M.R) (pl : Nat → Nat) (w : World) (hR : RdW B T ao c b 0 w) (h12 : 12 ≤ b.length) (v0 : Hid (M.v16 b 0 = 0)) (v2 : Hid (M.v16 b 2 = f)) (v4 : Hid (M.v16 b 4 = 0)) (v6 : Hid (M.v16 b 6 = k)) (v8 : Hid (M.v16 b 8 = 0)) (v10 : Hid (M.v16 b 10 = 0)) (hpl : Hid (pl 0 = 12)) (hk : Hid (X.length = k)) (hk30 : k ≤ 30)
    (hA : ∀ j x, X[j]? = some x → M.RecAt b (pl j) (pl (j + 1)) x ∧ x.type = 99 ∧ x.cls = 1 ∧ x.ttl < 2147483648 ∧ x.data.length ≤ 8192) (hend : Hid (pl k = b.length)) (hg7 : Hid (M.g7 f = (cd : Int))) :
    Calls Tryz.prog 22 #[.pointer (some ⟨T, 0, none⟩)] w fun e w' => ∃ va ca Ls, e = .returned (.agg (mc15 0 (M.g1 f) (M.g2 f) (M.g3 f) (M.g4 f) (M.g5 f) (M.g6 f) (cd : Int) (.slice none 0 0) (.slice va k ca) (.slice none 0 0) (.slice none 0 0) false 0 false)) ∧ Ls.map (·.r) = X ∧ GotL w w' (.slice va k ca) Ls ∧ Mv T w w' := by
  have hlt := hR.lt
  have hB := hR.2.2.2.2.2.2.2
  have hTX : T ≠ w.heap.size := by omega
  have hXT : w.heap.size ≠ T := by omega
  have HA := hide hA
  have hmf : ∀ (fn : Fn) (first cap : Array Value) (w : World), (Instr.makeFunc fn first cap).run Tryz.prog w = .ok (.func fn first cap) w := fun _ _ _ _ => rfl
  have K0 : Hid (MK B T ao c b w.heap.size w 0 #[.int .u16 0, .bool false, .int .i64 0, .bool false, .bool false, .bool false, .bool false, .int .i64 0, .slice none 0 0, .slice none 0 0, .slice none 0 0, .slice none 0 0, .bool false, .int .u16 0, .bool false] (w.alloc (.cells #[.int .u16 0, .bool false, .int .i64 0, .bool false, .bool false, .bool false, .bool false, .int .i64 0, .slice none 0 0, .slice none 0 0, .slice none 0 0, .slice none 0 0, .bool false, .int .u16 0, .bool false] 32))) := ⟨hR.below ((Below.refl _ w).alloc (Nat.le_refl _) _), RowAt.new w 32 _, Mv.of ((Below.refl _ w).alloc (Nat.le_refl _) _)⟩
  clear hR hA
  go_enter Tryz.func22, Tryz.ntmps22
  go_wp2_with fail
  refine (n16_ok B T ao c b 0 _ (by exact K0.out.rd) (by omega)).mono ?_
  rintro e w1 ⟨rfl, hr, hm⟩
  rw [show M.by_ b 0 * 256 + M.by_ b (0 + 1) = 0 from v0.out]
  have K1 := hide (K0.out.call hXT hr hm)
  clear hr hm
  have y0 : w1.cell? ⟨w.heap.size, 0, none⟩ = some (.int .u16 0) := K1.out.row.cell 0
  have f0 := K1.out.row.frozen 0
  have K2 := hide (K1.out.upd hTX hB (Nat.le_refl _) (K1.out.row.set 0 (.int .u16 ((0 : Nat) : Int))) (Mv.set w.heap.size 0 w1 (.int .u16 ((0 : Nat) : Int))))
  go_wp2_with fail
  refine (n16_ok B T ao c b (0 + 2) _ (by exact K2.out.rd) (by omega)).mono ?_
  rintro e w2 ⟨rfl, hr, hm⟩
  rw [show M.by_ b (0 + 2) * 256 + M.by_ b ((0 + 2) + 1) = f from v2.out]
  have K3 := hide (K2.out.call hXT hr hm)
  clear hr hm
  go_wp2_with fail
  refine (setFlags_any w.heap.size f (.int .u16 ((0 : Nat) : Int)) _ _ _ _ _ _ _ (.slice none 0 0) (.slice none 0 0) (.slice none 0 0) (.slice none 0 0) (.bool false) (.int .u16 0) (.bool false) _ (by exact K3.out.row)).mono ?_
  rintro e w3 ⟨rfl, hR3, hm3⟩
  have K4 := hide (K3.out.upd hTX hB (Nat.le_refl _) hR3 hm3)
  rw [hg7.out] at K4
  clear hR3 hm3 y0 f0 K0 K1 K2 K3
  go_wp2_with fail
  refine (n16_ok B T ao c b (0 + 2 + 2) _ (by exact K4.out.rd) (by omega)).mono ?_
  rintro e w4 ⟨rfl, hr, hm⟩
  rw [show M.by_ b (0 + 2 + 2) * 256 + M.by_ b ((0 + 2 + 2) + 1) = 0 from v4.out]
  have K5 := hide (K4.out.call hXT hr hm)
  clear hr hm
  go_wp2_with fail
  refine (n16_ok B T ao c b (0 + 2 + 2 + 2) _ (by exact K5.out.rd) (by omega)).mono ?_
  rintro e w5 ⟨rfl, hr, hm⟩
  rw [show M.by_ b (0 + 2 + 2 + 2) * 256 + M.by_ b ((0 + 2 + 2 + 2) + 1) = k from v6.out]
  have K6 := hide (K5.out.call hXT hr hm)
  clear hr hm
  go_wp2_with fail
  refine (n16_ok B T ao c b (0 + 2 + 2 + 2 + 2) _ (by exact K6.out.rd) (by omega)).mono ?_
  rintro e w6 ⟨rfl, hr, hm⟩
  rw [show M.by_ b (0 + 2 + 2 + 2 + 2) * 256 + M.by_ b ((0 + 2 + 2 + 2 + 2) + 1) = 0 from v8.out]
  have K7 := hide (K6.out.call hXT hr hm)
  clear hr hm
  go_wp2_with fail
  refine (n16_ok B T ao c b (0 + 2 + 2 + 2 + 2 + 2) _ (by exact K7.out.rd) (by omega)).mono ?_
  rintro e w7 ⟨rfl, hr, hm⟩
  rw [show M.by_ b (0 + 2 + 2 + 2 + 2 + 2) * 256 + M.by_ b ((0 + 2 + 2 + 2 + 2 + 2) + 1) = 0 from v10.out]
  have K8 := hide (K7.out.call hXT hr hm)
  clear hr hm
  have K9 : Hid (MK B T ao c b w.heap.size w (pl 0) (mc15 0 (M.g1 f) (M.g2 f) (M.g3 f) (M.g4 f) (M.g5 f) (M.g6 f) (cd : Int) (.slice none 0 0) (.slice none 0 0) (.slice none 0 0) (.slice none 0 0) false 0 false) w7) := by rw [hpl.out]; exact K8.out
  clear K4 K5 K6 K7 K8
  go_wp2
  go_loopw [22] (fun s22 wz => s22 = .int .u16 0 ∧ wz = w7) (fun _ _ => 0)
  case atStart => exact ⟨rfl, rfl⟩
  case round =>
    obtain ⟨rfl, rfl⟩ := hrel
    go_wp2_with fail
    refine (records_ans B T ao c b X k pl _ _ (by exact K9.out.rd) hk hk30 HA.out).mono ?_
    rintro e w8 ⟨va, ca, Ls, rfl, hM8, hO8, hE8, hr8, hm8⟩
    have HM8 := hide hM8
    have kA := K9.out.call hXT hr8 hm8
    have gA : GotL w w8 (.slice va k ca) Ls := ⟨_, K9.out.mv.size, hO8, hE8⟩
    have y9 : w8.cell? ⟨w.heap.size, 9, none⟩ = some (.slice none 0 0) := kA.row.cell 9
    have f9 := kA.row.frozen 9
    have KB : Hid (MK B T ao c b w.heap.size w (pl k) (mc15 0 (M.g1 f) (M.g2 f) (M.g3 f) (M.g4 f) (M.g5 f) (M.g6 f) (cd : Int) (.slice none 0 0) (.slice va k ca) (.slice none 0 0) (.slice none 0 0) false 0 false) (w8.setCell ⟨w.heap.size, 9, none⟩ (.slice va k ca))) := kA.upd hTX hB (Nat.le_refl _) (kA.row.set 9 (.slice va k ca)) (Mv.set w.heap.size 9 w8 (.slice va k ca))
    have GB := hide (gA.mvt kA.row (by decide) (by decide) (by decide) (Mv.set w.heap.size 9 w8 (.slice va k ca)))
    clear kA gA hM8 hO8 hE8 hr8 hm8 K9
    go_wp2_with fail
    generalize w8.setCell ⟨w.heap.size, 9, none⟩ (.slice va k ca) = wA at KB GB ⊢
    clear y9 f9
    refine (records_none T _ _).mono ?_
    rintro e w9 ⟨rfl, hw9⟩
    rw [← hw9]; clear hw9 w9
    have y10 : wA.cell? ⟨w.heap.size, 10, none⟩ = some (.slice none 0 0) := KB.out.row.cell 10
    have f10 := KB.out.row.frozen 10
    have KC : Hid (MK B T ao c b w.heap.size w (pl k) (mc15 0 (M.g1 f) (M.g2 f) (M.g3 f) (M.g4 f) (M.g5 f) (M.g6 f) (cd : Int) (.slice none 0 0) (.slice va k ca) (.slice none 0 0) (.slice none 0 0) false 0 false) (wA.setCell ⟨w.heap.size, 10, none⟩ (.slice none 0 0))) := KB.out.upd hTX hB (Nat.le_refl _) (KB.out.row.set 10 (.slice none 0 0)) (Mv.set w.heap.size 10 wA (.slice none 0 0))
    have GC := hide (GB.out.mvt KB.out.row (by decide) (by decide) (by decide) (Mv.set w.heap.size 10 wA (.slice none 0 0)))
    clear KB GB
    go_wp2_with fail
    generalize wA.setCell ⟨w.heap.size, 10, none⟩ (.slice none 0 0) = wC at KC GC ⊢
    clear y10 f10
    refine (records_none T _ _).mono ?_
    rintro e w9 ⟨rfl, hw9⟩
    rw [← hw9]; clear hw9 w9
    have y11 : wC.cell? ⟨w.heap.size, 11, none⟩ = some (.slice none 0 0) := KC.out.row.cell 11
    have f11 := KC.out.row.frozen 11
    have KD : Hid (MK B T ao c b w.heap.size w b.length (mc15 0 (M.g1 f) (M.g2 f) (M.g3 f) (M.g4 f) (M.g5 f) (M.g6 f) (cd : Int) (.slice none 0 0) (.slice va k ca) (.slice none 0 0) (.slice none 0 0) false 0 false) (wC.setCell ⟨w.heap.size, 11, none⟩ (.slice none 0 0))) := by rw [← hend.out]; exact KC.out.upd hTX hB (Nat.le_refl _) (KC.out.row.set 11 (.slice none 0 0)) (Mv.set w.heap.size 11 wC (.slice none 0 0))
    have GD := hide (GC.out.mvt KC.out.row (by decide) (by decide) (by decide) (Mv.set w.heap.size 11 wC (.slice none 0 0)))
    have t0 : (wC.setCell ⟨w.heap.size, 11, none⟩ (.slice none 0 0)).cell? ⟨T, 0, none⟩ = some (.slice ao b.length c) := KD.out.rd.1.cell 0
    have t1 : (wC.setCell ⟨w.heap.size, 11, none⟩ (.slice none 0 0)).cell? ⟨T, 1, none⟩ = some (.int .i64 (b.length : Int)) := KD.out.rd.1.cell 1
    have q2 : ((b.length : Int) != (b.length : Int)) = false := by simp
    clear KC GC
    go_wp2_with fail
    go_quiet (fail)
    have KE : Hid (MK B T ao c b w.heap.size w b.length (mc15 0 (M.g1 f) (M.g2 f) (M.g3 f) (M.g4 f) (M.g5 f) (M.g6 f) (cd : Int) (.slice none 0 0) (.slice va k ca) (.slice none 0 0) (.slice none 0 0) false 0 false) ((wC.setCell ⟨w.heap.size, 11, none⟩ (.slice none 0 0)).drewN nq)) := ⟨KD.out.rd.below (drew_below _ ⟨nq, rfl⟩), KD.out.row, KD.out.mv.trans (Mv.of (drew_below _ ⟨nq, rfl⟩))⟩
    have GE := hide (GD.out.below (w' := (wC.setCell ⟨w.heap.size, 11, none⟩ (.slice none 0 0)).drewN nq) (drew_below _ ⟨nq, rfl⟩))
    clear t0 t1 y11 f11 KD GD
    generalize ((wC.setCell ⟨w.heap.size, 11, none⟩ (.slice none 0 0)).drewN nq) = Y at KE GE ⊢
    go_wp2_with (first
      | (refine wpList_load_row rfl 32 (.tmp 2) rfl w.heap.size rfl 32 _ (0, 0) _ (by exact KE.out.row) Tryz.underlying32 rfl (by exact infoMs) ?_)
      | (refine wpList_store_rowR rfl 32 (.tmp 2) (.tmp 56) rfl w.heap.size (mc15 0 (M.g1 f) (M.g2 f) (M.g3 f) (M.g4 f) (M.g5 f) (M.g6 f) (cd : Int) (.slice none 0 0) (.slice va k ca) (.slice none 0 0) (.slice none 0 0) false 0 false) rfl rfl 32 _ (by exact KE.out.row) (by exact infoMs) rfl (mc15_one _ _ _ _ _ _ _ _ _ _ _ _ _ _ _ _ _ _ _ _ _ _ _) ?_))
    have hm9 := KE.out.mv.part (mv_setRow w.heap.size _ (mc15 0 (M.g1 f) (M.g2 f) (M.g3 f) (M.g4 f) (M.g5 f) (M.g6 f) (cd : Int) (.slice none 0 0) (.slice va k ca) (.slice none 0 0) (.slice none 0 0) false 0 false)) (Or.inr (Nat.le_refl _))
    have g9 := GE.out.mvt KE.out.row (by decide) (by decide) (by decide) (mv_setRow w.heap.size _ (mc15 0 (M.g1 f) (M.g2 f) (M.g3 f) (M.g4 f) (M.g5 f) (M.g6 f) (cd : Int) (.slice none 0 0) (.slice va k ca) (.slice none 0 0) (.slice none 0 0) false 0 false))
    exact bodyPost_ret (v := .agg (mc15 0 (M.g1 f) (M.g2 f) (M.g3 f) (M.g4 f) (M.g5 f) (M.g6 f) (cd : Int) (.slice none 0 0) (.slice va k ca) (.slice none 0 0) (.slice none 0 0) false 0 false)) (results_cell_row Tryz.results22 _ _ w.heap.size 32 _ (0, 0) _ rfl (setRow_same KE.out.row _) Tryz.underlying32 rfl (by exact infoMs)) rfl ⟨va, ca, Ls, rfl, HM8.out, g9, hm9⟩
end Go.Proofs.YtpgebiopckmgbabGreat

/- wire.Read of answers of type 99 alone. -/
namespace Go.Proofs.YtpgebiopckmgbabGreat
open Go.RowKit
set_option maxRecDepth 5000 in
theorem GotL.base {w0 w1 w : World} {v : Value} {Ls : List RX} (h : GotL w1 w v Ls) (hz : w0.heap.size ≤ w1.heap.size) : GotL w0 w v Ls := by
  obtain ⟨bs, h1, h2⟩ := h
  exact ⟨bs, Nat.le_trans hz h1, h2⟩
set_option maxRecDepth 3000 in
set_option maxHeartbeats 1600000 in
theorem read_a (b : List UInt8) (ao : Option Addr) (c : Nat) (f cd k : Nat) (X : List M.R) (pl : Nat → Nat) (w : World) (hs : SlL w ao b) (hc : b.length ≤ c) (hnil : ao = none → c = 0) (h65 : b.length ≤ 65535) (h12 : 12 ≤ b.length) (v0 : Hid (M.v16 b 0 = 0)) (v2 : Hid (M.v16 b 2 = f)) (v4 : Hid (M.v16 b 4 = 0)) (v6 : Hid (M.v16 b 6 = k)) (v8 : Hid (M.v16 b 8 = 0)) (v10 : Hid (M.v16 b 10 = 0)) (hpl : Hid (pl 0 = 12)) (hk : Hid (X.length = k)) (hk30 : k ≤ 30)
    (hA : ∀ j x, X[j]? = some x → M.RecAt b (pl j) (pl (j + 1)) x ∧ x.type = 99 ∧ x.cls = 1 ∧ x.ttl < 2147483648 ∧ x.data.length ≤ 8192) (hend : Hid (pl k = b.length)) (hg7 : Hid (M.g7 f = (cd : Int))) :
    Calls Tryz.prog 10 #[.slice ao b.length c] w fun e w' => ∃ va ca Ls, e = .returned (.tuple #[.agg (mc15 0 (M.g1 f) (M.g2 f) (M.g3 f) (M.g4 f) (M.g5 f) (M.g6 f) (cd : Int) (.slice none 0 0) (.slice va k ca) (.slice none 0 0) (.slice none 0 0) false 0 false), .int .i64 0]) ∧ Ls.map (·.r) = X ∧ GotL w w' (.slice va k ca) Ls ∧ Below w.heap.size w w' := by
  have hmf : ∀ (fn : Fn) (first cap : Array Value) (w : World), (Instr.makeFunc fn first cap).run Tryz.prog w = .ok (.func fn first cap) w := fun _ _ _ _ => rfl
  have hlt' : ¬ (65535 : Int) < (b.length : Int) := by omega
  have b1 := (Below.refl w.heap.size w).alloc (Nat.le_refl _) (.cells #[.int .u16 0, .bool false, .int .i64 0, .bool false, .bool false, .bool false, .bool false, .int .i64 0, .slice none 0 0, .slice none 0 0, .slice none 0 0, .slice none 0 0, .bool false, .int .u16 0, .bool false] 32)
  have b2 := b1.alloc (by simp) (.cells #[.int .i64 0] 34)
  have b3 := b2.alloc (by simp; omega) (.cells #[.slice ao b.length c, .int .i64 0] 63)
  have RM : Hid (RowAt (((w.alloc (.cells #[.int .u16 0, .bool false, .int .i64 0, .bool false, .bool false, .bool false, .bool false, .int .i64 0, .slice none 0 0, .slice none 0 0, .slice none 0 0, .slice none 0 0, .bool false, .int .u16 0, .bool false] 32)).alloc (.cells #[.int .i64 0] 34)).alloc (.cells #[.slice ao b.length c, .int .i64 0] 63)) (w.heap.size) 32 #[.int .u16 0, .bool false, .int .i64 0, .bool false, .bool false, .bool false, .bool false, .int .i64 0, .slice none 0 0, .slice none 0 0, .slice none 0 0, .slice none 0 0, .bool false, .int .u16 0, .bool false]) := ((RowAt.new w 32 #[.int .u16 0, .bool false, .int .i64 0, .bool false, .bool false, .bool false, .bool false, .int .i64 0, .slice none 0 0, .slice none 0 0, .slice none 0 0, .slice none 0 0, .bool false, .int .u16 0, .bool false]).alloc _).alloc _
  have RE : Hid (RowAt (((w.alloc (.cells #[.int .u16 0, .bool false, .int .i64 0, .bool false, .bool false, .bool false, .bool false, .int .i64 0, .slice none 0 0, .slice none 0 0, .slice none 0 0, .slice none 0 0, .bool false, .int .u16 0, .bool false] 32)).alloc (.cells #[.int .i64 0] 34)).alloc (.cells #[.slice ao b.length c, .int .i64 0] 63)) (w.heap.size + 1) 34 #[.int .i64 0]) := by
    have h := (RowAt.new (w.alloc (.cells #[.int .u16 0, .bool false, .int .i64 0, .bool false, .bool false, .bool false, .bool false, .int .i64 0, .slice none 0 0, .slice none 0 0, .slice none 0 0, .slice none 0 0, .bool false, .int .u16 0, .bool false] 32)) 34 #[.int .i64 0]).alloc (.cells #[.slice ao b.length c, .int .i64 0] 63)
    rw [World.size_alloc] at h; exact h
  have DR : Hid (RdW w.heap.size (w.heap.size + 2) ao c b 0 (((w.alloc (.cells #[.int .u16 0, .bool false, .int .i64 0, .bool false, .bool false, .bool false, .bool false, .int .i64 0, .slice none 0 0, .slice none 0 0, .slice none 0 0, .slice none 0 0, .bool false, .int .u16 0, .bool false] 32)).alloc (.cells #[.int .i64 0] 34)).alloc (.cells #[.slice ao b.length c, .int .i64 0] 63))) := by
    have h := RowAt.new ((w.alloc (.cells #[.int .u16 0, .bool false, .int .i64 0, .bool false, .bool false, .bool false, .bool false, .int .i64 0, .slice none 0 0, .slice none 0 0, .slice none 0 0, .slice none 0 0, .bool false, .int .u16 0, .bool false] 32)).alloc (.cells #[.int .i64 0] 34)) 63 #[.slice ao b.length c, .int .i64 0]
    rw [World.size_alloc, World.size_alloc] at h
    exact ⟨h, (SlL.slB hs).below b3, hc, hnil, by omega, h65, by omega, b3.size⟩
  have B3 := hide b3
  have HA := hide hA
  clear b1 b2 b3 hs hA
  go_enter_defers Tryz.func10, Tryz.ntmps10
  go_wp2_with fail
  refine (message_a w.heap.size (w.heap.size + 2) ao c b f cd k X pl _ (by exact DR.out) h12 v0 v2 v4 v6 v8 v10 hpl hk hk30 HA.out hend hg7).mono ?_
  rintro e w1 ⟨va, ca, Ls, rfl, hM1, hg1, hm⟩
  have HM1 := hide hM1
  clear hM1
  have re := row_mv RE.out (by omega) hm
  have rm := row_mv RM.out (by omega) hm
  have B4 := hide (B3.out.trans (hm.below (by omega) (by simp; omega)))
  have RE2 := hide re
  have k2 : w1.cell? ⟨w.heap.size + 1, 0, none⟩ = some (.int .i64 0) := re.cell 0
  have k3 : w1.frozen? ⟨w.heap.size + 1, 0, none⟩ = false := re.frozen 0
  have y0 : w1.cell? ⟨w.heap.size, 0, none⟩ = some (.int .u16 0) := rm.cell 0
  have f0 : w1.frozen? ⟨w.heap.size, 0, none⟩ = false := rm.frozen 0
  have y1 : w1.cell? ⟨w.heap.size, 1, none⟩ = some (.bool false) := rm.cell 1
  have f1 : w1.frozen? ⟨w.heap.size, 1, none⟩ = false := rm.frozen 1
  have y2 : w1.cell? ⟨w.heap.size, 2, none⟩ = some (.int .i64 0) := rm.cell 2
  have f2 : w1.frozen? ⟨w.heap.size, 2, none⟩ = false := rm.frozen 2
  have y3 : w1.cell? ⟨w.heap.size, 3, none⟩ = some (.bool false) := rm.cell 3
  have f3 : w1.frozen? ⟨w.heap.size, 3, none⟩ = false := rm.frozen 3
  have y4 : w1.cell? ⟨w.heap.size, 4, none⟩ = some (.bool false) := rm.cell 4
  have f4 : w1.frozen? ⟨w.heap.size, 4, none⟩ = false := rm.frozen 4
  have y5 : w1.cell? ⟨w.heap.size, 5, none⟩ = some (.bool false) := rm.cell 5
  have f5 : w1.frozen? ⟨w.heap.size, 5, none⟩ = false := rm.frozen 5
  have y6 : w1.cell? ⟨w.heap.size, 6, none⟩ = some (.bool false) := rm.cell 6
  have f6 : w1.frozen? ⟨w.heap.size, 6, none⟩ = false := rm.frozen 6
  have y7 : w1.cell? ⟨w.heap.size, 7, none⟩ = some (.int .i64 0) := rm.cell 7
  have f7 : w1.frozen? ⟨w.heap.size, 7, none⟩ = false := rm.frozen 7
  have y8 : w1.cell? ⟨w.heap.size, 8, none⟩ = some (.slice none 0 0) := rm.cell 8
  have f8 : w1.frozen? ⟨w.heap.size, 8, none⟩ = false := rm.frozen 8
  have y9 : w1.cell? ⟨w.heap.size, 9, none⟩ = some (.slice none 0 0) := rm.cell 9
  have f9 : w1.frozen? ⟨w.heap.size, 9, none⟩ = false := rm.frozen 9
  have y10 : w1.cell? ⟨w.heap.size, 10, none⟩ = some (.slice none 0 0) := rm.cell 10
  have f10 : w1.frozen? ⟨w.heap.size, 10, none⟩ = false := rm.frozen 10
  have y11 : w1.cell? ⟨w.heap.size, 11, none⟩ = some (.slice none 0 0) := rm.cell 11
  have f11 : w1.frozen? ⟨w.heap.size, 11, none⟩ = false := rm.frozen 11
  have y12 : w1.cell? ⟨w.heap.size, 12, none⟩ = some (.bool false) := rm.cell 12
  have f12 : w1.frozen? ⟨w.heap.size, 12, none⟩ = false := rm.frozen 12
  have y13 : w1.cell? ⟨w.heap.size, 13, none⟩ = some (.int .u16 0) := rm.cell 13
  have f13 : w1.frozen? ⟨w.heap.size, 13, none⟩ = false := rm.frozen 13
  have y14 : w1.cell? ⟨w.heap.size, 14, none⟩ = some (.bool false) := rm.cell 14
  have f14 : w1.frozen? ⟨w.heap.size, 14, none⟩ = false := rm.frozen 14
  have RM2 := hide rm
  have GG := hide hg1
  clear hm DR RE RM B3 re rm hg1
  unfold mc15
  go_wp2
  have s0 : RowAt (w1.setCell ⟨w.heap.size, 0, none⟩ (.int .u16 ((0 : Nat) : Int))) w.heap.size 32 #[.int .u16 ((0 : Nat) : Int), .bool false, .int .i64 0, .bool false, .bool false, .bool false, .bool false, .int .i64 0, .slice none 0 0, .slice none 0 0, .slice none 0 0, .slice none 0 0, .bool false, .int .u16 0, .bool false] := RM2.out.set 0 _
  have s1 : RowAt ((w1.setCell ⟨w.heap.size, 0, none⟩ (.int .u16 ((0 : Nat) : Int))).setCell ⟨w.heap.size, 1, none⟩ (.bool (M.g1 f))) w.heap.size 32 #[.int .u16 ((0 : Nat) : Int), .bool (M.g1 f), .int .i64 0, .bool false, .bool false, .bool false, .bool false, .int .i64 0, .slice none 0 0, .slice none 0 0, .slice none 0 0, .slice none 0 0, .bool false, .int .u16 0, .bool false] := s0.set 1 _
  have s2 : RowAt (((w1.setCell ⟨w.heap.size, 0, none⟩ (.int .u16 ((0 : Nat) : Int))).setCell ⟨w.heap.size, 1, none⟩ (.bool (M.g1 f))).setCell ⟨w.heap.size, 2, none⟩ (.int .i64 (M.g2 f))) w.heap.size 32 #[.int .u16 ((0 : Nat) : Int), .bool (M.g1 f), .int .i64 (M.g2 f), .bool false, .bool false, .bool false, .bool false, .int .i64 0, .slice none 0 0, .slice none 0 0, .slice none 0 0, .slice none 0 0, .bool false, .int .u16 0, .bool false] := s1.set 2 _
  have s3 : RowAt ((((w1.setCell ⟨w.heap.size, 0, none⟩ (.int .u16 ((0 : Nat) : Int))).setCell ⟨w.heap.size, 1, none⟩ (.bool (M.g1 f))).setCell ⟨w.heap.size, 2, none⟩ (.int .i64 (M.g2 f))).setCell ⟨w.heap.size, 3, none⟩ (.bool (M.g3 f))) w.heap.size 32 #[.int .u16 ((0 : Nat) : Int), .bool (M.g1 f), .int .i64 (M.g2 f), .bool (M.g3 f), .bool false, .bool false, .bool false, .int .i64 0, .slice none 0 0, .slice none 0 0, .slice none 0 0, .slice none 0 0, .bool false, .int .u16 0, .bool false] := s2.set 3 _
  have s4 : RowAt (((((w1.setCell ⟨w.heap.size, 0, none⟩ (.int .u16 ((0 : Nat) : Int))).setCell ⟨w.heap.size, 1, none⟩ (.bool (M.g1 f))).setCell ⟨w.heap.size, 2, none⟩ (.int .i64 (M.g2 f))).setCell ⟨w.heap.size, 3, none⟩ (.bool (M.g3 f))).setCell ⟨w.heap.size, 4, none⟩ (.bool (M.g4 f))) w.heap.size 32 #[.int .u16 ((0 : Nat) : Int), .bool (M.g1 f), .int .i64 (M.g2 f), .bool (M.g3 f), .bool (M.g4 f), .bool false, .bool false, .int .i64 0, .slice none 0 0, .slice none 0 0, .slice none 0 0, .slice none 0 0, .bool false, .int .u16 0, .bool false] := s3.set 4 _
  have s5 : RowAt ((((((w1.setCell ⟨w.heap.size, 0, none⟩ (.int .u16 ((0 : Nat) : Int))).setCell ⟨w.heap.size, 1, none⟩ (.bool (M.g1 f))).setCell ⟨w.heap.size, 2, none⟩ (.int .i64 (M.g2 f))).setCell ⟨w.heap.size, 3, none⟩ (.bool (M.g3 f))).setCell ⟨w.heap.size, 4, none⟩ (.bool (M.g4 f))).setCell ⟨w.heap.size, 5, none⟩ (.bool (M.g5 f))) w.heap.size 32 #[.int .u16 ((0 : Nat) : Int), .bool (M.g1 f), .int .i64 (M.g2 f), .bool (M.g3 f), .bool (M.g4 f), .bool (M.g5 f), .bool false, .int .i64 0, .slice none 0 0, .slice none 0 0, .slice none 0 0, .slice none 0 0, .bool false, .int .u16 0, .bool false] := s4.set 5 _
  have s6 : RowAt (((((((w1.setCell ⟨w.heap.size, 0, none⟩ (.int .u16 ((0 : Nat) : Int))).setCell ⟨w.heap.size, 1, none⟩ (.bool (M.g1 f))).setCell ⟨w.heap.size, 2, none⟩ (.int .i64 (M.g2 f))).setCell ⟨w.heap.size, 3, none⟩ (.bool (M.g3 f))).setCell ⟨w.heap.size, 4, none⟩ (.bool (M.g4 f))).setCell ⟨w.heap.size, 5, none⟩ (.bool (M.g5 f))).setCell ⟨w.heap.size, 6, none⟩ (.bool (M.g6 f))) w.heap.size 32 #[.int .u16 ((0 : Nat) : Int), .bool (M.g1 f), .int .i64 (M.g2 f), .bool (M.g3 f), .bool (M.g4 f), .bool (M.g5 f), .bool (M.g6 f), .int .i64 0, .slice none 0 0, .slice none 0 0, .slice none 0 0, .slice none 0 0, .bool false, .int .u16 0, .bool false] := s5.set 6 _
  have s7 : RowAt ((((((((w1.setCell ⟨w.heap.size, 0, none⟩ (.int .u16 ((0 : Nat) : Int))).setCell ⟨w.heap.size, 1, none⟩ (.bool (M.g1 f))).setCell ⟨w.heap.size, 2, none⟩ (.int .i64 (M.g2 f))).setCell ⟨w.heap.size, 3, none⟩ (.bool (M.g3 f))).setCell ⟨w.heap.size, 4, none⟩ (.bool (M.g4 f))).setCell ⟨w.heap.size, 5, none⟩ (.bool (M.g5 f))).setCell ⟨w.heap.size, 6, none⟩ (.bool (M.g6 f))).setCell ⟨w.heap.size, 7, none⟩ (.int .i64 (cd : Int))) w.heap.size 32 #[.int .u16 ((0 : Nat) : Int), .bool (M.g1 f), .int .i64 (M.g2 f), .bool (M.g3 f), .bool (M.g4 f), .bool (M.g5 f), .bool (M.g6 f), .int .i64 (cd : Int), .slice none 0 0, .slice none 0 0, .slice none 0 0, .slice none 0 0, .bool false, .int .u16 0, .bool false] := s6.set 7 _
  have s8 : RowAt (((((((((w1.setCell ⟨w.heap.size, 0, none⟩ (.int .u16 ((0 : Nat) : Int))).setCell ⟨w.heap.size, 1, none⟩ (.bool (M.g1 f))).setCell ⟨w.heap.size, 2, none⟩ (.int .i64 (M.g2 f))).setCell ⟨w.heap.size, 3, none⟩ (.bool (M.g3 f))).setCell ⟨w.heap.size, 4, none⟩ (.bool (M.g4 f))).setCell ⟨w.heap.size, 5, none⟩ (.bool (M.g5 f))).setCell ⟨w.heap.size, 6, none⟩ (.bool (M.g6 f))).setCell ⟨w.heap.size, 7, none⟩ (.int .i64 (cd : Int))).setCell ⟨w.heap.size, 8, none⟩ (.slice none 0 0)) w.heap.size 32 #[.int .u16 ((0 : Nat) : Int), .bool (M.g1 f), .int .i64 (M.g2 f), .bool (M.g3 f), .bool (M.g4 f), .bool (M.g5 f), .bool (M.g6 f), .int .i64 (cd : Int), .slice none 0 0, .slice none 0 0, .slice none 0 0, .slice none 0 0, .bool false, .int .u16 0, .bool false] := s7.set 8 _
  have s9 : RowAt ((((((((((w1.setCell ⟨w.heap.size, 0, none⟩ (.int .u16 ((0 : Nat) : Int))).setCell ⟨w.heap.size, 1, none⟩ (.bool (M.g1 f))).setCell ⟨w.heap.size, 2, none⟩ (.int .i64 (M.g2 f))).setCell ⟨w.heap.size, 3, none⟩ (.bool (M.g3 f))).setCell ⟨w.heap.size, 4, none⟩ (.bool (M.g4 f))).setCell ⟨w.heap.size, 5, none⟩ (.bool (M.g5 f))).setCell ⟨w.heap.size, 6, none⟩ (.bool (M.g6 f))).setCell ⟨w.heap.size, 7, none⟩ (.int .i64 (cd : Int))).setCell ⟨w.heap.size, 8, none⟩ (.slice none 0 0)).setCell ⟨w.heap.size, 9, none⟩ (.slice va k ca)) w.heap.size 32 #[.int .u16 ((0 : Nat) : Int), .bool (M.g1 f), .int .i64 (M.g2 f), .bool (M.g3 f), .bool (M.g4 f), .bool (M.g5 f), .bool (M.g6 f), .int .i64 (cd : Int), .slice none 0 0, .slice va k ca, .slice none 0 0, .slice none 0 0, .bool false, .int .u16 0, .bool false] := s8.set 9 _
  have s10 : RowAt (((((((((((w1.setCell ⟨w.heap.size, 0, none⟩ (.int .u16 ((0 : Nat) : Int))).setCell ⟨w.heap.size, 1, none⟩ (.bool (M.g1 f))).setCell ⟨w.heap.size, 2, none⟩ (.int .i64 (M.g2 f))).setCell ⟨w.heap.size, 3, none⟩ (.bool (M.g3 f))).setCell ⟨w.heap.size, 4, none⟩ (.bool (M.g4 f))).setCell ⟨w.heap.size, 5, none⟩ (.bool (M.g5 f))).setCell ⟨w.heap.size, 6, none⟩ (.bool (M.g6 f))).setCell ⟨w.heap.size, 7, none⟩ (.int .i64 (cd : Int))).setCell ⟨w.heap.size, 8, none⟩ (.slice none 0 0)).setCell ⟨w.heap.size, 9, none⟩ (.slice va k ca)).setCell ⟨w.heap.size, 10, none⟩ (.slice none 0 0)) w.heap.size 32 #[.int .u16 ((0 : Nat) : Int), .bool (M.g1 f), .int .i64 (M.g2 f), .bool (M.g3 f), .bool (M.g4 f), .bool (M.g5 f), .bool (M.g6 f), .int .i64 (cd : Int), .slice none 0 0, .slice va k ca, .slice none 0 0, .slice none 0 0, .bool false, .int .u16 0, .bool false] := s9.set 10 _
  have s11 : RowAt ((((((((((((w1.setCell ⟨w.heap.size, 0, none⟩ (.int .u16 ((0 : Nat) : Int))).setCell ⟨w.heap.size, 1, none⟩ (.bool (M.g1 f))).setCell ⟨w.heap.size, 2, none⟩ (.int .i64 (M.g2 f))).setCell ⟨w.heap.size, 3, none⟩ (.bool (M.g3 f))).setCell ⟨w.heap.size, 4, none⟩ (.bool (M.g4 f))).setCell ⟨w.heap.size, 5, none⟩ (.bool (M.g5 f))).setCell ⟨w.heap.size, 6, none⟩ (.bool (M.g6 f))).setCell ⟨w.heap.size, 7, none⟩ (.int .i64 (cd : Int))).setCell ⟨w.heap.size, 8, none⟩ (.slice none 0 0)).setCell ⟨w.heap.size, 9, none⟩ (.slice va k ca)).setCell ⟨w.heap.size, 10, none⟩ (.slice none 0 0)).setCell ⟨w.heap.size, 11, none⟩ (.slice none 0 0)) w.heap.size 32 #[.int .u16 ((0 : Nat) : Int), .bool (M.g1 f), .int .i64 (M.g2 f), .bool (M.g3 f), .bool (M.g4 f), .bool (M.g5 f), .bool (M.g6 f), .int .i64 (cd : Int), .slice none 0 0, .slice va k ca, .slice none 0 0, .slice none 0 0, .bool false, .int .u16 0, .bool false] := s10.set 11 _
  have s12 : RowAt (((((((((((((w1.setCell ⟨w.heap.size, 0, none⟩ (.int .u16 ((0 : Nat) : Int))).setCell ⟨w.heap.size, 1, none⟩ (.bool (M.g1 f))).setCell ⟨w.heap.size, 2, none⟩ (.int .i64 (M.g2 f))).setCell ⟨w.heap.size, 3, none⟩ (.bool (M.g3 f))).setCell ⟨w.heap.size, 4, none⟩ (.bool (M.g4 f))).setCell ⟨w.heap.size, 5, none⟩ (.bool (M.g5 f))).setCell ⟨w.heap.size, 6, none⟩ (.bool (M.g6 f))).setCell ⟨w.heap.size, 7, none⟩ (.int .i64 (cd : Int))).setCell ⟨w.heap.size, 8, none⟩ (.slice none 0 0)).setCell ⟨w.heap.size, 9, none⟩ (.slice va k ca)).setCell ⟨w.heap.size, 10, none⟩ (.slice none 0 0)).setCell ⟨w.heap.size, 11, none⟩ (.slice none 0 0)).setCell ⟨w.heap.size, 12, none⟩ (.bool false)) w.heap.size 32 #[.int .u16 ((0 : Nat) : Int), .bool (M.g1 f), .int .i64 (M.g2 f), .bool (M.g3 f), .bool (M.g4 f), .bool (M.g5 f), .bool (M.g6 f), .int .i64 (cd : Int), .slice none 0 0, .slice va k ca, .slice none 0 0, .slice none 0 0, .bool false, .int .u16 0, .bool false] := s11.set 12 _
  have s13 : RowAt ((((((((((((((w1.setCell ⟨w.heap.size, 0, none⟩ (.int .u16 ((0 : Nat) : Int))).setCell ⟨w.heap.size, 1, none⟩ (.bool (M.g1 f))).setCell ⟨w.heap.size, 2, none⟩ (.int .i64 (M.g2 f))).setCell ⟨w.heap.size, 3, none⟩ (.bool (M.g3 f))).setCell ⟨w.heap.size, 4, none⟩ (.bool (M.g4 f))).setCell ⟨w.heap.size, 5, none⟩ (.bool (M.g5 f))).setCell ⟨w.heap.size, 6, none⟩ (.bool (M.g6 f))).setCell ⟨w.heap.size, 7, none⟩ (.int .i64 (cd : Int))).setCell ⟨w.heap.size, 8, none⟩ (.slice none 0 0)).setCell ⟨w.heap.size, 9, none⟩ (.slice va k ca)).setCell ⟨w.heap.size, 10, none⟩ (.slice none 0 0)).setCell ⟨w.heap.size, 11, none⟩ (.slice none 0 0)).setCell ⟨w.heap.size, 12, none⟩ (.bool false)).setCell ⟨w.heap.size, 13, none⟩ (.int .u16 ((0 : Nat) : Int))) w.heap.size 32 #[.int .u16 ((0 : Nat) : Int), .bool (M.g1 f), .int .i64 (M.g2 f), .bool (M.g3 f), .bool (M.g4 f), .bool (M.g5 f), .bool (M.g6 f), .int .i64 (cd : Int), .slice none 0 0, .slice va k ca, .slice none 0 0, .slice none 0 0, .bool false, .int .u16 ((0 : Nat) : Int), .bool false] := s12.set 13 _
  have s14 : RowAt (((((((((((((((w1.setCell ⟨w.heap.size, 0, none⟩ (.int .u16 ((0 : Nat) : Int))).setCell ⟨w.heap.size, 1, none⟩ (.bool (M.g1 f))).setCell ⟨w.heap.size, 2, none⟩ (.int .i64 (M.g2 f))).setCell ⟨w.heap.size, 3, none⟩ (.bool (M.g3 f))).setCell ⟨w.heap.size, 4, none⟩ (.bool (M.g4 f))).setCell ⟨w.heap.size, 5, none⟩ (.bool (M.g5 f))).setCell ⟨w.heap.size, 6, none⟩ (.bool (M.g6 f))).setCell ⟨w.heap.size, 7, none⟩ (.int .i64 (cd : Int))).setCell ⟨w.heap.size, 8, none⟩ (.slice none 0 0)).setCell ⟨w.heap.size, 9, none⟩ (.slice va k ca)).setCell ⟨w.heap.size, 10, none⟩ (.slice none 0 0)).setCell ⟨w.heap.size, 11, none⟩ (.slice none 0 0)).setCell ⟨w.heap.size, 12, none⟩ (.bool false)).setCell ⟨w.heap.size, 13, none⟩ (.int .u16 ((0 : Nat) : Int))).setCell ⟨w.heap.size, 14, none⟩ (.bool false)) w.heap.size 32 #[.int .u16 ((0 : Nat) : Int), .bool (M.g1 f), .int .i64 (M.g2 f), .bool (M.g3 f), .bool (M.g4 f), .bool (M.g5 f), .bool (M.g6 f), .int .i64 (cd : Int), .slice none 0 0, .slice va k ca, .slice none 0 0, .slice none 0 0, .bool false, .int .u16 ((0 : Nat) : Int), .bool false] := s13.set 14 _
  have mm := ((((((((((((((((Mv.refl w.heap.size w1).trans (Mv.set w.heap.size 0 _ (.int .u16 ((0 : Nat) : Int)))).trans (Mv.set w.heap.size 1 _ (.bool (M.g1 f)))).trans (Mv.set w.heap.size 2 _ (.int .i64 (M.g2 f)))).trans (Mv.set w.heap.size 3 _ (.bool (M.g3 f)))).trans (Mv.set w.heap.size 4 _ (.bool (M.g4 f)))).trans (Mv.set w.heap.size 5 _ (.bool (M.g5 f)))).trans (Mv.set w.heap.size 6 _ (.bool (M.g6 f)))).trans (Mv.set w.heap.size 7 _ (.int .i64 (cd : Int)))).trans (Mv.set w.heap.size 8 _ (.slice none 0 0))).trans (Mv.set w.heap.size 9 _ (.slice va k ca))).trans (Mv.set w.heap.size 10 _ (.slice none 0 0))).trans (Mv.set w.heap.size 11 _ (.slice none 0 0))).trans (Mv.set w.heap.size 12 _ (.bool false))).trans (Mv.set w.heap.size 13 _ (.int .u16 ((0 : Nat) : Int)))).trans (Mv.set w.heap.size 14 _ (.bool false)))
  have re := row_mv RE2.out (by omega) mm
  have bx := B4.out.trans (mm.below (Nat.le_refl _) B4.out.size)
  have gx := GG.out.mvt RM2.out (by decide) (by decide) (by decide) mm
  clear s0 s1 s2 s3 s4 s5 s6 s7 s8 s9 s10 s11 s12 s13 y0 f0 y1 f1 y2 f2 y3 f3 y4 f4 y5 f5 y6 f6 y7 f7 y8 f8 y9 f9 y10 f10 y11 f11 y12 f12 y13 f13 y14 f14 mm RM2 RE2 B4 k2 k3 GG
  generalize (((((((((((((((w1.setCell ⟨w.heap.size, 0, none⟩ (.int .u16 ((0 : Nat) : Int))).setCell ⟨w.heap.size, 1, none⟩ (.bool (M.g1 f))).setCell ⟨w.heap.size, 2, none⟩ (.int .i64 (M.g2 f))).setCell ⟨w.heap.size, 3, none⟩ (.bool (M.g3 f))).setCell ⟨w.heap.size, 4, none⟩ (.bool (M.g4 f))).setCell ⟨w.heap.size, 5, none⟩ (.bool (M.g5 f))).setCell ⟨w.heap.size, 6, none⟩ (.bool (M.g6 f))).setCell ⟨w.heap.size, 7, none⟩ (.int .i64 (cd : Int))).setCell ⟨w.heap.size, 8, none⟩ (.slice none 0 0)).setCell ⟨w.heap.size, 9, none⟩ (.slice va k ca)).setCell ⟨w.heap.size, 10, none⟩ (.slice none 0 0)).setCell ⟨w.heap.size, 11, none⟩ (.slice none 0 0)).setCell ⟨w.heap.size, 12, none⟩ (.bool false)).setCell ⟨w.heap.size, 13, none⟩ (.int .u16 ((0 : Nat) : Int))).setCell ⟨w.heap.size, 14, none⟩ (.bool false)) = Xw at s14 re bx gx ⊢
  refine leaves_cons (f := 21) (args := #[.pointer (some ⟨w.heap.size + 1, 0, none⟩)]) (by simp) (by simp [go_sem]) ?_
  refine (read1_idle (w.heap.size + 1) _).mono ?_
  rintro e u' w'' ⟨rfl, rfl, hw⟩
  have q0 : w''.cell? ⟨w.heap.size + 1, 0, none⟩ = some (.int .i64 0) := by rw [hw]; exact (re.set 0 _).cell 0
  have hb : Below w.heap.size w w'' := by rw [hw]; exact bx.setCell (by simp) _
  have GY : GotL w w'' (.slice va k ca) Ls := by rw [hw]; exact (gx.mvt re (by decide) (by decide) (by decide) (Mv.set (w.heap.size + 1) 0 _ _)).base (by simp; omega)
  have RY : RowAt w'' (w.heap.size) 32 #[.int .u16 ((0 : Nat) : Int), .bool (M.g1 f), .int .i64 (M.g2 f), .bool (M.g3 f), .bool (M.g4 f), .bool (M.g5 f), .bool (M.g6 f), .int .i64 (cd : Int), .slice none 0 0, .slice va k ca, .slice none 0 0, .slice none 0 0, .bool false, .int .u16 ((0 : Nat) : Int), .bool false] := by rw [hw]; exact s14.other _ _ (by simp)
  have z0 : w''.cell? ⟨w.heap.size, 0, none⟩ = some (.int .u16 ((0 : Nat) : Int)) := RY.cell 0
  have z1 : w''.cell? ⟨w.heap.size, 1, none⟩ = some (.bool (M.g1 f)) := RY.cell 1
  have z2 : w''.cell? ⟨w.heap.size, 2, none⟩ = some (.int .i64 (M.g2 f)) := RY.cell 2
  have z3 : w''.cell? ⟨w.heap.size, 3, none⟩ = some (.bool (M.g3 f)) := RY.cell 3
  have z4 : w''.cell? ⟨w.heap.size, 4, none⟩ = some (.bool (M.g4 f)) := RY.cell 4
  have z5 : w''.cell? ⟨w.heap.size, 5, none⟩ = some (.bool (M.g5 f)) := RY.cell 5
  have z6 : w''.cell? ⟨w.heap.size, 6, none⟩ = some (.bool (M.g6 f)) := RY.cell 6
  have z7 : w''.cell? ⟨w.heap.size, 7, none⟩ = some (.int .i64 (cd : Int)) := RY.cell 7
  have z8 : w''.cell? ⟨w.heap.size, 8, none⟩ = some (.slice none 0 0) := RY.cell 8
  have z9 : w''.cell? ⟨w.heap.size, 9, none⟩ = some (.slice va k ca) := RY.cell 9
  have z10 : w''.cell? ⟨w.heap.size, 10, none⟩ = some (.slice none 0 0) := RY.cell 10
  have z11 : w''.cell? ⟨w.heap.size, 11, none⟩ = some (.slice none 0 0) := RY.cell 11
  have z12 : w''.cell? ⟨w.heap.size, 12, none⟩ = some (.bool false) := RY.cell 12
  have z13 : w''.cell? ⟨w.heap.size, 13, none⟩ = some (.int .u16 ((0 : Nat) : Int)) := RY.cell 13
  have z14 : w''.cell? ⟨w.heap.size, 14, none⟩ = some (.bool false) := RY.cell 14
  clear hw RY s14 re bx gx
  simp [Leaves, settle, results, Tryz.results10, go_sem, q0, z0, z1, z2, z3, z4, z5, z6, z7, z8, z9, z10, z11, z12, z13, z14]
  exact ⟨va, ca, rfl, Ls, HM1.out, GY, hb⟩
end Go.Proofs.YtpgebiopckmgbabGreat
