/- (*wire.reader).message of addresses and an OPT alone. -/
import Derived.Test.YtpgebiopckmgbabGreatRca
import Derived.Test.YtpgebiopckmgbabGreatMss
namespace Go.Proofs.YtpgebiopckmgbabGreat
open Go.RowKit
set_option maxRecDepth 5000 in
theorem infoMs : (Tryz.prog.info? 32).map (·.size) = some 15 := by kernel_rfl
/- the message that a reading makes, at block X, the reader behind what was read -/
structure MK (B T : Nat) (ao : Option Addr) (c : Nat) (b : List UInt8) (X : Nat) (w0 : World) (p : Nat) (cells : Array Value) (wr : World) : Prop where
  rd : RdW B T ao c b p wr
  row : RowAt wr X 32 cells
  mv : Mv T w0 wr
set_option maxRecDepth 5000 in
theorem MK.call {B T : Nat} {ao : Option Addr} {c : Nat} {b : List UInt8} {X : Nat} {w0 : World} {p : Nat} {cells : Array Value} {wr w' : World} (h : MK B T ao c b X w0 p cells wr) (hX : X ≠ T) {q : Nat} (hr : RdW B T ao c b q w') (hm : Mv T wr w') : MK B T ao c b X w0 q cells w' :=
  ⟨hr, row_mv h.row hX hm, h.mv.trans hm⟩
set_option maxRecDepth 5000 in
theorem MK.upd {B T : Nat} {ao : Option Addr} {c : Nat} {b : List UInt8} {X : Nat} {w0 : World} {p : Nat} {cells : Array Value} {wr w' : World} (h : MK B T ao c b X w0 p cells wr) (hX : T ≠ X) (hB : B ≤ X) (hw : w0.heap.size ≤ X) {cells' : Array Value} (hr : RowAt w' X 32 cells') (hm : Mv X wr w') : MK B T ao c b X w0 p cells' w' :=
  ⟨h.rd.mv hX hB hm, hr, h.mv.part hm (Or.inr hw)⟩
set_option maxRecDepth 5000 in
theorem Mv2.one {T P : Nat} {w w1 w2 : World} (h : Mv T w w1) (h2 : Mv2 T P w1 w2) (hP : w.heap.size ≤ P) : Mv T w w2 :=
  ⟨h2.os.trans h.os, h2.tape.trans h.tape, h2.output.trans h.output, Nat.le_trans h.size h2.size, fun k hk hn => (h2.block k (Nat.lt_of_lt_of_le hk h.size) (fun e => hn (by rw [e])) (by omega)).trans (h.block k hk hn)⟩
set_option maxRecDepth 5000 in
theorem mc15_one (i : Nat) (x1 : Bool) (op : Int) (x3 x4 x5 x6 : Bool) (cd : Int) (qa : Option Addr) (qn qc : Nat) (aa : Option Addr) (an ac : Nat) (na : Option Addr) (nn nc : Nat) (da : Option Addr) (dn dc : Nat) (ed : Bool) (sz : Nat) (xd : Bool) : (mc15 i x1 op x3 x4 x5 x6 cd (.slice qa qn qc) (.slice aa an ac) (.slice na nn nc) (.slice da dn dc) ed sz xd).all (·.oneCell') = true := by kernel_rfl
set_option maxRecDepth 3000 in
set_option maxHeartbeats 1600000 in
theorem message_e (B T : Nat) (ao : Option Addr) (c : Nat) (b : List UInt8) (f cd k : Nat) (pl : Nat → Nat) (sz ttl CD : Nat) (xd : Bool) (w : World) (hR : RdW B T ao c b 0 w) (h12 : 12 ≤ b.length) (v0 : Hid (M.v16 b 0 = 0)) (v2 : Hid (M.v16 b 2 = f)) (v4 : Hid (M.v16 b 4 = 0)) (v6 : Hid (M.v16 b 6 = 0)) (v8 : Hid (M.v16 b 8 = 0)) (v10 : Hid (M.v16 b 10 = k + 1)) (hpl : Hid (pl 0 = 12)) (hk : k ≤ 3)
    (hA : ∀ j, j < k → M.Addr4 b (pl j) (pl (j + 1))) (hO : M.OptAt b (pl k) b.length sz ttl) (hcd : cd < 16) (hg7 : Hid (M.g7 f = (cd : Int))) (ht : ttl < 4294967296) (hdo : Hid ((bits .and .u32 (ttl : Int) 32768 != 0) = xd)) (hCD : Hid (cd + ttl / 16777216 * 16 = CD)) :
    Calls Tryz.prog 22 #[.pointer (some ⟨T, 0, none⟩)] w fun e w' => ∃ va ca, e = .returned (.agg (mc15 0 (M.g1 f) (M.g2 f) (M.g3 f) (M.g4 f) (M.g5 f) (M.g6 f) (CD : Int) (.slice none 0 0) (.slice none 0 0) (.slice none 0 0) (.slice va k ca) true sz xd)) ∧ Mv T w w' := by
  have hlt := hR.lt
  have hB := hR.2.2.2.2.2.2.2
  have hTX : T ≠ w.heap.size := by omega
  have hXT : w.heap.size ≠ T := by omega
  have HA := hide hA
  have HO := hide hO
  have hmf : ∀ (fn : Fn) (first cap : Array Value) (w : World), (Instr.makeFunc fn first cap).run Tryz.prog w = .ok (.func fn first cap) w := fun _ _ _ _ => rfl
  have K0 : Hid (MK B T ao c b w.heap.size w 0 #[.int .u16 0, .bool false, .int .i64 0, .bool false, .bool false, .bool false, .bool false, .int .i64 0, .slice none 0 0, .slice none 0 0, .slice none 0 0, .slice none 0 0, .bool false, .int .u16 0, .bool false] (w.alloc (.cells #[.int .u16 0, .bool false, .int .i64 0, .bool false, .bool false, .bool false, .bool false, .int .i64 0, .slice none 0 0, .slice none 0 0, .slice none 0 0, .slice none 0 0, .bool false, .int .u16 0, .bool false] 32))) := ⟨hR.below ((Below.refl _ w).alloc (Nat.le_refl _) _), RowAt.new w 32 _, Mv.of ((Below.refl _ w).alloc (Nat.le_refl _) _)⟩
  clear hR hA hO
  go_enter Tryz.func22, Tryz.ntmps22
  go_wp2_with fail
  refine (n16_ok B T ao c b 0 _ (by exact K0.out.rd) (by omega)).mono ?_
  rintro e w1 ⟨rfl, hr, hm⟩
  rw [show M.by_ b 0 * 256 + M.by_ b (0 + 1) = 0 from v0.out]
  have K1 := hide (K0.out.call hXT hr hm)
  clear hr hm
  have y0 : w1.cell? ⟨w.heap.size, 0, none⟩ = some (.int .u16 0) := K1.out.row.cell 0
  have f0 := K1.out.row.frozen 0
  have K2 := hide (K1.out.upd hTX hB (Nat.le_refl _) (K1.out.row.set 0 (.int .u16 ((0 : Nat) : Int))) (Mv.set w.heap.size 0 w1 (.int .u16 ((0 : Nat) : Int))))
  go_wp2_with fail
  refine (n16_ok B T ao c b (0 + 2) _ (by exact K2.out.rd) (by omega)).mono ?_
  rintro e w2 ⟨rfl, hr, hm⟩
  rw [show M.by_ b (0 + 2) * 256 + M.by_ b ((0 + 2) + 1) = f from v2.out]
  have K3 := hide (K2.out.call hXT hr hm)
  clear hr hm
  go_wp2_with fail
  refine (setFlags_any w.heap.size f (.int .u16 ((0 : Nat) : Int)) _ _ _ _ _ _ _ (.slice none 0 0) (.slice none 0 0) (.slice none 0 0) (.slice none 0 0) (.bool false) (.int .u16 0) (.bool false) _ (by exact K3.out.row)).mono ?_
  rintro e w3 ⟨rfl, hR3, hm3⟩
  have K4 := hide (K3.out.upd hTX hB (Nat.le_refl _) hR3 hm3)
  rw [hg7.out] at K4
  clear hR3 hm3 y0 f0 K0 K1 K2 K3
  go_wp2_with fail
  refine (n16_ok B T ao c b (0 + 2 + 2) _ (by exact K4.out.rd) (by omega)).mono ?_
  rintro e w4 ⟨rfl, hr, hm⟩
  rw [show M.by_ b (0 + 2 + 2) * 256 + M.by_ b ((0 + 2 + 2) + 1) = 0 from v4.out]
  have K5 := hide (K4.out.call hXT hr hm)
  clear hr hm
  go_wp2_with fail
  refine (n16_ok B T ao c b (0 + 2 + 2 + 2) _ (by exact K5.out.rd) (by omega)).mono ?_
  rintro e w5 ⟨rfl, hr, hm⟩
  rw [show M.by_ b (0 + 2 + 2 + 2) * 256 + M.by_ b ((0 + 2 + 2 + 2) + 1) = 0 from v6.out]
  have K6 := hide (K5.out.call hXT hr hm)
  clear hr hm
  go_wp2_with fail
  refine (n16_ok B T ao c b (0 + 2 + 2 + 2 + 2) _ (by exact K6.out.rd) (by omega)).mono ?_
  rintro e w6 ⟨rfl, hr, hm⟩
  rw [show M.by_ b (0 + 2 + 2 + 2 + 2) * 256 + M.by_ b ((0 + 2 + 2 + 2 + 2) + 1) = 0 from v8.out]
  have K7 := hide (K6.out.call hXT hr hm)
  clear hr hm
  go_wp2_with fail
  refine (n16_ok B T ao c b (0 + 2 + 2 + 2 + 2 + 2) _ (by exact K7.out.rd) (by omega)).mono ?_
  rintro e w7 ⟨rfl, hr, hm⟩
  rw [show M.by_ b (0 + 2 + 2 + 2 + 2 + 2) * 256 + M.by_ b ((0 + 2 + 2 + 2 + 2 + 2) + 1) = (k + 1) from v10.out]
  have K8 := hide (K7.out.call hXT hr hm)
  clear hr hm
  have K9 : Hid (MK B T ao c b w.heap.size w (pl 0) (mc15 0 (M.g1 f) (M.g2 f) (M.g3 f) (M.g4 f) (M.g5 f) (M.g6 f) (cd : Int) (.slice none 0 0) (.slice none 0 0) (.slice none 0 0) (.slice none 0 0) false 0 false) w7) := by rw [hpl.out]; exact K8.out
  clear K4 K5 K6 K7 K8
  obtain ⟨K1, hK1, HK1⟩ : ∃ K1 : Nat, K1 = k + 1 ∧ Hid (k + 1 = K1) := ⟨k + 1, rfl, hide rfl⟩
  rw [HK1.out]
  clear hK1
  go_wp2
  go_loopw [22] (fun s22 wz => s22 = .int .u16 0 ∧ wz = w7) (fun _ _ => 0)
  case atStart => exact ⟨rfl, rfl⟩
  case round =>
    obtain ⟨rfl, rfl⟩ := hrel
    have y9 : wr.cell? ⟨w.heap.size, 9, none⟩ = some (.slice none 0 0) := K9.out.row.cell 9
    have f9 := K9.out.row.frozen 9
    have y10 : wr.cell? ⟨w.heap.size, 10, none⟩ = some (.slice none 0 0) := K9.out.row.cell 10
    have f10 := K9.out.row.frozen 10
    have KA : Hid (MK B T ao c b w.heap.size w (pl 0) (mc15 0 (M.g1 f) (M.g2 f) (M.g3 f) (M.g4 f) (M.g5 f) (M.g6 f) (cd : Int) (.slice none 0 0) (.slice none 0 0) (.slice none 0 0) (.slice none 0 0) false 0 false) (wr.setCell ⟨w.heap.size, 9, none⟩ (.slice none 0 0))) := K9.out.upd hTX hB (Nat.le_refl _) (K9.out.row.set 9 (.slice none 0 0)) (Mv.set w.heap.size 9 wr (.slice none 0 0))
    have KB : Hid (MK B T ao c b w.heap.size w (pl 0) (mc15 0 (M.g1 f) (M.g2 f) (M.g3 f) (M.g4 f) (M.g5 f) (M.g6 f) (cd : Int) (.slice none 0 0) (.slice none 0 0) (.slice none 0 0) (.slice none 0 0) false 0 false) ((wr.setCell ⟨w.heap.size, 9, none⟩ (.slice none 0 0)).setCell ⟨w.heap.size, 10, none⟩ (.slice none 0 0))) := KA.out.upd hTX hB (Nat.le_refl _) (KA.out.row.set 10 (.slice none 0 0)) (Mv.set w.heap.size 10 _ (.slice none 0 0))
    clear KA K9
    go_wp2_with fail
    refine (records_none T _ _).mono ?_
    rintro e w9 ⟨rfl, hw9⟩
    rw [← hw9]; clear hw9 w9
    go_wp2_with fail
    refine (records_none T _ _).mono ?_
    rintro e w9 ⟨rfl, hw9⟩
    rw [← hw9]; clear hw9 w9
    go_wp2_with fail
    rw [← HK1.out]
    refine (records_add B T ao c b w.heap.size 0 (M.g1 f) (M.g2 f) (M.g3 f) (M.g4 f) (M.g5 f) (M.g6 f) cd (.slice none 0 0) (.slice none 0 0) (.slice none 0 0) (.slice none 0 0) k pl b.length sz ttl CD xd _ (by exact KB.out.rd) (by exact KB.out.row) hB hk HA.out HO.out hcd ht hdo hCD).mono ?_
    rintro e w10 ⟨va, ca, rfl, hr10, hM10, hv10⟩
    have KC : Hid (MK B T ao c b w.heap.size w b.length (mc15 0 (M.g1 f) (M.g2 f) (M.g3 f) (M.g4 f) (M.g5 f) (M.g6 f) (CD : Int) (.slice none 0 0) (.slice none 0 0) (.slice none 0 0) (.slice none 0 0) true sz xd) w10) := ⟨hr10, hM10, Mv2.one KB.out.mv hv10 (Nat.le_refl _)⟩
    have KD : Hid (MK B T ao c b w.heap.size w b.length (mc15 0 (M.g1 f) (M.g2 f) (M.g3 f) (M.g4 f) (M.g5 f) (M.g6 f) (CD : Int) (.slice none 0 0) (.slice none 0 0) (.slice none 0 0) (.slice va k ca) true sz xd) (w10.setCell ⟨w.heap.size, 11, none⟩ (.slice va k ca))) := KC.out.upd hTX hB (Nat.le_refl _) (hM10.set 11 (.slice va k ca)) (Mv.set w.heap.size 11 w10 (.slice va k ca))
    have y11 : w10.cell? ⟨w.heap.size, 11, none⟩ = some (.slice none 0 0) := hM10.cell 11
    have f11 := hM10.frozen 11
    have t0 : (w10.setCell ⟨w.heap.size, 11, none⟩ (.slice va k ca)).cell? ⟨T, 0, none⟩ = some (.slice ao b.length c) := KD.out.rd.1.cell 0
    have t1 : (w10.setCell ⟨w.heap.size, 11, none⟩ (.slice va k ca)).cell? ⟨T, 1, none⟩ = some (.int .i64 (b.length : Int)) := KD.out.rd.1.cell 1
    have q2 : ((b.length : Int) != (b.length : Int)) = false := by simp
    clear hr10 hM10 hv10 KB KC y9 f9 y10 f10
    go_wp2_with fail
    go_quiet (fail)
    have KE : Hid (MK B T ao c b w.heap.size w b.length (mc15 0 (M.g1 f) (M.g2 f) (M.g3 f) (M.g4 f) (M.g5 f) (M.g6 f) (CD : Int) (.slice none 0 0) (.slice none 0 0) (.slice none 0 0) (.slice va k ca) true sz xd) ((w10.setCell ⟨w.heap.size, 11, none⟩ (.slice va k ca)).drewN nq)) := ⟨KD.out.rd.below (drew_below _ ⟨nq, rfl⟩), KD.out.row, KD.out.mv.trans (Mv.of (drew_below _ ⟨nq, rfl⟩))⟩
    clear t0 t1 y11 f11 KD
    generalize ((w10.setCell ⟨w.heap.size, 11, none⟩ (.slice va k ca)).drewN nq) = Y at KE ⊢
    go_wp2_with (first
      | (refine wpList_load_row rfl 32 (.tmp 2) rfl w.heap.size rfl 32 _ (0, 0) _ (by exact KE.out.row) Tryz.underlying32 rfl (by exact infoMs) ?_)
      | (refine wpList_store_rowR rfl 32 (.tmp 2) (.tmp 56) rfl w.heap.size (mc15 0 (M.g1 f) (M.g2 f) (M.g3 f) (M.g4 f) (M.g5 f) (M.g6 f) (CD : Int) (.slice none 0 0) (.slice none 0 0) (.slice none 0 0) (.slice va k ca) true sz xd) rfl rfl 32 _ (by exact KE.out.row) (by exact infoMs) rfl (mc15_one _ _ _ _ _ _ _ _ _ _ _ _ _ _ _ _ _ _ _ _ _ _ _) ?_))
    have hm9 := KE.out.mv.part (mv_setRow w.heap.size _ (mc15 0 (M.g1 f) (M.g2 f) (M.g3 f) (M.g4 f) (M.g5 f) (M.g6 f) (CD : Int) (.slice none 0 0) (.slice none 0 0) (.slice none 0 0) (.slice va k ca) true sz xd)) (Or.inr (Nat.le_refl _))
    exact bodyPost_ret (v := .agg (mc15 0 (M.g1 f) (M.g2 f) (M.g3 f) (M.g4 f) (M.g5 f) (M.g6 f) (CD : Int) (.slice none 0 0) (.slice none 0 0) (.slice none 0 0) (.slice va k ca) true sz xd)) (results_cell_row Tryz.results22 _ _ w.heap.size 32 _ (0, 0) _ rfl (setRow_same KE.out.row _) Tryz.underlying32 rfl (by exact infoMs)) rfl ⟨va, ca, rfl, hm9⟩
end Go.Proofs.YtpgebiopckmgbabGreat
