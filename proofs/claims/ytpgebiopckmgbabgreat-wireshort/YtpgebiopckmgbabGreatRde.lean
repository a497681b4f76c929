/- (*wire.reader).records, called for the additional section. -/
import Derived.Test.YtpgebiopckmgbabGreatRcs
import Derived.Test.YtpgebiopckmgbabGreatMss
import Derived.Test.YtpgebiopckmgbabGreatRdm
namespace Go.Proofs.YtpgebiopckmgbabGreat
open Go.RowKit
/- an address stands at p, and ends at p' -/
def M.Addr4 (b : List UInt8) (p p' : Nat) : Prop := ∃ nm q ttl, M.wn b p p [] = some (nm, q) ∧ M.v16 b q = 1 ∧ M.v16 b (q + 2) = 1 ∧ M.v32 b (q + 4) = ttl ∧ ttl < 2147483648 ∧ M.v16 b (q + 8) = 4 ∧ p' = q + 10 + 4 ∧ p' ≤ b.length
def M.OptAt (b : List UInt8) (p p' sz ttl : Nat) : Prop := ∃ q, M.wn b p p [] = some ([], q) ∧ M.v16 b q = 41 ∧ M.v16 b (q + 2) = sz ∧ M.v32 b (q + 4) = ttl ∧ M.v16 b (q + 8) = 0 ∧ p' = q + 10 ∧ p' ≤ b.length
set_option maxRecDepth 3000 in
set_option maxHeartbeats 1600000 in
theorem records_add (B T : Nat) (ao : Option Addr) (c : Nat) (b : List UInt8) (mB i : Nat) (x1 : Bool) (op : Int) (x3 x4 x5 x6 : Bool) (cd : Nat) (q a n d : Value) (k : Nat) (pl : Nat → Nat) (E sz ttl CD : Nat) (xd : Bool) (w : World) (hR : RdW B T ao c b (pl 0) w)
    (hM : RowAt w mB 32 (mc15 i x1 op x3 x4 x5 x6 (cd : Int) q a n d false 0 false)) (hBm : B ≤ mB) (hk : k ≤ 3) (hA : ∀ j, j < k → M.Addr4 b (pl j) (pl (j + 1))) (hO : M.OptAt b (pl k) E sz ttl) (hcd : cd < 16) (ht : ttl < 4294967296)
    (hdo : Hid ((bits .and .u32 (ttl : Int) 32768 != 0) = xd)) (hCD : Hid (cd + ttl / 16777216 * 16 = CD)) :
    Calls Tryz.prog 35 #[.pointer (some ⟨T, 0, none⟩), .int .u16 ((k + 1 : Nat) : Int), .func (.func 37) #[] #[.pointer (some ⟨mB, 0, none⟩)]] w fun e w' => ∃ va ca, e = .returned (.slice va k ca) ∧ RdW B T ao c b E w' ∧ RowAt w' mB 32 (mc15 i x1 op x3 x4 x5 x6 (CD : Int) q a n d true sz xd) ∧ Mv2 T mB w w' := by
  have hTlt := hR.lt
  have hmlt := hM.lt
  have hB := hR.2.2.2.2.2.2.2
  have hTm : T ≠ mB := by
    rintro rfl
    have h1 := hR.1
    unfold RowAt at h1 hM
    rw [h1] at hM; cases hM
  have HA := hide hA
  have HO := hide hO
  have L0 : Hid (RL B T ao c b mB (mc15 i x1 op x3 x4 x5 x6 (cd : Int) q a n d false 0 false) w (pl 0) (.slice none 0 0) 0 w) := ⟨hR, hM, ⟨[], World.ownsRow_nil _ _ _ _⟩, Mv2.refl _ _ _⟩
  obtain ⟨K1, hK1, hK2⟩ : ∃ K1 : Nat, K1 ≤ k + 1 ∧ k + 1 ≤ K1 := ⟨k + 1, Nat.le_refl _, Nat.le_refl _⟩
  rw [show k + 1 = K1 by omega]
  clear hR hM hA hO
  go_enter Tryz.func35, Tryz.ntmps35
  go_wp2
  go_loopw [6, 9] (fun s6 s9 wz => (∃ j : Nat, j ≤ k ∧ s9 = .int .u16 (j : Int) ∧ Hid (RL B T ao c b mB (mc15 i x1 op x3 x4 x5 x6 (cd : Int) q a n d false 0 false) w (pl j) s6 j wz)) ∨ (s9 = .int .u16 (K1 : Int) ∧ Hid (RL B T ao c b mB (mc15 i x1 op x3 x4 x5 x6 (CD : Int) q a n d true sz xd) w E s6 k wz))) (fun _ s9 _ => K1 - (intOf s9).toNat)
  case atStart => exact Or.inl ⟨0, by omega, rfl, L0⟩
  case round =>
    clear L0
    rcases hrel with ⟨j, hj, rfl, HL⟩ | ⟨rfl, HL⟩
    · have q1 : decide ((j : Int) < (K1 : Int)) = true := by simp; omega
      have hsz := HL.out.mv.size
      have hjw : IntKind.u16.wrap ((j : Int) + 1) = ((j + 1 : Nat) : Int) := by rw [IntKind.wrap_u16]; omega
      by_cases hjk : j < k
      · obtain ⟨nm, qq, tt, e1, e2, e3, e4, e5, e6, e7, e8⟩ := HA.out j hjk
        have E1 := hide e1
        have E2 := hide e2
        have E3 := hide e3
        have E4 := hide e4
        have E6 := hide e6
        have E7 := hide e7
        clear e1 e2 e3 e4 e6
        go_wp2_with fail
        refine (record_ok B T ao c b (pl j) _ (by exact HL.out.rd) nm qq 1 1 tt 4 E1 E2 E3 E4 E6 (by omega) (Or.inr ⟨rfl, Or.inl ⟨rfl, rfl⟩⟩)).mono ?_
        rintro e w1 ⟨na, nc, da, dc, rfl, hr1, hm1⟩
        obtain ⟨xs, hown⟩ := HL.out.own
        have HR1 : Hid (RdW B T ao c b (pl (j + 1)) w1) := by rw [E7.out]; exact hr1
        have HM1 := hide (row_mv HL.out.msg (Ne.symm hTm) hm1)
        have HO1 := hide (own_mv3 hown HL.out.rd.1 (by decide) hm1)
        have HV1 := hide (HL.out.mv.fst hm1)
        have hz1 := HV1.out.size
        clear hr1 hm1 hown HL
        have q41 : (((1 : Nat) : Int) == 41) = false := by decide
        have qtt : decide ((2147483648 : Int) ≤ (tt : Int)) = false := by simp; omega
        go_wp2_with (first
          | (refine wpList_store_absR rfl 39 (.tmp 7) (.tmp 12) rfl w1.heap.size (rec5 na nm.length nc 1 1 tt da 4 dc) rfl rfl 39 _ (RowAt.new w1 39 _) (by exact infoRs) rfl (rec5_one _ _ _ _ _ _ _ _ _) w1.heap.size (Nat.le_refl _) ?_; intro w2 hX2 hB2; have hb2 : Below w1.heap.size w1 w2 := ((Below.refl _ _).alloc (Nat.le_refl _) _).trans hB2; have HR2 := hide (HR1.out.below hb2); have HM2 := hide (HM1.out.below hb2 HM1.out.lt); have HO2 := hide (own_below HO1.out hb2); have HV2 := hide (HV1.out.bel hb2 hz1); have hz2 := HV2.out.size; have HX2 := hide hX2; have y1 : w2.cell? ⟨w1.heap.size, 1, none⟩ = some (.int .u16 ((1 : Nat) : Int)) := hX2.cell 1; have y3 : w2.cell? ⟨w1.heap.size, 3, none⟩ = some (.int .u32 (tt : Int)) := hX2.cell 3; clear hX2 hB2 hb2)
          | (refine wpList_load_row rfl 39 (.tmp 7) rfl w1.heap.size rfl 39 _ (0, 0) _ (by exact HX2.out) Tryz.underlying39 rfl (by exact infoRs) ?_)
          | (refine wpList_build5 rfl (.tmp 24) rfl na nm.length nc 1 1 tt da 4 dc rfl ?_)
          | (at_builtin; refine wpList_append1 rfl (.tmp 23) (.tmp 25) 30 39 rfl _ 5 56 Tryz.underlying30 infoR2 rfl (by omega) w.heap.size _ j xs rfl (by exact World.ownsRow.alloc HO2.out _) w2.heap.size 39 (rec5 na nm.length nc 1 1 tt da 4 dc).toList rfl (by exact RowAt.new w2 39 _) rfl (rec5_ones _ _ _ _ _ _ _ _ _) (by omega) (by omega) (by simp; omega) ?_; intro v3 w3 ho3 hG3; have hb3 := owns_grown (World.ownsRow.alloc HO2.out _) hG3 ((Below.refl _ _).alloc hz2 _) (by simp; omega); have HL3 : Hid (RL B T ao c b mB (mc15 i x1 op x3 x4 x5 x6 (cd : Int) q a n d false 0 false) w (pl (j + 1)) v3 (j + 1) w3) := ⟨HR2.out.low hb3 hTlt hB, HM2.out.below hb3 hmlt, ⟨_, ho3⟩, HV2.out.bel hb3 (Nat.le_refl _)⟩; clear ho3 hG3 hb3))
        exact ⟨Or.inl ⟨j + 1, by omega, by go_num, HL3⟩, by simp [intOf]; omega⟩
      · obtain rfl : j = k := by omega
        obtain ⟨qq, e1, e2, e3, e4, e5, e6, e7⟩ := HO.out
        have E1 := hide e1
        have E2 := hide e2
        have E3 := hide e3
        have E4 := hide e4
        have E5 := hide e5
        have E6 := hide e6
        clear e1 e2 e3 e4 e5
        go_wp2_with fail
        refine (record_ok B T ao c b (pl j) _ (by exact HL.out.rd) [] qq 41 sz ttl 0 E1 E2 E3 E4 E5 (by omega) (Or.inl (Or.inr rfl))).mono ?_
        rintro e w1 ⟨na, nc, da, dc, rfl, hr1, hm1⟩
        obtain ⟨xs, hown⟩ := HL.out.own
        have HR1 : Hid (RdW B T ao c b E w1) := by rw [E6.out]; exact hr1
        have HM1 := hide (row_mv HL.out.msg (Ne.symm hTm) hm1)
        have HO1 := hide (own_mv3 hown HL.out.rd.1 (by decide) hm1)
        have HV1 := hide (HL.out.mv.fst hm1)
        have hz1 := HV1.out.size
        clear hr1 hm1 hown HL
        go_wp2_with (first
          | (refine wpList_store_absR rfl 39 (.tmp 7) (.tmp 12) rfl w1.heap.size (rec5 na 0 nc 41 sz ttl da 0 dc) rfl rfl 39 _ (RowAt.new w1 39 _) (by exact infoRs) rfl (rec5_one _ _ _ _ _ _ _ _ _) w1.heap.size (Nat.le_refl _) ?_; intro w2 hX2 hB2; have hb2 : Below w1.heap.size w1 w2 := ((Below.refl _ _).alloc (Nat.le_refl _) _).trans hB2; have HR2 := hide (HR1.out.below hb2); have HM2 := hide (HM1.out.below hb2 HM1.out.lt); have HO2 := hide (own_below HO1.out hb2); have HV2 := hide (HV1.out.bel hb2 hz1); have HX2 := hide hX2; have y1 : w2.cell? ⟨w1.heap.size, 1, none⟩ = some (.int .u16 ((41 : Nat) : Int)) := hX2.cell 1; clear hX2 hB2 hb2)
          | (refine wpList_load_row rfl 39 (.tmp 7) rfl w1.heap.size rfl 39 _ (0, 0) _ (by exact HX2.out) Tryz.underlying39 rfl (by exact infoRs) ?_))
        refine (message1_ok mB i x1 op x3 x4 x5 x6 cd q a n d na nc 41 sz ttl da 0 dc xd _ (by exact HM2.out) hcd ht hdo CD hCD).mono ?_
        rintro e w3 ⟨rfl, hM3, hm3⟩
        have HL3 : Hid (RL B T ao c b mB (mc15 i x1 op x3 x4 x5 x6 (CD : Int) q a n d true sz xd) w E u6 j w3) := ⟨HR2.out.mv hTm hBm hm3, hM3, ⟨xs, own_mv3 HO2.out HM2.out (by decide) hm3⟩, HV2.out.snd hm3⟩
        clear hM3 hm3
        go_wp2
        exact ⟨Or.inr ⟨by go_num, HL3⟩, by simp [intOf]; omega⟩
    · have q1 : decide ((K1 : Int) < (K1 : Int)) = false := by simp
      obtain ⟨xs, hown⟩ := HL.out.own
      have hform : ∃ va ca, u6 = .slice va k ca := by
        rcases hown.2 with ⟨h1, h2⟩ | ⟨g, cap, cur, h1, _⟩
        · exact ⟨none, 0, by rw [h1, h2]⟩
        · exact ⟨_, _, h1⟩
      obtain ⟨va, ca, rfl⟩ := hform
      have HF := hide HL.out.rd
      have HM := hide HL.out.msg
      have HV := hide HL.out.mv
      clear hown HL
      go_wp2
      go_ret
      exact ⟨va, ca, rfl, HF.out, HM.out, HV.out⟩
end Go.Proofs.YtpgebiopckmgbabGreat

/- (*wire.reader).message of addresses and an OPT alone. -/
namespace Go.Proofs.YtpgebiopckmgbabGreat
open Go.RowKit
set_option maxRecDepth 5000 in
theorem infoMs : (Tryz.prog.info? 32).map (·.size) = some 15 := by kernel_rfl
/- the message that a reading makes, at block X, the reader behind what was read -/
structure MK (B T : Nat) (ao : Option Addr) (c : Nat) (b : List UInt8) (X : Nat) (w0 : World) (p : Nat) (cells : Array Value) (wr : World) : Prop where
  rd : RdW B T ao c b p wr
  row : RowAt wr X 32 cells
  mv : Mv T w0 wr
set_option maxRecDepth 5000 in
theorem MK.call {B T : Nat} {ao : Option Addr} {c : Nat} {b : List UInt8} {X : Nat} {w0 : World} {p : Nat} {cells : Array Value} {wr w' : World} (h : MK B T ao c b X w0 p cells wr) (hX : X ≠ T) {q : Nat} (hr : RdW B T ao c b q w') (hm : Mv T wr w') : MK B T ao c b X w0 q cells w' :=
  ⟨hr, row_mv h.row hX hm, h.mv.trans hm⟩
set_option maxRecDepth 5000 in
theorem MK.upd {B T : Nat} {ao : Option Addr} {c : Nat} {b : List UInt8} {X : Nat} {w0 : World} {p : Nat} {cells : Array Value} {wr w' : World} (h : MK B T ao c b X w0 p cells wr) (hX : T ≠ X) (hB : B ≤ X) (hw : w0.heap.size ≤ X) {cells' : Array Value} (hr : RowAt w' X 32 cells') (hm : Mv X wr w') : MK B T ao c b X w0 p cells' w' :=
  ⟨h.rd.mv hX hB hm, hr, h.mv.part hm (Or.inr hw)⟩
set_option maxRecDepth 5000 in
theorem Mv2.one {T P : Nat} {w w1 w2 : World} (h : Mv T w w1) (h2 : Mv2 T P w1 w2) (hP : w.heap.size ≤ P) : Mv T w w2 :=
  ⟨h2.os.trans h.os, h2.tape.trans h.tape, h2.output.trans h.output, Nat.le_trans h.size h2.size, fun k hk hn => (h2.block k (Nat.lt_of_lt_of_le hk h.size) (fun e => hn (by rw [e])) (by omega)).trans (h.block k hk hn)⟩
set_option maxRecDepth 5000 in
theorem mc15_one (i : Nat) (x1 : Bool) (op : Int) (x3 x4 x5 x6 : Bool) (cd : Int) (qa : Option Addr) (qn qc : Nat) (aa : Option Addr) (an ac : Nat) (na : Option Addr) (nn nc : Nat) (da : Option Addr) (dn dc : Nat) (ed : Bool) (sz : Nat) (xd : Bool) : (mc15 i x1 op x3 x4 x5 x6 cd (.slice qa qn qc) (.slice aa an ac) (.slice na nn nc) (.slice da dn dc) ed sz xd).all (·.oneCell') = true := by kernel_rfl
set_option maxRecDepth 3000 in
set_option maxHeartbeats 1600000 in
theorem message_e (B T : Nat) (ao : Option Addr) (c : Nat) (b : List UInt8) (f cd k : Nat) (pl : Nat → Nat) (sz ttl CD : Nat) (xd : Bool) (w : World) (hR : RdW B T ao c b 0 w) (h12 : 12 ≤ b.length) (v0 : Hid (M.v16 b 0 = 0)) (v2 : Hid (M.v16 b 2 = f)) (v4 : Hid (M.v16 b 4 = 0)) (v6 : Hid (M.v16 b 6 = 0)) (v8 : Hid (M.v16 b 8 = 0)) (v10 : Hid (M.v16 b 10 = k + 1)) (hpl : Hid (pl 0 = 12)) (hk : k ≤ 3)
    (hA : ∀ j, j < k → M.Addr4 b (pl j) (pl (j + 1))) (hO : M.OptAt b (pl k) b.length sz ttl) (hcd : cd < 16) (hg7 : Hid (M.g7 f = (cd : Int))) (ht : ttl < 4294967296) (hdo : Hid ((bits .and .u32 (ttl : Int) 32768 != 0) = xd)) (hCD : Hid (cd + ttl / 16777216 * 16 = CD)) :
    Calls Tryz.prog 22 #[.pointer (some ⟨T, 0, none⟩)] w fun e w' => ∃ va ca, e = .returned (.agg (mc15 0 (M.g1 f) (M.g2 f) (M.g3 f) (M.g4 f) (M.g5 f) (M.g6 f) (CD : Int) (.slice none 0 0) (.slice none 0 0) (.slice none 0 0) (.slice va k ca) true sz xd)) ∧ Mv T w w' := by
  have hlt := hR.lt
  have hB := hR.2.2.2.2.2.2.2
  have hTX : T ≠ w.heap.size := by omega
  have hXT : w.heap.size ≠ T := by omega
  have HA := hide hA
  have HO := hide hO
  have hmf : ∀ (fn : Fn) (first cap : Array Value) (w : World), (Instr.makeFunc fn first cap).run Tryz.prog w = .ok (.func fn first cap) w := fun _ _ _ _ => rfl
  have K0 : Hid (MK B T ao c b w.heap.size w 0 #[.int .u16 0, .bool false, .int .i64 0, .bool false, .bool false, .bool false, .bool false, .int .i64 0, .slice none 0 0, .slice none 0 0, .slice none 0 0, .slice none 0 0, .bool false, .int .u16 0, .bool false] (w.alloc (.cells #[.int .u16 0, .bool false, .int .i64 0, .bool false, .bool false, .bool false, .bool false, .int .i64 0, .slice none 0 0, .slice none 0 0, .slice none 0 0, .slice none 0 0, .bool false, .int .u16 0, .bool false] 32))) := ⟨hR.below ((Below.refl _ w).alloc (Nat.le_refl _) _), RowAt.new w 32 _, Mv.of ((Below.refl _ w).alloc (Nat.le_refl _) _)⟩
  clear hR hA hO
  go_enter Tryz.func22, Tryz.ntmps22
  go_wp2_with fail
  refine (n16_ok B T ao c b 0 _ (by exact K0.out.rd) (by omega)).mono ?_
  rintro e w1 ⟨rfl, hr, hm⟩
  rw [show M.by_ b 0 * 256 + M.by_ b (0 + 1) = 0 from v0.out]
  have K1 := hide (K0.out.call hXT hr hm)
  clear hr hm
  have y0 : w1.cell? ⟨w.heap.size, 0, none⟩ = some (.int .u16 0) := K1.out.row.cell 0
  have f0 := K1.out.row.frozen 0
  have K2 := hide (K1.out.upd hTX hB (Nat.le_refl _) (K1.out.row.set 0 (.int .u16 ((0 : Nat) : Int))) (Mv.set w.heap.size 0 w1 (.int .u16 ((0 : Nat) : Int))))
  go_wp2_with fail
  refine (n16_ok B T ao c b (0 + 2) _ (by exact K2.out.rd) (by omega)).mono ?_
  rintro e w2 ⟨rfl, hr, hm⟩
  rw [show M.by_ b (0 + 2) * 256 + M.by_ b ((0 + 2) + 1) = f from v2.out]
  have K3 := hide (K2.out.call hXT hr hm)
  clear hr hm
  go_wp2_with fail
  refine (setFlags_any w.heap.size f (.int .u16 ((0 : Nat) : Int)) _ _ _ _ _ _ _ (.slice none 0 0) (.slice none 0 0) (.slice none 0 0) (.slice none 0 0) (.bool false) (.int .u16 0) (.bool false) _ (by exact K3.out.row)).mono ?_
  rintro e w3 ⟨rfl, hR3, hm3⟩
  have K4 := hide (K3.out.upd hTX hB (Nat.le_refl _) hR3 hm3)
  rw [hg7.out] at K4
  clear hR3 hm3 y0 f0 K0 K1 K2 K3
  go_wp2_with fail
  refine (n16_ok B T ao c b (0 + 2 + 2) _ (by exact K4.out.rd) (by omega)).mono ?_
  rintro e w4 ⟨rfl, hr, hm⟩
  rw [show M.by_ b (0 + 2 + 2) * 256 + M.by_ b ((0 + 2 + 2) + 1) = 0 from v4.out]
  have K5 := hide (K4.out.call hXT hr hm)
  clear hr hm
  go_wp2_with fail
  refine (n16_ok B T ao c b (0 + 2 + 2 + 2) _ (by exact K5.out.rd) (by omega)).mono ?_
  rintro e w5 ⟨rfl, hr, hm⟩
  rw [show M.by_ b (0 + 2 + 2 + 2) * 256 + M.by_ b ((0 + 2 + 2 + 2) + 1) = 0 from v6.out]
  have K6 := hide (K5.out.call hXT hr hm)
  clear hr hm
  go_wp2_with fail
  refine (n16_ok B T ao c b (0 + 2 + 2 + 2 + 2) _ (by exact K6.out.rd) (by omega)).mono ?_
  rintro e w6 ⟨rfl, hr, hm⟩
  rw [show M.by_ b (0 + 2 + 2 + 2 + 2) * 256 + M.by_ b ((0 + 2 + 2 + 2 + 2) + 1) = 0 from v8.out]
  have K7 := hide (K6.out.call hXT hr hm)
  clear hr hm
  go_wp2_with fail
  refine (n16_ok B T ao c b (0 + 2 + 2 + 2 + 2 + 2) _ (by exact K7.out.rd) (by omega)).mono ?_
  rintro e w7 ⟨rfl, hr, hm⟩
  rw [show M.by_ b (0 + 2 + 2 + 2 + 2 + 2) * 256 + M.by_ b ((0 + 2 + 2 + 2 + 2 + 2) + 1) = (k + 1) from v10.out]
  have K8 := hide (K7.out.call hXT hr hm)
  clear hr hm
  have K9 : Hid (MK B T ao c b w.heap.size w (pl 0) (mc15 0 (M.g1 f) (M.g2 f) (M.g3 f) (M.g4 f) (M.g5 f) (M.g6 f) (cd : Int) (.slice none 0 0) (.slice none 0 0) (.slice none 0 0) (.slice none 0 0) false 0 false) w7) := by rw [hpl.out]; exact K8.out
  clear K4 K5 K6 K7 K8
  obtain ⟨K1, hK1, HK1⟩ : ∃ K1 : Nat, K1 = k + 1 ∧ Hid (k + 1 = K1) := ⟨k + 1, rfl, hide rfl⟩
  rw [HK1.out]
  clear hK1
  go_wp2
  go_loopw [22] (fun s22 wz => s22 = .int .u16 0 ∧ wz = w7) (fun _ _ => 0)
  case atStart => exact ⟨rfl, rfl⟩
  case round =>
    obtain ⟨rfl, rfl⟩ := hrel
    have y9 : wr.cell? ⟨w.heap.size, 9, none⟩ = some (.slice none 0 0) := K9.out.row.cell 9
    have f9 := K9.out.row.frozen 9
    have y10 : wr.cell? ⟨w.heap.size, 10, none⟩ = some (.slice none 0 0) := K9.out.row.cell 10
    have f10 := K9.out.row.frozen 10
    have KA : Hid (MK B T ao c b w.heap.size w (pl 0) (mc15 0 (M.g1 f) (M.g2 f) (M.g3 f) (M.g4 f) (M.g5 f) (M.g6 f) (cd : Int) (.slice none 0 0) (.slice none 0 0) (.slice none 0 0) (.slice none 0 0) false 0 false) (wr.setCell ⟨w.heap.size, 9, none⟩ (.slice none 0 0))) := K9.out.upd hTX hB (Nat.le_refl _) (K9.out.row.set 9 (.slice none 0 0)) (Mv.set w.heap.size 9 wr (.slice none 0 0))
    have KB : Hid (MK B T ao c b w.heap.size w (pl 0) (mc15 0 (M.g1 f) (M.g2 f) (M.g3 f) (M.g4 f) (M.g5 f) (M.g6 f) (cd : Int) (.slice none 0 0) (.slice none 0 0) (.slice none 0 0) (.slice none 0 0) false 0 false) ((wr.setCell ⟨w.heap.size, 9, none⟩ (.slice none 0 0)).setCell ⟨w.heap.size, 10, none⟩ (.slice none 0 0))) := KA.out.upd hTX hB (Nat.le_refl _) (KA.out.row.set 10 (.slice none 0 0)) (Mv.set w.heap.size 10 _ (.slice none 0 0))
    clear KA K9
    go_wp2_with fail
    refine (records_none T _ _).mono ?_
    rintro e w9 ⟨rfl, hw9⟩
    rw [← hw9]; clear hw9 w9
    go_wp2_with fail
    refine (records_none T _ _).mono ?_
    rintro e w9 ⟨rfl, hw9⟩
    rw [← hw9]; clear hw9 w9
    go_wp2_with fail
    rw [← HK1.out]
    refine (records_add B T ao c b w.heap.size 0 (M.g1 f) (M.g2 f) (M.g3 f) (M.g4 f) (M.g5 f) (M.g6 f) cd (.slice none 0 0) (.slice none 0 0) (.slice none 0 0) (.slice none 0 0) k pl b.length sz ttl CD xd _ (by exact KB.out.rd) (by exact KB.out.row) hB hk HA.out HO.out hcd ht hdo hCD).mono ?_
    rintro e w10 ⟨va, ca, rfl, hr10, hM10, hv10⟩
    have KC : Hid (MK B T ao c b w.heap.size w b.length (mc15 0 (M.g1 f) (M.g2 f) (M.g3 f) (M.g4 f) (M.g5 f) (M.g6 f) (CD : Int) (.slice none 0 0) (.slice none 0 0) (.slice none 0 0) (.slice none 0 0) true sz xd) w10) := ⟨hr10, hM10, Mv2.one KB.out.mv hv10 (Nat.le_refl _)⟩
    have KD : Hid (MK B T ao c b w.heap.size w b.length (mc15 0 (M.g1 f) (M.g2 f) (M.g3 f) (M.g4 f) (M.g5 f) (M.g6 f) (CD : Int) (.slice none 0 0) (.slice none 0 0) (.slice none 0 0) (.slice va k ca) true sz xd) (w10.setCell ⟨w.heap.size, 11, none⟩ (.slice va k ca))) := KC.out.upd hTX hB (Nat.le_refl _) (hM10.set 11 (.slice va k ca)) (Mv.set w.heap.size 11 w10 (.slice va k ca))
    have y11 : w10.cell? ⟨w.heap.size, 11, none⟩ = some (.slice none 0 0) := hM10.cell 11
    have f11 := hM10.frozen 11
    have t0 : (w10.setCell ⟨w.heap.size, 11, none⟩ (.slice va k ca)).cell? ⟨T, 0, none⟩ = some (.slice ao b.length c) := KD.out.rd.1.cell 0
    have t1 : (w10.setCell ⟨w.heap.size, 11, none⟩ (.slice va k ca)).cell? ⟨T, 1, none⟩ = some (.int .i64 (b.length : Int)) := KD.out.rd.1.cell 1
    have q2 : ((b.length : Int) != (b.length : Int)) = false := by simp
    clear hr10 hM10 hv10 KB KC y9 f9 y10 f10
    go_wp2_with fail
    go_quiet (fail)
    have KE : Hid (MK B T ao c b w.heap.size w b.length (mc15 0 (M.g1 f) (M.g2 f) (M.g3 f) (M.g4 f) (M.g5 f) (M.g6 f) (CD : Int) (.slice none 0 0) (.slice none 0 0) (.slice none 0 0) (.slice va k ca) true sz xd) ((w10.setCell ⟨w.heap.size, 11, none⟩ (.slice va k ca)).drewN nq)) := ⟨KD.out.rd.below (drew_below _ ⟨nq, rfl⟩), KD.out.row, KD.out.mv.trans (Mv.of (drew_below _ ⟨nq, rfl⟩))⟩
    clear t0 t1 y11 f11 KD
    generalize ((w10.setCell ⟨w.heap.size, 11, none⟩ (.slice va k ca)).drewN nq) = Y at KE ⊢
    go_wp2_with (first
      | (refine wpList_load_row rfl 32 (.tmp 2) rfl w.heap.size rfl 32 _ (0, 0) _ (by exact KE.out.row) Tryz.underlying32 rfl (by exact infoMs) ?_)
      | (refine wpList_store_rowR rfl 32 (.tmp 2) (.tmp 56) rfl w.heap.size (mc15 0 (M.g1 f) (M.g2 f) (M.g3 f) (M.g4 f) (M.g5 f) (M.g6 f) (CD : Int) (.slice none 0 0) (.slice none 0 0) (.slice none 0 0) (.slice va k ca) true sz xd) rfl rfl 32 _ (by exact KE.out.row) (by exact infoMs) rfl (mc15_one _ _ _ _ _ _ _ _ _ _ _ _ _ _ _ _ _ _ _ _ _ _ _) ?_))
    have hm9 := KE.out.mv.part (mv_setRow w.heap.size _ (mc15 0 (M.g1 f) (M.g2 f) (M.g3 f) (M.g4 f) (M.g5 f) (M.g6 f) (CD : Int) (.slice none 0 0) (.slice none 0 0) (.slice none 0 0) (.slice va k ca) true sz xd)) (Or.inr (Nat.le_refl _))
    exact bodyPost_ret (v := .agg (mc15 0 (M.g1 f) (M.g2 f) (M.g3 f) (M.g4 f) (M.g5 f) (M.g6 f) (CD : Int) (.slice none 0 0) (.slice none 0 0) (.slice none 0 0) (.slice va k ca) true sz xd)) (results_cell_row Tryz.results22 _ _ w.heap.size 32 _ (0, 0) _ rfl (setRow_same KE.out.row _) Tryz.underlying32 rfl (by exact infoMs)) rfl ⟨va, ca, rfl, hm9⟩
end Go.Proofs.YtpgebiopckmgbabGreat

/- wire.Read of a message of addresses and an OPT alone. -/
namespace Go.Proofs.YtpgebiopckmgbabGreat
open Go.RowKit
set_option maxRecDepth 3000 in
set_option maxHeartbeats 1600000 in
theorem read_e (b : List UInt8) (ao : Option Addr) (c : Nat) (f cd k : Nat) (pl : Nat → Nat) (sz ttl CD : Nat) (xd : Bool) (w : World) (hs : SlL w ao b) (hc : b.length ≤ c) (hnil : ao = none → c = 0) (h65 : b.length ≤ 65535) (h12 : 12 ≤ b.length) (v0 : Hid (M.v16 b 0 = 0)) (v2 : Hid (M.v16 b 2 = f)) (v4 : Hid (M.v16 b 4 = 0)) (v6 : Hid (M.v16 b 6 = 0)) (v8 : Hid (M.v16 b 8 = 0)) (v10 : Hid (M.v16 b 10 = k + 1)) (hpl : Hid (pl 0 = 12)) (hk : k ≤ 3)
    (hA : ∀ j, j < k → M.Addr4 b (pl j) (pl (j + 1))) (hO : M.OptAt b (pl k) b.length sz ttl) (hcd : cd < 16) (hg7 : Hid (M.g7 f = (cd : Int))) (ht : ttl < 4294967296) (hdo : Hid ((bits .and .u32 (ttl : Int) 32768 != 0) = xd)) (hCD : Hid (cd + ttl / 16777216 * 16 = CD)) :
    Calls Tryz.prog 10 #[.slice ao b.length c] w fun e w' => ∃ va ca, e = .returned (.tuple #[.agg (mc15 0 (M.g1 f) (M.g2 f) (M.g3 f) (M.g4 f) (M.g5 f) (M.g6 f) (CD : Int) (.slice none 0 0) (.slice none 0 0) (.slice none 0 0) (.slice va k ca) true sz xd), .int .i64 0]) ∧ Below w.heap.size w w' := by
  have hmf : ∀ (fn : Fn) (first cap : Array Value) (w : World), (Instr.makeFunc fn first cap).run Tryz.prog w = .ok (.func fn first cap) w := fun _ _ _ _ => rfl
  have hlt' : ¬ (65535 : Int) < (b.length : Int) := by omega
  have b1 := (Below.refl w.heap.size w).alloc (Nat.le_refl _) (.cells #[.int .u16 0, .bool false, .int .i64 0, .bool false, .bool false, .bool false, .bool false, .int .i64 0, .slice none 0 0, .slice none 0 0, .slice none 0 0, .slice none 0 0, .bool false, .int .u16 0, .bool false] 32)
  have b2 := b1.alloc (by simp) (.cells #[.int .i64 0] 34)
  have b3 := b2.alloc (by simp; omega) (.cells #[.slice ao b.length c, .int .i64 0] 63)
  have RM : Hid (RowAt (((w.alloc (.cells #[.int .u16 0, .bool false, .int .i64 0, .bool false, .bool false, .bool false, .bool false, .int .i64 0, .slice none 0 0, .slice none 0 0, .slice none 0 0, .slice none 0 0, .bool false, .int .u16 0, .bool false] 32)).alloc (.cells #[.int .i64 0] 34)).alloc (.cells #[.slice ao b.length c, .int .i64 0] 63)) (w.heap.size) 32 #[.int .u16 0, .bool false, .int .i64 0, .bool false, .bool false, .bool false, .bool false, .int .i64 0, .slice none 0 0, .slice none 0 0, .slice none 0 0, .slice none 0 0, .bool false, .int .u16 0, .bool false]) := ((RowAt.new w 32 #[.int .u16 0, .bool false, .int .i64 0, .bool false, .bool false, .bool false, .bool false, .int .i64 0, .slice none 0 0, .slice none 0 0, .slice none 0 0, .slice none 0 0, .bool false, .int .u16 0, .bool false]).alloc _).alloc _
  have RE : Hid (RowAt (((w.alloc (.cells #[.int .u16 0, .bool false, .int .i64 0, .bool false, .bool false, .bool false, .bool false, .int .i64 0, .slice none 0 0, .slice none 0 0, .slice none 0 0, .slice none 0 0, .bool false, .int .u16 0, .bool false] 32)).alloc (.cells #[.int .i64 0] 34)).alloc (.cells #[.slice ao b.length c, .int .i64 0] 63)) (w.heap.size + 1) 34 #[.int .i64 0]) := by
    have h := (RowAt.new (w.alloc (.cells #[.int .u16 0, .bool false, .int .i64 0, .bool false, .bool false, .bool false, .bool false, .int .i64 0, .slice none 0 0, .slice none 0 0, .slice none 0 0, .slice none 0 0, .bool false, .int .u16 0, .bool false] 32)) 34 #[.int .i64 0]).alloc (.cells #[.slice ao b.length c, .int .i64 0] 63)
    rw [World.size_alloc] at h; exact h
  have DR : Hid (RdW w.heap.size (w.heap.size + 2) ao c b 0 (((w.alloc (.cells #[.int .u16 0, .bool false, .int .i64 0, .bool false, .bool false, .bool false, .bool false, .int .i64 0, .slice none 0 0, .slice none 0 0, .slice none 0 0, .slice none 0 0, .bool false, .int .u16 0, .bool false] 32)).alloc (.cells #[.int .i64 0] 34)).alloc (.cells #[.slice ao b.length c, .int .i64 0] 63))) := by
    have h := RowAt.new ((w.alloc (.cells #[.int .u16 0, .bool false, .int .i64 0, .bool false, .bool false, .bool false, .bool false, .int .i64 0, .slice none 0 0, .slice none 0 0, .slice none 0 0, .slice none 0 0, .bool false, .int .u16 0, .bool false] 32)).alloc (.cells #[.int .i64 0] 34)) 63 #[.slice ao b.length c, .int .i64 0]
    rw [World.size_alloc, World.size_alloc] at h
    exact ⟨h, (SlL.slB hs).below b3, hc, hnil, by omega, h65, by omega, b3.size⟩
  have B3 := hide b3
  have HA := hide hA
  have HO := hide hO
  clear b1 b2 b3 hs hA hO
  go_enter_defers Tryz.func10, Tryz.ntmps10
  go_wp2_with fail
  refine (message_e w.heap.size (w.heap.size + 2) ao c b f cd k pl sz ttl CD xd _ (by exact DR.out) h12 v0 v2 v4 v6 v8 v10 hpl hk HA.out HO.out hcd hg7 ht hdo hCD).mono ?_
  rintro e w1 ⟨va, ca, rfl, hm⟩
  have re := row_mv RE.out (by omega) hm
  have rm := row_mv RM.out (by omega) hm
  have B4 := hide (B3.out.trans (hm.below (by omega) (by simp; omega)))
  have RE2 := hide re
  have k2 : w1.cell? ⟨w.heap.size + 1, 0, none⟩ = some (.int .i64 0) := re.cell 0
  have k3 : w1.frozen? ⟨w.heap.size + 1, 0, none⟩ = false := re.frozen 0
  have y0 : w1.cell? ⟨w.heap.size, 0, none⟩ = some (.int .u16 0) := rm.cell 0
  have f0 : w1.frozen? ⟨w.heap.size, 0, none⟩ = false := rm.frozen 0
  have y1 : w1.cell? ⟨w.heap.size, 1, none⟩ = some (.bool false) := rm.cell 1
  have f1 : w1.frozen? ⟨w.heap.size, 1, none⟩ = false := rm.frozen 1
  have y2 : w1.cell? ⟨w.heap.size, 2, none⟩ = some (.int .i64 0) := rm.cell 2
  have f2 : w1.frozen? ⟨w.heap.size, 2, none⟩ = false := rm.frozen 2
  have y3 : w1.cell? ⟨w.heap.size, 3, none⟩ = some (.bool false) := rm.cell 3
  have f3 : w1.frozen? ⟨w.heap.size, 3, none⟩ = false := rm.frozen 3
  have y4 : w1.cell? ⟨w.heap.size, 4, none⟩ = some (.bool false) := rm.cell 4
  have f4 : w1.frozen? ⟨w.heap.size, 4, none⟩ = false := rm.frozen 4
  have y5 : w1.cell? ⟨w.heap.size, 5, none⟩ = some (.bool false) := rm.cell 5
  have f5 : w1.frozen? ⟨w.heap.size, 5, none⟩ = false := rm.frozen 5
  have y6 : w1.cell? ⟨w.heap.size, 6, none⟩ = some (.bool false) := rm.cell 6
  have f6 : w1.frozen? ⟨w.heap.size, 6, none⟩ = false := rm.frozen 6
  have y7 : w1.cell? ⟨w.heap.size, 7, none⟩ = some (.int .i64 0) := rm.cell 7
  have f7 : w1.frozen? ⟨w.heap.size, 7, none⟩ = false := rm.frozen 7
  have y8 : w1.cell? ⟨w.heap.size, 8, none⟩ = some (.slice none 0 0) := rm.cell 8
  have f8 : w1.frozen? ⟨w.heap.size, 8, none⟩ = false := rm.frozen 8
  have y9 : w1.cell? ⟨w.heap.size, 9, none⟩ = some (.slice none 0 0) := rm.cell 9
  have f9 : w1.frozen? ⟨w.heap.size, 9, none⟩ = false := rm.frozen 9
  have y10 : w1.cell? ⟨w.heap.size, 10, none⟩ = some (.slice none 0 0) := rm.cell 10
  have f10 : w1.frozen? ⟨w.heap.size, 10, none⟩ = false := rm.frozen 10
  have y11 : w1.cell? ⟨w.heap.size, 11, none⟩ = some (.slice none 0 0) := rm.cell 11
  have f11 : w1.frozen? ⟨w.heap.size, 11, none⟩ = false := rm.frozen 11
  have y12 : w1.cell? ⟨w.heap.size, 12, none⟩ = some (.bool false) := rm.cell 12
  have f12 : w1.frozen? ⟨w.heap.size, 12, none⟩ = false := rm.frozen 12
  have y13 : w1.cell? ⟨w.heap.size, 13, none⟩ = some (.int .u16 0) := rm.cell 13
  have f13 : w1.frozen? ⟨w.heap.size, 13, none⟩ = false := rm.frozen 13
  have y14 : w1.cell? ⟨w.heap.size, 14, none⟩ = some (.bool false) := rm.cell 14
  have f14 : w1.frozen? ⟨w.heap.size, 14, none⟩ = false := rm.frozen 14
  have RM2 := hide rm
  clear hm DR RE RM B3 re rm
  unfold mc15
  go_wp2
  have s0 : RowAt (w1.setCell ⟨w.heap.size, 0, none⟩ (.int .u16 ((0 : Nat) : Int))) w.heap.size 32 #[.int .u16 ((0 : Nat) : Int), .bool false, .int .i64 0, .bool false, .bool false, .bool false, .bool false, .int .i64 0, .slice none 0 0, .slice none 0 0, .slice none 0 0, .slice none 0 0, .bool false, .int .u16 0, .bool false] := RM2.out.set 0 _
  have s1 : RowAt ((w1.setCell ⟨w.heap.size, 0, none⟩ (.int .u16 ((0 : Nat) : Int))).setCell ⟨w.heap.size, 1, none⟩ (.bool (M.g1 f))) w.heap.size 32 #[.int .u16 ((0 : Nat) : Int), .bool (M.g1 f), .int .i64 0, .bool false, .bool false, .bool false, .bool false, .int .i64 0, .slice none 0 0, .slice none 0 0, .slice none 0 0, .slice none 0 0, .bool false, .int .u16 0, .bool false] := s0.set 1 _
  have s2 : RowAt (((w1.setCell ⟨w.heap.size, 0, none⟩ (.int .u16 ((0 : Nat) : Int))).setCell ⟨w.heap.size, 1, none⟩ (.bool (M.g1 f))).setCell ⟨w.heap.size, 2, none⟩ (.int .i64 (M.g2 f))) w.heap.size 32 #[.int .u16 ((0 : Nat) : Int), .bool (M.g1 f), .int .i64 (M.g2 f), .bool false, .bool false, .bool false, .bool false, .int .i64 0, .slice none 0 0, .slice none 0 0, .slice none 0 0, .slice none 0 0, .bool false, .int .u16 0, .bool false] := s1.set 2 _
  have s3 : RowAt ((((w1.setCell ⟨w.heap.size, 0, none⟩ (.int .u16 ((0 : Nat) : Int))).setCell ⟨w.heap.size, 1, none⟩ (.bool (M.g1 f))).setCell ⟨w.heap.size, 2, none⟩ (.int .i64 (M.g2 f))).setCell ⟨w.heap.size, 3, none⟩ (.bool (M.g3 f))) w.heap.size 32 #[.int .u16 ((0 : Nat) : Int), .bool (M.g1 f), .int .i64 (M.g2 f), .bool (M.g3 f), .bool false, .bool false, .bool false, .int .i64 0, .slice none 0 0, .slice none 0 0, .slice none 0 0, .slice none 0 0, .bool false, .int .u16 0, .bool false] := s2.set 3 _
  have s4 : RowAt (((((w1.setCell ⟨w.heap.size, 0, none⟩ (.int .u16 ((0 : Nat) : Int))).setCell ⟨w.heap.size, 1, none⟩ (.bool (M.g1 f))).setCell ⟨w.heap.size, 2, none⟩ (.int .i64 (M.g2 f))).setCell ⟨w.heap.size, 3, none⟩ (.bool (M.g3 f))).setCell ⟨w.heap.size, 4, none⟩ (.bool (M.g4 f))) w.heap.size 32 #[.int .u16 ((0 : Nat) : Int), .bool (M.g1 f), .int .i64 (M.g2 f), .bool (M.g3 f), .bool (M.g4 f), .bool false, .bool false, .int .i64 0, .slice none 0 0, .slice none 0 0, .slice none 0 0, .slice none 0 0, .bool false, .int .u16 0, .bool false] := s3.set 4 _
  have s5 : RowAt ((((((w1.setCell ⟨w.heap.size, 0, none⟩ (.int .u16 ((0 : Nat) : Int))).setCell ⟨w.heap.size, 1, none⟩ (.bool (M.g1 f))).setCell ⟨w.heap.size, 2, none⟩ (.int .i64 (M.g2 f))).setCell ⟨w.heap.size, 3, none⟩ (.bool (M.g3 f))).setCell ⟨w.heap.size, 4, none⟩ (.bool (M.g4 f))).setCell ⟨w.heap.size, 5, none⟩ (.bool (M.g5 f))) w.heap.size 32 #[.int .u16 ((0 : Nat) : Int), .bool (M.g1 f), .int .i64 (M.g2 f), .bool (M.g3 f), .bool (M.g4 f), .bool (M.g5 f), .bool false, .int .i64 0, .slice none 0 0, .slice none 0 0, .slice none 0 0, .slice none 0 0, .bool false, .int .u16 0, .bool false] := s4.set 5 _
  have s6 : RowAt (((((((w1.setCell ⟨w.heap.size, 0, none⟩ (.int .u16 ((0 : Nat) : Int))).setCell ⟨w.heap.size, 1, none⟩ (.bool (M.g1 f))).setCell ⟨w.heap.size, 2, none⟩ (.int .i64 (M.g2 f))).setCell ⟨w.heap.size, 3, none⟩ (.bool (M.g3 f))).setCell ⟨w.heap.size, 4, none⟩ (.bool (M.g4 f))).setCell ⟨w.heap.size, 5, none⟩ (.bool (M.g5 f))).setCell ⟨w.heap.size, 6, none⟩ (.bool (M.g6 f))) w.heap.size 32 #[.int .u16 ((0 : Nat) : Int), .bool (M.g1 f), .int .i64 (M.g2 f), .bool (M.g3 f), .bool (M.g4 f), .bool (M.g5 f), .bool (M.g6 f), .int .i64 0, .slice none 0 0, .slice none 0 0, .slice none 0 0, .slice none 0 0, .bool false, .int .u16 0, .bool false] := s5.set 6 _
  have s7 : RowAt ((((((((w1.setCell ⟨w.heap.size, 0, none⟩ (.int .u16 ((0 : Nat) : Int))).setCell ⟨w.heap.size, 1, none⟩ (.bool (M.g1 f))).setCell ⟨w.heap.size, 2, none⟩ (.int .i64 (M.g2 f))).setCell ⟨w.heap.size, 3, none⟩ (.bool (M.g3 f))).setCell ⟨w.heap.size, 4, none⟩ (.bool (M.g4 f))).setCell ⟨w.heap.size, 5, none⟩ (.bool (M.g5 f))).setCell ⟨w.heap.size, 6, none⟩ (.bool (M.g6 f))).setCell ⟨w.heap.size, 7, none⟩ (.int .i64 (CD : Int))) w.heap.size 32 #[.int .u16 ((0 : Nat) : Int), .bool (M.g1 f), .int .i64 (M.g2 f), .bool (M.g3 f), .bool (M.g4 f), .bool (M.g5 f), .bool (M.g6 f), .int .i64 (CD : Int), .slice none 0 0, .slice none 0 0, .slice none 0 0, .slice none 0 0, .bool false, .int .u16 0, .bool false] := s6.set 7 _
  have s8 : RowAt (((((((((w1.setCell ⟨w.heap.size, 0, none⟩ (.int .u16 ((0 : Nat) : Int))).setCell ⟨w.heap.size, 1, none⟩ (.bool (M.g1 f))).setCell ⟨w.heap.size, 2, none⟩ (.int .i64 (M.g2 f))).setCell ⟨w.heap.size, 3, none⟩ (.bool (M.g3 f))).setCell ⟨w.heap.size, 4, none⟩ (.bool (M.g4 f))).setCell ⟨w.heap.size, 5, none⟩ (.bool (M.g5 f))).setCell ⟨w.heap.size, 6, none⟩ (.bool (M.g6 f))).setCell ⟨w.heap.size, 7, none⟩ (.int .i64 (CD : Int))).setCell ⟨w.heap.size, 8, none⟩ (.slice none 0 0)) w.heap.size 32 #[.int .u16 ((0 : Nat) : Int), .bool (M.g1 f), .int .i64 (M.g2 f), .bool (M.g3 f), .bool (M.g4 f), .bool (M.g5 f), .bool (M.g6 f), .int .i64 (CD : Int), .slice none 0 0, .slice none 0 0, .slice none 0 0, .slice none 0 0, .bool false, .int .u16 0, .bool false] := s7.set 8 _
  have s9 : RowAt ((((((((((w1.setCell ⟨w.heap.size, 0, none⟩ (.int .u16 ((0 : Nat) : Int))).setCell ⟨w.heap.size, 1, none⟩ (.bool (M.g1 f))).setCell ⟨w.heap.size, 2, none⟩ (.int .i64 (M.g2 f))).setCell ⟨w.heap.size, 3, none⟩ (.bool (M.g3 f))).setCell ⟨w.heap.size, 4, none⟩ (.bool (M.g4 f))).setCell ⟨w.heap.size, 5, none⟩ (.bool (M.g5 f))).setCell ⟨w.heap.size, 6, none⟩ (.bool (M.g6 f))).setCell ⟨w.heap.size, 7, none⟩ (.int .i64 (CD : Int))).setCell ⟨w.heap.size, 8, none⟩ (.slice none 0 0)).setCell ⟨w.heap.size, 9, none⟩ (.slice none 0 0)) w.heap.size 32 #[.int .u16 ((0 : Nat) : Int), .bool (M.g1 f), .int .i64 (M.g2 f), .bool (M.g3 f), .bool (M.g4 f), .bool (M.g5 f), .bool (M.g6 f), .int .i64 (CD : Int), .slice none 0 0, .slice none 0 0, .slice none 0 0, .slice none 0 0, .bool false, .int .u16 0, .bool false] := s8.set 9 _
  have s10 : RowAt (((((((((((w1.setCell ⟨w.heap.size, 0, none⟩ (.int .u16 ((0 : Nat) : Int))).setCell ⟨w.heap.size, 1, none⟩ (.bool (M.g1 f))).setCell ⟨w.heap.size, 2, none⟩ (.int .i64 (M.g2 f))).setCell ⟨w.heap.size, 3, none⟩ (.bool (M.g3 f))).setCell ⟨w.heap.size, 4, none⟩ (.bool (M.g4 f))).setCell ⟨w.heap.size, 5, none⟩ (.bool (M.g5 f))).setCell ⟨w.heap.size, 6, none⟩ (.bool (M.g6 f))).setCell ⟨w.heap.size, 7, none⟩ (.int .i64 (CD : Int))).setCell ⟨w.heap.size, 8, none⟩ (.slice none 0 0)).setCell ⟨w.heap.size, 9, none⟩ (.slice none 0 0)).setCell ⟨w.heap.size, 10, none⟩ (.slice none 0 0)) w.heap.size 32 #[.int .u16 ((0 : Nat) : Int), .bool (M.g1 f), .int .i64 (M.g2 f), .bool (M.g3 f), .bool (M.g4 f), .bool (M.g5 f), .bool (M.g6 f), .int .i64 (CD : Int), .slice none 0 0, .slice none 0 0, .slice none 0 0, .slice none 0 0, .bool false, .int .u16 0, .bool false] := s9.set 10 _
  have s11 : RowAt ((((((((((((w1.setCell ⟨w.heap.size, 0, none⟩ (.int .u16 ((0 : Nat) : Int))).setCell ⟨w.heap.size, 1, none⟩ (.bool (M.g1 f))).setCell ⟨w.heap.size, 2, none⟩ (.int .i64 (M.g2 f))).setCell ⟨w.heap.size, 3, none⟩ (.bool (M.g3 f))).setCell ⟨w.heap.size, 4, none⟩ (.bool (M.g4 f))).setCell ⟨w.heap.size, 5, none⟩ (.bool (M.g5 f))).setCell ⟨w.heap.size, 6, none⟩ (.bool (M.g6 f))).setCell ⟨w.heap.size, 7, none⟩ (.int .i64 (CD : Int))).setCell ⟨w.heap.size, 8, none⟩ (.slice none 0 0)).setCell ⟨w.heap.size, 9, none⟩ (.slice none 0 0)).setCell ⟨w.heap.size, 10, none⟩ (.slice none 0 0)).setCell ⟨w.heap.size, 11, none⟩ (.slice va k ca)) w.heap.size 32 #[.int .u16 ((0 : Nat) : Int), .bool (M.g1 f), .int .i64 (M.g2 f), .bool (M.g3 f), .bool (M.g4 f), .bool (M.g5 f), .bool (M.g6 f), .int .i64 (CD : Int), .slice none 0 0, .slice none 0 0, .slice none 0 0, .slice va k ca, .bool false, .int .u16 0, .bool false] := s10.set 11 _
  have s12 : RowAt (((((((((((((w1.setCell ⟨w.heap.size, 0, none⟩ (.int .u16 ((0 : Nat) : Int))).setCell ⟨w.heap.size, 1, none⟩ (.bool (M.g1 f))).setCell ⟨w.heap.size, 2, none⟩ (.int .i64 (M.g2 f))).setCell ⟨w.heap.size, 3, none⟩ (.bool (M.g3 f))).setCell ⟨w.heap.size, 4, none⟩ (.bool (M.g4 f))).setCell ⟨w.heap.size, 5, none⟩ (.bool (M.g5 f))).setCell ⟨w.heap.size, 6, none⟩ (.bool (M.g6 f))).setCell ⟨w.heap.size, 7, none⟩ (.int .i64 (CD : Int))).setCell ⟨w.heap.size, 8, none⟩ (.slice none 0 0)).setCell ⟨w.heap.size, 9, none⟩ (.slice none 0 0)).setCell ⟨w.heap.size, 10, none⟩ (.slice none 0 0)).setCell ⟨w.heap.size, 11, none⟩ (.slice va k ca)).setCell ⟨w.heap.size, 12, none⟩ (.bool true)) w.heap.size 32 #[.int .u16 ((0 : Nat) : Int), .bool (M.g1 f), .int .i64 (M.g2 f), .bool (M.g3 f), .bool (M.g4 f), .bool (M.g5 f), .bool (M.g6 f), .int .i64 (CD : Int), .slice none 0 0, .slice none 0 0, .slice none 0 0, .slice va k ca, .bool true, .int .u16 0, .bool false] := s11.set 12 _
  have s13 : RowAt ((((((((((((((w1.setCell ⟨w.heap.size, 0, none⟩ (.int .u16 ((0 : Nat) : Int))).setCell ⟨w.heap.size, 1, none⟩ (.bool (M.g1 f))).setCell ⟨w.heap.size, 2, none⟩ (.int .i64 (M.g2 f))).setCell ⟨w.heap.size, 3, none⟩ (.bool (M.g3 f))).setCell ⟨w.heap.size, 4, none⟩ (.bool (M.g4 f))).setCell ⟨w.heap.size, 5, none⟩ (.bool (M.g5 f))).setCell ⟨w.heap.size, 6, none⟩ (.bool (M.g6 f))).setCell ⟨w.heap.size, 7, none⟩ (.int .i64 (CD : Int))).setCell ⟨w.heap.size, 8, none⟩ (.slice none 0 0)).setCell ⟨w.heap.size, 9, none⟩ (.slice none 0 0)).setCell ⟨w.heap.size, 10, none⟩ (.slice none 0 0)).setCell ⟨w.heap.size, 11, none⟩ (.slice va k ca)).setCell ⟨w.heap.size, 12, none⟩ (.bool true)).setCell ⟨w.heap.size, 13, none⟩ (.int .u16 (sz : Int))) w.heap.size 32 #[.int .u16 ((0 : Nat) : Int), .bool (M.g1 f), .int .i64 (M.g2 f), .bool (M.g3 f), .bool (M.g4 f), .bool (M.g5 f), .bool (M.g6 f), .int .i64 (CD : Int), .slice none 0 0, .slice none 0 0, .slice none 0 0, .slice va k ca, .bool true, .int .u16 (sz : Int), .bool false] := s12.set 13 _
  have s14 : RowAt (((((((((((((((w1.setCell ⟨w.heap.size, 0, none⟩ (.int .u16 ((0 : Nat) : Int))).setCell ⟨w.heap.size, 1, none⟩ (.bool (M.g1 f))).setCell ⟨w.heap.size, 2, none⟩ (.int .i64 (M.g2 f))).setCell ⟨w.heap.size, 3, none⟩ (.bool (M.g3 f))).setCell ⟨w.heap.size, 4, none⟩ (.bool (M.g4 f))).setCell ⟨w.heap.size, 5, none⟩ (.bool (M.g5 f))).setCell ⟨w.heap.size, 6, none⟩ (.bool (M.g6 f))).setCell ⟨w.heap.size, 7, none⟩ (.int .i64 (CD : Int))).setCell ⟨w.heap.size, 8, none⟩ (.slice none 0 0)).setCell ⟨w.heap.size, 9, none⟩ (.slice none 0 0)).setCell ⟨w.heap.size, 10, none⟩ (.slice none 0 0)).setCell ⟨w.heap.size, 11, none⟩ (.slice va k ca)).setCell ⟨w.heap.size, 12, none⟩ (.bool true)).setCell ⟨w.heap.size, 13, none⟩ (.int .u16 (sz : Int))).setCell ⟨w.heap.size, 14, none⟩ (.bool xd)) w.heap.size 32 #[.int .u16 ((0 : Nat) : Int), .bool (M.g1 f), .int .i64 (M.g2 f), .bool (M.g3 f), .bool (M.g4 f), .bool (M.g5 f), .bool (M.g6 f), .int .i64 (CD : Int), .slice none 0 0, .slice none 0 0, .slice none 0 0, .slice va k ca, .bool true, .int .u16 (sz : Int), .bool xd] := s13.set 14 _
  have mm := ((((((((((((((((Mv.refl w.heap.size w1).trans (Mv.set w.heap.size 0 _ (.int .u16 ((0 : Nat) : Int)))).trans (Mv.set w.heap.size 1 _ (.bool (M.g1 f)))).trans (Mv.set w.heap.size 2 _ (.int .i64 (M.g2 f)))).trans (Mv.set w.heap.size 3 _ (.bool (M.g3 f)))).trans (Mv.set w.heap.size 4 _ (.bool (M.g4 f)))).trans (Mv.set w.heap.size 5 _ (.bool (M.g5 f)))).trans (Mv.set w.heap.size 6 _ (.bool (M.g6 f)))).trans (Mv.set w.heap.size 7 _ (.int .i64 (CD : Int)))).trans (Mv.set w.heap.size 8 _ (.slice none 0 0))).trans (Mv.set w.heap.size 9 _ (.slice none 0 0))).trans (Mv.set w.heap.size 10 _ (.slice none 0 0))).trans (Mv.set w.heap.size 11 _ (.slice va k ca))).trans (Mv.set w.heap.size 12 _ (.bool true))).trans (Mv.set w.heap.size 13 _ (.int .u16 (sz : Int)))).trans (Mv.set w.heap.size 14 _ (.bool xd)))
  have re := row_mv RE2.out (by omega) mm
  have bx := B4.out.trans (mm.below (Nat.le_refl _) B4.out.size)
  clear s0 s1 s2 s3 s4 s5 s6 s7 s8 s9 s10 s11 s12 s13 y0 f0 y1 f1 y2 f2 y3 f3 y4 f4 y5 f5 y6 f6 y7 f7 y8 f8 y9 f9 y10 f10 y11 f11 y12 f12 y13 f13 y14 f14 mm RM2 RE2 B4 k2 k3
  generalize (((((((((((((((w1.setCell ⟨w.heap.size, 0, none⟩ (.int .u16 ((0 : Nat) : Int))).setCell ⟨w.heap.size, 1, none⟩ (.bool (M.g1 f))).setCell ⟨w.heap.size, 2, none⟩ (.int .i64 (M.g2 f))).setCell ⟨w.heap.size, 3, none⟩ (.bool (M.g3 f))).setCell ⟨w.heap.size, 4, none⟩ (.bool (M.g4 f))).setCell ⟨w.heap.size, 5, none⟩ (.bool (M.g5 f))).setCell ⟨w.heap.size, 6, none⟩ (.bool (M.g6 f))).setCell ⟨w.heap.size, 7, none⟩ (.int .i64 (CD : Int))).setCell ⟨w.heap.size, 8, none⟩ (.slice none 0 0)).setCell ⟨w.heap.size, 9, none⟩ (.slice none 0 0)).setCell ⟨w.heap.size, 10, none⟩ (.slice none 0 0)).setCell ⟨w.heap.size, 11, none⟩ (.slice va k ca)).setCell ⟨w.heap.size, 12, none⟩ (.bool true)).setCell ⟨w.heap.size, 13, none⟩ (.int .u16 (sz : Int))).setCell ⟨w.heap.size, 14, none⟩ (.bool xd)) = X at s14 re bx ⊢
  refine leaves_cons (f := 21) (args := #[.pointer (some ⟨w.heap.size + 1, 0, none⟩)]) (by simp) (by simp [go_sem]) ?_
  refine (read1_idle (w.heap.size + 1) _).mono ?_
  rintro e u' w'' ⟨rfl, rfl, hw⟩
  have q0 : w''.cell? ⟨w.heap.size + 1, 0, none⟩ = some (.int .i64 0) := by rw [hw]; exact (re.set 0 _).cell 0
  have hb : Below w.heap.size w w'' := by rw [hw]; exact bx.setCell (by simp) _
  have RY : RowAt w'' (w.heap.size) 32 #[.int .u16 ((0 : Nat) : Int), .bool (M.g1 f), .int .i64 (M.g2 f), .bool (M.g3 f), .bool (M.g4 f), .bool (M.g5 f), .bool (M.g6 f), .int .i64 (CD : Int), .slice none 0 0, .slice none 0 0, .slice none 0 0, .slice va k ca, .bool true, .int .u16 (sz : Int), .bool xd] := by rw [hw]; exact s14.other _ _ (by simp)
  have z0 : w''.cell? ⟨w.heap.size, 0, none⟩ = some (.int .u16 ((0 : Nat) : Int)) := RY.cell 0
  have z1 : w''.cell? ⟨w.heap.size, 1, none⟩ = some (.bool (M.g1 f)) := RY.cell 1
  have z2 : w''.cell? ⟨w.heap.size, 2, none⟩ = some (.int .i64 (M.g2 f)) := RY.cell 2
  have z3 : w''.cell? ⟨w.heap.size, 3, none⟩ = some (.bool (M.g3 f)) := RY.cell 3
  have z4 : w''.cell? ⟨w.heap.size, 4, none⟩ = some (.bool (M.g4 f)) := RY.cell 4
  have z5 : w''.cell? ⟨w.heap.size, 5, none⟩ = some (.bool (M.g5 f)) := RY.cell 5
  have z6 : w''.cell? ⟨w.heap.size, 6, none⟩ = some (.bool (M.g6 f)) := RY.cell 6
  have z7 : w''.cell? ⟨w.heap.size, 7, none⟩ = some (.int .i64 (CD : Int)) := RY.cell 7
  have z8 : w''.cell? ⟨w.heap.size, 8, none⟩ = some (.slice none 0 0) := RY.cell 8
  have z9 : w''.cell? ⟨w.heap.size, 9, none⟩ = some (.slice none 0 0) := RY.cell 9
  have z10 : w''.cell? ⟨w.heap.size, 10, none⟩ = some (.slice none 0 0) := RY.cell 10
  have z11 : w''.cell? ⟨w.heap.size, 11, none⟩ = some (.slice va k ca) := RY.cell 11
  have z12 : w''.cell? ⟨w.heap.size, 12, none⟩ = some (.bool true) := RY.cell 12
  have z13 : w''.cell? ⟨w.heap.size, 13, none⟩ = some (.int .u16 (sz : Int)) := RY.cell 13
  have z14 : w''.cell? ⟨w.heap.size, 14, none⟩ = some (.bool xd) := RY.cell 14
  clear hw RY s14 re bx
  simp [Leaves, settle, results, Tryz.results10, go_sem, q0, z0, z1, z2, z3, z4, z5, z6, z7, z8, z9, z10, z11, z12, z13, z14]
  exact ⟨⟨va, ca, rfl⟩, hb⟩
end Go.Proofs.YtpgebiopckmgbabGreat
