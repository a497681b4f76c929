/- (*wire.reader).records, called for the additional section. -/
import Derived.Test.YtpgebiopckmgbabGreatRcs
namespace Go.Proofs.YtpgebiopckmgbabGreat
open Go.RowKit
/- an address stands at p, and ends at p' -/
def M.Addr4 (b : List UInt8) (p p' : Nat) : Prop := ∃ nm q ttl, M.wn b p p [] = some (nm, q) ∧ M.v16 b q = 1 ∧ M.v16 b (q + 2) = 1 ∧ M.v32 b (q + 4) = ttl ∧ ttl < 2147483648 ∧ M.v16 b (q + 8) = 4 ∧ p' = q + 10 + 4 ∧ p' ≤ b.length
def M.OptAt (b : List UInt8) (p p' sz ttl : Nat) : Prop := ∃ q, M.wn b p p [] = some ([], q) ∧ M.v16 b q = 41 ∧ M.v16 b (q + 2) = sz ∧ M.v32 b (q + 4) = ttl ∧ M.v16 b (q + 8) = 0 ∧ p' = q + 10 ∧ p' ≤ b.length
set_option maxRecDepth 3000 in
set_option maxHeartbeats 1600000 in
theorem records_add (B T : Nat) (ao : Option Addr) (c : Nat) (b : List UInt8) (mB i : Nat) (x1 : Bool) (op : Int) (x3 x4 x5 x6 : Bool) (cd : Nat) (q a n d : Value) (k : Nat) (pl : Nat → Nat) (E sz ttl CD : Nat) (xd : Bool) (w : World) (hR : RdW B T ao c b (pl 0) w)
    (hM : RowAt w mB 32 (mc15 i x1 op x3 x4 x5 x6 (cd : Int) q a n d false 0 false)) (hBm : B ≤ mB) (hk : k ≤ 3) (hA : ∀ j, j < k → M.Addr4 b (pl j) (pl (j + 1))) (hO : M.OptAt b (pl k) E sz ttl) (hcd : cd < 16) (ht : ttl < 4294967296)
    (hdo : Hid ((bits .and .u32 (ttl : Int) 32768 != 0) = xd)) (hCD : Hid (cd + ttl / 16777216 * 16 = CD)) :
    Calls Tryz.prog 35 #[.pointer (some ⟨T, 0, none⟩), .int .u16 ((k + 1 : Nat) : Int), .func (.func 37) #[] #[.pointer (some ⟨mB, 0, none⟩)]] w fun e w' => ∃ va ca, e = .returned (.slice va k ca) ∧ RdW B T ao c b E w' ∧ RowAt w' mB 32 (mc15 i x1 op x3 x4 x5 x6 (CD : Int) q a n d true sz xd) ∧ Mv2 T mB w w' := by
  have hTlt := hR.lt
  have hmlt := hM.lt
  have hB := hR.2.2.2.2.2.2.2
  have hTm : T ≠ mB := by
    rintro rfl
    have h1 := hR.1
    unfold RowAt at h1 hM
    rw [h1] at hM; cases hM
  have HA := hide hA
  have HO := hide hO
  have L0 : Hid (RL B T ao c b mB (mc15 i x1 op x3 x4 x5 x6 (cd : Int) q a n d false 0 false) w (pl 0) (.slice none 0 0) 0 w) := ⟨hR, hM, ⟨[], World.ownsRow_nil _ _ _ _⟩, Mv2.refl _ _ _⟩
  obtain ⟨K1, hK1, hK2⟩ : ∃ K1 : Nat, K1 ≤ k + 1 ∧ k + 1 ≤ K1 := ⟨k + 1, Nat.le_refl _, Nat.le_refl _⟩
  rw [show k + 1 = K1 by omega]
  clear hR hM hA hO
  go_enter Tryz.func35, Tryz.ntmps35
  go_wp2
  go_loopw [6, 9] (fun s6 s9 wz => (∃ j : Nat, j ≤ k ∧ s9 = .int .u16 (j : Int) ∧ Hid (RL B T ao c b mB (mc15 i x1 op x3 x4 x5 x6 (cd : Int) q a n d false 0 false) w (pl j) s6 j wz)) ∨ (s9 = .int .u16 (K1 : Int) ∧ Hid (RL B T ao c b mB (mc15 i x1 op x3 x4 x5 x6 (CD : Int) q a n d true sz xd) w E s6 k wz))) (fun _ s9 _ => K1 - (intOf s9).toNat)
  case atStart => exact Or.inl ⟨0, by omega, rfl, L0⟩
  case round =>
    clear L0
    rcases hrel with ⟨j, hj, rfl, HL⟩ | ⟨rfl, HL⟩
    · have q1 : decide ((j : Int) < (K1 : Int)) = true := by simp; omega
      have hsz := HL.out.mv.size
      have hjw : IntKind.u16.wrap ((j : Int) + 1) = ((j + 1 : Nat) : Int) := by rw [IntKind.wrap_u16]; omega
      by_cases hjk : j < k
      · obtain ⟨nm, qq, tt, e1, e2, e3, e4, e5, e6, e7, e8⟩ := HA.out j hjk
        have E1 := hide e1
        have E2 := hide e2
        have E3 := hide e3
        have E4 := hide e4
        have E6 := hide e6
        have E7 := hide e7
        clear e1 e2 e3 e4 e6
        go_wp2_with fail
        refine (record_ok B T ao c b (pl j) _ (by exact HL.out.rd) nm qq 1 1 tt 4 E1 E2 E3 E4 E6 (by omega) (Or.inr ⟨rfl, Or.inl ⟨rfl, rfl⟩⟩)).mono ?_
        rintro e w1 ⟨na, nc, da, dc, rfl, hr1, hm1⟩
        obtain ⟨xs, hown⟩ := HL.out.own
        have HR1 : Hid (RdW B T ao c b (pl (j + 1)) w1) := by rw [E7.out]; exact hr1
        have HM1 := hide (row_mv HL.out.msg (Ne.symm hTm) hm1)
        have HO1 := hide (own_mv3 hown HL.out.rd.1 (by decide) hm1)
        have HV1 := hide (HL.out.mv.fst hm1)
        have hz1 := HV1.out.size
        clear hr1 hm1 hown HL
        have q41 : (((1 : Nat) : Int) == 41) = false := by decide
        have qtt : decide ((2147483648 : Int) ≤ (tt : Int)) = false := by simp; omega
        go_wp2_with (first
          | (refine wpList_store_absR rfl 39 (.tmp 7) (.tmp 12) rfl w1.heap.size (rec5 na nm.length nc 1 1 tt da 4 dc) rfl rfl 39 _ (RowAt.new w1 39 _) (by exact infoRs) rfl (rec5_one _ _ _ _ _ _ _ _ _) w1.heap.size (Nat.le_refl _) ?_; intro w2 hX2 hB2; have hb2 : Below w1.heap.size w1 w2 := ((Below.refl _ _).alloc (Nat.le_refl _) _).trans hB2; have HR2 := hide (HR1.out.below hb2); have HM2 := hide (HM1.out.below hb2 HM1.out.lt); have HO2 := hide (own_below HO1.out hb2); have HV2 := hide (HV1.out.bel hb2 hz1); have hz2 := HV2.out.size; have HX2 := hide hX2; have y1 : w2.cell? ⟨w1.heap.size, 1, none⟩ = some (.int .u16 ((1 : Nat) : Int)) := hX2.cell 1; have y3 : w2.cell? ⟨w1.heap.size, 3, none⟩ = some (.int .u32 (tt : Int)) := hX2.cell 3; clear hX2 hB2 hb2)
          | (refine wpList_load_row rfl 39 (.tmp 7) rfl w1.heap.size rfl 39 _ (0, 0) _ (by exact HX2.out) Tryz.underlying39 rfl (by exact infoRs) ?_)
          | (refine wpList_build5 rfl (.tmp 24) rfl na nm.length nc 1 1 tt da 4 dc rfl ?_)
          | (at_builtin; refine wpList_append1 rfl (.tmp 23) (.tmp 25) 30 39 rfl _ 5 56 Tryz.underlying30 infoR2 rfl (by omega) w.heap.size _ j xs rfl (by exact World.ownsRow.alloc HO2.out _) w2.heap.size 39 (rec5 na nm.length nc 1 1 tt da 4 dc).toList rfl (by exact RowAt.new w2 39 _) rfl (rec5_ones _ _ _ _ _ _ _ _ _) (by omega) (by omega) (by simp; omega) ?_; intro v3 w3 ho3 hG3; have hb3 := owns_grown (World.ownsRow.alloc HO2.out _) hG3 ((Below.refl _ _).alloc hz2 _) (by simp; omega); have HL3 : Hid (RL B T ao c b mB (mc15 i x1 op x3 x4 x5 x6 (cd : Int) q a n d false 0 false) w (pl (j + 1)) v3 (j + 1) w3) := ⟨HR2.out.low hb3 hTlt hB, HM2.out.below hb3 hmlt, ⟨_, ho3⟩, HV2.out.bel hb3 (Nat.le_refl _)⟩; clear ho3 hG3 hb3))
        exact ⟨Or.inl ⟨j + 1, by omega, by go_num, HL3⟩, by simp [intOf]; omega⟩
      · obtain rfl : j = k := by omega
        obtain ⟨qq, e1, e2, e3, e4, e5, e6, e7⟩ := HO.out
        have E1 := hide e1
        have E2 := hide e2
        have E3 := hide e3
        have E4 := hide e4
        have E5 := hide e5
        have E6 := hide e6
        clear e1 e2 e3 e4 e5
        go_wp2_with fail
        refine (record_ok B T ao c b (pl j) _ (by exact HL.out.rd) [] qq 41 sz ttl 0 E1 E2 E3 E4 E5 (by omega) (Or.inl (Or.inr rfl))).mono ?_
        rintro e w1 ⟨na, nc, da, dc, rfl, hr1, hm1⟩
        obtain ⟨xs, hown⟩ := HL.out.own
        have HR1 : Hid (RdW B T ao c b E w1) := by rw [E6.out]; exact hr1
        have HM1 := hide (row_mv HL.out.msg (Ne.symm hTm) hm1)
        have HO1 := hide (own_mv3 hown HL.out.rd.1 (by decide) hm1)
        have HV1 := hide (HL.out.mv.fst hm1)
        have hz1 := HV1.out.size
        clear hr1 hm1 hown HL
        go_wp2_with (first
          | (refine wpList_store_absR rfl 39 (.tmp 7) (.tmp 12) rfl w1.heap.size (rec5 na 0 nc 41 sz ttl da 0 dc) rfl rfl 39 _ (RowAt.new w1 39 _) (by exact infoRs) rfl (rec5_one _ _ _ _ _ _ _ _ _) w1.heap.size (Nat.le_refl _) ?_; intro w2 hX2 hB2; have hb2 : Below w1.heap.size w1 w2 := ((Below.refl _ _).alloc (Nat.le_refl _) _).trans hB2; have HR2 := hide (HR1.out.below hb2); have HM2 := hide (HM1.out.below hb2 HM1.out.lt); have HO2 := hide (own_below HO1.out hb2); have HV2 := hide (HV1.out.bel hb2 hz1); have HX2 := hide hX2; have y1 : w2.cell? ⟨w1.heap.size, 1, none⟩ = some (.int .u16 ((41 : Nat) : Int)) := hX2.cell 1; clear hX2 hB2 hb2)
          | (refine wpList_load_row rfl 39 (.tmp 7) rfl w1.heap.size rfl 39 _ (0, 0) _ (by exact HX2.out) Tryz.underlying39 rfl (by exact infoRs) ?_))
        refine (message1_ok mB i x1 op x3 x4 x5 x6 cd q a n d na nc 41 sz ttl da 0 dc xd _ (by exact HM2.out) hcd ht hdo CD hCD).mono ?_
        rintro e w3 ⟨rfl, hM3, hm3⟩
        have HL3 : Hid (RL B T ao c b mB (mc15 i x1 op x3 x4 x5 x6 (CD : Int) q a n d true sz xd) w E u6 j w3) := ⟨HR2.out.mv hTm hBm hm3, hM3, ⟨xs, own_mv3 HO2.out HM2.out (by decide) hm3⟩, HV2.out.snd hm3⟩
        clear hM3 hm3
        go_wp2
        exact ⟨Or.inr ⟨by go_num, HL3⟩, by simp [intOf]; omega⟩
    · have q1 : decide ((K1 : Int) < (K1 : Int)) = false := by simp
      obtain ⟨xs, hown⟩ := HL.out.own
      have hform : ∃ va ca, u6 = .slice va k ca := by
        rcases hown.2 with ⟨h1, h2⟩ | ⟨g, cap, cur, h1, _⟩
        · exact ⟨none, 0, by rw [h1, h2]⟩
        · exact ⟨_, _, h1⟩
      obtain ⟨va, ca, rfl⟩ := hform
      have HF := hide HL.out.rd
      have HM := hide HL.out.msg
      have HV := hide HL.out.mv
      clear hown HL
      go_wp2
      go_ret
      exact ⟨va, ca, rfl, HF.out, HM.out, HV.out⟩
end Go.Proofs.YtpgebiopckmgbabGreat
