/- signetref3.Chain. -/
import Derived.Test.YtagopkmehlpjpaaRefM
import Derived.Test.YtagopkmehlpjpaaRefI
namespace Go.Proofs.Ytagopkmehlpjpaa
open Go.RowKit
set_option maxHeartbeats 3200000 in
set_option maxRecDepth 5000 in
theorem sChain_any (b : List UInt8) (ao : Option Addr) (len cap : Nat) (w : World) (hl : Hid (b.length = len)) (hs : SlL w ao b) (hc : len ≤ cap) (h8 : len ≤ 8192) :
    Calls Try.prog 27 #[.slice ao len cap] w fun e w' => Ans (D.full b (D.chain b)) ChainV (.agg #[.int .u8 0, .int .u8 0, .int .u16 0, .slice none 0 0, .slice none 0 0, .slice none 0 0]) w e w' := by
  have HS := hide hs
  have B0 := hide ((Below.refl w.heap.size w).alloc (Nat.le_refl _) (.cells #[.int .u8 0, .int .u8 0, .int .u16 0, .slice none 0 0, .slice none 0 0, .slice none 0 0] 60))
  have R0 := hide (RowAt.new w 60 #[.int .u8 0, .int .u8 0, .int .u16 0, .slice none 0 0, .slice none 0 0, .slice none 0 0])
  have hlen := hl.out
  rcases Nat.lt_or_ge len 5 with hlt | hge
  · have hlt' : (len : Int) < 5 := by omega
    have HF : Hid (D.full b (D.chain b) = none) := D.chain_no1 (by omega)
    clear hs
    go_enter Try.func27, Try.ntmps27
    go_wp2
    generalize (w.alloc (.cells #[.int .u8 0, .int .u8 0, .int .u16 0, .slice none 0 0, .slice none 0 0, .slice none 0 0] 60)) = F at B0 R0 ⊢
    have q0 : F.cell? ⟨w.heap.size, 0, none⟩ = some (.int .u8 0) := R0.out.cell 0
    have q1 : F.cell? ⟨w.heap.size, 1, none⟩ = some (.int .u8 0) := R0.out.cell 1
    have q2 : F.cell? ⟨w.heap.size, 2, none⟩ = some (.int .u16 0) := R0.out.cell 2
    have q3 : F.cell? ⟨w.heap.size, 3, none⟩ = some (.slice none 0 0) := R0.out.cell 3
    have q4 : F.cell? ⟨w.heap.size, 4, none⟩ = some (.slice none 0 0) := R0.out.cell 4
    have q5 : F.cell? ⟨w.heap.size, 5, none⟩ = some (.slice none 0 0) := R0.out.cell 5
    simp [bodyPost, results, Try.results27, go_sem, q0, q1, q2, q3, q4, q5]
    exact ⟨Or.inr ⟨HF.out, rfl⟩, B0.out⟩
  have hge' : ¬ (len : Int) < 5 := by omega
  have hge5 : 5 ≤ b.length := by omega
  obtain ⟨blk, of, rfl, hblt, hcell⟩ := hs (by omega)
  have e4 : (w.alloc (.cells #[.int .u8 0, .int .u8 0, .int .u16 0, .slice none 0 0, .slice none 0 0, .slice none 0 0] 60)).cell? ⟨blk, of + 4, none⟩ = some (.int .u8 ((b.getD 4 0).toNat : Int)) := (B0.out.cell (p := ⟨blk, of + 4, none⟩) hblt).trans (hcell 4 (by omega))
  have i4 : (4 : Int) < (len : Int) := by omega
  have hy4 := (b.getD 4 0).toNat_lt
  obtain ⟨I, hI⟩ : ∃ I, 5 + (b.getD 4 0).toNat = I := ⟨_, rfl⟩
  have hI2 : 5 + ((b.getD 4 0).toNat : Int) = (I : Int) := by omega
  rcases Nat.lt_or_ge len (I + 1) with hlt2 | hge2
  · have HF : Hid (D.full b (D.chain b) = none) := D.chain_no2 hge5 (by omega)
    have hlt2' : (len : Int) < (I : Int) + 1 := by omega
    clear hs hcell
    generalize (b.getD 4 0).toNat = x4 at e4 hI2 hy4
    go_enter Try.func27, Try.ntmps27
    go_wp2
    generalize (w.alloc (.cells #[.int .u8 0, .int .u8 0, .int .u16 0, .slice none 0 0, .slice none 0 0, .slice none 0 0] 60)) = F at B0 R0 ⊢
    have q0 : F.cell? ⟨w.heap.size, 0, none⟩ = some (.int .u8 0) := R0.out.cell 0
    have q1 : F.cell? ⟨w.heap.size, 1, none⟩ = some (.int .u8 0) := R0.out.cell 1
    have q2 : F.cell? ⟨w.heap.size, 2, none⟩ = some (.int .u16 0) := R0.out.cell 2
    have q3 : F.cell? ⟨w.heap.size, 3, none⟩ = some (.slice none 0 0) := R0.out.cell 3
    have q4 : F.cell? ⟨w.heap.size, 4, none⟩ = some (.slice none 0 0) := R0.out.cell 4
    have q5 : F.cell? ⟨w.heap.size, 5, none⟩ = some (.slice none 0 0) := R0.out.cell 5
    simp [bodyPost, results, Try.results27, go_sem, q0, q1, q2, q3, q4, q5]
    exact ⟨Or.inr ⟨HF.out, rfl⟩, B0.out⟩
  have hge2' : ¬ (len : Int) < (I : Int) + 1 := by omega
  have eI : (w.alloc (.cells #[.int .u8 0, .int .u8 0, .int .u16 0, .slice none 0 0, .slice none 0 0, .slice none 0 0] 60)).cell? ⟨blk, of + I, none⟩ = some (.int .u8 ((b.getD I 0).toNat : Int)) := (B0.out.cell (p := ⟨blk, of + I, none⟩) hblt).trans (hcell I (by omega))
  have hyI := (b.getD I 0).toNat_lt
  have iI : (I : Int) < (len : Int) := by omega
  obtain ⟨K, hK⟩ : ∃ K, I + 1 + (b.getD I 0).toNat = K := ⟨_, rfl⟩
  have hK2 : (I : Int) + 1 + ((b.getD I 0).toNat : Int) = (K : Int) := by omega
  by_cases h0 : (b.getD I 0).toNat = 0
  · have HF : Hid (D.full b (D.chain b) = none) := D.chain_no3 hge5 hI (by omega) (Or.inl h0)
    rw [h0] at eI
    clear hs hcell
    generalize (b.getD 4 0).toNat = x4 at e4 hI2 hy4
    go_enter Try.func27, Try.ntmps27
    go_wp2
    generalize (w.alloc (.cells #[.int .u8 0, .int .u8 0, .int .u16 0, .slice none 0 0, .slice none 0 0, .slice none 0 0] 60)) = F at B0 R0 ⊢
    have q0 : F.cell? ⟨w.heap.size, 0, none⟩ = some (.int .u8 0) := R0.out.cell 0
    have q1 : F.cell? ⟨w.heap.size, 1, none⟩ = some (.int .u8 0) := R0.out.cell 1
    have q2 : F.cell? ⟨w.heap.size, 2, none⟩ = some (.int .u16 0) := R0.out.cell 2
    have q3 : F.cell? ⟨w.heap.size, 3, none⟩ = some (.slice none 0 0) := R0.out.cell 3
    have q4 : F.cell? ⟨w.heap.size, 4, none⟩ = some (.slice none 0 0) := R0.out.cell 4
    have q5 : F.cell? ⟨w.heap.size, 5, none⟩ = some (.slice none 0 0) := R0.out.cell 5
    simp [bodyPost, results, Try.results27, go_sem, q0, q1, q2, q3, q4, q5]
    exact ⟨Or.inr ⟨HF.out, rfl⟩, B0.out⟩
  have hne0 : (((b.getD I 0).toNat : Int) == 0) = false := beq_eq_false_iff_ne.2 (by omega)
  rcases Nat.lt_or_ge len K with hlt3 | hge3
  · have HF : Hid (D.full b (D.chain b) = none) := D.chain_no3 hge5 hI (by omega) (Or.inr (by omega))
    have hlt3' : (len : Int) < (K : Int) := by omega
    clear hs hcell
    generalize (b.getD 4 0).toNat = x4 at e4 hI2 hy4
    generalize (b.getD I 0).toNat = xi at eI hK2 hyI hne0
    go_enter Try.func27, Try.ntmps27
    go_wp2
    generalize (w.alloc (.cells #[.int .u8 0, .int .u8 0, .int .u16 0, .slice none 0 0, .slice none 0 0, .slice none 0 0] 60)) = F at B0 R0 ⊢
    have q0 : F.cell? ⟨w.heap.size, 0, none⟩ = some (.int .u8 0) := R0.out.cell 0
    have q1 : F.cell? ⟨w.heap.size, 1, none⟩ = some (.int .u8 0) := R0.out.cell 1
    have q2 : F.cell? ⟨w.heap.size, 2, none⟩ = some (.int .u16 0) := R0.out.cell 2
    have q3 : F.cell? ⟨w.heap.size, 3, none⟩ = some (.slice none 0 0) := R0.out.cell 3
    have q4 : F.cell? ⟨w.heap.size, 4, none⟩ = some (.slice none 0 0) := R0.out.cell 4
    have q5 : F.cell? ⟨w.heap.size, 5, none⟩ = some (.slice none 0 0) := R0.out.cell 5
    simp [bodyPost, results, Try.results27, go_sem, q0, q1, q2, q3, q4, q5]
    exact ⟨Or.inr ⟨HF.out, rfl⟩, B0.out⟩
  have hge3' : ¬ (len : Int) < (K : Int) := by omega
  obtain ⟨d0, t0, u0⟩ := cut_tl K HS.out hlen (by omega) hc
  obtain ⟨d1, t1, u1⟩ := cut_mid 2 2 HS.out hlen (by omega) hc
  obtain ⟨d2, t2, u2⟩ := cut_mid 5 (b.getD 4 0).toNat HS.out hlen (by omega) hc
  obtain ⟨d3, t3, u3⟩ := cut_mid (I + 1) (b.getD I 0).toNat HS.out hlen (by omega) hc
  rw [hI] at t2
  rw [hK] at t3
  have l1 : ((b.drop 2).take 2).length = 2 := by rw [List.length_take, List.length_drop]; omega
  have g1 := fun (W : World) (hB : Below w.heap.size w W) => get_any _ (some d1) 2 (cap - 2) W l1 (SlL.below u1 hB (Nat.le_refl _)) (by omega)
  have w1' := gv16 _ l1
  have HLAST := hide (D.chain_last hge5 hI (by omega) h0 hK (by omega))
  have HNO := hide (fun ho => D.chain_no4 hge5 hI (by omega) h0 hK (by omega) ho)
  have l2 : Hid (((b.drop 5).take (b.getD 4 0).toNat).length = (b.getD 4 0).toNat) := by show _ = _; rw [List.length_take, List.length_drop]; omega
  have l3 : Hid (((b.drop (I + 1)).take (b.getD I 0).toNat).length = (b.getD I 0).toNat) := by show _ = _; rw [List.length_take, List.length_drop]; omega
  have c0 := hcell 0 (by omega)
  have c1 := hcell 1 (by omega)
  rw [Nat.add_zero] at c0
  generalize (b.drop 5).take (b.getD 4 0).toNat = sa at u2 l2 HLAST
  generalize (b.drop (I + 1)).take (b.getD I 0).toNat = sn at u3 l3 HLAST
  generalize D.gv ((b.drop 2).take 2) = y1 at g1 HLAST w1'
  generalize (b.getD 0 0).toNat = x0 at c0 HLAST
  generalize (b.getD 1 0).toNat = x1 at c1 HLAST
  generalize (b.getD 4 0).toNat = x4 at e4 hI2 hy4 t2 l2 hI
  generalize (b.getD I 0).toNat = xi at eI hK2 hyI hne0 t3 l3 h0 hK
  have S0 := hide u0
  have S2 := hide u2
  have S3 := hide u3
  have C0 := hide c0
  have C1 := hide c1
  have hl0 : Hid ((b.drop K).length = len - K) := by show _ = _; rw [List.length_drop, hlen]
  replace t1 : ∀ W, (Instr.slice 23 (.slice (some ⟨blk, of, none⟩) len cap) (some (.int .i64 2)) (some (.int .i64 4)) none).run Try.prog W = .ok (.slice (some d1) 2 (cap - 2)) W := t1
  replace t2 : ∀ W, (Instr.slice 23 (.slice (some ⟨blk, of, none⟩) len cap) (some (.int .i64 5)) (some (.int .i64 (I : Int))) none).run Try.prog W = .ok (.slice (some d2) x4 (cap - 5)) W := t2
  have t3' : ∀ W, (Instr.slice 23 (.slice (some ⟨blk, of, none⟩) len cap) (some (.int .i64 ((I : Int) + 1))) (some (.int .i64 (K : Int))) none).run Try.prog W = .ok (.slice (some d3) xi (cap - (I + 1))) W := by
    intro W; have := t3 W; rwa [Int.natCast_add] at this
  obtain ⟨J, hJ⟩ : ∃ J, I + 1 = J := ⟨_, rfl⟩
  have hJ2 : (I : Int) + 1 = (J : Int) := by omega
  rw [hJ2] at t3'
  rw [hJ] at t3'
  have hJ3 : IntKind.i64.wrap (J : Int) = (J : Int) := wrap_nat J (by omega)
  have hJ4 : IntKind.i64.wrap ((I : Int) + 1) = (J : Int) := by rw [hJ2]; exact hJ3
  have hI3 : IntKind.i64.wrap (I : Int) = (I : Int) := wrap_nat I (by omega)
  have hK3 : IntKind.i64.wrap (K : Int) = (K : Int) := wrap_nat K (by omega)
  have i0 : 0 < len := by omega
  have i1 : (1 : Int) < (len : Int) := by omega
  have hKJ : (J : Int) + (xi : Int) = (K : Int) := by omega
  rw [hJ2] at hge2'
  have hbne : blk ≠ w.heap.size := by omega
  clear hs hcell c0 c1 u0 u1 u2 u3 l1 HS t3 hK2 hI hK hJ
  go_enter Try.func27, Try.ntmps27
  go_wp2_with fail
  refine (ropen_any (b.drop K) (some d0) (len - K) (cap - K) _ hl0 (by exact S0.out.alloc _) (by omega)).mono ?_
  rintro e wa ⟨hb1, ⟨m, v, ho, rfl, hO⟩ | ⟨ho, rfl⟩⟩
  rotate_left
  · have HF : Hid (D.full b (D.chain b) = none) := HNO.out ho
    have R1 := hide (R0.out.below hb1 (by simp))
    have B1 := hide (B0.out.trans (hb1.mono (by simp)))
    clear ho hb1 R0 B0
    have k0 : wa.cell? ⟨w.heap.size, 0, none⟩ = some (.int .u8 0) := R1.out.cell 0
    have f0 := R1.out.frozen 0
    have k1 : wa.cell? ⟨w.heap.size, 1, none⟩ = some (.int .u8 0) := R1.out.cell 1
    have f1 := R1.out.frozen 1
    have k2 : wa.cell? ⟨w.heap.size, 2, none⟩ = some (.int .u16 0) := R1.out.cell 2
    have f2 := R1.out.frozen 2
    have k3 : wa.cell? ⟨w.heap.size, 3, none⟩ = some (.slice none 0 0) := R1.out.cell 3
    have f3 := R1.out.frozen 3
    have k4 : wa.cell? ⟨w.heap.size, 4, none⟩ = some (.slice none 0 0) := R1.out.cell 4
    have f4 := R1.out.frozen 4
    have k5 : wa.cell? ⟨w.heap.size, 5, none⟩ = some (.slice none 0 0) := R1.out.cell 5
    have f5 := R1.out.frozen 5
    have E0 := hide R1.out
    have E1 : Hid (RowAt ((wa).setCell ⟨w.heap.size, 0, none⟩ (.int .u8 0)) w.heap.size 60 #[.int .u8 0, .int .u8 0, .int .u16 0, .slice none 0 0, .slice none 0 0, .slice none 0 0]) := E0.out.set 0 _
    have E2 : Hid (RowAt (((wa).setCell ⟨w.heap.size, 0, none⟩ (.int .u8 0)).setCell ⟨w.heap.size, 1, none⟩ (.int .u8 0)) w.heap.size 60 #[.int .u8 0, .int .u8 0, .int .u16 0, .slice none 0 0, .slice none 0 0, .slice none 0 0]) := E1.out.set 1 _
    have E3 : Hid (RowAt ((((wa).setCell ⟨w.heap.size, 0, none⟩ (.int .u8 0)).setCell ⟨w.heap.size, 1, none⟩ (.int .u8 0)).setCell ⟨w.heap.size, 2, none⟩ (.int .u16 0)) w.heap.size 60 #[.int .u8 0, .int .u8 0, .int .u16 0, .slice none 0 0, .slice none 0 0, .slice none 0 0]) := E2.out.set 2 _
    have E4 : Hid (RowAt (((((wa).setCell ⟨w.heap.size, 0, none⟩ (.int .u8 0)).setCell ⟨w.heap.size, 1, none⟩ (.int .u8 0)).setCell ⟨w.heap.size, 2, none⟩ (.int .u16 0)).setCell ⟨w.heap.size, 3, none⟩ (.slice none 0 0)) w.heap.size 60 #[.int .u8 0, .int .u8 0, .int .u16 0, .slice none 0 0, .slice none 0 0, .slice none 0 0]) := E3.out.set 3 _
    have E5 : Hid (RowAt ((((((wa).setCell ⟨w.heap.size, 0, none⟩ (.int .u8 0)).setCell ⟨w.heap.size, 1, none⟩ (.int .u8 0)).setCell ⟨w.heap.size, 2, none⟩ (.int .u16 0)).setCell ⟨w.heap.size, 3, none⟩ (.slice none 0 0)).setCell ⟨w.heap.size, 4, none⟩ (.slice none 0 0)) w.heap.size 60 #[.int .u8 0, .int .u8 0, .int .u16 0, .slice none 0 0, .slice none 0 0, .slice none 0 0]) := E4.out.set 4 _
    have E6 : Hid (RowAt (((((((wa).setCell ⟨w.heap.size, 0, none⟩ (.int .u8 0)).setCell ⟨w.heap.size, 1, none⟩ (.int .u8 0)).setCell ⟨w.heap.size, 2, none⟩ (.int .u16 0)).setCell ⟨w.heap.size, 3, none⟩ (.slice none 0 0)).setCell ⟨w.heap.size, 4, none⟩ (.slice none 0 0)).setCell ⟨w.heap.size, 5, none⟩ (.slice none 0 0)) w.heap.size 60 #[.int .u8 0, .int .u8 0, .int .u16 0, .slice none 0 0, .slice none 0 0, .slice none 0 0]) := E5.out.set 5 _
    have HU : Hid (Upd w.heap.size wa ((((((((wa).setCell ⟨w.heap.size, 0, none⟩ (.int .u8 0)).setCell ⟨w.heap.size, 1, none⟩ (.int .u8 0)).setCell ⟨w.heap.size, 2, none⟩ (.int .u16 0)).setCell ⟨w.heap.size, 3, none⟩ (.slice none 0 0)).setCell ⟨w.heap.size, 4, none⟩ (.slice none 0 0)).setCell ⟨w.heap.size, 5, none⟩ (.slice none 0 0)))) := (((((((Upd.refl w.heap.size wa).set 0 (.int .u8 0)).set 1 (.int .u8 0)).set 2 (.int .u16 0)).set 3 (.slice none 0 0)).set 4 (.slice none 0 0)).set 5 (.slice none 0 0))
    have HE : Hid (RowAt ((((((((wa).setCell ⟨w.heap.size, 0, none⟩ (.int .u8 0)).setCell ⟨w.heap.size, 1, none⟩ (.int .u8 0)).setCell ⟨w.heap.size, 2, none⟩ (.int .u16 0)).setCell ⟨w.heap.size, 3, none⟩ (.slice none 0 0)).setCell ⟨w.heap.size, 4, none⟩ (.slice none 0 0)).setCell ⟨w.heap.size, 5, none⟩ (.slice none 0 0))) w.heap.size 60 #[.int .u8 0, .int .u8 0, .int .u16 0, .slice none 0 0, .slice none 0 0, .slice none 0 0]) := E6.out
    clear E0 E1 E2 E3 E4 E5 E6
    go_wp2
    generalize (((((((wa).setCell ⟨w.heap.size, 0, none⟩ (.int .u8 0)).setCell ⟨w.heap.size, 1, none⟩ (.int .u8 0)).setCell ⟨w.heap.size, 2, none⟩ (.int .u16 0)).setCell ⟨w.heap.size, 3, none⟩ (.slice none 0 0)).setCell ⟨w.heap.size, 4, none⟩ (.slice none 0 0)).setCell ⟨w.heap.size, 5, none⟩ (.slice none 0 0)) = F at HE HU ⊢
    have q0 : F.cell? ⟨w.heap.size, 0, none⟩ = some (.int .u8 0) := HE.out.cell 0
    have q1 : F.cell? ⟨w.heap.size, 1, none⟩ = some (.int .u8 0) := HE.out.cell 1
    have q2 : F.cell? ⟨w.heap.size, 2, none⟩ = some (.int .u16 0) := HE.out.cell 2
    have q3 : F.cell? ⟨w.heap.size, 3, none⟩ = some (.slice none 0 0) := HE.out.cell 3
    have q4 : F.cell? ⟨w.heap.size, 4, none⟩ = some (.slice none 0 0) := HE.out.cell 4
    have q5 : F.cell? ⟨w.heap.size, 5, none⟩ = some (.slice none 0 0) := HE.out.cell 5
    simp [bodyPost, results, Try.results27, go_sem, q0, q1, q2, q3, q4, q5]
    exact ⟨Or.inr ⟨HF.out, rfl⟩, (B1.out).trans (HU.out.below (Nat.le_refl _))⟩
  have HF : Hid (D.full b (D.chain b) = some _) := D.full_some (by rw [hl.out]; exact h8) (by rw [HLAST.out, ho]; rfl)
  have R1 := hide (R0.out.below hb1 (by simp))
  have B1 := hide (B0.out.trans (hb1.mono (by simp)))
  obtain ⟨at_, ct, rfl, _, _, _⟩ := hO.open
  have OT := hide (OwnH.lower (base' := w.heap.size) hO (by simp))
  have e0 : wa.cell? ⟨blk, of, none⟩ = some (.int .u8 (x0 : Int)) := (B1.out.cell (p := ⟨blk, of, none⟩) hblt).trans C0.out
  have e1 : wa.cell? ⟨blk, of + 1, none⟩ = some (.int .u8 (x1 : Int)) := (B1.out.cell (p := ⟨blk, of + 1, none⟩) hblt).trans C1.out
  clear ho hO hb1 R0 B0 HLAST HNO S0 t0 e4 eI
  go_wp2
  go_region_held3 (fun w' => w'.cell? ⟨blk, of, none⟩ = some (.int .u8 (x0 : Int)) ∧ w'.cell? ⟨blk, of + 1, none⟩ = some (.int .u8 (x1 : Int))) ((first | (with_reducible exact ⟨m05, m15⟩) | (simp only [cell_far hbne, m05, m15, and_self]; done) | (with_reducible exact ⟨m04, m14⟩) | exact ⟨e0, e1⟩)) ((first
    | (refine step_fn 52 #[.tmp 60] _ rfl rfl #[.slice (some d1) 2 (cap - 2)] (by go_simp) (g1 _ (by first | exact B1.out.drew | exact B4.out | exact B5.out)) (by rintro e w' ⟨rfl, _⟩; exact ⟨_, rfl⟩) ?_; rintro v w' ⟨he, rfl⟩; cases he)
    | (refine step_append_B rfl (.const (.slice none 0 0)) (.tmp 65) rfl w.heap.size (.slice none 0 0) [] rfl (OwnB.nil _ _) d2 x4 (cap - 5) sa (by first | (simp [Act.eval]; done) | rfl) l2.out (by exact S2.out.below B1.out.drew (Nat.le_refl _)) (by simp; omega) (by exact B1.out.size) ?_; intro v4 w4 hO4 hG4; obtain ⟨a4, c4, rfl, _, _, _⟩ := hO4.open; have hN4 := nil_grown hG4; have B4 := hide (B1.out.trans (hN4.mono B1.out.size)); have R4 := hide (R1.out.below hN4 R1.out.lt); have OT4 := hide (OT.out.below hN4); have m04 : w4.cell? ⟨blk, of, none⟩ = some (.int .u8 (x0 : Int)) := (B4.out.cell (p := ⟨blk, of, none⟩) hblt).trans C0.out; have m14 : w4.cell? ⟨blk, of + 1, none⟩ = some (.int .u8 (x1 : Int)) := (B4.out.cell (p := ⟨blk, of + 1, none⟩) hblt).trans C1.out; have OA4 := hide hO4; clear hO4 hG4 hN4)
    | (refine step_append_B rfl (.const (.slice none 0 0)) (.tmp 71) rfl w.heap.size (.slice none 0 0) [] rfl (OwnB.nil _ _) d3 xi (cap - J) sn (by first | (simp [Act.eval]; done) | rfl) l3.out (by exact S3.out.below B4.out (Nat.le_refl _)) (by simp; omega) (by exact B4.out.size) ?_; intro v5 w5 hO5 hG5; obtain ⟨a5, c5, rfl, _, _, _⟩ := hO5.open; have hN5 := nil_grown0 hG5; have B5 := hide (B4.out.trans (hN5.mono B4.out.size)); have R5 := hide (R4.out.below hN5 R4.out.lt); have OT5 := hide (OT4.out.below hN5); have OA5 := hide (OA4.out.below hN5); have m05 : w5.cell? ⟨blk, of, none⟩ = some (.int .u8 (x0 : Int)) := (B5.out.cell (p := ⟨blk, of, none⟩) hblt).trans C0.out; have m15 : w5.cell? ⟨blk, of + 1, none⟩ = some (.int .u8 (x1 : Int)) := (B5.out.cell (p := ⟨blk, of + 1, none⟩) hblt).trans C1.out; have OB5 := hide hO5; obtain ⟨k0, k1, k2, k3, k4, k5, f0, f1, f2, f3, f4, f5⟩ := row_facts6 R5.out; clear hO5 hG5 hN5)))
  all_goals
    have E0 := hide R5.out
    have E1 : Hid (RowAt ((w5).setCell ⟨w.heap.size, 0, none⟩ (.int .u8 (x0 : Int))) w.heap.size 60 #[.int .u8 (x0 : Int), .int .u8 0, .int .u16 0, .slice none 0 0, .slice none 0 0, .slice none 0 0]) := E0.out.set 0 _
    have E2 : Hid (RowAt (((w5).setCell ⟨w.heap.size, 0, none⟩ (.int .u8 (x0 : Int))).setCell ⟨w.heap.size, 1, none⟩ (.int .u8 (x1 : Int))) w.heap.size 60 #[.int .u8 (x0 : Int), .int .u8 (x1 : Int), .int .u16 0, .slice none 0 0, .slice none 0 0, .slice none 0 0]) := E1.out.set 1 _
    have E3 : Hid (RowAt ((((w5).setCell ⟨w.heap.size, 0, none⟩ (.int .u8 (x0 : Int))).setCell ⟨w.heap.size, 1, none⟩ (.int .u8 (x1 : Int))).setCell ⟨w.heap.size, 2, none⟩ (.int .u16 (y1 : Int))) w.heap.size 60 #[.int .u8 (x0 : Int), .int .u8 (x1 : Int), .int .u16 (y1 : Int), .slice none 0 0, .slice none 0 0, .slice none 0 0]) := E2.out.set 2 _
    have E4 : Hid (RowAt (((((w5).setCell ⟨w.heap.size, 0, none⟩ (.int .u8 (x0 : Int))).setCell ⟨w.heap.size, 1, none⟩ (.int .u8 (x1 : Int))).setCell ⟨w.heap.size, 2, none⟩ (.int .u16 (y1 : Int))).setCell ⟨w.heap.size, 3, none⟩ (.slice a4 sa.length c4)) w.heap.size 60 #[.int .u8 (x0 : Int), .int .u8 (x1 : Int), .int .u16 (y1 : Int), .slice a4 sa.length c4, .slice none 0 0, .slice none 0 0]) := E3.out.set 3 _
    have E5 : Hid (RowAt ((((((w5).setCell ⟨w.heap.size, 0, none⟩ (.int .u8 (x0 : Int))).setCell ⟨w.heap.size, 1, none⟩ (.int .u8 (x1 : Int))).setCell ⟨w.heap.size, 2, none⟩ (.int .u16 (y1 : Int))).setCell ⟨w.heap.size, 3, none⟩ (.slice a4 sa.length c4)).setCell ⟨w.heap.size, 4, none⟩ (.slice a5 sn.length c5)) w.heap.size 60 #[.int .u8 (x0 : Int), .int .u8 (x1 : Int), .int .u16 (y1 : Int), .slice a4 sa.length c4, .slice a5 sn.length c5, .slice none 0 0]) := E4.out.set 4 _
    have E6 : Hid (RowAt (((((((w5).setCell ⟨w.heap.size, 0, none⟩ (.int .u8 (x0 : Int))).setCell ⟨w.heap.size, 1, none⟩ (.int .u8 (x1 : Int))).setCell ⟨w.heap.size, 2, none⟩ (.int .u16 (y1 : Int))).setCell ⟨w.heap.size, 3, none⟩ (.slice a4 sa.length c4)).setCell ⟨w.heap.size, 4, none⟩ (.slice a5 sn.length c5)).setCell ⟨w.heap.size, 5, none⟩ (.slice at_ m.length ct)) w.heap.size 60 #[.int .u8 (x0 : Int), .int .u8 (x1 : Int), .int .u16 (y1 : Int), .slice a4 sa.length c4, .slice a5 sn.length c5, .slice at_ m.length ct]) := E5.out.set 5 _
    have HU : Hid (Upd w.heap.size w5 ((((((((w5).setCell ⟨w.heap.size, 0, none⟩ (.int .u8 (x0 : Int))).setCell ⟨w.heap.size, 1, none⟩ (.int .u8 (x1 : Int))).setCell ⟨w.heap.size, 2, none⟩ (.int .u16 (y1 : Int))).setCell ⟨w.heap.size, 3, none⟩ (.slice a4 sa.length c4)).setCell ⟨w.heap.size, 4, none⟩ (.slice a5 sn.length c5)).setCell ⟨w.heap.size, 5, none⟩ (.slice at_ m.length ct)))) := (((((((Upd.refl w.heap.size w5).set 0 (.int .u8 (x0 : Int))).set 1 (.int .u8 (x1 : Int))).set 2 (.int .u16 (y1 : Int))).set 3 (.slice a4 sa.length c4)).set 4 (.slice a5 sn.length c5)).set 5 (.slice at_ m.length ct))
    have HE : Hid (RowAt ((((((((w5).setCell ⟨w.heap.size, 0, none⟩ (.int .u8 (x0 : Int))).setCell ⟨w.heap.size, 1, none⟩ (.int .u8 (x1 : Int))).setCell ⟨w.heap.size, 2, none⟩ (.int .u16 (y1 : Int))).setCell ⟨w.heap.size, 3, none⟩ (.slice a4 sa.length c4)).setCell ⟨w.heap.size, 4, none⟩ (.slice a5 sn.length c5)).setCell ⟨w.heap.size, 5, none⟩ (.slice at_ m.length ct))) w.heap.size 60 #[.int .u8 (x0 : Int), .int .u8 (x1 : Int), .int .u16 (y1 : Int), .slice a4 sa.length c4, .slice a5 sn.length c5, .slice at_ m.length ct]) := E6.out
    clear E0 E1 E2 E3 E4 E5 E6
    go_wp2
    generalize (((((((w5).setCell ⟨w.heap.size, 0, none⟩ (.int .u8 (x0 : Int))).setCell ⟨w.heap.size, 1, none⟩ (.int .u8 (x1 : Int))).setCell ⟨w.heap.size, 2, none⟩ (.int .u16 (y1 : Int))).setCell ⟨w.heap.size, 3, none⟩ (.slice a4 sa.length c4)).setCell ⟨w.heap.size, 4, none⟩ (.slice a5 sn.length c5)).setCell ⟨w.heap.size, 5, none⟩ (.slice at_ m.length ct)) = F at HE HU ⊢
    have q0 : F.cell? ⟨w.heap.size, 0, none⟩ = some (.int .u8 (x0 : Int)) := HE.out.cell 0
    have q1 : F.cell? ⟨w.heap.size, 1, none⟩ = some (.int .u8 (x1 : Int)) := HE.out.cell 1
    have q2 : F.cell? ⟨w.heap.size, 2, none⟩ = some (.int .u16 (y1 : Int)) := HE.out.cell 2
    have q3 : F.cell? ⟨w.heap.size, 3, none⟩ = some (.slice a4 sa.length c4) := HE.out.cell 3
    have q4 : F.cell? ⟨w.heap.size, 4, none⟩ = some (.slice a5 sn.length c5) := HE.out.cell 4
    have q5 : F.cell? ⟨w.heap.size, 5, none⟩ = some (.slice at_ m.length ct) := HE.out.cell 5
    simp [bodyPost, results, Try.results27, go_sem, q0, q1, q2, q3, q4, q5]
    exact ⟨Or.inl ⟨_, _, HF.out, rfl, ⟨_, _, _, _, _, _, rfl, HU.out.own R5.out (by decide) OA5.out, HU.out.own R5.out (by decide) OB5.out, HU.out.own R5.out (by decide) OT5.out⟩⟩, (B5.out).trans (HU.out.below (Nat.le_refl _))⟩
end Go.Proofs.Ytagopkmehlpjpaa
