/- signetref3.Sig. -/
import Derived.Test.YtagopkmehlpjpaaRefL
import Derived.Deep.RegionHeld3
namespace Go.Proofs.Ytagopkmehlpjpaa
open Go.RowKit
set_option maxRecDepth 5000 in
theorem gv16 (l : List UInt8) (h : l.length = 2) : IntKind.u16.wrap (D.gv l : Int) = (D.gv l : Int) := by
  have := D.gv_lt l
  rw [h] at this
  rw [IntKind.wrap_u16]
  omega
set_option maxHeartbeats 3200000 in
set_option maxRecDepth 5000 in
theorem sSig_any (b : List UInt8) (ao : Option Addr) (len cap : Nat) (w : World) (hl : Hid (b.length = len)) (hs : SlL w ao b) (hc : len ≤ cap) (hnil : ao = none → cap = 0) (h8 : len ≤ 8192) :
    Calls Try.prog 23 #[.slice ao len cap] w fun e w' => Ans (D.full b (D.sig b)) SigV (.agg #[.int .u16 0, .int .u8 0, .int .u8 0, .int .u32 0, .int .u32 0, .int .u32 0, .int .u16 0, .slice none 0 0, .slice none 0 0]) w e w' := by
  have HS := hide hs
  have B0 := hide ((Below.refl w.heap.size w).alloc (Nat.le_refl _) (.cells #[.int .u16 0, .int .u8 0, .int .u8 0, .int .u32 0, .int .u32 0, .int .u32 0, .int .u16 0, .slice none 0 0, .slice none 0 0] 51))
  have R0 := hide (RowAt.new w 51 #[.int .u16 0, .int .u8 0, .int .u8 0, .int .u32 0, .int .u32 0, .int .u32 0, .int .u16 0, .slice none 0 0, .slice none 0 0])
  rcases Nat.lt_or_ge len 18 with hlt | hge
  · have hlt' : (len : Int) < 18 := by omega
    have HF : Hid (D.full b (D.sig b) = none) := D.sig_no (Or.inl (by rw [hl.out]; exact hlt))
    clear hs hnil
    go_enter Try.func23, Try.ntmps23
    go_wp2
    generalize (w.alloc (.cells #[.int .u16 0, .int .u8 0, .int .u8 0, .int .u32 0, .int .u32 0, .int .u32 0, .int .u16 0, .slice none 0 0, .slice none 0 0] 51)) = F at B0 R0 ⊢
    have q0 : F.cell? ⟨w.heap.size, 0, none⟩ = some (.int .u16 0) := R0.out.cell 0
    have q1 : F.cell? ⟨w.heap.size, 1, none⟩ = some (.int .u8 0) := R0.out.cell 1
    have q2 : F.cell? ⟨w.heap.size, 2, none⟩ = some (.int .u8 0) := R0.out.cell 2
    have q3 : F.cell? ⟨w.heap.size, 3, none⟩ = some (.int .u32 0) := R0.out.cell 3
    have q4 : F.cell? ⟨w.heap.size, 4, none⟩ = some (.int .u32 0) := R0.out.cell 4
    have q5 : F.cell? ⟨w.heap.size, 5, none⟩ = some (.int .u32 0) := R0.out.cell 5
    have q6 : F.cell? ⟨w.heap.size, 6, none⟩ = some (.int .u16 0) := R0.out.cell 6
    have q7 : F.cell? ⟨w.heap.size, 7, none⟩ = some (.slice none 0 0) := R0.out.cell 7
    have q8 : F.cell? ⟨w.heap.size, 8, none⟩ = some (.slice none 0 0) := R0.out.cell 8
    simp [bodyPost, results, Try.results23, go_sem, q0, q1, q2, q3, q4, q5, q6, q7, q8]
    exact ⟨Or.inr ⟨HF.out, rfl⟩, B0.out⟩
  have hge' : ¬ (len : Int) < 18 := by omega
  have hlen := hl.out
  obtain ⟨blk, of, rfl, hblt, hcell⟩ := hs (by omega)
  have c2 := hcell 2 (by omega)
  have c3 := hcell 3 (by omega)
  obtain ⟨d0, t0, u0⟩ := cut_tl 18 HS.out hlen (by omega) hc
  obtain ⟨d1, t1, u1⟩ := cut_hd 2 HS.out hlen (by omega) hc
  obtain ⟨d2, t2, u2⟩ := cut_mid 4 4 HS.out hlen (by omega) hc
  obtain ⟨d3, t3, u3⟩ := cut_mid 8 4 HS.out hlen (by omega) hc
  obtain ⟨d4, t4, u4⟩ := cut_mid 12 4 HS.out hlen (by omega) hc
  obtain ⟨d5, t5, u5⟩ := cut_mid 16 2 HS.out hlen (by omega) hc
  have hg := fun (l : List UInt8) (d : Addr) (m c : Nat) (h4 : l.length = m) (hm : m ≤ 4) (hsl : SlL w (some d) l) (W : World) (hB : Below w.heap.size w W) => get_any l (some d) m c W h4 (hsl.below hB (Nat.le_refl _)) hm
  have l1 : (b.take 2).length = 2 := by rw [List.length_take]; omega
  have l2 : ((b.drop 4).take 4).length = 4 := by rw [List.length_take, List.length_drop]; omega
  have l3 : ((b.drop 8).take 4).length = 4 := by rw [List.length_take, List.length_drop]; omega
  have l4 : ((b.drop 12).take 4).length = 4 := by rw [List.length_take, List.length_drop]; omega
  have l5 : ((b.drop 16).take 2).length = 2 := by rw [List.length_take, List.length_drop]; omega
  have g1 := hg _ d1 2 cap l1 (by omega) u1
  have g2 := hg _ d2 4 (cap - 4) l2 (by omega) u2
  have g3 := hg _ d3 4 (cap - 8) l3 (by omega) u3
  have g4 := hg _ d4 4 (cap - 12) l4 (by omega) u4
  have g5 := hg _ d5 2 (cap - 16) l5 (by omega) u5
  have w1' := gv16 _ l1
  have w5' := gv16 _ l5
  have HREF := hide (fun r n h => D.sig_ref (l := b) (r := r) (n := n) (by omega) h)
  have HNO := hide (fun h => D.sig_no (l := b) (Or.inr h))
  generalize D.gv (b.take 2) = y1 at g1 HREF w1'
  generalize D.gv ((b.drop 4).take 4) = y2 at g2 HREF
  generalize D.gv ((b.drop 8).take 4) = y3 at g3 HREF
  generalize D.gv ((b.drop 12).take 4) = y4 at g4 HREF
  generalize D.gv ((b.drop 16).take 2) = y5 at g5 HREF w5'
  generalize (b.getD 2 0).toNat = x2 at c2 HREF
  generalize (b.getD 3 0).toNat = x3 at c3 HREF
  have S0 := hide u0
  have hl0 : Hid ((b.drop 18).length = len - 18) := by show _ = _; rw [List.length_drop, hlen]
  have i2 : (2 : Int) < (len : Int) := by omega
  have i3 : (3 : Int) < (len : Int) := by omega
  replace t0 : ∀ W, (Instr.slice 23 (.slice (some ⟨blk, of, none⟩) len cap) (some (.int .i64 18)) none none).run Try.prog W = .ok (.slice (some d0) (len - 18) (cap - 18)) W := t0
  replace t1 : ∀ W, (Instr.slice 23 (.slice (some ⟨blk, of, none⟩) len cap) none (some (.int .i64 2)) none).run Try.prog W = .ok (.slice (some d1) 2 cap) W := t1
  replace t2 : ∀ W, (Instr.slice 23 (.slice (some ⟨blk, of, none⟩) len cap) (some (.int .i64 4)) (some (.int .i64 8)) none).run Try.prog W = .ok (.slice (some d2) 4 (cap - 4)) W := t2
  replace t3 : ∀ W, (Instr.slice 23 (.slice (some ⟨blk, of, none⟩) len cap) (some (.int .i64 8)) (some (.int .i64 12)) none).run Try.prog W = .ok (.slice (some d3) 4 (cap - 8)) W := t3
  replace t4 : ∀ W, (Instr.slice 23 (.slice (some ⟨blk, of, none⟩) len cap) (some (.int .i64 12)) (some (.int .i64 16)) none).run Try.prog W = .ok (.slice (some d4) 4 (cap - 12)) W := t4
  replace t5 : ∀ W, (Instr.slice 23 (.slice (some ⟨blk, of, none⟩) len cap) (some (.int .i64 16)) (some (.int .i64 18)) none).run Try.prog W = .ok (.slice (some d5) 2 (cap - 16)) W := t5
  have C2 := hide c2
  have C3 := hide c3
  clear hs hnil hcell c2 c3 hg u0 u1 u2 u3 u4 u5 l1 l2 l3 l4 l5 hlen
  go_enter Try.func23, Try.ntmps23
  go_wp2_with fail
  refine (rOpen_any (b.drop 18) (some d0) (len - 18) (cap - 18) _ hl0 (by exact S0.out.alloc _) (by omega) (by omega)).mono ?_
  rintro e w1 ⟨⟨n, v, hn, hz, rfl, hO⟩ | ⟨hn, rfl⟩ | ⟨n, hn, hz, rfl⟩, hb1⟩
  rotate_left
  · have HF : Hid (D.full b (D.sig b) = none) := HNO.out (by unfold D.nm; rw [hn]; rfl)
    have R1 := hide (R0.out.below hb1 (by simp))
    have B1 := hide (B0.out.trans (hb1.mono (by simp)))
    clear hn hb1 R0 B0
    have k0 : w1.cell? ⟨w.heap.size, 0, none⟩ = some (.int .u16 0) := R1.out.cell 0
    have f0 := R1.out.frozen 0
    have k1 : w1.cell? ⟨w.heap.size, 1, none⟩ = some (.int .u8 0) := R1.out.cell 1
    have f1 := R1.out.frozen 1
    have k2 : w1.cell? ⟨w.heap.size, 2, none⟩ = some (.int .u8 0) := R1.out.cell 2
    have f2 := R1.out.frozen 2
    have k3 : w1.cell? ⟨w.heap.size, 3, none⟩ = some (.int .u32 0) := R1.out.cell 3
    have f3 := R1.out.frozen 3
    have k4 : w1.cell? ⟨w.heap.size, 4, none⟩ = some (.int .u32 0) := R1.out.cell 4
    have f4 := R1.out.frozen 4
    have k5 : w1.cell? ⟨w.heap.size, 5, none⟩ = some (.int .u32 0) := R1.out.cell 5
    have f5 := R1.out.frozen 5
    have k6 : w1.cell? ⟨w.heap.size, 6, none⟩ = some (.int .u16 0) := R1.out.cell 6
    have f6 := R1.out.frozen 6
    have k7 : w1.cell? ⟨w.heap.size, 7, none⟩ = some (.slice none 0 0) := R1.out.cell 7
    have f7 := R1.out.frozen 7
    have k8 : w1.cell? ⟨w.heap.size, 8, none⟩ = some (.slice none 0 0) := R1.out.cell 8
    have f8 := R1.out.frozen 8
    have E0 := hide R1.out
    have E1 : Hid (RowAt ((w1).setCell ⟨w.heap.size, 0, none⟩ (.int .u16 0)) w.heap.size 51 #[.int .u16 0, .int .u8 0, .int .u8 0, .int .u32 0, .int .u32 0, .int .u32 0, .int .u16 0, .slice none 0 0, .slice none 0 0]) := E0.out.set 0 _
    have E2 : Hid (RowAt (((w1).setCell ⟨w.heap.size, 0, none⟩ (.int .u16 0)).setCell ⟨w.heap.size, 1, none⟩ (.int .u8 0)) w.heap.size 51 #[.int .u16 0, .int .u8 0, .int .u8 0, .int .u32 0, .int .u32 0, .int .u32 0, .int .u16 0, .slice none 0 0, .slice none 0 0]) := E1.out.set 1 _
    have E3 : Hid (RowAt ((((w1).setCell ⟨w.heap.size, 0, none⟩ (.int .u16 0)).setCell ⟨w.heap.size, 1, none⟩ (.int .u8 0)).setCell ⟨w.heap.size, 2, none⟩ (.int .u8 0)) w.heap.size 51 #[.int .u16 0, .int .u8 0, .int .u8 0, .int .u32 0, .int .u32 0, .int .u32 0, .int .u16 0, .slice none 0 0, .slice none 0 0]) := E2.out.set 2 _
    have E4 : Hid (RowAt (((((w1).setCell ⟨w.heap.size, 0, none⟩ (.int .u16 0)).setCell ⟨w.heap.size, 1, none⟩ (.int .u8 0)).setCell ⟨w.heap.size, 2, none⟩ (.int .u8 0)).setCell ⟨w.heap.size, 3, none⟩ (.int .u32 0)) w.heap.size 51 #[.int .u16 0, .int .u8 0, .int .u8 0, .int .u32 0, .int .u32 0, .int .u32 0, .int .u16 0, .slice none 0 0, .slice none 0 0]) := E3.out.set 3 _
    have E5 : Hid (RowAt ((((((w1).setCell ⟨w.heap.size, 0, none⟩ (.int .u16 0)).setCell ⟨w.heap.size, 1, none⟩ (.int .u8 0)).setCell ⟨w.heap.size, 2, none⟩ (.int .u8 0)).setCell ⟨w.heap.size, 3, none⟩ (.int .u32 0)).setCell ⟨w.heap.size, 4, none⟩ (.int .u32 0)) w.heap.size 51 #[.int .u16 0, .int .u8 0, .int .u8 0, .int .u32 0, .int .u32 0, .int .u32 0, .int .u16 0, .slice none 0 0, .slice none 0 0]) := E4.out.set 4 _
    have E6 : Hid (RowAt (((((((w1).setCell ⟨w.heap.size, 0, none⟩ (.int .u16 0)).setCell ⟨w.heap.size, 1, none⟩ (.int .u8 0)).setCell ⟨w.heap.size, 2, none⟩ (.int .u8 0)).setCell ⟨w.heap.size, 3, none⟩ (.int .u32 0)).setCell ⟨w.heap.size, 4, none⟩ (.int .u32 0)).setCell ⟨w.heap.size, 5, none⟩ (.int .u32 0)) w.heap.size 51 #[.int .u16 0, .int .u8 0, .int .u8 0, .int .u32 0, .int .u32 0, .int .u32 0, .int .u16 0, .slice none 0 0, .slice none 0 0]) := E5.out.set 5 _
    have E7 : Hid (RowAt ((((((((w1).setCell ⟨w.heap.size, 0, none⟩ (.int .u16 0)).setCell ⟨w.heap.size, 1, none⟩ (.int .u8 0)).setCell ⟨w.heap.size, 2, none⟩ (.int .u8 0)).setCell ⟨w.heap.size, 3, none⟩ (.int .u32 0)).setCell ⟨w.heap.size, 4, none⟩ (.int .u32 0)).setCell ⟨w.heap.size, 5, none⟩ (.int .u32 0)).setCell ⟨w.heap.size, 6, none⟩ (.int .u16 0)) w.heap.size 51 #[.int .u16 0, .int .u8 0, .int .u8 0, .int .u32 0, .int .u32 0, .int .u32 0, .int .u16 0, .slice none 0 0, .slice none 0 0]) := E6.out.set 6 _
    have E8 : Hid (RowAt (((((((((w1).setCell ⟨w.heap.size, 0, none⟩ (.int .u16 0)).setCell ⟨w.heap.size, 1, none⟩ (.int .u8 0)).setCell ⟨w.heap.size, 2, none⟩ (.int .u8 0)).setCell ⟨w.heap.size, 3, none⟩ (.int .u32 0)).setCell ⟨w.heap.size, 4, none⟩ (.int .u32 0)).setCell ⟨w.heap.size, 5, none⟩ (.int .u32 0)).setCell ⟨w.heap.size, 6, none⟩ (.int .u16 0)).setCell ⟨w.heap.size, 7, none⟩ (.slice none 0 0)) w.heap.size 51 #[.int .u16 0, .int .u8 0, .int .u8 0, .int .u32 0, .int .u32 0, .int .u32 0, .int .u16 0, .slice none 0 0, .slice none 0 0]) := E7.out.set 7 _
    have E9 : Hid (RowAt ((((((((((w1).setCell ⟨w.heap.size, 0, none⟩ (.int .u16 0)).setCell ⟨w.heap.size, 1, none⟩ (.int .u8 0)).setCell ⟨w.heap.size, 2, none⟩ (.int .u8 0)).setCell ⟨w.heap.size, 3, none⟩ (.int .u32 0)).setCell ⟨w.heap.size, 4, none⟩ (.int .u32 0)).setCell ⟨w.heap.size, 5, none⟩ (.int .u32 0)).setCell ⟨w.heap.size, 6, none⟩ (.int .u16 0)).setCell ⟨w.heap.size, 7, none⟩ (.slice none 0 0)).setCell ⟨w.heap.size, 8, none⟩ (.slice none 0 0)) w.heap.size 51 #[.int .u16 0, .int .u8 0, .int .u8 0, .int .u32 0, .int .u32 0, .int .u32 0, .int .u16 0, .slice none 0 0, .slice none 0 0]) := E8.out.set 8 _
    have HU : Hid (Upd w.heap.size w1 (((((((((((w1).setCell ⟨w.heap.size, 0, none⟩ (.int .u16 0)).setCell ⟨w.heap.size, 1, none⟩ (.int .u8 0)).setCell ⟨w.heap.size, 2, none⟩ (.int .u8 0)).setCell ⟨w.heap.size, 3, none⟩ (.int .u32 0)).setCell ⟨w.heap.size, 4, none⟩ (.int .u32 0)).setCell ⟨w.heap.size, 5, none⟩ (.int .u32 0)).setCell ⟨w.heap.size, 6, none⟩ (.int .u16 0)).setCell ⟨w.heap.size, 7, none⟩ (.slice none 0 0)).setCell ⟨w.heap.size, 8, none⟩ (.slice none 0 0)))) := ((((((((((Upd.refl w.heap.size w1).set 0 (.int .u16 0)).set 1 (.int .u8 0)).set 2 (.int .u8 0)).set 3 (.int .u32 0)).set 4 (.int .u32 0)).set 5 (.int .u32 0)).set 6 (.int .u16 0)).set 7 (.slice none 0 0)).set 8 (.slice none 0 0))
    have HE : Hid (RowAt (((((((((((w1).setCell ⟨w.heap.size, 0, none⟩ (.int .u16 0)).setCell ⟨w.heap.size, 1, none⟩ (.int .u8 0)).setCell ⟨w.heap.size, 2, none⟩ (.int .u8 0)).setCell ⟨w.heap.size, 3, none⟩ (.int .u32 0)).setCell ⟨w.heap.size, 4, none⟩ (.int .u32 0)).setCell ⟨w.heap.size, 5, none⟩ (.int .u32 0)).setCell ⟨w.heap.size, 6, none⟩ (.int .u16 0)).setCell ⟨w.heap.size, 7, none⟩ (.slice none 0 0)).setCell ⟨w.heap.size, 8, none⟩ (.slice none 0 0))) w.heap.size 51 #[.int .u16 0, .int .u8 0, .int .u8 0, .int .u32 0, .int .u32 0, .int .u32 0, .int .u16 0, .slice none 0 0, .slice none 0 0]) := E9.out
    clear E0 E1 E2 E3 E4 E5 E6 E7 E8 E9
    go_wp2
    generalize ((((((((((w1).setCell ⟨w.heap.size, 0, none⟩ (.int .u16 0)).setCell ⟨w.heap.size, 1, none⟩ (.int .u8 0)).setCell ⟨w.heap.size, 2, none⟩ (.int .u8 0)).setCell ⟨w.heap.size, 3, none⟩ (.int .u32 0)).setCell ⟨w.heap.size, 4, none⟩ (.int .u32 0)).setCell ⟨w.heap.size, 5, none⟩ (.int .u32 0)).setCell ⟨w.heap.size, 6, none⟩ (.int .u16 0)).setCell ⟨w.heap.size, 7, none⟩ (.slice none 0 0)).setCell ⟨w.heap.size, 8, none⟩ (.slice none 0 0)) = F at HE HU ⊢
    have q0 : F.cell? ⟨w.heap.size, 0, none⟩ = some (.int .u16 0) := HE.out.cell 0
    have q1 : F.cell? ⟨w.heap.size, 1, none⟩ = some (.int .u8 0) := HE.out.cell 1
    have q2 : F.cell? ⟨w.heap.size, 2, none⟩ = some (.int .u8 0) := HE.out.cell 2
    have q3 : F.cell? ⟨w.heap.size, 3, none⟩ = some (.int .u32 0) := HE.out.cell 3
    have q4 : F.cell? ⟨w.heap.size, 4, none⟩ = some (.int .u32 0) := HE.out.cell 4
    have q5 : F.cell? ⟨w.heap.size, 5, none⟩ = some (.int .u32 0) := HE.out.cell 5
    have q6 : F.cell? ⟨w.heap.size, 6, none⟩ = some (.int .u16 0) := HE.out.cell 6
    have q7 : F.cell? ⟨w.heap.size, 7, none⟩ = some (.slice none 0 0) := HE.out.cell 7
    have q8 : F.cell? ⟨w.heap.size, 8, none⟩ = some (.slice none 0 0) := HE.out.cell 8
    simp [bodyPost, results, Try.results23, go_sem, q0, q1, q2, q3, q4, q5, q6, q7, q8]
    exact ⟨Or.inr ⟨HF.out, rfl⟩, (B1.out).trans (HU.out.below (Nat.le_refl _))⟩
  · have HF : Hid (D.full b (D.sig b) = none) := HNO.out (by unfold D.nm; rw [hn, Option.bind_some, if_neg (by omega)])
    have R1 := hide (R0.out.below hb1 (by simp))
    have B1 := hide (B0.out.trans (hb1.mono (by simp)))
    clear hn hb1 R0 B0
    have k0 : w1.cell? ⟨w.heap.size, 0, none⟩ = some (.int .u16 0) := R1.out.cell 0
    have f0 := R1.out.frozen 0
    have k1 : w1.cell? ⟨w.heap.size, 1, none⟩ = some (.int .u8 0) := R1.out.cell 1
    have f1 := R1.out.frozen 1
    have k2 : w1.cell? ⟨w.heap.size, 2, none⟩ = some (.int .u8 0) := R1.out.cell 2
    have f2 := R1.out.frozen 2
    have k3 : w1.cell? ⟨w.heap.size, 3, none⟩ = some (.int .u32 0) := R1.out.cell 3
    have f3 := R1.out.frozen 3
    have k4 : w1.cell? ⟨w.heap.size, 4, none⟩ = some (.int .u32 0) := R1.out.cell 4
    have f4 := R1.out.frozen 4
    have k5 : w1.cell? ⟨w.heap.size, 5, none⟩ = some (.int .u32 0) := R1.out.cell 5
    have f5 := R1.out.frozen 5
    have k6 : w1.cell? ⟨w.heap.size, 6, none⟩ = some (.int .u16 0) := R1.out.cell 6
    have f6 := R1.out.frozen 6
    have k7 : w1.cell? ⟨w.heap.size, 7, none⟩ = some (.slice none 0 0) := R1.out.cell 7
    have f7 := R1.out.frozen 7
    have k8 : w1.cell? ⟨w.heap.size, 8, none⟩ = some (.slice none 0 0) := R1.out.cell 8
    have f8 := R1.out.frozen 8
    have E0 := hide R1.out
    have E1 : Hid (RowAt ((w1).setCell ⟨w.heap.size, 0, none⟩ (.int .u16 0)) w.heap.size 51 #[.int .u16 0, .int .u8 0, .int .u8 0, .int .u32 0, .int .u32 0, .int .u32 0, .int .u16 0, .slice none 0 0, .slice none 0 0]) := E0.out.set 0 _
    have E2 : Hid (RowAt (((w1).setCell ⟨w.heap.size, 0, none⟩ (.int .u16 0)).setCell ⟨w.heap.size, 1, none⟩ (.int .u8 0)) w.heap.size 51 #[.int .u16 0, .int .u8 0, .int .u8 0, .int .u32 0, .int .u32 0, .int .u32 0, .int .u16 0, .slice none 0 0, .slice none 0 0]) := E1.out.set 1 _
    have E3 : Hid (RowAt ((((w1).setCell ⟨w.heap.size, 0, none⟩ (.int .u16 0)).setCell ⟨w.heap.size, 1, none⟩ (.int .u8 0)).setCell ⟨w.heap.size, 2, none⟩ (.int .u8 0)) w.heap.size 51 #[.int .u16 0, .int .u8 0, .int .u8 0, .int .u32 0, .int .u32 0, .int .u32 0, .int .u16 0, .slice none 0 0, .slice none 0 0]) := E2.out.set 2 _
    have E4 : Hid (RowAt (((((w1).setCell ⟨w.heap.size, 0, none⟩ (.int .u16 0)).setCell ⟨w.heap.size, 1, none⟩ (.int .u8 0)).setCell ⟨w.heap.size, 2, none⟩ (.int .u8 0)).setCell ⟨w.heap.size, 3, none⟩ (.int .u32 0)) w.heap.size 51 #[.int .u16 0, .int .u8 0, .int .u8 0, .int .u32 0, .int .u32 0, .int .u32 0, .int .u16 0, .slice none 0 0, .slice none 0 0]) := E3.out.set 3 _
    have E5 : Hid (RowAt ((((((w1).setCell ⟨w.heap.size, 0, none⟩ (.int .u16 0)).setCell ⟨w.heap.size, 1, none⟩ (.int .u8 0)).setCell ⟨w.heap.size, 2, none⟩ (.int .u8 0)).setCell ⟨w.heap.size, 3, none⟩ (.int .u32 0)).setCell ⟨w.heap.size, 4, none⟩ (.int .u32 0)) w.heap.size 51 #[.int .u16 0, .int .u8 0, .int .u8 0, .int .u32 0, .int .u32 0, .int .u32 0, .int .u16 0, .slice none 0 0, .slice none 0 0]) := E4.out.set 4 _
    have E6 : Hid (RowAt (((((((w1).setCell ⟨w.heap.size, 0, none⟩ (.int .u16 0)).setCell ⟨w.heap.size, 1, none⟩ (.int .u8 0)).setCell ⟨w.heap.size, 2, none⟩ (.int .u8 0)).setCell ⟨w.heap.size, 3, none⟩ (.int .u32 0)).setCell ⟨w.heap.size, 4, none⟩ (.int .u32 0)).setCell ⟨w.heap.size, 5, none⟩ (.int .u32 0)) w.heap.size 51 #[.int .u16 0, .int .u8 0, .int .u8 0, .int .u32 0, .int .u32 0, .int .u32 0, .int .u16 0, .slice none 0 0, .slice none 0 0]) := E5.out.set 5 _
    have E7 : Hid (RowAt ((((((((w1).setCell ⟨w.heap.size, 0, none⟩ (.int .u16 0)).setCell ⟨w.heap.size, 1, none⟩ (.int .u8 0)).setCell ⟨w.heap.size, 2, none⟩ (.int .u8 0)).setCell ⟨w.heap.size, 3, none⟩ (.int .u32 0)).setCell ⟨w.heap.size, 4, none⟩ (.int .u32 0)).setCell ⟨w.heap.size, 5, none⟩ (.int .u32 0)).setCell ⟨w.heap.size, 6, none⟩ (.int .u16 0)) w.heap.size 51 #[.int .u16 0, .int .u8 0, .int .u8 0, .int .u32 0, .int .u32 0, .int .u32 0, .int .u16 0, .slice none 0 0, .slice none 0 0]) := E6.out.set 6 _
    have E8 : Hid (RowAt (((((((((w1).setCell ⟨w.heap.size, 0, none⟩ (.int .u16 0)).setCell ⟨w.heap.size, 1, none⟩ (.int .u8 0)).setCell ⟨w.heap.size, 2, none⟩ (.int .u8 0)).setCell ⟨w.heap.size, 3, none⟩ (.int .u32 0)).setCell ⟨w.heap.size, 4, none⟩ (.int .u32 0)).setCell ⟨w.heap.size, 5, none⟩ (.int .u32 0)).setCell ⟨w.heap.size, 6, none⟩ (.int .u16 0)).setCell ⟨w.heap.size, 7, none⟩ (.slice none 0 0)) w.heap.size 51 #[.int .u16 0, .int .u8 0, .int .u8 0, .int .u32 0, .int .u32 0, .int .u32 0, .int .u16 0, .slice none 0 0, .slice none 0 0]) := E7.out.set 7 _
    have E9 : Hid (RowAt ((((((((((w1).setCell ⟨w.heap.size, 0, none⟩ (.int .u16 0)).setCell ⟨w.heap.size, 1, none⟩ (.int .u8 0)).setCell ⟨w.heap.size, 2, none⟩ (.int .u8 0)).setCell ⟨w.heap.size, 3, none⟩ (.int .u32 0)).setCell ⟨w.heap.size, 4, none⟩ (.int .u32 0)).setCell ⟨w.heap.size, 5, none⟩ (.int .u32 0)).setCell ⟨w.heap.size, 6, none⟩ (.int .u16 0)).setCell ⟨w.heap.size, 7, none⟩ (.slice none 0 0)).setCell ⟨w.heap.size, 8, none⟩ (.slice none 0 0)) w.heap.size 51 #[.int .u16 0, .int .u8 0, .int .u8 0, .int .u32 0, .int .u32 0, .int .u32 0, .int .u16 0, .slice none 0 0, .slice none 0 0]) := E8.out.set 8 _
    have HU : Hid (Upd w.heap.size w1 (((((((((((w1).setCell ⟨w.heap.size, 0, none⟩ (.int .u16 0)).setCell ⟨w.heap.size, 1, none⟩ (.int .u8 0)).setCell ⟨w.heap.size, 2, none⟩ (.int .u8 0)).setCell ⟨w.heap.size, 3, none⟩ (.int .u32 0)).setCell ⟨w.heap.size, 4, none⟩ (.int .u32 0)).setCell ⟨w.heap.size, 5, none⟩ (.int .u32 0)).setCell ⟨w.heap.size, 6, none⟩ (.int .u16 0)).setCell ⟨w.heap.size, 7, none⟩ (.slice none 0 0)).setCell ⟨w.heap.size, 8, none⟩ (.slice none 0 0)))) := ((((((((((Upd.refl w.heap.size w1).set 0 (.int .u16 0)).set 1 (.int .u8 0)).set 2 (.int .u8 0)).set 3 (.int .u32 0)).set 4 (.int .u32 0)).set 5 (.int .u32 0)).set 6 (.int .u16 0)).set 7 (.slice none 0 0)).set 8 (.slice none 0 0))
    have HE : Hid (RowAt (((((((((((w1).setCell ⟨w.heap.size, 0, none⟩ (.int .u16 0)).setCell ⟨w.heap.size, 1, none⟩ (.int .u8 0)).setCell ⟨w.heap.size, 2, none⟩ (.int .u8 0)).setCell ⟨w.heap.size, 3, none⟩ (.int .u32 0)).setCell ⟨w.heap.size, 4, none⟩ (.int .u32 0)).setCell ⟨w.heap.size, 5, none⟩ (.int .u32 0)).setCell ⟨w.heap.size, 6, none⟩ (.int .u16 0)).setCell ⟨w.heap.size, 7, none⟩ (.slice none 0 0)).setCell ⟨w.heap.size, 8, none⟩ (.slice none 0 0))) w.heap.size 51 #[.int .u16 0, .int .u8 0, .int .u8 0, .int .u32 0, .int .u32 0, .int .u32 0, .int .u16 0, .slice none 0 0, .slice none 0 0]) := E9.out
    clear E0 E1 E2 E3 E4 E5 E6 E7 E8 E9
    go_wp2
    generalize ((((((((((w1).setCell ⟨w.heap.size, 0, none⟩ (.int .u16 0)).setCell ⟨w.heap.size, 1, none⟩ (.int .u8 0)).setCell ⟨w.heap.size, 2, none⟩ (.int .u8 0)).setCell ⟨w.heap.size, 3, none⟩ (.int .u32 0)).setCell ⟨w.heap.size, 4, none⟩ (.int .u32 0)).setCell ⟨w.heap.size, 5, none⟩ (.int .u32 0)).setCell ⟨w.heap.size, 6, none⟩ (.int .u16 0)).setCell ⟨w.heap.size, 7, none⟩ (.slice none 0 0)).setCell ⟨w.heap.size, 8, none⟩ (.slice none 0 0)) = F at HE HU ⊢
    have q0 : F.cell? ⟨w.heap.size, 0, none⟩ = some (.int .u16 0) := HE.out.cell 0
    have q1 : F.cell? ⟨w.heap.size, 1, none⟩ = some (.int .u8 0) := HE.out.cell 1
    have q2 : F.cell? ⟨w.heap.size, 2, none⟩ = some (.int .u8 0) := HE.out.cell 2
    have q3 : F.cell? ⟨w.heap.size, 3, none⟩ = some (.int .u32 0) := HE.out.cell 3
    have q4 : F.cell? ⟨w.heap.size, 4, none⟩ = some (.int .u32 0) := HE.out.cell 4
    have q5 : F.cell? ⟨w.heap.size, 5, none⟩ = some (.int .u32 0) := HE.out.cell 5
    have q6 : F.cell? ⟨w.heap.size, 6, none⟩ = some (.int .u16 0) := HE.out.cell 6
    have q7 : F.cell? ⟨w.heap.size, 7, none⟩ = some (.slice none 0 0) := HE.out.cell 7
    have q8 : F.cell? ⟨w.heap.size, 8, none⟩ = some (.slice none 0 0) := HE.out.cell 8
    simp [bodyPost, results, Try.results23, go_sem, q0, q1, q2, q3, q4, q5, q6, q7, q8]
    exact ⟨Or.inr ⟨HF.out, rfl⟩, (B1.out).trans (HU.out.below (Nat.le_refl _))⟩
  obtain ⟨_, _, hsz⟩ := N.opn_small (b.drop 18) n hn
  rw [hl0.out] at hsz
  have HF : Hid (D.full b (D.sig b) = some _) := D.full_some (by rw [hl.out]; exact h8) (HREF.out _ _ (show D.nm (b.drop 18) = some (n, (b.drop 18).drop (N.size n)) by unfold D.nm; rw [hn, Option.bind_some, if_pos hz]))
  have R1 := hide (R0.out.below hb1 (by simp))
  have B1 := hide (B0.out.trans (hb1.mono (by simp)))
  obtain ⟨an, cn, rfl, _, _, _⟩ := hO.open
  have ON := hide (OwnS.lower (base' := w.heap.size) hO (by simp))
  rw [List.drop_drop] at HF
  obtain ⟨K, hK⟩ : ∃ K, 18 + N.size n = K := ⟨_, rfl⟩
  rw [hK] at HF
  have hKl : K ≤ len := by omega
  have hK2 : IntKind.i64.wrap (18 + (N.size n : Int)) = (K : Int) := by rw [IntKind.wrap_i64]; omega
  have hK3 : 18 + (N.size n : Int) = (K : Int) := by omega
  have hK4 : IntKind.i64.wrap (K : Int) = (K : Int) := wrap_nat K (by omega)
  obtain ⟨d6, t6, u6⟩ := cut_tl K HS.out hl.out hKl hc
  have S6 := hide u6
  have hl6 : Hid ((b.drop K).length = len - K) := by show _ = _; rw [List.length_drop, hl.out]
  generalize b.drop K = sg at HF S6 hl6
  have e2 : w1.cell? ⟨blk, of + 2, none⟩ = some (.int .u8 (x2 : Int)) := (B1.out.cell (p := ⟨blk, of + 2, none⟩) hblt).trans C2.out
  have e3 : w1.cell? ⟨blk, of + 3, none⟩ = some (.int .u8 (x3 : Int)) := (B1.out.cell (p := ⟨blk, of + 3, none⟩) hblt).trans C3.out
  have hbne : blk ≠ w.heap.size := by omega
  clear hn hz hO hb1 R0 B0 HREF HNO u6 HS hK hsz S0 t0
  go_wp2
  go_region_held3 (fun w' => w'.cell? ⟨blk, of + 2, none⟩ = some (.int .u8 (x2 : Int)) ∧ w'.cell? ⟨blk, of + 3, none⟩ = some (.int .u8 (x3 : Int))) ((first | (with_reducible exact ⟨m2, m3⟩) | (simp only [cell_far hbne, m2, m3, and_self]; done) | exact ⟨e2, e3⟩)) ((first
    | (refine step_fn 52 #[.tmp 22] _ rfl rfl #[.slice (some d1) 2 cap] (by go_simp) (g1 _ (by first | exact B1.out.drew | exact B4.out | exact B4.out.drew)) (by rintro e w' ⟨rfl, _⟩; exact ⟨_, rfl⟩) ?_; rintro v w' ⟨he, rfl⟩; cases he)
    | (refine step_fn 52 #[.tmp 32] _ rfl rfl #[.slice (some d2) 4 (cap - 4)] (by go_simp) (g2 _ (by first | exact B1.out.drew | exact B4.out | exact B4.out.drew)) (by rintro e w' ⟨rfl, _⟩; exact ⟨_, rfl⟩) ?_; rintro v w' ⟨he, rfl⟩; cases he)
    | (refine step_fn 52 #[.tmp 35] _ rfl rfl #[.slice (some d3) 4 (cap - 8)] (by go_simp) (g3 _ (by first | exact B1.out.drew | exact B4.out | exact B4.out.drew)) (by rintro e w' ⟨rfl, _⟩; exact ⟨_, rfl⟩) ?_; rintro v w' ⟨he, rfl⟩; cases he)
    | (refine step_fn 52 #[.tmp 38] _ rfl rfl #[.slice (some d4) 4 (cap - 12)] (by go_simp) (g4 _ (by first | exact B1.out.drew | exact B4.out | exact B4.out.drew)) (by rintro e w' ⟨rfl, _⟩; exact ⟨_, rfl⟩) ?_; rintro v w' ⟨he, rfl⟩; cases he)
    | (refine step_fn 52 #[.tmp 41] _ rfl rfl #[.slice (some d5) 2 (cap - 16)] (by go_simp) (g5 _ (by first | exact B1.out.drew | exact B4.out | exact B4.out.drew)) (by rintro e w' ⟨rfl, _⟩; exact ⟨_, rfl⟩) ?_; rintro v w' ⟨he, rfl⟩; cases he)
    | (refine step_append_B rfl (.const (.slice none 0 0)) (.tmp 48) rfl w.heap.size (.slice none 0 0) [] rfl (OwnB.nil _ _) d6 (len - K) (cap - K) sg (by rfl) hl6.out (by exact S6.out.below B1.out.drew (Nat.le_refl _)) (by simp; omega) (by exact B1.out.size) ?_; intro v4 w4 hO4 hG4; obtain ⟨a4, c4, rfl, _, _, _⟩ := hO4.open; have hN4 := nil_grown hG4; have B4 := hide (B1.out.trans (hN4.mono B1.out.size)); have R4 := hide (R1.out.below hN4 R1.out.lt); have ON4 := hide (ON.out.below hN4); have m2 : w4.cell? ⟨blk, of + 2, none⟩ = some (.int .u8 (x2 : Int)) := (B4.out.cell (p := ⟨blk, of + 2, none⟩) hblt).trans C2.out; have m3 : w4.cell? ⟨blk, of + 3, none⟩ = some (.int .u8 (x3 : Int)) := (B4.out.cell (p := ⟨blk, of + 3, none⟩) hblt).trans C3.out; have O4 := hide hO4; obtain ⟨k0, k1, k2, k3, k4, k5, k6, k7, k8, f0, f1, f2, f3, f4, f5, f6, f7, f8⟩ := row_facts9 R4.out; clear hO4 hG4 hN4)))
  all_goals
    have E0 := hide R4.out
    have E1 : Hid (RowAt ((w4).setCell ⟨w.heap.size, 0, none⟩ (.int .u16 (y1 : Int))) w.heap.size 51 #[.int .u16 (y1 : Int), .int .u8 0, .int .u8 0, .int .u32 0, .int .u32 0, .int .u32 0, .int .u16 0, .slice none 0 0, .slice none 0 0]) := E0.out.set 0 _
    have E2 : Hid (RowAt (((w4).setCell ⟨w.heap.size, 0, none⟩ (.int .u16 (y1 : Int))).setCell ⟨w.heap.size, 1, none⟩ (.int .u8 (x2 : Int))) w.heap.size 51 #[.int .u16 (y1 : Int), .int .u8 (x2 : Int), .int .u8 0, .int .u32 0, .int .u32 0, .int .u32 0, .int .u16 0, .slice none 0 0, .slice none 0 0]) := E1.out.set 1 _
    have E3 : Hid (RowAt ((((w4).setCell ⟨w.heap.size, 0, none⟩ (.int .u16 (y1 : Int))).setCell ⟨w.heap.size, 1, none⟩ (.int .u8 (x2 : Int))).setCell ⟨w.heap.size, 2, none⟩ (.int .u8 (x3 : Int))) w.heap.size 51 #[.int .u16 (y1 : Int), .int .u8 (x2 : Int), .int .u8 (x3 : Int), .int .u32 0, .int .u32 0, .int .u32 0, .int .u16 0, .slice none 0 0, .slice none 0 0]) := E2.out.set 2 _
    have E4 : Hid (RowAt (((((w4).setCell ⟨w.heap.size, 0, none⟩ (.int .u16 (y1 : Int))).setCell ⟨w.heap.size, 1, none⟩ (.int .u8 (x2 : Int))).setCell ⟨w.heap.size, 2, none⟩ (.int .u8 (x3 : Int))).setCell ⟨w.heap.size, 3, none⟩ (.int .u32 (y2 : Int))) w.heap.size 51 #[.int .u16 (y1 : Int), .int .u8 (x2 : Int), .int .u8 (x3 : Int), .int .u32 (y2 : Int), .int .u32 0, .int .u32 0, .int .u16 0, .slice none 0 0, .slice none 0 0]) := E3.out.set 3 _
    have E5 : Hid (RowAt ((((((w4).setCell ⟨w.heap.size, 0, none⟩ (.int .u16 (y1 : Int))).setCell ⟨w.heap.size, 1, none⟩ (.int .u8 (x2 : Int))).setCell ⟨w.heap.size, 2, none⟩ (.int .u8 (x3 : Int))).setCell ⟨w.heap.size, 3, none⟩ (.int .u32 (y2 : Int))).setCell ⟨w.heap.size, 4, none⟩ (.int .u32 (y3 : Int))) w.heap.size 51 #[.int .u16 (y1 : Int), .int .u8 (x2 : Int), .int .u8 (x3 : Int), .int .u32 (y2 : Int), .int .u32 (y3 : Int), .int .u32 0, .int .u16 0, .slice none 0 0, .slice none 0 0]) := E4.out.set 4 _
    have E6 : Hid (RowAt (((((((w4).setCell ⟨w.heap.size, 0, none⟩ (.int .u16 (y1 : Int))).setCell ⟨w.heap.size, 1, none⟩ (.int .u8 (x2 : Int))).setCell ⟨w.heap.size, 2, none⟩ (.int .u8 (x3 : Int))).setCell ⟨w.heap.size, 3, none⟩ (.int .u32 (y2 : Int))).setCell ⟨w.heap.size, 4, none⟩ (.int .u32 (y3 : Int))).setCell ⟨w.heap.size, 5, none⟩ (.int .u32 (y4 : Int))) w.heap.size 51 #[.int .u16 (y1 : Int), .int .u8 (x2 : Int), .int .u8 (x3 : Int), .int .u32 (y2 : Int), .int .u32 (y3 : Int), .int .u32 (y4 : Int), .int .u16 0, .slice none 0 0, .slice none 0 0]) := E5.out.set 5 _
    have E7 : Hid (RowAt ((((((((w4).setCell ⟨w.heap.size, 0, none⟩ (.int .u16 (y1 : Int))).setCell ⟨w.heap.size, 1, none⟩ (.int .u8 (x2 : Int))).setCell ⟨w.heap.size, 2, none⟩ (.int .u8 (x3 : Int))).setCell ⟨w.heap.size, 3, none⟩ (.int .u32 (y2 : Int))).setCell ⟨w.heap.size, 4, none⟩ (.int .u32 (y3 : Int))).setCell ⟨w.heap.size, 5, none⟩ (.int .u32 (y4 : Int))).setCell ⟨w.heap.size, 6, none⟩ (.int .u16 (y5 : Int))) w.heap.size 51 #[.int .u16 (y1 : Int), .int .u8 (x2 : Int), .int .u8 (x3 : Int), .int .u32 (y2 : Int), .int .u32 (y3 : Int), .int .u32 (y4 : Int), .int .u16 (y5 : Int), .slice none 0 0, .slice none 0 0]) := E6.out.set 6 _
    have E8 : Hid (RowAt (((((((((w4).setCell ⟨w.heap.size, 0, none⟩ (.int .u16 (y1 : Int))).setCell ⟨w.heap.size, 1, none⟩ (.int .u8 (x2 : Int))).setCell ⟨w.heap.size, 2, none⟩ (.int .u8 (x3 : Int))).setCell ⟨w.heap.size, 3, none⟩ (.int .u32 (y2 : Int))).setCell ⟨w.heap.size, 4, none⟩ (.int .u32 (y3 : Int))).setCell ⟨w.heap.size, 5, none⟩ (.int .u32 (y4 : Int))).setCell ⟨w.heap.size, 6, none⟩ (.int .u16 (y5 : Int))).setCell ⟨w.heap.size, 7, none⟩ (.slice an n.length cn)) w.heap.size 51 #[.int .u16 (y1 : Int), .int .u8 (x2 : Int), .int .u8 (x3 : Int), .int .u32 (y2 : Int), .int .u32 (y3 : Int), .int .u32 (y4 : Int), .int .u16 (y5 : Int), .slice an n.length cn, .slice none 0 0]) := E7.out.set 7 _
    have E9 : Hid (RowAt ((((((((((w4).setCell ⟨w.heap.size, 0, none⟩ (.int .u16 (y1 : Int))).setCell ⟨w.heap.size, 1, none⟩ (.int .u8 (x2 : Int))).setCell ⟨w.heap.size, 2, none⟩ (.int .u8 (x3 : Int))).setCell ⟨w.heap.size, 3, none⟩ (.int .u32 (y2 : Int))).setCell ⟨w.heap.size, 4, none⟩ (.int .u32 (y3 : Int))).setCell ⟨w.heap.size, 5, none⟩ (.int .u32 (y4 : Int))).setCell ⟨w.heap.size, 6, none⟩ (.int .u16 (y5 : Int))).setCell ⟨w.heap.size, 7, none⟩ (.slice an n.length cn)).setCell ⟨w.heap.size, 8, none⟩ (.slice a4 sg.length c4)) w.heap.size 51 #[.int .u16 (y1 : Int), .int .u8 (x2 : Int), .int .u8 (x3 : Int), .int .u32 (y2 : Int), .int .u32 (y3 : Int), .int .u32 (y4 : Int), .int .u16 (y5 : Int), .slice an n.length cn, .slice a4 sg.length c4]) := E8.out.set 8 _
    have HU : Hid (Upd w.heap.size w4 (((((((((((w4).setCell ⟨w.heap.size, 0, none⟩ (.int .u16 (y1 : Int))).setCell ⟨w.heap.size, 1, none⟩ (.int .u8 (x2 : Int))).setCell ⟨w.heap.size, 2, none⟩ (.int .u8 (x3 : Int))).setCell ⟨w.heap.size, 3, none⟩ (.int .u32 (y2 : Int))).setCell ⟨w.heap.size, 4, none⟩ (.int .u32 (y3 : Int))).setCell ⟨w.heap.size, 5, none⟩ (.int .u32 (y4 : Int))).setCell ⟨w.heap.size, 6, none⟩ (.int .u16 (y5 : Int))).setCell ⟨w.heap.size, 7, none⟩ (.slice an n.length cn)).setCell ⟨w.heap.size, 8, none⟩ (.slice a4 sg.length c4)))) := ((((((((((Upd.refl w.heap.size w4).set 0 (.int .u16 (y1 : Int))).set 1 (.int .u8 (x2 : Int))).set 2 (.int .u8 (x3 : Int))).set 3 (.int .u32 (y2 : Int))).set 4 (.int .u32 (y3 : Int))).set 5 (.int .u32 (y4 : Int))).set 6 (.int .u16 (y5 : Int))).set 7 (.slice an n.length cn)).set 8 (.slice a4 sg.length c4))
    have HE : Hid (RowAt (((((((((((w4).setCell ⟨w.heap.size, 0, none⟩ (.int .u16 (y1 : Int))).setCell ⟨w.heap.size, 1, none⟩ (.int .u8 (x2 : Int))).setCell ⟨w.heap.size, 2, none⟩ (.int .u8 (x3 : Int))).setCell ⟨w.heap.size, 3, none⟩ (.int .u32 (y2 : Int))).setCell ⟨w.heap.size, 4, none⟩ (.int .u32 (y3 : Int))).setCell ⟨w.heap.size, 5, none⟩ (.int .u32 (y4 : Int))).setCell ⟨w.heap.size, 6, none⟩ (.int .u16 (y5 : Int))).setCell ⟨w.heap.size, 7, none⟩ (.slice an n.length cn)).setCell ⟨w.heap.size, 8, none⟩ (.slice a4 sg.length c4))) w.heap.size 51 #[.int .u16 (y1 : Int), .int .u8 (x2 : Int), .int .u8 (x3 : Int), .int .u32 (y2 : Int), .int .u32 (y3 : Int), .int .u32 (y4 : Int), .int .u16 (y5 : Int), .slice an n.length cn, .slice a4 sg.length c4]) := E9.out
    clear E0 E1 E2 E3 E4 E5 E6 E7 E8 E9
    go_wp2
    generalize ((((((((((w4).setCell ⟨w.heap.size, 0, none⟩ (.int .u16 (y1 : Int))).setCell ⟨w.heap.size, 1, none⟩ (.int .u8 (x2 : Int))).setCell ⟨w.heap.size, 2, none⟩ (.int .u8 (x3 : Int))).setCell ⟨w.heap.size, 3, none⟩ (.int .u32 (y2 : Int))).setCell ⟨w.heap.size, 4, none⟩ (.int .u32 (y3 : Int))).setCell ⟨w.heap.size, 5, none⟩ (.int .u32 (y4 : Int))).setCell ⟨w.heap.size, 6, none⟩ (.int .u16 (y5 : Int))).setCell ⟨w.heap.size, 7, none⟩ (.slice an n.length cn)).setCell ⟨w.heap.size, 8, none⟩ (.slice a4 sg.length c4)) = F at HE HU ⊢
    have q0 : F.cell? ⟨w.heap.size, 0, none⟩ = some (.int .u16 (y1 : Int)) := HE.out.cell 0
    have q1 : F.cell? ⟨w.heap.size, 1, none⟩ = some (.int .u8 (x2 : Int)) := HE.out.cell 1
    have q2 : F.cell? ⟨w.heap.size, 2, none⟩ = some (.int .u8 (x3 : Int)) := HE.out.cell 2
    have q3 : F.cell? ⟨w.heap.size, 3, none⟩ = some (.int .u32 (y2 : Int)) := HE.out.cell 3
    have q4 : F.cell? ⟨w.heap.size, 4, none⟩ = some (.int .u32 (y3 : Int)) := HE.out.cell 4
    have q5 : F.cell? ⟨w.heap.size, 5, none⟩ = some (.int .u32 (y4 : Int)) := HE.out.cell 5
    have q6 : F.cell? ⟨w.heap.size, 6, none⟩ = some (.int .u16 (y5 : Int)) := HE.out.cell 6
    have q7 : F.cell? ⟨w.heap.size, 7, none⟩ = some (.slice an n.length cn) := HE.out.cell 7
    have q8 : F.cell? ⟨w.heap.size, 8, none⟩ = some (.slice a4 sg.length c4) := HE.out.cell 8
    simp [bodyPost, results, Try.results23, go_sem, q0, q1, q2, q3, q4, q5, q6, q7, q8]
    exact ⟨Or.inl ⟨_, _, HF.out, rfl, ⟨_, _, _, _, rfl, HU.out.own R4.out (by decide) ON4.out, HU.out.own R4.out (by decide) O4.out⟩⟩, (B4.out).trans (HU.out.below (Nat.le_refl _))⟩
end Go.Proofs.Ytagopkmehlpjpaa
