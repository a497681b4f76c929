/- signetref3.Soa. -/
import Derived.Test.YtagopkmehlpjpaaRefL
import Derived.Deep.RegionHeld3
namespace Go.Proofs.Ytagopkmehlpjpaa
open Go.RowKit
set_option maxHeartbeats 3200000 in
set_option maxRecDepth 5000 in
theorem sSoa_any (b : List UInt8) (ao : Option Addr) (len cap : Nat) (w : World) (hl : Hid (b.length = len)) (hs : SlL w ao b) (hc : len ≤ cap) (hnil : ao = none → cap = 0) (h8 : len ≤ 8192) :
    Calls Try.prog 19 #[.slice ao len cap] w fun e w' => Ans (D.full b (D.soa b)) SoaV (.agg #[.slice none 0 0, .slice none 0 0, .int .u32 0, .int .u32 0, .int .u32 0, .int .u32 0, .int .u32 0]) w e w' := by
  have HS := hide hs
  have NI := hide hnil
  have B0 := hide ((Below.refl w.heap.size w).alloc (Nat.le_refl _) (.cells #[.slice none 0 0, .slice none 0 0, .int .u32 0, .int .u32 0, .int .u32 0, .int .u32 0, .int .u32 0] 43))
  have R0 := hide (RowAt.new w 43 #[.slice none 0 0, .slice none 0 0, .int .u32 0, .int .u32 0, .int .u32 0, .int .u32 0, .int .u32 0])
  clear hs hnil
  go_enter Try.func19, Try.ntmps19
  go_wp2_with fail
  refine (rOpen_any b ao len cap _ hl (by exact HS.out.alloc _) (by omega) hc).mono ?_
  rintro e w1 ⟨⟨n, v, hn, hz, rfl, hO⟩ | ⟨hn, rfl⟩ | ⟨n, hn, hz, rfl⟩, hb1⟩
  rotate_left
  · have HF : Hid (D.full b (D.soa b) = none) := D.soa_no1 (by unfold D.nm; rw [hn]; rfl)
    have R1 := hide (R0.out.below hb1 (by simp))
    have B1 := hide (B0.out.trans (hb1.mono (by simp)))
    clear hn hb1 R0 B0
    have k0 : w1.cell? ⟨w.heap.size, 0, none⟩ = some (.slice none 0 0) := R1.out.cell 0
    have f0 := R1.out.frozen 0
    have k1 : w1.cell? ⟨w.heap.size, 1, none⟩ = some (.slice none 0 0) := R1.out.cell 1
    have f1 := R1.out.frozen 1
    have k2 : w1.cell? ⟨w.heap.size, 2, none⟩ = some (.int .u32 0) := R1.out.cell 2
    have f2 := R1.out.frozen 2
    have k3 : w1.cell? ⟨w.heap.size, 3, none⟩ = some (.int .u32 0) := R1.out.cell 3
    have f3 := R1.out.frozen 3
    have k4 : w1.cell? ⟨w.heap.size, 4, none⟩ = some (.int .u32 0) := R1.out.cell 4
    have f4 := R1.out.frozen 4
    have k5 : w1.cell? ⟨w.heap.size, 5, none⟩ = some (.int .u32 0) := R1.out.cell 5
    have f5 := R1.out.frozen 5
    have k6 : w1.cell? ⟨w.heap.size, 6, none⟩ = some (.int .u32 0) := R1.out.cell 6
    have f6 := R1.out.frozen 6
    have E0 := hide R1.out
    have E1 : Hid (RowAt ((w1).setCell ⟨w.heap.size, 0, none⟩ (.slice none 0 0)) w.heap.size 43 #[.slice none 0 0, .slice none 0 0, .int .u32 0, .int .u32 0, .int .u32 0, .int .u32 0, .int .u32 0]) := E0.out.set 0 _
    have E2 : Hid (RowAt (((w1).setCell ⟨w.heap.size, 0, none⟩ (.slice none 0 0)).setCell ⟨w.heap.size, 1, none⟩ (.slice none 0 0)) w.heap.size 43 #[.slice none 0 0, .slice none 0 0, .int .u32 0, .int .u32 0, .int .u32 0, .int .u32 0, .int .u32 0]) := E1.out.set 1 _
    have E3 : Hid (RowAt ((((w1).setCell ⟨w.heap.size, 0, none⟩ (.slice none 0 0)).setCell ⟨w.heap.size, 1, none⟩ (.slice none 0 0)).setCell ⟨w.heap.size, 2, none⟩ (.int .u32 0)) w.heap.size 43 #[.slice none 0 0, .slice none 0 0, .int .u32 0, .int .u32 0, .int .u32 0, .int .u32 0, .int .u32 0]) := E2.out.set 2 _
    have E4 : Hid (RowAt (((((w1).setCell ⟨w.heap.size, 0, none⟩ (.slice none 0 0)).setCell ⟨w.heap.size, 1, none⟩ (.slice none 0 0)).setCell ⟨w.heap.size, 2, none⟩ (.int .u32 0)).setCell ⟨w.heap.size, 3, none⟩ (.int .u32 0)) w.heap.size 43 #[.slice none 0 0, .slice none 0 0, .int .u32 0, .int .u32 0, .int .u32 0, .int .u32 0, .int .u32 0]) := E3.out.set 3 _
    have E5 : Hid (RowAt ((((((w1).setCell ⟨w.heap.size, 0, none⟩ (.slice none 0 0)).setCell ⟨w.heap.size, 1, none⟩ (.slice none 0 0)).setCell ⟨w.heap.size, 2, none⟩ (.int .u32 0)).setCell ⟨w.heap.size, 3, none⟩ (.int .u32 0)).setCell ⟨w.heap.size, 4, none⟩ (.int .u32 0)) w.heap.size 43 #[.slice none 0 0, .slice none 0 0, .int .u32 0, .int .u32 0, .int .u32 0, .int .u32 0, .int .u32 0]) := E4.out.set 4 _
    have E6 : Hid (RowAt (((((((w1).setCell ⟨w.heap.size, 0, none⟩ (.slice none 0 0)).setCell ⟨w.heap.size, 1, none⟩ (.slice none 0 0)).setCell ⟨w.heap.size, 2, none⟩ (.int .u32 0)).setCell ⟨w.heap.size, 3, none⟩ (.int .u32 0)).setCell ⟨w.heap.size, 4, none⟩ (.int .u32 0)).setCell ⟨w.heap.size, 5, none⟩ (.int .u32 0)) w.heap.size 43 #[.slice none 0 0, .slice none 0 0, .int .u32 0, .int .u32 0, .int .u32 0, .int .u32 0, .int .u32 0]) := E5.out.set 5 _
    have E7 : Hid (RowAt ((((((((w1).setCell ⟨w.heap.size, 0, none⟩ (.slice none 0 0)).setCell ⟨w.heap.size, 1, none⟩ (.slice none 0 0)).setCell ⟨w.heap.size, 2, none⟩ (.int .u32 0)).setCell ⟨w.heap.size, 3, none⟩ (.int .u32 0)).setCell ⟨w.heap.size, 4, none⟩ (.int .u32 0)).setCell ⟨w.heap.size, 5, none⟩ (.int .u32 0)).setCell ⟨w.heap.size, 6, none⟩ (.int .u32 0)) w.heap.size 43 #[.slice none 0 0, .slice none 0 0, .int .u32 0, .int .u32 0, .int .u32 0, .int .u32 0, .int .u32 0]) := E6.out.set 6 _
    have HU : Hid (Upd w.heap.size w1 (((((((((w1).setCell ⟨w.heap.size, 0, none⟩ (.slice none 0 0)).setCell ⟨w.heap.size, 1, none⟩ (.slice none 0 0)).setCell ⟨w.heap.size, 2, none⟩ (.int .u32 0)).setCell ⟨w.heap.size, 3, none⟩ (.int .u32 0)).setCell ⟨w.heap.size, 4, none⟩ (.int .u32 0)).setCell ⟨w.heap.size, 5, none⟩ (.int .u32 0)).setCell ⟨w.heap.size, 6, none⟩ (.int .u32 0)))) := ((((((((Upd.refl w.heap.size w1).set 0 (.slice none 0 0)).set 1 (.slice none 0 0)).set 2 (.int .u32 0)).set 3 (.int .u32 0)).set 4 (.int .u32 0)).set 5 (.int .u32 0)).set 6 (.int .u32 0))
    have HE : Hid (RowAt (((((((((w1).setCell ⟨w.heap.size, 0, none⟩ (.slice none 0 0)).setCell ⟨w.heap.size, 1, none⟩ (.slice none 0 0)).setCell ⟨w.heap.size, 2, none⟩ (.int .u32 0)).setCell ⟨w.heap.size, 3, none⟩ (.int .u32 0)).setCell ⟨w.heap.size, 4, none⟩ (.int .u32 0)).setCell ⟨w.heap.size, 5, none⟩ (.int .u32 0)).setCell ⟨w.heap.size, 6, none⟩ (.int .u32 0))) w.heap.size 43 #[.slice none 0 0, .slice none 0 0, .int .u32 0, .int .u32 0, .int .u32 0, .int .u32 0, .int .u32 0]) := E7.out
    clear E0 E1 E2 E3 E4 E5 E6 E7
    go_wp2
    generalize ((((((((w1).setCell ⟨w.heap.size, 0, none⟩ (.slice none 0 0)).setCell ⟨w.heap.size, 1, none⟩ (.slice none 0 0)).setCell ⟨w.heap.size, 2, none⟩ (.int .u32 0)).setCell ⟨w.heap.size, 3, none⟩ (.int .u32 0)).setCell ⟨w.heap.size, 4, none⟩ (.int .u32 0)).setCell ⟨w.heap.size, 5, none⟩ (.int .u32 0)).setCell ⟨w.heap.size, 6, none⟩ (.int .u32 0)) = F at HE HU ⊢
    have q0 : F.cell? ⟨w.heap.size, 0, none⟩ = some (.slice none 0 0) := HE.out.cell 0
    have q1 : F.cell? ⟨w.heap.size, 1, none⟩ = some (.slice none 0 0) := HE.out.cell 1
    have q2 : F.cell? ⟨w.heap.size, 2, none⟩ = some (.int .u32 0) := HE.out.cell 2
    have q3 : F.cell? ⟨w.heap.size, 3, none⟩ = some (.int .u32 0) := HE.out.cell 3
    have q4 : F.cell? ⟨w.heap.size, 4, none⟩ = some (.int .u32 0) := HE.out.cell 4
    have q5 : F.cell? ⟨w.heap.size, 5, none⟩ = some (.int .u32 0) := HE.out.cell 5
    have q6 : F.cell? ⟨w.heap.size, 6, none⟩ = some (.int .u32 0) := HE.out.cell 6
    simp [bodyPost, results, Try.results19, go_sem, q0, q1, q2, q3, q4, q5, q6]
    exact ⟨Or.inr ⟨HF.out, rfl⟩, (B1.out).trans (HU.out.below (Nat.le_refl _))⟩
  · have HF : Hid (D.full b (D.soa b) = none) := D.soa_no1 (by unfold D.nm; rw [hn, Option.bind_some, if_neg (by omega)])
    have R1 := hide (R0.out.below hb1 (by simp))
    have B1 := hide (B0.out.trans (hb1.mono (by simp)))
    clear hn hb1 R0 B0
    have k0 : w1.cell? ⟨w.heap.size, 0, none⟩ = some (.slice none 0 0) := R1.out.cell 0
    have f0 := R1.out.frozen 0
    have k1 : w1.cell? ⟨w.heap.size, 1, none⟩ = some (.slice none 0 0) := R1.out.cell 1
    have f1 := R1.out.frozen 1
    have k2 : w1.cell? ⟨w.heap.size, 2, none⟩ = some (.int .u32 0) := R1.out.cell 2
    have f2 := R1.out.frozen 2
    have k3 : w1.cell? ⟨w.heap.size, 3, none⟩ = some (.int .u32 0) := R1.out.cell 3
    have f3 := R1.out.frozen 3
    have k4 : w1.cell? ⟨w.heap.size, 4, none⟩ = some (.int .u32 0) := R1.out.cell 4
    have f4 := R1.out.frozen 4
    have k5 : w1.cell? ⟨w.heap.size, 5, none⟩ = some (.int .u32 0) := R1.out.cell 5
    have f5 := R1.out.frozen 5
    have k6 : w1.cell? ⟨w.heap.size, 6, none⟩ = some (.int .u32 0) := R1.out.cell 6
    have f6 := R1.out.frozen 6
    have E0 := hide R1.out
    have E1 : Hid (RowAt ((w1).setCell ⟨w.heap.size, 0, none⟩ (.slice none 0 0)) w.heap.size 43 #[.slice none 0 0, .slice none 0 0, .int .u32 0, .int .u32 0, .int .u32 0, .int .u32 0, .int .u32 0]) := E0.out.set 0 _
    have E2 : Hid (RowAt (((w1).setCell ⟨w.heap.size, 0, none⟩ (.slice none 0 0)).setCell ⟨w.heap.size, 1, none⟩ (.slice none 0 0)) w.heap.size 43 #[.slice none 0 0, .slice none 0 0, .int .u32 0, .int .u32 0, .int .u32 0, .int .u32 0, .int .u32 0]) := E1.out.set 1 _
    have E3 : Hid (RowAt ((((w1).setCell ⟨w.heap.size, 0, none⟩ (.slice none 0 0)).setCell ⟨w.heap.size, 1, none⟩ (.slice none 0 0)).setCell ⟨w.heap.size, 2, none⟩ (.int .u32 0)) w.heap.size 43 #[.slice none 0 0, .slice none 0 0, .int .u32 0, .int .u32 0, .int .u32 0, .int .u32 0, .int .u32 0]) := E2.out.set 2 _
    have E4 : Hid (RowAt (((((w1).setCell ⟨w.heap.size, 0, none⟩ (.slice none 0 0)).setCell ⟨w.heap.size, 1, none⟩ (.slice none 0 0)).setCell ⟨w.heap.size, 2, none⟩ (.int .u32 0)).setCell ⟨w.heap.size, 3, none⟩ (.int .u32 0)) w.heap.size 43 #[.slice none 0 0, .slice none 0 0, .int .u32 0, .int .u32 0, .int .u32 0, .int .u32 0, .int .u32 0]) := E3.out.set 3 _
    have E5 : Hid (RowAt ((((((w1).setCell ⟨w.heap.size, 0, none⟩ (.slice none 0 0)).setCell ⟨w.heap.size, 1, none⟩ (.slice none 0 0)).setCell ⟨w.heap.size, 2, none⟩ (.int .u32 0)).setCell ⟨w.heap.size, 3, none⟩ (.int .u32 0)).setCell ⟨w.heap.size, 4, none⟩ (.int .u32 0)) w.heap.size 43 #[.slice none 0 0, .slice none 0 0, .int .u32 0, .int .u32 0, .int .u32 0, .int .u32 0, .int .u32 0]) := E4.out.set 4 _
    have E6 : Hid (RowAt (((((((w1).setCell ⟨w.heap.size, 0, none⟩ (.slice none 0 0)).setCell ⟨w.heap.size, 1, none⟩ (.slice none 0 0)).setCell ⟨w.heap.size, 2, none⟩ (.int .u32 0)).setCell ⟨w.heap.size, 3, none⟩ (.int .u32 0)).setCell ⟨w.heap.size, 4, none⟩ (.int .u32 0)).setCell ⟨w.heap.size, 5, none⟩ (.int .u32 0)) w.heap.size 43 #[.slice none 0 0, .slice none 0 0, .int .u32 0, .int .u32 0, .int .u32 0, .int .u32 0, .int .u32 0]) := E5.out.set 5 _
    have E7 : Hid (RowAt ((((((((w1).setCell ⟨w.heap.size, 0, none⟩ (.slice none 0 0)).setCell ⟨w.heap.size, 1, none⟩ (.slice none 0 0)).setCell ⟨w.heap.size, 2, none⟩ (.int .u32 0)).setCell ⟨w.heap.size, 3, none⟩ (.int .u32 0)).setCell ⟨w.heap.size, 4, none⟩ (.int .u32 0)).setCell ⟨w.heap.size, 5, none⟩ (.int .u32 0)).setCell ⟨w.heap.size, 6, none⟩ (.int .u32 0)) w.heap.size 43 #[.slice none 0 0, .slice none 0 0, .int .u32 0, .int .u32 0, .int .u32 0, .int .u32 0, .int .u32 0]) := E6.out.set 6 _
    have HU : Hid (Upd w.heap.size w1 (((((((((w1).setCell ⟨w.heap.size, 0, none⟩ (.slice none 0 0)).setCell ⟨w.heap.size, 1, none⟩ (.slice none 0 0)).setCell ⟨w.heap.size, 2, none⟩ (.int .u32 0)).setCell ⟨w.heap.size, 3, none⟩ (.int .u32 0)).setCell ⟨w.heap.size, 4, none⟩ (.int .u32 0)).setCell ⟨w.heap.size, 5, none⟩ (.int .u32 0)).setCell ⟨w.heap.size, 6, none⟩ (.int .u32 0)))) := ((((((((Upd.refl w.heap.size w1).set 0 (.slice none 0 0)).set 1 (.slice none 0 0)).set 2 (.int .u32 0)).set 3 (.int .u32 0)).set 4 (.int .u32 0)).set 5 (.int .u32 0)).set 6 (.int .u32 0))
    have HE : Hid (RowAt (((((((((w1).setCell ⟨w.heap.size, 0, none⟩ (.slice none 0 0)).setCell ⟨w.heap.size, 1, none⟩ (.slice none 0 0)).setCell ⟨w.heap.size, 2, none⟩ (.int .u32 0)).setCell ⟨w.heap.size, 3, none⟩ (.int .u32 0)).setCell ⟨w.heap.size, 4, none⟩ (.int .u32 0)).setCell ⟨w.heap.size, 5, none⟩ (.int .u32 0)).setCell ⟨w.heap.size, 6, none⟩ (.int .u32 0))) w.heap.size 43 #[.slice none 0 0, .slice none 0 0, .int .u32 0, .int .u32 0, .int .u32 0, .int .u32 0, .int .u32 0]) := E7.out
    clear E0 E1 E2 E3 E4 E5 E6 E7
    go_wp2
    generalize ((((((((w1).setCell ⟨w.heap.size, 0, none⟩ (.slice none 0 0)).setCell ⟨w.heap.size, 1, none⟩ (.slice none 0 0)).setCell ⟨w.heap.size, 2, none⟩ (.int .u32 0)).setCell ⟨w.heap.size, 3, none⟩ (.int .u32 0)).setCell ⟨w.heap.size, 4, none⟩ (.int .u32 0)).setCell ⟨w.heap.size, 5, none⟩ (.int .u32 0)).setCell ⟨w.heap.size, 6, none⟩ (.int .u32 0)) = F at HE HU ⊢
    have q0 : F.cell? ⟨w.heap.size, 0, none⟩ = some (.slice none 0 0) := HE.out.cell 0
    have q1 : F.cell? ⟨w.heap.size, 1, none⟩ = some (.slice none 0 0) := HE.out.cell 1
    have q2 : F.cell? ⟨w.heap.size, 2, none⟩ = some (.int .u32 0) := HE.out.cell 2
    have q3 : F.cell? ⟨w.heap.size, 3, none⟩ = some (.int .u32 0) := HE.out.cell 3
    have q4 : F.cell? ⟨w.heap.size, 4, none⟩ = some (.int .u32 0) := HE.out.cell 4
    have q5 : F.cell? ⟨w.heap.size, 5, none⟩ = some (.int .u32 0) := HE.out.cell 5
    have q6 : F.cell? ⟨w.heap.size, 6, none⟩ = some (.int .u32 0) := HE.out.cell 6
    simp [bodyPost, results, Try.results19, go_sem, q0, q1, q2, q3, q4, q5, q6]
    exact ⟨Or.inr ⟨HF.out, rfl⟩, (B1.out).trans (HU.out.below (Nat.le_refl _))⟩
  obtain ⟨_, _, hsz⟩ := N.opn_small b n hn
  have H1 : Hid (D.nm b = some (n, b.drop (N.size n))) := by show _ = _; unfold D.nm; rw [hn, Option.bind_some, if_pos hz]
  have R1 := hide (R0.out.below hb1 (by simp))
  have B1 := hide (B0.out.trans (hb1.mono (by simp)))
  obtain ⟨an, cn, rfl, _, _, _⟩ := hO.open
  have ON := hide (OwnS.lower (base' := w.heap.size) hO (by simp))
  have hszl : N.size n ≤ len := by rw [← hl.out]; exact hsz
  have hlen := hl.out
  have hsB : SlB w.heap.size w ao b := HS.out.slB
  obtain ⟨a2, r2, s2, n2⟩ := slice_tl (N.size n) hsB hsz (by rw [hlen]; exact hc) NI.out
  rw [hlen] at r2
  have S2 := hide s2
  have hl2 : Hid ((b.drop (N.size n)).length = len - N.size n) := by show _ = _; rw [List.length_drop, hlen]
  obtain ⟨i, hi⟩ : ∃ i, N.size n = i := ⟨_, rfl⟩
  rw [hi] at r2 S2 hl2 H1 hszl n2 ⊢
  clear hn hz hO hb1 R0 B0 s2 hsz hsB hlen hi
  go_wp2_with fail
  refine (rOpen_any (b.drop i) a2 (len - i) (cap - i) _ hl2 (by exact (S2.out.below B1.out).sl B1.out.size) (by omega) (by omega)).mono ?_
  rintro e w2 ⟨⟨x, v, hn, hz, rfl, hO⟩ | ⟨hn, rfl⟩ | ⟨x, hn, hz, rfl⟩, hb2⟩
  rotate_left
  · have HF : Hid (D.full b (D.soa b) = none) := D.soa_no2 H1.out (by unfold D.nm; rw [hn]; rfl)
    have R2 := hide (R1.out.below hb2 R1.out.lt)
    have B2 := hide (B1.out.trans (hb2.mono B1.out.size))
    clear hn hb2 R1 B1
    have k0 : w2.cell? ⟨w.heap.size, 0, none⟩ = some (.slice none 0 0) := R2.out.cell 0
    have f0 := R2.out.frozen 0
    have k1 : w2.cell? ⟨w.heap.size, 1, none⟩ = some (.slice none 0 0) := R2.out.cell 1
    have f1 := R2.out.frozen 1
    have k2 : w2.cell? ⟨w.heap.size, 2, none⟩ = some (.int .u32 0) := R2.out.cell 2
    have f2 := R2.out.frozen 2
    have k3 : w2.cell? ⟨w.heap.size, 3, none⟩ = some (.int .u32 0) := R2.out.cell 3
    have f3 := R2.out.frozen 3
    have k4 : w2.cell? ⟨w.heap.size, 4, none⟩ = some (.int .u32 0) := R2.out.cell 4
    have f4 := R2.out.frozen 4
    have k5 : w2.cell? ⟨w.heap.size, 5, none⟩ = some (.int .u32 0) := R2.out.cell 5
    have f5 := R2.out.frozen 5
    have k6 : w2.cell? ⟨w.heap.size, 6, none⟩ = some (.int .u32 0) := R2.out.cell 6
    have f6 := R2.out.frozen 6
    have E0 := hide R2.out
    have E1 : Hid (RowAt ((w2).setCell ⟨w.heap.size, 0, none⟩ (.slice none 0 0)) w.heap.size 43 #[.slice none 0 0, .slice none 0 0, .int .u32 0, .int .u32 0, .int .u32 0, .int .u32 0, .int .u32 0]) := E0.out.set 0 _
    have E2 : Hid (RowAt (((w2).setCell ⟨w.heap.size, 0, none⟩ (.slice none 0 0)).setCell ⟨w.heap.size, 1, none⟩ (.slice none 0 0)) w.heap.size 43 #[.slice none 0 0, .slice none 0 0, .int .u32 0, .int .u32 0, .int .u32 0, .int .u32 0, .int .u32 0]) := E1.out.set 1 _
    have E3 : Hid (RowAt ((((w2).setCell ⟨w.heap.size, 0, none⟩ (.slice none 0 0)).setCell ⟨w.heap.size, 1, none⟩ (.slice none 0 0)).setCell ⟨w.heap.size, 2, none⟩ (.int .u32 0)) w.heap.size 43 #[.slice none 0 0, .slice none 0 0, .int .u32 0, .int .u32 0, .int .u32 0, .int .u32 0, .int .u32 0]) := E2.out.set 2 _
    have E4 : Hid (RowAt (((((w2).setCell ⟨w.heap.size, 0, none⟩ (.slice none 0 0)).setCell ⟨w.heap.size, 1, none⟩ (.slice none 0 0)).setCell ⟨w.heap.size, 2, none⟩ (.int .u32 0)).setCell ⟨w.heap.size, 3, none⟩ (.int .u32 0)) w.heap.size 43 #[.slice none 0 0, .slice none 0 0, .int .u32 0, .int .u32 0, .int .u32 0, .int .u32 0, .int .u32 0]) := E3.out.set 3 _
    have E5 : Hid (RowAt ((((((w2).setCell ⟨w.heap.size, 0, none⟩ (.slice none 0 0)).setCell ⟨w.heap.size, 1, none⟩ (.slice none 0 0)).setCell ⟨w.heap.size, 2, none⟩ (.int .u32 0)).setCell ⟨w.heap.size, 3, none⟩ (.int .u32 0)).setCell ⟨w.heap.size, 4, none⟩ (.int .u32 0)) w.heap.size 43 #[.slice none 0 0, .slice none 0 0, .int .u32 0, .int .u32 0, .int .u32 0, .int .u32 0, .int .u32 0]) := E4.out.set 4 _
    have E6 : Hid (RowAt (((((((w2).setCell ⟨w.heap.size, 0, none⟩ (.slice none 0 0)).setCell ⟨w.heap.size, 1, none⟩ (.slice none 0 0)).setCell ⟨w.heap.size, 2, none⟩ (.int .u32 0)).setCell ⟨w.heap.size, 3, none⟩ (.int .u32 0)).setCell ⟨w.heap.size, 4, none⟩ (.int .u32 0)).setCell ⟨w.heap.size, 5, none⟩ (.int .u32 0)) w.heap.size 43 #[.slice none 0 0, .slice none 0 0, .int .u32 0, .int .u32 0, .int .u32 0, .int .u32 0, .int .u32 0]) := E5.out.set 5 _
    have E7 : Hid (RowAt ((((((((w2).setCell ⟨w.heap.size, 0, none⟩ (.slice none 0 0)).setCell ⟨w.heap.size, 1, none⟩ (.slice none 0 0)).setCell ⟨w.heap.size, 2, none⟩ (.int .u32 0)).setCell ⟨w.heap.size, 3, none⟩ (.int .u32 0)).setCell ⟨w.heap.size, 4, none⟩ (.int .u32 0)).setCell ⟨w.heap.size, 5, none⟩ (.int .u32 0)).setCell ⟨w.heap.size, 6, none⟩ (.int .u32 0)) w.heap.size 43 #[.slice none 0 0, .slice none 0 0, .int .u32 0, .int .u32 0, .int .u32 0, .int .u32 0, .int .u32 0]) := E6.out.set 6 _
    have HU : Hid (Upd w.heap.size w2 (((((((((w2).setCell ⟨w.heap.size, 0, none⟩ (.slice none 0 0)).setCell ⟨w.heap.size, 1, none⟩ (.slice none 0 0)).setCell ⟨w.heap.size, 2, none⟩ (.int .u32 0)).setCell ⟨w.heap.size, 3, none⟩ (.int .u32 0)).setCell ⟨w.heap.size, 4, none⟩ (.int .u32 0)).setCell ⟨w.heap.size, 5, none⟩ (.int .u32 0)).setCell ⟨w.heap.size, 6, none⟩ (.int .u32 0)))) := ((((((((Upd.refl w.heap.size w2).set 0 (.slice none 0 0)).set 1 (.slice none 0 0)).set 2 (.int .u32 0)).set 3 (.int .u32 0)).set 4 (.int .u32 0)).set 5 (.int .u32 0)).set 6 (.int .u32 0))
    have HE : Hid (RowAt (((((((((w2).setCell ⟨w.heap.size, 0, none⟩ (.slice none 0 0)).setCell ⟨w.heap.size, 1, none⟩ (.slice none 0 0)).setCell ⟨w.heap.size, 2, none⟩ (.int .u32 0)).setCell ⟨w.heap.size, 3, none⟩ (.int .u32 0)).setCell ⟨w.heap.size, 4, none⟩ (.int .u32 0)).setCell ⟨w.heap.size, 5, none⟩ (.int .u32 0)).setCell ⟨w.heap.size, 6, none⟩ (.int .u32 0))) w.heap.size 43 #[.slice none 0 0, .slice none 0 0, .int .u32 0, .int .u32 0, .int .u32 0, .int .u32 0, .int .u32 0]) := E7.out
    clear E0 E1 E2 E3 E4 E5 E6 E7
    go_wp2
    generalize ((((((((w2).setCell ⟨w.heap.size, 0, none⟩ (.slice none 0 0)).setCell ⟨w.heap.size, 1, none⟩ (.slice none 0 0)).setCell ⟨w.heap.size, 2, none⟩ (.int .u32 0)).setCell ⟨w.heap.size, 3, none⟩ (.int .u32 0)).setCell ⟨w.heap.size, 4, none⟩ (.int .u32 0)).setCell ⟨w.heap.size, 5, none⟩ (.int .u32 0)).setCell ⟨w.heap.size, 6, none⟩ (.int .u32 0)) = F at HE HU ⊢
    have q0 : F.cell? ⟨w.heap.size, 0, none⟩ = some (.slice none 0 0) := HE.out.cell 0
    have q1 : F.cell? ⟨w.heap.size, 1, none⟩ = some (.slice none 0 0) := HE.out.cell 1
    have q2 : F.cell? ⟨w.heap.size, 2, none⟩ = some (.int .u32 0) := HE.out.cell 2
    have q3 : F.cell? ⟨w.heap.size, 3, none⟩ = some (.int .u32 0) := HE.out.cell 3
    have q4 : F.cell? ⟨w.heap.size, 4, none⟩ = some (.int .u32 0) := HE.out.cell 4
    have q5 : F.cell? ⟨w.heap.size, 5, none⟩ = some (.int .u32 0) := HE.out.cell 5
    have q6 : F.cell? ⟨w.heap.size, 6, none⟩ = some (.int .u32 0) := HE.out.cell 6
    simp [bodyPost, results, Try.results19, go_sem, q0, q1, q2, q3, q4, q5, q6]
    exact ⟨Or.inr ⟨HF.out, rfl⟩, (B2.out).trans (HU.out.below (Nat.le_refl _))⟩
  · have HF : Hid (D.full b (D.soa b) = none) := D.soa_no2 H1.out (by unfold D.nm; rw [hn, Option.bind_some, if_neg (by omega)])
    have R2 := hide (R1.out.below hb2 R1.out.lt)
    have B2 := hide (B1.out.trans (hb2.mono B1.out.size))
    clear hn hb2 R1 B1
    have k0 : w2.cell? ⟨w.heap.size, 0, none⟩ = some (.slice none 0 0) := R2.out.cell 0
    have f0 := R2.out.frozen 0
    have k1 : w2.cell? ⟨w.heap.size, 1, none⟩ = some (.slice none 0 0) := R2.out.cell 1
    have f1 := R2.out.frozen 1
    have k2 : w2.cell? ⟨w.heap.size, 2, none⟩ = some (.int .u32 0) := R2.out.cell 2
    have f2 := R2.out.frozen 2
    have k3 : w2.cell? ⟨w.heap.size, 3, none⟩ = some (.int .u32 0) := R2.out.cell 3
    have f3 := R2.out.frozen 3
    have k4 : w2.cell? ⟨w.heap.size, 4, none⟩ = some (.int .u32 0) := R2.out.cell 4
    have f4 := R2.out.frozen 4
    have k5 : w2.cell? ⟨w.heap.size, 5, none⟩ = some (.int .u32 0) := R2.out.cell 5
    have f5 := R2.out.frozen 5
    have k6 : w2.cell? ⟨w.heap.size, 6, none⟩ = some (.int .u32 0) := R2.out.cell 6
    have f6 := R2.out.frozen 6
    have E0 := hide R2.out
    have E1 : Hid (RowAt ((w2).setCell ⟨w.heap.size, 0, none⟩ (.slice none 0 0)) w.heap.size 43 #[.slice none 0 0, .slice none 0 0, .int .u32 0, .int .u32 0, .int .u32 0, .int .u32 0, .int .u32 0]) := E0.out.set 0 _
    have E2 : Hid (RowAt (((w2).setCell ⟨w.heap.size, 0, none⟩ (.slice none 0 0)).setCell ⟨w.heap.size, 1, none⟩ (.slice none 0 0)) w.heap.size 43 #[.slice none 0 0, .slice none 0 0, .int .u32 0, .int .u32 0, .int .u32 0, .int .u32 0, .int .u32 0]) := E1.out.set 1 _
    have E3 : Hid (RowAt ((((w2).setCell ⟨w.heap.size, 0, none⟩ (.slice none 0 0)).setCell ⟨w.heap.size, 1, none⟩ (.slice none 0 0)).setCell ⟨w.heap.size, 2, none⟩ (.int .u32 0)) w.heap.size 43 #[.slice none 0 0, .slice none 0 0, .int .u32 0, .int .u32 0, .int .u32 0, .int .u32 0, .int .u32 0]) := E2.out.set 2 _
    have E4 : Hid (RowAt (((((w2).setCell ⟨w.heap.size, 0, none⟩ (.slice none 0 0)).setCell ⟨w.heap.size, 1, none⟩ (.slice none 0 0)).setCell ⟨w.heap.size, 2, none⟩ (.int .u32 0)).setCell ⟨w.heap.size, 3, none⟩ (.int .u32 0)) w.heap.size 43 #[.slice none 0 0, .slice none 0 0, .int .u32 0, .int .u32 0, .int .u32 0, .int .u32 0, .int .u32 0]) := E3.out.set 3 _
    have E5 : Hid (RowAt ((((((w2).setCell ⟨w.heap.size, 0, none⟩ (.slice none 0 0)).setCell ⟨w.heap.size, 1, none⟩ (.slice none 0 0)).setCell ⟨w.heap.size, 2, none⟩ (.int .u32 0)).setCell ⟨w.heap.size, 3, none⟩ (.int .u32 0)).setCell ⟨w.heap.size, 4, none⟩ (.int .u32 0)) w.heap.size 43 #[.slice none 0 0, .slice none 0 0, .int .u32 0, .int .u32 0, .int .u32 0, .int .u32 0, .int .u32 0]) := E4.out.set 4 _
    have E6 : Hid (RowAt (((((((w2).setCell ⟨w.heap.size, 0, none⟩ (.slice none 0 0)).setCell ⟨w.heap.size, 1, none⟩ (.slice none 0 0)).setCell ⟨w.heap.size, 2, none⟩ (.int .u32 0)).setCell ⟨w.heap.size, 3, none⟩ (.int .u32 0)).setCell ⟨w.heap.size, 4, none⟩ (.int .u32 0)).setCell ⟨w.heap.size, 5, none⟩ (.int .u32 0)) w.heap.size 43 #[.slice none 0 0, .slice none 0 0, .int .u32 0, .int .u32 0, .int .u32 0, .int .u32 0, .int .u32 0]) := E5.out.set 5 _
    have E7 : Hid (RowAt ((((((((w2).setCell ⟨w.heap.size, 0, none⟩ (.slice none 0 0)).setCell ⟨w.heap.size, 1, none⟩ (.slice none 0 0)).setCell ⟨w.heap.size, 2, none⟩ (.int .u32 0)).setCell ⟨w.heap.size, 3, none⟩ (.int .u32 0)).setCell ⟨w.heap.size, 4, none⟩ (.int .u32 0)).setCell ⟨w.heap.size, 5, none⟩ (.int .u32 0)).setCell ⟨w.heap.size, 6, none⟩ (.int .u32 0)) w.heap.size 43 #[.slice none 0 0, .slice none 0 0, .int .u32 0, .int .u32 0, .int .u32 0, .int .u32 0, .int .u32 0]) := E6.out.set 6 _
    have HU : Hid (Upd w.heap.size w2 (((((((((w2).setCell ⟨w.heap.size, 0, none⟩ (.slice none 0 0)).setCell ⟨w.heap.size, 1, none⟩ (.slice none 0 0)).setCell ⟨w.heap.size, 2, none⟩ (.int .u32 0)).setCell ⟨w.heap.size, 3, none⟩ (.int .u32 0)).setCell ⟨w.heap.size, 4, none⟩ (.int .u32 0)).setCell ⟨w.heap.size, 5, none⟩ (.int .u32 0)).setCell ⟨w.heap.size, 6, none⟩ (.int .u32 0)))) := ((((((((Upd.refl w.heap.size w2).set 0 (.slice none 0 0)).set 1 (.slice none 0 0)).set 2 (.int .u32 0)).set 3 (.int .u32 0)).set 4 (.int .u32 0)).set 5 (.int .u32 0)).set 6 (.int .u32 0))
    have HE : Hid (RowAt (((((((((w2).setCell ⟨w.heap.size, 0, none⟩ (.slice none 0 0)).setCell ⟨w.heap.size, 1, none⟩ (.slice none 0 0)).setCell ⟨w.heap.size, 2, none⟩ (.int .u32 0)).setCell ⟨w.heap.size, 3, none⟩ (.int .u32 0)).setCell ⟨w.heap.size, 4, none⟩ (.int .u32 0)).setCell ⟨w.heap.size, 5, none⟩ (.int .u32 0)).setCell ⟨w.heap.size, 6, none⟩ (.int .u32 0))) w.heap.size 43 #[.slice none 0 0, .slice none 0 0, .int .u32 0, .int .u32 0, .int .u32 0, .int .u32 0, .int .u32 0]) := E7.out
    clear E0 E1 E2 E3 E4 E5 E6 E7
    go_wp2
    generalize ((((((((w2).setCell ⟨w.heap.size, 0, none⟩ (.slice none 0 0)).setCell ⟨w.heap.size, 1, none⟩ (.slice none 0 0)).setCell ⟨w.heap.size, 2, none⟩ (.int .u32 0)).setCell ⟨w.heap.size, 3, none⟩ (.int .u32 0)).setCell ⟨w.heap.size, 4, none⟩ (.int .u32 0)).setCell ⟨w.heap.size, 5, none⟩ (.int .u32 0)).setCell ⟨w.heap.size, 6, none⟩ (.int .u32 0)) = F at HE HU ⊢
    have q0 : F.cell? ⟨w.heap.size, 0, none⟩ = some (.slice none 0 0) := HE.out.cell 0
    have q1 : F.cell? ⟨w.heap.size, 1, none⟩ = some (.slice none 0 0) := HE.out.cell 1
    have q2 : F.cell? ⟨w.heap.size, 2, none⟩ = some (.int .u32 0) := HE.out.cell 2
    have q3 : F.cell? ⟨w.heap.size, 3, none⟩ = some (.int .u32 0) := HE.out.cell 3
    have q4 : F.cell? ⟨w.heap.size, 4, none⟩ = some (.int .u32 0) := HE.out.cell 4
    have q5 : F.cell? ⟨w.heap.size, 5, none⟩ = some (.int .u32 0) := HE.out.cell 5
    have q6 : F.cell? ⟨w.heap.size, 6, none⟩ = some (.int .u32 0) := HE.out.cell 6
    simp [bodyPost, results, Try.results19, go_sem, q0, q1, q2, q3, q4, q5, q6]
    exact ⟨Or.inr ⟨HF.out, rfl⟩, (B2.out).trans (HU.out.below (Nat.le_refl _))⟩
  obtain ⟨_, _, hsz⟩ := N.opn_small (b.drop i) x hn
  rw [hl2.out] at hsz
  have H2 : Hid (D.nm (b.drop i) = some (x, (b.drop i).drop (N.size x))) := by show _ = _; unfold D.nm; rw [hn, Option.bind_some, if_pos hz]
  have R2 := hide (R1.out.below hb2 R1.out.lt)
  have B2 := hide (B1.out.trans (hb2.mono B1.out.size))
  obtain ⟨ax, cx, rfl, _, _, _⟩ := hO.open
  have OX := hide (OwnS.lower (base' := w.heap.size) hO B1.out.size)
  have ON2 := hide (ON.out.below hb2)
  obtain ⟨k, hk⟩ : ∃ k, N.size x = k := ⟨_, rfl⟩
  rw [hk] at H2 hsz ⊢
  clear hn hz hO hb2 R1 B1 ON hk
  by_cases h20 : len = i + k + 20
  rotate_left
  · have HF : Hid (D.full b (D.soa b) = none) := D.soa_not H1.out H2.out (by rw [List.length_drop, hl2.out]; omega)
    have hne : ((len : Int) != (i : Int) + (k : Int) + 20) = true := by simp; omega
    clear h20
    have k0 : w2.cell? ⟨w.heap.size, 0, none⟩ = some (.slice none 0 0) := R2.out.cell 0
    have f0 := R2.out.frozen 0
    have k1 : w2.cell? ⟨w.heap.size, 1, none⟩ = some (.slice none 0 0) := R2.out.cell 1
    have f1 := R2.out.frozen 1
    have k2 : w2.cell? ⟨w.heap.size, 2, none⟩ = some (.int .u32 0) := R2.out.cell 2
    have f2 := R2.out.frozen 2
    have k3 : w2.cell? ⟨w.heap.size, 3, none⟩ = some (.int .u32 0) := R2.out.cell 3
    have f3 := R2.out.frozen 3
    have k4 : w2.cell? ⟨w.heap.size, 4, none⟩ = some (.int .u32 0) := R2.out.cell 4
    have f4 := R2.out.frozen 4
    have k5 : w2.cell? ⟨w.heap.size, 5, none⟩ = some (.int .u32 0) := R2.out.cell 5
    have f5 := R2.out.frozen 5
    have k6 : w2.cell? ⟨w.heap.size, 6, none⟩ = some (.int .u32 0) := R2.out.cell 6
    have f6 := R2.out.frozen 6
    have E0 := hide R2.out
    have E1 : Hid (RowAt ((w2).setCell ⟨w.heap.size, 0, none⟩ (.slice none 0 0)) w.heap.size 43 #[.slice none 0 0, .slice none 0 0, .int .u32 0, .int .u32 0, .int .u32 0, .int .u32 0, .int .u32 0]) := E0.out.set 0 _
    have E2 : Hid (RowAt (((w2).setCell ⟨w.heap.size, 0, none⟩ (.slice none 0 0)).setCell ⟨w.heap.size, 1, none⟩ (.slice none 0 0)) w.heap.size 43 #[.slice none 0 0, .slice none 0 0, .int .u32 0, .int .u32 0, .int .u32 0, .int .u32 0, .int .u32 0]) := E1.out.set 1 _
    have E3 : Hid (RowAt ((((w2).setCell ⟨w.heap.size, 0, none⟩ (.slice none 0 0)).setCell ⟨w.heap.size, 1, none⟩ (.slice none 0 0)).setCell ⟨w.heap.size, 2, none⟩ (.int .u32 0)) w.heap.size 43 #[.slice none 0 0, .slice none 0 0, .int .u32 0, .int .u32 0, .int .u32 0, .int .u32 0, .int .u32 0]) := E2.out.set 2 _
    have E4 : Hid (RowAt (((((w2).setCell ⟨w.heap.size, 0, none⟩ (.slice none 0 0)).setCell ⟨w.heap.size, 1, none⟩ (.slice none 0 0)).setCell ⟨w.heap.size, 2, none⟩ (.int .u32 0)).setCell ⟨w.heap.size, 3, none⟩ (.int .u32 0)) w.heap.size 43 #[.slice none 0 0, .slice none 0 0, .int .u32 0, .int .u32 0, .int .u32 0, .int .u32 0, .int .u32 0]) := E3.out.set 3 _
    have E5 : Hid (RowAt ((((((w2).setCell ⟨w.heap.size, 0, none⟩ (.slice none 0 0)).setCell ⟨w.heap.size, 1, none⟩ (.slice none 0 0)).setCell ⟨w.heap.size, 2, none⟩ (.int .u32 0)).setCell ⟨w.heap.size, 3, none⟩ (.int .u32 0)).setCell ⟨w.heap.size, 4, none⟩ (.int .u32 0)) w.heap.size 43 #[.slice none 0 0, .slice none 0 0, .int .u32 0, .int .u32 0, .int .u32 0, .int .u32 0, .int .u32 0]) := E4.out.set 4 _
    have E6 : Hid (RowAt (((((((w2).setCell ⟨w.heap.size, 0, none⟩ (.slice none 0 0)).setCell ⟨w.heap.size, 1, none⟩ (.slice none 0 0)).setCell ⟨w.heap.size, 2, none⟩ (.int .u32 0)).setCell ⟨w.heap.size, 3, none⟩ (.int .u32 0)).setCell ⟨w.heap.size, 4, none⟩ (.int .u32 0)).setCell ⟨w.heap.size, 5, none⟩ (.int .u32 0)) w.heap.size 43 #[.slice none 0 0, .slice none 0 0, .int .u32 0, .int .u32 0, .int .u32 0, .int .u32 0, .int .u32 0]) := E5.out.set 5 _
    have E7 : Hid (RowAt ((((((((w2).setCell ⟨w.heap.size, 0, none⟩ (.slice none 0 0)).setCell ⟨w.heap.size, 1, none⟩ (.slice none 0 0)).setCell ⟨w.heap.size, 2, none⟩ (.int .u32 0)).setCell ⟨w.heap.size, 3, none⟩ (.int .u32 0)).setCell ⟨w.heap.size, 4, none⟩ (.int .u32 0)).setCell ⟨w.heap.size, 5, none⟩ (.int .u32 0)).setCell ⟨w.heap.size, 6, none⟩ (.int .u32 0)) w.heap.size 43 #[.slice none 0 0, .slice none 0 0, .int .u32 0, .int .u32 0, .int .u32 0, .int .u32 0, .int .u32 0]) := E6.out.set 6 _
    have HU : Hid (Upd w.heap.size w2 (((((((((w2).setCell ⟨w.heap.size, 0, none⟩ (.slice none 0 0)).setCell ⟨w.heap.size, 1, none⟩ (.slice none 0 0)).setCell ⟨w.heap.size, 2, none⟩ (.int .u32 0)).setCell ⟨w.heap.size, 3, none⟩ (.int .u32 0)).setCell ⟨w.heap.size, 4, none⟩ (.int .u32 0)).setCell ⟨w.heap.size, 5, none⟩ (.int .u32 0)).setCell ⟨w.heap.size, 6, none⟩ (.int .u32 0)))) := ((((((((Upd.refl w.heap.size w2).set 0 (.slice none 0 0)).set 1 (.slice none 0 0)).set 2 (.int .u32 0)).set 3 (.int .u32 0)).set 4 (.int .u32 0)).set 5 (.int .u32 0)).set 6 (.int .u32 0))
    have HE : Hid (RowAt (((((((((w2).setCell ⟨w.heap.size, 0, none⟩ (.slice none 0 0)).setCell ⟨w.heap.size, 1, none⟩ (.slice none 0 0)).setCell ⟨w.heap.size, 2, none⟩ (.int .u32 0)).setCell ⟨w.heap.size, 3, none⟩ (.int .u32 0)).setCell ⟨w.heap.size, 4, none⟩ (.int .u32 0)).setCell ⟨w.heap.size, 5, none⟩ (.int .u32 0)).setCell ⟨w.heap.size, 6, none⟩ (.int .u32 0))) w.heap.size 43 #[.slice none 0 0, .slice none 0 0, .int .u32 0, .int .u32 0, .int .u32 0, .int .u32 0, .int .u32 0]) := E7.out
    clear E0 E1 E2 E3 E4 E5 E6 E7
    go_wp2
    generalize ((((((((w2).setCell ⟨w.heap.size, 0, none⟩ (.slice none 0 0)).setCell ⟨w.heap.size, 1, none⟩ (.slice none 0 0)).setCell ⟨w.heap.size, 2, none⟩ (.int .u32 0)).setCell ⟨w.heap.size, 3, none⟩ (.int .u32 0)).setCell ⟨w.heap.size, 4, none⟩ (.int .u32 0)).setCell ⟨w.heap.size, 5, none⟩ (.int .u32 0)).setCell ⟨w.heap.size, 6, none⟩ (.int .u32 0)) = F at HE HU ⊢
    have q0 : F.cell? ⟨w.heap.size, 0, none⟩ = some (.slice none 0 0) := HE.out.cell 0
    have q1 : F.cell? ⟨w.heap.size, 1, none⟩ = some (.slice none 0 0) := HE.out.cell 1
    have q2 : F.cell? ⟨w.heap.size, 2, none⟩ = some (.int .u32 0) := HE.out.cell 2
    have q3 : F.cell? ⟨w.heap.size, 3, none⟩ = some (.int .u32 0) := HE.out.cell 3
    have q4 : F.cell? ⟨w.heap.size, 4, none⟩ = some (.int .u32 0) := HE.out.cell 4
    have q5 : F.cell? ⟨w.heap.size, 5, none⟩ = some (.int .u32 0) := HE.out.cell 5
    have q6 : F.cell? ⟨w.heap.size, 6, none⟩ = some (.int .u32 0) := HE.out.cell 6
    simp [bodyPost, results, Try.results19, go_sem, q0, q1, q2, q3, q4, q5, q6]
    exact ⟨Or.inr ⟨HF.out, rfl⟩, (B2.out).trans (HU.out.below (Nat.le_refl _))⟩
  have heq : ((len : Int) != (i : Int) + (k : Int) + 20) = false := by simp; omega
  obtain ⟨blk, of, rfl, hblt, _⟩ := HS.out (by have := hl.out; omega)
  obtain ⟨ad3, r3, s3⟩ := cut_tl (i + k) HS.out hl.out (by omega) hc
  have l3 : ((b.drop (i + k)).length = 20) := by rw [List.length_drop, hl.out]; omega
  rw [show len - (i + k) = 20 by omega] at r3
  obtain ⟨b3, o3, e3, hb3, _⟩ := s3 (by omega)
  cases e3
  have r3' : ∀ W, (Instr.slice 23 (.slice (some ⟨blk, of, none⟩) len cap) (some (.int .i64 ((i : Int) + (k : Int)))) none none).run Try.prog W = .ok (.slice (some ⟨b3, o3, none⟩) 20 (cap - (i + k))) W := by
    intro W; have := r3 W; rwa [Int.natCast_add] at this
  obtain ⟨d1, t1, u1⟩ := cut_hd 4 s3 l3 (by omega) (show 20 ≤ cap - (i + k) by omega)
  obtain ⟨d2, t2, u2⟩ := cut_mid 4 4 s3 l3 (by omega) (show 20 ≤ cap - (i + k) by omega)
  obtain ⟨d3, t3, u3⟩ := cut_mid 8 4 s3 l3 (by omega) (show 20 ≤ cap - (i + k) by omega)
  obtain ⟨d4, t4, u4⟩ := cut_mid 12 4 s3 l3 (by omega) (show 20 ≤ cap - (i + k) by omega)
  obtain ⟨d5, t5, u5⟩ := cut_tl 16 s3 l3 (by omega) (show 20 ≤ cap - (i + k) by omega)
  have HF : Hid (D.full b (D.soa b) = some _) := D.full_some (by rw [hl.out]; exact h8) (D.soa_ref H1.out H2.out (by rw [List.length_drop, hl2.out]; omega))
  rw [List.drop_drop] at HF
  have cc : ∃ cc, cap - (i + k) = cc := ⟨_, rfl⟩
  obtain ⟨cc, hcc⟩ := cc
  rw [hcc] at r3' t1 t2 t3 t4 t5
  have hg := fun (l : List UInt8) (d : Addr) (c : Nat) (h4 : l.length = 4) (hsl : SlL w (some d) l) (W : World) (hB : Below w.heap.size w W) => get_any l (some d) 4 c W h4 (hsl.below hB (Nat.le_refl _)) (by omega)
  have g1 := hg _ d1 cc (by rw [List.length_take, l3]; rfl) u1
  have g2 := hg _ d2 (cc - 4) (by rw [List.length_take, List.length_drop, l3]; rfl) u2
  have g3 := hg _ d3 (cc - 8) (by rw [List.length_take, List.length_drop, l3]; rfl) u3
  have g4 := hg _ d4 (cc - 12) (by rw [List.length_take, List.length_drop, l3]; rfl) u4
  have g5 := hg _ d5 (cc - 16) (by rw [List.length_drop, l3]) u5
  generalize D.gv ((b.drop (i + k)).take 4) = y1 at g1 HF
  generalize D.gv (((b.drop (i + k)).drop 4).take 4) = y2 at g2 HF
  generalize D.gv (((b.drop (i + k)).drop 8).take 4) = y3 at g3 HF
  generalize D.gv (((b.drop (i + k)).drop 12).take 4) = y4 at g4 HF
  generalize D.gv ((b.drop (i + k)).drop 16) = y5 at g5 HF
  replace t1 : ∀ W, (Instr.slice 23 (.slice (some ⟨b3, o3, none⟩) 20 cc) none (some (.int .i64 4)) none).run Try.prog W = .ok (.slice (some d1) 4 cc) W := t1
  replace t2 : ∀ W, (Instr.slice 23 (.slice (some ⟨b3, o3, none⟩) 20 cc) (some (.int .i64 4)) (some (.int .i64 8)) none).run Try.prog W = .ok (.slice (some d2) 4 (cc - 4)) W := t2
  replace t3 : ∀ W, (Instr.slice 23 (.slice (some ⟨b3, o3, none⟩) 20 cc) (some (.int .i64 8)) (some (.int .i64 12)) none).run Try.prog W = .ok (.slice (some d3) 4 (cc - 8)) W := t3
  replace t4 : ∀ W, (Instr.slice 23 (.slice (some ⟨b3, o3, none⟩) 20 cc) (some (.int .i64 12)) (some (.int .i64 16)) none).run Try.prog W = .ok (.slice (some d4) 4 (cc - 12)) W := t4
  replace t5 : ∀ W, (Instr.slice 23 (.slice (some ⟨b3, o3, none⟩) 20 cc) (some (.int .i64 16)) none none).run Try.prog W = .ok (.slice (some d5) 4 (cc - 16)) W := t5
  clear hg u1 u2 u3 u4 u5 r3 s3 l3 h20 hcc S2 r2 H1 H2 HS
  have k0 : w2.cell? ⟨w.heap.size, 0, none⟩ = some (.slice none 0 0) := R2.out.cell 0
  have f0 := R2.out.frozen 0
  have k1 : w2.cell? ⟨w.heap.size, 1, none⟩ = some (.slice none 0 0) := R2.out.cell 1
  have f1 := R2.out.frozen 1
  have k2 : w2.cell? ⟨w.heap.size, 2, none⟩ = some (.int .u32 0) := R2.out.cell 2
  have f2 := R2.out.frozen 2
  have k3 : w2.cell? ⟨w.heap.size, 3, none⟩ = some (.int .u32 0) := R2.out.cell 3
  have f3 := R2.out.frozen 3
  have k4 : w2.cell? ⟨w.heap.size, 4, none⟩ = some (.int .u32 0) := R2.out.cell 4
  have f4 := R2.out.frozen 4
  have k5 : w2.cell? ⟨w.heap.size, 5, none⟩ = some (.int .u32 0) := R2.out.cell 5
  have f5 := R2.out.frozen 5
  have k6 : w2.cell? ⟨w.heap.size, 6, none⟩ = some (.int .u32 0) := R2.out.cell 6
  have f6 := R2.out.frozen 6
  go_wp2
  go_region_law (first
    | (refine step_fn 52 #[.tmp 48] _ rfl rfl #[.slice (some d1) 4 cc] (by go_simp) (g1 _ (by exact B2.out.drew)) (by rintro e w' ⟨rfl, _⟩; exact ⟨_, rfl⟩) ?_; rintro v w' ⟨he, rfl⟩; cases he)
    | (refine step_fn 52 #[.tmp 51] _ rfl rfl #[.slice (some d2) 4 (cc - 4)] (by go_simp) (g2 _ (by exact B2.out.drew)) (by rintro e w' ⟨rfl, _⟩; exact ⟨_, rfl⟩) ?_; rintro v w' ⟨he, rfl⟩; cases he)
    | (refine step_fn 52 #[.tmp 54] _ rfl rfl #[.slice (some d3) 4 (cc - 8)] (by go_simp) (g3 _ (by exact B2.out.drew)) (by rintro e w' ⟨rfl, _⟩; exact ⟨_, rfl⟩) ?_; rintro v w' ⟨he, rfl⟩; cases he)
    | (refine step_fn 52 #[.tmp 57] _ rfl rfl #[.slice (some d4) 4 (cc - 12)] (by go_simp) (g4 _ (by exact B2.out.drew)) (by rintro e w' ⟨rfl, _⟩; exact ⟨_, rfl⟩) ?_; rintro v w' ⟨he, rfl⟩; cases he)
    | (refine step_fn 52 #[.tmp 60] _ rfl rfl #[.slice (some d5) 4 (cc - 16)] (by go_simp) (g5 _ (by exact B2.out.drew)) (by rintro e w' ⟨rfl, _⟩; exact ⟨_, rfl⟩) ?_; rintro v w' ⟨he, rfl⟩; cases he))
  have E0 := hide R2.out
  have E1 : Hid (RowAt ((w2).setCell ⟨w.heap.size, 0, none⟩ (.slice an n.length cn)) w.heap.size 43 #[.slice an n.length cn, .slice none 0 0, .int .u32 0, .int .u32 0, .int .u32 0, .int .u32 0, .int .u32 0]) := E0.out.set 0 _
  have E2 : Hid (RowAt (((w2).setCell ⟨w.heap.size, 0, none⟩ (.slice an n.length cn)).setCell ⟨w.heap.size, 1, none⟩ (.slice ax x.length cx)) w.heap.size 43 #[.slice an n.length cn, .slice ax x.length cx, .int .u32 0, .int .u32 0, .int .u32 0, .int .u32 0, .int .u32 0]) := E1.out.set 1 _
  have E3 : Hid (RowAt ((((w2).setCell ⟨w.heap.size, 0, none⟩ (.slice an n.length cn)).setCell ⟨w.heap.size, 1, none⟩ (.slice ax x.length cx)).setCell ⟨w.heap.size, 2, none⟩ (.int .u32 (y1 : Int))) w.heap.size 43 #[.slice an n.length cn, .slice ax x.length cx, .int .u32 (y1 : Int), .int .u32 0, .int .u32 0, .int .u32 0, .int .u32 0]) := E2.out.set 2 _
  have E4 : Hid (RowAt (((((w2).setCell ⟨w.heap.size, 0, none⟩ (.slice an n.length cn)).setCell ⟨w.heap.size, 1, none⟩ (.slice ax x.length cx)).setCell ⟨w.heap.size, 2, none⟩ (.int .u32 (y1 : Int))).setCell ⟨w.heap.size, 3, none⟩ (.int .u32 (y2 : Int))) w.heap.size 43 #[.slice an n.length cn, .slice ax x.length cx, .int .u32 (y1 : Int), .int .u32 (y2 : Int), .int .u32 0, .int .u32 0, .int .u32 0]) := E3.out.set 3 _
  have E5 : Hid (RowAt ((((((w2).setCell ⟨w.heap.size, 0, none⟩ (.slice an n.length cn)).setCell ⟨w.heap.size, 1, none⟩ (.slice ax x.length cx)).setCell ⟨w.heap.size, 2, none⟩ (.int .u32 (y1 : Int))).setCell ⟨w.heap.size, 3, none⟩ (.int .u32 (y2 : Int))).setCell ⟨w.heap.size, 4, none⟩ (.int .u32 (y3 : Int))) w.heap.size 43 #[.slice an n.length cn, .slice ax x.length cx, .int .u32 (y1 : Int), .int .u32 (y2 : Int), .int .u32 (y3 : Int), .int .u32 0, .int .u32 0]) := E4.out.set 4 _
  have E6 : Hid (RowAt (((((((w2).setCell ⟨w.heap.size, 0, none⟩ (.slice an n.length cn)).setCell ⟨w.heap.size, 1, none⟩ (.slice ax x.length cx)).setCell ⟨w.heap.size, 2, none⟩ (.int .u32 (y1 : Int))).setCell ⟨w.heap.size, 3, none⟩ (.int .u32 (y2 : Int))).setCell ⟨w.heap.size, 4, none⟩ (.int .u32 (y3 : Int))).setCell ⟨w.heap.size, 5, none⟩ (.int .u32 (y4 : Int))) w.heap.size 43 #[.slice an n.length cn, .slice ax x.length cx, .int .u32 (y1 : Int), .int .u32 (y2 : Int), .int .u32 (y3 : Int), .int .u32 (y4 : Int), .int .u32 0]) := E5.out.set 5 _
  have E7 : Hid (RowAt ((((((((w2).setCell ⟨w.heap.size, 0, none⟩ (.slice an n.length cn)).setCell ⟨w.heap.size, 1, none⟩ (.slice ax x.length cx)).setCell ⟨w.heap.size, 2, none⟩ (.int .u32 (y1 : Int))).setCell ⟨w.heap.size, 3, none⟩ (.int .u32 (y2 : Int))).setCell ⟨w.heap.size, 4, none⟩ (.int .u32 (y3 : Int))).setCell ⟨w.heap.size, 5, none⟩ (.int .u32 (y4 : Int))).setCell ⟨w.heap.size, 6, none⟩ (.int .u32 (y5 : Int))) w.heap.size 43 #[.slice an n.length cn, .slice ax x.length cx, .int .u32 (y1 : Int), .int .u32 (y2 : Int), .int .u32 (y3 : Int), .int .u32 (y4 : Int), .int .u32 (y5 : Int)]) := E6.out.set 6 _
  have HU : Hid (Upd w.heap.size w2 (((((((((w2).setCell ⟨w.heap.size, 0, none⟩ (.slice an n.length cn)).setCell ⟨w.heap.size, 1, none⟩ (.slice ax x.length cx)).setCell ⟨w.heap.size, 2, none⟩ (.int .u32 (y1 : Int))).setCell ⟨w.heap.size, 3, none⟩ (.int .u32 (y2 : Int))).setCell ⟨w.heap.size, 4, none⟩ (.int .u32 (y3 : Int))).setCell ⟨w.heap.size, 5, none⟩ (.int .u32 (y4 : Int))).setCell ⟨w.heap.size, 6, none⟩ (.int .u32 (y5 : Int))).drew)) := ((((((((Upd.refl w.heap.size w2).set 0 (.slice an n.length cn)).set 1 (.slice ax x.length cx)).set 2 (.int .u32 (y1 : Int))).set 3 (.int .u32 (y2 : Int))).set 4 (.int .u32 (y3 : Int))).set 5 (.int .u32 (y4 : Int))).set 6 (.int .u32 (y5 : Int))).drew
  have HE : Hid (RowAt (((((((((w2).setCell ⟨w.heap.size, 0, none⟩ (.slice an n.length cn)).setCell ⟨w.heap.size, 1, none⟩ (.slice ax x.length cx)).setCell ⟨w.heap.size, 2, none⟩ (.int .u32 (y1 : Int))).setCell ⟨w.heap.size, 3, none⟩ (.int .u32 (y2 : Int))).setCell ⟨w.heap.size, 4, none⟩ (.int .u32 (y3 : Int))).setCell ⟨w.heap.size, 5, none⟩ (.int .u32 (y4 : Int))).setCell ⟨w.heap.size, 6, none⟩ (.int .u32 (y5 : Int))).drew) w.heap.size 43 #[.slice an n.length cn, .slice ax x.length cx, .int .u32 (y1 : Int), .int .u32 (y2 : Int), .int .u32 (y3 : Int), .int .u32 (y4 : Int), .int .u32 (y5 : Int)]) := E7.out.drew
  clear E0 E1 E2 E3 E4 E5 E6 E7
  go_wp2
  generalize ((((((((w2).setCell ⟨w.heap.size, 0, none⟩ (.slice an n.length cn)).setCell ⟨w.heap.size, 1, none⟩ (.slice ax x.length cx)).setCell ⟨w.heap.size, 2, none⟩ (.int .u32 (y1 : Int))).setCell ⟨w.heap.size, 3, none⟩ (.int .u32 (y2 : Int))).setCell ⟨w.heap.size, 4, none⟩ (.int .u32 (y3 : Int))).setCell ⟨w.heap.size, 5, none⟩ (.int .u32 (y4 : Int))).setCell ⟨w.heap.size, 6, none⟩ (.int .u32 (y5 : Int))).drew = F at HE HU ⊢
  have q0 : F.cell? ⟨w.heap.size, 0, none⟩ = some (.slice an n.length cn) := HE.out.cell 0
  have q1 : F.cell? ⟨w.heap.size, 1, none⟩ = some (.slice ax x.length cx) := HE.out.cell 1
  have q2 : F.cell? ⟨w.heap.size, 2, none⟩ = some (.int .u32 (y1 : Int)) := HE.out.cell 2
  have q3 : F.cell? ⟨w.heap.size, 3, none⟩ = some (.int .u32 (y2 : Int)) := HE.out.cell 3
  have q4 : F.cell? ⟨w.heap.size, 4, none⟩ = some (.int .u32 (y3 : Int)) := HE.out.cell 4
  have q5 : F.cell? ⟨w.heap.size, 5, none⟩ = some (.int .u32 (y4 : Int)) := HE.out.cell 5
  have q6 : F.cell? ⟨w.heap.size, 6, none⟩ = some (.int .u32 (y5 : Int)) := HE.out.cell 6
  simp [bodyPost, results, Try.results19, go_sem, q0, q1, q2, q3, q4, q5, q6]
  exact ⟨Or.inl ⟨_, _, HF.out, rfl, ⟨_, _, _, _, rfl, HU.out.own R2.out (by decide) ON2.out, HU.out.own R2.out (by decide) OX.out⟩⟩, (B2.out).trans (HU.out.below (Nat.le_refl _))⟩
end Go.Proofs.Ytagopkmehlpjpaa
