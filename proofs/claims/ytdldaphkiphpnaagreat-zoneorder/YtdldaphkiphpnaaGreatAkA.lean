/- KeyBytes .. of package rdata (a text of stage 5, at this seat). -/
import Derived.Test.YtdldaphkiphpnaaGreatRda
/- stage5/AppK -/
/- rdata.KeyBytes. -/
namespace Go.Proofs.YtdldaphkiphpnaaGreat
open Go.RowKit
set_option maxRecDepth 5000 in
theorem below_allocs {B : Nat} {w W : World} {o : Obj} (h : Below B w (w.alloc o)) (hB : B ≤ w.heap.size) (hW : W = (w.alloc o).drew ∨ ∃ q, W = ((w.alloc o).alloc q).drew) : Below B w W := by
  rcases hW with rfl | ⟨q, rfl⟩
  · exact h.drew
  · exact (h.alloc (by simp; omega) q).drew
set_option maxHeartbeats 800000 in
set_option maxRecDepth 5000 in
theorem keyBytes_any (k : D.Key) (ao : Option Addr) (len cap : Nat) (w : World) (hk : k.Ok) (hx : Hid (k.key.length = len)) (hs : SlL w ao k.key) (hnil : ao = none → cap = 0) (hlen : len ≤ 100000) :
    Calls Tryz.prog 122 #[.agg #[.int .u16 (k.flags : Int), .int .u8 (k.proto : Int), .int .u8 (k.alg : Int), .slice ao len cap]] w fun e w' => ∃ v', e = .returned v' ∧ OwnB w' w.heap.size v' (D.keyB k) ∧ Below w.heap.size w w' := by
  have HS := hide hs
  have HNI := hide hnil
  clear hs hnil
  obtain ⟨k1, k2, k3⟩ := hk
  have q1 : (k.proto : Int) = ((UInt8.ofNat k.proto).toNat : Int) := by rw [D.nat_u8 _ k2]
  have q2 : (k.alg : Int) = ((UInt8.ofNat k.alg).toNat : Int) := by rw [D.nat_u8 _ k3]
  have hk1 := k1
  rw [q1, q2]
  clear q1 q2
  have hrow := RowAt.new w 150 #[.int .u16 (k.flags : Int), .int .u8 ((UInt8.ofNat k.proto).toNat : Int), .int .u8 ((UInt8.ofNat k.alg).toNat : Int), .slice ao len cap]
  have HROW := hide hrow
  clear hrow
  have HB0 := hide ((Below.refl w.heap.size w).alloc (Nat.le_refl _) (.cells #[.int .u16 (k.flags : Int), .int .u8 ((UInt8.ofNat k.proto).toNat : Int), .int .u8 ((UInt8.ofNat k.alg).toNat : Int), .slice ao len cap] 150))
  show Calls _ _ _ _ fun e w' => ∃ v', e = .returned v' ∧ OwnB w' w.heap.size v' (D.p16 k.flags ++ [UInt8.ofNat k.proto, UInt8.ofNat k.alg] ++ k.key) ∧ Below w.heap.size w w'
  generalize UInt8.ofNat k.proto = x at HROW HB0 ⊢
  generalize UInt8.ofNat k.alg = y at HROW HB0 ⊢
  go_enter Tryz.func122, Tryz.ntmps122
  go_wp2
  go_region_law (first
    | (refine step_call rfl 155 #[.slice none 0 0, .int .u16 (k.flags : Int)] (by go_simp) (append16_nil k.flags k1 _) (by rintro e w' ⟨v, rfl, _⟩; exact ⟨v, rfl⟩) ?_; rintro v1 w1 ⟨_, he, hO1, hb1⟩; cases he; have r1 := RowAt.below (by first | exact HROW.out | exact HROW.out.alloc _) hb1 (by simp <;> omega); have p1 : w1.cell? ⟨w.heap.size, 1, none⟩ = some (.int .u8 (x.toNat : Int)) := r1.cell 1; have p2 : w1.cell? ⟨w.heap.size, 2, none⟩ = some (.int .u8 (y.toNat : Int)) := r1.cell 2; have R1 := hide r1; have O1 := hide (OwnB.lower (base' := w.heap.size) hO1 (by simp <;> omega)); have z1 : w.heap.size ≤ w1.heap.size := Nat.le_trans (by simp <;> omega) hb1.size; have B1 := hide ((below_allocs HB0.out (Nat.le_refl _) (by first | exact Or.inl rfl | exact Or.inr ⟨_, rfl⟩)).trans (hb1.mono (by simp <;> omega))); (try (have S1 : Hid (SlL w1 (some ⟨w.heap.size + 1, 0, none⟩) [x, y]) := SlL.below (by have h := SlL.litm (w.alloc (.cells #[.int .u16 (k.flags : Int), .int .u8 (x.toNat : Int), .int .u8 (y.toNat : Int), .slice ao len cap] 150)) [x, y] _ 5 (0, 0) rfl; rw [World.size_alloc] at h; exact h) hb1 (by simp <;> omega))); clear r1 hO1 hb1)
    | (refine step_append_B rfl (.tmp 6) (.tmp 11) rfl w.heap.size v1 (D.p16 k.flags) (by simp [Act.eval]) (by exact O1.out.alloc _) ⟨w1.heap.size, 0, none⟩ 2 2 [x, y] (by simp [Act.eval]) rfl (by exact SlL.litm w1 [x, y] _ 5 (0, 0) rfl) (by simp [D.p16]) (by simp; omega) ?_; intro v4 w4 hO4 hG4; have K4 := hide (Kp.app O1.out hG4 z1); have O4 := hide hO4; clear hG4 hO4)
    | (refine step_append_B rfl (.tmp 6) (.tmp 11) rfl w.heap.size v1 (D.p16 k.flags) (by simp [Act.eval]) (by exact O1.out) ⟨w.heap.size + 1, 0, none⟩ 2 2 [x, y] (by simp [Act.eval]) rfl (by exact S1.out) (by simp [D.p16]) (by exact z1) ?_; intro v4 w4 hO4 hG4; have K4 := hide (Kp.grown O1.out hG4 z1); have O4 := hide hO4; clear hG4 hO4))
  all_goals
    have p3 : w4.cell? ⟨w.heap.size, 3, none⟩ = some (.slice ao len cap) := (K4.out.2 _ _ _ R1.out (by decide)).cell 3
    have HS4 := hide (HS.out.below (B1.out.trans K4.out.1) (Nat.le_refl _))
    go_wp2_with (at_builtin; refine wpList_append_B rfl (.tmp 13) (.tmp 15) rfl w.heap.size _ _ rfl (by exact O4.out) _ _ _ k.key rfl hx.out (by exact HS4.out) HNI.out (by simp [D.p16]; omega) (by exact K4.out.size z1) ?_; intro v5 w5 hO5 hG5; have hK5 := Kp.grown O4.out hG5 (K4.out.size z1); clear hG5)
    go_ret
    exact ⟨_, rfl, hO5, (B1.out.trans K4.out.1).trans hK5.1⟩
end Go.Proofs.YtdldaphkiphpnaaGreat

