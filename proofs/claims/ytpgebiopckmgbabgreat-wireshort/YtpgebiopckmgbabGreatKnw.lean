/- signetlaw6.known. -/
import Derived.Test.YtpgebiopckmgbabGreatByq
import Derived.Test.YtpgebiopckmgbabGreatHlm
namespace Go.Proofs.YtpgebiopckmgbabGreat
open Go.RowKit
def kq : List UInt8 := [0, 7, 1, 0, 0, 1, 0, 0, 0, 0, 0, 0, 1, 97, 0, 0, 1, 0, 1]
set_option maxRecDepth 5000 in
theorem kq_wqs : (M.wqs [⟨[[97]], 1, 1⟩] (fun _ => none) (hdr 7 256 1 0 0 0)).2 = kq := by decide +kernel
set_option maxRecDepth 5000 in
theorem kq_wn : M.wn kq 12 12 [] = some ([[97]], 15) := by
  rw [M.wn]
  rw [dif_neg (by decide), if_neg (by decide), if_neg (by decide), dif_neg (by decide), if_neg (by decide +kernel)]
  rw [show 12 + 1 + M.by_ kq 12 = 14 by decide +kernel, show [] ++ [M.lab kq 12] = [[97]] by decide +kernel]
  rw [M.wn]
  rw [dif_neg (by decide), if_pos (by decide)]
set_option maxRecDepth 5000 in
theorem kq_msgq : M.msgq kq = some (7, 256, [⟨[[97]], 1, 1⟩]) := by
  have h : M.qs kq 1 12 = some ([⟨[[97]], 1, 1⟩], 19) := by
    simp only [M.qs, M.qn, kq_wn]
    rfl
  unfold M.msgq
  rw [if_neg (by decide), show M.num kq 4 = 1 by decide, h]
  rfl
set_option maxRecDepth 5000 in
theorem nil_msgq : M.msgq [] = none := by unfold M.msgq; rfl
set_option maxRecDepth 5000 in
theorem kq_mcells (v : Value) : mcells 7 256 v = #[.int .u16 7, .bool false, .int .i64 0, .bool false, .bool false, .bool true, .bool false, .int .i64 0, v, .slice none 0 0, .slice none 0 0, .slice none 0 0, .bool false, .int .u16 0, .bool false] := by
  have h1 : M.g1 256 = false := by decide +kernel
  have h2 : M.g2 256 = 0 := by decide +kernel
  have h3 : M.g3 256 = false := by decide +kernel
  have h4 : M.g4 256 = false := by decide +kernel
  have h5 : M.g5 256 = true := by decide +kernel
  have h6 : M.g6 256 = false := by decide +kernel
  have h7 : M.g7 256 = 0 := by decide +kernel
  unfold mcells
  rw [h1, h2, h3, h4, h5, h6, h7]; rfl
set_option maxRecDepth 3000 in
set_option maxHeartbeats 2000000 in
theorem known_any (w : World) : Calls Tryz.prog 6 #[] w fun e w' => e = .returned (.bool true) ∧ Below w.heap.size w w' := by
  have B0 : Hid (Below w.heap.size w ((w.alloc (.cells #[.string ⟨#[97]⟩] 9)).alloc (.cells #[.slice (some ⟨w.heap.size, 0, none⟩) 1 1, .int .u16 1, .int .u16 1] 28))) := ((Below.refl _ _).alloc (Nat.le_refl _) _).alloc (by simp) _
  have SQ : Hid (SlQ ((w.alloc (.cells #[.string ⟨#[97]⟩] 9)).alloc (.cells #[.slice (some ⟨w.heap.size, 0, none⟩) 1 1, .int .u16 1, .int .u16 1] 28)) (some ⟨w.heap.size + 1, 0, none⟩) [(some ⟨w.heap.size, 0, none⟩, 1, ⟨[[97]], 1, 1⟩)]) := by
    have r0 := (RowAt.new w 9 #[.string ⟨#[97]⟩]).alloc (.cells #[.slice (some ⟨w.heap.size, 0, none⟩) 1 1, .int .u16 1, .int .u16 1] 28)
    have r1 := RowAt.new (w.alloc (.cells #[.string ⟨#[97]⟩] 9)) 28 #[.slice (some ⟨w.heap.size, 0, none⟩) 1 1, .int .u16 1, .int .u16 1]
    rw [World.size_alloc] at r1
    refine fun _ => ⟨_, rfl, by simp, fun j x hx => ?_⟩
    cases j with
    | zero =>
      cases hx
      refine ⟨r1.cell 0, r1.cell 1, r1.cell 2, fun _ => ⟨_, 0, rfl, by simp; omega, fun j hj => ?_⟩⟩
      obtain rfl : j = 0 := by simp at hj; exact hj
      exact r0.cell 0
    | succ j => cases hx
  have HF : Hid (∀ w' : World, Calls Tryz.prog 28 #[.agg #[.int .u16 ((7 : Nat) : Int), .bool false, .int .i64 0, .bool false, .bool false, .bool true, .bool false, .int .i64 0, .slice (some ⟨w.heap.size + 1, 0, none⟩) [((some ⟨w.heap.size, 0, none⟩ : Option Addr), (1 : Nat), (⟨[[97]], 1, 1⟩ : M.Q))].length 1, .slice none 0 0, .slice none 0 0, .slice none 0 0, .bool false, .int .u16 0, .bool false]] w' fun e w'' => e = .returned (.int .u16 ((256 : Nat) : Int)) ∧ Below w'.heap.size w' w'') := fun w' => flags_known 7 [((some ⟨w.heap.size, 0, none⟩ : Option Addr), (1 : Nat), (⟨[[97]], 1, 1⟩ : M.Q))] (some ⟨w.heap.size + 1, 0, none⟩) 1 w'
  go_enter Tryz.func6, Tryz.ntmps6
  go_wp2_with fail
  refine (bytes_q 7 256 false false false true false 0 0 [((some ⟨w.heap.size, 0, none⟩ : Option Addr), (1 : Nat), (⟨[[97]], 1, 1⟩ : M.Q))] (some ⟨w.heap.size + 1, 0, none⟩) 1 _ (by omega) (by omega) (by omega) (by omega) (by exact SQ.out) (by simp) (fun x hx => by rw [List.mem_singleton.1 hx]; exact ⟨by simp, by simp, show N.size [[97]] ≤ 255 by decide⟩) (fun x hx => by rw [List.mem_singleton.1 hx]; exact ⟨show 1 < 65536 by decide, show 1 < 65536 by decide⟩) HF).mono ?_
  rintro e w1 ⟨v, rfl, hO, hb1⟩
  rw [show (M.wqs ([((some ⟨w.heap.size, 0, none⟩ : Option Addr), (1 : Nat), (⟨[[97]], 1, 1⟩ : M.Q))].map (·.2.2)) (fun _ => none) (hdr 7 256 [((some ⟨w.heap.size, 0, none⟩ : Option Addr), (1 : Nat), (⟨[[97]], 1, 1⟩ : M.Q))].length 0 0 0)).2 = kq from kq_wqs] at hO
  obtain ⟨av, cv, rfl, hsl, hnl, hle, _⟩ := hO.open
  have B1 := hide (B0.out.trans (hb1.mono B0.out.size))
  have SB := hide hsl
  have NB := hide hnl
  have hk : kq.length = 19 := rfl
  clear hO hb1 SQ HF B0 hsl hnl
  go_wp2_with fail
  refine (read_any kq av cv _ (by exact SB.out) hle NB.out (by decide) (fun _ => by decide)).mono ?_
  rintro e w2 ⟨⟨i, f, l, v, ho, rfl, hO⟩ | ⟨ho, rfl⟩, hb2⟩
  rotate_left
  · rw [kq_msgq] at ho; cases ho
  rw [kq_msgq] at ho
  have hinj := Option.some.inj ho
  simp only [Prod.mk.injEq] at hinj
  obtain ⟨rfl, rfl, hmap⟩ := hinj
  have hl1 : l.length = 1 := by have h := congrArg List.length hmap; simpa using h.symm
  obtain ⟨a1, c1, rfl⟩ := hO.form
  rw [kq_mcells, hl1]
  have b3 := hb2.alloc hb2.size (.cells #[.int .u16 7, .bool false, .int .i64 0, .bool false, .bool false, .bool true, .bool false, .int .i64 0, .slice a1 1 c1, .slice none 0 0, .slice none 0 0, .slice none 0 0, .bool false, .int .u16 0, .bool false] 32)
  have R3 := hide (RowAt.new w2 32 #[.int .u16 7, .bool false, .int .i64 0, .bool false, .bool false, .bool true, .bool false, .int .i64 0, .slice a1 1 c1, .slice none 0 0, .slice none 0 0, .slice none 0 0, .bool false, .int .u16 0, .bool false])
  have B3 := hide (B1.out.trans (b3.mono B1.out.size))
  have SB3 := hide (SB.out.below b3 (Nat.le_refl _))
  clear b3 hb2 hO ho hmap hl1 SB B1
  go_wp2_with fail
  refine (read_any [] none 0 _ (fun h => by simp at h) (by simp) (fun _ => rfl) (by simp) (fun h => by simp at h)).mono ?_
  rintro e w3 ⟨⟨i, f, l, v, ho, rfl, hO⟩ | ⟨ho, rfl⟩, hb3⟩
  · rw [nil_msgq] at ho; cases ho
  unfold zmsg
  have b4 := hb3.alloc hb3.size (.cells #[.int .u16 0, .bool false, .int .i64 0, .bool false, .bool false, .bool false, .bool false, .int .i64 0, .slice none 0 0, .slice none 0 0, .slice none 0 0, .slice none 0 0, .bool false, .int .u16 0, .bool false] 32)
  have R4 := hide (R3.out.below b4 R3.out.lt)
  have B4 := hide (B3.out.trans (b4.mono B3.out.size))
  have SB4 := hide (SB3.out.below b4 (Nat.le_refl _))
  clear b4 hb3 ho R3 B3 SB3
  go_wp2_with fail
  refine (id_any kq av cv _ (by exact SB4.out)).mono ?_
  rintro e w5 ⟨rfl, hb5⟩
  rw [show (if kq.length < 12 then 0 else M.num kq 0 : Nat) = 7 by decide, show decide (12 ≤ kq.length) = true by decide]
  have R5 := R4.out.below hb5 R4.out.lt
  have B5 := hide (B4.out.trans (hb5.mono B4.out.size))
  have y0 : w5.cell? ⟨w2.heap.size, 0, none⟩ = some (.int .u16 7) := R5.cell 0
  have y5 : w5.cell? ⟨w2.heap.size, 5, none⟩ = some (.bool true) := R5.cell 5
  have y8 : w5.cell? ⟨w2.heap.size, 8, none⟩ = some (.slice a1 1 c1) := R5.cell 8
  clear hb5 R5 R4 B4 SB4 NB hle
  go_wp2
  go_ret
  exact ⟨rfl, B5.out⟩
end Go.Proofs.YtpgebiopckmgbabGreat
