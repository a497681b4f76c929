/- wire.Read, of a message without records. -/
import Derived.Test.YtpgebiopckmgbabGreatMss
import Derived.Recover
namespace Go.Proofs.YtpgebiopckmgbabGreat
open Go.RowKit
def zmsg : Value := .agg #[.int .u16 0, .bool false, .int .i64 0, .bool false, .bool false, .bool false, .bool false, .int .i64 0, .slice none 0 0, .slice none 0 0, .slice none 0 0, .slice none 0 0, .bool false, .int .u16 0, .bool false]
set_option maxRecDepth 5000 in
theorem read1_fell (A : Nat) (ve : Value) (u : TypeId) (pv : Value) (w : World) (hq : w.cell? ⟨A, 0, none⟩ = some ve) (fq : w.frozen? ⟨A, 0, none⟩ = false) :
    CallsD Tryz.prog 21 #[.pointer (some ⟨A, 0, none⟩)] (.panicking [{ v := .iface u pv, recovered := false }]) w fun e u' w' =>
      e = .returned (.tuple #[]) ∧ u' = .panicking [{ v := .iface u pv, recovered := true }] ∧ w' = w.setCell ⟨A, 0, none⟩ (.int .i64 60) := by
  refine callsD_of_wpS Tryz.func21 rfl fun c₀ cs hu => ?_
  apply wpS_seq
  apply wpS_region
  simp [wpOpsS, go_sem, recoverD, hu, Tryz.ntmps21, Exit.thenS]
  refine wpS_cond (t := true) (by simp [Act.eval, Array.replicate]) ?_
  simp only [if_true]
  apply wpS_region
  simp [wpOpsS, go_sem, hq, fq, bodyPostS, results, Tryz.results21]
set_option maxRecDepth 5000 in
theorem read1_idle (A : Nat) (w : World) :
    CallsD Tryz.prog 21 #[.pointer (some ⟨A, 0, none⟩)] .returning w fun e u' w' => e = .returned (.tuple #[]) ∧ u' = .returning ∧ w' = w := by
  refine callsD_of_wpS Tryz.func21 rfl fun c₀ cs hu => ?_
  apply wpS_seq
  apply wpS_region
  simp [wpOpsS, go_sem, recoverD, hu, Tryz.ntmps21, Exit.thenS]
  refine wpS_cond (t := false) (by simp [Act.eval, Array.replicate]) ?_
  simp only [Bool.false_eq_true, if_false]
  refine wpS_of_wp (wp_skip ?_)
  cases c₀
  simp_all [bodyPostS, results, Tryz.results21]
set_option maxRecDepth 5000 in
theorem own_lower {w : World} {B B' e s n : Nat} {v : Value} {xs : List Value} (h : w.ownsRow B e s v n xs) (hb : B' ≤ B) : w.ownsRow B' e s v n xs := by
  refine ⟨h.1, ?_⟩
  rcases h.2 with h1 | ⟨g, cap, cur, e1, h2, h3⟩
  · exact Or.inl h1
  · exact Or.inr ⟨g, cap, cur, e1, Nat.le_trans hb h2, h3⟩
def ReadP (b : List UInt8) (w : World) (e : Ending) (w' : World) : Prop :=
  ((∃ i f l v, M.msgq b = some (i, f, l.map (·.2.2)) ∧ e = .returned (.tuple #[.agg (mcells i f v), .int .i64 0]) ∧ OwnQ w' w.heap.size v l) ∨ (M.msgq b = none ∧ e = .returned (.tuple #[zmsg, .int .i64 60]))) ∧ Below w.heap.size w w'
set_option maxHeartbeats 3200000 in
set_option maxRecDepth 5000 in
theorem read_any (b : List UInt8) (ao : Option Addr) (c : Nat) (w : World) (hs : SlL w ao b) (hc : b.length ≤ c) (hnil : ao = none → c = 0) (h65 : b.length ≤ 65535) (hz : 12 ≤ b.length → M.num b 6 = 0 ∧ M.num b 8 = 0 ∧ M.num b 10 = 0) :
    Calls Tryz.prog 10 #[.slice ao b.length c] w fun e w' => ReadP b w e w' := by
  have hmf : ∀ (fn : Fn) (first cap : Array Value) (w : World), (Instr.makeFunc fn first cap).run Tryz.prog w = .ok (.func fn first cap) w := fun _ _ _ _ => rfl
  have hlt' : ¬ (65535 : Int) < (b.length : Int) := by omega
  have b1 := (Below.refl w.heap.size w).alloc (Nat.le_refl _) (.cells #[.int .u16 0, .bool false, .int .i64 0, .bool false, .bool false, .bool false, .bool false, .int .i64 0, .slice none 0 0, .slice none 0 0, .slice none 0 0, .slice none 0 0, .bool false, .int .u16 0, .bool false] 32)
  have b2 := b1.alloc (by simp) (.cells #[.int .i64 0] 34)
  have b3 := b2.alloc (by simp; omega) (.cells #[.slice ao b.length c, .int .i64 0] 63)
  have RM : Hid (RowAt (((w.alloc (.cells #[.int .u16 0, .bool false, .int .i64 0, .bool false, .bool false, .bool false, .bool false, .int .i64 0, .slice none 0 0, .slice none 0 0, .slice none 0 0, .slice none 0 0, .bool false, .int .u16 0, .bool false] 32)).alloc (.cells #[.int .i64 0] 34)).alloc (.cells #[.slice ao b.length c, .int .i64 0] 63)) (w.heap.size) 32 #[.int .u16 0, .bool false, .int .i64 0, .bool false, .bool false, .bool false, .bool false, .int .i64 0, .slice none 0 0, .slice none 0 0, .slice none 0 0, .slice none 0 0, .bool false, .int .u16 0, .bool false]) := ((RowAt.new w 32 #[.int .u16 0, .bool false, .int .i64 0, .bool false, .bool false, .bool false, .bool false, .int .i64 0, .slice none 0 0, .slice none 0 0, .slice none 0 0, .slice none 0 0, .bool false, .int .u16 0, .bool false]).alloc _).alloc _
  have RE : Hid (RowAt (((w.alloc (.cells #[.int .u16 0, .bool false, .int .i64 0, .bool false, .bool false, .bool false, .bool false, .int .i64 0, .slice none 0 0, .slice none 0 0, .slice none 0 0, .slice none 0 0, .bool false, .int .u16 0, .bool false] 32)).alloc (.cells #[.int .i64 0] 34)).alloc (.cells #[.slice ao b.length c, .int .i64 0] 63)) (w.heap.size + 1) 34 #[.int .i64 0]) := by
    have h := (RowAt.new (w.alloc (.cells #[.int .u16 0, .bool false, .int .i64 0, .bool false, .bool false, .bool false, .bool false, .int .i64 0, .slice none 0 0, .slice none 0 0, .slice none 0 0, .slice none 0 0, .bool false, .int .u16 0, .bool false] 32)) 34 #[.int .i64 0]).alloc (.cells #[.slice ao b.length c, .int .i64 0] 63)
    rw [World.size_alloc] at h; exact h
  have DR : Hid (RdW w.heap.size (w.heap.size + 2) ao c b 0 (((w.alloc (.cells #[.int .u16 0, .bool false, .int .i64 0, .bool false, .bool false, .bool false, .bool false, .int .i64 0, .slice none 0 0, .slice none 0 0, .slice none 0 0, .slice none 0 0, .bool false, .int .u16 0, .bool false] 32)).alloc (.cells #[.int .i64 0] 34)).alloc (.cells #[.slice ao b.length c, .int .i64 0] 63))) := by
    have h := RowAt.new ((w.alloc (.cells #[.int .u16 0, .bool false, .int .i64 0, .bool false, .bool false, .bool false, .bool false, .int .i64 0, .slice none 0 0, .slice none 0 0, .slice none 0 0, .slice none 0 0, .bool false, .int .u16 0, .bool false] 32)).alloc (.cells #[.int .i64 0] 34)) 63 #[.slice ao b.length c, .int .i64 0]
    rw [World.size_alloc, World.size_alloc] at h
    exact ⟨h, (SlL.slB hs).below b3, hc, hnil, by omega, h65, by omega, b3.size⟩
  have B3 := hide b3
  clear b1 b2 b3 hs
  go_enter_defers Tryz.func10, Tryz.ntmps10
  go_wp2_with fail
  refine (msg_any w.heap.size (w.heap.size + 2) ao c b _ (by exact DR.out) hz).mono ?_
  rintro e w1 ⟨⟨i, f, l, v, ho, rfl, hO⟩ | ⟨ho, rfl⟩, hm⟩
  rotate_left
  · have RE2 := hide (row_mv RE.out (by omega) hm)
    have RM2 := hide (row_mv RM.out (by omega) hm)
    have B4 := hide (B3.out.trans (hm.below (by omega) (by simp; omega)))
    have HO := hide ho
    have k2 : w1.cell? ⟨w.heap.size + 1, 0, none⟩ = some (.int .i64 0) := RE2.out.cell 0
    clear ho hm DR RE RM B3
    unfold fell60
    go_wp2
    refine leaves_cons (f := 21) (args := #[.pointer (some ⟨w.heap.size + 1, 0, none⟩)]) (by simp) (by simp [go_sem]) ?_
    refine (read1_fell (w.heap.size + 1) _ 34 _ _ (RE2.out.cell 0) (RE2.out.frozen 0)).mono ?_
    rintro e u' w'' ⟨rfl, rfl, hw⟩
    have q0 : w''.cell? ⟨w.heap.size + 1, 0, none⟩ = some (.int .i64 60) := by rw [hw]; exact (RE2.out.set 0 _).cell 0
    have RM3 : RowAt w'' (w.heap.size) 32 #[.int .u16 0, .bool false, .int .i64 0, .bool false, .bool false, .bool false, .bool false, .int .i64 0, .slice none 0 0, .slice none 0 0, .slice none 0 0, .slice none 0 0, .bool false, .int .u16 0, .bool false] := by rw [hw]; exact RM2.out.other _ _ (by simp)
    have hb : Below w.heap.size w w'' := by rw [hw]; exact B4.out.setCell (by simp) _
    have y0 : w''.cell? ⟨w.heap.size, 0, none⟩ = some (.int .u16 0) := RM3.cell 0
    have y1 : w''.cell? ⟨w.heap.size, 1, none⟩ = some (.bool false) := RM3.cell 1
    have y2 : w''.cell? ⟨w.heap.size, 2, none⟩ = some (.int .i64 0) := RM3.cell 2
    have y3 : w''.cell? ⟨w.heap.size, 3, none⟩ = some (.bool false) := RM3.cell 3
    have y4 : w''.cell? ⟨w.heap.size, 4, none⟩ = some (.bool false) := RM3.cell 4
    have y5 : w''.cell? ⟨w.heap.size, 5, none⟩ = some (.bool false) := RM3.cell 5
    have y6 : w''.cell? ⟨w.heap.size, 6, none⟩ = some (.bool false) := RM3.cell 6
    have y7 : w''.cell? ⟨w.heap.size, 7, none⟩ = some (.int .i64 0) := RM3.cell 7
    have y8 : w''.cell? ⟨w.heap.size, 8, none⟩ = some (.slice none 0 0) := RM3.cell 8
    have y9 : w''.cell? ⟨w.heap.size, 9, none⟩ = some (.slice none 0 0) := RM3.cell 9
    have y10 : w''.cell? ⟨w.heap.size, 10, none⟩ = some (.slice none 0 0) := RM3.cell 10
    have y11 : w''.cell? ⟨w.heap.size, 11, none⟩ = some (.slice none 0 0) := RM3.cell 11
    have y12 : w''.cell? ⟨w.heap.size, 12, none⟩ = some (.bool false) := RM3.cell 12
    have y13 : w''.cell? ⟨w.heap.size, 13, none⟩ = some (.int .u16 0) := RM3.cell 13
    have y14 : w''.cell? ⟨w.heap.size, 14, none⟩ = some (.bool false) := RM3.cell 14
    clear hw RM3
    simp [Leaves, settle, results, Tryz.results10, go_sem, q0, y0, y1, y2, y3, y4, y5, y6, y7, y8, y9, y10, y11, y12, y13, y14]
    exact ⟨Or.inr ⟨HO.out, rfl⟩, hb⟩
  obtain ⟨av, cv, rfl⟩ := hO.form
  have re := row_mv RE.out (by omega) hm
  have rm := row_mv RM.out (by omega) hm
  have B4 := hide (B3.out.trans (hm.below (by omega) (by simp; omega)))
  have O4 := hide hO
  have HO := hide ho
  have k2 : w1.cell? ⟨w.heap.size + 1, 0, none⟩ = some (.int .i64 0) := re.cell 0
  have k3 : w1.frozen? ⟨w.heap.size + 1, 0, none⟩ = false := re.frozen 0
  have y0 : w1.cell? ⟨w.heap.size, 0, none⟩ = some (.int .u16 0) := rm.cell 0
  have f0 : w1.frozen? ⟨w.heap.size, 0, none⟩ = false := rm.frozen 0
  have y1 : w1.cell? ⟨w.heap.size, 1, none⟩ = some (.bool false) := rm.cell 1
  have f1 : w1.frozen? ⟨w.heap.size, 1, none⟩ = false := rm.frozen 1
  have y2 : w1.cell? ⟨w.heap.size, 2, none⟩ = some (.int .i64 0) := rm.cell 2
  have f2 : w1.frozen? ⟨w.heap.size, 2, none⟩ = false := rm.frozen 2
  have y3 : w1.cell? ⟨w.heap.size, 3, none⟩ = some (.bool false) := rm.cell 3
  have f3 : w1.frozen? ⟨w.heap.size, 3, none⟩ = false := rm.frozen 3
  have y4 : w1.cell? ⟨w.heap.size, 4, none⟩ = some (.bool false) := rm.cell 4
  have f4 : w1.frozen? ⟨w.heap.size, 4, none⟩ = false := rm.frozen 4
  have y5 : w1.cell? ⟨w.heap.size, 5, none⟩ = some (.bool false) := rm.cell 5
  have f5 : w1.frozen? ⟨w.heap.size, 5, none⟩ = false := rm.frozen 5
  have y6 : w1.cell? ⟨w.heap.size, 6, none⟩ = some (.bool false) := rm.cell 6
  have f6 : w1.frozen? ⟨w.heap.size, 6, none⟩ = false := rm.frozen 6
  have y7 : w1.cell? ⟨w.heap.size, 7, none⟩ = some (.int .i64 0) := rm.cell 7
  have f7 : w1.frozen? ⟨w.heap.size, 7, none⟩ = false := rm.frozen 7
  have y8 : w1.cell? ⟨w.heap.size, 8, none⟩ = some (.slice none 0 0) := rm.cell 8
  have f8 : w1.frozen? ⟨w.heap.size, 8, none⟩ = false := rm.frozen 8
  have y9 : w1.cell? ⟨w.heap.size, 9, none⟩ = some (.slice none 0 0) := rm.cell 9
  have f9 : w1.frozen? ⟨w.heap.size, 9, none⟩ = false := rm.frozen 9
  have y10 : w1.cell? ⟨w.heap.size, 10, none⟩ = some (.slice none 0 0) := rm.cell 10
  have f10 : w1.frozen? ⟨w.heap.size, 10, none⟩ = false := rm.frozen 10
  have y11 : w1.cell? ⟨w.heap.size, 11, none⟩ = some (.slice none 0 0) := rm.cell 11
  have f11 : w1.frozen? ⟨w.heap.size, 11, none⟩ = false := rm.frozen 11
  have y12 : w1.cell? ⟨w.heap.size, 12, none⟩ = some (.bool false) := rm.cell 12
  have f12 : w1.frozen? ⟨w.heap.size, 12, none⟩ = false := rm.frozen 12
  have y13 : w1.cell? ⟨w.heap.size, 13, none⟩ = some (.int .u16 0) := rm.cell 13
  have f13 : w1.frozen? ⟨w.heap.size, 13, none⟩ = false := rm.frozen 13
  have y14 : w1.cell? ⟨w.heap.size, 14, none⟩ = some (.bool false) := rm.cell 14
  have f14 : w1.frozen? ⟨w.heap.size, 14, none⟩ = false := rm.frozen 14
  have RE2 := hide re
  have RM2 := hide rm
  clear ho hm hO DR RE RM B3 re rm
  unfold mcells
  go_wp2
  have s0 : RowAt (w1.setCell ⟨w.heap.size, 0, none⟩ (.int .u16 (i : Int))) (w.heap.size) 32 #[.int .u16 (i : Int), .bool false, .int .i64 0, .bool false, .bool false, .bool false, .bool false, .int .i64 0, .slice none 0 0, .slice none 0 0, .slice none 0 0, .slice none 0 0, .bool false, .int .u16 0, .bool false] := RM2.out.set 0 _
  have s1 : RowAt ((w1.setCell ⟨w.heap.size, 0, none⟩ (.int .u16 (i : Int))).setCell ⟨w.heap.size, 1, none⟩ (.bool (M.g1 f))) (w.heap.size) 32 #[.int .u16 (i : Int), .bool (M.g1 f), .int .i64 0, .bool false, .bool false, .bool false, .bool false, .int .i64 0, .slice none 0 0, .slice none 0 0, .slice none 0 0, .slice none 0 0, .bool false, .int .u16 0, .bool false] := s0.set 1 _
  have s2 : RowAt (((w1.setCell ⟨w.heap.size, 0, none⟩ (.int .u16 (i : Int))).setCell ⟨w.heap.size, 1, none⟩ (.bool (M.g1 f))).setCell ⟨w.heap.size, 2, none⟩ (.int .i64 (M.g2 f))) (w.heap.size) 32 #[.int .u16 (i : Int), .bool (M.g1 f), .int .i64 (M.g2 f), .bool false, .bool false, .bool false, .bool false, .int .i64 0, .slice none 0 0, .slice none 0 0, .slice none 0 0, .slice none 0 0, .bool false, .int .u16 0, .bool false] := s1.set 2 _
  have s3 : RowAt ((((w1.setCell ⟨w.heap.size, 0, none⟩ (.int .u16 (i : Int))).setCell ⟨w.heap.size, 1, none⟩ (.bool (M.g1 f))).setCell ⟨w.heap.size, 2, none⟩ (.int .i64 (M.g2 f))).setCell ⟨w.heap.size, 3, none⟩ (.bool (M.g3 f))) (w.heap.size) 32 #[.int .u16 (i : Int), .bool (M.g1 f), .int .i64 (M.g2 f), .bool (M.g3 f), .bool false, .bool false, .bool false, .int .i64 0, .slice none 0 0, .slice none 0 0, .slice none 0 0, .slice none 0 0, .bool false, .int .u16 0, .bool false] := s2.set 3 _
  have s4 : RowAt (((((w1.setCell ⟨w.heap.size, 0, none⟩ (.int .u16 (i : Int))).setCell ⟨w.heap.size, 1, none⟩ (.bool (M.g1 f))).setCell ⟨w.heap.size, 2, none⟩ (.int .i64 (M.g2 f))).setCell ⟨w.heap.size, 3, none⟩ (.bool (M.g3 f))).setCell ⟨w.heap.size, 4, none⟩ (.bool (M.g4 f))) (w.heap.size) 32 #[.int .u16 (i : Int), .bool (M.g1 f), .int .i64 (M.g2 f), .bool (M.g3 f), .bool (M.g4 f), .bool false, .bool false, .int .i64 0, .slice none 0 0, .slice none 0 0, .slice none 0 0, .slice none 0 0, .bool false, .int .u16 0, .bool false] := s3.set 4 _
  have s5 : RowAt ((((((w1.setCell ⟨w.heap.size, 0, none⟩ (.int .u16 (i : Int))).setCell ⟨w.heap.size, 1, none⟩ (.bool (M.g1 f))).setCell ⟨w.heap.size, 2, none⟩ (.int .i64 (M.g2 f))).setCell ⟨w.heap.size, 3, none⟩ (.bool (M.g3 f))).setCell ⟨w.heap.size, 4, none⟩ (.bool (M.g4 f))).setCell ⟨w.heap.size, 5, none⟩ (.bool (M.g5 f))) (w.heap.size) 32 #[.int .u16 (i : Int), .bool (M.g1 f), .int .i64 (M.g2 f), .bool (M.g3 f), .bool (M.g4 f), .bool (M.g5 f), .bool false, .int .i64 0, .slice none 0 0, .slice none 0 0, .slice none 0 0, .slice none 0 0, .bool false, .int .u16 0, .bool false] := s4.set 5 _
  have s6 : RowAt (((((((w1.setCell ⟨w.heap.size, 0, none⟩ (.int .u16 (i : Int))).setCell ⟨w.heap.size, 1, none⟩ (.bool (M.g1 f))).setCell ⟨w.heap.size, 2, none⟩ (.int .i64 (M.g2 f))).setCell ⟨w.heap.size, 3, none⟩ (.bool (M.g3 f))).setCell ⟨w.heap.size, 4, none⟩ (.bool (M.g4 f))).setCell ⟨w.heap.size, 5, none⟩ (.bool (M.g5 f))).setCell ⟨w.heap.size, 6, none⟩ (.bool (M.g6 f))) (w.heap.size) 32 #[.int .u16 (i : Int), .bool (M.g1 f), .int .i64 (M.g2 f), .bool (M.g3 f), .bool (M.g4 f), .bool (M.g5 f), .bool (M.g6 f), .int .i64 0, .slice none 0 0, .slice none 0 0, .slice none 0 0, .slice none 0 0, .bool false, .int .u16 0, .bool false] := s5.set 6 _
  have s7 : RowAt ((((((((w1.setCell ⟨w.heap.size, 0, none⟩ (.int .u16 (i : Int))).setCell ⟨w.heap.size, 1, none⟩ (.bool (M.g1 f))).setCell ⟨w.heap.size, 2, none⟩ (.int .i64 (M.g2 f))).setCell ⟨w.heap.size, 3, none⟩ (.bool (M.g3 f))).setCell ⟨w.heap.size, 4, none⟩ (.bool (M.g4 f))).setCell ⟨w.heap.size, 5, none⟩ (.bool (M.g5 f))).setCell ⟨w.heap.size, 6, none⟩ (.bool (M.g6 f))).setCell ⟨w.heap.size, 7, none⟩ (.int .i64 (M.g7 f))) (w.heap.size) 32 #[.int .u16 (i : Int), .bool (M.g1 f), .int .i64 (M.g2 f), .bool (M.g3 f), .bool (M.g4 f), .bool (M.g5 f), .bool (M.g6 f), .int .i64 (M.g7 f), .slice none 0 0, .slice none 0 0, .slice none 0 0, .slice none 0 0, .bool false, .int .u16 0, .bool false] := s6.set 7 _
  have s8 : RowAt (((((((((w1.setCell ⟨w.heap.size, 0, none⟩ (.int .u16 (i : Int))).setCell ⟨w.heap.size, 1, none⟩ (.bool (M.g1 f))).setCell ⟨w.heap.size, 2, none⟩ (.int .i64 (M.g2 f))).setCell ⟨w.heap.size, 3, none⟩ (.bool (M.g3 f))).setCell ⟨w.heap.size, 4, none⟩ (.bool (M.g4 f))).setCell ⟨w.heap.size, 5, none⟩ (.bool (M.g5 f))).setCell ⟨w.heap.size, 6, none⟩ (.bool (M.g6 f))).setCell ⟨w.heap.size, 7, none⟩ (.int .i64 (M.g7 f))).setCell ⟨w.heap.size, 8, none⟩ (.slice av l.length cv)) (w.heap.size) 32 #[.int .u16 (i : Int), .bool (M.g1 f), .int .i64 (M.g2 f), .bool (M.g3 f), .bool (M.g4 f), .bool (M.g5 f), .bool (M.g6 f), .int .i64 (M.g7 f), .slice av l.length cv, .slice none 0 0, .slice none 0 0, .slice none 0 0, .bool false, .int .u16 0, .bool false] := s7.set 8 _
  have s9 : RowAt ((((((((((w1.setCell ⟨w.heap.size, 0, none⟩ (.int .u16 (i : Int))).setCell ⟨w.heap.size, 1, none⟩ (.bool (M.g1 f))).setCell ⟨w.heap.size, 2, none⟩ (.int .i64 (M.g2 f))).setCell ⟨w.heap.size, 3, none⟩ (.bool (M.g3 f))).setCell ⟨w.heap.size, 4, none⟩ (.bool (M.g4 f))).setCell ⟨w.heap.size, 5, none⟩ (.bool (M.g5 f))).setCell ⟨w.heap.size, 6, none⟩ (.bool (M.g6 f))).setCell ⟨w.heap.size, 7, none⟩ (.int .i64 (M.g7 f))).setCell ⟨w.heap.size, 8, none⟩ (.slice av l.length cv)).setCell ⟨w.heap.size, 9, none⟩ (.slice none 0 0)) (w.heap.size) 32 #[.int .u16 (i : Int), .bool (M.g1 f), .int .i64 (M.g2 f), .bool (M.g3 f), .bool (M.g4 f), .bool (M.g5 f), .bool (M.g6 f), .int .i64 (M.g7 f), .slice av l.length cv, .slice none 0 0, .slice none 0 0, .slice none 0 0, .bool false, .int .u16 0, .bool false] := s8.set 9 _
  have s10 : RowAt (((((((((((w1.setCell ⟨w.heap.size, 0, none⟩ (.int .u16 (i : Int))).setCell ⟨w.heap.size, 1, none⟩ (.bool (M.g1 f))).setCell ⟨w.heap.size, 2, none⟩ (.int .i64 (M.g2 f))).setCell ⟨w.heap.size, 3, none⟩ (.bool (M.g3 f))).setCell ⟨w.heap.size, 4, none⟩ (.bool (M.g4 f))).setCell ⟨w.heap.size, 5, none⟩ (.bool (M.g5 f))).setCell ⟨w.heap.size, 6, none⟩ (.bool (M.g6 f))).setCell ⟨w.heap.size, 7, none⟩ (.int .i64 (M.g7 f))).setCell ⟨w.heap.size, 8, none⟩ (.slice av l.length cv)).setCell ⟨w.heap.size, 9, none⟩ (.slice none 0 0)).setCell ⟨w.heap.size, 10, none⟩ (.slice none 0 0)) (w.heap.size) 32 #[.int .u16 (i : Int), .bool (M.g1 f), .int .i64 (M.g2 f), .bool (M.g3 f), .bool (M.g4 f), .bool (M.g5 f), .bool (M.g6 f), .int .i64 (M.g7 f), .slice av l.length cv, .slice none 0 0, .slice none 0 0, .slice none 0 0, .bool false, .int .u16 0, .bool false] := s9.set 10 _
  have s11 : RowAt ((((((((((((w1.setCell ⟨w.heap.size, 0, none⟩ (.int .u16 (i : Int))).setCell ⟨w.heap.size, 1, none⟩ (.bool (M.g1 f))).setCell ⟨w.heap.size, 2, none⟩ (.int .i64 (M.g2 f))).setCell ⟨w.heap.size, 3, none⟩ (.bool (M.g3 f))).setCell ⟨w.heap.size, 4, none⟩ (.bool (M.g4 f))).setCell ⟨w.heap.size, 5, none⟩ (.bool (M.g5 f))).setCell ⟨w.heap.size, 6, none⟩ (.bool (M.g6 f))).setCell ⟨w.heap.size, 7, none⟩ (.int .i64 (M.g7 f))).setCell ⟨w.heap.size, 8, none⟩ (.slice av l.length cv)).setCell ⟨w.heap.size, 9, none⟩ (.slice none 0 0)).setCell ⟨w.heap.size, 10, none⟩ (.slice none 0 0)).setCell ⟨w.heap.size, 11, none⟩ (.slice none 0 0)) (w.heap.size) 32 #[.int .u16 (i : Int), .bool (M.g1 f), .int .i64 (M.g2 f), .bool (M.g3 f), .bool (M.g4 f), .bool (M.g5 f), .bool (M.g6 f), .int .i64 (M.g7 f), .slice av l.length cv, .slice none 0 0, .slice none 0 0, .slice none 0 0, .bool false, .int .u16 0, .bool false] := s10.set 11 _
  have s12 : RowAt (((((((((((((w1.setCell ⟨w.heap.size, 0, none⟩ (.int .u16 (i : Int))).setCell ⟨w.heap.size, 1, none⟩ (.bool (M.g1 f))).setCell ⟨w.heap.size, 2, none⟩ (.int .i64 (M.g2 f))).setCell ⟨w.heap.size, 3, none⟩ (.bool (M.g3 f))).setCell ⟨w.heap.size, 4, none⟩ (.bool (M.g4 f))).setCell ⟨w.heap.size, 5, none⟩ (.bool (M.g5 f))).setCell ⟨w.heap.size, 6, none⟩ (.bool (M.g6 f))).setCell ⟨w.heap.size, 7, none⟩ (.int .i64 (M.g7 f))).setCell ⟨w.heap.size, 8, none⟩ (.slice av l.length cv)).setCell ⟨w.heap.size, 9, none⟩ (.slice none 0 0)).setCell ⟨w.heap.size, 10, none⟩ (.slice none 0 0)).setCell ⟨w.heap.size, 11, none⟩ (.slice none 0 0)).setCell ⟨w.heap.size, 12, none⟩ (.bool false)) (w.heap.size) 32 #[.int .u16 (i : Int), .bool (M.g1 f), .int .i64 (M.g2 f), .bool (M.g3 f), .bool (M.g4 f), .bool (M.g5 f), .bool (M.g6 f), .int .i64 (M.g7 f), .slice av l.length cv, .slice none 0 0, .slice none 0 0, .slice none 0 0, .bool false, .int .u16 0, .bool false] := s11.set 12 _
  have s13 : RowAt ((((((((((((((w1.setCell ⟨w.heap.size, 0, none⟩ (.int .u16 (i : Int))).setCell ⟨w.heap.size, 1, none⟩ (.bool (M.g1 f))).setCell ⟨w.heap.size, 2, none⟩ (.int .i64 (M.g2 f))).setCell ⟨w.heap.size, 3, none⟩ (.bool (M.g3 f))).setCell ⟨w.heap.size, 4, none⟩ (.bool (M.g4 f))).setCell ⟨w.heap.size, 5, none⟩ (.bool (M.g5 f))).setCell ⟨w.heap.size, 6, none⟩ (.bool (M.g6 f))).setCell ⟨w.heap.size, 7, none⟩ (.int .i64 (M.g7 f))).setCell ⟨w.heap.size, 8, none⟩ (.slice av l.length cv)).setCell ⟨w.heap.size, 9, none⟩ (.slice none 0 0)).setCell ⟨w.heap.size, 10, none⟩ (.slice none 0 0)).setCell ⟨w.heap.size, 11, none⟩ (.slice none 0 0)).setCell ⟨w.heap.size, 12, none⟩ (.bool false)).setCell ⟨w.heap.size, 13, none⟩ (.int .u16 0)) (w.heap.size) 32 #[.int .u16 (i : Int), .bool (M.g1 f), .int .i64 (M.g2 f), .bool (M.g3 f), .bool (M.g4 f), .bool (M.g5 f), .bool (M.g6 f), .int .i64 (M.g7 f), .slice av l.length cv, .slice none 0 0, .slice none 0 0, .slice none 0 0, .bool false, .int .u16 0, .bool false] := s12.set 13 _
  have s14 : RowAt (((((((((((((((w1.setCell ⟨w.heap.size, 0, none⟩ (.int .u16 (i : Int))).setCell ⟨w.heap.size, 1, none⟩ (.bool (M.g1 f))).setCell ⟨w.heap.size, 2, none⟩ (.int .i64 (M.g2 f))).setCell ⟨w.heap.size, 3, none⟩ (.bool (M.g3 f))).setCell ⟨w.heap.size, 4, none⟩ (.bool (M.g4 f))).setCell ⟨w.heap.size, 5, none⟩ (.bool (M.g5 f))).setCell ⟨w.heap.size, 6, none⟩ (.bool (M.g6 f))).setCell ⟨w.heap.size, 7, none⟩ (.int .i64 (M.g7 f))).setCell ⟨w.heap.size, 8, none⟩ (.slice av l.length cv)).setCell ⟨w.heap.size, 9, none⟩ (.slice none 0 0)).setCell ⟨w.heap.size, 10, none⟩ (.slice none 0 0)).setCell ⟨w.heap.size, 11, none⟩ (.slice none 0 0)).setCell ⟨w.heap.size, 12, none⟩ (.bool false)).setCell ⟨w.heap.size, 13, none⟩ (.int .u16 0)).setCell ⟨w.heap.size, 14, none⟩ (.bool false)) (w.heap.size) 32 #[.int .u16 (i : Int), .bool (M.g1 f), .int .i64 (M.g2 f), .bool (M.g3 f), .bool (M.g4 f), .bool (M.g5 f), .bool (M.g6 f), .int .i64 (M.g7 f), .slice av l.length cv, .slice none 0 0, .slice none 0 0, .slice none 0 0, .bool false, .int .u16 0, .bool false] := s13.set 14 _
  have mm := (((((((((((((((Mv.refl (w.heap.size) w1).trans (Mv.set (w.heap.size) 0 _ (.int .u16 (i : Int)))).trans (Mv.set (w.heap.size) 1 _ (.bool (M.g1 f)))).trans (Mv.set (w.heap.size) 2 _ (.int .i64 (M.g2 f)))).trans (Mv.set (w.heap.size) 3 _ (.bool (M.g3 f)))).trans (Mv.set (w.heap.size) 4 _ (.bool (M.g4 f)))).trans (Mv.set (w.heap.size) 5 _ (.bool (M.g5 f)))).trans (Mv.set (w.heap.size) 6 _ (.bool (M.g6 f)))).trans (Mv.set (w.heap.size) 7 _ (.int .i64 (M.g7 f)))).trans (Mv.set (w.heap.size) 8 _ (.slice av l.length cv))).trans (Mv.set (w.heap.size) 9 _ (.slice none 0 0))).trans (Mv.set (w.heap.size) 10 _ (.slice none 0 0))).trans (Mv.set (w.heap.size) 11 _ (.slice none 0 0))).trans (Mv.set (w.heap.size) 12 _ (.bool false))).trans (Mv.set (w.heap.size) 13 _ (.int .u16 0))).trans (Mv.set (w.heap.size) 14 _ (.bool false))
  have OX := O4.out.mv RM2.out (by decide) (by decide) mm
  have re := row_mv RE2.out (by omega) mm
  have bx : Below w.heap.size w (((((((((((((((w1.setCell ⟨w.heap.size, 0, none⟩ (.int .u16 (i : Int))).setCell ⟨w.heap.size, 1, none⟩ (.bool (M.g1 f))).setCell ⟨w.heap.size, 2, none⟩ (.int .i64 (M.g2 f))).setCell ⟨w.heap.size, 3, none⟩ (.bool (M.g3 f))).setCell ⟨w.heap.size, 4, none⟩ (.bool (M.g4 f))).setCell ⟨w.heap.size, 5, none⟩ (.bool (M.g5 f))).setCell ⟨w.heap.size, 6, none⟩ (.bool (M.g6 f))).setCell ⟨w.heap.size, 7, none⟩ (.int .i64 (M.g7 f))).setCell ⟨w.heap.size, 8, none⟩ (.slice av l.length cv)).setCell ⟨w.heap.size, 9, none⟩ (.slice none 0 0)).setCell ⟨w.heap.size, 10, none⟩ (.slice none 0 0)).setCell ⟨w.heap.size, 11, none⟩ (.slice none 0 0)).setCell ⟨w.heap.size, 12, none⟩ (.bool false)).setCell ⟨w.heap.size, 13, none⟩ (.int .u16 0)).setCell ⟨w.heap.size, 14, none⟩ (.bool false)) := B4.out.trans (mm.below (Nat.le_refl _) B4.out.size)
  clear s0 s1 s2 s3 s4 s5 s6 s7 s8 s9 s10 s11 s12 s13 y0 f0 y1 f1 y2 f2 y3 f3 y4 f4 y5 f5 y6 f6 y7 f7 y8 f8 y9 f9 y10 f10 y11 f11 y12 f12 y13 f13 y14 f14 mm O4 RM2 RE2 B4 k2 k3
  generalize (((((((((((((((w1.setCell ⟨w.heap.size, 0, none⟩ (.int .u16 (i : Int))).setCell ⟨w.heap.size, 1, none⟩ (.bool (M.g1 f))).setCell ⟨w.heap.size, 2, none⟩ (.int .i64 (M.g2 f))).setCell ⟨w.heap.size, 3, none⟩ (.bool (M.g3 f))).setCell ⟨w.heap.size, 4, none⟩ (.bool (M.g4 f))).setCell ⟨w.heap.size, 5, none⟩ (.bool (M.g5 f))).setCell ⟨w.heap.size, 6, none⟩ (.bool (M.g6 f))).setCell ⟨w.heap.size, 7, none⟩ (.int .i64 (M.g7 f))).setCell ⟨w.heap.size, 8, none⟩ (.slice av l.length cv)).setCell ⟨w.heap.size, 9, none⟩ (.slice none 0 0)).setCell ⟨w.heap.size, 10, none⟩ (.slice none 0 0)).setCell ⟨w.heap.size, 11, none⟩ (.slice none 0 0)).setCell ⟨w.heap.size, 12, none⟩ (.bool false)).setCell ⟨w.heap.size, 13, none⟩ (.int .u16 0)).setCell ⟨w.heap.size, 14, none⟩ (.bool false)) = X at s14 OX re bx ⊢
  refine leaves_cons (f := 21) (args := #[.pointer (some ⟨w.heap.size + 1, 0, none⟩)]) (by simp) (by simp [go_sem]) ?_
  refine (read1_idle (w.heap.size + 1) _).mono ?_
  rintro e u' w'' ⟨rfl, rfl, hw⟩
  have q0 : w''.cell? ⟨w.heap.size + 1, 0, none⟩ = some (.int .i64 0) := by rw [hw]; exact (re.set 0 _).cell 0
  have hb : Below w.heap.size w w'' := by rw [hw]; exact bx.setCell (by simp) _
  have OY : OwnQ w'' w.heap.size (.slice av l.length cv) l := by
    rw [hw]
    have h := OX.mv re (by decide) (by decide) (Mv.set (w.heap.size + 1) 0 X (.int .i64 0))
    exact ⟨own_lower h.1 (by simp; omega), fun x hx => (h.2 x hx).lower (by simp; omega)⟩
  have RY : RowAt w'' (w.heap.size) 32 #[.int .u16 (i : Int), .bool (M.g1 f), .int .i64 (M.g2 f), .bool (M.g3 f), .bool (M.g4 f), .bool (M.g5 f), .bool (M.g6 f), .int .i64 (M.g7 f), .slice av l.length cv, .slice none 0 0, .slice none 0 0, .slice none 0 0, .bool false, .int .u16 0, .bool false] := by rw [hw]; exact s14.other _ _ (by simp)
  have z0 : w''.cell? ⟨w.heap.size, 0, none⟩ = some (.int .u16 (i : Int)) := RY.cell 0
  have z1 : w''.cell? ⟨w.heap.size, 1, none⟩ = some (.bool (M.g1 f)) := RY.cell 1
  have z2 : w''.cell? ⟨w.heap.size, 2, none⟩ = some (.int .i64 (M.g2 f)) := RY.cell 2
  have z3 : w''.cell? ⟨w.heap.size, 3, none⟩ = some (.bool (M.g3 f)) := RY.cell 3
  have z4 : w''.cell? ⟨w.heap.size, 4, none⟩ = some (.bool (M.g4 f)) := RY.cell 4
  have z5 : w''.cell? ⟨w.heap.size, 5, none⟩ = some (.bool (M.g5 f)) := RY.cell 5
  have z6 : w''.cell? ⟨w.heap.size, 6, none⟩ = some (.bool (M.g6 f)) := RY.cell 6
  have z7 : w''.cell? ⟨w.heap.size, 7, none⟩ = some (.int .i64 (M.g7 f)) := RY.cell 7
  have z8 : w''.cell? ⟨w.heap.size, 8, none⟩ = some (.slice av l.length cv) := RY.cell 8
  have z9 : w''.cell? ⟨w.heap.size, 9, none⟩ = some (.slice none 0 0) := RY.cell 9
  have z10 : w''.cell? ⟨w.heap.size, 10, none⟩ = some (.slice none 0 0) := RY.cell 10
  have z11 : w''.cell? ⟨w.heap.size, 11, none⟩ = some (.slice none 0 0) := RY.cell 11
  have z12 : w''.cell? ⟨w.heap.size, 12, none⟩ = some (.bool false) := RY.cell 12
  have z13 : w''.cell? ⟨w.heap.size, 13, none⟩ = some (.int .u16 0) := RY.cell 13
  have z14 : w''.cell? ⟨w.heap.size, 14, none⟩ = some (.bool false) := RY.cell 14
  clear hw RY s14 OX re bx
  simp [Leaves, settle, results, Tryz.results10, go_sem, q0, z0, z1, z2, z3, z4, z5, z6, z7, z8, z9, z10, z11, z12, z13, z14]
  exact ⟨Or.inl ⟨i, f, l, _, HO.out, rfl, OY⟩, hb⟩
end Go.Proofs.YtpgebiopckmgbabGreat
