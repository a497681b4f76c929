/- rdata.whole at api.Sig; Sig. -/
import Derived.Test.YtagopkmehlpjpaaWhlK
namespace Go.Proofs.Ytagopkmehlpjpaa
open Go.RowKit
set_option maxRecDepth 5000 in
theorem wSig1_fell (A : Nat) (ve : Value) (u : TypeId) (pv : Value) (w : World) (hq : w.cell? ⟨A, 0, none⟩ = some ve) (fq : w.frozen? ⟨A, 0, none⟩ = false) :
    CallsD Try.prog 81 #[.pointer (some ⟨A, 0, none⟩)] (.panicking [{ v := .iface u pv, recovered := false }]) w fun e u' w' =>
      e = .returned (.tuple #[]) ∧ u' = .panicking [{ v := .iface u pv, recovered := true }] ∧ w' = w.setCell ⟨A, 0, none⟩ (.int .i64 50) := by
  refine callsD_of_wpS Try.func81 rfl fun c₀ cs hu => ?_
  apply wpS_seq
  apply wpS_region
  simp [wpOpsS, go_sem, recoverD, hu, Try.ntmps81, Exit.thenS]
  refine wpS_cond (t := true) (by simp [Act.eval, Array.replicate]) ?_
  simp only [if_true]
  apply wpS_region
  simp [wpOpsS, go_sem, hq, fq, bodyPostS, results, Try.results81]
set_option maxRecDepth 5000 in
theorem wSig1_idle (A : Nat) (w : World) :
    CallsD Try.prog 81 #[.pointer (some ⟨A, 0, none⟩)] .returning w fun e u' w' => e = .returned (.tuple #[]) ∧ u' = .returning ∧ w' = w := by
  refine callsD_of_wpS Try.func81 rfl fun c₀ cs hu => ?_
  apply wpS_seq
  apply wpS_region
  simp [wpOpsS, go_sem, recoverD, hu, Try.ntmps81, Exit.thenS]
  refine wpS_cond (t := false) (by simp [Act.eval, Array.replicate]) ?_
  simp only [Bool.false_eq_true, if_false]
  refine wpS_of_wp (wp_skip ?_)
  cases c₀
  simp_all [bodyPostS, results, Try.results81]
set_option maxHeartbeats 1600000 in
set_option maxRecDepth 5000 in
theorem wSig_any (b : List UInt8) (ao : Option Addr) (len cap : Nat) (w : World) (hl : Hid (b.length = len)) (hs : SlL w ao b) (hc : len ≤ cap) (hnil : ao = none → cap = 0) :
    Calls Try.prog 55 #[.slice ao len cap, .func (.func 56) #[] #[]] w fun e w' => Ans (D.full b (D.sig b)) SigV (.agg #[.int .u16 0, .int .u8 0, .int .u8 0, .int .u32 0, .int .u32 0, .int .u32 0, .int .u16 0, .slice none 0 0, .slice none 0 0]) w e w' := by
  have hmf : ∀ (fn : Fn) (first cap : Array Value) (w : World), (Instr.makeFunc fn first cap).run Try.prog w = .ok (.func fn first cap) w := fun _ _ _ _ => rfl
  have HS := hide hs
  have NI := hide hnil
  clear hs hnil
  have b0 : Below w.heap.size w ((w.alloc (.cells #[.int .u16 0, .int .u8 0, .int .u8 0, .int .u32 0, .int .u32 0, .int .u32 0, .int .u16 0, .slice none 0 0, .slice none 0 0] 51)).alloc (.cells #[.int .i64 0] 25)) := ((Below.refl w.heap.size w).alloc (Nat.le_refl _) _).alloc (by simp) _
  have r4 : RowAt ((w.alloc (.cells #[.int .u16 0, .int .u8 0, .int .u8 0, .int .u32 0, .int .u32 0, .int .u32 0, .int .u16 0, .slice none 0 0, .slice none 0 0] 51)).alloc (.cells #[.int .i64 0] 25)) w.heap.size 51 #[.int .u16 0, .int .u8 0, .int .u8 0, .int .u32 0, .int .u32 0, .int .u32 0, .int .u16 0, .slice none 0 0, .slice none 0 0] := (RowAt.new w 51 #[.int .u16 0, .int .u8 0, .int .u8 0, .int .u32 0, .int .u32 0, .int .u32 0, .int .u16 0, .slice none 0 0, .slice none 0 0]).alloc _
  have r5 : RowAt ((w.alloc (.cells #[.int .u16 0, .int .u8 0, .int .u8 0, .int .u32 0, .int .u32 0, .int .u32 0, .int .u16 0, .slice none 0 0, .slice none 0 0] 51)).alloc (.cells #[.int .i64 0] 25)) (w.heap.size + 1) 25 #[.int .i64 0] := by
    have := RowAt.new (w.alloc (.cells #[.int .u16 0, .int .u8 0, .int .u8 0, .int .u32 0, .int .u32 0, .int .u32 0, .int .u16 0, .slice none 0 0, .slice none 0 0] 51)) 25 #[.int .i64 0]
    rwa [World.size_alloc] at this
  have sz : ((w.alloc (.cells #[.int .u16 0, .int .u8 0, .int .u8 0, .int .u32 0, .int .u32 0, .int .u32 0, .int .u16 0, .slice none 0 0, .slice none 0 0] 51)).alloc (.cells #[.int .i64 0] 25)).heap.size = w.heap.size + 2 := by simp
  have B0 := hide b0
  have R4 := hide r4
  have R5 := hide r5
  have SZ := hide sz
  clear b0 r4 r5 sz
  rcases Nat.lt_or_ge 8192 len with hlt | hge
  · have hlt' : (8192 : Int) < (len : Int) := by omega
    have HF : Hid (D.full b (D.sig b) = none) := D.full_long (by rw [hl.out]; exact hlt)
    have k0 := R5.out.cell 0
    go_enter_defers Try.func55, Try.ntmps55
    go_wp2
    refine leaves_cons (f := 81) (args := #[.pointer (some ⟨w.heap.size + 1, 0, none⟩)]) (by simp) (by simp [go_sem]) ?_
    refine (wSig1_fell (w.heap.size + 1) _ 25 _ _ (R5.out.cell 0) (R5.out.frozen 0)).mono ?_
    rintro e u' w'' ⟨rfl, rfl, hw⟩
    have q0 : w''.cell? ⟨w.heap.size + 1, 0, none⟩ = some (.int .i64 50) := by rw [hw]; exact (R5.out.set 0 _).cell 0
    have hz : RowAt w'' w.heap.size 51 #[.int .u16 0, .int .u8 0, .int .u8 0, .int .u32 0, .int .u32 0, .int .u32 0, .int .u16 0, .slice none 0 0, .slice none 0 0] := by rw [hw]; exact R4.out.other _ _ (by show w.heap.size ≠ w.heap.size + 1; omega)
    have y0 : w''.cell? ⟨w.heap.size, 0, none⟩ = some (.int .u16 0) := hz.cell 0
    have y1 : w''.cell? ⟨w.heap.size, 1, none⟩ = some (.int .u8 0) := hz.cell 1
    have y2 : w''.cell? ⟨w.heap.size, 2, none⟩ = some (.int .u8 0) := hz.cell 2
    have y3 : w''.cell? ⟨w.heap.size, 3, none⟩ = some (.int .u32 0) := hz.cell 3
    have y4 : w''.cell? ⟨w.heap.size, 4, none⟩ = some (.int .u32 0) := hz.cell 4
    have y5 : w''.cell? ⟨w.heap.size, 5, none⟩ = some (.int .u32 0) := hz.cell 5
    have y6 : w''.cell? ⟨w.heap.size, 6, none⟩ = some (.int .u16 0) := hz.cell 6
    have y7 : w''.cell? ⟨w.heap.size, 7, none⟩ = some (.slice none 0 0) := hz.cell 7
    have y8 : w''.cell? ⟨w.heap.size, 8, none⟩ = some (.slice none 0 0) := hz.cell 8
    have hb : Below w.heap.size w w'' := by rw [hw]; exact (B0.out).setCell (by show w.heap.size ≤ w.heap.size + 1; omega) _
    simp [Leaves, settle, results, Try.results55, go_sem, q0, y0, y1, y2, y3, y4, y5, y6, y7, y8]
    exact ⟨Or.inr ⟨HF.out, rfl⟩, hb⟩
  · have hge' : ¬ (8192 : Int) < (len : Int) := by omega
    have R41 := hide (R4.out.alloc (.cells #[.slice ao len cap] 111))
    have R51 := hide (R5.out.alloc (.cells #[.slice ao len cap] 111))
    have b1 := B0.out.alloc (by rw [SZ.out]; omega) (.cells #[.slice ao len cap] 111)
    have hT := RowAt.new ((w.alloc (.cells #[.int .u16 0, .int .u8 0, .int .u8 0, .int .u32 0, .int .u32 0, .int .u32 0, .int .u16 0, .slice none 0 0, .slice none 0 0] 51)).alloc (.cells #[.int .i64 0] 25)) 111 #[.slice ao len cap]
    rw [SZ.out] at hT
    have D1 : Hid (Rdr w.heap.size (w.heap.size + 2) b (((w.alloc (.cells #[.int .u16 0, .int .u8 0, .int .u8 0, .int .u32 0, .int .u32 0, .int .u32 0, .int .u16 0, .slice none 0 0, .slice none 0 0] 51)).alloc (.cells #[.int .i64 0] 25)).alloc (.cells #[.slice ao len cap] 111))) := by
      have hT' := hT
      rw [← hl.out] at hT' b1 ⊢
      exact rdr_new (w.heap.size + 2) HS.out b1 hT' (by omega) (by rw [hl.out]; exact hc) NI.out (by rw [hl.out]; exact hge)
    have B1 := hide b1
    have SZ1 : Hid (w.heap.size + 2 < (((w.alloc (.cells #[.int .u16 0, .int .u8 0, .int .u8 0, .int .u32 0, .int .u32 0, .int .u32 0, .int .u16 0, .slice none 0 0, .slice none 0 0] 51)).alloc (.cells #[.int .i64 0] 25)).alloc (.cells #[.slice ao len cap] 111)).heap.size) := by show _ < _; rw [World.size_alloc, SZ.out]; omega
    clear hT b1 R4 R5 B0 HS NI SZ
    go_enter_defers Try.func55, Try.ntmps55
    go_wp2_with fail
    refine (takeSig_any w.heap.size (w.heap.size + 2) b _ (by exact D1.out)).mono ?_
    rintro e w1 ⟨⟨s, r, v, ho, rfl, ⟨a1, c1, a2, c2, rfl, hO1, hO2⟩, hr⟩ | ⟨ho, rfl⟩, hm⟩
    rotate_left
    · have R42 := hide (row_mv R41.out (by omega) hm)
      have R52 := hide (row_mv R51.out (by omega) hm)
      have B2 := hide (B1.out.trans (hm.below (by omega) (by have := SZ1.out; omega)))
      have HF : Hid (D.full b (D.sig b) = none) := D.full_none ho
      have k2 := R52.out.cell 0
      clear ho hm B1 R41 R51 D1 SZ1
      unfold fell50
      go_wp2
      refine leaves_cons (f := 81) (args := #[.pointer (some ⟨w.heap.size + 1, 0, none⟩)]) (by simp) (by simp [go_sem]) ?_
      refine (wSig1_fell (w.heap.size + 1) _ 25 _ _ (R52.out.cell 0) (R52.out.frozen 0)).mono ?_
      rintro e u' w'' ⟨rfl, rfl, hw⟩
      have q0 : w''.cell? ⟨w.heap.size + 1, 0, none⟩ = some (.int .i64 50) := by rw [hw]; exact (R52.out.set 0 _).cell 0
      have hz : RowAt w'' w.heap.size 51 #[.int .u16 0, .int .u8 0, .int .u8 0, .int .u32 0, .int .u32 0, .int .u32 0, .int .u16 0, .slice none 0 0, .slice none 0 0] := by rw [hw]; exact R42.out.other _ _ (by show w.heap.size ≠ w.heap.size + 1; omega)
      have y0 : w''.cell? ⟨w.heap.size, 0, none⟩ = some (.int .u16 0) := hz.cell 0
      have y1 : w''.cell? ⟨w.heap.size, 1, none⟩ = some (.int .u8 0) := hz.cell 1
      have y2 : w''.cell? ⟨w.heap.size, 2, none⟩ = some (.int .u8 0) := hz.cell 2
      have y3 : w''.cell? ⟨w.heap.size, 3, none⟩ = some (.int .u32 0) := hz.cell 3
      have y4 : w''.cell? ⟨w.heap.size, 4, none⟩ = some (.int .u32 0) := hz.cell 4
      have y5 : w''.cell? ⟨w.heap.size, 5, none⟩ = some (.int .u32 0) := hz.cell 5
      have y6 : w''.cell? ⟨w.heap.size, 6, none⟩ = some (.int .u16 0) := hz.cell 6
      have y7 : w''.cell? ⟨w.heap.size, 7, none⟩ = some (.slice none 0 0) := hz.cell 7
      have y8 : w''.cell? ⟨w.heap.size, 8, none⟩ = some (.slice none 0 0) := hz.cell 8
      have hb : Below w.heap.size w w'' := by rw [hw]; exact (B2.out).setCell (by show w.heap.size ≤ w.heap.size + 1; omega) _
      simp [Leaves, settle, results, Try.results55, go_sem, q0, y0, y1, y2, y3, y4, y5, y6, y7, y8]
      exact ⟨Or.inr ⟨HF.out, rfl⟩, hb⟩
    have z1 : w.heap.size + 2 < w1.heap.size := Nat.lt_of_lt_of_le SZ1.out hm.size
    have al := (Below.refl w1.heap.size w1).alloc (Nat.le_refl _) (.cells #[.int .u16 (s.type : Int), .int .u8 (s.alg : Int), .int .u8 (s.labels : Int), .int .u32 (s.ttl : Int), .int .u32 (s.expire : Int), .int .u32 (s.begin_ : Int), .int .u16 (s.tag : Int), .slice a1 s.signer.length c1, .slice a2 s.sig.length c2] 51)
    have GF := hide (RowAt.new w1 51 #[.int .u16 (s.type : Int), .int .u8 (s.alg : Int), .int .u8 (s.labels : Int), .int .u32 (s.ttl : Int), .int .u32 (s.expire : Int), .int .u32 (s.begin_ : Int), .int .u16 (s.tag : Int), .slice a1 s.signer.length c1, .slice a2 s.sig.length c2])
    have D2 := hide (hr.below al)
    have R42 := hide ((row_mv R41.out (by omega) hm).alloc (.cells #[.int .u16 (s.type : Int), .int .u8 (s.alg : Int), .int .u8 (s.labels : Int), .int .u32 (s.ttl : Int), .int .u32 (s.expire : Int), .int .u32 (s.begin_ : Int), .int .u16 (s.tag : Int), .slice a1 s.signer.length c1, .slice a2 s.sig.length c2] 51))
    have R52 := hide ((row_mv R51.out (by omega) hm).alloc (.cells #[.int .u16 (s.type : Int), .int .u8 (s.alg : Int), .int .u8 (s.labels : Int), .int .u32 (s.ttl : Int), .int .u32 (s.expire : Int), .int .u32 (s.begin_ : Int), .int .u16 (s.tag : Int), .slice a1 s.signer.length c1, .slice a2 s.sig.length c2] 51))
    have B2 := hide ((B1.out.trans (hm.below (by omega) (by have := SZ1.out; omega))).trans (al.mono (by omega)))
    have O0 := hide (World.ownsRow.alloc (OwnS.lower (base' := w.heap.size) hO1 (by have := SZ1.out; omega)) (.cells #[.int .u16 (s.type : Int), .int .u8 (s.alg : Int), .int .u8 (s.labels : Int), .int .u32 (s.ttl : Int), .int .u32 (s.expire : Int), .int .u32 (s.begin_ : Int), .int .u16 (s.tag : Int), .slice a1 s.signer.length c1, .slice a2 s.sig.length c2] 51))
    have O1 := hide (World.ownsRow.alloc (OwnB.lower (base' := w.heap.size) hO2 (by have := SZ1.out; omega)) (.cells #[.int .u16 (s.type : Int), .int .u8 (s.alg : Int), .int .u8 (s.labels : Int), .int .u32 (s.ttl : Int), .int .u32 (s.expire : Int), .int .u32 (s.begin_ : Int), .int .u16 (s.tag : Int), .slice a1 s.signer.length c1, .slice a2 s.sig.length c2] 51))
    have HO := hide ho
    clear ho hr hm B1 R41 R51 D1 SZ1 al hO1 hO2
    go_wp2_with fail
    refine (rdone_any w.heap.size (w.heap.size + 2) r _ (by exact D2.out)).mono ?_
    rintro e w2 ⟨rfl, hw2⟩
    rw [← hw2] at D2 R42 R52 B2 GF O0 O1
    clear hw2
    by_cases hr0 : r = []
    · subst hr0
      have HF : Hid (D.full b (D.sig b) = some s) := D.full_some (by rw [hl.out]; exact hge) HO.out
      have g0 : w2.cell? ⟨w1.heap.size, 0, none⟩ = some (.int .u16 (s.type : Int)) := GF.out.cell 0
      have k0 : w2.cell? ⟨w.heap.size, 0, none⟩ = some (.int .u16 0) := R42.out.cell 0
      have f0 := R42.out.frozen 0
      have g1 : w2.cell? ⟨w1.heap.size, 1, none⟩ = some (.int .u8 (s.alg : Int)) := GF.out.cell 1
      have k1 : w2.cell? ⟨w.heap.size, 1, none⟩ = some (.int .u8 0) := R42.out.cell 1
      have f1 := R42.out.frozen 1
      have g2 : w2.cell? ⟨w1.heap.size, 2, none⟩ = some (.int .u8 (s.labels : Int)) := GF.out.cell 2
      have k2 : w2.cell? ⟨w.heap.size, 2, none⟩ = some (.int .u8 0) := R42.out.cell 2
      have f2 := R42.out.frozen 2
      have g3 : w2.cell? ⟨w1.heap.size, 3, none⟩ = some (.int .u32 (s.ttl : Int)) := GF.out.cell 3
      have k3 : w2.cell? ⟨w.heap.size, 3, none⟩ = some (.int .u32 0) := R42.out.cell 3
      have f3 := R42.out.frozen 3
      have g4 : w2.cell? ⟨w1.heap.size, 4, none⟩ = some (.int .u32 (s.expire : Int)) := GF.out.cell 4
      have k4 : w2.cell? ⟨w.heap.size, 4, none⟩ = some (.int .u32 0) := R42.out.cell 4
      have f4 := R42.out.frozen 4
      have g5 : w2.cell? ⟨w1.heap.size, 5, none⟩ = some (.int .u32 (s.begin_ : Int)) := GF.out.cell 5
      have k5 : w2.cell? ⟨w.heap.size, 5, none⟩ = some (.int .u32 0) := R42.out.cell 5
      have f5 := R42.out.frozen 5
      have g6 : w2.cell? ⟨w1.heap.size, 6, none⟩ = some (.int .u16 (s.tag : Int)) := GF.out.cell 6
      have k6 : w2.cell? ⟨w.heap.size, 6, none⟩ = some (.int .u16 0) := R42.out.cell 6
      have f6 := R42.out.frozen 6
      have g7 : w2.cell? ⟨w1.heap.size, 7, none⟩ = some (.slice a1 s.signer.length c1) := GF.out.cell 7
      have k7 : w2.cell? ⟨w.heap.size, 7, none⟩ = some (.slice none 0 0) := R42.out.cell 7
      have f7 := R42.out.frozen 7
      have g8 : w2.cell? ⟨w1.heap.size, 8, none⟩ = some (.slice a2 s.sig.length c2) := GF.out.cell 8
      have k8 : w2.cell? ⟨w.heap.size, 8, none⟩ = some (.slice none 0 0) := R42.out.cell 8
      have f8 := R42.out.frozen 8
      have k5 : w2.cell? ⟨w.heap.size + 1, 0, none⟩ = some (.int .i64 0) := R52.out.cell 0
      have f5 := R52.out.frozen 0
      have E0 := hide R42.out
      have E1 : Hid (RowAt ((w2).setCell ⟨w.heap.size, 0, none⟩ (.int .u16 (s.type : Int))) w.heap.size 51 #[.int .u16 (s.type : Int), .int .u8 0, .int .u8 0, .int .u32 0, .int .u32 0, .int .u32 0, .int .u16 0, .slice none 0 0, .slice none 0 0]) := E0.out.set 0 _
      have E2 : Hid (RowAt (((w2).setCell ⟨w.heap.size, 0, none⟩ (.int .u16 (s.type : Int))).setCell ⟨w.heap.size, 1, none⟩ (.int .u8 (s.alg : Int))) w.heap.size 51 #[.int .u16 (s.type : Int), .int .u8 (s.alg : Int), .int .u8 0, .int .u32 0, .int .u32 0, .int .u32 0, .int .u16 0, .slice none 0 0, .slice none 0 0]) := E1.out.set 1 _
      have E3 : Hid (RowAt ((((w2).setCell ⟨w.heap.size, 0, none⟩ (.int .u16 (s.type : Int))).setCell ⟨w.heap.size, 1, none⟩ (.int .u8 (s.alg : Int))).setCell ⟨w.heap.size, 2, none⟩ (.int .u8 (s.labels : Int))) w.heap.size 51 #[.int .u16 (s.type : Int), .int .u8 (s.alg : Int), .int .u8 (s.labels : Int), .int .u32 0, .int .u32 0, .int .u32 0, .int .u16 0, .slice none 0 0, .slice none 0 0]) := E2.out.set 2 _
      have E4 : Hid (RowAt (((((w2).setCell ⟨w.heap.size, 0, none⟩ (.int .u16 (s.type : Int))).setCell ⟨w.heap.size, 1, none⟩ (.int .u8 (s.alg : Int))).setCell ⟨w.heap.size, 2, none⟩ (.int .u8 (s.labels : Int))).setCell ⟨w.heap.size, 3, none⟩ (.int .u32 (s.ttl : Int))) w.heap.size 51 #[.int .u16 (s.type : Int), .int .u8 (s.alg : Int), .int .u8 (s.labels : Int), .int .u32 (s.ttl : Int), .int .u32 0, .int .u32 0, .int .u16 0, .slice none 0 0, .slice none 0 0]) := E3.out.set 3 _
      have E5 : Hid (RowAt ((((((w2).setCell ⟨w.heap.size, 0, none⟩ (.int .u16 (s.type : Int))).setCell ⟨w.heap.size, 1, none⟩ (.int .u8 (s.alg : Int))).setCell ⟨w.heap.size, 2, none⟩ (.int .u8 (s.labels : Int))).setCell ⟨w.heap.size, 3, none⟩ (.int .u32 (s.ttl : Int))).setCell ⟨w.heap.size, 4, none⟩ (.int .u32 (s.expire : Int))) w.heap.size 51 #[.int .u16 (s.type : Int), .int .u8 (s.alg : Int), .int .u8 (s.labels : Int), .int .u32 (s.ttl : Int), .int .u32 (s.expire : Int), .int .u32 0, .int .u16 0, .slice none 0 0, .slice none 0 0]) := E4.out.set 4 _
      have E6 : Hid (RowAt (((((((w2).setCell ⟨w.heap.size, 0, none⟩ (.int .u16 (s.type : Int))).setCell ⟨w.heap.size, 1, none⟩ (.int .u8 (s.alg : Int))).setCell ⟨w.heap.size, 2, none⟩ (.int .u8 (s.labels : Int))).setCell ⟨w.heap.size, 3, none⟩ (.int .u32 (s.ttl : Int))).setCell ⟨w.heap.size, 4, none⟩ (.int .u32 (s.expire : Int))).setCell ⟨w.heap.size, 5, none⟩ (.int .u32 (s.begin_ : Int))) w.heap.size 51 #[.int .u16 (s.type : Int), .int .u8 (s.alg : Int), .int .u8 (s.labels : Int), .int .u32 (s.ttl : Int), .int .u32 (s.expire : Int), .int .u32 (s.begin_ : Int), .int .u16 0, .slice none 0 0, .slice none 0 0]) := E5.out.set 5 _
      have E7 : Hid (RowAt ((((((((w2).setCell ⟨w.heap.size, 0, none⟩ (.int .u16 (s.type : Int))).setCell ⟨w.heap.size, 1, none⟩ (.int .u8 (s.alg : Int))).setCell ⟨w.heap.size, 2, none⟩ (.int .u8 (s.labels : Int))).setCell ⟨w.heap.size, 3, none⟩ (.int .u32 (s.ttl : Int))).setCell ⟨w.heap.size, 4, none⟩ (.int .u32 (s.expire : Int))).setCell ⟨w.heap.size, 5, none⟩ (.int .u32 (s.begin_ : Int))).setCell ⟨w.heap.size, 6, none⟩ (.int .u16 (s.tag : Int))) w.heap.size 51 #[.int .u16 (s.type : Int), .int .u8 (s.alg : Int), .int .u8 (s.labels : Int), .int .u32 (s.ttl : Int), .int .u32 (s.expire : Int), .int .u32 (s.begin_ : Int), .int .u16 (s.tag : Int), .slice none 0 0, .slice none 0 0]) := E6.out.set 6 _
      have E8 : Hid (RowAt (((((((((w2).setCell ⟨w.heap.size, 0, none⟩ (.int .u16 (s.type : Int))).setCell ⟨w.heap.size, 1, none⟩ (.int .u8 (s.alg : Int))).setCell ⟨w.heap.size, 2, none⟩ (.int .u8 (s.labels : Int))).setCell ⟨w.heap.size, 3, none⟩ (.int .u32 (s.ttl : Int))).setCell ⟨w.heap.size, 4, none⟩ (.int .u32 (s.expire : Int))).setCell ⟨w.heap.size, 5, none⟩ (.int .u32 (s.begin_ : Int))).setCell ⟨w.heap.size, 6, none⟩ (.int .u16 (s.tag : Int))).setCell ⟨w.heap.size, 7, none⟩ (.slice a1 s.signer.length c1)) w.heap.size 51 #[.int .u16 (s.type : Int), .int .u8 (s.alg : Int), .int .u8 (s.labels : Int), .int .u32 (s.ttl : Int), .int .u32 (s.expire : Int), .int .u32 (s.begin_ : Int), .int .u16 (s.tag : Int), .slice a1 s.signer.length c1, .slice none 0 0]) := E7.out.set 7 _
      have E9 : Hid (RowAt ((((((((((w2).setCell ⟨w.heap.size, 0, none⟩ (.int .u16 (s.type : Int))).setCell ⟨w.heap.size, 1, none⟩ (.int .u8 (s.alg : Int))).setCell ⟨w.heap.size, 2, none⟩ (.int .u8 (s.labels : Int))).setCell ⟨w.heap.size, 3, none⟩ (.int .u32 (s.ttl : Int))).setCell ⟨w.heap.size, 4, none⟩ (.int .u32 (s.expire : Int))).setCell ⟨w.heap.size, 5, none⟩ (.int .u32 (s.begin_ : Int))).setCell ⟨w.heap.size, 6, none⟩ (.int .u16 (s.tag : Int))).setCell ⟨w.heap.size, 7, none⟩ (.slice a1 s.signer.length c1)).setCell ⟨w.heap.size, 8, none⟩ (.slice a2 s.sig.length c2)) w.heap.size 51 #[.int .u16 (s.type : Int), .int .u8 (s.alg : Int), .int .u8 (s.labels : Int), .int .u32 (s.ttl : Int), .int .u32 (s.expire : Int), .int .u32 (s.begin_ : Int), .int .u16 (s.tag : Int), .slice a1 s.signer.length c1, .slice a2 s.sig.length c2]) := E8.out.set 8 _
      have UE : Upd w.heap.size w2 ((((((((((w2).setCell ⟨w.heap.size, 0, none⟩ (.int .u16 (s.type : Int))).setCell ⟨w.heap.size, 1, none⟩ (.int .u8 (s.alg : Int))).setCell ⟨w.heap.size, 2, none⟩ (.int .u8 (s.labels : Int))).setCell ⟨w.heap.size, 3, none⟩ (.int .u32 (s.ttl : Int))).setCell ⟨w.heap.size, 4, none⟩ (.int .u32 (s.expire : Int))).setCell ⟨w.heap.size, 5, none⟩ (.int .u32 (s.begin_ : Int))).setCell ⟨w.heap.size, 6, none⟩ (.int .u16 (s.tag : Int))).setCell ⟨w.heap.size, 7, none⟩ (.slice a1 s.signer.length c1)).setCell ⟨w.heap.size, 8, none⟩ (.slice a2 s.sig.length c2)) := ((((((((((Upd.refl w.heap.size w2).set 0 (.int .u16 (s.type : Int))).set 1 (.int .u8 (s.alg : Int))).set 2 (.int .u8 (s.labels : Int))).set 3 (.int .u32 (s.ttl : Int))).set 4 (.int .u32 (s.expire : Int))).set 5 (.int .u32 (s.begin_ : Int))).set 6 (.int .u16 (s.tag : Int))).set 7 (.slice a1 s.signer.length c1)).set 8 (.slice a2 s.sig.length c2))
      have P4 := hide (E9.out.other ⟨w.heap.size + 1, 0, none⟩ (.int .i64 0) (by show w.heap.size ≠ w.heap.size + 1; omega))
      have P5 := hide ((UE.row R52.out (by omega)).set 0 (.int .i64 0))
      have PB := hide ((B2.out.trans (UE.below (Nat.le_refl _))).setCell (p := ⟨w.heap.size + 1, 0, none⟩) (by show w.heap.size ≤ w.heap.size + 1; omega) (.int .i64 0))
      have Q0 := hide (own_set (UE.own R42.out (by decide) O0.out) (UE.row R52.out (by omega)) (by decide) 0 (.int .i64 0))
      have Q1 := hide (own_set (UE.own R42.out (by decide) O1.out) (UE.row R52.out (by omega)) (by decide) 0 (.int .i64 0))
      clear UE E0 E1 E2 E3 E4 E5 E6 E7 E8 E9 O0 O1 R42 R52 B2 GF D2
      go_wp2
      refine leaves_cons (f := 81) (args := #[.pointer (some ⟨w.heap.size + 1, 0, none⟩)]) (by simp) (by simp [go_sem]) ?_
      refine (wSig1_idle (w.heap.size + 1) _).mono ?_
      rintro e u' w'' ⟨rfl, rfl, hw⟩
      rw [← hw] at P4 P5 PB Q0 Q1
      have q0 : w''.cell? ⟨w.heap.size + 1, 0, none⟩ = some (.int .i64 0) := P5.out.cell 0
      have y0 : w''.cell? ⟨w.heap.size, 0, none⟩ = some (.int .u16 (s.type : Int)) := P4.out.cell 0
      have y1 : w''.cell? ⟨w.heap.size, 1, none⟩ = some (.int .u8 (s.alg : Int)) := P4.out.cell 1
      have y2 : w''.cell? ⟨w.heap.size, 2, none⟩ = some (.int .u8 (s.labels : Int)) := P4.out.cell 2
      have y3 : w''.cell? ⟨w.heap.size, 3, none⟩ = some (.int .u32 (s.ttl : Int)) := P4.out.cell 3
      have y4 : w''.cell? ⟨w.heap.size, 4, none⟩ = some (.int .u32 (s.expire : Int)) := P4.out.cell 4
      have y5 : w''.cell? ⟨w.heap.size, 5, none⟩ = some (.int .u32 (s.begin_ : Int)) := P4.out.cell 5
      have y6 : w''.cell? ⟨w.heap.size, 6, none⟩ = some (.int .u16 (s.tag : Int)) := P4.out.cell 6
      have y7 : w''.cell? ⟨w.heap.size, 7, none⟩ = some (.slice a1 s.signer.length c1) := P4.out.cell 7
      have y8 : w''.cell? ⟨w.heap.size, 8, none⟩ = some (.slice a2 s.sig.length c2) := P4.out.cell 8
      simp [Leaves, settle, results, Try.results55, go_sem, q0, y0, y1, y2, y3, y4, y5, y6, y7, y8]
      exact ⟨Or.inl ⟨s, _, HF.out, rfl, ⟨_, _, _, _, rfl, Q0.out, Q1.out⟩⟩, PB.out⟩
    · have hd : decide (r = []) = false := decide_eq_false hr0
      have HF : Hid (D.full b (D.sig b) = none) := D.full_more HO.out hr0
      rw [hd]
      go_wp2
      refine leaves_cons (f := 81) (args := #[.pointer (some ⟨w.heap.size + 1, 0, none⟩)]) (by simp) (by simp [go_sem]) ?_
      refine (wSig1_fell (w.heap.size + 1) _ 25 _ _ (R52.out.cell 0) (R52.out.frozen 0)).mono ?_
      rintro e u' w'' ⟨rfl, rfl, hw⟩
      have q0 : w''.cell? ⟨w.heap.size + 1, 0, none⟩ = some (.int .i64 50) := by rw [hw]; exact (R52.out.set 0 _).cell 0
      have hz : RowAt w'' w.heap.size 51 #[.int .u16 0, .int .u8 0, .int .u8 0, .int .u32 0, .int .u32 0, .int .u32 0, .int .u16 0, .slice none 0 0, .slice none 0 0] := by rw [hw]; exact R42.out.other _ _ (by show w.heap.size ≠ w.heap.size + 1; omega)
      have y0 : w''.cell? ⟨w.heap.size, 0, none⟩ = some (.int .u16 0) := hz.cell 0
      have y1 : w''.cell? ⟨w.heap.size, 1, none⟩ = some (.int .u8 0) := hz.cell 1
      have y2 : w''.cell? ⟨w.heap.size, 2, none⟩ = some (.int .u8 0) := hz.cell 2
      have y3 : w''.cell? ⟨w.heap.size, 3, none⟩ = some (.int .u32 0) := hz.cell 3
      have y4 : w''.cell? ⟨w.heap.size, 4, none⟩ = some (.int .u32 0) := hz.cell 4
      have y5 : w''.cell? ⟨w.heap.size, 5, none⟩ = some (.int .u32 0) := hz.cell 5
      have y6 : w''.cell? ⟨w.heap.size, 6, none⟩ = some (.int .u16 0) := hz.cell 6
      have y7 : w''.cell? ⟨w.heap.size, 7, none⟩ = some (.slice none 0 0) := hz.cell 7
      have y8 : w''.cell? ⟨w.heap.size, 8, none⟩ = some (.slice none 0 0) := hz.cell 8
      have hb : Below w.heap.size w w'' := by rw [hw]; exact (B2.out).setCell (by show w.heap.size ≤ w.heap.size + 1; omega) _
      simp [Leaves, settle, results, Try.results55, go_sem, q0, y0, y1, y2, y3, y4, y5, y6, y7, y8]
      exact ⟨Or.inr ⟨HF.out, rfl⟩, hb⟩
set_option maxHeartbeats 800000 in
set_option maxRecDepth 5000 in
theorem Sig_any (b : List UInt8) (ao : Option Addr) (len cap : Nat) (w : World) (hl : Hid (b.length = len)) (hs : SlL w ao b) (hc : len ≤ cap) (hnil : ao = none → cap = 0) :
    Calls Try.prog 22 #[.slice ao len cap] w fun e w' => Ans (D.full b (D.sig b)) SigV (.agg #[.int .u16 0, .int .u8 0, .int .u8 0, .int .u32 0, .int .u32 0, .int .u32 0, .int .u16 0, .slice none 0 0, .slice none 0 0]) w e w' := by
  have HS := hide hs
  have NI := hide hnil
  have B0 := hide ((Below.refl w.heap.size w).alloc (Nat.le_refl _) (.cells #[.int .u16 0, .int .u8 0, .int .u8 0, .int .u32 0, .int .u32 0, .int .u32 0, .int .u16 0, .slice none 0 0, .slice none 0 0] 51))
  have R0 := hide (RowAt.new w 51 #[.int .u16 0, .int .u8 0, .int .u8 0, .int .u32 0, .int .u32 0, .int .u32 0, .int .u16 0, .slice none 0 0, .slice none 0 0])
  clear hs hnil
  go_enter Try.func22, Try.ntmps22
  go_wp2_with fail
  refine (wSig_any b ao len cap _ hl (by exact HS.out.alloc _) hc NI.out).mono ?_
  rintro e w1 ⟨⟨s, v, ho, rfl, ⟨a1, c1, a2, c2, rfl, hO1, hO2⟩⟩ | ⟨ho, rfl⟩, hb⟩
  · have R1 := hide (R0.out.below hb (by simp))
    have B1 := hide (B0.out.trans (hb.mono (by simp)))
    have k0 : w1.cell? ⟨w.heap.size, 0, none⟩ = some (.int .u16 0) := R1.out.cell 0
    have f0 := R1.out.frozen 0
    have k1 : w1.cell? ⟨w.heap.size, 1, none⟩ = some (.int .u8 0) := R1.out.cell 1
    have f1 := R1.out.frozen 1
    have k2 : w1.cell? ⟨w.heap.size, 2, none⟩ = some (.int .u8 0) := R1.out.cell 2
    have f2 := R1.out.frozen 2
    have k3 : w1.cell? ⟨w.heap.size, 3, none⟩ = some (.int .u32 0) := R1.out.cell 3
    have f3 := R1.out.frozen 3
    have k4 : w1.cell? ⟨w.heap.size, 4, none⟩ = some (.int .u32 0) := R1.out.cell 4
    have f4 := R1.out.frozen 4
    have k5 : w1.cell? ⟨w.heap.size, 5, none⟩ = some (.int .u32 0) := R1.out.cell 5
    have f5 := R1.out.frozen 5
    have k6 : w1.cell? ⟨w.heap.size, 6, none⟩ = some (.int .u16 0) := R1.out.cell 6
    have f6 := R1.out.frozen 6
    have k7 : w1.cell? ⟨w.heap.size, 7, none⟩ = some (.slice none 0 0) := R1.out.cell 7
    have f7 := R1.out.frozen 7
    have k8 : w1.cell? ⟨w.heap.size, 8, none⟩ = some (.slice none 0 0) := R1.out.cell 8
    have f8 := R1.out.frozen 8
    have E0 := hide R1.out
    have E1 : Hid (RowAt ((w1).setCell ⟨w.heap.size, 0, none⟩ (.int .u16 (s.type : Int))) w.heap.size 51 #[.int .u16 (s.type : Int), .int .u8 0, .int .u8 0, .int .u32 0, .int .u32 0, .int .u32 0, .int .u16 0, .slice none 0 0, .slice none 0 0]) := E0.out.set 0 _
    have E2 : Hid (RowAt (((w1).setCell ⟨w.heap.size, 0, none⟩ (.int .u16 (s.type : Int))).setCell ⟨w.heap.size, 1, none⟩ (.int .u8 (s.alg : Int))) w.heap.size 51 #[.int .u16 (s.type : Int), .int .u8 (s.alg : Int), .int .u8 0, .int .u32 0, .int .u32 0, .int .u32 0, .int .u16 0, .slice none 0 0, .slice none 0 0]) := E1.out.set 1 _
    have E3 : Hid (RowAt ((((w1).setCell ⟨w.heap.size, 0, none⟩ (.int .u16 (s.type : Int))).setCell ⟨w.heap.size, 1, none⟩ (.int .u8 (s.alg : Int))).setCell ⟨w.heap.size, 2, none⟩ (.int .u8 (s.labels : Int))) w.heap.size 51 #[.int .u16 (s.type : Int), .int .u8 (s.alg : Int), .int .u8 (s.labels : Int), .int .u32 0, .int .u32 0, .int .u32 0, .int .u16 0, .slice none 0 0, .slice none 0 0]) := E2.out.set 2 _
    have E4 : Hid (RowAt (((((w1).setCell ⟨w.heap.size, 0, none⟩ (.int .u16 (s.type : Int))).setCell ⟨w.heap.size, 1, none⟩ (.int .u8 (s.alg : Int))).setCell ⟨w.heap.size, 2, none⟩ (.int .u8 (s.labels : Int))).setCell ⟨w.heap.size, 3, none⟩ (.int .u32 (s.ttl : Int))) w.heap.size 51 #[.int .u16 (s.type : Int), .int .u8 (s.alg : Int), .int .u8 (s.labels : Int), .int .u32 (s.ttl : Int), .int .u32 0, .int .u32 0, .int .u16 0, .slice none 0 0, .slice none 0 0]) := E3.out.set 3 _
    have E5 : Hid (RowAt ((((((w1).setCell ⟨w.heap.size, 0, none⟩ (.int .u16 (s.type : Int))).setCell ⟨w.heap.size, 1, none⟩ (.int .u8 (s.alg : Int))).setCell ⟨w.heap.size, 2, none⟩ (.int .u8 (s.labels : Int))).setCell ⟨w.heap.size, 3, none⟩ (.int .u32 (s.ttl : Int))).setCell ⟨w.heap.size, 4, none⟩ (.int .u32 (s.expire : Int))) w.heap.size 51 #[.int .u16 (s.type : Int), .int .u8 (s.alg : Int), .int .u8 (s.labels : Int), .int .u32 (s.ttl : Int), .int .u32 (s.expire : Int), .int .u32 0, .int .u16 0, .slice none 0 0, .slice none 0 0]) := E4.out.set 4 _
    have E6 : Hid (RowAt (((((((w1).setCell ⟨w.heap.size, 0, none⟩ (.int .u16 (s.type : Int))).setCell ⟨w.heap.size, 1, none⟩ (.int .u8 (s.alg : Int))).setCell ⟨w.heap.size, 2, none⟩ (.int .u8 (s.labels : Int))).setCell ⟨w.heap.size, 3, none⟩ (.int .u32 (s.ttl : Int))).setCell ⟨w.heap.size, 4, none⟩ (.int .u32 (s.expire : Int))).setCell ⟨w.heap.size, 5, none⟩ (.int .u32 (s.begin_ : Int))) w.heap.size 51 #[.int .u16 (s.type : Int), .int .u8 (s.alg : Int), .int .u8 (s.labels : Int), .int .u32 (s.ttl : Int), .int .u32 (s.expire : Int), .int .u32 (s.begin_ : Int), .int .u16 0, .slice none 0 0, .slice none 0 0]) := E5.out.set 5 _
    have E7 : Hid (RowAt ((((((((w1).setCell ⟨w.heap.size, 0, none⟩ (.int .u16 (s.type : Int))).setCell ⟨w.heap.size, 1, none⟩ (.int .u8 (s.alg : Int))).setCell ⟨w.heap.size, 2, none⟩ (.int .u8 (s.labels : Int))).setCell ⟨w.heap.size, 3, none⟩ (.int .u32 (s.ttl : Int))).setCell ⟨w.heap.size, 4, none⟩ (.int .u32 (s.expire : Int))).setCell ⟨w.heap.size, 5, none⟩ (.int .u32 (s.begin_ : Int))).setCell ⟨w.heap.size, 6, none⟩ (.int .u16 (s.tag : Int))) w.heap.size 51 #[.int .u16 (s.type : Int), .int .u8 (s.alg : Int), .int .u8 (s.labels : Int), .int .u32 (s.ttl : Int), .int .u32 (s.expire : Int), .int .u32 (s.begin_ : Int), .int .u16 (s.tag : Int), .slice none 0 0, .slice none 0 0]) := E6.out.set 6 _
    have E8 : Hid (RowAt (((((((((w1).setCell ⟨w.heap.size, 0, none⟩ (.int .u16 (s.type : Int))).setCell ⟨w.heap.size, 1, none⟩ (.int .u8 (s.alg : Int))).setCell ⟨w.heap.size, 2, none⟩ (.int .u8 (s.labels : Int))).setCell ⟨w.heap.size, 3, none⟩ (.int .u32 (s.ttl : Int))).setCell ⟨w.heap.size, 4, none⟩ (.int .u32 (s.expire : Int))).setCell ⟨w.heap.size, 5, none⟩ (.int .u32 (s.begin_ : Int))).setCell ⟨w.heap.size, 6, none⟩ (.int .u16 (s.tag : Int))).setCell ⟨w.heap.size, 7, none⟩ (.slice a1 s.signer.length c1)) w.heap.size 51 #[.int .u16 (s.type : Int), .int .u8 (s.alg : Int), .int .u8 (s.labels : Int), .int .u32 (s.ttl : Int), .int .u32 (s.expire : Int), .int .u32 (s.begin_ : Int), .int .u16 (s.tag : Int), .slice a1 s.signer.length c1, .slice none 0 0]) := E7.out.set 7 _
    have E9 : Hid (RowAt ((((((((((w1).setCell ⟨w.heap.size, 0, none⟩ (.int .u16 (s.type : Int))).setCell ⟨w.heap.size, 1, none⟩ (.int .u8 (s.alg : Int))).setCell ⟨w.heap.size, 2, none⟩ (.int .u8 (s.labels : Int))).setCell ⟨w.heap.size, 3, none⟩ (.int .u32 (s.ttl : Int))).setCell ⟨w.heap.size, 4, none⟩ (.int .u32 (s.expire : Int))).setCell ⟨w.heap.size, 5, none⟩ (.int .u32 (s.begin_ : Int))).setCell ⟨w.heap.size, 6, none⟩ (.int .u16 (s.tag : Int))).setCell ⟨w.heap.size, 7, none⟩ (.slice a1 s.signer.length c1)).setCell ⟨w.heap.size, 8, none⟩ (.slice a2 s.sig.length c2)) w.heap.size 51 #[.int .u16 (s.type : Int), .int .u8 (s.alg : Int), .int .u8 (s.labels : Int), .int .u32 (s.ttl : Int), .int .u32 (s.expire : Int), .int .u32 (s.begin_ : Int), .int .u16 (s.tag : Int), .slice a1 s.signer.length c1, .slice a2 s.sig.length c2]) := E8.out.set 8 _
    have UE : Upd w.heap.size w1 ((((((((((w1).setCell ⟨w.heap.size, 0, none⟩ (.int .u16 (s.type : Int))).setCell ⟨w.heap.size, 1, none⟩ (.int .u8 (s.alg : Int))).setCell ⟨w.heap.size, 2, none⟩ (.int .u8 (s.labels : Int))).setCell ⟨w.heap.size, 3, none⟩ (.int .u32 (s.ttl : Int))).setCell ⟨w.heap.size, 4, none⟩ (.int .u32 (s.expire : Int))).setCell ⟨w.heap.size, 5, none⟩ (.int .u32 (s.begin_ : Int))).setCell ⟨w.heap.size, 6, none⟩ (.int .u16 (s.tag : Int))).setCell ⟨w.heap.size, 7, none⟩ (.slice a1 s.signer.length c1)).setCell ⟨w.heap.size, 8, none⟩ (.slice a2 s.sig.length c2)) := ((((((((((Upd.refl w.heap.size w1).set 0 (.int .u16 (s.type : Int))).set 1 (.int .u8 (s.alg : Int))).set 2 (.int .u8 (s.labels : Int))).set 3 (.int .u32 (s.ttl : Int))).set 4 (.int .u32 (s.expire : Int))).set 5 (.int .u32 (s.begin_ : Int))).set 6 (.int .u16 (s.tag : Int))).set 7 (.slice a1 s.signer.length c1)).set 8 (.slice a2 s.sig.length c2))
    have PB := hide (B1.out.trans (UE.below (Nat.le_refl _)))
    have EF := hide E9.out
    have Q0 := hide (UE.own R1.out (by decide) (OwnS.lower (base' := w.heap.size) hO1 (by simp)))
    have Q1 := hide (UE.own R1.out (by decide) (OwnB.lower (base' := w.heap.size) hO2 (by simp)))
    have HO := hide ho
    clear ho UE B1 R1 E0 E1 E2 E3 E4 E5 E6 E7 E8 E9 hO1 hO2
    go_wp2
    generalize ((((((((((w1).setCell ⟨w.heap.size, 0, none⟩ (.int .u16 (s.type : Int))).setCell ⟨w.heap.size, 1, none⟩ (.int .u8 (s.alg : Int))).setCell ⟨w.heap.size, 2, none⟩ (.int .u8 (s.labels : Int))).setCell ⟨w.heap.size, 3, none⟩ (.int .u32 (s.ttl : Int))).setCell ⟨w.heap.size, 4, none⟩ (.int .u32 (s.expire : Int))).setCell ⟨w.heap.size, 5, none⟩ (.int .u32 (s.begin_ : Int))).setCell ⟨w.heap.size, 6, none⟩ (.int .u16 (s.tag : Int))).setCell ⟨w.heap.size, 7, none⟩ (.slice a1 s.signer.length c1)).setCell ⟨w.heap.size, 8, none⟩ (.slice a2 s.sig.length c2)) = F at EF PB Q0 Q1 ⊢
    have y0 : F.cell? ⟨w.heap.size, 0, none⟩ = some (.int .u16 (s.type : Int)) := EF.out.cell 0
    have y1 : F.cell? ⟨w.heap.size, 1, none⟩ = some (.int .u8 (s.alg : Int)) := EF.out.cell 1
    have y2 : F.cell? ⟨w.heap.size, 2, none⟩ = some (.int .u8 (s.labels : Int)) := EF.out.cell 2
    have y3 : F.cell? ⟨w.heap.size, 3, none⟩ = some (.int .u32 (s.ttl : Int)) := EF.out.cell 3
    have y4 : F.cell? ⟨w.heap.size, 4, none⟩ = some (.int .u32 (s.expire : Int)) := EF.out.cell 4
    have y5 : F.cell? ⟨w.heap.size, 5, none⟩ = some (.int .u32 (s.begin_ : Int)) := EF.out.cell 5
    have y6 : F.cell? ⟨w.heap.size, 6, none⟩ = some (.int .u16 (s.tag : Int)) := EF.out.cell 6
    have y7 : F.cell? ⟨w.heap.size, 7, none⟩ = some (.slice a1 s.signer.length c1) := EF.out.cell 7
    have y8 : F.cell? ⟨w.heap.size, 8, none⟩ = some (.slice a2 s.sig.length c2) := EF.out.cell 8
    simp [bodyPost, results, Try.results22, go_sem, y0, y1, y2, y3, y4, y5, y6, y7, y8]
    exact ⟨Or.inl ⟨s, _, HO.out, rfl, ⟨_, _, _, _, rfl, Q0.out, Q1.out⟩⟩, PB.out⟩
  · have R1 := hide (R0.out.below hb (by simp))
    have B1 := hide (B0.out.trans (hb.mono (by simp)))
    have k0 : w1.cell? ⟨w.heap.size, 0, none⟩ = some (.int .u16 0) := R1.out.cell 0
    have f0 := R1.out.frozen 0
    have k1 : w1.cell? ⟨w.heap.size, 1, none⟩ = some (.int .u8 0) := R1.out.cell 1
    have f1 := R1.out.frozen 1
    have k2 : w1.cell? ⟨w.heap.size, 2, none⟩ = some (.int .u8 0) := R1.out.cell 2
    have f2 := R1.out.frozen 2
    have k3 : w1.cell? ⟨w.heap.size, 3, none⟩ = some (.int .u32 0) := R1.out.cell 3
    have f3 := R1.out.frozen 3
    have k4 : w1.cell? ⟨w.heap.size, 4, none⟩ = some (.int .u32 0) := R1.out.cell 4
    have f4 := R1.out.frozen 4
    have k5 : w1.cell? ⟨w.heap.size, 5, none⟩ = some (.int .u32 0) := R1.out.cell 5
    have f5 := R1.out.frozen 5
    have k6 : w1.cell? ⟨w.heap.size, 6, none⟩ = some (.int .u16 0) := R1.out.cell 6
    have f6 := R1.out.frozen 6
    have k7 : w1.cell? ⟨w.heap.size, 7, none⟩ = some (.slice none 0 0) := R1.out.cell 7
    have f7 := R1.out.frozen 7
    have k8 : w1.cell? ⟨w.heap.size, 8, none⟩ = some (.slice none 0 0) := R1.out.cell 8
    have f8 := R1.out.frozen 8
    have EF : Hid (RowAt ((((((((((w1).setCell ⟨w.heap.size, 0, none⟩ (.int .u16 0)).setCell ⟨w.heap.size, 1, none⟩ (.int .u8 0)).setCell ⟨w.heap.size, 2, none⟩ (.int .u8 0)).setCell ⟨w.heap.size, 3, none⟩ (.int .u32 0)).setCell ⟨w.heap.size, 4, none⟩ (.int .u32 0)).setCell ⟨w.heap.size, 5, none⟩ (.int .u32 0)).setCell ⟨w.heap.size, 6, none⟩ (.int .u16 0)).setCell ⟨w.heap.size, 7, none⟩ (.slice none 0 0)).setCell ⟨w.heap.size, 8, none⟩ (.slice none 0 0)) w.heap.size 51 #[.int .u16 0, .int .u8 0, .int .u8 0, .int .u32 0, .int .u32 0, .int .u32 0, .int .u16 0, .slice none 0 0, .slice none 0 0]) := (((((((((R1.out.same 0 rfl).same 1 rfl).same 2 rfl).same 3 rfl).same 4 rfl).same 5 rfl).same 6 rfl).same 7 rfl).same 8 rfl)
    have UE : Upd w.heap.size w1 ((((((((((w1).setCell ⟨w.heap.size, 0, none⟩ (.int .u16 0)).setCell ⟨w.heap.size, 1, none⟩ (.int .u8 0)).setCell ⟨w.heap.size, 2, none⟩ (.int .u8 0)).setCell ⟨w.heap.size, 3, none⟩ (.int .u32 0)).setCell ⟨w.heap.size, 4, none⟩ (.int .u32 0)).setCell ⟨w.heap.size, 5, none⟩ (.int .u32 0)).setCell ⟨w.heap.size, 6, none⟩ (.int .u16 0)).setCell ⟨w.heap.size, 7, none⟩ (.slice none 0 0)).setCell ⟨w.heap.size, 8, none⟩ (.slice none 0 0)) := ((((((((((Upd.refl w.heap.size w1).set 0 (.int .u16 0)).set 1 (.int .u8 0)).set 2 (.int .u8 0)).set 3 (.int .u32 0)).set 4 (.int .u32 0)).set 5 (.int .u32 0)).set 6 (.int .u16 0)).set 7 (.slice none 0 0)).set 8 (.slice none 0 0))
    have PB := hide (B1.out.trans (UE.below (Nat.le_refl _)))
    have HO := hide ho
    clear ho UE B1 R1
    go_wp2
    generalize ((((((((((w1).setCell ⟨w.heap.size, 0, none⟩ (.int .u16 0)).setCell ⟨w.heap.size, 1, none⟩ (.int .u8 0)).setCell ⟨w.heap.size, 2, none⟩ (.int .u8 0)).setCell ⟨w.heap.size, 3, none⟩ (.int .u32 0)).setCell ⟨w.heap.size, 4, none⟩ (.int .u32 0)).setCell ⟨w.heap.size, 5, none⟩ (.int .u32 0)).setCell ⟨w.heap.size, 6, none⟩ (.int .u16 0)).setCell ⟨w.heap.size, 7, none⟩ (.slice none 0 0)).setCell ⟨w.heap.size, 8, none⟩ (.slice none 0 0)) = F at EF PB ⊢
    have y0 : F.cell? ⟨w.heap.size, 0, none⟩ = some (.int .u16 0) := EF.out.cell 0
    have y1 : F.cell? ⟨w.heap.size, 1, none⟩ = some (.int .u8 0) := EF.out.cell 1
    have y2 : F.cell? ⟨w.heap.size, 2, none⟩ = some (.int .u8 0) := EF.out.cell 2
    have y3 : F.cell? ⟨w.heap.size, 3, none⟩ = some (.int .u32 0) := EF.out.cell 3
    have y4 : F.cell? ⟨w.heap.size, 4, none⟩ = some (.int .u32 0) := EF.out.cell 4
    have y5 : F.cell? ⟨w.heap.size, 5, none⟩ = some (.int .u32 0) := EF.out.cell 5
    have y6 : F.cell? ⟨w.heap.size, 6, none⟩ = some (.int .u16 0) := EF.out.cell 6
    have y7 : F.cell? ⟨w.heap.size, 7, none⟩ = some (.slice none 0 0) := EF.out.cell 7
    have y8 : F.cell? ⟨w.heap.size, 8, none⟩ = some (.slice none 0 0) := EF.out.cell 8
    simp [bodyPost, results, Try.results22, go_sem, y0, y1, y2, y3, y4, y5, y6, y7, y8]
    exact ⟨Or.inr ⟨HO.out, rfl⟩, PB.out⟩
end Go.Proofs.Ytagopkmehlpjpaa
