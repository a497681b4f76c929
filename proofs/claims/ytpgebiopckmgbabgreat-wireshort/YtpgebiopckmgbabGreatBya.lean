/- wire.Bytes, of a message with records, without EDNS. -/
import Derived.Test.YtpgebiopckmgbabGreatCon
import Derived.Test.YtpgebiopckmgbabGreatByq
namespace Go.Proofs.YtpgebiopckmgbabGreat
open Go.RowKit
/- the three sections, as they came in -/
structure Secs (w : World) (A : Nat → Option Addr) (ls : Nat → List RX) (C : Nat → Nat) : Prop where
  sl : ∀ j, j < 3 → SlR w (A j) (ls j)
  nil : ∀ j, j < 3 → A j = none → C j = 0
  few : ∀ j, j < 3 → (ls j).length ≤ 30
  ok : ∀ j, j < 3 → ∀ x ∈ ls j, x.r.Ok
set_option maxRecDepth 5000 in
theorem Secs.below {w w' : World} {A : Nat → Option Addr} {ls : Nat → List RX} {C : Nat → Nat} (h : Secs w A ls C) (hb : Below w.heap.size w w') : Secs w' A ls C :=
  ⟨fun j hj => (h.sl j hj).below hb, h.nil, h.few, h.ok⟩
set_option maxRecDepth 5000 in
theorem cat_ok {ls : Nat → List RX} {p : RX → Prop} (h : ∀ j, j < 3 → ∀ x ∈ ls j, p x) : ∀ x ∈ cat ls 3, p x := by
  intro x hx
  simp only [cat, List.nil_append, List.mem_append] at hx
  rcases hx with (hx | hx) | hx
  · exact h 0 (by omega) x hx
  · exact h 1 (by omega) x hx
  · exact h 2 (by omega) x hx
set_option maxRecDepth 5000 in
theorem SlR.mem {w : World} {ao : Option Addr} {l : List RX} (h : SlR w ao l) : ∀ x ∈ l, SlS w x.na x.r.name ∧ SlL w x.da x.r.data ∧ (x.da = none → x.dc = 0) := by
  intro x hx
  obtain ⟨j, hj⟩ := List.getElem?_of_mem hx
  obtain ⟨g, o, _, _, hc⟩ := h (List.length_pos_of_mem hx)
  obtain ⟨_, _, _, _, _, p⟩ := hc j x hj
  exact p
set_option maxHeartbeats 800000 in
set_option maxRecDepth 5000 in
theorem sound_r (i : Nat) (x1 x3 x4 x5 x6 : Bool) (x2 x7 : Int) (l : List (Option Addr × Nat × M.Q)) (a : Option Addr) (c : Nat) (A : Nat → Option Addr) (ls : Nat → List RX) (C : Nat → Nat) (w : World) (h2 : 0 ≤ x2 ∧ x2 ≤ 15) (h7 : 0 ≤ x7 ∧ x7 ≤ 15) (hs : SlQ w a l) (hl : l.length ≤ 65535) (hg : ∀ x ∈ l, M.Good x.2.2.name) (hR : Secs w A ls C) :
    Calls Tryz.prog 15 #[.agg #[.int .u16 (i : Int), .bool x1, .int .i64 x2, .bool x3, .bool x4, .bool x5, .bool x6, .int .i64 x7, .slice a l.length c, .slice (A 0) (ls 0).length (C 0), .slice (A 1) (ls 1).length (C 1), .slice (A 2) (ls 2).length (C 2), .bool false, .int .u16 0, .bool false]] w fun e w' => e = .returned (.bool true) ∧ Below w.heap.size w w' := by
  have HS := hide hs
  have HG := hide hg
  have HSE := hide hR
  obtain ⟨p1, p2⟩ := h2
  obtain ⟨p3, p4⟩ := h7
  have q1 : ¬ x2 < 0 := by omega
  have q2 : ¬ (15 : Int) < x2 := by omega
  have q3 : ¬ x7 < 0 := by omega
  have q4 : ¬ (15 : Int) < x7 := by omega
  have R0 := hide (RowAt.new w 32 #[.int .u16 (i : Int), .bool x1, .int .i64 x2, .bool x3, .bool x4, .bool x5, .bool x6, .int .i64 x7, .slice a l.length c, .slice (A 0) (ls 0).length (C 0), .slice (A 1) (ls 1).length (C 1), .slice (A 2) (ls 2).length (C 2), .bool false, .int .u16 0, .bool false])
  have B0 := hide ((Below.refl w.heap.size w).alloc (Nat.le_refl _) (.cells #[.int .u16 (i : Int), .bool x1, .int .i64 x2, .bool x3, .bool x4, .bool x5, .bool x6, .int .i64 x7, .slice a l.length c, .slice (A 0) (ls 0).length (C 0), .slice (A 1) (ls 1).length (C 1), .slice (A 2) (ls 2).length (C 2), .bool false, .int .u16 0, .bool false] 32))
  clear hs hg hR
  go_enter Tryz.func15, Tryz.ntmps15
  go_wp2_with fail
  refine (soundQ_good l a c _ (by exact HS.out.below B0.out) hl HG.out).mono ?_
  rintro e w1 ⟨rfl, hb1⟩
  have R1 := hide (R0.out.below hb1 R0.out.lt)
  have B1 := hide (B0.out.trans (hb1.mono B0.out.size))
  have y9 : w1.cell? ⟨w.heap.size, 9, none⟩ = some (.slice (A 0) (ls 0).length (C 0)) := R1.out.cell 9
  clear hb1 R0 B0
  go_wp2_with fail
  refine (soundR_good (ls 0) (A 0) (C 0) _ (by exact ((HSE.out.below B1.out).sl 0 (by omega))) (by have := HSE.out.few 0 (by omega); omega) (HSE.out.ok 0 (by omega))).mono ?_
  rintro e w2 ⟨rfl, hb2⟩
  have R2 := hide (R1.out.below hb2 R1.out.lt)
  have B2 := hide (B1.out.trans (hb2.mono B1.out.size))
  have y10 : w2.cell? ⟨w.heap.size, 10, none⟩ = some (.slice (A 1) (ls 1).length (C 1)) := R2.out.cell 10
  clear hb2 R1 B1 y9
  go_wp2_with fail
  refine (soundR_good (ls 1) (A 1) (C 1) _ (by exact ((HSE.out.below B2.out).sl 1 (by omega))) (by have := HSE.out.few 1 (by omega); omega) (HSE.out.ok 1 (by omega))).mono ?_
  rintro e w3 ⟨rfl, hb3⟩
  have R3 := hide (R2.out.below hb3 R2.out.lt)
  have B3 := hide (B2.out.trans (hb3.mono B2.out.size))
  have y11 : w3.cell? ⟨w.heap.size, 11, none⟩ = some (.slice (A 2) (ls 2).length (C 2)) := R3.out.cell 11
  clear hb3 R2 B2 y10
  go_wp2_with fail
  refine (soundR_good (ls 2) (A 2) (C 2) _ (by exact ((HSE.out.below B3.out).sl 2 (by omega))) (by have := HSE.out.few 2 (by omega); omega) (HSE.out.ok 2 (by omega))).mono ?_
  rintro e w4 ⟨rfl, hb4⟩
  have B4 := hide (B3.out.trans (hb4.mono B3.out.size))
  go_wp2
  go_ret
  exact ⟨rfl, B4.out⟩
set_option maxHeartbeats 800000 in
set_option maxRecDepth 5000 in
theorem allRecords_any (i : Nat) (x1 x3 x4 x5 x6 : Bool) (x2 x7 : Int) (l : List (Option Addr × Nat × M.Q)) (a : Option Addr) (c : Nat) (A : Nat → Option Addr) (ls : Nat → List RX) (C : Nat → Nat) (w : World) (hR : Secs w A ls C) :
    Calls Tryz.prog 18 #[.agg #[.int .u16 (i : Int), .bool x1, .int .i64 x2, .bool x3, .bool x4, .bool x5, .bool x6, .int .i64 x7, .slice a l.length c, .slice (A 0) (ls 0).length (C 0), .slice (A 1) (ls 1).length (C 1), .slice (A 2) (ls 2).length (C 2), .bool false, .int .u16 0, .bool false]] w fun e w' => ∃ ao cc, e = .returned (.slice ao (cat ls 3).length cc) ∧ SlR w' ao (cat ls 3) ∧ (∀ ad, ao = some ad → ∃ cur, w'.heap[ad.block]? = some (.cells cur 39)) ∧ Below w.heap.size w w' := by
  have HSE := hide hR
  have B0 := hide (((Below.refl w.heap.size w).alloc (Nat.le_refl _) (.cells #[.int .u16 (i : Int), .bool x1, .int .i64 x2, .bool x3, .bool x4, .bool x5, .bool x6, .int .i64 x7, .slice a l.length c, .slice (A 0) (ls 0).length (C 0), .slice (A 1) (ls 1).length (C 1), .slice (A 2) (ls 2).length (C 2), .bool false, .int .u16 0, .bool false] 32)).alloc (by simp) (.cells #[.slice (A 0) (ls 0).length (C 0), .slice (A 1) (ls 1).length (C 1), .slice (A 2) (ls 2).length (C 2)] 30))
  have R0 : Hid (RowAt ((w.alloc (.cells #[.int .u16 (i : Int), .bool x1, .int .i64 x2, .bool x3, .bool x4, .bool x5, .bool x6, .int .i64 x7, .slice a l.length c, .slice (A 0) (ls 0).length (C 0), .slice (A 1) (ls 1).length (C 1), .slice (A 2) (ls 2).length (C 2), .bool false, .int .u16 0, .bool false] 32)).alloc (.cells #[.slice (A 0) (ls 0).length (C 0), .slice (A 1) (ls 1).length (C 1), .slice (A 2) (ls 2).length (C 2)] 30)) (w.heap.size + 1) 30 #[.slice (A 0) (ls 0).length (C 0), .slice (A 1) (ls 1).length (C 1), .slice (A 2) (ls 2).length (C 2)]) := by
    have h := RowAt.new (w.alloc (.cells #[.int .u16 (i : Int), .bool x1, .int .i64 x2, .bool x3, .bool x4, .bool x5, .bool x6, .int .i64 x7, .slice a l.length c, .slice (A 0) (ls 0).length (C 0), .slice (A 1) (ls 1).length (C 1), .slice (A 2) (ls 2).length (C 2), .bool false, .int .u16 0, .bool false] 32)) 30 #[.slice (A 0) (ls 0).length (C 0), .slice (A 1) (ls 1).length (C 1), .slice (A 2) (ls 2).length (C 2)]
    rw [World.size_alloc] at h; exact h
  clear hR
  go_enter Tryz.func18, Tryz.ntmps18
  go_wp2_with fail
  refine (concat_any (w.heap.size + 1) A ls C _ (by exact R0.out) (by exact (HSE.out.below B0.out).sl) HSE.out.nil (fun j hj => by have := HSE.out.few j hj; omega)).mono ?_
  rintro e w1 ⟨v, rfl, hO, hb⟩
  have HSF := HSE.out.below (B0.out.trans (hb.mono B0.out.size))
  obtain ⟨ao, cc, rfl, hsl, hty⟩ := hO.slR (cat_ok (fun j hj => (HSF.sl j hj).mem))
  have HSL := hide hsl
  have HTY := hide hty
  have BF := hide (B0.out.trans (hb.mono B0.out.size))
  clear hsl hO hb HSF hty
  go_wp2
  go_ret
  exact ⟨_, _, rfl, HSL.out, HTY.out, BF.out⟩
set_option maxRecDepth 3000 in
set_option maxHeartbeats 2000000 in
theorem bytes_r (fl : Nat) (i : Nat) (x1 x3 x4 x5 x6 : Bool) (x2 x7 : Int) (l : List (Option Addr × Nat × M.Q)) (a : Option Addr) (c : Nat) (A : Nat → Option Addr) (ls : Nat → List RX) (C : Nat → Nat) (w : World) (hi : i < 65536) (hfl : fl < 65536) (h2 : 0 ≤ x2 ∧ x2 ≤ 15) (h7 : 0 ≤ x7 ∧ x7 ≤ 15)
    (hs : SlQ w a l) (hl : l.length ≤ 100) (hg : ∀ x ∈ l, M.Good x.2.2.name) (ht : ∀ x ∈ l, x.2.2.type < 65536 ∧ x.2.2.cls < 65536) (hR : Secs w A ls C)
    (hF : Hid (∀ w' : World, Calls Tryz.prog 28 #[.agg #[.int .u16 (i : Int), .bool x1, .int .i64 x2, .bool x3, .bool x4, .bool x5, .bool x6, .int .i64 x7, .slice a l.length c, .slice (A 0) (ls 0).length (C 0), .slice (A 1) (ls 1).length (C 1), .slice (A 2) (ls 2).length (C 2), .bool false, .int .u16 0, .bool false]] w' fun e w'' => e = .returned (.int .u16 (fl : Int)) ∧ Below w'.heap.size w' w''))
    (q : (List UInt8 → Option Nat) × List UInt8) (hq : Hid (M.wqs (l.map (·.2.2)) (fun _ => none) (hdr i fl l.length (ls 0).length (ls 1).length (ls 2).length) = q))
    (out : List UInt8) (hout : Hid ((M.wrs 65535 ((cat ls 3).map (·.r)) q.1 q.2).2.1 = out)) (hlen : out.length ≤ 65535) :
    Calls Tryz.prog 8 #[.agg #[.int .u16 (i : Int), .bool x1, .int .i64 x2, .bool x3, .bool x4, .bool x5, .bool x6, .int .i64 x7, .slice a l.length c, .slice (A 0) (ls 0).length (C 0), .slice (A 1) (ls 1).length (C 1), .slice (A 2) (ls 2).length (C 2), .bool false, .int .u16 0, .bool false]] w fun e w' => ∃ v, e = .returned (.tuple #[v, .int .i64 0]) ∧ OwnB w' w.heap.size v out ∧ Below w.heap.size w w' := by
  have HS := hide hs
  have HG := hide hg
  have HT := hide ht
  have H2 := hide h2
  have H7 := hide h7
  have HSE := hide hR
  have R0 := hide (RowAt.new w 32 #[.int .u16 (i : Int), .bool x1, .int .i64 x2, .bool x3, .bool x4, .bool x5, .bool x6, .int .i64 x7, .slice a l.length c, .slice (A 0) (ls 0).length (C 0), .slice (A 1) (ls 1).length (C 1), .slice (A 2) (ls 2).length (C 2), .bool false, .int .u16 0, .bool false])
  have B0 := hide ((Below.refl w.heap.size w).alloc (Nat.le_refl _) (.cells #[.int .u16 (i : Int), .bool x1, .int .i64 x2, .bool x3, .bool x4, .bool x5, .bool x6, .int .i64 x7, .slice a l.length c, .slice (A 0) (ls 0).length (C 0), .slice (A 1) (ls 1).length (C 1), .slice (A 2) (ls 2).length (C 2), .bool false, .int .u16 0, .bool false] 32))
  have hf0 := hR.few 0 (by omega)
  have hf1 := hR.few 1 (by omega)
  have hf2 := hR.few 2 (by omega)
  clear hs hg ht h2 h7 hR
  go_enter Tryz.func8, Tryz.ntmps8
  go_wp2_with (refine wpList_load_row rfl 32 (.tmp 1) rfl w.heap.size rfl 32 #[.int .u16 (i : Int), .bool x1, .int .i64 x2, .bool x3, .bool x4, .bool x5, .bool x6, .int .i64 x7, .slice a l.length c, .slice (A 0) (ls 0).length (C 0), .slice (A 1) (ls 1).length (C 1), .slice (A 2) (ls 2).length (C 2), .bool false, .int .u16 0, .bool false] (0, 0) _ (by exact R0.out) Tryz.underlying32 rfl infoM ?_)
  refine (sound_r i x1 x3 x4 x5 x6 x2 x7 l a c A ls C _ H2.out H7.out (by exact HS.out.below B0.out) (by omega) HG.out (by exact HSE.out.below B0.out)).mono ?_
  rintro e w1 ⟨rfl, hb1⟩
  have R1 := hide (R0.out.below hb1 R0.out.lt)
  have B1 := hide (B0.out.trans (hb1.mono B0.out.size))
  have hz1 := B1.out.size
  have hlt1 := R1.out.lt
  clear hb1 R0 B0
  go_wp2_with (refine wpList_load_row rfl 32 (.tmp 1) rfl w.heap.size rfl 32 #[.int .u16 (i : Int), .bool x1, .int .i64 x2, .bool x3, .bool x4, .bool x5, .bool x6, .int .i64 x7, .slice a l.length c, .slice (A 0) (ls 0).length (C 0), .slice (A 1) (ls 1).length (C 1), .slice (A 2) (ls 2).length (C 2), .bool false, .int .u16 0, .bool false] (0, 0) _ (by exact R1.out) Tryz.underlying32 rfl infoM ?_)
  refine (begun_any i 0 fl x1 x3 x4 x5 x6 false false x2 x7 l a (A 0) (A 1) (A 2) c (ls 0).length (C 0) (ls 1).length (C 1) (ls 2).length (C 2) _ hi hfl (by exact HS.out.below B1.out) hl HG.out HT.out (by omega) (by omega) (by simp; omega) hF).mono ?_
  rintro e w2 ⟨rfl, K, hK, hln, hb2, w0, hw0, hW2⟩
  have RW := hide (R1.out.below hw0 R1.out.lt)
  have BW := hide (B1.out.trans (hw0.mono B1.out.size))
  clear hw0
  simp only [Bool.toNat_false, Nat.add_zero] at hln hW2
  rw [hq.out] at hln hW2
  have HW2 := hide hW2
  have R2 := hide (R1.out.below hb2 R1.out.lt)
  have B2 := hide (B1.out.trans (hb2.mono B1.out.size))
  have hz2 := hb2.size
  have hlt2 := hW2.lt
  clear hb2 R1 hW2
  go_wp2_with (refine wpList_load_row rfl 32 (.tmp 1) rfl w.heap.size rfl 32 #[.int .u16 (i : Int), .bool x1, .int .i64 x2, .bool x3, .bool x4, .bool x5, .bool x6, .int .i64 x7, .slice a l.length c, .slice (A 0) (ls 0).length (C 0), .slice (A 1) (ls 1).length (C 1), .slice (A 2) (ls 2).length (C 2), .bool false, .int .u16 0, .bool false] (0, 0) _ (by exact R2.out) Tryz.underlying32 rfl infoM ?_)
  refine (allRecords_any i x1 x3 x4 x5 x6 x2 x7 l a c A ls C _ (by exact HSE.out.below B2.out)).mono ?_
  rintro e w3 ⟨ao, cc, rfl, hsl, hty, hb3⟩
  have HW3 := hide (HW2.out.below hb3 (by omega))
  have R3 := hide (R2.out.below hb3 R2.out.lt)
  have B3 := hide (B2.out.trans (hb3.mono B2.out.size))
  have HSL := hide hsl
  have HTY := hide hty
  have hz3 := hb3.size
  have hcl : (cat ls 3).length ≤ 100 := by simp only [cat, List.length_append, List.length_nil]; omega
  have HMM : Hid (∀ x ∈ cat ls 3, SlS w x.na x.r.name ∧ SlL w x.da x.r.data) := cat_ok (fun j hj x hx => ⟨((HSE.out.sl j hj).mem x hx).1, ((HSE.out.sl j hj).mem x hx).2.1⟩)
  clear hb3 hsl hty R2 HW2
  go_wp2_with fail
  refine (wsrecs HW3.out (cat ls 3) ao (cat ls 3).length cc rfl w HSL.out HTY.out HMM.out B3.out (by omega) (cat_ok HSE.out.ok) 65535 (by omega) (by omega) (by omega) (by omega) hcl hln hK).mono ?_
  rintro e w4 ⟨rfl, _, K4, _, hW4⟩
  rw [hout.out] at hW4
  obtain ⟨v, hRv, hOv, _, hKv⟩ := hW4
  obtain ⟨av, cv, rfl, _⟩ := hOv.open
  have R4 := RW.out.below hKv.1 (by omega)
  have B4 := hide (BW.out.trans (hKv.1.mono (by omega)))
  have y12 : w4.cell? ⟨w.heap.size, 12, none⟩ = some (.bool false) := R4.cell 12
  have yv : w4.cell? ⟨w1.heap.size + 1 + 1, 0, none⟩ = some (.slice av out.length cv) := hRv.cell 0
  have HOV := hide (hOv.lower (show w.heap.size ≤ w1.heap.size + 1 by omega))
  have hll : ¬ (65535 : Int) < (out.length : Int) := by omega
  clear hRv hOv R4 R3 RW BW
  go_wp2
  go_ret2
  exact ⟨_, rfl, HOV.out, B4.out⟩
end Go.Proofs.YtpgebiopckmgbabGreat
