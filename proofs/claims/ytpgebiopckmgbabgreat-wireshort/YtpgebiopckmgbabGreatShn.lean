/- wire.shortened of a reply that has answers alone. -/
import Derived.Test.YtpgebiopckmgbabGreatSts
import Derived.Test.YtpgebiopckmgbabGreatFtg
import Derived.Test.YtpgebiopckmgbabGreatFla
import Derived.Test.YtpgebiopckmgbabGreatRcs
namespace Go.Proofs.YtpgebiopckmgbabGreat
open Go.RowKit
def fA (a : Option Addr) : Nat → Option Addr
  | 0 => a
  | _ + 1 => none
def fL (l : List RX) : Nat → List RX
  | 0 => l
  | _ + 1 => []
def fC (c : Nat) : Nat → Nat
  | 0 => c
  | _ + 1 => 0
set_option maxRecDepth 5000 in
theorem row_far3 {w : World} {g t k j : Nat} {c : Array Value} (h : RowAt w g t c) (v : Value) (hne : g ≠ k) : RowAt (w.setCell ⟨k, j, none⟩ v) g t c := by
  unfold RowAt at h ⊢
  rw [Below.heap_setCell _ _ _ _ hne]; exact h
set_option maxRecDepth 5000 in
theorem M.wrs_le (lim : Int) : ∀ (l : List M.R) (mp : List UInt8 → Option Nat) (out : List UInt8), (M.wrs lim l mp out).2.2 ≤ l.length
  | [], _, _ => Nat.le_refl _
  | x :: r, mp, out => by
    unfold M.wrs
    split
    · exact Nat.zero_le _
    · exact Nat.succ_le_succ (M.wrs_le lim r _ _)
def M.fits (lim : Int) (l : List M.R) : Nat := (M.wrs lim l (fun _ => none) (hdr 0 32768 0 l.length 0 0)).2.2
set_option maxRecDepth 3000 in
set_option maxHeartbeats 2000000 in
theorem shortened_r (L : List RX) (a : Option Addr) (c : Nat) (lim : Int) (w : World) (hR : Secs w (fA a) (fL L) (fC c)) (hc : L.length ≤ c) (h99 : ∀ x ∈ L, x.r.type = 99 ∧ x.r.cls = 1 ∧ x.r.name.length ≤ 1000 ∧ Sane x.r.name) (hlim : 12 ≤ lim)
    (n k : Nat) (hn : Hid (M.fits lim (L.map (·.r)) = n)) (hk : Hid (M.keep (L.map (·.r)) n = k)) (tc : Bool) (htc : Hid (decide (n < L.length) = tc)) :
    Calls Tryz.prog 23 #[.agg #[.int .u16 0, .bool true, .int .i64 0, .bool false, .bool false, .bool false, .bool false, .int .i64 0, .slice none 0 0, .slice a L.length c, .slice none 0 0, .slice none 0 0, .bool false, .int .u16 0, .bool false], .int .i64 lim] w fun e w' => e = .returned (.agg #[.int .u16 0, .bool true, .int .i64 0, .bool false, .bool tc, .bool false, .bool false, .int .i64 0, .slice none 0 0, .slice a k c, .slice none 0 0, .slice none 0 0, .bool false, .int .u16 0, .bool false]) ∧ Below w.heap.size w w' := by
  have HR := hide hR
  have H99 := hide h99
  have hL : L.length ≤ 30 := hR.few 0 (by omega)
  have hnL : n ≤ L.length := by rw [← hn.out]; have h : M.fits lim (L.map (·.r)) ≤ (L.map (·.r)).length := (by unfold M.fits; exact M.wrs_le lim _ _ _); simpa using h
  have HNIL : Hid (a = none → c = 0) := hR.nil 0 (by omega)
  have BX : Hid (Below w.heap.size w ((w.alloc (.cells #[.int .u16 0, .bool true, .int .i64 0, .bool false, .bool false, .bool false, .bool false, .int .i64 0, .slice none 0 0, .slice a L.length c, .slice none 0 0, .slice none 0 0, .bool false, .int .u16 0, .bool false] 32)).alloc (.cells #[.int .u16 0, .bool false, .int .i64 0, .bool false, .bool false, .bool false, .bool false, .int .i64 0, .slice none 0 0, .slice none 0 0, .slice none 0 0, .slice none 0 0, .bool false, .int .u16 0, .bool false] 32))) := ((Below.refl w.heap.size w).alloc (Nat.le_refl _) _).alloc (by simp) _
  have r0 : RowAt ((w.alloc (.cells #[.int .u16 0, .bool true, .int .i64 0, .bool false, .bool false, .bool false, .bool false, .int .i64 0, .slice none 0 0, .slice a L.length c, .slice none 0 0, .slice none 0 0, .bool false, .int .u16 0, .bool false] 32)).alloc (.cells #[.int .u16 0, .bool false, .int .i64 0, .bool false, .bool false, .bool false, .bool false, .int .i64 0, .slice none 0 0, .slice none 0 0, .slice none 0 0, .slice none 0 0, .bool false, .int .u16 0, .bool false] 32)) w.heap.size 32 #[.int .u16 0, .bool true, .int .i64 0, .bool false, .bool false, .bool false, .bool false, .int .i64 0, .slice none 0 0, .slice a L.length c, .slice none 0 0, .slice none 0 0, .bool false, .int .u16 0, .bool false] := (RowAt.new w 32 #[.int .u16 0, .bool true, .int .i64 0, .bool false, .bool false, .bool false, .bool false, .int .i64 0, .slice none 0 0, .slice a L.length c, .slice none 0 0, .slice none 0 0, .bool false, .int .u16 0, .bool false]).alloc _
  have r1 : RowAt ((w.alloc (.cells #[.int .u16 0, .bool true, .int .i64 0, .bool false, .bool false, .bool false, .bool false, .int .i64 0, .slice none 0 0, .slice a L.length c, .slice none 0 0, .slice none 0 0, .bool false, .int .u16 0, .bool false] 32)).alloc (.cells #[.int .u16 0, .bool false, .int .i64 0, .bool false, .bool false, .bool false, .bool false, .int .i64 0, .slice none 0 0, .slice none 0 0, .slice none 0 0, .slice none 0 0, .bool false, .int .u16 0, .bool false] 32)) (w.heap.size + 1) 32 #[.int .u16 0, .bool false, .int .i64 0, .bool false, .bool false, .bool false, .bool false, .int .i64 0, .slice none 0 0, .slice none 0 0, .slice none 0 0, .slice none 0 0, .bool false, .int .u16 0, .bool false] := by
    have h := RowAt.new (w.alloc (.cells #[.int .u16 0, .bool true, .int .i64 0, .bool false, .bool false, .bool false, .bool false, .int .i64 0, .slice none 0 0, .slice a L.length c, .slice none 0 0, .slice none 0 0, .bool false, .int .u16 0, .bool false] 32)) 32 #[.int .u16 0, .bool false, .int .i64 0, .bool false, .bool false, .bool false, .bool false, .int .i64 0, .slice none 0 0, .slice none 0 0, .slice none 0 0, .slice none 0 0, .bool false, .int .u16 0, .bool false]
    rw [World.size_alloc] at h; exact h
  have R0 := hide r0
  have R1 := hide r1
  have HF : Hid (∀ w' : World, Calls Tryz.prog 28 #[.agg #[.int .u16 ((0 : Nat) : Int), .bool true, .int .i64 0, .bool false, .bool false, .bool false, .bool false, .int .i64 0, .slice none ([] : List (Option Addr × Nat × M.Q)).length 0, .slice (fA a 0) (fL L 0).length (fC c 0), .slice (fA a 1) (fL L 1).length (fC c 1), .slice (fA a 2) (fL L 2).length (fC c 2), .bool false, .int .u16 0, .bool false]] w' fun e w'' => e = .returned (.int .u16 ((32768 : Nat) : Int)) ∧ Below w'.heap.size w' w'') := fun w' => flags_any 0 0 0 0 L.length c 0 0 0 0 true false false false false false false 0 0 none a none none w' 0 0 (hide rfl) (hide rfl) (by omega) (by omega)
  have HN : Hid ((M.wrs lim ((cat (fL L) 3).map (·.r)) (fun _ => none) (hdr 0 32768 0 L.length 0 0)).2.2 = n) := by
    have e : (cat (fL L) 3).map (·.r) = L.map (·.r) := by simp [cat, fL]
    show _ = _
    rw [e, ← hn.out]; unfold M.fits; rw [List.length_map]
  clear hR h99 r0 r1
  go_enter Tryz.func23, Tryz.ntmps23
  go_wp2_with (refine wpList_load_row rfl 32 (.tmp 2) rfl w.heap.size rfl 32 #[.int .u16 0, .bool true, .int .i64 0, .bool false, .bool false, .bool false, .bool false, .int .i64 0, .slice none 0 0, .slice a L.length c, .slice none 0 0, .slice none 0 0, .bool false, .int .u16 0, .bool false] (0, 0) _ (by exact R0.out) Tryz.underlying32 rfl infoM ?_)
  refine (fitting_r 32768 0 true false false false false 0 0 [] none 0 (fA a) (fL L) (fC c) lim _ (by omega) (by omega) (by exact fun h => absurd h (by simp)) (by simp) (fun x hx => by cases hx) (fun x hx => by cases hx) (by exact HR.out.below BX.out) HF ((fun _ => none), hdr 0 32768 0 L.length 0 0) (hide rfl) (by show (12 : Int) ≤ lim; exact hlim) n HN).mono ?_
  rintro e w1 ⟨rfl, hb1⟩
  have B1 := hide (BX.out.trans (hb1.mono BX.out.size))
  have q0 := R0.out.below hb1 R0.out.lt
  have q1 := R1.out.below hb1 R1.out.lt
  have y9 : w1.cell? ⟨w.heap.size, 9, none⟩ = some (.slice a L.length c) := q0.cell 9
  have y10 : w1.cell? ⟨w.heap.size, 10, none⟩ = some (.slice none 0 0) := q0.cell 10
  have y4 : w1.cell? ⟨w.heap.size, 4, none⟩ = some (.bool false) := q0.cell 4
  have f4 : w1.frozen? ⟨w.heap.size, 4, none⟩ = false := q0.frozen 4
  have y11 : w1.cell? ⟨w.heap.size, 11, none⟩ = some (.slice none 0 0) := q0.cell 11
  have Q0 := hide q0
  have Q1 := hide q1
  have hd : decide (n < L.length) = tc := htc.out
  clear hb1 q0 q1 R0 R1 BX
  go_wp2_with fail
  refine (sets_nil _ _ (by omega)).mono ?_
  rintro e w2 ⟨rfl, hb2⟩
  have u1 : RowAt (w1.setCell ⟨w.heap.size, 4, none⟩ (.bool tc)) w.heap.size 32 #[.int .u16 0, .bool true, .int .i64 0, .bool false, .bool tc, .bool false, .bool false, .int .i64 0, .slice none 0 0, .slice a L.length c, .slice none 0 0, .slice none 0 0, .bool false, .int .u16 0, .bool false] := Q0.out.set 4 _
  have v1 : RowAt (w1.setCell ⟨w.heap.size, 4, none⟩ (.bool tc)) (w.heap.size + 1) 32 #[.int .u16 0, .bool false, .int .i64 0, .bool false, .bool false, .bool false, .bool false, .int .i64 0, .slice none 0 0, .slice none 0 0, .slice none 0 0, .slice none 0 0, .bool false, .int .u16 0, .bool false] := row_far3 Q1.out _ (by omega)
  have c1 : Below w.heap.size w (w1.setCell ⟨w.heap.size, 4, none⟩ (.bool tc)) := B1.out.setCell (Nat.le_refl _) _
  have U2 := hide (u1.below hb2 u1.lt)
  have V2 := hide (v1.below hb2 v1.lt)
  have B2 := hide (c1.trans (hb2.mono c1.size))
  clear y9 y10 y4 f4 y11 Q0 Q1 B1 u1 v1 c1 hb2
  have y11 : w2.cell? ⟨w.heap.size, 11, none⟩ = some (.slice none 0 0) := U2.out.cell 11
  have f11 : w2.frozen? ⟨w.heap.size, 11, none⟩ = false := U2.out.frozen 11
  have y10 : w2.cell? ⟨w.heap.size, 10, none⟩ = some (.slice none 0 0) := U2.out.cell 10
  have y9 : w2.cell? ⟨w.heap.size, 9, none⟩ = some (.slice a L.length c) := U2.out.cell 9
  go_wp2_with fail
  refine (sets_nil _ _ (by omega)).mono ?_
  rintro e w3 ⟨rfl, hb3⟩
  have u2 : RowAt (w2.setCell ⟨w.heap.size, 11, none⟩ (.slice none 0 0)) w.heap.size 32 #[.int .u16 0, .bool true, .int .i64 0, .bool false, .bool tc, .bool false, .bool false, .int .i64 0, .slice none 0 0, .slice a L.length c, .slice none 0 0, .slice none 0 0, .bool false, .int .u16 0, .bool false] := U2.out.set 11 _
  have v2 : RowAt (w2.setCell ⟨w.heap.size, 11, none⟩ (.slice none 0 0)) (w.heap.size + 1) 32 #[.int .u16 0, .bool false, .int .i64 0, .bool false, .bool false, .bool false, .bool false, .int .i64 0, .slice none 0 0, .slice none 0 0, .slice none 0 0, .slice none 0 0, .bool false, .int .u16 0, .bool false] := row_far3 V2.out _ (by omega)
  have c2 : Below w.heap.size w (w2.setCell ⟨w.heap.size, 11, none⟩ (.slice none 0 0)) := B2.out.setCell (Nat.le_refl _) _
  have U3 := hide (u2.below hb3 u2.lt)
  have V3 := hide (v2.below hb3 v2.lt)
  have B3 := hide (c2.trans (hb3.mono c2.size))
  clear y9 y10 y11 f11 U2 V2 B2 u2 v2 c2 hb3
  have y10 : w3.cell? ⟨w.heap.size, 10, none⟩ = some (.slice none 0 0) := U3.out.cell 10
  have f10 : w3.frozen? ⟨w.heap.size, 10, none⟩ = false := U3.out.frozen 10
  have y9 : w3.cell? ⟨w.heap.size, 9, none⟩ = some (.slice a L.length c) := U3.out.cell 9
  have c3 := hide (B3.out.setCell (p := ⟨w.heap.size, 10, none⟩) (Nat.le_refl _) (.slice none 0 0))
  go_wp2_with fail
  refine (sets_99 L a L.length c _ (hide rfl) (by exact (HR.out.sl 0 (by omega)).below c3.out) HNIL.out hc (by omega) H99.out n k hnL hk).mono ?_
  rintro e w4 ⟨rfl, hb4⟩
  have u3 : RowAt (w3.setCell ⟨w.heap.size, 10, none⟩ (.slice none 0 0)) w.heap.size 32 #[.int .u16 0, .bool true, .int .i64 0, .bool false, .bool tc, .bool false, .bool false, .int .i64 0, .slice none 0 0, .slice a L.length c, .slice none 0 0, .slice none 0 0, .bool false, .int .u16 0, .bool false] := U3.out.set 10 _
  have v3 : RowAt (w3.setCell ⟨w.heap.size, 10, none⟩ (.slice none 0 0)) (w.heap.size + 1) 32 #[.int .u16 0, .bool false, .int .i64 0, .bool false, .bool false, .bool false, .bool false, .int .i64 0, .slice none 0 0, .slice none 0 0, .slice none 0 0, .slice none 0 0, .bool false, .int .u16 0, .bool false] := row_far3 V3.out _ (by omega)
  have U4 := hide (u3.below hb4 u3.lt)
  have V4 := hide (v3.below hb4 v3.lt)
  have B4 := hide (c3.out.trans (hb4.mono c3.out.size))
  clear y9 y10 f10 U3 V3 B3 u3 v3 c3 hb4
  have y9 : w4.cell? ⟨w.heap.size, 9, none⟩ = some (.slice a L.length c) := U4.out.cell 9
  have f9 : w4.frozen? ⟨w.heap.size, 9, none⟩ = false := U4.out.frozen 9
  have U5 : Hid (RowAt (w4.setCell ⟨w.heap.size, 9, none⟩ (.slice a k c)) w.heap.size 32 #[.int .u16 0, .bool true, .int .i64 0, .bool false, .bool tc, .bool false, .bool false, .int .i64 0, .slice none 0 0, .slice a k c, .slice none 0 0, .slice none 0 0, .bool false, .int .u16 0, .bool false]) := U4.out.set 9 _
  have V5 : Hid (RowAt (w4.setCell ⟨w.heap.size, 9, none⟩ (.slice a k c)) (w.heap.size + 1) 32 #[.int .u16 0, .bool false, .int .i64 0, .bool false, .bool false, .bool false, .bool false, .int .i64 0, .slice none 0 0, .slice none 0 0, .slice none 0 0, .slice none 0 0, .bool false, .int .u16 0, .bool false]) := row_far3 V4.out _ (by omega)
  have B5 := hide (B4.out.setCell (p := ⟨w.heap.size, 9, none⟩) (Nat.le_refl _) (.slice a k c))
  clear U4 V4 B4
  go_wp2_with (first
    | (refine wpList_load_row rfl 32 (.tmp 2) rfl w.heap.size rfl 32 #[.int .u16 0, .bool true, .int .i64 0, .bool false, .bool tc, .bool false, .bool false, .int .i64 0, .slice none 0 0, .slice a k c, .slice none 0 0, .slice none 0 0, .bool false, .int .u16 0, .bool false] (0, 0) _ (by exact U5.out) Tryz.underlying32 rfl infoM ?_)
    | (refine wpList_store_absR rfl 32 (.tmp 4) (.tmp 46) rfl (w.heap.size + 1) #[.int .u16 0, .bool true, .int .i64 0, .bool false, .bool tc, .bool false, .bool false, .int .i64 0, .slice none 0 0, .slice a k c, .slice none 0 0, .slice none 0 0, .bool false, .int .u16 0, .bool false] rfl rfl 32 #[.int .u16 0, .bool false, .int .i64 0, .bool false, .bool false, .bool false, .bool false, .int .i64 0, .slice none 0 0, .slice none 0 0, .slice none 0 0, .slice none 0 0, .bool false, .int .u16 0, .bool false] (by exact V5.out) (by kernel_rfl) rfl (by kernel_rfl) w.heap.size (by omega) ?_; intro w6 hr6 hb6; have R6 := hide hr6; have B6 := hide (B5.out.trans hb6); clear hr6 hb6))
  have z0 : w6.cell? ⟨w.heap.size + 1, 0, none⟩ = some (.int .u16 0) := R6.out.cell 0
  have z1 : w6.cell? ⟨w.heap.size + 1, 1, none⟩ = some (.bool true) := R6.out.cell 1
  have z2 : w6.cell? ⟨w.heap.size + 1, 2, none⟩ = some (.int .i64 0) := R6.out.cell 2
  have z3 : w6.cell? ⟨w.heap.size + 1, 3, none⟩ = some (.bool false) := R6.out.cell 3
  have z4 : w6.cell? ⟨w.heap.size + 1, 4, none⟩ = some (.bool tc) := R6.out.cell 4
  have z5 : w6.cell? ⟨w.heap.size + 1, 5, none⟩ = some (.bool false) := R6.out.cell 5
  have z6 : w6.cell? ⟨w.heap.size + 1, 6, none⟩ = some (.bool false) := R6.out.cell 6
  have z7 : w6.cell? ⟨w.heap.size + 1, 7, none⟩ = some (.int .i64 0) := R6.out.cell 7
  have z8 : w6.cell? ⟨w.heap.size + 1, 8, none⟩ = some (.slice none 0 0) := R6.out.cell 8
  have z9 : w6.cell? ⟨w.heap.size + 1, 9, none⟩ = some (.slice a k c) := R6.out.cell 9
  have z10 : w6.cell? ⟨w.heap.size + 1, 10, none⟩ = some (.slice none 0 0) := R6.out.cell 10
  have z11 : w6.cell? ⟨w.heap.size + 1, 11, none⟩ = some (.slice none 0 0) := R6.out.cell 11
  have z12 : w6.cell? ⟨w.heap.size + 1, 12, none⟩ = some (.bool false) := R6.out.cell 12
  have z13 : w6.cell? ⟨w.heap.size + 1, 13, none⟩ = some (.int .u16 0) := R6.out.cell 13
  have z14 : w6.cell? ⟨w.heap.size + 1, 14, none⟩ = some (.bool false) := R6.out.cell 14
  go_wp2
  simp [bodyPost, results, Tryz.results23, go_sem, z0, z1, z2, z3, z4, z5, z6, z7, z8, z9, z10, z11, z12, z13, z14]
  exact B6.out
end Go.Proofs.YtpgebiopckmgbabGreat
