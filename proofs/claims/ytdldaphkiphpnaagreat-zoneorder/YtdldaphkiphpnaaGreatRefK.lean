/- The reference's Key; parts by their places (texts of stage 5, at this seat). -/
import Derived.Test.YtdldaphkiphpnaaGreatRefG
/- stage5/RefK -/
/- signetref3.Key. -/
namespace Go.Proofs.YtdldaphkiphpnaaGreat
open Go.RowKit
set_option maxRecDepth 5000 in
theorem list4 : ∀ {b : List UInt8}, 4 ≤ b.length → ∃ x0 x1 x2 x3 r, b = x0 :: x1 :: x2 :: x3 :: r
  | x0 :: x1 :: x2 :: x3 :: r, _ => ⟨x0, x1, x2, x3, r, rfl⟩
  | [], h => by simp at h
  | [_], h => by simp at h
  | [_, _], h => by simp at h
  | [_, _, _], h => by simp at h
/- parts of a slice that has bytes -/
set_option maxRecDepth 5000 in
theorem cut_hd {w : World} {b o : Nat} {l : List UInt8} {len cap : Nat} (k : Nat) (hs : SlL w (some ⟨b, o, none⟩) l) (hl : l.length = len) (hk : k ≤ len) (hc : len ≤ cap) :
    ∃ ad, (∀ W, (Instr.slice 37 (.slice (some ⟨b, o, none⟩) len cap) none (some (.int .i64 (k : Int))) none).run Tryz.prog W = .ok (.slice (some ad) k cap) W) ∧ SlL w (some ad) (l.take k) := by
  subst hl
  have h := hs.slB
  refine ⟨if cap = 0 then ⟨b, o, none⟩ else (⟨b, o, none⟩ : Addr).add (0 * 1), fun W => ?_, ?_⟩
  · rw [run_slice_h W 37 _ l.length cap Tryz.underlying37 .i64 (k : Int) (by omega) (by omega)]
    have hz : (sizeOf (Tryz.prog.elem 37)).run Tryz.prog W = .ok 1 W := Tryz.sizeOf5 W
    rw [hz]
    simp only [Result.andThen, sliced, Int.toNat_natCast, Nat.sub_zero, Option.map_some]
    split <;> rfl
  · have := SlB.sl (h.part (k := 0) (cap := cap) k (by omega) hc) (Nat.le_refl _)
    rw [List.drop_zero] at this
    split
    · rename_i h0; rwa [if_pos h0] at this
    · rename_i h0; rwa [if_neg h0, Option.map_some] at this
set_option maxRecDepth 5000 in
theorem cut_tl {w : World} {b o : Nat} {l : List UInt8} {len cap : Nat} (k : Nat) (hs : SlL w (some ⟨b, o, none⟩) l) (hl : l.length = len) (hk : k ≤ len) (hc : len ≤ cap) :
    ∃ ad, (∀ W, (Instr.slice 37 (.slice (some ⟨b, o, none⟩) len cap) (some (.int .i64 (k : Int))) none none).run Tryz.prog W = .ok (.slice (some ad) (len - k) (cap - k)) W) ∧ SlL w (some ad) (l.drop k) := by
  subst hl
  have h := hs.slB
  refine ⟨if cap = k then ⟨b, o, none⟩ else (⟨b, o, none⟩ : Addr).add (k * 1), fun W => ?_, ?_⟩
  · rw [run_slice_l W 37 _ l.length cap Tryz.underlying37 .i64 (k : Int) (by omega) (by omega)]
    have hz : (sizeOf (Tryz.prog.elem 37)).run Tryz.prog W = .ok 1 W := Tryz.sizeOf5 W
    rw [hz]
    simp only [Result.andThen, sliced, Int.toNat_natCast, Option.map_some]
    split <;> rfl
  · have := SlB.sl (h.part (k := k) (cap := cap) (l.length - k) (by omega) hc) (Nat.le_refl _)
    rw [List.take_of_length_le (by rw [List.length_drop]; omega)] at this
    split
    · rename_i h0; rwa [if_pos h0] at this
    · rename_i h0; rwa [if_neg h0, Option.map_some] at this
set_option maxRecDepth 5000 in
theorem cut_mid {w : World} {b o : Nat} {l : List UInt8} {len cap : Nat} (k m : Nat) (hs : SlL w (some ⟨b, o, none⟩) l) (hl : l.length = len) (hk : k + m ≤ len) (hc : len ≤ cap) :
    ∃ ad, (∀ W, (Instr.slice 37 (.slice (some ⟨b, o, none⟩) len cap) (some (.int .i64 (k : Int))) (some (.int .i64 ((k + m : Nat) : Int))) none).run Tryz.prog W = .ok (.slice (some ad) m (cap - k)) W) ∧ SlL w (some ad) ((l.drop k).take m) := by
  subst hl
  have h := hs.slB
  refine ⟨if cap = k then ⟨b, o, none⟩ else (⟨b, o, none⟩ : Addr).add (k * 1), fun W => ?_, ?_⟩
  · rw [run_slice_lh W 37 _ l.length cap Tryz.underlying37 .i64 .i64 (k : Int) ((k + m : Nat) : Int) (by omega) (by omega) (by omega)]
    have hz : (sizeOf (Tryz.prog.elem 37)).run Tryz.prog W = .ok 1 W := Tryz.sizeOf5 W
    rw [hz]
    simp only [Result.andThen, sliced, Int.toNat_natCast, Option.map_some]
    rw [show k + m - k = m by omega]
    split <;> rfl
  · have := SlB.sl (h.part (k := k) (cap := cap) m (by omega) hc) (Nat.le_refl _)
    split
    · rename_i h0; rwa [if_pos h0] at this
    · rename_i h0; rwa [if_neg h0, Option.map_some] at this
set_option maxHeartbeats 1600000 in
set_option maxRecDepth 5000 in
theorem sKey_any (b : List UInt8) (ao : Option Addr) (len cap : Nat) (w : World) (hl : Hid (b.length = len)) (hs : SlL w ao b) (hc : len ≤ cap) (h8 : len ≤ 8192) :
    Calls Tryz.prog 97 #[.slice ao len cap] w fun e w' => Ans (D.full b (D.key b)) KeyV (.agg #[.int .u16 0, .int .u8 0, .int .u8 0, .slice none 0 0]) w e w' := by
  rcases Nat.lt_or_ge len 4 with hlt | hge
  · have hlt' : (len : Int) < 4 := by omega
    have HF : Hid (D.full b (D.key b) = none) := by
      refine D.full_none ?_
      have hl' := hl.out
      match b with
      | [] => rfl
      | [x] => rfl
      | [x, y] => rfl
      | [x, y, z] => rfl
      | x :: y :: z :: u :: r => simp at hl'; omega
    have hb0 := (Below.refl w.heap.size w).alloc (Nat.le_refl _) (.cells #[.int .u16 0, .int .u8 0, .int .u8 0, .slice none 0 0] 150)
    have R0 := RowAt.new w 150 #[.int .u16 0, .int .u8 0, .int .u8 0, .slice none 0 0]
    have HB := hide hb0
    have HR := hide R0
    clear hs hb0 R0
    go_enter Tryz.func97, Tryz.ntmps97
    go_wp2
    generalize (w.alloc (.cells #[.int .u16 0, .int .u8 0, .int .u8 0, .slice none 0 0] 150)) = F at HB HR ⊢
    have q0 : F.cell? ⟨w.heap.size, 0, none⟩ = some (.int .u16 0) := HR.out.cell 0
    have q1 : F.cell? ⟨w.heap.size, 1, none⟩ = some (.int .u8 0) := HR.out.cell 1
    have q2 : F.cell? ⟨w.heap.size, 2, none⟩ = some (.int .u8 0) := HR.out.cell 2
    have q3 : F.cell? ⟨w.heap.size, 3, none⟩ = some (.slice none 0 0) := HR.out.cell 3
    simp [bodyPost, results, Tryz.results97, go_sem, q0, q1, q2, q3]
    exact ⟨Or.inr ⟨HF.out, rfl⟩, HB.out⟩
  · have hge' : ¬ (len : Int) < 4 := by omega
    have hl' := hl.out
    obtain ⟨x0, x1, x2, x3, r, rfl⟩ := list4 (by omega : 4 ≤ b.length)
    obtain ⟨blk, o, rfl, hblt, hcell⟩ := hs (by simp)
    have hb0 := (Below.refl w.heap.size w).alloc (Nat.le_refl _) (.cells #[.int .u16 0, .int .u8 0, .int .u8 0, .slice none 0 0] 150)
    have c2 : w.cell? ⟨blk, o + 2, none⟩ = some (.int .u8 (x2.toNat : Int)) := hcell 2 (by simp)
    have c3 : w.cell? ⟨blk, o + 3, none⟩ = some (.int .u8 (x3.toNat : Int)) := hcell 3 (by simp)
    obtain ⟨ad1, r1, s1⟩ := cut_hd 2 hs hl.out (by omega) hc
    obtain ⟨ad2, r2, s2⟩ := cut_tl 4 hs hl.out (by omega) hc
    replace r1 : ∀ W, (Instr.slice 37 (.slice (some ⟨blk, o, none⟩) len cap) none (some (.int .i64 2)) none).run Tryz.prog W = .ok (.slice (some ad1) 2 cap) W := r1
    replace r2 : ∀ W, (Instr.slice 37 (.slice (some ⟨blk, o, none⟩) len cap) (some (.int .i64 4)) none none).run Tryz.prog W = .ok (.slice (some ad2) (len - 4) (cap - 4)) W := r2
    have S1 : Hid (SlL w (some ad1) [x0, x1]) := s1
    have S2 : Hid (SlL w (some ad2) r) := s2
    have hrl : Hid (r.length = len - 4) := by simp at hl'; show _ = _; omega
    have hrl2 : r.length ≤ 8192 := by simp at hl'; omega
    have hw16 : IntKind.u16.wrap (D.gv [x0, x1] : Int) = (D.gv [x0, x1] : Int) := by
      have := D.gv_lt [x0, x1]
      rw [IntKind.wrap_u16]
      simp at this; omega
    have HF : Hid (D.full (x0 :: x1 :: x2 :: x3 :: r) (D.key (x0 :: x1 :: x2 :: x3 :: r)) = some ⟨D.gv [x0, x1], x2.toNat, x3.toNat, r⟩) :=
      D.full_some (by rw [hl.out]; exact h8) (by unfold D.key; rw [D.n16_gv]; rfl)
    have C2 := hide c2
    have C3 := hide c3
    have e2 : (w.alloc (.cells #[.int .u16 0, .int .u8 0, .int .u8 0, .slice none 0 0] 150)).cell? ⟨blk, o + 2, none⟩ = some (.int .u8 (x2.toNat : Int)) := (hb0.cell (p := ⟨blk, o + 2, none⟩) hblt).trans c2
    have e3 : (w.alloc (.cells #[.int .u16 0, .int .u8 0, .int .u8 0, .slice none 0 0] 150)).cell? ⟨blk, o + 3, none⟩ = some (.int .u8 (x3.toNat : Int)) := (hb0.cell (p := ⟨blk, o + 3, none⟩) hblt).trans c3
    have HB := hide hb0
    have HR := hide (RowAt.new w 150 #[.int .u16 0, .int .u8 0, .int .u8 0, .slice none 0 0])
    have i2 : (2 : Int) < (len : Int) := by omega
    have i3 : (3 : Int) < (len : Int) := by omega
    clear hs hb0 c2 c3 hcell s1 s2
    have hget : ∀ W, SlL W (some ad1) [x0, x1] → Calls Tryz.prog 130 #[.slice (some ad1) 2 cap] W fun e w' => e = .returned (.int .u32 (D.gv [x0, x1] : Int)) ∧ w' = W := fun W h => get_any [x0, x1] (some ad1) 2 cap W rfl h (by omega)
    generalize D.gv [x0, x1] = g at hw16 HF hget
    go_enter Tryz.func97, Tryz.ntmps97
    go_wp2
    go_region_law (first
      | (refine step_fn 130 _ _ rfl rfl #[.slice (some ad1) 2 cap] (by go_simp) (hget _ (by first | exact S1.out.alloc _ | exact S1.out.below B4.out (Nat.le_refl _))) (by rintro e w' ⟨rfl, _⟩; exact ⟨_, rfl⟩) ?_; rintro v1 w1 ⟨he, rfl⟩; cases he)
      | (refine step_append_B rfl (.const (.slice none 0 0)) (.tmp 19) rfl w.heap.size (.slice none 0 0) [] rfl (OwnB.nil _ _) ad2 (len - 4) (cap - 4) r (by rfl) hrl.out (by exact S2.out.alloc _) (by simp; omega) (by simp) ?_; intro v4 w4 hO4 hG4; obtain ⟨a4, c4, rfl, _, _, _⟩ := hO4.open; have K4 := hide (Kp.grown (OwnB.nil _ w.heap.size) hG4 (by simp)); have B4 := hide (HB.out.drew.trans K4.out.1); have R4 := hide (K4.out.2 _ _ _ HR.out (by decide)); have d2 : w4.cell? ⟨blk, o + 2, none⟩ = some (.int .u8 (x2.toNat : Int)) := (B4.out.cell (p := ⟨blk, o + 2, none⟩) hblt).trans C2.out; have d3 : w4.cell? ⟨blk, o + 3, none⟩ = some (.int .u8 (x3.toNat : Int)) := (B4.out.cell (p := ⟨blk, o + 3, none⟩) hblt).trans C3.out; have O4 := hide hO4; have k0 : w4.cell? ⟨w.heap.size, 0, none⟩ = some (.int .u16 0) := R4.out.cell 0; have k1 : w4.cell? ⟨w.heap.size, 1, none⟩ = some (.int .u8 0) := R4.out.cell 1; have k2 : w4.cell? ⟨w.heap.size, 2, none⟩ = some (.int .u8 0) := R4.out.cell 2; have k3 : w4.cell? ⟨w.heap.size, 3, none⟩ = some (.slice none 0 0) := R4.out.cell 3; have f0 := R4.out.frozen 0; have f1 := R4.out.frozen 1; have f2 := R4.out.frozen 2; have f3 := R4.out.frozen 3; clear hO4 hG4 K4))
    all_goals
      have E0 := R4.out
      have E1 : RowAt ((w4).setCell ⟨w.heap.size, 0, none⟩ (.int .u16 (g : Int))) w.heap.size 150 #[.int .u16 (g : Int), .int .u8 0, .int .u8 0, .slice none 0 0] := E0.set 0 _
      have E2 : RowAt (((w4).setCell ⟨w.heap.size, 0, none⟩ (.int .u16 (g : Int))).setCell ⟨w.heap.size, 1, none⟩ (.int .u8 (x2.toNat : Int))) w.heap.size 150 #[.int .u16 (g : Int), .int .u8 (x2.toNat : Int), .int .u8 0, .slice none 0 0] := E1.set 1 _
      have E3 : RowAt ((((w4).setCell ⟨w.heap.size, 0, none⟩ (.int .u16 (g : Int))).setCell ⟨w.heap.size, 1, none⟩ (.int .u8 (x2.toNat : Int))).setCell ⟨w.heap.size, 2, none⟩ (.int .u8 (x3.toNat : Int))) w.heap.size 150 #[.int .u16 (g : Int), .int .u8 (x2.toNat : Int), .int .u8 (x3.toNat : Int), .slice none 0 0] := E2.set 2 _
      have E4 : RowAt (((((w4).setCell ⟨w.heap.size, 0, none⟩ (.int .u16 (g : Int))).setCell ⟨w.heap.size, 1, none⟩ (.int .u8 (x2.toNat : Int))).setCell ⟨w.heap.size, 2, none⟩ (.int .u8 (x3.toNat : Int))).setCell ⟨w.heap.size, 3, none⟩ (.slice a4 r.length c4)) w.heap.size 150 #[.int .u16 (g : Int), .int .u8 (x2.toNat : Int), .int .u8 (x3.toNat : Int), .slice a4 r.length c4] := E3.set 3 _
      have UE : Upd w.heap.size w4 (((((w4).setCell ⟨w.heap.size, 0, none⟩ (.int .u16 (g : Int))).setCell ⟨w.heap.size, 1, none⟩ (.int .u8 (x2.toNat : Int))).setCell ⟨w.heap.size, 2, none⟩ (.int .u8 (x3.toNat : Int))).setCell ⟨w.heap.size, 3, none⟩ (.slice a4 r.length c4)) := (((((Upd.refl w.heap.size w4).set 0 (.int .u16 (g : Int))).set 1 (.int .u8 (x2.toNat : Int))).set 2 (.int .u8 (x3.toNat : Int))).set 3 (.slice a4 r.length c4))
      have HE := hide E4
      have HU := hide UE
      clear E0 E1 E2 E3 E4 UE
      go_wp2
      generalize (((((w4).setCell ⟨w.heap.size, 0, none⟩ (.int .u16 (g : Int))).setCell ⟨w.heap.size, 1, none⟩ (.int .u8 (x2.toNat : Int))).setCell ⟨w.heap.size, 2, none⟩ (.int .u8 (x3.toNat : Int))).setCell ⟨w.heap.size, 3, none⟩ (.slice a4 r.length c4)) = F at HE HU ⊢
      have q0 : F.cell? ⟨w.heap.size, 0, none⟩ = some (.int .u16 (g : Int)) := HE.out.cell 0
      have q1 : F.cell? ⟨w.heap.size, 1, none⟩ = some (.int .u8 (x2.toNat : Int)) := HE.out.cell 1
      have q2 : F.cell? ⟨w.heap.size, 2, none⟩ = some (.int .u8 (x3.toNat : Int)) := HE.out.cell 2
      have q3 : F.cell? ⟨w.heap.size, 3, none⟩ = some (.slice a4 r.length c4) := HE.out.cell 3
      simp [bodyPost, results, Tryz.results97, go_sem, q0, q1, q2, q3]
      exact ⟨Or.inl ⟨_, _, HF.out, rfl, ⟨_, _, rfl, HU.out.own R4.out (by decide) O4.out⟩⟩, B4.out.trans (HU.out.below (Nat.le_refl _))⟩
end Go.Proofs.YtdldaphkiphpnaaGreat

/- stage5/RefL -/
/- The parts that the reference reads by their places, plain. -/
namespace Go.Proofs.YtdldaphkiphpnaaGreat
open Go.RowKit
/- an append to nothing keeps all that was there -/
set_option maxRecDepth 5000 in
theorem nil_grown {w w' : World} (h : w.drew.grownBy w' (Value.slice none 0 0).ownBlock) : Below w.heap.size w w' := ⟨h.os, h.tape, h.output, h.size, fun k hk => h.block k hk (by simp [Value.ownBlock])⟩
set_option maxRecDepth 5000 in
theorem cell_far {W : World} {b g j o : Nat} {v : Value} (h : b ≠ g) : (W.setCell ⟨g, j, none⟩ v).cell? ⟨b, o, none⟩ = W.cell? ⟨b, o, none⟩ := World.cell?_of_block (w := W) (a := ⟨b, o, none⟩) (Below.heap_setCell _ _ _ _ h)
set_option maxRecDepth 5000 in
theorem Upd.drew {g : Nat} {W F : World} (h : Upd g W F) : Upd g W F.drew := h
set_option maxRecDepth 5000 in
theorem RowAt.drew {w : World} {g t : Nat} {c : Array Value} (h : RowAt w g t c) : RowAt w.drew g t c := h
set_option maxRecDepth 5000 in
theorem row_facts9 {w : World} {g t : Nat} {c0 c1 c2 c3 c4 c5 c6 c7 c8 : Value} (h : RowAt w g t #[c0, c1, c2, c3, c4, c5, c6, c7, c8]) : w.cell? ⟨g, 0, none⟩ = some c0 ∧ w.cell? ⟨g, 1, none⟩ = some c1 ∧ w.cell? ⟨g, 2, none⟩ = some c2 ∧ w.cell? ⟨g, 3, none⟩ = some c3 ∧ w.cell? ⟨g, 4, none⟩ = some c4 ∧ w.cell? ⟨g, 5, none⟩ = some c5 ∧ w.cell? ⟨g, 6, none⟩ = some c6 ∧ w.cell? ⟨g, 7, none⟩ = some c7 ∧ w.cell? ⟨g, 8, none⟩ = some c8 ∧ w.frozen? ⟨g, 0, none⟩ = false ∧ w.frozen? ⟨g, 1, none⟩ = false ∧ w.frozen? ⟨g, 2, none⟩ = false ∧ w.frozen? ⟨g, 3, none⟩ = false ∧ w.frozen? ⟨g, 4, none⟩ = false ∧ w.frozen? ⟨g, 5, none⟩ = false ∧ w.frozen? ⟨g, 6, none⟩ = false ∧ w.frozen? ⟨g, 7, none⟩ = false ∧ w.frozen? ⟨g, 8, none⟩ = false :=
  ⟨h.cell 0, h.cell 1, h.cell 2, h.cell 3, h.cell 4, h.cell 5, h.cell 6, h.cell 7, h.cell 8, h.frozen 0, h.frozen 1, h.frozen 2, h.frozen 3, h.frozen 4, h.frozen 5, h.frozen 6, h.frozen 7, h.frozen 8⟩
set_option maxRecDepth 5000 in
theorem row_facts6 {w : World} {g t : Nat} {c0 c1 c2 c3 c4 c5 : Value} (h : RowAt w g t #[c0, c1, c2, c3, c4, c5]) : w.cell? ⟨g, 0, none⟩ = some c0 ∧ w.cell? ⟨g, 1, none⟩ = some c1 ∧ w.cell? ⟨g, 2, none⟩ = some c2 ∧ w.cell? ⟨g, 3, none⟩ = some c3 ∧ w.cell? ⟨g, 4, none⟩ = some c4 ∧ w.cell? ⟨g, 5, none⟩ = some c5 ∧ w.frozen? ⟨g, 0, none⟩ = false ∧ w.frozen? ⟨g, 1, none⟩ = false ∧ w.frozen? ⟨g, 2, none⟩ = false ∧ w.frozen? ⟨g, 3, none⟩ = false ∧ w.frozen? ⟨g, 4, none⟩ = false ∧ w.frozen? ⟨g, 5, none⟩ = false :=
  ⟨h.cell 0, h.cell 1, h.cell 2, h.cell 3, h.cell 4, h.cell 5, h.frozen 0, h.frozen 1, h.frozen 2, h.frozen 3, h.frozen 4, h.frozen 5⟩
namespace D
set_option maxRecDepth 5000 in
theorem n8_take {l : List UInt8} (h : 1 ≤ l.length) : n8 l = some ((l.getD 0 0).toNat, l.drop 1) := by
  match l with
  | x :: r => rfl
  | [] => simp at h
set_option maxRecDepth 5000 in
theorem n16_take {l : List UInt8} (h : 2 ≤ l.length) : n16 l = some (gv (l.take 2), l.drop 2) := by
  match l with
  | x :: y :: r => exact n16_gv x y r
  | [x] => simp at h
  | [] => simp at h
set_option maxRecDepth 5000 in
theorem n32_take {l : List UInt8} (h : 4 ≤ l.length) : n32 l = some (gv (l.take 4), l.drop 4) := by
  obtain ⟨x, y, z, u, r, rfl⟩ := list4 h
  exact n32_gv x y z u r
set_option maxRecDepth 5000 in
theorem soa_len {l r1 r2 r : List UInt8} {m x : List (List UInt8)} {s : Soa} (h1 : nm l = some (m, r1)) (h2 : nm r1 = some (x, r2)) (h : soa l = some (s, r)) : r2.length = 20 + r.length := by
  simp only [soa, Option.bind_eq_some_iff, Option.map_eq_some_iff, Prod.exists] at h
  obtain ⟨m', q1, g1, x', q2, g2, a, r3, h3, b, r4, h4, c, r5, h5, d, r6, h6, e, r7, h7, h⟩ := h
  rw [h1] at g1; cases g1
  rw [h2] at g2; cases g2
  cases h
  have l3 := congrArg List.length (n32_back h3).1
  have l4 := congrArg List.length (n32_back h4).1
  have l5 := congrArg List.length (n32_back h5).1
  have l6 := congrArg List.length (n32_back h6).1
  have l7 := congrArg List.length (n32_back h7).1
  simp only [List.length_append, p32_len] at l3 l4 l5 l6 l7
  omega
set_option maxRecDepth 5000 in
theorem soa_ref {l r1 r2 : List UInt8} {m x : List (List UInt8)} (h1 : nm l = some (m, r1)) (h2 : nm r1 = some (x, r2)) (h : r2.length = 20) :
    soa l = some (⟨m, x, gv (r2.take 4), gv ((r2.drop 4).take 4), gv ((r2.drop 8).take 4), gv ((r2.drop 12).take 4), gv (r2.drop 16)⟩, []) := by
  unfold soa
  rw [h1]; simp only [Option.bind_some]
  rw [h2]; simp only [Option.bind_some]
  rw [n32_take (by omega)]; simp only [Option.bind_some]
  rw [n32_take (by rw [List.length_drop]; omega)]; simp only [Option.bind_some, List.drop_drop]
  rw [n32_take (by rw [List.length_drop]; omega)]; simp only [Option.bind_some, List.drop_drop]
  rw [n32_take (by rw [List.length_drop]; omega)]; simp only [Option.bind_some, List.drop_drop]
  rw [n32_take (by rw [List.length_drop]; omega)]; simp only [Option.map_some, List.drop_drop]
  have e1 : (r2.drop 16).take 4 = r2.drop 16 := List.take_of_length_le (by rw [List.length_drop]; omega)
  have e2 : r2.drop 20 = [] := List.drop_eq_nil_of_le (by omega)
  show some ((⟨m, x, gv (r2.take 4), gv ((r2.drop 4).take 4), gv ((r2.drop 8).take 4), gv ((r2.drop 12).take 4), gv ((r2.drop 16).take 4)⟩ : Soa), r2.drop 20) = _
  rw [e1, e2]
set_option maxRecDepth 5000 in
theorem soa_not {l r1 r2 : List UInt8} {m x : List (List UInt8)} (h1 : nm l = some (m, r1)) (h2 : nm r1 = some (x, r2)) (h : r2.length ≠ 20) : full l (soa l) = none := by
  cases hh : full l (soa l) with
  | none => rfl
  | some s =>
    have := soa_len h1 h2 (full_iff.1 hh).2
    simp at this; omega
set_option maxRecDepth 5000 in
theorem soa_no1 {l : List UInt8} (h1 : nm l = none) : full l (soa l) = none := full_none (by unfold soa; rw [h1]; rfl)
set_option maxRecDepth 5000 in
theorem soa_no2 {l r1 : List UInt8} {m : List (List UInt8)} (h1 : nm l = some (m, r1)) (h2 : nm r1 = none) : full l (soa l) = none := full_none (by unfold soa; rw [h1]; simp only [Option.bind_some]; rw [h2]; rfl)
set_option maxRecDepth 5000 in
theorem sig_ref {l r : List UInt8} {n : List (List UInt8)} (hl : 18 ≤ l.length) (h : nm (l.drop 18) = some (n, r)) :
    sig l = some (⟨gv (l.take 2), (l.getD 2 0).toNat, (l.getD 3 0).toNat, gv ((l.drop 4).take 4), gv ((l.drop 8).take 4), gv ((l.drop 12).take 4), gv ((l.drop 16).take 2), n, r⟩, []) := by
  unfold sig
  rw [n16_take (by omega)]; simp only [Option.bind_some]
  rw [n8_take (by rw [List.length_drop]; omega)]; simp only [Option.bind_some, List.drop_drop]
  rw [n8_take (by rw [List.length_drop]; omega)]; simp only [Option.bind_some, List.drop_drop]
  rw [n32_take (by rw [List.length_drop]; omega)]; simp only [Option.bind_some, List.drop_drop]
  rw [n32_take (by rw [List.length_drop]; omega)]; simp only [Option.bind_some, List.drop_drop]
  rw [n32_take (by rw [List.length_drop]; omega)]; simp only [Option.bind_some, List.drop_drop]
  rw [n16_take (by rw [List.length_drop]; omega)]; simp only [Option.bind_some, List.drop_drop]
  rw [h]
  simp [List.getD_eq_getElem?_getD, List.getElem?_drop]
set_option maxRecDepth 5000 in
theorem sig_no {l : List UInt8} (h : l.length < 18 ∨ nm (l.drop 18) = none) : full l (sig l) = none := by
  cases hh : full l (sig l) with
  | none => rfl
  | some s =>
    have h2 := (full_iff.1 hh).2
    simp only [sig, Option.bind_eq_some_iff, Option.map_eq_some_iff, Prod.exists] at h2
    obtain ⟨t, r1, h1, a, r2, h2, k, r3, h3, x, r4, h4, y, r5, h5, z, r6, h6, g, r7, h7, n, r8, h8, _⟩ := h2
    have e1 := (n16_back h1).1
    have e2 := (n8_back h2).1
    have e3 := (n8_back h3).1
    have e4 := (n32_back h4).1
    have e5 := (n32_back h5).1
    have e6 := (n32_back h6).1
    have e7 := (n16_back h7).1
    have hd : l.drop 18 = r7 := by rw [e1, e2, e3, e4, e5, e6, e7]; rfl
    have hl : l.length = 18 + r7.length := by rw [e1, e2, e3, e4, e5, e6, e7]; simp only [List.length_append, List.length_cons, p16_len, p32_len]; omega
    rcases h with h | h
    · omega
    · rw [hd, h8] at h; cases h
end D
end Go.Proofs.YtdldaphkiphpnaaGreat

/- stage5/RefM -/
/- A chain's parts by their places, plain. -/
namespace Go.Proofs.YtdldaphkiphpnaaGreat
open Go.RowKit
set_option maxRecDepth 5000 in
theorem nil_grown0 {w w' : World} (h : w.grownBy w' (Value.slice none 0 0).ownBlock) : Below w.heap.size w w' := ⟨h.os, h.tape, h.output, h.size, fun k hk => h.block k hk (by simp [Value.ownBlock])⟩
namespace D
set_option maxRecDepth 5000 in
theorem cnt_take {l : List UInt8} (h : 1 ≤ l.length) : cnt l = by_ (l.getD 0 0).toNat (l.drop 1) := by
  unfold cnt
  rw [n8_take h]; rfl
set_option maxRecDepth 5000 in
theorem getD_drop (l : List UInt8) (i j : Nat) : (l.drop i).getD j 0 = l.getD (i + j) 0 := by
  simp [List.getD_eq_getElem?_getD, List.getElem?_drop]
/- what a chain's reading comes to -/
set_option maxRecDepth 5000 in
theorem chain_eq {l : List UInt8} (h : 5 ≤ l.length) :
    chain l = (by_ (l.getD 4 0).toNat (l.drop 5)).bind fun s => (cnt s.2).bind fun n => if n.1.length = 0 then none else (T.opn 0 n.2).map fun t => ((⟨(l.getD 0 0).toNat, (l.getD 1 0).toNat, gv ((l.drop 2).take 2), s.1, n.1, t⟩ : Chain), ([] : List UInt8)) := by
  unfold chain
  rw [n8_take (by omega)]; simp only [Option.bind_some]
  rw [n8_take (by rw [List.length_drop]; omega)]; simp only [Option.bind_some, List.drop_drop]
  rw [n16_take (by rw [List.length_drop]; omega)]; simp only [Option.bind_some, List.drop_drop]
  rw [cnt_take (by rw [List.length_drop]; omega), List.drop_drop, getD_drop, getD_drop]
set_option maxRecDepth 5000 in
theorem chain_no1 {l : List UInt8} (h : l.length < 5) : full l (chain l) = none := by
  refine full_none ?_
  match l with
  | [] => rfl
  | [x] => rfl
  | [x, y] => rfl
  | [x, y, z] => rfl
  | [x, y, z, u] => rfl
  | x :: y :: z :: u :: v :: r => simp at h; omega
set_option maxRecDepth 5000 in
theorem chain_no2 {l : List UInt8} (h : 5 ≤ l.length) (h2 : l.length < 5 + (l.getD 4 0).toNat + 1) : full l (chain l) = none := by
  refine full_none ?_
  rw [chain_eq h]
  unfold by_
  split
  · rfl
  · rename_i h3
    rw [List.length_drop] at h3
    simp only [Option.bind_some, List.drop_drop]
    have : l.drop (5 + (l.getD 4 0).toNat) = [] := List.drop_eq_nil_of_le (by omega)
    rw [this]; rfl
set_option maxRecDepth 5000 in
theorem chain_next {l : List UInt8} {i : Nat} (h : 5 ≤ l.length) (hi : 5 + (l.getD 4 0).toNat = i) (h2 : i + 1 ≤ l.length) :
    chain l = (by_ (l.getD i 0).toNat (l.drop (i + 1))).bind fun n => if n.1.length = 0 then none else (T.opn 0 n.2).map fun t => ((⟨(l.getD 0 0).toNat, (l.getD 1 0).toNat, gv ((l.drop 2).take 2), (l.drop 5).take (l.getD 4 0).toNat, n.1, t⟩ : Chain), ([] : List UInt8)) := by
  rw [chain_eq h]
  have e : by_ (l.getD 4 0).toNat (l.drop 5) = some ((l.drop 5).take (l.getD 4 0).toNat, l.drop i) := by
    unfold by_
    rw [if_neg (by rw [List.length_drop]; omega), List.drop_drop, hi]
  rw [e]
  simp only [Option.bind_some]
  rw [cnt_take (by rw [List.length_drop]; omega), List.drop_drop, getD_drop, Nat.add_zero]
set_option maxRecDepth 5000 in
theorem chain_no3 {l : List UInt8} {i : Nat} (h : 5 ≤ l.length) (hi : 5 + (l.getD 4 0).toNat = i) (h2 : i + 1 ≤ l.length) (h3 : (l.getD i 0).toNat = 0 ∨ l.length < i + 1 + (l.getD i 0).toNat) : full l (chain l) = none := by
  refine full_none ?_
  rw [chain_next h hi h2]
  unfold by_
  split
  · rfl
  · rename_i h4
    rw [List.length_drop] at h4
    simp only [Option.bind_some]
    rw [if_pos]
    rw [List.length_take]; omega
set_option maxRecDepth 5000 in
theorem chain_last {l : List UInt8} {i k : Nat} (h : 5 ≤ l.length) (hi : 5 + (l.getD 4 0).toNat = i) (h2 : i + 1 ≤ l.length) (h0 : (l.getD i 0).toNat ≠ 0) (hk : i + 1 + (l.getD i 0).toNat = k) (h3 : k ≤ l.length) :
    chain l = (T.opn 0 (l.drop k)).map fun t => ((⟨(l.getD 0 0).toNat, (l.getD 1 0).toNat, gv ((l.drop 2).take 2), (l.drop 5).take (l.getD 4 0).toNat, (l.drop (i + 1)).take (l.getD i 0).toNat, t⟩ : Chain), ([] : List UInt8)) := by
  rw [chain_next h hi h2]
  unfold by_
  rw [if_neg (by rw [List.length_drop]; omega)]
  simp only [Option.bind_some, List.drop_drop]
  rw [if_neg (by rw [List.length_take, List.length_drop]; omega), hk]
set_option maxRecDepth 5000 in
theorem chain_no4 {l : List UInt8} {i k : Nat} (h : 5 ≤ l.length) (hi : 5 + (l.getD 4 0).toNat = i) (h2 : i + 1 ≤ l.length) (h0 : (l.getD i 0).toNat ≠ 0) (hk : i + 1 + (l.getD i 0).toNat = k) (h3 : k ≤ l.length) (ho : T.opn 0 (l.drop k) = none) : full l (chain l) = none :=
  full_none (by rw [chain_last h hi h2 h0 hk h3, ho]; rfl)
end D
end Go.Proofs.YtdldaphkiphpnaaGreat

