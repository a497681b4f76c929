/- signetref3.Key. -/
import Derived.Test.YtagopkmehlpjpaaRefG
namespace Go.Proofs.Ytagopkmehlpjpaa
open Go.RowKit
set_option maxRecDepth 5000 in
theorem list4 : ∀ {b : List UInt8}, 4 ≤ b.length → ∃ x0 x1 x2 x3 r, b = x0 :: x1 :: x2 :: x3 :: r
  | x0 :: x1 :: x2 :: x3 :: r, _ => ⟨x0, x1, x2, x3, r, rfl⟩
  | [], h => by simp at h
  | [_], h => by simp at h
  | [_, _], h => by simp at h
  | [_, _, _], h => by simp at h
/- parts of a slice that has bytes -/
set_option maxRecDepth 5000 in
theorem cut_hd {w : World} {b o : Nat} {l : List UInt8} {len cap : Nat} (k : Nat) (hs : SlL w (some ⟨b, o, none⟩) l) (hl : l.length = len) (hk : k ≤ len) (hc : len ≤ cap) :
    ∃ ad, (∀ W, (Instr.slice 23 (.slice (some ⟨b, o, none⟩) len cap) none (some (.int .i64 (k : Int))) none).run Try.prog W = .ok (.slice (some ad) k cap) W) ∧ SlL w (some ad) (l.take k) := by
  subst hl
  have h := hs.slB
  refine ⟨if cap = 0 then ⟨b, o, none⟩ else (⟨b, o, none⟩ : Addr).add (0 * 1), fun W => ?_, ?_⟩
  · rw [run_slice_h W 23 _ l.length cap Try.underlying23 .i64 (k : Int) (by omega) (by omega)]
    have hz : (sizeOf (Try.prog.elem 23)).run Try.prog W = .ok 1 W := Try.sizeOf5 W
    rw [hz]
    simp only [Result.andThen, sliced, Int.toNat_natCast, Nat.sub_zero, Option.map_some]
    split <;> rfl
  · have := SlB.sl (h.part (k := 0) (cap := cap) k (by omega) hc) (Nat.le_refl _)
    rw [List.drop_zero] at this
    split
    · rename_i h0; rwa [if_pos h0] at this
    · rename_i h0; rwa [if_neg h0, Option.map_some] at this
set_option maxRecDepth 5000 in
theorem cut_tl {w : World} {b o : Nat} {l : List UInt8} {len cap : Nat} (k : Nat) (hs : SlL w (some ⟨b, o, none⟩) l) (hl : l.length = len) (hk : k ≤ len) (hc : len ≤ cap) :
    ∃ ad, (∀ W, (Instr.slice 23 (.slice (some ⟨b, o, none⟩) len cap) (some (.int .i64 (k : Int))) none none).run Try.prog W = .ok (.slice (some ad) (len - k) (cap - k)) W) ∧ SlL w (some ad) (l.drop k) := by
  subst hl
  have h := hs.slB
  refine ⟨if cap = k then ⟨b, o, none⟩ else (⟨b, o, none⟩ : Addr).add (k * 1), fun W => ?_, ?_⟩
  · rw [run_slice_l W 23 _ l.length cap Try.underlying23 .i64 (k : Int) (by omega) (by omega)]
    have hz : (sizeOf (Try.prog.elem 23)).run Try.prog W = .ok 1 W := Try.sizeOf5 W
    rw [hz]
    simp only [Result.andThen, sliced, Int.toNat_natCast, Option.map_some]
    split <;> rfl
  · have := SlB.sl (h.part (k := k) (cap := cap) (l.length - k) (by omega) hc) (Nat.le_refl _)
    rw [List.take_of_length_le (by rw [List.length_drop]; omega)] at this
    split
    · rename_i h0; rwa [if_pos h0] at this
    · rename_i h0; rwa [if_neg h0, Option.map_some] at this
set_option maxRecDepth 5000 in
theorem cut_mid {w : World} {b o : Nat} {l : List UInt8} {len cap : Nat} (k m : Nat) (hs : SlL w (some ⟨b, o, none⟩) l) (hl : l.length = len) (hk : k + m ≤ len) (hc : len ≤ cap) :
    ∃ ad, (∀ W, (Instr.slice 23 (.slice (some ⟨b, o, none⟩) len cap) (some (.int .i64 (k : Int))) (some (.int .i64 ((k + m : Nat) : Int))) none).run Try.prog W = .ok (.slice (some ad) m (cap - k)) W) ∧ SlL w (some ad) ((l.drop k).take m) := by
  subst hl
  have h := hs.slB
  refine ⟨if cap = k then ⟨b, o, none⟩ else (⟨b, o, none⟩ : Addr).add (k * 1), fun W => ?_, ?_⟩
  · rw [run_slice_lh W 23 _ l.length cap Try.underlying23 .i64 .i64 (k : Int) ((k + m : Nat) : Int) (by omega) (by omega) (by omega)]
    have hz : (sizeOf (Try.prog.elem 23)).run Try.prog W = .ok 1 W := Try.sizeOf5 W
    rw [hz]
    simp only [Result.andThen, sliced, Int.toNat_natCast, Option.map_some]
    rw [show k + m - k = m by omega]
    split <;> rfl
  · have := SlB.sl (h.part (k := k) (cap := cap) m (by omega) hc) (Nat.le_refl _)
    split
    · rename_i h0; rwa [if_pos h0] at this
    · rename_i h0; rwa [if_neg h0, Option.map_some] at this
set_option maxHeartbeats 1600000 in
set_option maxRecDepth 5000 in
theorem sKey_any (b : List UInt8) (ao : Option Addr) (len cap : Nat) (w : World) (hl : Hid (b.length = len)) (hs : SlL w ao b) (hc : len ≤ cap) (h8 : len ≤ 8192) :
    Calls Try.prog 31 #[.slice ao len cap] w fun e w' => Ans (D.full b (D.key b)) KeyV (.agg #[.int .u16 0, .int .u8 0, .int .u8 0, .slice none 0 0]) w e w' := by
  rcases Nat.lt_or_ge len 4 with hlt | hge
  · have hlt' : (len : Int) < 4 := by omega
    have HF : Hid (D.full b (D.key b) = none) := by
      refine D.full_none ?_
      have hl' := hl.out
      match b with
      | [] => rfl
      | [x] => rfl
      | [x, y] => rfl
      | [x, y, z] => rfl
      | x :: y :: z :: u :: r => simp at hl'; omega
    have hb0 := (Below.refl w.heap.size w).alloc (Nat.le_refl _) (.cells #[.int .u16 0, .int .u8 0, .int .u8 0, .slice none 0 0] 68)
    have R0 := RowAt.new w 68 #[.int .u16 0, .int .u8 0, .int .u8 0, .slice none 0 0]
    have HB := hide hb0
    have HR := hide R0
    clear hs hb0 R0
    go_enter Try.func31, Try.ntmps31
    go_wp2
    generalize (w.alloc (.cells #[.int .u16 0, .int .u8 0, .int .u8 0, .slice none 0 0] 68)) = F at HB HR ⊢
    have q0 : F.cell? ⟨w.heap.size, 0, none⟩ = some (.int .u16 0) := HR.out.cell 0
    have q1 : F.cell? ⟨w.heap.size, 1, none⟩ = some (.int .u8 0) := HR.out.cell 1
    have q2 : F.cell? ⟨w.heap.size, 2, none⟩ = some (.int .u8 0) := HR.out.cell 2
    have q3 : F.cell? ⟨w.heap.size, 3, none⟩ = some (.slice none 0 0) := HR.out.cell 3
    simp [bodyPost, results, Try.results31, go_sem, q0, q1, q2, q3]
    exact ⟨Or.inr ⟨HF.out, rfl⟩, HB.out⟩
  · have hge' : ¬ (len : Int) < 4 := by omega
    have hl' := hl.out
    obtain ⟨x0, x1, x2, x3, r, rfl⟩ := list4 (by omega : 4 ≤ b.length)
    obtain ⟨blk, o, rfl, hblt, hcell⟩ := hs (by simp)
    have hb0 := (Below.refl w.heap.size w).alloc (Nat.le_refl _) (.cells #[.int .u16 0, .int .u8 0, .int .u8 0, .slice none 0 0] 68)
    have c2 : w.cell? ⟨blk, o + 2, none⟩ = some (.int .u8 (x2.toNat : Int)) := hcell 2 (by simp)
    have c3 : w.cell? ⟨blk, o + 3, none⟩ = some (.int .u8 (x3.toNat : Int)) := hcell 3 (by simp)
    obtain ⟨ad1, r1, s1⟩ := cut_hd 2 hs hl.out (by omega) hc
    obtain ⟨ad2, r2, s2⟩ := cut_tl 4 hs hl.out (by omega) hc
    replace r1 : ∀ W, (Instr.slice 23 (.slice (some ⟨blk, o, none⟩) len cap) none (some (.int .i64 2)) none).run Try.prog W = .ok (.slice (some ad1) 2 cap) W := r1
    replace r2 : ∀ W, (Instr.slice 23 (.slice (some ⟨blk, o, none⟩) len cap) (some (.int .i64 4)) none none).run Try.prog W = .ok (.slice (some ad2) (len - 4) (cap - 4)) W := r2
    have S1 : Hid (SlL w (some ad1) [x0, x1]) := s1
    have S2 : Hid (SlL w (some ad2) r) := s2
    have hrl : Hid (r.length = len - 4) := by simp at hl'; show _ = _; omega
    have hrl2 : r.length ≤ 8192 := by simp at hl'; omega
    have hw16 : IntKind.u16.wrap (D.gv [x0, x1] : Int) = (D.gv [x0, x1] : Int) := by
      have := D.gv_lt [x0, x1]
      rw [IntKind.wrap_u16]
      simp at this; omega
    have HF : Hid (D.full (x0 :: x1 :: x2 :: x3 :: r) (D.key (x0 :: x1 :: x2 :: x3 :: r)) = some ⟨D.gv [x0, x1], x2.toNat, x3.toNat, r⟩) :=
      D.full_some (by rw [hl.out]; exact h8) (by unfold D.key; rw [D.n16_gv]; rfl)
    have C2 := hide c2
    have C3 := hide c3
    have e2 : (w.alloc (.cells #[.int .u16 0, .int .u8 0, .int .u8 0, .slice none 0 0] 68)).cell? ⟨blk, o + 2, none⟩ = some (.int .u8 (x2.toNat : Int)) := (hb0.cell (p := ⟨blk, o + 2, none⟩) hblt).trans c2
    have e3 : (w.alloc (.cells #[.int .u16 0, .int .u8 0, .int .u8 0, .slice none 0 0] 68)).cell? ⟨blk, o + 3, none⟩ = some (.int .u8 (x3.toNat : Int)) := (hb0.cell (p := ⟨blk, o + 3, none⟩) hblt).trans c3
    have HB := hide hb0
    have HR := hide (RowAt.new w 68 #[.int .u16 0, .int .u8 0, .int .u8 0, .slice none 0 0])
    have i2 : (2 : Int) < (len : Int) := by omega
    have i3 : (3 : Int) < (len : Int) := by omega
    clear hs hb0 c2 c3 hcell s1 s2
    have hget : ∀ W, SlL W (some ad1) [x0, x1] → Calls Try.prog 52 #[.slice (some ad1) 2 cap] W fun e w' => e = .returned (.int .u32 (D.gv [x0, x1] : Int)) ∧ w' = W := fun W h => get_any [x0, x1] (some ad1) 2 cap W rfl h (by omega)
    generalize D.gv [x0, x1] = g at hw16 HF hget
    go_enter Try.func31, Try.ntmps31
    go_wp2
    go_region_law (first
      | (refine step_fn 52 _ _ rfl rfl #[.slice (some ad1) 2 cap] (by go_simp) (hget _ (by first | exact S1.out.alloc _ | exact S1.out.below B4.out (Nat.le_refl _))) (by rintro e w' ⟨rfl, _⟩; exact ⟨_, rfl⟩) ?_; rintro v1 w1 ⟨he, rfl⟩; cases he)
      | (refine step_append_B rfl (.const (.slice none 0 0)) (.tmp 19) rfl w.heap.size (.slice none 0 0) [] rfl (OwnB.nil _ _) ad2 (len - 4) (cap - 4) r (by rfl) hrl.out (by exact S2.out.alloc _) (by simp; omega) (by simp) ?_; intro v4 w4 hO4 hG4; obtain ⟨a4, c4, rfl, _, _, _⟩ := hO4.open; have K4 := hide (Kp.grown (OwnB.nil _ w.heap.size) hG4 (by simp)); have B4 := hide (HB.out.drew.trans K4.out.1); have R4 := hide (K4.out.2 _ _ _ HR.out (by decide)); have d2 : w4.cell? ⟨blk, o + 2, none⟩ = some (.int .u8 (x2.toNat : Int)) := (B4.out.cell (p := ⟨blk, o + 2, none⟩) hblt).trans C2.out; have d3 : w4.cell? ⟨blk, o + 3, none⟩ = some (.int .u8 (x3.toNat : Int)) := (B4.out.cell (p := ⟨blk, o + 3, none⟩) hblt).trans C3.out; have O4 := hide hO4; have k0 : w4.cell? ⟨w.heap.size, 0, none⟩ = some (.int .u16 0) := R4.out.cell 0; have k1 : w4.cell? ⟨w.heap.size, 1, none⟩ = some (.int .u8 0) := R4.out.cell 1; have k2 : w4.cell? ⟨w.heap.size, 2, none⟩ = some (.int .u8 0) := R4.out.cell 2; have k3 : w4.cell? ⟨w.heap.size, 3, none⟩ = some (.slice none 0 0) := R4.out.cell 3; have f0 := R4.out.frozen 0; have f1 := R4.out.frozen 1; have f2 := R4.out.frozen 2; have f3 := R4.out.frozen 3; clear hO4 hG4 K4))
    all_goals
      have E0 := R4.out
      have E1 : RowAt ((w4).setCell ⟨w.heap.size, 0, none⟩ (.int .u16 (g : Int))) w.heap.size 68 #[.int .u16 (g : Int), .int .u8 0, .int .u8 0, .slice none 0 0] := E0.set 0 _
      have E2 : RowAt (((w4).setCell ⟨w.heap.size, 0, none⟩ (.int .u16 (g : Int))).setCell ⟨w.heap.size, 1, none⟩ (.int .u8 (x2.toNat : Int))) w.heap.size 68 #[.int .u16 (g : Int), .int .u8 (x2.toNat : Int), .int .u8 0, .slice none 0 0] := E1.set 1 _
      have E3 : RowAt ((((w4).setCell ⟨w.heap.size, 0, none⟩ (.int .u16 (g : Int))).setCell ⟨w.heap.size, 1, none⟩ (.int .u8 (x2.toNat : Int))).setCell ⟨w.heap.size, 2, none⟩ (.int .u8 (x3.toNat : Int))) w.heap.size 68 #[.int .u16 (g : Int), .int .u8 (x2.toNat : Int), .int .u8 (x3.toNat : Int), .slice none 0 0] := E2.set 2 _
      have E4 : RowAt (((((w4).setCell ⟨w.heap.size, 0, none⟩ (.int .u16 (g : Int))).setCell ⟨w.heap.size, 1, none⟩ (.int .u8 (x2.toNat : Int))).setCell ⟨w.heap.size, 2, none⟩ (.int .u8 (x3.toNat : Int))).setCell ⟨w.heap.size, 3, none⟩ (.slice a4 r.length c4)) w.heap.size 68 #[.int .u16 (g : Int), .int .u8 (x2.toNat : Int), .int .u8 (x3.toNat : Int), .slice a4 r.length c4] := E3.set 3 _
      have UE : Upd w.heap.size w4 (((((w4).setCell ⟨w.heap.size, 0, none⟩ (.int .u16 (g : Int))).setCell ⟨w.heap.size, 1, none⟩ (.int .u8 (x2.toNat : Int))).setCell ⟨w.heap.size, 2, none⟩ (.int .u8 (x3.toNat : Int))).setCell ⟨w.heap.size, 3, none⟩ (.slice a4 r.length c4)) := (((((Upd.refl w.heap.size w4).set 0 (.int .u16 (g : Int))).set 1 (.int .u8 (x2.toNat : Int))).set 2 (.int .u8 (x3.toNat : Int))).set 3 (.slice a4 r.length c4))
      have HE := hide E4
      have HU := hide UE
      clear E0 E1 E2 E3 E4 UE
      go_wp2
      generalize (((((w4).setCell ⟨w.heap.size, 0, none⟩ (.int .u16 (g : Int))).setCell ⟨w.heap.size, 1, none⟩ (.int .u8 (x2.toNat : Int))).setCell ⟨w.heap.size, 2, none⟩ (.int .u8 (x3.toNat : Int))).setCell ⟨w.heap.size, 3, none⟩ (.slice a4 r.length c4)) = F at HE HU ⊢
      have q0 : F.cell? ⟨w.heap.size, 0, none⟩ = some (.int .u16 (g : Int)) := HE.out.cell 0
      have q1 : F.cell? ⟨w.heap.size, 1, none⟩ = some (.int .u8 (x2.toNat : Int)) := HE.out.cell 1
      have q2 : F.cell? ⟨w.heap.size, 2, none⟩ = some (.int .u8 (x3.toNat : Int)) := HE.out.cell 2
      have q3 : F.cell? ⟨w.heap.size, 3, none⟩ = some (.slice a4 r.length c4) := HE.out.cell 3
      simp [bodyPost, results, Try.results31, go_sem, q0, q1, q2, q3]
      exact ⟨Or.inl ⟨_, _, HF.out, rfl, ⟨_, _, rfl, HU.out.own R4.out (by decide) O4.out⟩⟩, B4.out.trans (HU.out.below (Nat.le_refl _))⟩
end Go.Proofs.Ytagopkmehlpjpaa
