/- What the law HashParts is made of: its arguments' parts, and its calls' contracts at rows that are written out. -/
import Derived.Test.YtfpggcgfmhooeaaDoorEql
import Derived.Test.YtfpggcgfmhooeaaDoorRefShort
import Derived.Deep.RegionHeld3
namespace Go.Proofs.YtfpggcgfmhooeaaDoor
open Go.RowKit
set_option maxHeartbeats 400000 in
theorem hashParts_long (ao : Option Addr) (n cap : Nat) (x : Int) (w : World) (hT : Tab w) (hn : 1000 < n) (hm : n ≤ 9223372036854775807) :
    Calls Tryd.prog 5 #[.slice ao n cap, .int .i64 x] w fun e w' => e = .returned (.bool true) ∧ Below w.heap.size w w' := by
  go_enter Tryd.func5, Tryd.ntmps5
  go_wp2_with (go_at_call 7; refine (known_any _ (by exact hT)).mono ?_; rintro e w1 ⟨rfl, hB1⟩)
  go_ret
  exact ⟨rfl, hB1⟩
/- a part of the argument: the address, the bytes, the room -/
structure PartIn (w : World) (a : Option Addr) (l : List (BitVec 8)) (n c : Nat) : Prop where
  len : l.length = n
  sl : SlL w a l
  nil : a = none → c = 0
  le : n ≤ c
theorem PartIn.low {w : World} {a : Option Addr} {l : List (BitVec 8)} {n c : Nat} (h : PartIn w a l n c) : 0 < n → ∀ b o, a = some ⟨b, o, none⟩ → b < w.heap.size := fun h0 b o e => by
  obtain ⟨b2, o2, e2, hlt2, _⟩ := h.sl (by rw [h.len]; exact h0)
  rw [e2] at e
  cases e; exact hlt2
theorem PartIn.below {B : Nat} {w w' : World} {a : Option Addr} {l : List (BitVec 8)} {n c : Nat} (h : PartIn w a l n c) (hb : Below B w w') (hB : w.heap.size ≤ B) : PartIn w' a l n c := ⟨h.len, h.sl.below hb hB, h.nil, h.le⟩
theorem parts_in2 {w : World} {a1 a2 : Option Addr} {l1 l2 : List (BitVec 8)} {n1 c1 n2 c2 : Nat} (h1 : PartIn w a1 l1 n1 c1) (h2 : PartIn w a2 l2 n2 c2) (t : TypeId) : PartsAt (w.alloc (.cells #[.slice a1 n1 c1, .slice a2 n2 c2] t)) (some ⟨w.heap.size, 0, none⟩) [l1, l2] := fun _ => by
  refine ⟨w.heap.size, 0, rfl, by simp, fun j hj => ?_⟩
  have hj2 : j < 2 := hj
  rcases (show j = 0 ∨ j = 1 by omega) with rfl | rfl
  · exact ⟨a1, c1, by rw [(RowAt.new w t _).cell, ← h1.len]; rfl, h1.sl.alloc _, h1.nil, by have := h1.le; have := h1.len; simp; omega⟩
  · exact ⟨a2, c2, by rw [(RowAt.new w t _).cell, ← h2.len]; rfl, h2.sl.alloc _, h2.nil, by have := h2.le; have := h2.len; simp; omega⟩
theorem parts_in3 {w : World} {a1 a2 : Option Addr} {l1 l2 : List (BitVec 8)} {n1 c1 n2 c2 : Nat} (h1 : PartIn w a1 l1 n1 c1) (h2 : PartIn w a2 l2 n2 c2) (t : TypeId) : PartsAt (w.alloc (.cells #[.slice a1 n1 c1, .slice a2 n2 c2, .slice none 0 0] t)) (some ⟨w.heap.size, 0, none⟩) [l1, l2, []] := fun _ => by
  refine ⟨w.heap.size, 0, rfl, by simp, fun j hj => ?_⟩
  have hj2 : j < 3 := hj
  rcases (show j = 0 ∨ j = 1 ∨ j = 2 by omega) with rfl | rfl | rfl
  · exact ⟨a1, c1, by rw [(RowAt.new w t _).cell, ← h1.len]; rfl, h1.sl.alloc _, h1.nil, by have := h1.le; have := h1.len; simp; omega⟩
  · exact ⟨a2, c2, by rw [(RowAt.new w t _).cell, ← h2.len]; rfl, h2.sl.alloc _, h2.nil, by have := h2.le; have := h2.len; simp; omega⟩
  · exact ⟨none, 0, by rw [(RowAt.new w t _).cell]; rfl, SlL.nil _ _, fun _ => rfl, by simp⟩
theorem part_nil (base : Nat) (v : Value) (lb : List (BitVec 8)) (w : World) (ho : OwnB w base v lb) (hb : lb.length ≤ 2000000000) (hB : base ≤ w.heap.size) :
    Calls Tryd.prog 12 #[v, .slice none 0 0] w fun e w' => ∃ v', e = .returned v' ∧ OwnB w' base v' (lb ++ Sha.len4 0) ∧ Below base w w' ∧ ∀ k, k < w.heap.size → some k ≠ v.ownBlock → w'.heap[k]? = w.heap[k]? := by
  obtain ⟨i0, hi, hz0, hz1, hz2⟩ := info_parts info5
  go_enter Tryd.func12, Tryd.ntmps12
  go_wp2_with (first
    | (at_builtin; refine wpList_append_B rfl (.tmp 8) (.tmp 20) rfl base v lb rfl (ho.alloc _) _ _ _ (Sha.len4 0) rfl rfl (SlL.four _ 0 (by omega) _ _ _ _ _ (by omega) (by omega) (by omega) (by omega)) (by simp) (by omega) (by simp; omega) ?_; intro v1 w1 hO1 hG1; have hb1 := grown_below (ho.alloc _) hG1 ((Below.refl base w).alloc hB _) (by simp; omega); have HK := hide (fun k (hk : k < w.heap.size) (hne : some k ≠ v.ownBlock) => (hG1.block k (by simp; omega) hne).trans (Below.heap_alloc w _ k hk)); clear hG1)
    | (at_builtin; refine wpList_append_own_none rfl (.tmp 21) (.tmp 22) 22 rfl base 5 i0 1 Tryd.underlying22 hi v1 _ _ rfl hO1 rfl ?_))
  go_ret
  exact ⟨v1, rfl, hO1, hb1, HK.out⟩
theorem run_eq8 (F : Nat → BitVec 8) (w : World) : (Op.equalIn 10000 28 (.agg #[.int .u8 (F 0).toNat, .int .u8 (F 1).toNat, .int .u8 (F 2).toNat, .int .u8 (F 3).toNat, .int .u8 (F 4).toNat, .int .u8 (F 5).toNat, .int .u8 (F 6).toNat, .int .u8 (F 7).toNat]) (.agg #[.int .u8 (F 0).toNat, .int .u8 (F 1).toNat, .int .u8 (F 2).toNat, .int .u8 (F 3).toNat, .int .u8 (F 4).toNat, .int .u8 (F 5).toNat, .int .u8 (F 6).toNat, .int .u8 (F 7).toNat])).run Tryd.prog w = .ok true w := run_eqB_same Tryd.underlying28 F w
theorem short_lit (tag : BitVec 8) (l : List (List (BitVec 8))) (F : Nat → BitVec 8) (ao : Option Addr) (n cap : Nat) (w : World) (hF : F = sumF (tag :: ptext l)) (hl : Hid (l.length = n)) (hs : PartsAt w ao l) (hn : n ≤ 1000) (hp : ∀ p ∈ l, p.length ≤ 1000000) (hT : Tab w) :
    Calls Tryd.prog 10 #[.int .u8 tag.toNat, .slice ao n cap] w fun e w' => e = .returned (.agg #[.int .u8 (F 0).toNat, .int .u8 (F 1).toNat, .int .u8 (F 2).toNat, .int .u8 (F 3).toNat, .int .u8 (F 4).toNat, .int .u8 (F 5).toNat, .int .u8 (F 6).toNat, .int .u8 (F 7).toNat]) ∧ Below w.heap.size w w' := by
  subst hF; exact short_any tag l ao n cap w hl hs hn hp hT
theorem cut_lit (bs : List (BitVec 8)) (F : Nat → BitVec 8) (ao : Option Addr) (n cap : Nat) (w : World) (hF : F = sumF bs) (hl : Hid (bs.length = n)) (hs : SlL w ao bs) (hnil : ao = none → cap = 0) (hn : n < 1000000000) :
    Calls Tryd.prog 13 #[.slice ao n cap] w fun e w' => e = .returned (.agg #[.int .u8 (F 0).toNat, .int .u8 (F 1).toNat, .int .u8 (F 2).toNat, .int .u8 (F 3).toNat, .int .u8 (F 4).toNat, .int .u8 (F 5).toNat, .int .u8 (F 6).toNat, .int .u8 (F 7).toNat]) ∧ Below w.heap.size w w' := by
  subst hF; exact cut_any bs ao n cap w hl hs hnil hn
theorem cells8r {w : World} {g : Nat} {t : TypeId} {F : Nat → BitVec 8} (h : RowAt w g t (rowB 32 F)) : w.cell? ⟨g, 0, none⟩ = some (.int .u8 (F 0).toNat) ∧ w.cell? ⟨g, 1, none⟩ = some (.int .u8 (F 1).toNat) ∧ w.cell? ⟨g, 2, none⟩ = some (.int .u8 (F 2).toNat) ∧ w.cell? ⟨g, 3, none⟩ = some (.int .u8 (F 3).toNat) ∧ w.cell? ⟨g, 4, none⟩ = some (.int .u8 (F 4).toNat) ∧ w.cell? ⟨g, 5, none⟩ = some (.int .u8 (F 5).toNat) ∧ w.cell? ⟨g, 6, none⟩ = some (.int .u8 (F 6).toNat) ∧ w.cell? ⟨g, 7, none⟩ = some (.int .u8 (F 7).toNat) :=
  ⟨h.cell 0, h.cell 1, h.cell 2, h.cell 3, h.cell 4, h.cell 5, h.cell 6, h.cell 7⟩
end Go.Proofs.YtfpggcgfmhooeaaDoor
