/- onetime.secret: the secret of a bit's value. -/
import Derived.Test.YtpiehjfoojipiaaDoorLck
import Derived.Deep.RegionHeld3
namespace Go.Proofs.YtpiehjfoojipiaaDoor
open Go.RowKit
set_option maxRecDepth 5000 in
theorem RowAt.sl8 {w : World} {g : Nat} {t : TypeId} {f : Nat → BitVec 8} (h : RowAt w g t (rowB 8 f)) : SlL w (some ⟨g, 0, none⟩) (O.lst f) := fun _ =>
  ⟨g, 0, rfl, h.lt, fun j hj => by
    rw [O.lst_len] at hj
    rw [Nat.zero_add, h.cell, rowB_get _ _ _ hj]
    simp [O.lst, hj]⟩
set_option maxRecDepth 5000 in
theorem run_store8 {w : World} {g : Nat} {t : TypeId} {c : Array Value} (h : RowAt w g t c) (hs : c.size = 8) (F : Nat → BitVec 8) : (storeCells ⟨g, 0, none⟩ (rowB 8 F).toList).run Tryd.prog w = .ok () (w.setRow g (rowB 8 F)) := by
  have h1 := run_storeCells_from (P := Tryd.prog) g t (rowB 8 F).toList 0 c w h (by simp [rowB_size]; omega) (fun v hv => (Array.all_eq_true_iff_forall_mem.1 (rowB_one 8 F)) v (by simpa using hv))
  simpa using h1
set_option maxRecDepth 5000 in
theorem parts_four (w : World) (a1 a2 a3 a4 : Option Addr) (p1 p2 p3 p4 : List (BitVec 8)) (c1 c2 c3 c4 n1 n2 n3 n4 : Nat) (t : TypeId) (e1 : p1.length = n1) (e2 : p2.length = n2) (e3 : p3.length = n3) (e4 : p4.length = n4)
    (s1 : SlL w a1 p1) (s2 : SlL w a2 p2) (s3 : SlL w a3 p3) (s4 : SlL w a4 p4) (m1 : a1 = none → c1 = 0) (m2 : a2 = none → c2 = 0) (m3 : a3 = none → c3 = 0) (m4 : a4 = none → c4 = 0) (l1 : n1 ≤ c1) (l2 : n2 ≤ c2) (l3 : n3 ≤ c3) (l4 : n4 ≤ c4) :
    PartsAt (w.alloc (.cells #[.slice a1 n1 c1, .slice a2 n2 c2, .slice a3 n3 c3, .slice a4 n4 c4] t)) (some ⟨w.heap.size, 0, none⟩) [p1, p2, p3, p4] := fun _ => by
  subst e1 e2 e3 e4
  refine ⟨w.heap.size, 0, rfl, by simp, fun j hj => ?_⟩
  have hj4 : j < 4 := hj
  rcases (show j = 0 ∨ j = 1 ∨ j = 2 ∨ j = 3 by omega) with rfl | rfl | rfl | rfl
  · exact ⟨a1, c1, by rw [(RowAt.new w t _).cell]; rfl, s1.alloc _, m1, l1⟩
  · exact ⟨a2, c2, by rw [(RowAt.new w t _).cell]; rfl, s2.alloc _, m2, l2⟩
  · exact ⟨a3, c3, by rw [(RowAt.new w t _).cell]; rfl, s3.alloc _, m3, l3⟩
  · exact ⟨a4, c4, by rw [(RowAt.new w t _).cell]; rfl, s4.alloc _, m4, l4⟩
set_option maxRecDepth 5000 in
theorem PartsAt.drew {w : World} {ao : Option Addr} {l : List (List (BitVec 8))} (h : PartsAt w ao l) : PartsAt w.drew ao l := h.below ((Below.refl w.heap.size w).drew) (Nat.le_refl _)
set_option maxRecDepth 5000 in
theorem ofNat8 (i : Nat) (h : i < 256) : ((BitVec.ofNat 8 i).toNat : Int) = (i : Int) := by rw [BitVec.toNat_ofNat, Nat.mod_eq_of_lt h]
set_option maxRecDepth 5000 in
theorem SlL.oneN (w : World) (i : Nat) (t : TypeId) (h : i < 256) : SlL (w.alloc (.cells #[.int .u8 (i : Int)] t)) (some ⟨w.heap.size, 0, none⟩) [BitVec.ofNat 8 i] := SlL.oneI w i _ t (ofNat8 i h).symm
/- the memory of a call of 'secret' ahead of its parts' list: the seed, the answer's place, the leaf's bytes -/
def scrW (w : World) (f : Nat → BitVec 8) (leaf : Nat) : World := ((w.alloc (.cells (rowB 8 f) 22)).alloc (.cells z8 22)).alloc (.cells #[.int .u8 ((leaf : Int) / 16777216), .int .u8 ((leaf : Int) / 65536 % 256), .int .u8 ((leaf : Int) / 256 % 256), .int .u8 ((leaf : Int) % 256)] 77)
set_option maxRecDepth 5000 in
theorem scrW_size (w : World) (f : Nat → BitVec 8) (leaf : Nat) : (scrW w f leaf).heap.size = w.heap.size + 1 + 1 + 1 := by simp [scrW]
set_option maxRecDepth 5000 in
theorem scrW_below (w : World) (f : Nat → BitVec 8) (leaf : Nat) : Below w.heap.size w (scrW w f leaf) := below_thd _ _ _ _
set_option maxRecDepth 5000 in
theorem scrW_row (w : World) (f : Nat → BitVec 8) (leaf : Nat) : RowAt (scrW w f leaf) (w.heap.size + 1) 22 z8 := by
  have h := RowAt.new (w.alloc (.cells (rowB 8 f) 22)) 22 z8
  rw [show (w.alloc (.cells (rowB 8 f) 22)).heap.size = w.heap.size + 1 by simp] at h
  exact h.alloc _
set_option maxRecDepth 5000 in
theorem scrW_seed (w : World) (f : Nat → BitVec 8) (leaf : Nat) : SlL (scrW w f leaf) (some ⟨w.heap.size, 0, none⟩) (O.lst f) := (((RowAt.new w 22 (rowB 8 f)).alloc _).alloc _).sl8
set_option maxRecDepth 5000 in
theorem scrW_leaf (w : World) (f : Nat → BitVec 8) (leaf : Nat) (h : leaf < 4294967296) : SlL (scrW w f leaf) (some ⟨w.heap.size + 1 + 1, 0, none⟩) (Sha.len4 leaf) := by
  have h1 := SlL.four ((w.alloc (.cells (rowB 8 f) 22)).alloc (.cells z8 22)) leaf h 77 _ _ _ _ rfl rfl rfl rfl
  rw [show ((w.alloc (.cells (rowB 8 f) 22)).alloc (.cells z8 22)).heap.size = w.heap.size + 1 + 1 by simp] at h1
  exact h1
/- two bytes more, in either order, and the list of the four parts -/
set_option maxRecDepth 5000 in
theorem scrW_parts (w : World) (f : Nat → BitVec 8) (leaf i v : Nat) (h : leaf < 4294967296) (hi : i < 256) (hv : v < 256) :
    PartsAt ((((scrW w f leaf).alloc (.cells #[.int .u8 (i : Int)] 5)).alloc (.cells #[.int .u8 (v : Int)] 5)).alloc (.cells #[.slice (some ⟨w.heap.size, 0, none⟩) 8 8, .slice (some ⟨w.heap.size + 1 + 1, 0, none⟩) 4 4, .slice (some ⟨w.heap.size + 1 + 1 + 1, 0, none⟩) 1 1, .slice (some ⟨w.heap.size + 1 + 1 + 1 + 1, 0, none⟩) 1 1] 34)) (some ⟨w.heap.size + 1 + 1 + 1 + 1 + 1, 0, none⟩) [O.lst f, Sha.len4 leaf, [BitVec.ofNat 8 i], [BitVec.ofNat 8 v]] ∧
    PartsAt ((((scrW w f leaf).alloc (.cells #[.int .u8 (v : Int)] 5)).alloc (.cells #[.int .u8 (i : Int)] 5)).alloc (.cells #[.slice (some ⟨w.heap.size, 0, none⟩) 8 8, .slice (some ⟨w.heap.size + 1 + 1, 0, none⟩) 4 4, .slice (some ⟨w.heap.size + 1 + 1 + 1 + 1, 0, none⟩) 1 1, .slice (some ⟨w.heap.size + 1 + 1 + 1, 0, none⟩) 1 1] 34)) (some ⟨w.heap.size + 1 + 1 + 1 + 1 + 1, 0, none⟩) [O.lst f, Sha.len4 leaf, [BitVec.ofNat 8 i], [BitVec.ofNat 8 v]] := by
  have hz := scrW_size w f leaf
  have g : ∀ (x y : Nat), x < 256 → y < 256 → SlL (((scrW w f leaf).alloc (.cells #[.int .u8 (x : Int)] 5)).alloc (.cells #[.int .u8 (y : Int)] 5)) (some ⟨w.heap.size + 1 + 1 + 1, 0, none⟩) [BitVec.ofNat 8 x] ∧ SlL (((scrW w f leaf).alloc (.cells #[.int .u8 (x : Int)] 5)).alloc (.cells #[.int .u8 (y : Int)] 5)) (some ⟨w.heap.size + 1 + 1 + 1 + 1, 0, none⟩) [BitVec.ofNat 8 y] := fun x y hx hy => by
    have h1 := SlL.oneN (scrW w f leaf) x 5 hx
    rw [hz] at h1
    have h2 := SlL.oneN ((scrW w f leaf).alloc (.cells #[.int .u8 (x : Int)] 5)) y 5 hy
    rw [show ((scrW w f leaf).alloc (.cells #[.int .u8 (x : Int)] 5)).heap.size = w.heap.size + 1 + 1 + 1 + 1 by simp [hz]] at h2
    exact ⟨h1.alloc _, h2⟩
  constructor
  · have h1 := parts_four (((scrW w f leaf).alloc (.cells #[.int .u8 (i : Int)] 5)).alloc (.cells #[.int .u8 (v : Int)] 5)) _ _ _ _ (O.lst f) (Sha.len4 leaf) [BitVec.ofNat 8 i] [BitVec.ofNat 8 v] 8 4 1 1 8 4 1 1 34 (O.lst_len f) rfl rfl rfl
      (((scrW_seed w f leaf).alloc _).alloc _) (((scrW_leaf w f leaf h).alloc _).alloc _) (g i v hi hv).1 (g i v hi hv).2 (by simp) (by simp) (by simp) (by simp) (by omega) (by omega) (by omega) (by omega)
    rw [show (((scrW w f leaf).alloc (.cells #[.int .u8 (i : Int)] 5)).alloc (.cells #[.int .u8 (v : Int)] 5)).heap.size = w.heap.size + 1 + 1 + 1 + 1 + 1 by simp [hz]] at h1
    exact h1
  · have h1 := parts_four (((scrW w f leaf).alloc (.cells #[.int .u8 (v : Int)] 5)).alloc (.cells #[.int .u8 (i : Int)] 5)) _ _ _ _ (O.lst f) (Sha.len4 leaf) [BitVec.ofNat 8 i] [BitVec.ofNat 8 v] 8 4 1 1 8 4 1 1 34 (O.lst_len f) rfl rfl rfl
      (((scrW_seed w f leaf).alloc _).alloc _) (((scrW_leaf w f leaf h).alloc _).alloc _) (g v i hv hi).2 (g v i hv hi).1 (by simp) (by simp) (by simp) (by simp) (by omega) (by omega) (by omega) (by omega)
    rw [show (((scrW w f leaf).alloc (.cells #[.int .u8 (v : Int)] 5)).alloc (.cells #[.int .u8 (i : Int)] 5)).heap.size = w.heap.size + 1 + 1 + 1 + 1 + 1 by simp [hz]] at h1
    exact h1
set_option maxRecDepth 5000 in
theorem four_le (f : Nat → BitVec 8) (leaf i v : Nat) : ∀ q ∈ [O.lst f, Sha.len4 leaf, [BitVec.ofNat 8 i], [BitVec.ofNat 8 v]], q.length ≤ 1000000 := by
  intro q hq
  simp only [List.mem_cons, List.not_mem_nil, or_false] at hq
  rcases hq with rfl | rfl | rfl | rfl <;> simp [O.lst, Sha.len4]
/- what is behind three blocks more, and a call -/
set_option maxRecDepth 5000 in
theorem scrW_next {w : World} {f : Nat → BitVec 8} {leaf : Nat} {o1 o2 o3 : Obj} {w1 : World} (h : Below ((((scrW w f leaf).alloc o1).alloc o2).alloc o3).heap.size ((((scrW w f leaf).alloc o1).alloc o2).alloc o3).drew w1) : Below w.heap.size w w1 ∧ RowAt w1 (w.heap.size + 1) 22 z8 := by
  have hz := scrW_size w f leaf
  have hb : Below w.heap.size w ((((scrW w f leaf).alloc o1).alloc o2).alloc o3).drew := ((((scrW_below w f leaf).alloc (by omega) _).alloc (by simp; omega) _).alloc (by simp; omega) _).drew
  exact ⟨hb.trans (h.mono (by simp; omega)), RowAt.below ((((scrW_row w f leaf).alloc _).alloc _).alloc _).drew h (by simp; omega)⟩
set_option maxRecDepth 5000 in
theorem short_sec (f : Nat → BitVec 8) (leaf i v : Nat) (ao : Option Addr) (w : World) (hs : PartsAt w ao [O.lst f, Sha.len4 leaf, [BitVec.ofNat 8 i], [BitVec.ofNat 8 v]]) (hT : Tab w) :
    Calls Tryd.prog 44 #[.int .u8 1, .slice ao 4 4] w fun e w' => e = .returned (.agg (rowB 8 (O.sec f leaf i v))) ∧ Below w.heap.size w w' :=
  short_any 1 _ ao 4 4 w rfl hs (by omega) (four_le f leaf i v) hT
set_option maxRecDepth 3000 in
set_option maxHeartbeats 1000000 in
theorem secret_any (f : Nat → BitVec 8) (leaf i v : Nat) (w : World) (hleaf : leaf < 4294967296) (hi : i < 32) (hv : v < 2) (hT : Tab w) :
    Calls Tryd.prog 41 #[.agg (rowB 8 f), .int .u32 (leaf : Int), .int .i64 (i : Int), .int .u8 (v : Int)] w fun e w' => e = .returned (.agg (rowB 8 (O.sec f leaf i v))) ∧ Below w.heap.size w w' := by
  have hT0 := hT.1
  have hw8 : IntKind.u8.wrap (i : Int) = (i : Int) := by rw [IntKind.wrap_u8]; omega
  obtain ⟨hpA, hpB⟩ := scrW_parts w f leaf i v hleaf (by omega) (by omega)
  have HA := hide hpA.drew
  have HB := hide hpB.drew
  have HT : Hid (∀ o1 o2 o3, Tab ((((scrW w f leaf).alloc o1).alloc o2).alloc o3).drew) := fun o1 o2 o3 => hT.below ((((scrW_below w f leaf).alloc (by rw [scrW_size]; omega) _).alloc (by simp [scrW_size]; omega) _).alloc (by simp [scrW_size]; omega) _).drew hT0
  clear hpA hpB hT
  go_enter Tryd.func41, Tryd.ntmps41
  go_wp2
  go_region_held3 (fun _ => True) (trivial) (first
    | ((go_at_call 44; refine (short_sec f leaf i v _ _ (by exact HA.out) (by exact HT.out _ _ _)).mono ?_; rintro e w1 ⟨rfl, hB1⟩; obtain ⟨hb1, hR1⟩ := scrW_next hB1; have hst := run_store8 hR1 rfl (O.sec f leaf i v); clear hB1))
    | ((go_at_call 44; refine (short_sec f leaf i v _ _ (by exact HB.out) (by exact HT.out _ _ _)).mono ?_; rintro e w1 ⟨rfl, hB1⟩; obtain ⟨hb1, hR1⟩ := scrW_next hB1; have hst := run_store8 hR1 rfl (O.sec f leaf i v); clear hB1)))
  all_goals go_wp2
  all_goals exact bodyPost_ret (v := .agg (rowB 8 (O.sec f leaf i v))) (results_rowAt Tryd.results41 _ _ (w.heap.size + 1) 22 _ _ rfl (setRow_same hR1 _) Tryd.underlying22 rfl (by rw [rowB_size]; exact info28)) rfl ⟨rfl, below_setRow hb1 (by omega) _⟩
end Go.Proofs.YtpiehjfoojipiaaDoor
