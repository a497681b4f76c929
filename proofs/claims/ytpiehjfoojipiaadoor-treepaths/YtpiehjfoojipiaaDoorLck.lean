/- Two rows of bytes are held against one another, byte by byte. -/
import Derived.Test.YtpiehjfoojipiaaDoorShort
import Derived.ChangeKeysEq
import Derived.Lib.SlBytesConst
import Derived.Test.YtpiehjfoojipiaaDoorOnce
namespace Go.Proofs.YtpiehjfoojipiaaDoor
open Go.RowKit
set_option maxRecDepth 5000 in
theorem run_part5 (n : Nat) (f : Nat → BitVec 8) (j : Nat) (hj : j < n) (w : World) : (part 5 (rowB n f) j).run Tryd.prog w = .ok (.int .u8 (f j).toNat) w := by
  have h := rowB_get n f j hj
  have ha : (isAgg 5).run Tryd.prog w = .ok false w := by simp [isAgg, run_underlying Tryd.underlying5]
  simp [part, ha, h]
set_option maxRecDepth 5000 in
theorem cells5 : Tryd.prog.cellsOf 5 = 1 := by kernel_rfl
set_option maxRecDepth 5000 in
theorem eqItems_B (n : Nat) (f g : Nat → BitVec 8) (d : Nat) : ∀ (is : List Nat) (w : World), (∀ j ∈ is, j < n) → (Op.eqItems (d + 1) 5 1 (rowB n f) (rowB n g) is).run Tryd.prog w = .ok (decide (∀ j ∈ is, f j = g j)) w
  | [], w, _ => by simp [Op.eqItems]
  | j :: is, w, h => by
    have hj := h j (by simp)
    have ih := eqItems_B n f g d is w (fun k hk => h k (by simp [hk]))
    simp only [Op.eqItems, Sem.run_bind, Nat.mul_one, run_part5 n f j hj, run_part5 n g j hj, Result.andThen_ok, run_equalIn_int w d 5 .u8 .u8 _ _ Tryd.underlying5]
    by_cases e : f j = g j
    · simp [e, ih]
    · have e' : ((f j).toNat : Int) ≠ ((g j).toNat : Int) := fun h => e (BitVec.eq_of_toNat_eq (by omega))
      have : (((f j).toNat : Int) == ((g j).toNat : Int)) = false := by simpa using e'
      simp [this, e]
set_option maxRecDepth 5000 in
theorem run_eqB {t : TypeId} {n : Nat} (hu : Tryd.prog.underlying t = some (.array n 5)) (f g : Nat → BitVec 8) (w : World) : (Op.equalIn 10000 t (.agg (rowB n f)) (.agg (rowB n g))).run Tryd.prog w = .ok (decide (∀ j ∈ List.range n, f j = g j)) w := by
  obtain ⟨i0, hi, _⟩ := info_parts info5
  rw [run_equalIn_array w 9999 _ _ hu hi, cells5]
  exact eqItems_B n f g 9998 _ w (fun j hj => by simpa using hj)
set_option maxRecDepth 5000 in
theorem run_eqB_same {t : TypeId} {n : Nat} (hu : Tryd.prog.underlying t = some (.array n 5)) (f : Nat → BitVec 8) (w : World) : (Op.equalIn 10000 t (.agg (rowB n f)) (.agg (rowB n f))).run Tryd.prog w = .ok true w := by
  rw [run_eqB hu]; simp
end Go.Proofs.YtpiehjfoojipiaaDoor

/- Helps of examples: literal bytes, lists of one and of two parts, rows of eight bytes that are unlike. -/
namespace Go.Proofs.YtpiehjfoojipiaaDoor
open Go.RowKit
set_option maxRecDepth 5000 in
theorem SlL.litm (w : World) (l : List (BitVec 8)) (A : Array Value) (t : TypeId) (fr : Nat × Nat) (h : A = (vb l).toArray) : SlL (w.alloc (.cells A t fr)) (some ⟨w.heap.size, 0, none⟩) l := fun _ => by
  subst h
  refine ⟨w.heap.size, 0, rfl, by simp, fun j hj => ?_⟩
  rw [cell_of_row _ _ _ _ t fr (heap_alloc_last w _), Nat.zero_add]
  simp only [List.getElem?_toArray]
  exact vb_get l j hj
set_option maxRecDepth 5000 in
theorem run_conv (w : World) (C : Array Value) (g n c : Nat) (hg : g = w.heap.size) : (convert 34 34 (.slice (some ⟨g, 0, none⟩) n c)).run Tryd.prog (w.alloc (.cells C 5)) = .ok (.slice (some ⟨g, 0, none⟩) n c) (w.alloc (.cells C 5 (C.size, C.size + 1))) := by
  subst hg; exact Lib.run_convert_bytes_const w 34 5 C n c Tryd.underlying34 Tryd.underlying5
set_option maxRecDepth 5000 in
theorem parts_one (w : World) (a : Option Addr) (p : List (BitVec 8)) (c : Nat) (t : TypeId) (hs : SlL w a p) (hn : a = none → c = 0) (hc : p.length ≤ c) : PartsAt (w.alloc (.cells #[.slice a p.length c] t)) (some ⟨w.heap.size, 0, none⟩) [p] := fun _ => by
  refine ⟨w.heap.size, 0, rfl, by simp, fun j hj => ?_⟩
  have : j = 0 := by simpa using hj
  subst this
  exact ⟨a, c, by rw [(RowAt.new w t _).cell]; rfl, hs.alloc _, hn, hc⟩
set_option maxRecDepth 5000 in
theorem parts_two (w : World) (a a' : Option Addr) (p p' : List (BitVec 8)) (c c' : Nat) (t : TypeId) (hs : SlL w a p) (hn : a = none → c = 0) (hc : p.length ≤ c) (hs' : SlL w a' p') (hn' : a' = none → c' = 0) (hc' : p'.length ≤ c') : PartsAt (w.alloc (.cells #[.slice a p.length c, .slice a' p'.length c'] t)) (some ⟨w.heap.size, 0, none⟩) [p, p'] := fun _ => by
  refine ⟨w.heap.size, 0, rfl, by simp, fun j hj => ?_⟩
  have hj2 : j < 2 := hj
  rcases (show j = 0 ∨ j = 1 by omega) with rfl | rfl
  · exact ⟨a, c, by rw [(RowAt.new w t _).cell]; rfl, hs.alloc _, hn, hc⟩
  · exact ⟨a', c', by rw [(RowAt.new w t _).cell]; rfl, hs'.alloc _, hn', hc'⟩
set_option maxRecDepth 5000 in
theorem run_ne8 (F G : Nat → BitVec 8) (h : (decide (∀ j ∈ List.range 8, F j = G j)) = false) (w : World) : (Op.equalIn 10000 22 (.agg #[.int .u8 (F 0).toNat, .int .u8 (F 1).toNat, .int .u8 (F 2).toNat, .int .u8 (F 3).toNat, .int .u8 (F 4).toNat, .int .u8 (F 5).toNat, .int .u8 (F 6).toNat, .int .u8 (F 7).toNat]) (.agg #[.int .u8 (G 0).toNat, .int .u8 (G 1).toNat, .int .u8 (G 2).toNat, .int .u8 (G 3).toNat, .int .u8 (G 4).toNat, .int .u8 (G 5).toNat, .int .u8 (G 6).toNat, .int .u8 (G 7).toNat])).run Tryd.prog w = .ok false w := by
  have h1 := run_eqB Tryd.underlying22 F G w
  rw [h] at h1
  exact h1
set_option maxRecDepth 5000 in
theorem cells8 {w : World} {g : Nat} {t : TypeId} {F : Nat → BitVec 8} (h : RowAt w g t (rowB 8 F)) : w.cell? ⟨g, 0, none⟩ = some (.int .u8 (F 0).toNat) ∧ w.cell? ⟨g, 1, none⟩ = some (.int .u8 (F 1).toNat) ∧ w.cell? ⟨g, 2, none⟩ = some (.int .u8 (F 2).toNat) ∧ w.cell? ⟨g, 3, none⟩ = some (.int .u8 (F 3).toNat) ∧ w.cell? ⟨g, 4, none⟩ = some (.int .u8 (F 4).toNat) ∧ w.cell? ⟨g, 5, none⟩ = some (.int .u8 (F 5).toNat) ∧ w.cell? ⟨g, 6, none⟩ = some (.int .u8 (F 6).toNat) ∧ w.cell? ⟨g, 7, none⟩ = some (.int .u8 (F 7).toNat) :=
  ⟨h.cell 0, h.cell 1, h.cell 2, h.cell 3, h.cell 4, h.cell 5, h.cell 6, h.cell 7⟩
end Go.Proofs.YtpiehjfoojipiaaDoor

/- onetime.lock: the lock of whatever bytes. -/
namespace Go.Proofs.YtpiehjfoojipiaaDoor
open Go.RowKit
def z8 : Array Value := #[.int .u8 0, .int .u8 0, .int .u8 0, .int .u8 0, .int .u8 0, .int .u8 0, .int .u8 0, .int .u8 0]
set_option maxRecDepth 3000 in
set_option maxHeartbeats 1000000 in
theorem lock_any (p : List (BitVec 8)) (ao : Option Addr) (n cap : Nat) (w : World) (hl : Hid (p.length = n)) (hs : SlL w ao p) (hnil : ao = none → cap = 0) (hc : n ≤ cap) (hn : n ≤ 1000000) (hT : Tab w) :
    Calls Tryd.prog 43 #[.slice ao n cap] w fun e w' => e = .returned (.agg (rowB 8 (O.lock p))) ∧ Below w.heap.size w w' := by
  have hT0 := hT.1
  have hp := parts_one (w.alloc (.cells z8 22)) ao p cap 34 (hs.alloc _) hnil (by rw [hl.out]; exact hc)
  rw [hl.out, show (w.alloc (.cells z8 22)).heap.size = w.heap.size + 1 by simp] at hp
  have hb : Below w.heap.size w ((w.alloc (.cells z8 22)).alloc (.cells #[.slice ao n cap] 34)) := ((Below.refl _ _).alloc (Nat.le_refl _) _).alloc (by simp) _
  have hR := (RowAt.new w 22 z8).alloc (.cells #[.slice ao n cap] 34)
  have HL : Hid (∀ q ∈ [p], q.length ≤ 1000000) := fun q hq => by
    have := hl.out
    simp only [List.mem_singleton] at hq; subst hq; omega
  have hTb := hT.below hb hT0
  clear hs hnil
  go_enter Tryd.func43, Tryd.ntmps43
  go_wp2_with fail
  refine (short_any 2 [p] _ _ _ _ (by exact rfl) (by exact hp) (by omega) HL.out (by exact hTb)).mono ?_
  rintro e w1 ⟨rfl, hB1⟩
  have hb1 := hb.trans (hB1.mono (by simp; omega))
  have hR1 : RowAt w1 w.heap.size 22 z8 := RowAt.below hR hB1 (by simp; omega)
  clear hB1 hb hp hR hTb
  go_wp2_with (refine wpList_store_rowAt rfl 22 (.tmp 2) (.tmp 5) rfl w.heap.size _ rfl rfl 22 z8 hR1 (by rw [rowB_size]; exact info28) (by rw [rowB_size]; rfl) (rowB_one _ _) ?_)
  exact bodyPost_ret (v := .agg (rowB 8 (O.lock p))) (results_rowAt Tryd.results43 _ _ w.heap.size 22 _ _ rfl (setRow_same hR1 _) Tryd.underlying22 rfl (by rw [rowB_size]; exact info28)) rfl ⟨rfl, below_setRow hb1 (Nat.le_refl _) _⟩
end Go.Proofs.YtpiehjfoojipiaaDoor
