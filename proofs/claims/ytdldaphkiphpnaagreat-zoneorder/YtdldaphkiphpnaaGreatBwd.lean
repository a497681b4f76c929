/- slices.Backward of a name, as an iterator: its labels, the last one first. -/
import Derived.Test.YtdldaphkiphpnaaGreatZgr
import Derived.RangeFuncNested
import Derived.RangeFuncBound
import Derived.RangeFuncCalls
import Derived.RangeFuncLeaves
import Derived.Shelf.Abstract
import Derived.Shelf.RegionOpen
import Derived.WalkKit
import Derived.OwnWalkIn
import Derived.TacticsInMore
import Derived.LoopNIn
import Derived.LoopIn
namespace Go.Proofs.YtdldaphkiphpnaaGreat
open Go.RowKit Go.Shelf
attribute [local go_sem] Oper.semAt_some
set_option maxRecDepth 5000 in
theorem backward_any (w : World) (ao : Option Addr) (L c : Nat) : Calls Tryz.prog 81 #[.slice ao L c] w fun e w' =>
    e = .returned (.func (.func 106) #[] #[.pointer (some ⟨w.heap.size, 0, none⟩)]) ∧ w' = w.alloc (.cells #[.slice ao L c] 28) := by
  have hmf : ∀ (fn : Fn) (first cap : Array Value) (w : World), (Instr.makeFunc fn first cap).run Tryz.prog w = .ok (.func fn first cap) w := fun _ _ _ _ => rfl
  go_enter Tryz.func81, Tryz.ntmps81
  go_wp2
  go_ret
  exact ⟨rfl, rfl⟩
/- the box of the name, and its row, are kept -/
structure KpA (b1 : Nat) (ao : Option Addr) (W W' : World) : Prop where
  box : W'.heap[b1]? = W.heap[b1]?
  row : ∀ a, ao = some a → W'.heap[a.block]? = W.heap[a.block]?
  size : W.heap.size ≤ W'.heap.size
set_option maxRecDepth 5000 in
theorem KpA.trans {b1 : Nat} {ao : Option Addr} {A B D : World} (h : KpA b1 ao A B) (h' : KpA b1 ao B D) : KpA b1 ao A D := ⟨h'.box.trans h.box, fun a e => (h'.row a e).trans (h.row a e), Nat.le_trans h.size h'.size⟩
set_option maxRecDepth 5000 in
theorem KpA.sl {b1 : Nat} {ao : Option Addr} {W W' : World} (h : KpA b1 ao W W') {n : List (List UInt8)} (hs : SlS W ao n) : SlS W' ao n := fun hn => by
  have hz := h.size
  obtain ⟨b, o, e, hlt, hc⟩ := hs hn
  refine ⟨b, o, e, by omega, fun j hj => ?_⟩
  rw [← hc j hj]
  exact World.cell?_of_block (a := ⟨b, o + j, none⟩) (h.row ⟨b, o, none⟩ e)
def lab (n : List (List UInt8)) (x : Nat) : List UInt8 := n.getD (n.length - 1 - x) []
def bwv (n : List (List UInt8)) (x : Nat) : Array Value := #[.int .i64 ((n.length : Int) - 1 - (x : Int)), .string ⟨(lab n x).toArray⟩]
set_option maxRecDepth 100000 in
set_option maxHeartbeats 2000000 in
theorem back1_in (l b1 C L : Nat) (ao : Option Addr) (n : List (List UInt8)) (hL : Hid (n.length = L)) (hL2 : L ≤ 1000000) (J Jx : List Nat → World → Prop)
    (hY : ∀ pre x W, J pre W → pre.length < L → YieldAt Fence.wide 4 Tryz.prog l (bwv n x) W fun e W' =>
      (e = .returned (.bool true) ∧ J (pre ++ [x]) W' ∧ KpA b1 ao W W') ∨ (e = .returned (.bool false) ∧ Jx (pre ++ [x]) W'))
    (W : World) (hb1 : RowAt W b1 28 #[.slice ao L C]) (hs : SlS W ao n) (h0 : J [] W) :
    CallsIn Fence.wide 5 Tryz.prog 106 #[.func (.yield l) #[] #[], .pointer (some ⟨b1, 0, none⟩)] W fun e W' => (∃ v, e = .returned v) ∧
      (J (List.range L) W' ∨ ∃ k, k < L ∧ Jx (List.range (k + 1)) W') := by
  refine callsIn_of_wp Tryz.func106 rfl trivial ?_ rfl
  simp only [Tryz.ntmps106, List.size_toArray, List.length_cons, List.length_nil, Nat.reduceAdd, Nat.reduceSub, Array.replicate_succ, Array.replicate_zero, List.push_toArray, List.append_toArray, List.nil_append, List.cons_append]
  have x1 : W.cell? ⟨b1, 0, none⟩ = some (.slice ao L C) := hb1.cell 0
  have hw0 : IntKind.i64.wrap ((L : Int) - 1) = (L : Int) - 1 := by rw [IntKind.wrap_i64]; omega
  have HS := hide hs
  have HB := hide hb1
  clear hs hb1
  gi_wp2
  clear x1
  gi_loopw [3] (fun i wr => ∃ k : Nat, k ≤ L ∧ i = .int .i64 ((L : Int) - 1 - (k : Int)) ∧ J (List.range k) wr ∧ RowAt wr b1 28 #[.slice ao L C] ∧ SlS wr ao n)
    (fun i _ => (intOf i + 1).toNat)
  case atStart => exact ⟨0, by omega, by simp, by simpa using h0, HB.out, HS.out⟩
  case round =>
    obtain ⟨k, hk, rfl, hJs, hr1, hs1⟩ := hrel
    have x1 : wr.cell? ⟨b1, 0, none⟩ = some (.slice ao L C) := hr1.cell 0
    by_cases hlt : k < L
    · have hge : (0 : Int) ≤ (L : Int) - 1 - (k : Int) := by omega
      obtain ⟨g, o, rfl, hg, hc⟩ := hs1 (by have := hL.out; omega)
      obtain ⟨i, hi⟩ : ∃ i, i = L - 1 - k := ⟨_, rfl⟩
      have hie : (L : Int) - 1 - (k : Int) = (i : Int) := by omega
      have x2 : wr.cell? ⟨g, o + i, none⟩ = some (.string ⟨(lab n k).toArray⟩) := by
        have := hc i (by have := hL.out; omega)
        rw [this]; unfold lab; rw [hL.out, ← hi]
      have hin : (i : Int) < (L : Int) := by omega
      have hw1 : IntKind.i64.wrap ((i : Int) - 1) = (L : Int) - 1 - ((k + 1 : Nat) : Int) := by rw [IntKind.wrap_i64]; omega
      obtain ⟨fn, tmps, assign, body, hy, hR⟩ := hY (List.range k) k wr hJs (by rw [List.length_range]; exact hlt)
      unfold bwv at hy
      rw [hL.out, hie] at hy
      rw [hie] at hge ⊢
      have HR := hide hR
      have H1 := hide hr1
      have H2 := hide hs1
      have HI := hide hi
      have HC := hide hc
      clear hR hr1 hs1 hi hie hc
      gi_wp2
      refine HR.out.mono ?_
      rintro e W3 (⟨rfl, hJ3, hk3⟩ | ⟨rfl, hJx3⟩)
      · have hr13 : RowAt W3 b1 28 #[.slice (some ⟨g, o, none⟩) L C] := hk3.box.trans H1.out
        have hs13 : SlS W3 (some ⟨g, o, none⟩) n := hk3.sl H2.out
        gi_wp2
        (try rw [hw1])
        go_roundw
        case rel => exact ⟨k + 1, by omega, rfl, by rw [List.range_succ]; exact hJ3, hr13, hs13⟩
        case measure => simp [intOf]; have := HI.out; omega
      · gi_wp2
        refine bodyPost_ret (results_none rfl _ _ _) rfl ?_
        exact ⟨⟨_, rfl⟩, .inr ⟨k, hlt, by rw [List.range_succ]; exact hJx3⟩⟩
    · have hge : ¬ (0 : Int) ≤ (L : Int) - 1 - (k : Int) := by omega
      have hkL : k = L := by omega
      have HK := hide hkL
      clear hkL
      gi_wp2
      go_end0
      exact ⟨⟨_, rfl⟩, .inl (by rw [← HK.out]; exact hJs)⟩
end Go.Proofs.YtdldaphkiphpnaaGreat
