/- name.Wire: a name's bytes. -/
import Derived.Test.YtecikfdnnjinpabDoorChk
namespace Go.Proofs.YtecikfdnnjinpabDoor
open Go.RowKit
namespace N
def body (n : List (List UInt8)) : List UInt8 := n.flatMap (fun l => UInt8.ofNat l.length :: l)
def wire (n : List (List UInt8)) : List UInt8 := body n ++ [0]
theorem body_len : ∀ n : List (List UInt8), (body n).length + 1 = size n
  | [] => rfl
  | l :: n => by
    have h := body_len n
    have e : body (l :: n) = (UInt8.ofNat l.length :: l) ++ body n := by simp [body]
    rw [e, List.length_append, List.length_cons]
    have e2 : size (l :: n) = (l.length + 1) + size n := by simp only [size, List.map_cons, List.sum_cons]; omega
    omega
theorem body_next (n : List (List UInt8)) (j : Nat) (h : j < n.length) : body (n.take (j + 1)) = body (n.take j) ++ [UInt8.ofNat (n.getD j []).length] ++ n.getD j [] := by
  rw [take_nextN n j h]; simp [body]
theorem wire_len (n : List (List UInt8)) : (wire n).length = size n := by
  unfold wire; rw [List.length_append, ← body_len]; rfl
end N
theorem make_own (w : World) (c : Nat) (x : Int) (hx : x = (c : Int)) (hc : c ≤ 100000000000000) : ∃ w', (Instr.makeSlice 23 (.int .i64 0) (.int .i64 x)).run Tryd.prog w = .ok (.slice (some ⟨w.heap.size, 0, none⟩) 0 c) w' ∧ OwnB w' w.heap.size (.slice (some ⟨w.heap.size, 0, none⟩) 0 c) [] ∧ Below w.heap.size w w' := by
  subst hx
  obtain ⟨i0, hi, hz0, hz1, hz2⟩ := info_parts infoB
  obtain ⟨w', h1, h2, h3⟩ := run_make_own w w.heap.size 23 5 i0 (.int .u8 0) 1 Tryd.underlying23 hi hz0 hz1 .i64 .i64 c (by rw [hz2]; omega) (by unfold maxLen; omega) (Nat.le_refl _)
  exact ⟨w', h1, h2, (Below.refl _ _).grown h3 (Nat.le_refl _) (fun k hk => by cases hk)⟩
set_option maxRecDepth 3000 in
set_option maxHeartbeats 400000 in
theorem wire_any (n : List (List UInt8)) (ao : Option Addr) (len cap : Nat) (w : World) (hl : Hid (n.length = len)) (hs : SlS w ao n) (hm : Hid (N.Small n)) :
    Calls Tryd.prog 15 #[.slice ao len cap] w fun e w' => ∃ v, e = .returned v ∧ OwnB w' w.heap.size v (N.wire n) ∧ Below w.heap.size w w' := by
  have HS := hide hs
  have hlen : len ≤ 1000000 := by rw [← hl.out]; exact hm.out.1
  have hsz : N.size n ≤ 1 + len * 1000001 := by
    have := hm.out.size n.length (Nat.le_refl _)
    rw [List.take_length, hl.out] at this; exact this
  obtain ⟨w1, hmk, hO1, hB1⟩ := make_own w (N.size n) (N.size n : Int) rfl (by omega)
  clear hs
  go_enter Tryd.func15, Tryd.ntmps15
  go_wp2_with (go_at_call 27; refine (wireSize_any n ao len cap _ hl HS.out hm).mono ?_; rintro e w' ⟨rfl, rfl⟩)
  clear hmk
  go_loopw [11, 3] (fun i v wr => ∃ j : Nat, i = .int .i64 (j : Int) ∧ j ≤ len ∧ OwnB wr w'.heap.size v (N.body (n.take j)) ∧ Below w'.heap.size w' wr) (fun i _ _ => len - (intOf i).toNat)
  case atStart => exact ⟨0, rfl, by omega, hO1, hB1⟩
  case round =>
    clear hO1 hB1
    obtain ⟨j, rfl, hj, hO, hB⟩ := hrel
    have hz := hB.size
    have hbl := N.body_len (n.take j)
    have hsj := hm.out.size j (by have := hl.out; omega)
    by_cases hlt : j < len
    · obtain ⟨b1, o1, rfl, hb1, hc1⟩ := HS.out (by have := hl.out; omega)
      have hx := (hB.cell (p := ⟨b1, o1 + j, none⟩) hb1).trans (hc1 j (by have := hl.out; omega))
      have hn := N.body_next n j (by have := hl.out; omega)
      have hxl := hm.out.at j
      clear hc1
      generalize n.getD j [] = x at hx hn hxl
      have HN := hide hn
      clear hn
      go_wp2_with (first
        | (at_builtin; refine wpList_append_B rfl (.tmp 15) (.tmp 19) rfl w'.heap.size _ (N.body (n.take j)) rfl (by exact hO.alloc _) _ _ _ [UInt8.ofNat x.length] rfl rfl (SlL.oneI _ _ _ _ (by first | rfl | (rw [UInt8.toNat_ofNat']; omega))) (by simp) (by omega) (by simp; omega) ?_; intro v4 w4 hO4 hG4; have hB4 := grown_below (hO.alloc _) hG4 (hB.alloc hz _) (by simp; omega); have hz4 := hB4.size; clear hG4 hO)
        | (at_builtin; refine wpList_append_BS rfl (.tmp 21) (.tmp 22) rfl w'.heap.size _ _ rfl hO4 x rfl (by simp only [List.length_append, List.length_singleton]; omega) hz4 ?_; intro v5 w5 hO5 hG5; have hB5 := grown_below hO4 hG5 hB4 hz4; clear hG5))
      go_roundw
      case rel => exact ⟨j + 1, by go_num, by omega, (by rw [HN.out]; exact hO5), hB5⟩
      case measure => simp [intOf]; omega
    · obtain rfl : j = len := by omega
      go_wp2_with (at_builtin; refine wpList_append_B rfl (.tmp 25) (.tmp 26) rfl w'.heap.size _ (N.body (n.take j)) rfl (by exact hO.alloc _) _ _ _ [0] rfl rfl (SlL.oneI _ _ _ _ (by rfl)) (by simp) (by omega) (by simp; omega) ?_; intro v4 w4 hO4 hG4; have hB4 := grown_below (hO.alloc _) hG4 (hB.alloc hz _) (by simp; omega); clear hG4 hO)
      go_ret
      refine ⟨_, rfl, ?_, hB4⟩
      have ht : n.take j = n := by rw [← hl.out]; exact List.take_length
      rw [ht] at hO4
      exact hO4
end Go.Proofs.YtecikfdnnjinpabDoor
