/- journal.frameEnd of whole frames. -/
import Derived.Test.YtidocfajhhpfdaaDoorJfr
import Derived.RegionDies
namespace Go.Proofs.YtidocfajhhpfdaaDoor
open Go.RowKit
set_option maxRecDepth 5000 in
theorem SlL.sub {w : World} {g o : Nat} {l : List UInt8} (h : SlL w (some ⟨g, o, none⟩) l) (i m : Nat) : SlL w (some ⟨g, o + i, none⟩) ((l.drop i).take m) := fun hl => by
  rw [List.length_take, List.length_drop] at hl
  obtain ⟨b, o', e, hlt, hc⟩ := h (by omega)
  cases e
  refine ⟨g, o + i, rfl, hlt, fun j hj => ?_⟩
  rw [List.length_take, List.length_drop] at hj
  rw [Nat.add_assoc, hc (i + j) (by omega)]
  simp only [List.getD_eq_getElem?_getD, List.getElem?_take, List.getElem?_drop]
  rw [if_pos (by omega)]
set_option maxRecDepth 5000 in
theorem SlL.pre {w : World} {g o : Nat} {l : List UInt8} (h : SlL w (some ⟨g, o, none⟩) l) (m : Nat) : SlL w (some ⟨g, o, none⟩) (l.take m) := by
  have := h.sub 0 m; rwa [Nat.add_zero, List.drop_zero] at this
set_option maxRecDepth 5000 in
theorem SlL.suf {w : World} {g o : Nat} {l : List UInt8} (h : SlL w (some ⟨g, o, none⟩) l) (i : Nat) : SlL w (some ⟨g, o + i, none⟩) (l.drop i) := by
  have := h.sub i (l.length - i)
  rwa [List.take_of_length_le (by rw [List.length_drop]; omega)] at this
set_option maxRecDepth 5000 in
theorem sl_mid (g o L C A B : Nat) (hAB : A ≤ B) (hBC : B ≤ C) (hAC : A < C) (w : World) : (Instr.sliceAt 22 (.slice (some ⟨g, o, none⟩) L C) (some (.int .i64 (A : Int))) (some (.int .i64 (B : Int))) none).run Tryd.prog w = .ok (.slice (some ⟨g, o + A, none⟩) (B - A) (C - A)) w := by
  have h1 : (A : Int) ≤ (B : Int) := by omega
  have h2 : (B : Int) ≤ (C : Int) := by omega
  have h3 : ¬ C = A := by omega
  rw [run_sliceAt_slice w 22 _ _ _ _ Tryd.underlying22]
  simp [Instr.slice, run_underlying Tryd.underlying22, Instr.sliceBounds, run_sliceBound, h1, h2, h3, Addr.add]
set_option maxRecDepth 5000 in
theorem sl_pre (g o L C B : Nat) (hBC : B ≤ C) (w : World) : (Instr.sliceAt 22 (.slice (some ⟨g, o, none⟩) L C) none (some (.int .i64 (B : Int))) none).run Tryd.prog w = .ok (.slice (some ⟨g, o, none⟩) B C) w := by
  have h2 : (B : Int) ≤ (C : Int) := by omega
  rw [run_sliceAt_slice w 22 _ _ _ _ Tryd.underlying22]
  simp [Instr.slice, run_underlying Tryd.underlying22, Instr.sliceBounds, run_sliceBound, h2, Addr.add]
set_option maxRecDepth 5000 in
theorem sl_suf (g o L C A : Nat) (hAL : A ≤ L) (w : World) : (Instr.sliceAt 22 (.slice (some ⟨g, o, none⟩) L C) (some (.int .i64 (A : Int))) none none).run Tryd.prog w = .ok (.slice (some ⟨g, if C = A then o else o + A, none⟩) (L - A) (C - A)) w := by
  have h1 : (A : Int) ≤ (L : Int) := by omega
  rw [run_sliceAt_slice w 22 _ _ _ _ Tryd.underlying22]
  simp [Instr.slice, run_underlying Tryd.underlying22, Instr.sliceBounds, run_sliceBound, h1, Addr.add]
  split
  · rfl
  · split
    · rename_i h; rw [h]; rfl
    · rfl
namespace J
set_option maxRecDepth 5000 in
theorem fr_parts (k : Nat) (r rest : List UInt8) (hk : k < 4294967296) (hr : r.length < 4294967296) :
    num ((fr k r ++ rest).take 4) = k ∧ num (((fr k r ++ rest).drop 4).take 4) = r.length ∧ ((fr k r ++ rest).drop 8).take r.length = r ∧ (fr k r ++ rest).take (r.length + 8) = fpre k r ∧ num (((fr k r ++ rest).drop (r.length + 8)).take 4) = crc (fpre k r) ∧ (fr k r ++ rest).drop (r.length + 12) = rest := by
  have e0 : fr k r ++ rest = be 4 k ++ (be 4 r.length ++ (r ++ (be 4 (crc (fpre k r)) ++ rest))) := by simp [fr, fpre]
  have l8 : (be 4 k ++ be 4 r.length).length = 8 := by simp [be_len]
  have lp : (fpre k r).length = r.length + 8 := by simp [fpre, be_len]; omega
  refine ⟨?_, ?_, ?_, ?_, ?_, ?_⟩
  · rw [e0, List.take_left' (be_len 4 k), num_be, Nat.mod_eq_of_lt (by omega)]
  · rw [e0, List.drop_left' (be_len 4 k), List.take_left' (be_len 4 _), num_be, Nat.mod_eq_of_lt (by omega)]
  · rw [e0, ← List.append_assoc, List.drop_left' l8, List.take_left' rfl]
  · rw [fr, List.append_assoc, List.take_left' lp]
  · rw [fr, List.append_assoc, List.drop_left' lp, List.take_left' (be_len 4 _), num_be, Nat.mod_eq_of_lt (by have := crc_lt (fpre k r); omega)]
  · rw [List.drop_left' (fr_len k r)]
end J
set_option maxHeartbeats 2000000 in
set_option maxRecDepth 5000 in
theorem frameEnd_ok (w : World) (ht : Tab w) (g o c k : Nat) (r rest b : List UInt8) (hb : b = J.fr k r ++ rest) (hr0 : r ≠ []) (hk : k < 4294967296) (hl : b.length ≤ 1000000000) (hc : b.length ≤ c) (hs : SlL w (some ⟨g, o, none⟩) b) :
    Calls Tryd.prog 49 #[.slice (some ⟨g, o, none⟩) b.length c] w fun e w' => e = .returned (.int .i64 ((r.length + 12 : Nat) : Int)) ∧ ∃ n, w' = w.drewN n := by
  have hbl : b.length = r.length + 12 + rest.length := by rw [hb, List.length_append, J.fr_len]
  obtain ⟨p1, p2, p3, p4, p5, p6⟩ := J.fr_parts k r rest hk (by omega)
  rw [← hb] at p1 p2 p3 p4 p5 p6
  have l5 : (J.fpre k r).length = r.length + 8 := by simp [J.fpre, J.be_len]; omega
  have n1 : Calls Tryd.prog 50 #[.slice (some ⟨g, o + 4, none⟩) 4 (c - 4)] w fun e w' => e = .returned (.int .u64 (r.length : Int)) ∧ w' = w := by
    have := number_any w (some ⟨g, o + 4, none⟩) (c - 4) 4 ((b.drop 4).take 4) (by rw [List.length_take, List.length_drop]; omega) (by omega) (hs.sub 4 4)
    rw [p2] at this; exact this
  have n2 : ∀ (W : World) (m : Nat), W = w.drewN m → Calls Tryd.prog 50 #[.slice (some ⟨g, o + (r.length + 8), none⟩) 4 (c - (r.length + 8))] W fun e w' => e = .returned (.int .u64 (J.crc (J.fpre k r) : Int)) ∧ w' = W := fun W m hW => by
    have := number_any W (some ⟨g, o + (r.length + 8), none⟩) (c - (r.length + 8)) 4 ((b.drop (r.length + 8)).take 4) (by rw [List.length_take, List.length_drop]; omega) (by omega) (by rw [hW]; exact hs.sub (r.length + 8) 4)
    rw [p5] at this; exact this
  have n3 : ∀ (W : World) (m : Nat), W = w.drewN m → Calls Tryd.prog 10 #[.slice (some ⟨g, o, none⟩) (r.length + 8) c] W fun e w' => e = .returned (.int .u32 (J.crc (J.fpre k r) : Int)) ∧ w' = W := fun W m hW => by
    have := crc_at W (by rw [hW]; exact ht) (some ⟨g, o, none⟩) c (r.length + 8) (b.take (r.length + 8)) (by rw [List.length_take]; omega) (by omega) (by rw [hW]; exact hs.pre (r.length + 8))
    rw [p4] at this; exact this
  have hcl := J.crc_lt (J.fpre k r)
  generalize J.crc (J.fpre k r) = X at n2 n3 hcl
  generalize b.length = n at hbl hl hc
  have hR0 : 0 < r.length := List.length_pos_iff.2 hr0
  clear hr0
  generalize hR : r.length = R at n1 n2 n3 hbl hR0
  have hn12 : 12 ≤ n := by omega
  have hR2 : R + 12 ≤ n := by omega
  clear p1 p2 p3 p4 p5 p6 l5 hR hbl hs ht hb hk
  have f1 : IntKind.u64.wrap ((n : Int) - 12) = (n : Int) - 12 := by rw [IntKind.wrap_u64]; omega
  have f2 : IntKind.i64.wrap (R : Int) = (R : Int) := by rw [IntKind.wrap_i64]; omega
  have f3 : ¬ (n : Int) < 12 := by omega
  have f5 : ((R : Int) == 0) = false := by simp; omega
  have f4 : decide ((n : Int) - 12 < (R : Int)) = false := by simp; omega
  have f7 : IntKind.u64.wrap (X : Int) = (X : Int) := by rw [IntKind.wrap_u64]; omega
  go_enter Tryd.func49, Tryd.ntmps49
  go_wp2_with (go_at_call 50; refine n1.mono ?_; rintro e w' ⟨rfl, hw⟩; rw [hw]; clear hw w')
  obtain ⟨E, hE⟩ : ∃ E : Nat, (R : Int) + 12 = (E : Int) := ⟨R + 12, by omega⟩
  obtain ⟨Q, hQ⟩ : ∃ Q : Nat, R + 8 = Q := ⟨_, rfl⟩
  rw [hE]
  rw [hQ] at n2 n3
  have hEQ : (E : Int) - 4 = (Q : Int) := by omega
  have hQE : Q ≤ E := by omega
  have f8 : IntKind.i64.wrap ((E : Int) - 4) = (Q : Int) := by rw [IntKind.wrap_i64]; omega
  have f9 : E ≤ 1000000012 := by omega
  have hEc : E ≤ c := by omega
  have hQc : Q ≤ c := by omega
  have hd4 : E - Q = 4 := by omega
  have HE : Hid (E = R + 12) := by show _ = _; omega
  have s1 := sl_mid g o n c Q E hQE hEc (by omega)
  rw [hd4] at s1
  have s2 := sl_pre g o n c Q hQc
  generalize o + Q = oQ at s1 n2
  generalize c - Q = cQ at s1 n2
  have HEQ := hide hEQ
  clear hEQ hQE hEc hQc hd4
  clear hE hQ n1 f1 f2 f3 f4 f5 hR0 hn12 hR2 hc
  go_region_held3 (fun _ => True) (first | trivial) (first
    | (go_at_call 50; refine (n2 _ _ rfl).mono ?_; rintro e w' ⟨rfl, hw⟩; rw [hw]; clear hw w')
    | (go_at_call 10; refine (n3 _ _ rfl).mono ?_; rintro e w' ⟨rfl, hw⟩; rw [hw]; clear hw w'))
  all_goals
    go_wp2
    go_ret
    exact ⟨by rw [← HE.out]; rfl, _, rfl⟩
end Go.Proofs.YtidocfajhhpfdaaDoor
