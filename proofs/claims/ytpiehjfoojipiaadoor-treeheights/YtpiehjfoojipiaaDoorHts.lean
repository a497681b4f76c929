/- The law TreeHeights. -/
import Derived.Test.YtpiehjfoojipiaaDoorKno
namespace Go.Proofs.YtpiehjfoojipiaaDoor
open Go.RowKit
set_option maxRecDepth 5000 in
theorem ver_len (root m s : List (BitVec 8)) (h : Int) (H : Nat) (hs : s.length = 516 + 8 * H) (hne : ¬ (h = (H : Int))) : T.ver root h m s = false := by
  unfold T.ver
  rw [decide_eq_false_iff_not]
  rintro ⟨_, _, _, h4, _⟩
  rw [hs] at h4
  omega
set_option maxRecDepth 3000 in
set_option maxHeartbeats 1000000 in
theorem heights_walk (f : Nat → BitVec 8) (h0 other : Int) (m : List (BitVec 8)) (ao : Option Addr) (n cap : Nat) (w : World) (hl : Hid (m.length = n)) (hs : SlL w ao m) (hc : n ≤ cap) (hT : Tab w) :
    Calls Tryd.prog 6 #[.agg (rowB 8 f), .int .i64 h0, .int .i64 other, .slice ao n cap] w fun e w' => e = .returned (.bool true) ∧ Below w.heap.size w w' := by
  have hT0 := hT.1
  have HT := hide hT
  have HS := hide hs
  have hb0 : Below w.heap.size w (w.alloc (.cells (rowB 8 f) 22)) := (Below.refl _ _).alloc (Nat.le_refl _) _
  have HB0 := hide hb0
  have HR0 := hide (RowAt.new w 22 (rowB 8 f))
  have HTa := hide (hT.alloc (.cells (rowB 8 f) 22))
  clear hs hT hb0
  by_cases hbig : 300 < n
  · have q : decide ((300 : Int) < (n : Int)) = true := by simp; omega
    go_enter Tryd.func6, Tryd.ntmps6
    go_wp2_with ((go_at_call 9; refine (known_any _ (by exact HTa.out)).mono ?_; rintro e w1 ⟨rfl, hB1⟩; have HB1 := hide (HB0.out.trans (hB1.mono (by simp))); have HR1 := hide (HR0.out.below hB1 (by simp)); clear hB1))
    go_ret
    exact ⟨rfl, HB1.out⟩
  have q : decide ((300 : Int) < (n : Int)) = false := by simp; omega
  go_enter Tryd.func6, Tryd.ntmps6
  go_wp2_with ((go_at_call 9; refine (known_any _ (by exact HTa.out)).mono ?_; rintro e w1 ⟨rfl, hB1⟩; have HB1 := hide (HB0.out.trans (hB1.mono (by simp))); have HR1 := hide (HR0.out.below hB1 (by simp)); clear hB1))
  refine (place_any h0 4 _ (by omega) (by omega)).mono ?_
  rintro e w' ⟨H, hH, rfl, hw'⟩
  rw [hw']; clear hw' w'
  go_wp2_with ((refine wpList_load_rowAt rfl 22 (.tmp 4) rfl w.heap.size rfl 22 _ _ (by exact HR1.out) Tryd.underlying22 rfl (by rw [rowB_size]; exact info28) ?_))
  refine (new_any f H _ (by omega) (by exact HT.out.below HB1.out hT0)).mono ?_
  rintro e w2 ⟨t, rfl, hT2, _, hB2⟩
  have HT2 := hide hT2
  have HB2 := hide (below_call HB1.out hB2)
  clear hT2 hB2
  obtain ⟨R, HR⟩ : ∃ R, Hid (T.nd f H 0 = R) := ⟨_, hide rfl⟩
  obtain ⟨L, HL⟩ : ∃ L, Hid (T.sig f H 0 m = L) := ⟨_, hide rfl⟩
  obtain ⟨NS, ns1, ns2⟩ : ∃ NS : Nat, NS ≤ 516 + 8 * H ∧ 516 + 8 * H ≤ NS := ⟨516 + 8 * H, Nat.le_refl _, Nat.le_refl _⟩
  have HLs : Hid (L.length = 516 + 8 * H) := by show _ = _; rw [← HL.out, T.sig_len]
  have HLl : Hid (L.length = NS) := by show _ = _; rw [HLs.out]; omega
  have HV1 : Hid (T.ver (O.lst R) (H : Int) m L = true) := by show _ = _; rw [← HR.out, ← HL.out]; exact T.ver_sig f H 0 m (by omega) (Nat.pow_pos (by omega))
  have HV2 : Hid (¬ (other = (H : Int)) → T.ver (O.lst R) other m L = false) := fun hne => ver_len _ _ _ _ H HLs.out hne
  go_wp2_with fail
  refine (sign_ok f H t 0 m ao n cap _ (by omega) (by exact HT2.out) (Nat.pow_pos (by omega)) hl (by exact HS.out.below HB2.out (Nat.le_refl _)) hc (by omega) (by exact HT.out.below HB2.out hT0)).mono ?_
  rintro e w3 ⟨v3, rfl, hO3, hB3⟩
  rw [HL.out] at hO3
  obtain ⟨g, c, rfl, _, hgc, hS3⟩ := sig_form hO3 HLl.out (by omega)
  have HG3 := hide hS3
  have HT3 := hide (HT2.out.below hB3)
  have HB3 := hide (below_call HB2.out hB3)
  clear hO3 hB3 hS3
  go_wp2_with fail
  refine (root_any f H t _ (by omega) (by exact HT3.out)).mono ?_
  rintro e w4 ⟨rfl, hB4⟩
  rw [HR.out]
  have HG4 := hide (HG3.out.below hB4 (Nat.le_refl _))
  have HB4 := hide (below_call HB3.out hB4)
  clear hB4
  go_wp2_with (refine wpList_store_abs rfl 22 (.tmp 13) (.tmp 36) rfl w4.heap.size (rowB 8 R) rfl rfl 22 _ (RowAt.new w4 22 _) (by rw [rowB_size]; exact info28) (by rw [rowB_size]; rfl) (rowB_one _ _) w4.heap.size (Nat.le_refl _) ?_; intro w5 hRx hOx hzx hBx; have hbx : Below w4.heap.size w4 w5 := ((Below.refl _ _).alloc (Nat.le_refl _) _).trans hBx; have HRR5 := hide hRx; have HG5 := hide (HG4.out.below hbx (Nat.le_refl _)); have HB5 := hide (below_call HB4.out hbx); clear hOx hzx hBx hbx hRx)
  refine (verify_any (O.lst R) m L (H : Int) _ ao g 8 8 n cap NS c _ (O.lst_len _) HLl hl hgc (by exact HRR5.out.sl8) (by exact HS.out.below HB5.out (Nat.le_refl _)) (by exact HG5.out) hc (by omega) (by exact HT.out.below HB5.out hT0)).mono ?_
  rintro e w6 ⟨rfl, hB6⟩
  rw [HV1.out]
  have HG6 := hide (HG5.out.below hB6 (Nat.le_refl _))
  have HRR6 := hide (HRR5.out.below hB6 HRR5.out.lt)
  have HB6 := hide (below_call HB5.out hB6)
  clear hB6
  by_cases ho : other = (H : Int)
  · have q2 : (other == (H : Int)) = true := by simpa using ho
    clear ho
    go_wp2
    go_ret
    exact ⟨rfl, HB6.out⟩
  · have q2 : (other == (H : Int)) = false := by simpa using ho
    have HV3 := hide (HV2.out ho)
    clear ho
    go_wp2_with fail
    refine (verify_any (O.lst R) m L other _ ao g 8 8 n cap NS c _ (O.lst_len _) HLl hl hgc (by exact HRR6.out.sl8) (by exact HS.out.below HB6.out (Nat.le_refl _)) (by exact HG6.out) hc (by omega) (by exact HT.out.below HB6.out hT0)).mono ?_
    rintro e w7 ⟨rfl, hB7⟩
    rw [HV3.out]
    have HB7 := hide (below_call HB6.out hB7)
    clear hB7
    go_wp2
    go_ret
    exact ⟨rfl, HB7.out⟩
end Go.Proofs.YtpiehjfoojipiaaDoor
