/- The law TreeRoots. -/
import Derived.Test.YtpiehjfoojipiaaDoorKno
namespace Go.Proofs.YtpiehjfoojipiaaDoor
open Go.RowKit
structure QT (f : Nat → BitVec 8) (t H : Nat) (w wr : World) : Prop where
  q : QInv f w wr
  tree : TreeAt wr t f H
set_option maxRecDepth 5000 in
theorem QT.drew {f : Nat → BitVec 8} {t H : Nat} {w wr : World} (h : QT f t H w wr) : QT f t H w wr.drew := ⟨h.q.drew, h.tree.drew⟩
set_option maxRecDepth 5000 in
theorem QT.called {f : Nat → BitVec 8} {t H : Nat} {w wr w' : World} (h : QT f t H w wr) (hb : Below wr.heap.size wr w') : QT f t H w w' := ⟨h.q.called hb, h.tree.below hb⟩
set_option maxRecDepth 5000 in
theorem QT.loads {f : Nat → BitVec 8} {t H : Nat} {w w' : World} (h : QT f t H w w') : QT f t H w w' ∧ w'.cell? ⟨w.heap.size, 0, none⟩ = some (.int .u8 (f 0).toNat) ∧ w'.cell? ⟨w.heap.size, 1, none⟩ = some (.int .u8 (f 1).toNat) ∧ w'.cell? ⟨w.heap.size, 2, none⟩ = some (.int .u8 (f 2).toNat) ∧ w'.cell? ⟨w.heap.size, 3, none⟩ = some (.int .u8 (f 3).toNat) ∧ w'.cell? ⟨w.heap.size, 4, none⟩ = some (.int .u8 (f 4).toNat) ∧ w'.cell? ⟨w.heap.size, 5, none⟩ = some (.int .u8 (f 5).toNat) ∧ w'.cell? ⟨w.heap.size, 6, none⟩ = some (.int .u8 (f 6).toNat) ∧ w'.cell? ⟨w.heap.size, 7, none⟩ = some (.int .u8 (f 7).toNat) := ⟨h, h.q.loads.2⟩
set_option maxRecDepth 5000 in
theorem rroot_lit (f : Nat → BitVec 8) (h : Nat) (w : World) (hh : h ≤ 10) :
    Calls Tryd.prog 13 #[.agg #[.int .u8 (f 0).toNat, .int .u8 (f 1).toNat, .int .u8 (f 2).toNat, .int .u8 (f 3).toNat, .int .u8 (f 4).toNat, .int .u8 (f 5).toNat, .int .u8 (f 6).toNat, .int .u8 (f 7).toNat], .int .i64 (h : Int)] w fun e w' => e = .returned (.agg (rowB 8 (T.nd f h 0))) ∧ Below w.heap.size w w' := by
  rw [lit8]; exact rroot_any f h w hh
set_option maxRecDepth 3000 in
set_option maxHeartbeats 1000000 in
theorem roots_walk (f : Nat → BitVec 8) (h0 : Int) (raw : Bool) (w : World) (hT : Tab w) :
    Calls Tryd.prog 3 #[.agg (rowB 8 f), .int .i64 h0, .bool raw] w fun e w' => e = .returned (.bool true) ∧ Below w.heap.size w w' := by
  have hT0 := hT.1
  have HT := hide hT
  have hb0 : Below w.heap.size w (w.alloc (.cells (rowB 8 f) 22)) := (Below.refl _ _).alloc (Nat.le_refl _) _
  have HB0 := hide hb0
  have HR0 := hide (RowAt.new w 22 (rowB 8 f))
  have HTa := hide (hT.alloc (.cells (rowB 8 f) 22))
  clear hT hb0
  cases raw with
  | false =>
    go_enter Tryd.func3, Tryd.ntmps3
    go_wp2_with ((go_at_call 9; refine (known_any _ (by exact HTa.out)).mono ?_; rintro e w1 ⟨rfl, hB1⟩; have HB1 := hide (HB0.out.trans (hB1.mono (by simp))); have HR1 := hide (HR0.out.below hB1 (by simp)); clear hB1))
    refine (place_any h0 5 _ (by omega) (by omega)).mono ?_
    rintro e w' ⟨H, hH, rfl, hw'⟩
    rw [hw']; clear hw' w'
    have g5 : decide ((5 : Int) < (H : Int)) = false := by simp; omega
    go_wp2_with ((refine wpList_load_rowAt rfl 22 (.tmp 3) rfl w.heap.size rfl 22 _ _ (by exact HR1.out) Tryd.underlying22 rfl (by rw [rowB_size]; exact info28) ?_))
    refine (new_any f H _ (by omega) (by exact HT.out.below HB1.out hT0)).mono ?_
    rintro e w2 ⟨t, rfl, hT2, _, hB2⟩
    have HB2 := hide (below_call HB1.out hB2)
    have HK2 : Hid (QT f t H w w2) := ⟨⟨HB2.out, HR1.out.below hB2 HR1.out.lt⟩, hT2⟩
    clear hT2 hB2
    obtain ⟨R, HR⟩ : ∃ R, Hid (T.nd f H 0 = R) := ⟨_, hide rfl⟩
    obtain ⟨N, HN⟩ : ∃ N, Hid (2 ^ H = N) := ⟨_, hide rfl⟩
    have hpw := pow_le10 H (by omega)
    rw [HN.out] at hpw
    have hm32 : min H 32 = H := by omega
    have hw0 : IntKind.u32.wrap ((2 : Int) ^ H) = (N : Int) := by
      have : ((2 : Int) ^ H) = ((2 ^ H : Nat) : Int) := by simp
      rw [this, HN.out, IntKind.wrap_u32]
      omega
    have HLV : Hid (∀ W, TreeAt W t f H → Calls Tryd.prog 14 #[.pointer (some ⟨t, 0, none⟩)] W fun e w' => e = .returned (.int .u32 (N : Int)) ∧ w' = W) := fun W h => by
      have := leaves_any f H t W (by omega) h
      rwa [HN.out] at this
    have heq := run_eqB_same Tryd.underlying22 R
    have g0 : decide ((H : Int) < 0) = false := by simp
    have g1 : decide ((10 : Int) < (H : Int)) = false := by simp; omega
    go_wp2_with fail
    go_region_held3 (fun w' => QT f t H w w' ∧ w'.cell? ⟨w.heap.size, 0, none⟩ = some (.int .u8 (f 0).toNat) ∧ w'.cell? ⟨w.heap.size, 1, none⟩ = some (.int .u8 (f 1).toNat) ∧ w'.cell? ⟨w.heap.size, 2, none⟩ = some (.int .u8 (f 2).toNat) ∧ w'.cell? ⟨w.heap.size, 3, none⟩ = some (.int .u8 (f 3).toNat) ∧ w'.cell? ⟨w.heap.size, 4, none⟩ = some (.int .u8 (f 4).toNat) ∧ w'.cell? ⟨w.heap.size, 5, none⟩ = some (.int .u8 (f 5).toNat) ∧ w'.cell? ⟨w.heap.size, 6, none⟩ = some (.int .u8 (f 6).toNat) ∧ w'.cell? ⟨w.heap.size, 7, none⟩ = some (.int .u8 (f 7).toNat))
      (first | exact HK2.out.loads | exact HK2.out.drew.loads | exact HK3.out.loads | exact HK4.out.loads | fail)
      (first
        | ((go_at_call 12; refine (root_any f H t _ (by omega) (by exact HK2.out.drew.tree)).mono ?_; rintro e w3 ⟨rfl, hB3⟩; rw [HR.out]; have HK3 := hide (HK2.out.drew.called hB3); clear hB3))
        | ((go_at_call 13; refine (rroot_lit f H _ (by omega)).mono ?_; rintro e w4 ⟨rfl, hB4⟩; rw [HR.out]; have HK4 := hide (HK3.out.called hB4); clear hB4))
        | ((go_at_call 14; refine (HLV.out _ (by exact HK4.out.tree)).mono ?_; rintro e w' ⟨rfl, hw'⟩; rw [hw']; clear hw' w')))
    all_goals go_wp2
    all_goals go_ret
    all_goals exact ⟨rfl, HK4.out.q.below⟩
  | true =>
    by_cases hb : h0 < 0 ∨ 10 < h0
    · have HC := hide (fun (W : World) => new_bad f h0 W (by omega))
      rcases hb with hb | hb
      · have q1 : decide ((5 : Int) < h0) = false := by simp; omega
        have q2 : decide (h0 < 0) = true := by simpa using hb
        go_enter Tryd.func3, Tryd.ntmps3
        go_wp2_with (first | (go_at_call 9; refine (known_any _ (by exact HTa.out)).mono ?_; rintro e w1 ⟨rfl, hB1⟩; have HB1 := hide (HB0.out.trans (hB1.mono (by simp))); have HR1 := hide (HR0.out.below hB1 (by simp)); clear hB1) | (refine wpList_load_rowAt rfl 22 (.tmp 3) rfl w.heap.size rfl 22 _ _ (by exact HR1.out) Tryd.underlying22 rfl (by rw [rowB_size]; exact info28) ?_) | (go_at_call 11; refine (HC.out _).mono ?_; rintro e w2 ⟨rfl, hB2⟩; have HB2 := hide (below_call HB1.out hB2); clear hB2))
        go_ret
        exact ⟨rfl, HB2.out⟩
      · have q1 : decide ((5 : Int) < h0) = true := by simp; omega
        have q2 : decide (h0 < 0) = false := by simp; omega
        have q3 : decide (h0 ≤ 10) = false := by simp; omega
        have q4 : decide ((10 : Int) < h0) = true := by simpa using hb
        go_enter Tryd.func3, Tryd.ntmps3
        go_wp2_with (first | (go_at_call 9; refine (known_any _ (by exact HTa.out)).mono ?_; rintro e w1 ⟨rfl, hB1⟩; have HB1 := hide (HB0.out.trans (hB1.mono (by simp))); have HR1 := hide (HR0.out.below hB1 (by simp)); clear hB1) | (refine wpList_load_rowAt rfl 22 (.tmp 3) rfl w.heap.size rfl 22 _ _ (by exact HR1.out) Tryd.underlying22 rfl (by rw [rowB_size]; exact info28) ?_) | (go_at_call 11; refine (HC.out _).mono ?_; rintro e w2 ⟨rfl, hB2⟩; have HB2 := hide (below_call HB1.out hB2); clear hB2))
        go_ret
        exact ⟨rfl, HB2.out⟩
    · by_cases h5 : 5 < h0
      · have q1 : decide ((5 : Int) < h0) = true := by simpa using h5
        have q3 : decide (h0 ≤ 10) = true := by simp; omega
        go_enter Tryd.func3, Tryd.ntmps3
        go_wp2_with ((go_at_call 9; refine (known_any _ (by exact HTa.out)).mono ?_; rintro e w1 ⟨rfl, hB1⟩; have HB1 := hide (HB0.out.trans (hB1.mono (by simp))); have HR1 := hide (HR0.out.below hB1 (by simp)); clear hB1))
        go_ret
        exact ⟨rfl, HB1.out⟩
      · obtain ⟨H, rfl⟩ : ∃ H : Nat, h0 = (H : Int) := ⟨h0.toNat, by omega⟩
        have hH : H ≤ 5 := by omega
        have g5 : decide ((5 : Int) < (H : Int)) = false := by simp; omega
        clear hb h5
        go_enter Tryd.func3, Tryd.ntmps3
        go_wp2_with (first | (go_at_call 9; refine (known_any _ (by exact HTa.out)).mono ?_; rintro e w1 ⟨rfl, hB1⟩; have HB1 := hide (HB0.out.trans (hB1.mono (by simp))); have HR1 := hide (HR0.out.below hB1 (by simp)); clear hB1) | (refine wpList_load_rowAt rfl 22 (.tmp 3) rfl w.heap.size rfl 22 _ _ (by exact HR1.out) Tryd.underlying22 rfl (by rw [rowB_size]; exact info28) ?_))
        refine (new_any f H _ (by omega) (by exact HT.out.below HB1.out hT0)).mono ?_
        rintro e w2 ⟨t, rfl, hT2, _, hB2⟩
        have HB2 := hide (below_call HB1.out hB2)
        have HK2 : Hid (QT f t H w w2) := ⟨⟨HB2.out, HR1.out.below hB2 HR1.out.lt⟩, hT2⟩
        clear hT2 hB2
        obtain ⟨R, HR⟩ : ∃ R, Hid (T.nd f H 0 = R) := ⟨_, hide rfl⟩
        obtain ⟨N, HN⟩ : ∃ N, Hid (2 ^ H = N) := ⟨_, hide rfl⟩
        have hpw := pow_le10 H (by omega)
        rw [HN.out] at hpw
        have hm32 : min H 32 = H := by omega
        have hw0 : IntKind.u32.wrap ((2 : Int) ^ H) = (N : Int) := by
          have : ((2 : Int) ^ H) = ((2 ^ H : Nat) : Int) := by simp
          rw [this, HN.out, IntKind.wrap_u32]
          omega
        have HLV : Hid (∀ W, TreeAt W t f H → Calls Tryd.prog 14 #[.pointer (some ⟨t, 0, none⟩)] W fun e w' => e = .returned (.int .u32 (N : Int)) ∧ w' = W) := fun W h => by
          have := leaves_any f H t W (by omega) h
          rwa [HN.out] at this
        have heq := run_eqB_same Tryd.underlying22 R
        have g0 : decide ((H : Int) < 0) = false := by simp
        have g1 : decide ((10 : Int) < (H : Int)) = false := by simp; omega
        go_wp2_with fail
        go_region_held3 (fun w' => QT f t H w w' ∧ w'.cell? ⟨w.heap.size, 0, none⟩ = some (.int .u8 (f 0).toNat) ∧ w'.cell? ⟨w.heap.size, 1, none⟩ = some (.int .u8 (f 1).toNat) ∧ w'.cell? ⟨w.heap.size, 2, none⟩ = some (.int .u8 (f 2).toNat) ∧ w'.cell? ⟨w.heap.size, 3, none⟩ = some (.int .u8 (f 3).toNat) ∧ w'.cell? ⟨w.heap.size, 4, none⟩ = some (.int .u8 (f 4).toNat) ∧ w'.cell? ⟨w.heap.size, 5, none⟩ = some (.int .u8 (f 5).toNat) ∧ w'.cell? ⟨w.heap.size, 6, none⟩ = some (.int .u8 (f 6).toNat) ∧ w'.cell? ⟨w.heap.size, 7, none⟩ = some (.int .u8 (f 7).toNat))
          (first | exact HK2.out.loads | exact HK2.out.drew.loads | exact HK3.out.loads | exact HK4.out.loads | fail)
          (first
            | ((go_at_call 12; refine (root_any f H t _ (by omega) (by exact HK2.out.drew.tree)).mono ?_; rintro e w3 ⟨rfl, hB3⟩; rw [HR.out]; have HK3 := hide (HK2.out.drew.called hB3); clear hB3))
            | ((go_at_call 13; refine (rroot_lit f H _ (by omega)).mono ?_; rintro e w4 ⟨rfl, hB4⟩; rw [HR.out]; have HK4 := hide (HK3.out.called hB4); clear hB4))
            | ((go_at_call 14; refine (HLV.out _ (by exact HK4.out.tree)).mono ?_; rintro e w' ⟨rfl, hw'⟩; rw [hw']; clear hw' w')))
        all_goals go_wp2
        all_goals go_ret
        all_goals exact ⟨rfl, HK4.out.q.below⟩
end Go.Proofs.YtpiehjfoojipiaaDoor
