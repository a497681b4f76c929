/- (*name.reading).takeDigit: one of the three digits that say a byte. -/
import Derived.Test.YtecikfdnnjinpabDoorTake
namespace Go.Proofs.YtecikfdnnjinpabDoor
open Go.RowKit
theorem takeDigit_no (B T : Nat) (r : Nat) (w : World) (hr : r ≤ 2147483647) (hd : Hid (N.dig r = false)) :
    Calls Tryd.prog 37 #[.pointer (some ⟨T, 0, none⟩), .int .i32 (r : Int)] w fun e w' => e = fell ∧ Below B w w' ∧ Keeps w w' := by
  have hnot : ∀ (x : Bool) (w : World), (Op.unary .not (.bool x)).run Tryd.prog w = .ok (.bool (!x)) w := fun _ _ => rfl
  go_enter Tryd.func37, Tryd.ntmps37
  go_wp2_with (go_at_call 36; refine (isDigit_any r _ hr).mono ?_; rw [hd.out]; rintro e w1 ⟨rfl, rfl⟩)
  go_wp2
  exact ⟨rfl, rfl, Below.refl _ _, Keeps.refl _⟩
set_option maxRecDepth 3000 in
theorem takeDigit_more (B T : Nat) (st : N.St) (r : Nat) (w : World) (hr : 48 ≤ r) (hr2 : r ≤ 57) (hR : Rd B T st w) (hd : st.d ≤ 1) (hnum : st.num ≤ 99) :
    Calls Tryd.prog 37 #[.pointer (some ⟨T, 0, none⟩), .int .i32 (r : Int)] w fun e w' => e = .returned (.tuple #[]) ∧ Rd B T ⟨st.n, st.l, st.esc, st.d + 1, st.num * 10 + (r - 48)⟩ w' ∧ Below B w w' ∧ Keeps w w' := by
  obtain ⟨an, cn, al, cl, hT, hOS, hOB, hBT, hnil, hcl⟩ := hR
  obtain ⟨n, l, esc, d, num⟩ := st
  simp only at hT hOS hOB hnil hcl hd hnum ⊢
  obtain ⟨x, hx⟩ : ∃ x, r - 48 = x := ⟨_, rfl⟩
  rw [hx]
  have hxi : (r : Int) - 48 = (x : Int) := by omega
  have hxb : x ≤ 9 := by omega
  have hdg : Hid (N.dig r = true) := decide_eq_true (by omega)
  have c3 : w.cell? ⟨T, 3, none⟩ = some (.int .i64 (d : Int)) := by rw [hT.cell 3]; rfl
  have c4 : w.cell? ⟨T, 4, none⟩ = some (.int .i64 (num : Int)) := by rw [hT.cell 4]; rfl
  have f3 := hT.frozen 3
  have f4 := hT.frozen 4
  have HT := hide hT
  have HOS := hide hOS
  have HOB := hide hOB
  clear hT hOS hOB hx
  go_enter Tryd.func37, Tryd.ntmps37
  go_wp2_with (go_at_call 36; refine (isDigit_any r _ (by omega)).mono ?_; rw [hdg.out]; rintro e w1 ⟨rfl, rfl⟩)
  first | go_end0 | refine bodyPost_ret (results_none rfl _ _ _) rfl ?_
  refine ⟨rfl, ?_, ((Below.refl B _).setCell hBT _).setCell hBT _, (Keeps.set HT.out _ _).trans (Keeps.set (HT.out.set 4 _) _ _)⟩
  exact Rd.of n.length l.length rfl rfl ((HT.out.set 4 _).set 3 _) (by first | rfl | simp) (own_set (own_set HOS.out HT.out (by decide) _ _) (HT.out.set 4 _) (by decide) _ _) (own_set (own_set HOB.out HT.out (by decide) _ _) (HT.out.set 4 _) (by decide) _ _) hBT hnil hcl
set_option maxRecDepth 3000 in
theorem takeDigit_great (B T : Nat) (st : N.St) (r : Nat) (w : World) (hr : 48 ≤ r) (hr2 : r ≤ 57) (hR : Rd B T st w) (hd : st.d = 2) (hnum : st.num ≤ 99) (hg : 255 < st.num * 10 + (r - 48)) :
    Calls Tryd.prog 37 #[.pointer (some ⟨T, 0, none⟩), .int .i32 (r : Int)] w fun e w' => e = fell ∧ Below B w w' ∧ Keeps w w' := by
  obtain ⟨an, cn, al, cl, hT, hOS, hOB, hBT, hnil, hcl⟩ := hR
  obtain ⟨n, l, esc, d, num⟩ := st
  simp only at hT hOS hOB hnil hcl hd hnum hg
  subst hd
  obtain ⟨x, hx⟩ : ∃ x, r - 48 = x := ⟨_, rfl⟩
  rw [hx] at hg
  have hxi : (r : Int) - 48 = (x : Int) := by omega
  have hxb : x ≤ 9 := by omega
  have hdg : Hid (N.dig r = true) := decide_eq_true (by omega)
  have c3 : w.cell? ⟨T, 3, none⟩ = some (.int .i64 2) := by rw [hT.cell 3]; rfl
  have c4 : w.cell? ⟨T, 4, none⟩ = some (.int .i64 (num : Int)) := by rw [hT.cell 4]; rfl
  have f3 := hT.frozen 3
  have f4 := hT.frozen 4
  have HT := hide hT
  clear hT hOS hOB hx
  go_enter Tryd.func37, Tryd.ntmps37
  go_wp2_with (go_at_call 36; refine (isDigit_any r _ (by omega)).mono ?_; rw [hdg.out]; rintro e w1 ⟨rfl, rfl⟩)
  exact ⟨rfl, rfl, ((Below.refl B _).setCell hBT _).setCell hBT _, (Keeps.set HT.out _ _).trans (Keeps.set (HT.out.set 4 _) _ _)⟩
set_option maxRecDepth 3000 in
set_option maxHeartbeats 800000 in
theorem takeDigit_last (B T : Nat) (st : N.St) (r : Nat) (w : World) (hr : 48 ≤ r) (hr2 : r ≤ 57) (hR : Rd B T st w) (hd : st.d = 2) (hnum : st.num ≤ 99) (hg : st.num * 10 + (r - 48) ≤ 255) (hB : B ≤ w.heap.size) (hll : st.l.length ≤ 1000000000) :
    Calls Tryd.prog 37 #[.pointer (some ⟨T, 0, none⟩), .int .i32 (r : Int)] w fun e w' => e = .returned (.tuple #[]) ∧ Rd B T ⟨st.n, st.l ++ [UInt8.ofNat (st.num * 10 + (r - 48))], false, 0, 0⟩ w' ∧ Below B w w' ∧ Keeps w w' := by
  obtain ⟨an, cn, al, cl, hT, hOS, hOB, hBT, hnil, hcl⟩ := hR
  obtain ⟨n, l, esc, d, num⟩ := st
  simp only at hT hOS hOB hnil hcl hd hnum hg hll ⊢
  subst hd
  obtain ⟨x, hx⟩ : ∃ x, r - 48 = x := ⟨_, rfl⟩
  rw [hx] at hg ⊢
  have hxi : (r : Int) - 48 = (x : Int) := by omega
  have hxb : x ≤ 9 := by omega
  have hdg : Hid (N.dig r = true) := decide_eq_true (by omega)
  have hwr : IntKind.u8.wrap ((num : Int) * 10 + (x : Int)) = (num : Int) * 10 + (x : Int) := by rw [IntKind.wrap_u8]; omega
  have hlt := hT.lt
  have c1 : w.cell? ⟨T, 1, none⟩ = some (.slice al l.length cl) := by rw [hT.cell 1]; rfl
  have c3 : w.cell? ⟨T, 3, none⟩ = some (.int .i64 2) := by rw [hT.cell 3]; rfl
  have c4 : w.cell? ⟨T, 4, none⟩ = some (.int .i64 (num : Int)) := by rw [hT.cell 4]; rfl
  have f3 := hT.frozen 3
  have f4 := hT.frozen 4
  have HT := hide hT
  have HOS := hide hOS
  have HOB := hide hOB
  clear hT hOS hOB hx
  go_enter Tryd.func37, Tryd.ntmps37
  go_wp2_with (go_at_call 36; refine (isDigit_any r _ (by omega)).mono ?_; rw [hdg.out]; rintro e w1 ⟨rfl, rfl⟩)
  go_region_law (refine step_append_B rfl (.tmp 42) (.tmp 48) rfl B (.slice al l.length cl) l (by simp [Act.eval]) (by exact OwnB.alloc (own_set (own_set HOB.out HT.out (by decide) _ _) (HT.out.set 4 _) (by decide) _ _) _) ⟨w1.heap.size, 0, none⟩ 1 1 [UInt8.ofNat (num * 10 + x)] (by simp [Act.eval]) rfl (by have h := SlL.oneI ((w1.setCell ⟨T, 4, none⟩ (.int .i64 ((num : Int) * 10 + (x : Int)))).setCell ⟨T, 3, none⟩ (.int .i64 3)) ((num : Int) * 10 + (x : Int)) (UInt8.ofNat (num * 10 + x)) 5 (by rw [UInt8.toNat_ofNat']; omega); simp only [World.size_setCell] at h; exact h) (by simp; omega) (by simp; omega) ?_; intro v4 w4 hO4 hG4; obtain ⟨a4, c4, rfl, _, hn4, hl4, _⟩ := hO4.open; obtain ⟨hT4, hOS4, hB4, hK4⟩ := grewB (own_set (own_set HOB.out HT.out (by decide) _ _) (HT.out.set 4 _) (by decide) _ _) ((HT.out.set 4 _).set 3 _) (own_set (own_set HOS.out HT.out (by decide) _ _) (HT.out.set 4 _) (by decide) _ _) (by simpa using hB) hG4; have k1 : w4.cell? ⟨T, 1, none⟩ = some (.slice al l.length cl) := hT4.cell 1; have k2 : w4.cell? ⟨T, 2, none⟩ = some (.bool esc) := hT4.cell 2; have k3 : w4.cell? ⟨T, 3, none⟩ = some (.int .i64 3) := hT4.cell 3; have k4 : w4.cell? ⟨T, 4, none⟩ = some (.int .i64 ((num : Int) * 10 + (x : Int))) := hT4.cell 4; have g1 := hT4.frozen 1; have g2 := hT4.frozen 2; have g3 := hT4.frozen 3; have g4 := hT4.frozen 4; have HT4 := hide hT4; have HOS4 := hide hOS4; have HB4 := hide hB4; have HK4 := hide hK4; have HO4 := hide hO4; clear hG4 hO4 hT4 hOS4 hB4 hK4)
  all_goals
    go_wp2
    go_end0
    refine ⟨rfl, ?_, (((((((Below.refl B w1).setCell hBT _).setCell hBT _).trans HB4.out).setCell hBT _).setCell hBT _).setCell hBT _).setCell hBT _, ?_⟩
    · exact Rd.of n.length (l.length + 1) rfl (by simp) ((((HT4.out.set 1 _).set 2 _).set 3 _).set 4 _) rfl
        (own_set (own_set (own_set (own_set HOS4.out HT4.out (by decide) _ _) (HT4.out.set 1 _) (by decide) _ _) ((HT4.out.set 1 _).set 2 _) (by decide) _ _) (((HT4.out.set 1 _).set 2 _).set 3 _) (by decide) _ _)
        (own_set (own_set (own_set (own_set HO4.out HT4.out (by decide) _ _) (HT4.out.set 1 _) (by decide) _ _) ((HT4.out.set 1 _).set 2 _) (by decide) _ _) (((HT4.out.set 1 _).set 2 _).set 3 _) (by decide) _ _) hBT hn4 hl4
    · exact (((((Keeps.set HT.out _ _).trans (Keeps.set (HT.out.set 4 _) _ _)).trans HK4.out).trans (Keeps.set HT4.out _ _)).trans (Keeps.set (HT4.out.set 1 _) _ _)).trans ((Keeps.set ((HT4.out.set 1 _).set 2 _) _ _).trans (Keeps.set (((HT4.out.set 1 _).set 2 _).set 3 _) _ _))
end Go.Proofs.YtecikfdnnjinpabDoor
