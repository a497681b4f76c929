/- signetref7.Root, signetref7.Verify. -/
import Derived.Test.YtpiehjfoojipiaaDoorRnd
import Derived.Test.YtpiehjfoojipiaaDoorTcl
namespace Go.Proofs.YtpiehjfoojipiaaDoor
open Go.RowKit
set_option maxRecDepth 3000 in
set_option maxHeartbeats 1000000 in
theorem rroot_any (f : Nat → BitVec 8) (h : Nat) (w : World) (hh : h ≤ 10) :
    Calls Tryd.prog 13 #[.agg (rowB 8 f), .int .i64 (h : Int)] w fun e w' => e = .returned (.agg (rowB 8 (T.nd f h 0))) ∧ Below w.heap.size w w' := by
  have hI0 := PInv.first f w
  have hlt0 := hI0.lt
  obtain ⟨F, HF⟩ : ∃ F, Hid (T.nd f h 0 = F) := ⟨_, hide rfl⟩
  rw [HF.out]
  go_enter Tryd.func13, Tryd.ntmps13
  go_wp2_with (refine wpList_load_rowAt rfl 22 (.tmp 2) rfl w.heap.size rfl 22 _ _ (by exact hI0.seed) Tryd.underlying22 rfl (by rw [rowB_size]; exact info28) ?_)
  refine (nodes_any f h _ hh).mono ?_
  rintro e w1 ⟨u, xs, rfl, hO1, hX1, hB1⟩
  have hI1 := hI0.next (hB1.mono hlt0)
  obtain ⟨cr, hRr, hsr⟩ := hI1.res
  have HB := hide hI1.below
  obtain ⟨L, c, rfl⟩ := own_form hO1
  obtain ⟨v, hv⟩ : ∃ v, xs[h]? = some v := ⟨_, List.getElem?_eq_getElem (by rw [hX1.1]; omega)⟩
  have hcell := World.ownsRow.cells hO1 (g := L) rfl h v hv
  rw [Addr.add_mid, Nat.zero_add] at hcell
  obtain ⟨g, d, cur, rfl, h6, h7, h8⟩ := hX1.2 h v hv
  rw [levL_len, show 2 ^ (h - h) = 1 by simp] at h6 h8 hcell
  have hr := h8 0 (by omega)
  rw [levL_get f h 1 0 (by omega), HF.out] at hr
  have HR := hide hr
  obtain ⟨K, hK1, hK2, HK⟩ : ∃ K : Nat, K ≤ h + 1 ∧ h + 1 ≤ K ∧ Hid (h + 1 = K) := ⟨h + 1, Nat.le_refl _, Nat.le_refl _, hide rfl⟩
  rw [HK.out]
  have hsub : IntKind.i64.wrap ((K : Int) - 1) = (h : Int) := by rw [IntKind.wrap_i64]; omega
  have hidx : (h : Int) < (K : Int) := by omega
  clear hI0 hO1 hX1 hB1 hI1 hv h7 h8 hr
  go_wp2_with (first
    | (refine wpList_load_mid rfl 22 (.tmp 15) rfl g 0 rfl (bsL 8 F) _ (by exact HR.out) Tryd.underlying22 rfl (by rw [bsL_len]; exact info28) ?_)
    | (refine wpList_store_rowAt rfl 22 (.tmp 4) (.tmp 16) rfl (w.heap.size + 1) (rowB 8 F) rfl rfl 22 cr (by exact hRr) (by rw [rowB_size]; exact info28) (by rw [rowB_size]; exact hsr) (rowB_one _ _) ?_))
  exact bodyPost_ret (v := .agg (rowB 8 F)) (results_rowAt Tryd.results13 _ _ (w.heap.size + 1) 22 _ _ rfl (setRow_same hRr _) Tryd.underlying22 rfl (by rw [rowB_size]; exact info28)) rfl ⟨rfl, below_setRow HB.out (by omega) _⟩
set_option maxRecDepth 5000 in
theorem run_cmpl (F G : Nat → BitVec 8) (w : World) : (Op.equalIn 10000 22 (.agg #[.int .u8 (F 0).toNat, .int .u8 (F 1).toNat, .int .u8 (F 2).toNat, .int .u8 (F 3).toNat, .int .u8 (F 4).toNat, .int .u8 (F 5).toNat, .int .u8 (F 6).toNat, .int .u8 (F 7).toNat]) (.agg #[.int .u8 (G 0).toNat, .int .u8 (G 1).toNat, .int .u8 (G 2).toNat, .int .u8 (G 3).toNat, .int .u8 (G 4).toNat, .int .u8 (G 5).toNat, .int .u8 (G 6).toNat, .int .u8 (G 7).toNat])).run Tryd.prog w = .ok (decide (∀ j ∈ List.range 8, F j = G j)) w := by rw [lit8 F, lit8 G]; exact run_cmp8 F G w
set_option maxRecDepth 3000 in
set_option maxHeartbeats 1000000 in
theorem rverify_no (root m s : List (BitVec 8)) (h : Int) (ar am ag : Option Addr) (nr cr nm cm ns cs : Nat) (w : World) (hr : Hid (root.length = nr)) (hs : Hid (s.length = ns))
    (hno : ¬ (nr = 8 ∧ 0 ≤ h ∧ h ≤ 10 ∧ (ns : Int) = 516 + 8 * h)) :
    Calls Tryd.prog 18 #[.slice ar nr cr, .int .i64 h, .slice am nm cm, .slice ag ns cs] w fun e w' => e = .returned (.bool (T.ver root h m s)) ∧ w' = w := by
  have hv : T.ver root h m s = false := by
    unfold T.ver
    rw [decide_eq_false_iff_not]
    rintro ⟨h1, h2, h3, h4, _⟩
    rw [hr.out] at h1
    rw [hs.out] at h4
    exact hno ⟨h1, h2, h3, h4⟩
  rw [hv]
  by_cases h1 : nr = 8
  · have q1 : ((nr : Int) != 8) = false := by simp; omega
    by_cases h2 : 0 ≤ h
    · have q2 : decide (h < 0) = false := by simp; omega
      by_cases h3 : h ≤ 10
      · have q4 : decide (10 < h) = false := by simp; omega
        obtain ⟨H8, e8⟩ : ∃ H8 : Nat, 8 * h = (H8 : Int) := ⟨(8 * h).toNat, by omega⟩
        obtain ⟨SZ, eS⟩ : ∃ SZ : Nat, 516 + H8 = SZ := ⟨_, rfl⟩
        have hm1 : IntKind.i64.wrap (8 * h) = (H8 : Int) := by rw [IntKind.wrap_i64]; omega
        have hm2 : IntKind.i64.wrap (516 + (H8 : Int)) = (SZ : Int) := by rw [IntKind.wrap_i64]; omega
        have q3 : ((ns : Int) != (SZ : Int)) = true := by simp; omega
        clear e8 eS h1 hno h2 h3
        go_enter Tryd.func18, Tryd.ntmps18
        go_wp2
        go_ret
        exact ⟨rfl, rfl⟩
      · have q4 : decide (10 < h) = true := by simp; omega
        clear h1 hno h2 h3
        go_enter Tryd.func18, Tryd.ntmps18
        go_wp2
        go_ret
        exact ⟨rfl, rfl⟩
    · have q2 : decide (h < 0) = true := by simp; omega
      clear h1 hno h2
      go_enter Tryd.func18, Tryd.ntmps18
      go_wp2
      go_ret
      exact ⟨rfl, rfl⟩
  · have q1 : ((nr : Int) != 8) = true := by simp; omega
    clear h1 hno
    go_enter Tryd.func18, Tryd.ntmps18
    go_wp2
    go_ret
    exact ⟨rfl, rfl⟩
def byt (s : List (BitVec 8)) (o : Nat) (j : Nat) : BitVec 8 := s.getD (o + j) 0
set_option maxRecDepth 5000 in
theorem lst_byt (s : List (BitVec 8)) (o : Nat) (h : o + 8 ≤ s.length) : O.lst (byt s o) = (s.drop o).take 8 := by
  apply List.ext_getElem?
  intro i
  by_cases hi : i < 8
  · rw [List.getElem?_take, if_pos hi, List.getElem?_drop]
    simp [O.lst, byt, hi, show o + i < s.length by omega]
  · rw [List.getElem?_eq_none (by rw [O.lst_len]; omega), List.getElem?_eq_none (by rw [List.length_take]; omega)]
set_option maxRecDepth 5000 in
theorem range_byt {w : World} {g o : Nat} {s : List (BitVec 8)} (p : Nat) (h : SlL w (some ⟨g, o, none⟩) s) (hp : p + 8 ≤ s.length) : w.rangeAt g (o + p) (bsL 8 (byt s p)) := fun j v hv => by
  have hj : j < 8 := by have := (List.getElem?_eq_some_iff.1 hv).1; rwa [bsL_len] at this
  obtain ⟨b, o', e, _, hc⟩ := h (by omega)
  cases e
  rw [Nat.add_assoc, hc (p + j) (by omega), ← hv]
  simp [bsL, fb, hj, byt]
set_option maxRecDepth 5000 in
theorem lst_root (Y : Nat → BitVec 8) (root : List (BitVec 8)) (h : root.length = 8) : decide (∀ j ∈ List.range 8, Y j = byt root 0 j) = decide (O.lst Y = root) := by
  apply decide_eq_decide.2
  have hr : O.lst (byt root 0) = root := by rw [lst_byt root 0 (by omega), List.drop_zero, List.take_of_length_le (by omega)]
  constructor
  · intro hj
    rw [← hr]
    unfold O.lst
    exact List.map_congr_left hj
  · intro e j hj
    have hj8 : j < 8 := by simpa using hj
    have h1 : (O.lst Y)[j]? = (O.lst (byt root 0))[j]? := by rw [e, hr]
    simpa [O.lst, hj8] using h1
set_option maxRecDepth 5000 in
theorem shr_bit (P i : Nat) (hP : P < 4294967296) : bits .and .u32 ((P : Int) / 2 ^ i) 1 = ((P / 2 ^ i % 2 : Nat) : Int) := by
  have h1 : ((P : Int) / 2 ^ i) = ((P / 2 ^ i : Nat) : Int) := by rw [Int.natCast_ediv, Int.natCast_pow]; rfl
  have h2 : P / 2 ^ i ≤ P := Nat.div_le_self _ _
  rw [h1, and_one _ (by omega)]
end Go.Proofs.YtpiehjfoojipiaaDoor
