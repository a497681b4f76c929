/- The seat's data: signetseat.Data. Made by gzx.py. -/
import Derived.Test.YtdldaphkiphpnaaGreatZsw
import Derived.Laws.MakeOwn
import Derived.Test.YtdldaphkiphpnaaGreatAsG
import Derived.Test.YtdldaphkiphpnaaGreatRefQ
namespace Go.Proofs.YtdldaphkiphpnaaGreat
open Go.RowKit
set_option maxRecDepth 5000 in
theorem u8mod (k m : Nat) (hm : 0 < m) (hm2 : m ≤ 256) : ((UInt8.ofNat (k % m)).toNat : Int) = (k : Int) % (m : Int) := by
  have h : k % m < m := Nat.mod_lt _ hm
  have : (UInt8.ofNat (k % m)).toNat = k % m := UInt8.toNat_ofNat_of_lt' (by show _ < 256; omega)
  rw [this]; omega
set_option maxRecDepth 5000 in
theorem u8add (k : Nat) : ((UInt8.ofNat (97 + k % 4)).toNat : Int) = 97 + (k : Int) % 4 := by
  have : (UInt8.ofNat (97 + k % 4)).toNat = 97 + k % 4 := UInt8.toNat_ofNat_of_lt' (by show _ < 256; omega)
  rw [this]; omega
set_option maxRecDepth 5000 in
theorem u8id (k : Nat) (hk : k < 256) : ((UInt8.ofNat k).toNat : Int) = (k : Int) := by
  have : (UInt8.ofNat k).toNat = k := UInt8.toNat_ofNat_of_lt' (by show _ < 256; omega)
  rw [this]
set_option maxRecDepth 5000 in
theorem pick3 (w2 W : World) {a1 a2 : Option Addr} {n1 n2 : List (List UInt8)} {c1 c2 : Nat} (hW : W = (w2.alloc (.cells #[.string ⟨#[102, 97, 114]⟩, .string ⟨#[110, 101, 116]⟩] 9)).alloc (.cells #[.slice a1 n1.length c1, .slice a2 n2.length c2, .slice (some ⟨w2.heap.size, 0, none⟩) 2 2] 28)) (j : Nat) (hj : j < 3) (h1 : SlS w2 a1 n1) (h2 : SlS w2 a2 n2) (h3 : SlS (w2.alloc (.cells #[.string ⟨#[102, 97, 114]⟩, .string ⟨#[110, 101, 116]⟩] 9)) (some ⟨w2.heap.size, 0, none⟩) Z.farN) {nm : List (List UInt8)} (hnm : nm = [n1, n2, Z.farN].getD j []) :
    ∃ av nv cv, W.cell? ⟨w2.heap.size + 1, j, none⟩ = some (.slice av nv cv) ∧ SlS W av nm ∧ nm.length = nv ∧ ∀ h, (#[.slice a1 n1.length c1, .slice a2 n2.length c2, .slice (some ⟨w2.heap.size, 0, none⟩) 2 2] : Array Value)[j]'h = .slice av nv cv := by
  have hr : RowAt W (w2.heap.size + 1) 28 #[.slice a1 n1.length c1, .slice a2 n2.length c2, .slice (some ⟨w2.heap.size, 0, none⟩) 2 2] := by
    rw [hW]
    have := RowAt.new (w2.alloc (.cells #[.string ⟨#[102, 97, 114]⟩, .string ⟨#[110, 101, 116]⟩] 9)) 28 #[.slice a1 n1.length c1, .slice a2 n2.length c2, .slice (some ⟨w2.heap.size, 0, none⟩) 2 2]
    rw [World.size_alloc] at this
    exact this
  rcases (by omega : j = 0 ∨ j = 1 ∨ j = 2) with h | h | h <;> subst h
  · exact ⟨a1, n1.length, c1, hr.cell 0, by rw [hnm, hW]; exact (h1.alloc _).alloc _, by rw [hnm]; rfl, fun _ => rfl⟩
  · exact ⟨a2, n2.length, c2, hr.cell 1, by rw [hnm, hW]; exact (h2.alloc _).alloc _, by rw [hnm]; rfl, fun _ => rfl⟩
  · exact ⟨_, 2, 2, hr.cell 2, by rw [hnm, hW]; exact h3.alloc _, by rw [hnm]; rfl, fun _ => rfl⟩
set_option maxRecDepth 5000 in
theorem make15 (W : World) : (Instr.makeSlice 37 (.int .i64 15) (.int .i64 15)).run Tryz.prog W = .ok (.slice (some ⟨W.heap.size, 0, none⟩) 15 15) (W.alloc (.cells #[.int .u8 0, .int .u8 0, .int .u8 0, .int .u8 0, .int .u8 0, .int .u8 0, .int .u8 0, .int .u8 0, .int .u8 0, .int .u8 0, .int .u8 0, .int .u8 0, .int .u8 0, .int .u8 0, .int .u8 0] 5)) := by
  obtain ⟨i0, hi, hz0, hz1, hz2⟩ := info_parts infoB
  rw [run_make (P := Tryz.prog) W 37 5 i0 (.int .u8 0) Tryz.underlying37 hi hz0 .i64 .i64 15 15 (by omega) (Int.le_refl _) (by rw [hz2]; omega) (by omega)]
  rw [hz1, Nat.mul_one]
  have e : (Value.int .u8 0).cells = #[.int .u8 0] := rfl
  have e2 : madeCells #[.int .u8 0] 15 = #[.int .u8 0, .int .u8 0, .int .u8 0, .int .u8 0, .int .u8 0, .int .u8 0, .int .u8 0, .int .u8 0, .int .u8 0, .int .u8 0, .int .u8 0, .int .u8 0, .int .u8 0, .int .u8 0, .int .u8 0] := by
    apply Array.toList_inj.1
    rw [toList_madeCells_one]
    rfl
  have e3 : Int.toNat 15 = 15 := rfl
  rw [e, e3, e2]
set_option maxHeartbeats 1000000 in
set_option maxRecDepth 5000 in
theorem seatData_1 (k : Nat) (hk : k < 256) (w : World) : Calls Tryz.prog 67 #[.int .u16 1, .int .u8 (k : Int)] w fun e w' => ∃ v, e = .returned v ∧ OwnB w' w.heap.size v (Z.dataK 1 k) ∧ Below w.heap.size w w' := by
  have e : Z.dataK 1 k = [10, 0, 0, UInt8.ofNat (k % 4)] := by unfold Z.dataK; rw [if_pos rfl]
  rw [e]
  go_enter Tryz.func67, Tryz.ntmps67
  go_wp2
  go_ret
  exact ⟨_, rfl, OwnB.lit w _ _ _ (Nat.le_refl _) (by simp only [vb, List.map_cons, List.map_nil]; rw [u8mod k 4 (by decide) (by decide)]; rfl) (by simp) 4 rfl, (Below.refl _ w).alloc (Nat.le_refl _) _⟩
set_option maxHeartbeats 1000000 in
set_option maxRecDepth 5000 in
theorem seatData_28 (k : Nat) (hk : k < 256) (w : World) : Calls Tryz.prog 67 #[.int .u16 28, .int .u8 (k : Int)] w fun e w' => ∃ v, e = .returned v ∧ OwnB w' w.heap.size v (Z.dataK 28 k) ∧ Below w.heap.size w w' := by
  have e : Z.dataK 28 k = List.replicate 15 0 ++ [UInt8.ofNat (k % 3)] := by unfold Z.dataK; rw [if_neg (by decide), if_pos rfl]
  rw [e]
  go_enter Tryz.func67, Tryz.ntmps67
  have hmk := make15 w
  go_wp2_with (at_builtin; go_loud (refine wpList_append_B rfl (.tmp 13) (.tmp 16) rfl w.heap.size (.slice (some ⟨w.heap.size, 0, none⟩) 15 15) (List.replicate 15 0) rfl ((OwnB.lit w (List.replicate 15 0) _ _ (Nat.le_refl _) rfl (by decide) 15 rfl).alloc _) (some ⟨w.heap.size + 1, 0, none⟩) 1 1 [UInt8.ofNat (k % 3)] (by first | rfl | simp [Act.eval]) rfl (by have := SlL.litm (w.alloc (.cells #[.int .u8 0, .int .u8 0, .int .u8 0, .int .u8 0, .int .u8 0, .int .u8 0, .int .u8 0, .int .u8 0, .int .u8 0, .int .u8 0, .int .u8 0, .int .u8 0, .int .u8 0, .int .u8 0, .int .u8 0] 5)) [UInt8.ofNat (k % 3)] #[.int .u8 ((k : Int) % 3)] 5 (0, 0) (by simp only [vb, List.map_cons, List.map_nil]; rw [u8mod k 3 (by decide) (by decide)]; rfl); simpa using this) (by intro h; cases h) (by simp) (by simp <;> omega) ?_); intro v5 w5 hO5 hG5; have b5 := grown_below ((OwnB.lit w (List.replicate 15 0) _ _ (Nat.le_refl _) rfl (by decide) 15 rfl).alloc _) hG5 (((Below.refl _ w).alloc (Nat.le_refl _) _).alloc (by simp <;> omega) _) (by simp <;> omega))
  go_ret
  exact ⟨v5, rfl, hO5, b5⟩
set_option maxHeartbeats 1000000 in
set_option maxRecDepth 5000 in
theorem seatData_15 (k : Nat) (hk : k < 256) (w : World) : Calls Tryz.prog 67 #[.int .u16 15, .int .u8 (k : Int)] w fun e w' => ∃ v, e = .returned v ∧ OwnB w' w.heap.size v (Z.dataK 15 k) ∧ Below w.heap.size w w' := by
  have e : Z.dataK 15 k = [0, UInt8.ofNat (k % 3)] ++ N.wire (Z.underK k) := by unfold Z.dataK; rw [if_neg (by decide), if_neg (by decide), if_pos rfl]
  rw [e]
  go_enter Tryz.func67, Tryz.ntmps67
  have hu := under_any k hk (w.alloc (.cells #[.int .u8 0, .int .u8 ((k : Int) % 3)] 5))
  have hO1 := hide (OwnB.lit w [0, UInt8.ofNat (k % 3)] #[.int .u8 0, .int .u8 ((k : Int) % 3)] _ (Nat.le_refl _) (by simp only [vb, List.map_cons, List.map_nil]; rw [u8mod k 3 (by decide) (by decide)]; rfl) (by simp) 2 rfl)
  have hB1 := hide ((Below.refl _ w).alloc (Nat.le_refl _) (.cells #[.int .u8 0, .int .u8 ((k : Int) % 3)] 5))
  go_wp2_with (first
    | (go_at_call 92; refine hu.mono ?_; rintro e w2 ⟨v2, rfl, hO2, hB2⟩; obtain ⟨a2, c2, rfl, hS2, hn2, hc2, _⟩ := hO2.open)
    | (go_at_call 91; refine (rWire_any (Z.underK k) a2 _ c2 w2 rfl hS2 (Z.underK_small k)).mono ?_; rintro e w3 ⟨v3, rfl, hO3, hB3⟩; have OM := hide ((hO1.out.below hB2).below hB3); have BM := hide (hB1.out.trans ((hB2.mono (by simp)).trans (hB3.mono (by have := hB2.size; simp at this; omega)))); obtain ⟨g3, c3, rfl, _, _⟩ := hO3.form (by simp [N.wire]); have S3 := hide hO3.sl)
    | (at_builtin; go_loud (refine wpList_append_B rfl (.tmp 22) (.tmp 25) rfl w.heap.size _ _ rfl (by exact OM.out) _ _ _ (N.wire (Z.underK k)) rfl rfl (by exact S3.out) (by intro h; cases h) (by have := Z.underK_wire k; simp; omega) (by exact BM.out.size) ?_); intro v5 w5 hO5 hG5; have b5 := grown_below OM.out hG5 BM.out BM.out.size)
    | fail)
  go_ret
  exact ⟨v5, rfl, hO5, b5⟩
set_option maxHeartbeats 1000000 in
set_option maxRecDepth 5000 in
theorem seatData_16 (k : Nat) (hk : k < 256) (w : World) : Calls Tryz.prog 67 #[.int .u16 16, .int .u8 (k : Int)] w fun e w' => ∃ v, e = .returned v ∧ OwnB w' w.heap.size v (Z.dataK 16 k) ∧ Below w.heap.size w w' := by
  have e : Z.dataK 16 k = [2, 104, UInt8.ofNat (97 + k % 4)] := by unfold Z.dataK; rw [if_neg (by decide), if_neg (by decide), if_neg (by decide), if_pos rfl]
  rw [e]
  go_enter Tryz.func67, Tryz.ntmps67
  go_wp2
  go_ret
  exact ⟨_, rfl, OwnB.lit w _ _ _ (Nat.le_refl _) (by simp only [vb, List.map_cons, List.map_nil]; rw [u8add k]; rfl) (by simp) 3 rfl, (Below.refl _ w).alloc (Nat.le_refl _) _⟩
set_option maxHeartbeats 1000000 in
set_option maxRecDepth 5000 in
theorem seatData_5 (k : Nat) (hk : k < 256) (w : World) : Calls Tryz.prog 67 #[.int .u16 5, .int .u8 (k : Int)] w fun e w' => ∃ v, e = .returned v ∧ OwnB w' w.heap.size v (Z.dataK 5 k) ∧ Below w.heap.size w w' := by
  have e : Z.dataK 5 k = N.wire (Z.underK k) := by unfold Z.dataK; rw [if_neg (by decide), if_neg (by decide), if_neg (by decide), if_neg (by decide), if_neg (by decide), if_pos rfl]
  rw [e]
  go_enter Tryz.func67, Tryz.ntmps67
  have hu := under_any k hk w
  go_wp2_with (first
    | (go_at_call 92; refine hu.mono ?_; rintro e w2 ⟨v2, rfl, hO2, hB2⟩; obtain ⟨a2, c2, rfl, hS2, hn2, hc2, _⟩ := hO2.open)
    | (go_at_call 91; refine (rWire_any (Z.underK k) a2 _ c2 w2 rfl hS2 (Z.underK_small k)).mono ?_; rintro e w3 ⟨v3, rfl, hO3, hB3⟩)
    | fail)
  go_ret
  exact ⟨v3, rfl, hO3.lower hB2.size, hB2.trans (hB3.mono hB2.size)⟩
set_option maxHeartbeats 1000000 in
set_option maxRecDepth 5000 in
theorem seatData_43 (k : Nat) (hk : k < 256) (w : World) : Calls Tryz.prog 67 #[.int .u16 43, .int .u8 (k : Int)] w fun e w' => ∃ v, e = .returned v ∧ OwnB w' w.heap.size v (Z.dataK 43 k) ∧ Below w.heap.size w w' := by
  have e : Z.dataK 43 k = [0, UInt8.ofNat (k % 3), 253, 2, 1, 2, 3] := by unfold Z.dataK; rw [if_neg (by decide), if_neg (by decide), if_neg (by decide), if_neg (by decide), if_neg (by decide), if_neg (by decide), if_pos rfl]
  rw [e]
  go_enter Tryz.func67, Tryz.ntmps67
  go_wp2
  go_ret
  exact ⟨_, rfl, OwnB.lit w _ _ _ (Nat.le_refl _) (by simp only [vb, List.map_cons, List.map_nil]; rw [u8mod k 3 (by decide) (by decide)]; rfl) (by simp) 7 rfl, (Below.refl _ w).alloc (Nat.le_refl _) _⟩
set_option maxHeartbeats 1000000 in
set_option maxRecDepth 5000 in
theorem seatData_2 (k : Nat) (hk : k < 256) (w : World) : Calls Tryz.prog 67 #[.int .u16 2, .int .u8 (k : Int)] w fun e w' => ∃ v, e = .returned v ∧ OwnB w' w.heap.size v (Z.dataK 2 k) ∧ Below w.heap.size w w' := by
  have e : Z.dataK 2 k = N.wire ([Z.owner 8, Z.owner 1, Z.farN].getD (k % 3) []) := by unfold Z.dataK; rw [if_neg (by decide), if_neg (by decide), if_neg (by decide), if_neg (by decide), if_pos rfl]
  rw [e]
  obtain ⟨j, hj⟩ : ∃ j, j = k % 3 := ⟨_, rfl⟩
  have hj3 : j < 3 := by omega
  have hmod : ((k : Int) % 3) = (j : Int) := by omega
  have hjb : (j : Int) < 3 := by omega
  rw [← hj]
  obtain ⟨nm, hnm⟩ : ∃ nm, nm = [Z.owner 8, Z.owner 1, Z.farN].getD j [] := ⟨_, rfl⟩
  have hns : N.Small nm := by
    rw [hnm]
    rcases (by omega : j = 0 ∨ j = 1 ∨ j = 2) with h | h | h <;> subst h
    · exact Z.owner_small 8
    · exact Z.owner_small 1
    · exact Z.far_small
  rw [← hnm]
  have h8 := owner_any 8 (by decide) w
  have h1 := fun W => owner_any 1 (by decide) W
  have H1 := hide h1
  have HNM := hide hnm
  have HNS := hide hns
  clear hj h1 hnm hns
  go_enter Tryz.func67, Tryz.ntmps67
  go_wp2_with (first
    | (go_at_call 21; refine h8.mono ?_; rintro e w1 ⟨v1, rfl, hO1, hB1⟩; obtain ⟨a1, c1, rfl, hS1, hn1, hc1, _⟩ := hO1.open; clear h8)
    | (go_at_call 21; refine (H1.out w1).mono ?_; rintro e w2 ⟨v2, rfl, hO2, hB2⟩; obtain ⟨a2, c2, rfl, hS2, hn2, hc2, _⟩ := hO2.open; obtain ⟨W, hW⟩ : ∃ W, W = (w2.alloc (.cells #[.string ⟨#[102, 97, 114]⟩, .string ⟨#[110, 101, 116]⟩] 9)).alloc (.cells #[.slice a1 (Z.owner 8).length c1, .slice a2 (Z.owner 1).length c2, .slice (some ⟨w2.heap.size, 0, none⟩) 2 2] 28) := ⟨_, rfl⟩; have hfar := SlS.litm w2 Z.farN #[.string ⟨#[102, 97, 114]⟩, .string ⟨#[110, 101, 116]⟩] 9 (0, 0) rfl; obtain ⟨av, nv, cv, _, hsl, hln, hget⟩ := pick3 w2 _ hW j hj3 (hS1.below hB2 (Nat.le_refl _)) hS2 hfar HNM.out; have HW := hide hW; have hb2W : Below w2.heap.size w2 W := by rw [hW]; exact ((Below.refl _ w2).alloc (Nat.le_refl _) _).alloc (by simp) _)
    | (go_at_call 91; rw [← hW]; refine (rWire_any nm av nv cv W hln hsl HNS.out).mono ?_; rintro e w3 ⟨v3, rfl, hO3, hB3⟩)
    | fail)
  go_ret
  have hz1 := hB1.size
  have hz2 := hB2.size
  have hzW := hb2W.size
  have hb0W : Below w.heap.size w W := hB1.trans ((hB2.trans (hb2W.mono hz2)).mono hz1)
  exact ⟨v3, rfl, hO3.lower (by omega), hb0W.trans (hB3.mono (by omega))⟩
set_option maxHeartbeats 1000000 in
set_option maxRecDepth 5000 in
theorem seatData_6 (k : Nat) (hk : k < 256) (w : World) : Calls Tryz.prog 67 #[.int .u16 6, .int .u8 (k : Int)] w fun e w' => ∃ v, e = .returned v ∧ OwnB w' w.heap.size v (Z.dataK 6 k) ∧ Below w.heap.size w w' := by
  have e : Z.dataK 6 k = D.soaB (Z.soaK k) := by unfold Z.dataK; rw [if_neg (by decide), if_neg (by decide), if_neg (by decide), if_neg (by decide), if_neg (by decide), if_neg (by decide), if_neg (by decide), if_pos rfl]
  rw [e]
  have h1 := owner_any 1 (by decide) w
  have h2 := fun W => owner_any 2 (by decide) W
  have H2 := hide h2
  have hm1 : IntKind.u32.wrap ((k : Int) * 16777216) = (((Z.soaK k).a : Nat) : Int) := by
    show _ = ((k * 16777216 % 4294967296 : Nat) : Int)
    rw [IntKind.wrap_u32]; omega
  have HSE : Hid (10 + (k : Int) % 4 * 20 = (((Z.soaK k).e : Nat) : Int)) := by
    show _ = ((10 + k % 4 * 20 : Nat) : Int)
    omega
  obtain ⟨sa, hsa⟩ : ∃ sa, sa = (Z.soaK k).a := ⟨_, rfl⟩
  rw [← hsa] at hm1
  have HSA := hide hsa
  clear h2 hsa
  go_enter Tryz.func67, Tryz.ntmps67
  go_wp2_with (first
    | (go_at_call 21; refine h1.mono ?_; rintro e w1 ⟨v1, rfl, hO1, hB1⟩; obtain ⟨a1, c1, rfl, hS1, hn1, hc1, _⟩ := hO1.open; clear h1)
    | (go_at_call 21; refine (H2.out w1).mono ?_; rintro e w2 ⟨v2, rfl, hO2, hB2⟩; obtain ⟨a2, c2, rfl, hS2, hn2, hc2, _⟩ := hO2.open)
    | (go_at_call 93; go_loud (rw [HSA.out, HSE.out]); go_loud (refine (sSoaBytes_any (Z.soaK k) a1 a2 _ c1 _ c2 w2 rfl rfl (hS1.below hB2 (Nat.le_refl _)) hS2 (Z.soaK_ok k).1 (Z.soaK_ok k).2.1 (Z.soaK_ok k).2.2.1 (show 1 < 4294967296 by decide) (show 2 < 4294967296 by decide) (show 3 < 4294967296 by decide) (Z.soaK_ok k).2.2.2).mono ?_); rintro e w3 ⟨v3, rfl, hO3, hB3⟩)
    | fail)
  go_ret
  have hz1 := hB1.size
  have hz2 := hB2.size
  have hb02 : Below w.heap.size w w2 := hB1.trans (hB2.mono hz1)
  exact ⟨v3, rfl, hO3.lower (by omega), hb02.trans (hB3.mono (by omega))⟩
set_option maxHeartbeats 1000000 in
set_option maxRecDepth 5000 in
theorem seatData_0 (t k : Nat) (hk : k < 256) (hne : t ≠ 1 ∧ t ≠ 28 ∧ t ≠ 15 ∧ t ≠ 16 ∧ t ≠ 2 ∧ t ≠ 5 ∧ t ≠ 43 ∧ t ≠ 6) (w : World) : Calls Tryz.prog 67 #[.int .u16 (t : Int), .int .u8 (k : Int)] w fun e w' => ∃ v, e = .returned v ∧ OwnB w' w.heap.size v (Z.dataK t k) ∧ Below w.heap.size w w' := by
  obtain ⟨k1, k2, k3, k4, k5, k6, k7, k8⟩ := hne
  have e : Z.dataK t k = [UInt8.ofNat k] := by unfold Z.dataK; rw [if_neg k1, if_neg k2, if_neg k3, if_neg k4, if_neg k5, if_neg k6, if_neg k7, if_neg k8]
  rw [e]
  have g0 : ((t : Int) == 1) = false := by simp; omega
  have g1 : ((t : Int) == 28) = false := by simp; omega
  have g2 : ((t : Int) == 15) = false := by simp; omega
  have g3 : ((t : Int) == 16) = false := by simp; omega
  have g4 : ((t : Int) == 2) = false := by simp; omega
  have g5 : ((t : Int) == 5) = false := by simp; omega
  have g6 : ((t : Int) == 43) = false := by simp; omega
  have g7 : ((t : Int) == 6) = false := by simp; omega
  clear k1 k2 k3 k4 k5 k6 k7 k8
  go_enter Tryz.func67, Tryz.ntmps67
  go_wp2
  go_ret
  exact ⟨_, rfl, OwnB.lit w _ _ _ (Nat.le_refl _) (by simp only [vb, List.map_cons, List.map_nil]; rw [u8id k hk]) (by simp) 1 rfl, (Below.refl _ w).alloc (Nat.le_refl _) _⟩
set_option maxRecDepth 5000 in
theorem seatData_any (t k : Nat) (hk : k < 256) (w : World) : Calls Tryz.prog 67 #[.int .u16 (t : Int), .int .u8 (k : Int)] w fun e w' => ∃ v, e = .returned v ∧ OwnB w' w.heap.size v (Z.dataK t k) ∧ Below w.heap.size w w' := by
  by_cases e1 : t = 1
  · subst e1; exact seatData_1 k hk w
  by_cases e28 : t = 28
  · subst e28; exact seatData_28 k hk w
  by_cases e15 : t = 15
  · subst e15; exact seatData_15 k hk w
  by_cases e16 : t = 16
  · subst e16; exact seatData_16 k hk w
  by_cases e2 : t = 2
  · subst e2; exact seatData_2 k hk w
  by_cases e5 : t = 5
  · subst e5; exact seatData_5 k hk w
  by_cases e43 : t = 43
  · subst e43; exact seatData_43 k hk w
  by_cases e6 : t = 6
  · subst e6; exact seatData_6 k hk w
  exact seatData_0 t k hk ⟨e1, e28, e15, e16, e2, e5, e43, e6⟩ w
end Go.Proofs.YtdldaphkiphpnaaGreat
