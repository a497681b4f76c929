/- slices.Grow at none, slices.Concat: at slices of bytes. -/
import Derived.Test.YtgmjppmcfmcmkaaDoorNmB
namespace Go.Proofs.YtgmjppmcfmcmkaaDoor
open Go.RowKit
set_option maxRecDepth 5000 in
theorem zcB (n : Nat) : (Builtin.zeroCells (Value.int .u8 0).cells n).size = n := by
  rw [size_zeroCells]; show n * 1 = n; omega
set_option maxRecDepth 5000 in
theorem run_mkB (w : World) (m : Nat) (ty : TypeId) (h0 : 0 < m) (hm : m ≤ 1000000000) :
    ∃ cap cells, (Builtin.append_ #[24, 3] ty #[.slice none 0 0, .int .i64 (m : Int)]).run Tryd.prog w = .ok (.slice (some ⟨w.heap.size, 0, none⟩) m cap) (w.drew.alloc (.cells cells 5)) ∧ cells.size = cap * 1 ∧ m ≤ cap ∧ cap ≤ maxLen := by
  obtain ⟨i0, hi, hz0, hz1, hz2⟩ := info_parts infoB
  have hwr : IntKind.i64.wrap (m : Int) = (m : Int) := by rw [IntKind.wrap_i64]; omega
  have hneg : ¬ ((m : Int) < 0) := by omega
  have hbig : ¬ (281474976710656 < (m : Int) * (i0.bytes : Int)) := by rw [hz2]; omega
  have hz : ¬ (m * i0.size = 0) := by rw [hz1]; omega
  have h0' : ¬ (m = 0) := by omega
  have hfit := growslice_fits (need := m) (old := 0) (bytes := i0.bytes) (by omega) (by rw [hz2]; omega)
  have h48 : ¬ (281474976710656 < Builtin.nextslicecap m 0 * i0.bytes) := by omega
  have h63 : ¬ (9223372036854775807 < (m : Int)) := by omega
  have hge := grownCap_ge w m 0 5
  have hcm := grownCap_le_maxLen w m 0 5 (by unfold maxLen; omega)
  refine ⟨grownCap w m 0 5, #[] ++ Builtin.zeroCells (Value.int .u8 0).cells m ++ Builtin.zeroCells (Value.int .u8 0).cells (grownCap w m 0 5 - m), ?_, ?_, hge, hcm⟩
  · simp [Builtin.append_, run_underlying Tryd.underlying24, run_underlying Tryd.underlying3, sizeOf, typeInfo, zeroValue, hi, hz0, asInt, asIntOf, hwr, hneg, hbig, h0', h48, h63, hz, Question.forced, run_firstCells_none, newRow, grownCap]
  · simp only [Array.size_append, zcB, Array.size_empty]; omega
set_option maxRecDepth 5000 in
theorem wpList_mkB {w : World} {ops : Array Oper} {rest : List Oper} {o : Oper} {a : Act} {Q : Exit → Act → World → Prop} (hgd : o.guard = none) (s x : Operand)
    (ho : o.op = .call { callee := .builtin .append, args := #[s, x], argTypes := #[24, 3] }) (hs : a.eval s = .slice none 0 0) (m : Nat) (hx : a.eval x = .int .i64 (m : Int)) (v : Value) (w' : World)
    (hr : (Builtin.append_ #[24, 3] o.type #[.slice none 0 0, .int .i64 (m : Int)]).run Tryd.prog w = .ok v w') (h : wpList Tryd.prog ops Q rest (a.put o.dst v) w') : wpList Tryd.prog ops Q (o :: rest) a w :=
  wpList_plain hgd fun _ hK => by
    unfold Oper.wp execOp
    simp only [ho, resolve, invoke, builtin, Sem.run_bind, Sem.run_pure, Result.andThen_ok, List.map_toArray, List.map_cons, List.map_nil, hs, hx, hr]
    exact hK _ _ h
set_option maxRecDepth 5000 in
theorem growB_nil (w : World) : Calls Tryd.prog 35 #[.slice none 0 0, .int .i64 0] w fun e w' => e = .returned (.slice none 0 0) ∧ w' = w := by
  go_enter Tryd.func35, Tryd.ntmps35
  go_wp2
  go_ret
  exact ⟨rfl, rfl⟩
set_option maxRecDepth 5000 in
theorem growB_any (n : Nat) (w : World) (hn : n ≤ 1000000000) : Calls Tryd.prog 35 #[.slice none 0 0, .int .i64 (n : Int)] w fun e w' => ∃ v, e = .returned v ∧ OwnB w' w.heap.size v [] ∧ Below w.heap.size w w' := by
  rcases Nat.eq_zero_or_pos n with rfl | h0
  · refine (growB_nil w).mono ?_
    rintro e w' ⟨rfl, rfl⟩
    exact ⟨_, rfl, World.ownsRow_nil _ _ _ _, Below.refl _ _⟩
  obtain ⟨cap, cells, hr, hcs, hmc, hcm⟩ := run_mkB w n 24 h0 hn
  have HR := hide hr
  have q1 : decide ((n : Int) < 0) = false := by simp
  have q2 : decide ((0 : Int) < (n : Int)) = true := by simp; omega
  have q3 : IntKind.i64.wrap (n : Int) = (n : Int) := by rw [IntKind.wrap_i64]; omega
  have HO : Hid ((w.drew.alloc (.cells cells 5)).ownsRow w.heap.size 5 1 (.slice (some ⟨w.heap.size, 0, none⟩) 0 cap) 0 []) := ⟨rfl, .inr ⟨w.heap.size, cap, cells, rfl, Nat.le_refl _, heap_alloc_new w.drew _, by omega, hcm, hcs, by simp⟩⟩
  have HB : Hid (Below w.heap.size w (w.drew.alloc (.cells cells 5))) := (Below.refl _ _).drew.alloc (Nat.le_refl _) _
  clear hr
  go_enter Tryd.func35, Tryd.ntmps35
  have q4 : (0 : Int) ≤ (cap : Int) := by omega
  go_wp2_with (at_builtin; refine wpList_mkB rfl (.tmp 20) (.tmp 21) rfl rfl n rfl _ _ HR.out ?_)
  go_ret
  exact ⟨_, rfl, HO.out, HB.out⟩
def catB (ls : Nat → List UInt8) : Nat → List UInt8
  | 0 => []
  | j + 1 => catB ls j ++ ls j
set_option maxRecDepth 3000 in
set_option maxHeartbeats 2000000 in
theorem concatB_any (K g : Nat) (a : Nat → Option Addr) (ls : Nat → List UInt8) (cp : Nat → Nat) (w : World) (hK : K ≤ 100) (hglt : g < w.heap.size) (hc : ∀ j, j < K → w.cell? ⟨g, j, none⟩ = some (.slice (a j) (ls j).length (cp j)))
    (hs : ∀ j, j < K → SlL w (a j) (ls j)) (hnil : ∀ j, j < K → a j = none → cp j = 0) (hl : ∀ j, j < K → (ls j).length ≤ 1000000) :
    Calls Tryd.prog 21 #[.slice (some ⟨g, 0, none⟩) K K] w fun e w' => ∃ v, e = .returned v ∧ OwnB w' w.heap.size v (catB ls K) ∧ Below w.heap.size w w' := by
  have HC := hide hc
  have HS := hide hs
  have HN := hide hnil
  have HL := hide hl
  have HCL : Hid (∀ j, j ≤ K → (catB ls j).length ≤ 1000000 * j) := by
    intro j
    induction j with
    | zero => intro _; simp [catB]
    | succ j ih => intro h; have h1 := ih (by omega); have h2 := HL.out j (by omega); simp only [catB, List.length_append]; omega
  clear hc hs hnil hl
  go_enter Tryd.func21, Tryd.ntmps21
  go_wp2
  go_loopw [3, 11] (fun z i wr => ∃ j : Nat, z = .int .i64 ((catB ls j).length : Int) ∧ i = .int .i64 (j : Int) ∧ j ≤ K ∧ w = wr) (fun _ i _ => K - (intOf i).toNat)
  case atStart => exact ⟨0, rfl, rfl, by omega, rfl⟩
  case round =>
    obtain ⟨j, rfl, rfl, hj, rfl⟩ := hrel
    have h1 := HCL.out j hj
    by_cases h3 : j < K
    · have cj := HC.out j h3
      have h2 := HL.out j h3
      have hsum : IntKind.i64.wrap (((catB ls j).length : Int) + ((ls j).length : Int)) = ((catB ls (j + 1)).length : Int) := by rw [IntKind.wrap_i64]; simp only [catB, List.length_append]; omega
      have q2 : decide (((catB ls (j + 1)).length : Int) < 0) = false := by simp
      generalize (catB ls j).length = s0 at h1 hsum ⊢
      go_wp2
      go_roundw
      case rel => exact ⟨j + 1, rfl, by go_num, by omega, trivial⟩
      case measure => simp [intOf]; omega
    · obtain rfl : j = K := by omega
      go_wp2_with fail
      refine (growB_any _ _ (by omega)).mono ?_
      rintro e w1 ⟨v, rfl, hO, hb⟩
      have HO : Hid (OwnB w1 w.heap.size v (catB ls 0)) := hO
      have HB := hide hb
      clear hO hb
      go_wp2
      go_loopw [6, 27] (fun z i wr => ∃ i' : Nat, i = .int .i64 (i' : Int) ∧ i' ≤ j ∧ Hid (OwnB wr w.heap.size z (catB ls i')) ∧ Hid (Below w.heap.size w wr)) (fun _ i _ => j - (intOf i).toNat)
      case atStart => exact ⟨0, rfl, by omega, HO, HB⟩
      case round =>
        clear HO HB
        obtain ⟨i, rfl, hj2, HO, HB⟩ := hrel
        have hzz := HB.out.size
        by_cases h4 : i < j
        · have cj := (HB.out.cell (p := ⟨g, i, none⟩) hglt).trans (HC.out i h4)
          have HSJ := hide ((HS.out i h4).below HB.out (Nat.le_refl _))
          have h5 := HCL.out i hj2
          have h6 := HL.out i h4
          have HNJ := hide (HN.out i h4)
          go_wp2_with (at_builtin; refine wpList_append_B rfl (.tmp 31) (.tmp 32) rfl w.heap.size _ (catB ls i) rfl (by exact HO.out) (a i) (ls i).length (cp i) (ls i) rfl rfl (by exact HSJ.out) HNJ.out (by omega) hzz ?_; intro v4 w4 hO4 hG4; have O4 := hide hO4; have B4 := hide (grown_below HO.out hG4 HB.out hzz); clear hO4 hG4)
          go_roundw
          case rel => exact ⟨i + 1, by go_num, by omega, O4, B4⟩
          case measure => simp [intOf]; omega
        · obtain rfl : i = j := by omega
          go_wp2
          go_ret
          exact ⟨_, rfl, HO.out, HB.out⟩
end Go.Proofs.YtgmjppmcfmcmkaaDoor
