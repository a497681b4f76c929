/- Means, walked: meter.Mean and the reference's; all: numbers by their bits. -/
import Derived.Test.YtmkpihagfbohdaaMov
namespace Go.Proofs.Ytmkpihagfbohdaa
open Go.RowKit
namespace F
/- the sum from the left of the first k -/
def sm (l : List Nat) : Nat → Nat
  | 0 => 0
  | k + 1 => ar .add (sm l k) (l.getD k 0)
def mean (l : List Nat) : Nat := ar .quo (sm l l.length) (floatOfInt .f64 (l.length : Nat))
end F
set_option maxHeartbeats 400000 in
set_option maxRecDepth 5000 in
theorem mean_any (l : List Nat) (ao : Option Addr) (n cap : Nat) (w : World) (hl : Hid (l.length = n)) (hs : SlF w ao l) (hn : n ≤ 1000000) :
    Calls Try.prog 17 #[.slice ao n cap] w fun e w' => e = .returned (.float .f64 (F.norm (F.mean l))) ∧ ∃ q, w' = w.drewN q := by
  have HS := hide hs
  clear hs
  go_enter Try.func17, Try.ntmps17
  go_wp2
  go_loopw [8, 3] (fun i s wr => ∃ j a q : Nat, i = .int .i64 (j : Int) ∧ j ≤ n ∧ s = .float .f64 a ∧ Hid (F.norm a = F.norm (F.sm l j)) ∧ wr = w.drewN q) (fun i _ _ => n - (intOf i).toNat)
  case atStart => exact ⟨0, 0, 0, rfl, by omega, rfl, hide rfl, rfl⟩
  case round =>
    obtain ⟨j, a, q, rfl, hj, rfl, ha, rfl⟩ := hrel
    by_cases hlt : j < n
    · obtain ⟨b, o, rfl, hblt, hc⟩ := HS.out (by have := hl.out; omega)
      have hcj := hc j (by have := hl.out; omega)
      clear hc
      have HT : Hid (F.sm l (j + 1) = F.ar .add (F.sm l j) (l.getD j 0)) := hide rfl
      generalize l.getD j 0 = x at hcj HT
      obtain ⟨r, q', hrun, hrl, hr⟩ := run_ar Try.prog .add rfl 25 a x (w.drewN q)
      have HR : Hid (F.norm r = F.norm (F.sm l (j + 1))) := by show _ = _; rw [hr, HT.out, F.ar_al .add ha.out rfl]
      clear hr HT ha
      go_wp2
      go_roundw
      case rel => exact ⟨j + 1, r, q + q', by go_num, by omega, rfl, HR, rfl⟩
      case measure => simp [intOf]; omega
    · obtain rfl : j = n := by omega
      obtain ⟨r, q', hrun, hrl, hr⟩ := run_ar Try.prog .quo rfl 25 a (floatOfInt .f64 (j : Int)) (w.drewN q)
      have HR : Hid (F.norm r = F.norm (F.mean l)) := by
        show _ = _
        rw [hr]; unfold F.mean; rw [F.ar_al .quo ha.out rfl, hl.out]
      clear hr ha
      go_wp2_with (go_at_call 36; refine (told_any _ _).mono ?_; rintro e w' ⟨rfl, hw⟩; rw [hw]; clear hw w')
      go_ret
      exact ⟨by rw [HR.out]; rfl, _, rfl⟩
set_option maxHeartbeats 400000 in
set_option maxRecDepth 5000 in
theorem rmean_any (l : List Nat) (ao : Option Addr) (n cap : Nat) (w : World) (hl : Hid (l.length = n)) (hs : SlF w ao l) (hn : n ≤ 1000000) :
    Calls Try.prog 18 #[.slice ao n cap] w fun e w' => ∃ b, e = .returned (.float .f64 b) ∧ F.norm b = F.norm (F.mean l) ∧ ∃ q, w' = w.drewN q := by
  have HS := hide hs
  clear hs
  go_enter Try.func18, Try.ntmps18
  go_wp2
  go_loopw [4, 3] (fun i s wr => ∃ j a q : Nat, i = .int .i64 (j : Int) ∧ j ≤ n ∧ s = .float .f64 a ∧ Hid (F.norm a = F.norm (F.sm l j)) ∧ wr = w.drewN q) (fun i _ _ => n - (intOf i).toNat)
  case atStart => exact ⟨0, 0, 0, rfl, by omega, rfl, hide rfl, rfl⟩
  case round =>
    obtain ⟨j, a, q, rfl, hj, rfl, ha, rfl⟩ := hrel
    by_cases hlt : j < n
    · obtain ⟨b, o, rfl, hblt, hc⟩ := HS.out (by have := hl.out; omega)
      have hcj := hc j (by have := hl.out; omega)
      clear hc
      have HT : Hid (F.sm l (j + 1) = F.ar .add (F.sm l j) (l.getD j 0)) := hide rfl
      generalize l.getD j 0 = x at hcj HT
      obtain ⟨r, q', hrun, hrl, hr⟩ := run_ar Try.prog .add rfl 25 a x (w.drewN q)
      have HR : Hid (F.norm r = F.norm (F.sm l (j + 1))) := by show _ = _; rw [hr, HT.out, F.ar_al .add ha.out rfl]
      clear hr HT ha
      go_wp2
      go_roundw
      case rel => exact ⟨j + 1, r, q + q', by go_num, by omega, rfl, HR, rfl⟩
      case measure => simp [intOf]; omega
    · obtain rfl : j = n := by omega
      obtain ⟨r, q', hrun, hrl, hr⟩ := run_ar Try.prog .quo rfl 25 a (floatOfInt .f64 (j : Int)) (w.drewN q)
      have HR : Hid (F.norm r = F.norm (F.mean l)) := by
        show _ = _
        rw [hr]; unfold F.mean; rw [F.ar_al .quo ha.out rfl, hl.out]
      clear hr ha
      go_wp2
      go_ret
      exact ⟨r, rfl, HR.out, _, rfl⟩
/- the address ao of a slice that holds the numbers l, 64 bits each -/
def SlU (w : World) (ao : Option Addr) (l : List Nat) : Prop := 0 < l.length → ∃ b o, ao = some ⟨b, o, none⟩ ∧ b < w.heap.size ∧ ∀ j, j < l.length → w.cell? ⟨b, o + j, none⟩ = some (.int .u64 (l.getD j 0 : Nat))
set_option maxRecDepth 5000 in
theorem SlU.below {B : Nat} {w w' : World} {ao : Option Addr} {l : List Nat} (h : SlU w ao l) (hb : Below B w w') (hB : w.heap.size ≤ B) : SlU w' ao l := fun hn => by
  obtain ⟨b, o, e, hlt, hc⟩ := h hn
  exact ⟨b, o, e, Nat.lt_of_lt_of_le hlt hb.size, fun j hj => (hb.cell (p := ⟨b, o + j, none⟩) (Nat.lt_of_lt_of_le hlt hB)).trans (hc j hj)⟩
set_option maxRecDepth 5000 in
theorem take_snoc (l : List Nat) (j : Nat) (h : j < l.length) : l.take (j + 1) = l.take j ++ [l.getD j 0] := by
  rw [List.take_add_one]; simp [h]
set_option maxHeartbeats 400000 in
set_option maxRecDepth 5000 in
theorem all_any (l : List Nat) (ao : Option Addr) (n cap : Nat) (w : World) (hl : Hid (l.length = n)) (hs : SlU w ao l) (hn : n ≤ 1000000) :
    Calls Try.prog 15 #[.slice ao n cap] w fun e w' => ∃ v, e = .returned v ∧ OwnF w' w.heap.size v l ∧ Below w.heap.size w w' := by
  have HS := hide hs
  clear hs
  go_enter Try.func15, Try.ntmps15
  go_wp2
  go_loopw [4, 3] (fun i v wr => ∃ j : Nat, i = .int .i64 (j : Int) ∧ j ≤ n ∧ OwnF wr w.heap.size v (l.take j) ∧ Below w.heap.size w wr) (fun i _ _ => n - (intOf i).toNat)
  case atStart => exact ⟨0, rfl, by omega, OwnF.nil _ _, Below.refl _ _⟩
  case round =>
    rename_i v3 _
    obtain ⟨j, rfl, hj, hO, hB⟩ := hrel
    have hz := hB.size
    have HO := hide hO
    clear hO
    by_cases hlt : j < n
    · obtain ⟨b, o, rfl, hblt, hc⟩ := (HS.out.below hB (Nat.le_refl _)) (by have := hl.out; omega)
      have hcj := hc j (by have := hl.out; omega)
      clear hc
      have HT : Hid (l.take (j + 1) = l.take j ++ [l.getD j 0]) := hide (take_snoc l j (by have := hl.out; omega))
      have hlen : (l.take j).length ≤ 1000000 := by rw [List.length_take]; have := hl.out; omega
      generalize l.getD j 0 = x at hcj HT
      go_wp2_with (first | (go_at_call 11; refine (at_any _ _).mono ?_; rintro e w' ⟨rfl, hw⟩; rw [hw, Int.toNat_natCast]; clear hw w') | (at_builtin; refine wpList_append_F rfl (.tmp 11) (.tmp 17) rfl w.heap.size _ (l.take j) rfl (by exact HO.out.alloc _) _ _ _ [x] rfl rfl (SlF.one _ _ _) (by simp) (by simp at hlen ⊢; omega) (by simp; omega) ?_; intro v4 w4 hO4 hG4; have hB4 := grown_belowF (HO.out.alloc _) hG4 (hB.alloc hz _) (by simp; omega); clear hG4))
      go_roundw
      case rel => exact ⟨j + 1, by go_num, by omega, by rw [HT.out]; exact hO4, hB4⟩
      case measure => simp [intOf]; omega
    · obtain rfl : j = n := by omega
      go_wp2
      go_ret
      refine ⟨_, rfl, ?_, hB⟩
      have h := HO.out
      rw [List.take_of_length_le (by rw [hl.out]; exact Nat.le_refl _)] at h
      exact h
end Go.Proofs.Ytmkpihagfbohdaa
