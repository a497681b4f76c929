/- bytes.Count of noughts; journal.blank. -/
import Derived.Test.YtidocfajhhpfdaaDoorJst
import Derived.Shelf.Bytes.SlCountOne
namespace Go.Proofs.YtidocfajhhpfdaaDoor
open Go.RowKit
set_option maxRecDepth 5000 in
theorem bytesOf_l (l : List UInt8) : Lib.bytesOf (l.map fun b => (b.toNat : Int)) = l := by
  unfold Lib.bytesOf
  rw [List.map_map]
  conv => rhs; rw [← List.map_id l]
  apply List.map_congr_left
  intro a _
  simp
set_option maxHeartbeats 2000000 in
set_option maxRecDepth 5000 in
theorem bCount_any (w : World) (b o n c b2 d : Nat) (l : List UInt8) (hl : l.length = n) (h0 : 0 < n) (hs : SlL w (some ⟨b, o, none⟩) l) (hc2 : w.cell? ⟨b2, 0, none⟩ = some (.int .u8 0)) :
    Calls Tryd.prog 66 #[.slice (some ⟨b, o, none⟩) n c, .slice (some ⟨b2, 0, none⟩) 1 d] w fun e w' => e = .returned (.int .i64 (l.count 0 : Int)) ∧ w' = w := by
  obtain ⟨b', o', e, _, hc⟩ := hs (by omega)
  cases e
  have hrun := Lib.run_countSlice (P := Tryd.prog) w b o n c (l.map fun b => (b.toNat : Int)) (by simp [hl]) (fun i hi => by
    rw [hc i (by omega)]
    have : i < l.length := by omega
    simp [List.getD_eq_getElem?_getD, this]) 0
  rw [bytesOf_l] at hrun
  have e1 : (Lib.countByte l (0 : Int).toNat.toUInt8 : Int) = (l.count 0 : Int) := rfl
  rw [e1] at hrun
  clear hs hc
  go_enter Tryd.func66, Tryd.ntmps66
  go_wp2
  rw [run_callFunc_extern Tryd.func75 (by kernel_rfl) (by kernel_rfl) (by kernel_rfl) (e := Extern.BytealgCount.count) (by kernel_rfl), hrun]
  simp only [Result.andThen]
  rw [Oper.upon_value]
  go_wp2
  go_ret
  exact ⟨rfl, rfl⟩
set_option maxRecDepth 5000 in
theorem blank_any (w : World) (b o n c : Nat) (l : List UInt8) (hl : l.length = n) (h0 : 0 < n) (hs : SlL w (some ⟨b, o, none⟩) l) :
    Calls Tryd.prog 46 #[.slice (some ⟨b, o, none⟩) n c] w fun e w' => e = .returned (.bool (decide (l = List.replicate n 0))) ∧ Below w.heap.size w w' := by
  have hc := bCount_any (w.alloc (.cells #[.int .u8 0] 5)) b o n c w.heap.size 1 l hl h0 (hs.alloc _) (by rw [(RowAt.new w _ _).cell]; rfl)
  have e1 : ((l.count 0 : Int) == (n : Int)) = decide (l = List.replicate n 0) := by
    rw [Bool.eq_iff_iff]
    simp only [beq_iff_eq, decide_eq_true_eq, Int.ofNat_inj]
    rw [← hl, List.count_eq_length, List.eq_replicate_iff]
    exact ⟨fun h => ⟨rfl, fun b hb => (h b hb).symm⟩, fun h b hb => (h.2 b hb).symm⟩
  generalize l.count 0 = X at *
  generalize decide (l = List.replicate n 0) = Y at *
  clear hs
  go_enter Tryd.func46, Tryd.ntmps46
  go_wp2_with (go_at_call 66; refine hc.mono ?_; rintro e w' ⟨rfl, hw⟩; rw [hw]; clear hw w')
  go_ret
  exact ⟨by rw [← e1]; rfl, (Below.refl _ w).alloc (Nat.le_refl _) _⟩
end Go.Proofs.YtidocfajhhpfdaaDoor
