/- name.read: the walk. -/
import Derived.Test.YtecikfdnnjinpabDoorRead
namespace Go.Proofs.YtecikfdnnjinpabDoor
open Go.RowKit
theorem decode_is (s : ByteArray) (r k : Nat) (w : World) (hT : Tabs w) (hd : Hid (Lib.decodeGo s = (r, k))) :
    Calls Tryd.prog 29 #[.string s] w fun e w' => e = .returned (.tuple #[.int .i32 (r : Int), .int .i64 (k : Int)]) ∧ Below w.heap.size w w' := by
  refine (decode_at s w hT).mono ?_
  rw [hd.out]
  exact fun _ _ h => h
theorem decodeGo_tail (s : ByteArray) (pos : Nat) (h : pos < s.size) : Lib.decodeGo (s.extract pos s.size) = Utf8.decode s pos := by
  have h1 : (s.extract pos s.size).size ≠ 0 := by
    have := congrArg List.length (Lib.extract_to_end s pos)
    rw [List.length_drop] at this
    have e1 : (s.extract pos s.size).data.toList.length = (s.extract pos s.size).size := rfl
    have e2 : s.data.toList.length = s.size := rfl
    omega
  unfold Lib.decodeGo
  rw [if_neg h1]
  exact Lib.tail_decode s pos 0
set_option maxRecDepth 3000 in
set_option maxHeartbeats 800000 in
theorem read_any (s : ByteArray) (bs : List UInt8) (w : World) (hs : Hid (s.data.toList = bs)) (hn : s.size ≤ 100000) (hTab : Tabs w) :
    Calls Tryd.prog 21 #[.string s] w fun e w' => Ended w.heap.size (N.rd bs) w e w' := by
  have HTab := hide hTab
  have h2 := hTab.2
  clear hTab
  by_cases hdot : bs = [46]
  · have e : N.rd bs = some [] := by unfold N.rd; rw [if_pos hdot]
    have es : s = ⟨#[46]⟩ := by
      have := hs.out
      rw [hdot] at this
      obtain ⟨⟨l⟩⟩ := s
      simp at this; rw [this]
    rw [e]
    subst es
    go_enter Tryd.func21, Tryd.ntmps21
    go_wp2
    go_ret
    exact ⟨Or.inl ⟨[], _, rfl, rfl, OwnS.nil _ _⟩, Below.refl _ _⟩
  · have e : N.rd bs = (N.run N.St.zero bs).bind N.fin := by unfold N.rd; rw [if_neg hdot]
    rw [e]
    have hne : (s.toList == [46]) = false := by
      rw [beq_eq_false_iff_ne, Lib.toList_data, hs.out]; exact hdot
    go_enter Tryd.func21, Tryd.ntmps21
    go_wp2
    have hlen : bs.length = s.size := by rw [← hs.out]; rfl
    have HLEN := hide hlen
    clear hlen e hne hdot
    have hR0 : Rd w.heap.size w.heap.size N.St.zero (w.alloc (.cells #[.slice none 0 0, .slice none 0 0, .bool false, .int .i64 0, .int .i64 0] 58)) :=
      ⟨none, 0, none, 0, RowAt.new w _ _, OwnS.nil _ _, OwnB.nil _ _, Nat.le_refl _, fun _ => rfl, Nat.le_refl _⟩
    have hb0 : Below w.heap.size w (w.alloc (.cells #[.slice none 0 0, .slice none 0 0, .bool false, .int .i64 0, .int .i64 0] 58)) := (Below.refl _ _).alloc (Nat.le_refl _) _
    have hi0 := World.iter_heap (w.alloc (.cells #[.slice none 0 0, .slice none 0 0, .bool false, .int .i64 0, .int .i64 0] 58)) s 0
    have hR1 : Rd w.heap.size w.heap.size N.St.zero ((w.alloc (.cells #[.slice none 0 0, .slice none 0 0, .bool false, .int .i64 0, .int .i64 0] 58)).iter s 0) := hR0.below ((Below.refl _ _).alloc (Nat.le_refl _) _)
    have hb1 : Below w.heap.size w ((w.alloc (.cells #[.slice none 0 0, .slice none 0 0, .bool false, .int .i64 0, .int .i64 0] 58)).iter s 0) := hb0.alloc hb0.size _
    rw [World.size_alloc] at hi0
    clear hR0 hb0
    go_loopw [4] (fun _ wr => ∃ (pos : Nat) (st : N.St), pos ≤ s.size ∧ Hid (N.run N.St.zero (bs.take pos) = some st) ∧ Hid (N.WF st) ∧ Rd w.heap.size w.heap.size st wr ∧ wr.heap[w.heap.size + 1]? = some (.stringIter s pos) ∧ Below w.heap.size w wr) (fun _ wr => s.size - wr.iterPos (w.heap.size + 1))
    case atStart => exact ⟨0, N.St.zero, by omega, rfl, Or.inl ⟨rfl, rfl⟩, hR1, hi0, hb1⟩
    case round =>
      clear hR1 hi0 hb1
      obtain ⟨pos, st, hpos, HR, HW, hRd, hit, hB⟩ := hrel
      have hz := hB.size
      by_cases hp : pos < s.size
      · obtain ⟨hk1, hk2, hk3, hk4⟩ := N.rune_step s pos hp st
        have hroom := N.run_room (bs.take pos) 0 N.St.zero st ⟨by simp [N.St.zero], by simp [N.St.zero]⟩ HR.out
        rw [Nat.zero_add] at hroom
        have hll : st.l.length ≤ 1000000000 := by have := hroom.1; rw [List.length_take] at this; omega
        have hnl : st.n.length ≤ 1000000000 := by have := hroom.1; rw [List.length_take] at this; omega
        have hnx := fun ty => Lib.run_next_any_at (P := Tryd.prog) wr (w.heap.size + 1) s pos ty hit hp
        have hdt := decodeGo_tail s pos hp
        have hrle := decode_le s pos
        have hds : Utf8.decode s pos = ((Utf8.decode s pos).1, (Utf8.decode s pos).2) := rfl
        have hp1 := fun W => run_slice_string_l (P := Tryd.prog) W 9 s Tryd.underlying9 .i64 (pos : Int) (by omega) (by omega)
        rw [hds] at hdt
        rw [hs.out] at hk3 hk4
        have hit2 := Lib.iterAt_heap wr (w.heap.size + 1) s pos (pos + (Utf8.decode s pos).2) hit
        have hR2 := hRd.iter hit (pos + (Utf8.decode s pos).2)
        have hB2 := Lib.below_iterAt hB (k := w.heap.size + 1) (by omega) s (pos + (Utf8.decode s pos).2)
        generalize (Utf8.decode s pos).1 = r at *
        generalize (Utf8.decode s pos).2 = k at *
        clear hds
        have hx2 := extract_is s pos k
        rw [hs.out] at hx2
        have hp2 : ∀ W, (Instr.slice 9 (.string s) (some (.int .i64 (pos : Int))) (some (.int .i64 ((pos : Int) + (k : Int)))) none).run Tryd.prog W = .ok (.string (s.extract pos (pos + k))) W := fun W => by
          have := run_slice_string (P := Tryd.prog) (w := W) 9 s .i64 .i64 (pos : Int) ((pos : Int) + (k : Int)) Tryd.underlying9
          simp only [Int.toNat_natCast] at this
          rw [this (by omega) (by omega) (by omega)]
          rw [show ((pos : Int) + (k : Int)).toNat = pos + k by omega]
        rw [Int.toNat_natCast] at hp1
        obtain ⟨s1, hs1⟩ : ∃ s1, s.extract pos s.size = s1 := ⟨_, rfl⟩
        obtain ⟨s2, hs2⟩ : ∃ s2, s.extract pos (pos + k) = s2 := ⟨_, rfl⟩
        rw [hs1] at hp1 hdt
        simp only [hs2] at hp2 hx2
        have HD := hide hdt
        have HX2 := hide hx2
        have hrn : N.run N.St.zero (bs.take (pos + k)) = N.stpR st r ((bs.drop pos).take k) := by
          rw [hk4, N.take_add, N.run_app, HR.out]; rfl
        have hpl : ((bs.drop pos).take k).length ≤ 1000000000 := by omega
        generalize (bs.drop pos).take k = p at hrn hpl hk3 HX2
        have HRN := hide hrn
        have hm := hit
        generalize wr.iterAt (w.heap.size + 1) s (pos + k) = wi at hnx hit2 hR2 hB2
        have hz2 := hB2.size
        have HTi := hide (HTab.out.below hB2 h2)
        have HR2 := hide hR2
        clear hdt hx2 hrn hk4 hs1 hs2 hRd hB hit hz hR2
        go_wp2_with (go_at_call 29; refine (decode_is s1 r k _ (by exact HTi.out) HD).mono ?_; rintro e w2 ⟨rfl, hBd⟩; have hlt := (Array.getElem?_eq_some_iff.1 hit2).1; have hit3 := (hBd.block (w.heap.size + 1) hlt).trans hit2; have HR3 := hide (HR2.out.below hBd); have hB3 := hB2.trans (hBd.mono hz2); have hz3 := hB3.size; clear hBd hit2 HR2 hB2 hz2)
        refine (take_any w.heap.size w.heap.size st r s2 p _ HX2 hrle (by exact HR3.out) HW.out hz3 hll hnl hpl).mono ?_
        rintro e w4 ⟨⟨st', ho, rfl, hR4⟩ | ⟨ho, rfl⟩, hB4, hK4⟩
        · have hit4 := hK4 _ _ _ hit3
          have HR4 := hide hR4
          have HK4 := hide hK4
          clear hR4 hK4 hit3 HR3
          go_wp2
          go_roundw
          case rel => exact ⟨pos + k, st', by omega, (by rw [HRN.out]; exact ho), HW.out.stp ho, HR4.out, hit4, hB3.trans hB4⟩
          case measure => simp only [World.iterPos, hit4, hm]; omega
        · unfold fell
          go_wp2
          refine ⟨rfl, Or.inr ⟨?_, rfl⟩, hB3.trans hB4⟩
          rw [N.run_none N.St.zero bs (pos + k) (by rw [HRN.out]; exact ho)]; rfl
      · have hnx : ∀ ty, (Instr.next (.pointer (some ⟨w.heap.size + 1, 0, none⟩)) true ty).run Tryd.prog wr = .ok (.tuple #[.bool false]) wr := fun ty => Lib.run_next_end_at wr (w.heap.size + 1) s pos ty hit hp
        have hroom := N.run_room (bs.take pos) 0 N.St.zero st ⟨by simp [N.St.zero], by simp [N.St.zero]⟩ HR.out
        rw [Nat.zero_add] at hroom
        have hnl : st.n.length ≤ 1000000000 := by have := hroom.1; rw [List.length_take] at this; omega
        have HRN : Hid (N.run N.St.zero bs = some st) := by
          have := HR.out
          rw [List.take_of_length_le (by have := HLEN.out; omega)] at this
          exact this
        have HRd := hide hRd
        clear hroom hRd hit
        go_wp2_with fail
        refine (end_any w.heap.size w.heap.size st _ (by exact HRd.out) hz hnl).mono ?_
        rintro e w4 ⟨⟨n, v, ho, rfl, hO⟩ | ⟨ho, rfl⟩, hB4⟩
        · have HO := hide hO
          clear hO
          go_wp2
          go_ret
          exact ⟨Or.inl ⟨n, _, by rw [HRN.out]; exact ho, rfl, HO.out⟩, hB.trans hB4⟩
        · unfold fell
          go_wp2
          exact ⟨rfl, Or.inr ⟨by rw [HRN.out]; exact ho, rfl⟩, hB.trans hB4⟩
end Go.Proofs.YtecikfdnnjinpabDoor
