/- signetref10.Check. -/
import Derived.Test.YtfkkaegebpckmaaCfg
namespace Go.Proofs.Ytfkkaegebpckmaa
open Go.RowKit
namespace C
def tl (x : Cf) : List Nat := [x.k, x.p, x.d, x.e, x.m, x.g, x.l, x.v]
def vu (l : List Nat) : List Value := l.map (fun (n : Nat) => .int .u32 (n : Int))
set_option maxRecDepth 5000 in
theorem tl_times (x : Cf) : ((tl x).all (fun n => decide (n ≤ 16777216))) = true ↔ Times x := by
  simp [tl, Times]
set_option maxRecDepth 5000 in
theorem all_next (l : List Nat) (j : Nat) (h : j < l.length) : (l.take (j + 1)).all (fun n => decide (n ≤ 16777216)) = ((l.take j).all (fun n => decide (n ≤ 16777216)) && decide (l.getD j 0 ≤ 16777216)) := by
  have e : l.getD j 0 = l[j] := by simp [h]
  rw [List.take_succ_eq_append_getElem h, List.all_append, e]; simp only [List.all_cons, List.all_nil, Bool.and_true]
set_option maxRecDepth 5000 in
theorem good_iff2 {x : Cf} {ck : Int} {la SZ ls : Nat} {b : Bool} (h1 : N.chk x.apex = ck) (h2 : x.apex.length = la) (h3 : N.size x.apex = SZ) (h5 : x.salt.length = ls) (h4 : b = true ↔ (ck = 0 ∧ la ≠ 0 ∧ SZ ≤ 200) ∧ (tl x).all (fun n => decide (n ≤ 16777216)) = true) :
    (Good x ↔ (b = true ∧ 1 ≤ x.k ∧ x.k ≤ x.m ∧ x.m + x.g < x.l ∧ x.l + x.g < x.v ∧ ls ≤ 16 ∧ x.it ≤ 50 ∧ 0 ≤ x.h ∧ x.h ≤ 10 ∧ 512 ≤ x.sz)) ∧ (b = true → x.m ≤ 16777216 ∧ x.g ≤ 16777216 ∧ x.l ≤ 16777216) := by
  rw [tl_times] at h4
  unfold Good
  rw [h1, h2, h3, h5, h4]
  refine ⟨⟨fun ⟨a, b, c, d, e⟩ => ⟨⟨⟨a, b, c⟩, d⟩, e⟩, fun ⟨⟨⟨a, b, c⟩, d⟩, e⟩ => ⟨a, b, c, d, e⟩⟩, fun h => ⟨h.2.2.2.2.2.1, h.2.2.2.2.2.2.1, h.2.2.2.2.2.2.2.1⟩⟩
end C
set_option maxRecDepth 5000 in
theorem u32_row (w : World) (l : List Nat) (A : Array Value) (t : TypeId) (fr : Nat × Nat) (h : A = (C.vu l).toArray) (j : Nat) (hj : j < l.length) : (w.alloc (.cells A t fr)).cell? ⟨w.heap.size, j, none⟩ = some (.int .u32 (l.getD j 0 : Int)) := by
  subst h
  rw [cell_of_row _ _ _ _ t fr (heap_alloc_last w _)]
  simp [C.vu, hj]
set_option maxRecDepth 5000 in
theorem ref_world (w V : World) (x : C.Cf) (a0 a9 : Option Addr) (la c0 ls c9 : Nat) (h : Below ((w.alloc (.cells #[.slice a0 la c0, .int .u32 (x.k : Int), .int .u32 (x.p : Int), .int .u32 (x.d : Int), .int .u32 (x.e : Int), .int .u32 (x.v : Int), .int .u32 (x.l : Int), .int .u32 (x.g : Int), .int .u32 (x.m : Int), .slice a9 ls c9, .int .u16 (x.it : Int), .int .i64 x.h, .int .u16 (x.sz : Int)] 28)).alloc (.cells #[.int .u32 (x.k : Int), .int .u32 (x.p : Int), .int .u32 (x.d : Int), .int .u32 (x.e : Int), .int .u32 (x.m : Int), .int .u32 (x.g : Int), .int .u32 (x.l : Int), .int .u32 (x.v : Int)] 24)).heap.size ((w.alloc (.cells #[.slice a0 la c0, .int .u32 (x.k : Int), .int .u32 (x.p : Int), .int .u32 (x.d : Int), .int .u32 (x.e : Int), .int .u32 (x.v : Int), .int .u32 (x.l : Int), .int .u32 (x.g : Int), .int .u32 (x.m : Int), .slice a9 ls c9, .int .u16 (x.it : Int), .int .i64 x.h, .int .u16 (x.sz : Int)] 28)).alloc (.cells #[.int .u32 (x.k : Int), .int .u32 (x.p : Int), .int .u32 (x.d : Int), .int .u32 (x.e : Int), .int .u32 (x.m : Int), .int .u32 (x.g : Int), .int .u32 (x.l : Int), .int .u32 (x.v : Int)] 24)) V) :
    CfAt V w.heap.size x a0 a9 la c0 ls c9 ∧ Below w.heap.size w V ∧ ∀ j, j < 8 → V.cell? ⟨w.heap.size + 1, j, none⟩ = some (.int .u32 ((C.tl x).getD j 0 : Int)) := by
  refine ⟨((CfAt.new w x a0 a9 la c0 ls c9).below ((Below.refl _ _).alloc (Nat.le_refl _) _) (by simp)).below h (by simp; omega), (((Below.refl w.heap.size w).alloc (Nat.le_refl _) _).alloc (by simp) _).trans (h.mono (by simp; omega)), fun j hj => ?_⟩
  have h1 := u32_row (w.alloc (.cells #[.slice a0 la c0, .int .u32 (x.k : Int), .int .u32 (x.p : Int), .int .u32 (x.d : Int), .int .u32 (x.e : Int), .int .u32 (x.v : Int), .int .u32 (x.l : Int), .int .u32 (x.g : Int), .int .u32 (x.m : Int), .slice a9 ls c9, .int .u16 (x.it : Int), .int .i64 x.h, .int .u16 (x.sz : Int)] 28)) (C.tl x) #[.int .u32 (x.k : Int), .int .u32 (x.p : Int), .int .u32 (x.d : Int), .int .u32 (x.e : Int), .int .u32 (x.m : Int), .int .u32 (x.g : Int), .int .u32 (x.l : Int), .int .u32 (x.v : Int)] 24 (0, 0) rfl j hj
  rw [show (w.alloc (.cells #[.slice a0 la c0, .int .u32 (x.k : Int), .int .u32 (x.p : Int), .int .u32 (x.d : Int), .int .u32 (x.e : Int), .int .u32 (x.v : Int), .int .u32 (x.l : Int), .int .u32 (x.g : Int), .int .u32 (x.m : Int), .slice a9 ls c9, .int .u16 (x.it : Int), .int .i64 x.h, .int .u16 (x.sz : Int)] 28)).heap.size = w.heap.size + 1 by simp] at h1
  exact (h.cell (p := ⟨w.heap.size + 1, j, none⟩) (by simp)).trans h1
set_option maxHeartbeats 1500000 in
set_option maxRecDepth 5000 in
theorem rcCheck_any (x : C.Cf) (a0 a9 : Option Addr) (la c0 ls c9 : Nat) (w : World) (hla : Hid (x.apex.length = la)) (hls : Hid (x.salt.length = ls)) (hs : SlS w a0 x.apex) (hm : Hid (N.Small x.apex)) (hz9 : ls ≤ 9223372036854775807) :
    Calls Try.prog 10 #[.agg #[.slice a0 la c0, .int .u32 (x.k : Int), .int .u32 (x.p : Int), .int .u32 (x.d : Int), .int .u32 (x.e : Int), .int .u32 (x.v : Int), .int .u32 (x.l : Int), .int .u32 (x.g : Int), .int .u32 (x.m : Int), .slice a9 ls c9, .int .u16 (x.it : Int), .int .i64 x.h, .int .u16 (x.sz : Int)]] w fun e w' => ∃ c : Int, e = .returned (.int .i64 c) ∧ (c = 0 ∧ C.Good x ∨ c = 100 ∧ ¬ C.Good x) ∧ Below w.heap.size w w' := by
  have HS := hide hs
  clear hs
  obtain ⟨ck, hck⟩ : ∃ ck, N.chk x.apex = ck := ⟨_, rfl⟩
  obtain ⟨SZ, hSZ⟩ : ∃ SZ, N.size x.apex = SZ := ⟨_, rfl⟩
  have HCK := hide hck
  have HSZ := hide hSZ
  clear hck hSZ
  go_enter Try.func10, Try.ntmps10
  by_cases hc0 : ck = 0
  · by_cases hl0 : 0 < la
    · go_wp2_with (first
        | (go_at_call 22; refine (rCheck_any x.apex a0 la c0 _ hla (by exact (HS.out.alloc _).alloc _) hm).mono ?_; rintro e w' ⟨rfl, rfl⟩; rw [HCK.out])
        | (go_at_call 23; refine (rWire_any x.apex a0 la c0 _ hla (by exact (HS.out.alloc _).alloc _) hm).mono ?_; rintro e WR ⟨v1, rfl, hO1, hB1⟩; obtain ⟨a1, c1, rfl, _, _, _, _⟩ := hO1.open; rw [N.wire_len]; obtain ⟨hA, hB, hR⟩ := ref_world w WR x a0 a9 la c0 ls c9 hB1; clear hO1 hB1; rw [HSZ.out]))
      obtain ⟨q0, q1, q2, q3, q4, q5, q6, q7, q8, q9, q10, q11, q12⟩ := hA.cells
      have HR := hide hR
      have HB := hide hB
      clear hA hR hB
      go_loopw [4, 5] (fun ok i wr => ∃ (j : Nat) (b : Bool), i = .int .i64 (j : Int) ∧ ok = .bool b ∧ j ≤ 8 ∧ Hid (b = true ↔ (ck = 0 ∧ la ≠ 0 ∧ SZ ≤ 200) ∧ ((C.tl x).take j).all (fun n => decide (n ≤ 16777216)) = true) ∧ wr = WR) (fun _ i _ => 8 - (intOf i).toNat)
      case atStart => exact ⟨0, _, rfl, rfl, by omega, (by show _ = true ↔ _; simp [hc0]; omega), rfl⟩
      case round =>
        obtain ⟨j, b, rfl, rfl, hj, HJ, rfl⟩ := hrel
        by_cases hlt : j < 8
        · have hc := HR.out j hlt
          have hn := C.all_next (C.tl x) j hlt
          generalize (C.tl x).getD j 0 = t at hc hn
          have HN := hide hn
          clear hn
          cases b
          · go_wp2
            go_roundw
            case rel => exact ⟨j + 1, false, by go_num, rfl, by omega, ⟨fun h => (by cases h), fun h => (by have h2 := h.2; rw [HN.out, Bool.and_eq_true] at h2; exact absurd (HJ.out.2 ⟨h.1, h2.1⟩) (by decide))⟩, trivial⟩
            case measure => simp [intOf]; omega
          · go_wp2
            go_roundw
            case rel => exact ⟨j + 1, _, by go_num, rfl, by omega, ⟨fun h => (by have h1 := HJ.out.1 rfl; refine ⟨h1.1, ?_⟩; rw [HN.out, Bool.and_eq_true]; exact ⟨h1.2, by rw [decide_eq_true_eq] at h ⊢; omega⟩), fun h => (by have h2 := h.2; rw [HN.out, Bool.and_eq_true] at h2; have h3 := h2.2; rw [decide_eq_true_eq] at h3 ⊢; omega)⟩, trivial⟩
            case measure => simp [intOf]; omega
        · obtain rfl : j = 8 := by omega
          obtain ⟨hg1, hg2⟩ := C.good_iff2 HCK.out hla.out HSZ.out hls.out HJ.out
          have HG := hide hg1
          have HT := hide hg2
          clear hg1 hg2 HJ
          cases b
          · go_wp2
            go_ret
            exact ⟨_, rfl, Or.inr ⟨rfl, fun hg => by have := HG.out.1 hg; exact absurd this.1 (by decide)⟩, HB.out⟩
          · have ht := HT.out rfl
            have HTT := hide ht
            clear HT ht
            go_wp2
            all_goals
              go_ret
              refine ⟨_, rfl, ?_, HB.out⟩
              first
                | exact Or.inr ⟨rfl, fun hg => by have hg := HG.out.1 hg; have ht := HTT.out; simp only [true_and] at hg; omega⟩
                | exact Or.inl ⟨rfl, HG.out.2 (by have ht := HTT.out; simp only [true_and]; omega)⟩
    · go_wp2_with (go_at_call 22; refine (rCheck_any x.apex a0 la c0 _ hla (by exact (HS.out.alloc _).alloc _) hm).mono ?_; rintro e w' ⟨rfl, rfl⟩; rw [HCK.out])
      obtain ⟨hA, hB, hR⟩ := ref_world w _ x a0 a9 la c0 ls c9 (Below.refl _ _)
      generalize ((w.alloc (.cells #[.slice a0 la c0, .int .u32 (x.k : Int), .int .u32 (x.p : Int), .int .u32 (x.d : Int), .int .u32 (x.e : Int), .int .u32 (x.v : Int), .int .u32 (x.l : Int), .int .u32 (x.g : Int), .int .u32 (x.m : Int), .slice a9 ls c9, .int .u16 (x.it : Int), .int .i64 x.h, .int .u16 (x.sz : Int)] 28)).alloc (.cells #[.int .u32 (x.k : Int), .int .u32 (x.p : Int), .int .u32 (x.d : Int), .int .u32 (x.e : Int), .int .u32 (x.m : Int), .int .u32 (x.g : Int), .int .u32 (x.l : Int), .int .u32 (x.v : Int)] 24)) = WR at hA hB hR ⊢
      have HB := hide hB
      have HNG : Hid (¬ C.Good x) := fun hg => by have h1 := hg.2.1; rw [hla.out] at h1; omega
      clear hA hR hB
      go_loopw [4, 5] (fun ok i wr => ∃ (j : Nat), i = .int .i64 (j : Int) ∧ ok = .bool false ∧ j ≤ 8 ∧ wr = WR) (fun _ i _ => 8 - (intOf i).toNat)
      case atStart => exact ⟨0, rfl, rfl, by omega, rfl⟩
      case round =>
        obtain ⟨j, rfl, rfl, hj, rfl⟩ := hrel
        by_cases hlt : j < 8
        · go_wp2
          go_roundw
          case rel => exact ⟨j + 1, by go_num, rfl, by omega, trivial⟩
          case measure => simp [intOf]; omega
        · obtain rfl : j = 8 := by omega
          go_wp2
          go_ret
          exact ⟨_, rfl, Or.inr ⟨rfl, HNG.out⟩, HB.out⟩
  · go_wp2_with (go_at_call 22; refine (rCheck_any x.apex a0 la c0 _ hla (by exact (HS.out.alloc _).alloc _) hm).mono ?_; rintro e w' ⟨rfl, rfl⟩; rw [HCK.out])
    obtain ⟨hA, hB, hR⟩ := ref_world w _ x a0 a9 la c0 ls c9 (Below.refl _ _)
    generalize ((w.alloc (.cells #[.slice a0 la c0, .int .u32 (x.k : Int), .int .u32 (x.p : Int), .int .u32 (x.d : Int), .int .u32 (x.e : Int), .int .u32 (x.v : Int), .int .u32 (x.l : Int), .int .u32 (x.g : Int), .int .u32 (x.m : Int), .slice a9 ls c9, .int .u16 (x.it : Int), .int .i64 x.h, .int .u16 (x.sz : Int)] 28)).alloc (.cells #[.int .u32 (x.k : Int), .int .u32 (x.p : Int), .int .u32 (x.d : Int), .int .u32 (x.e : Int), .int .u32 (x.m : Int), .int .u32 (x.g : Int), .int .u32 (x.l : Int), .int .u32 (x.v : Int)] 24)) = WR at hA hB hR ⊢
    have HB := hide hB
    have HNG : Hid (¬ C.Good x) := fun hg => by have h1 := hg.1; rw [HCK.out] at h1; exact hc0 h1
    clear hA hR hB
    go_loopw [4, 5] (fun ok i wr => ∃ (j : Nat), i = .int .i64 (j : Int) ∧ ok = .bool false ∧ j ≤ 8 ∧ wr = WR) (fun _ i _ => 8 - (intOf i).toNat)
    case atStart => exact ⟨0, rfl, rfl, by omega, rfl⟩
    case round =>
      obtain ⟨j, rfl, rfl, hj, rfl⟩ := hrel
      by_cases hlt : j < 8
      · go_wp2
        go_roundw
        case rel => exact ⟨j + 1, by go_num, rfl, by omega, trivial⟩
        case measure => simp [intOf]; omega
      · obtain rfl : j = 8 := by omega
        go_wp2
        go_ret
        exact ⟨_, rfl, Or.inr ⟨rfl, HNG.out⟩, HB.out⟩
end Go.Proofs.Ytfkkaegebpckmaa
