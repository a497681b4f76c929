/- tree.above, isHeight, leafCount; signetref7.Up; bytes.Equal. -/
import Derived.Test.YtpiehjfoojipiaaDoorNds
import Derived.Test.YtpiehjfoojipiaaDoorHlp
namespace Go.Proofs.YtpiehjfoojipiaaDoor
open Go.RowKit
set_option maxRecDepth 5000 in
theorem sl_cell {w : World} {ao : Option Addr} {l : List (BitVec 8)} (h : SlL w ao l) (o : Obj) : SlL (w.alloc o) ao l := h.alloc o
set_option maxRecDepth 5000 in
theorem parts_pr (w : World) (a b : Option Addr) (p q : List (BitVec 8)) (ca cb : Nat) (t : TypeId) (ha : SlL w a p) (hb : SlL w b q) (na : a = none → ca = 0) (nb : b = none → cb = 0) (la : p.length ≤ ca) (lb : q.length ≤ cb) :
    PartsAt (w.alloc (.cells #[.slice a p.length ca, .slice b q.length cb] t)) (some ⟨w.heap.size, 0, none⟩) [p, q] := fun _ => by
  have hr := RowAt.new w t #[.slice a p.length ca, .slice b q.length cb]
  refine ⟨w.heap.size, 0, rfl, by simp, fun j hj => ?_⟩
  rcases (show j = 0 ∨ j = 1 by simp at hj; omega) with rfl | rfl
  · exact ⟨a, ca, by rw [hr.cell]; rfl, ha.alloc _, na, la⟩
  · exact ⟨b, cb, by rw [hr.cell]; rfl, hb.alloc _, nb, lb⟩
set_option maxRecDepth 5000 in
theorem two_le (p q : List (BitVec 8)) (hp : p.length ≤ 1000000) (hq : q.length ≤ 1000000) : ∀ x ∈ [p, q], x.length ≤ 1000000 := fun x hx => by
  simp only [List.mem_cons, List.not_mem_nil, or_false] at hx; rcases hx with rfl | rfl <;> assumption
set_option maxRecDepth 3000 in
set_option maxHeartbeats 1000000 in
theorem above_any (p q : List (BitVec 8)) (a b : Option Addr) (na ca nb cb : Nat) (w : World) (hp : Hid (p.length = na)) (hq : Hid (q.length = nb)) (ha : SlL w a p) (hb : SlL w b q) (hna : a = none → ca = 0) (hnb : b = none → cb = 0) (hca : na ≤ ca) (hcb : nb ≤ cb) (hla : na ≤ 1000000) (hlb : nb ≤ 1000000) (hT : Tab w) :
    Calls Tryd.prog 37 #[.slice a na ca, .slice b nb cb] w fun e w' => e = .returned (.agg (rowB 8 (T.upl p q))) ∧ Below w.heap.size w w' := by
  have hT0 := hT.1
  have hpp := parts_pr (w.alloc (.cells z8 58)) a b p q ca cb 34 (ha.alloc _) (hb.alloc _) hna hnb (by rw [hp.out]; exact hca) (by rw [hq.out]; exact hcb)
  rw [hp.out, hq.out, show (w.alloc (.cells z8 58)).heap.size = w.heap.size + 1 by simp] at hpp
  have hbb : Below w.heap.size w ((w.alloc (.cells z8 58)).alloc (.cells #[.slice a na ca, .slice b nb cb] 34)) := ((Below.refl _ _).alloc (Nat.le_refl _) _).alloc (by simp) _
  have hR := (RowAt.new w 58 z8).alloc (.cells #[.slice a na ca, .slice b nb cb] 34)
  have HL : Hid (∀ x ∈ [p, q], x.length ≤ 1000000) := two_le p q (by rw [hp.out]; exact hla) (by rw [hq.out]; exact hlb)
  have hTb := hT.below hbb hT0
  clear ha hb hna hnb
  go_enter Tryd.func37, Tryd.ntmps37
  go_wp2_with fail
  refine (short_any 4 [p, q] _ _ _ _ (by exact rfl) (by exact hpp) (by omega) HL.out (by exact hTb)).mono ?_
  rintro e w1 ⟨rfl, hB1⟩
  have hb1 := hbb.trans (hB1.mono (by simp; omega))
  have hR1 : RowAt w1 w.heap.size 58 z8 := RowAt.below hR hB1 (by simp; omega)
  clear hB1 hbb hpp hR hTb
  go_wp2_with (refine wpList_store_rowAt rfl 58 (.tmp 4) (.tmp 8) rfl w.heap.size _ rfl rfl 58 z8 hR1 (by rw [rowB_size]; exact info58) (by rw [rowB_size]; rfl) (rowB_one _ _) ?_)
  exact bodyPost_ret (v := .agg (rowB 8 (T.upl p q))) (results_rowAt Tryd.results37 _ _ w.heap.size 58 _ _ rfl (setRow_same hR1 _) Tryd.underlying58 rfl (by rw [rowB_size]; exact info58)) rfl ⟨rfl, below_setRow hb1 (Nat.le_refl _) _⟩
set_option maxRecDepth 5000 in
theorem above_F (F : Nat → BitVec 8) (p q : List (BitVec 8)) (a b : Option Addr) (na ca nb cb : Nat) (w : World) (hF : Hid (T.upl p q = F)) (hp : Hid (p.length = na)) (hq : Hid (q.length = nb)) (ha : SlL w a p) (hb : SlL w b q) (hna : a = none → ca = 0) (hnb : b = none → cb = 0) (hca : na ≤ ca) (hcb : nb ≤ cb) (hla : na ≤ 1000000) (hlb : nb ≤ 1000000) (hT : Tab w) :
    Calls Tryd.prog 37 #[.slice a na ca, .slice b nb cb] w fun e w' => e = .returned (.agg (rowB 8 F)) ∧ Below w.heap.size w w' := by
  rw [← hF.out]; exact above_any p q a b na ca nb cb w hp hq ha hb hna hnb hca hcb hla hlb hT
set_option maxRecDepth 5000 in
theorem isHeight_any (h : Int) (w : World) : Calls Tryd.prog 22 #[.int .i64 h] w fun e w' => e = .returned (.bool (decide (0 ≤ h ∧ h ≤ 10))) ∧ w' = w := by
  by_cases h0 : 0 ≤ h
  · have q0 : decide (0 ≤ h) = true := by simpa using h0
    by_cases h1 : h ≤ 10
    · have q1 : decide (h ≤ 10) = true := by simpa using h1
      go_enter Tryd.func22, Tryd.ntmps22
      go_wp2
      go_ret
      exact ⟨by simp [h0, h1], rfl⟩
    · have q1 : decide (h ≤ 10) = false := by simpa using h1
      go_enter Tryd.func22, Tryd.ntmps22
      go_wp2
      go_ret
      exact ⟨by simp, rfl⟩
  · have q0 : decide (0 ≤ h) = false := by simpa using h0
    go_enter Tryd.func22, Tryd.ntmps22
    go_wp2
    go_ret
    exact ⟨by simp, rfl⟩
set_option maxRecDepth 5000 in
theorem leafCount_any (h : Nat) (w : World) (hh : h ≤ 10) : Calls Tryd.prog 26 #[.int .i64 (h : Int)] w fun e w' => e = .returned (.int .u32 ((2 ^ h : Nat) : Int)) ∧ w' = w := by
  have hm : min h 32 = h := by omega
  have hp : (2 : Nat) ^ h ≤ 2 ^ 10 := Nat.pow_le_pow_right (by omega) hh
  have hw : IntKind.u32.wrap ((2 : Int) ^ h) = ((2 ^ h : Nat) : Int) := by
    rw [IntKind.wrap_u32]
    have : ((2 : Int) ^ h) = ((2 ^ h : Nat) : Int) := by simp
    rw [this]
    generalize 2 ^ h = N at hp
    have h10 : (2 : Nat) ^ 10 = 1024 := rfl
    omega
  go_enter Tryd.func26, Tryd.ntmps26
  go_wp2
  go_ret
  exact ⟨by simp, rfl⟩
set_option maxRecDepth 5000 in
theorem bequal_any (l m : List (BitVec 8)) (ao ao' : Option Addr) (n n' c c' : Nat) (w : World) (hs : SlL w ao l) (hs' : SlL w ao' m) (hl : Hid (l.length = n)) (hl' : Hid (m.length = n')) :
    Calls Tryd.prog 29 #[.slice ao n c, .slice ao' n' c'] w fun e w' => e = .returned (.bool (decide (l = m))) ∧ w' = w := by
  have h1 := run_str n c hs hl.out
  have h2 := run_str n' c' hs' hl'.out
  have h3 : (ub l == ub m) = decide (l = m) := by
    rw [Bool.beq_eq_decide_eq]
    apply decide_eq_decide.2
    constructor
    · intro e1
      have e2 := congrArg (List.map UInt8.toBitVec) e1
      simpa [ub, Function.comp_def] using e2
    · rintro rfl; rfl
  clear hs hs'
  go_enter Tryd.func29, Tryd.ntmps29
  go_wp2
  go_ret
  exact ⟨by simp, rfl⟩
end Go.Proofs.YtpiehjfoojipiaaDoor

/- tree.leafNodes: the leaves of a tree. -/
namespace Go.Proofs.YtpiehjfoojipiaaDoor
open Go.RowKit
set_option maxRecDepth 5000 in
theorem SlN.own {et : TypeId} {w : World} {base : Nat} {v : Value} {l : List (Nat → BitVec 8)} (h : w.ownsRow base et 8 v l.length (nfl l)) (hl : 0 < l.length) : SlN et w v l := by
  refine SlN.of h ?_
  rintro rfl
  rcases h.2 with ⟨_, h'⟩ | ⟨g, cap, cur, h', _⟩
  · omega
  · cases h'
def levL (f : Nat → BitVec 8) (k n : Nat) : List (Nat → BitVec 8) := (List.range n).map (T.nd f k)
set_option maxRecDepth 5000 in
theorem levL_len (f : Nat → BitVec 8) (k n : Nat) : (levL f k n).length = n := by simp [levL]
set_option maxRecDepth 5000 in
theorem levL_succ (f : Nat → BitVec 8) (k n : Nat) : levL f k (n + 1) = levL f k n ++ [T.nd f k n] := by simp [levL, List.range_succ]
set_option maxRecDepth 5000 in
theorem levL_get (f : Nat → BitVec 8) (k n i : Nat) (h : i < n) : (levL f k n).getD i (fun _ => 0) = T.nd f k i := by simp [levL, h]
set_option maxRecDepth 5000 in
theorem own_next {w : World} {base et : Nat} {v : Value} {f : Nat → BitVec 8} {k n : Nat} (h : w.ownsRow base et 8 v (n + 1) (nfl (levL f k n) ++ bsL 8 (T.nd f k n))) : w.ownsRow base et 8 v (levL f k (n + 1)).length (nfl (levL f k (n + 1))) := by
  rw [levL_len, levL_succ, nfl_app]
  have e : nfl [T.nd f k n] = bsL 8 (T.nd f k n) := by simp [nfl]
  rw [e]; exact h
set_option maxRecDepth 5000 in
theorem pow_le10 (h : Nat) (hh : h ≤ 10) : 2 ^ h ≤ 1024 := Nat.pow_le_pow_right (n := 2) (by omega) hh
set_option maxRecDepth 3000 in
set_option maxHeartbeats 1000000 in
theorem leafNodes_any (f : Nat → BitVec 8) (h : Nat) (w : World) (hh : h ≤ 10) (hT : Tab w) :
    Calls Tryd.prog 24 #[.agg (rowB 8 f), .int .i64 (h : Int)] w fun e w' => ∃ v, e = .returned v ∧ SlN 58 w' v (levL f 0 (2 ^ h)) ∧ Below w.heap.size w w' := by
  obtain ⟨i0, hi, hz0, hz1, hz2⟩ := infoN
  have hT0 := hT.1
  have hI0 := QInv.first f w
  have hlt0 := hI0.lt
  obtain ⟨N, hN⟩ : ∃ N, 2 ^ h = N := ⟨_, rfl⟩
  have hN1 := pow_le10 h hh
  have hN0 : 0 < 2 ^ h := Nat.pow_pos (by omega)
  have HC : Hid (∀ W : World, Calls Tryd.prog 26 #[.int .i64 (h : Int)] W fun e w' => e = .returned (.int .u32 (N : Int)) ∧ w' = W) := by
    intro W; rw [← hN]; exact leafCount_any h W hh
  rw [hN] at hN1 hN0 ⊢
  clear hN
  go_enter Tryd.func24, Tryd.ntmps24
  go_wp2_with (first
    | (go_at_call 26; refine (HC.out _).mono ?_; rintro e w' ⟨rfl, hw'⟩; rw [hw']; clear hw' w')
    | (at_make; go_must (refine wpList_make_own _ rfl (.const (.int .i64 0)) (.tmp 8) 54 rfl (w.heap.size + 1) 58 i0 (.agg z8) 8 Tryd.underlying54 hi hz0 hz1 .i64 .u32 (N : Int) N rfl rfl rfl (by rw [hz2]; omega) (by unfold maxLen; omega) (by simp) ?_); intro w1 hO1 hG1; go_must (have hb1 := (Below.refl (w.heap.size + 1) _).grown hG1 (by simp) (fun k hk => by cases hk); have HO1 : Hid (w1.ownsRow (w.heap.size + 1) 58 8 (.slice (some ⟨w.heap.size + 1, 0, none⟩) 0 N) (levL f 0 0).length (nfl (levL f 0 0))) := (by simpa [levL, nfl, Hid] using hO1)); clear hG1 hO1))
  have hI1 : QInv f w w1 := hI0.next hb1
  clear hb1 hI0
  go_loopw [5, 12] (fun v i wr => ∃ k : Nat, k ≤ N ∧ i = .int .u32 (k : Int) ∧ Hid (wr.ownsRow (w.heap.size + 1) 58 8 v (levL f 0 k).length (nfl (levL f 0 k))) ∧ QInv f w wr) (fun _ i _ => N - (intOf i).toNat)
  case atStart => exact ⟨0, by omega, rfl, HO1, hI1⟩
  case round =>
    clear HO1 hI1 hlt0
    obtain ⟨k, hk, rfl, HO, hI⟩ := hrel
    have hlt1 := hI.lt
    by_cases hlt : k < N
    · have hT2 := hT.below hI.below hT0
      have q1 : decide ((k : Int) < (N : Int)) = true := by simpa using hlt
      have hkk : IntKind.u32.wrap ((k : Int) + 1) = ((k + 1 : Nat) : Int) := by rw [IntKind.wrap_u32]; omega
      go_wp2_with (refine wpList_load_rowAt rfl 22 (.tmp 2) rfl w.heap.size rfl 22 _ _ (by exact hI.seed) Tryd.underlying22 rfl (by rw [rowB_size]; exact info28) ?_)
      refine (public_any f k _ (by omega) (by exact hT2)).mono ?_
      rintro e w2 ⟨rfl, hB2⟩
      have hI2 := hI.next (hB2.mono hlt1)
      have HO2 := hide (owns_below HO.out hB2)
      have hlt2 := hI2.lt
      clear hB2 hI HO hT2
      go_wp2_with (first
        | (refine wpList_build8 rfl 54 58 (.tmp 18) rfl (O.pub f k) rfl Tryd.underlying54 infoN ?_)
        | (at_builtin; refine wpList_append1 rfl (.tmp 15) (.tmp 19) 54 58 rfl (.agg z8) 8 8 Tryd.underlying54 infoN rfl (by omega) (w.heap.size + 1) _ (levL f 0 k).length (nfl (levL f 0 k)) rfl (by exact World.ownsRow.alloc HO2.out _) w2.heap.size 58 (bsL 8 (O.pub f k)) rfl (by exact RowAt.new w2 58 (rowB 8 (O.pub f k))) (bsL_len _ _) (bsL_one8 _) (by rw [levL_len]; omega) (by omega) (by simp; omega) ?_; intro v3 w3 ho3 hG3; have hI3 := (hI2.next ((Below.refl _ _).alloc hlt2 _)).next (owns_grown (World.ownsRow.alloc HO2.out _) hG3 (Below.refl _ _) (by simp; omega)); have HO3 := hide ho3; clear ho3 hG3))
      refine ⟨⟨k + 1, by omega, by go_num, ?_, hI3⟩, by simp [intOf]; omega⟩
      have h3 := HO3.out
      rw [levL_len] at h3
      exact own_next h3
    · obtain rfl : k = N := by omega
      have q1 : decide ((k : Int) < (k : Int)) = false := by simp
      have HB := hide hI.below
      have HS : Hid (SlN 58 wr _ (levL f 0 k)) := SlN.own HO.out (by rw [levL_len]; exact hN0)
      clear HO hI
      go_wp2
      go_ret
      exact ⟨_, rfl, HS.out, HB.out⟩
end Go.Proofs.YtpiehjfoojipiaaDoor
