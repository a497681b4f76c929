/- The law MeterRanks. -/
import Derived.Test.YtmkpihagfbohdaaRk1
import Derived.Test.YtmkpihagfbohdaaKnw
import Derived.Test.YtmkpihagfbohdaaMns
namespace Go.Proofs.Ytmkpihagfbohdaa
open Go.RowKit
namespace F
set_option maxRecDepth 5000 in
theorem fp_ok {p : Nat} (hp : p < 256) : floatBits .quo .f64 (floatOfInt .f64 (p : Int)) 4643176031446892544 = some (fp p) := by
  obtain ⟨m, i, hr, _⟩ := (is_int (p : Int) (by omega)).reads (by omega)
  obtain ⟨n, j, hd, hn⟩ : ∃ n j, FloatKind.f64.format.read 4643176031446892544 = .number false n j ∧ n ≠ 0 := ⟨_, _, rfl, by decide⟩
  have : ∃ r, floatBits .quo .f64 (floatOfInt .f64 (p : Int)) 4643176031446892544 = some r := by
    show ∃ r, ((FloatKind.f64.format.read _).quotient _ (FloatKind.f64.format.read 4643176031446892544)).map _ = some r
    rw [hr, hd]
    unfold Ieee.Datum.quotient
    simp only [if_neg hn]
    exact ⟨_, rfl⟩
  obtain ⟨r, h⟩ := this
  rw [h]
  unfold fp
  rw [ar_some h]
set_option maxRecDepth 5000 in
theorem rank_nil (q : Nat) : rank [] q = 9221120237041090561 := by unfold rank; rw [if_pos (show (nums []).length = 0 from rfl)]
set_option maxRecDepth 5000 in
theorem r_nn : (FloatKind.f64.format.order 9221120237041090561 9221120237041090561 != some .eq) = true := by kernel_rfl
/- the least and the greatest so far -/
def Ext (m : List Nat) (j a b : Nat) : Prop := a ∈ m ∧ b ∈ m ∧ ∀ i, i < j → okey a ≤ okey (m.getD i 0) ∧ okey (m.getD i 0) ≤ okey b
set_option maxRecDepth 5000 in
theorem ext_next {m : List Nat} {j a b y a' b' : Nat} (h : Ext m j a b) (hy : m.getD j 0 = y) (hm : y ∈ m) (ha : (cmp y a < 0 ∧ a' = y) ∨ (¬ cmp y a < 0 ∧ a' = a)) (hb : (0 < cmp y b ∧ b' = y) ∨ (¬ 0 < cmp y b ∧ b' = b)) : Ext m (j + 1) a' b' := by
  obtain ⟨h1, h2, h3⟩ := h
  have ca : okey a' ≤ okey y ∧ okey a' ≤ okey a ∧ a' ∈ m := by
    rcases ha with ⟨h, rfl⟩ | ⟨h, rfl⟩
    · rcases cmp_three a' a with ⟨_, k⟩ | ⟨e, _⟩ | ⟨e, _⟩
      · exact ⟨Int.le_refl _, by omega, hm⟩
      · rw [e] at h; omega
      · rw [e] at h; omega
    · rcases cmp_three y a' with ⟨e, _⟩ | ⟨_, k⟩ | ⟨_, k⟩
      · rw [e] at h; omega
      · exact ⟨by omega, Int.le_refl _, h1⟩
      · exact ⟨by omega, Int.le_refl _, h1⟩
  have cb : okey y ≤ okey b' ∧ okey b ≤ okey b' ∧ b' ∈ m := by
    rcases hb with ⟨h, rfl⟩ | ⟨h, rfl⟩
    · rcases cmp_three b' b with ⟨e, _⟩ | ⟨e, _⟩ | ⟨_, k⟩
      · rw [e] at h; omega
      · rw [e] at h; omega
      · exact ⟨Int.le_refl _, by omega, hm⟩
    · rcases cmp_three y b' with ⟨_, k⟩ | ⟨_, k⟩ | ⟨e, _⟩
      · exact ⟨by omega, Int.le_refl _, h2⟩
      · exact ⟨by omega, Int.le_refl _, h2⟩
      · rw [e] at h; omega
  refine ⟨ca.2.2, cb.2.2, fun i hi => ?_⟩
  by_cases e : i = j
  · rw [e, hy]; exact ⟨ca.1, cb.1⟩
  · have := h3 i (by omega)
    omega
set_option maxRecDepth 5000 in
theorem ext_all {m : List Nat} {a b : Nat} (h : Ext m m.length a b) : (∀ x ∈ m, okey a ≤ okey x) ∧ (∀ x ∈ m, okey x ≤ okey b) := by
  constructor
  · intro x hx
    obtain ⟨i, hi, e⟩ := List.getElem_of_mem hx
    have := (h.2.2 i hi).1
    rw [show m.getD i 0 = m[i] by simp [hi], e] at this; exact this
  · intro x hx
    obtain ⟨i, hi, e⟩ := List.getElem_of_mem hx
    have := (h.2.2 i hi).2
    rw [show m.getD i 0 = m[i] by simp [hi], e] at this; exact this
def there (m : List Nat) (j A : Nat) : Bool := (m.take j).any fun y => (norm y : Int) == (norm A : Int)
set_option maxRecDepth 5000 in
theorem there_next {m : List Nat} {j A : Nat} (hj : j < m.length) : there m (j + 1) A = (there m j A || ((norm (m.getD j 0) : Int) == (norm A : Int))) := by
  unfold there; rw [take_snoc m j hj, List.any_append]; simp
set_option maxRecDepth 5000 in
theorem there_end {m : List Nat} {A : Nat} (h : A ∈ m) : there m m.length A = true := by
  unfold there; rw [List.take_length, List.any_eq_true]; exact ⟨A, h, by simp⟩
end F
set_option maxHeartbeats 4000000 in
set_option maxRecDepth 5000 in
theorem ranks_walk (l : List Nat) (p q : Nat) (ao : Option Addr) (n cap : Nat) (hp : p < 256) (hq : q < 256) (hsm : Small l) (w : World) (hl : Hid (l.length = n)) (hs : SlU w ao l) :
    Calls Try.prog 6 #[.slice ao n cap, .int .u8 (p : Int), .int .u8 (q : Int)] w fun e w' => e = .returned (.bool true) ∧ Below w.heap.size w w' := by
  have hn := hnot
  have hK := known_any w
  have HS := hide hs
  clear hs
  by_cases hn1 : 100 < n
  · have hn2 : (100 : Int) < (n : Int) := by omega
    go_enter Try.func6, Try.ntmps6
    go_wp2_with (go_at_call 9; refine hK.mono ?_; rintro e w1 ⟨rfl, hB⟩)
    go_ret
    exact ⟨rfl, hB⟩
  · have hn2 : ¬ (100 : Int) < (n : Int) := by omega
    go_enter Try.func6, Try.ntmps6
    go_wp2_with (go_at_call 9; refine hK.mono ?_; rintro e w1 ⟨rfl, hB1⟩; clear hK)
    go_loopw [8, 7] (fun i v wr => ∃ (j : Nat), i = .int .i64 (j : Int) ∧ j ≤ n ∧ OwnF wr w.heap.size v (F.nums (l.take j)) ∧ Below w.heap.size w wr) (fun i _ _ => n - (intOf i).toNat)
    case atStart => exact ⟨0, rfl, by omega, OwnF.nil _ _, hB1⟩
    case round =>
      clear hB1
      obtain ⟨j, rfl, hj, hO, hB⟩ := hrel
      have hz := hB.size
      have HO := hide hO
      clear hO
      by_cases hlt : j < n
      · have hjl : j < l.length := by have := hl.out; omega
        obtain ⟨b, o, rfl, hblt, hc⟩ := (HS.out.below hB (Nat.le_refl _)) (by omega)
        have hcj := hc j hjl
        clear hc
        have hlen : (F.nums (l.take j)).length ≤ 1000 := by
          have h := List.length_filter_le (fun x => !F.nan x) (l.take j)
          rw [List.length_take] at h
          unfold F.nums; have := hl.out; omega
        have hself := F.eql_self (l.getD j 0)
        cases hnx : F.nan (l.getD j 0)
        · have HN := hide (F.nums_snoc l j hjl hnx)
          rw [hnx] at hself
          generalize l.getD j 0 = x at *
          generalize F.nums (l.take j) = m at *
          go_wp2_with (first | (go_at_call 11; refine (at_any _ _).mono ?_; rintro e w' ⟨rfl, hw⟩; rw [hw, Int.toNat_natCast]; clear hw w') | (at_builtin; refine wpList_append_F rfl (.tmp 37) (.tmp 39) rfl w.heap.size _ m rfl (by exact HO.out.alloc _) _ _ _ [x] rfl rfl (SlF.one _ _ _) (by simp) (by simp at hlen ⊢; omega) (by simp; omega) ?_; intro v4 w4 hO4 hG4; have hB4 := grown_belowF (HO.out.alloc _) hG4 (hB.alloc hz _) (by simp; omega); clear hG4))
          go_roundw
          case rel => exact ⟨j + 1, by go_num, by omega, by rw [HN.out]; exact hO4, hB4⟩
          case measure => simp [intOf]; omega
        · have HN := hide (F.nums_skip l j hjl hnx)
          rw [hnx] at hself
          generalize l.getD j 0 = x at *
          generalize F.nums (l.take j) = m at *
          go_wp2_with (go_at_call 11; refine (at_any _ _).mono ?_; rintro e w' ⟨rfl, hw⟩; rw [hw, Int.toNat_natCast]; clear hw w')
          go_roundw
          case rel => exact ⟨j + 1, by go_num, by omega, by rw [HN.out]; exact HO.out, hB⟩
          case measure => simp [intOf]; omega
      · obtain rfl : j = n := by omega
        have hT : l.take j = l := List.take_of_length_le (by rw [hl.out]; exact Nat.le_refl _)
        rw [hT] at HO
        have hms : Small (F.nums l) := F.nums_small hsm
        have hmn : ∀ x ∈ F.nums l, F.nan x = false := fun x hx => F.nums_num hx
        have hml : (F.nums l).length ≤ 100 := by
          have h := List.length_filter_le (fun x => !F.nan x) l
          unfold F.nums; have := hl.out; omega
        generalize F.nums l = m at *
        clear hT
        by_cases h0 : m.length = 0
        · obtain rfl : m = [] := List.eq_nil_of_length_eq_zero h0
          obtain ⟨a2, c2, rfl, hS2, ha2⟩ := HO.out.open2
          have hR := rank_any [] 4602678819172646912 a2 0 c2 wr (hide rfl) hS2 ha2 hms (by decide) (by decide)
          rw [F.rank_nil] at hR
          have hnn := F.r_nn
          clear hS2
          go_wp2_with (go_at_call 19; refine hR.mono ?_; rintro e w5 ⟨rfl, hb5⟩; have hB5 := hB.trans (hb5.mono hB.size); clear hR hb5)
          go_ret
          exact ⟨rfl, hB5⟩
        · have h0' : 0 < m.length := by omega
          obtain ⟨g, C, rfl, hg, hLC, hC, hgl, hcc⟩ := HO.out.form h0'
          have hSm : SlF wr (some ⟨g, 0, none⟩) m := HO.out.sl
          have hm0 : m.getD 0 0 ∈ m := by
            have : m.getD 0 0 = m[0] := by simp [h0']
            rw [this]; exact List.getElem_mem h0'
          have hget : ∀ i, i < m.length → m.getD i 0 ∈ m := fun i hi => by
            have : m.getD i 0 = m[i] := by simp [hi]
            rw [this]; exact List.getElem_mem hi
          have hc0 := hcc 0 h0'
          have HE0 : Hid (F.Ext m 0 (m.getD 0 0) (m.getD 0 0)) := hide ⟨hm0, hm0, fun i hi => by omega⟩
          have HG := hide hget
          have HM := hide hms
          have HNN := hide hmn
          have HSm := hide hSm
          have hL : Hid (m.length = m.length) := hide rfl
          clear hget hms hmn hSm hcc HO
          generalize hLe : m.length = L at *
          replace hLe := hide hLe
          have hLi : (0 : Int) < (L : Int) := by omega
          have e0 : ((L : Int) == 0) = false := by simp; omega
          have x0 := HM.out _ hm0
          generalize m.getD 0 0 = y0 at *
          go_wp2
          go_quiet (fail)
          go_wp2
          have hSW : SlF (wr.drewN nq) (some ⟨g, 0, none⟩) m := HSm.out
          have hBW := below_drewN hB nq
          clear HSm hB hc0 hz
          generalize wr.drewN nq = W at *
          have HSW := hide hSW
          clear hSW
          go_loopw [13, 11, 12] (fun i lv hv wx => ∃ (k a b : Nat), i = .int .i64 (k : Int) ∧ k ≤ L ∧ lv = .float .f64 a ∧ hv = .float .f64 b ∧ Hid (F.Ext m k a b) ∧ wx = W) (fun i _ _ _ => L - (intOf i).toNat)
          case atStart => exact ⟨0, y0, y0, rfl, by omega, rfl, rfl, HE0, rfl⟩
          case round =>
            obtain ⟨k, a, b, rfl, hk, rfl, rfl, HE, rfl⟩ := hrel
            have xa := HM.out _ HE.out.1
            have xb := HM.out _ HE.out.2.1
            by_cases hkl : k < L
            · obtain ⟨_, _, e, _, hcc⟩ := HSW.out (by have := hLe.out; omega)
              cases e
              have hck := hcc k (by have := hLe.out; omega)
              rw [Nat.zero_add] at hck
              have hym := HG.out k hkl
              have hy := HM.out _ hym
              have HY : Hid (m.getD k 0 = m.getD k 0) := hide rfl
              generalize hgy : m.getD k 0 = y at *
              replace hgy := hide hgy
              clear hcc
              have HY : Hid (m.getD k 0 = y) := hgy
              by_cases ga : F.cmp y a < 0
              · by_cases gb : 0 < F.cmp y b
                · have HE2 : Hid (F.Ext m (k + 1) y y) := hide (F.ext_next HE.out HY.out hym (Or.inl ⟨ga, rfl⟩) (Or.inl ⟨gb, rfl⟩))
                  generalize hZa : F.cmp y a = Za at ga
                  generalize hZb : F.cmp y b = Zb at gb
                  go_wp2_with (go_at_call 12; refine (rorder_any _ _ (by assumption) (by assumption) _).mono ?_; rintro e w' ⟨rfl, hw⟩; rw [hw]; clear hw w'; first | rw [hZa] | rw [hZb])
                  go_roundw
                  case rel => exact ⟨k + 1, y, y, by go_num, by omega, rfl, rfl, HE2, trivial⟩
                  case measure => simp [intOf]; omega
                · have HE2 : Hid (F.Ext m (k + 1) y b) := hide (F.ext_next HE.out HY.out hym (Or.inl ⟨ga, rfl⟩) (Or.inr ⟨gb, rfl⟩))
                  generalize hZa : F.cmp y a = Za at ga
                  generalize hZb : F.cmp y b = Zb at gb
                  go_wp2_with (go_at_call 12; refine (rorder_any _ _ (by assumption) (by assumption) _).mono ?_; rintro e w' ⟨rfl, hw⟩; rw [hw]; clear hw w'; first | rw [hZa] | rw [hZb])
                  go_roundw
                  case rel => exact ⟨k + 1, y, b, by go_num, by omega, rfl, rfl, HE2, trivial⟩
                  case measure => simp [intOf]; omega
              · by_cases gb : 0 < F.cmp y b
                · have HE2 : Hid (F.Ext m (k + 1) a y) := hide (F.ext_next HE.out HY.out hym (Or.inr ⟨ga, rfl⟩) (Or.inl ⟨gb, rfl⟩))
                  generalize hZa : F.cmp y a = Za at ga
                  generalize hZb : F.cmp y b = Zb at gb
                  go_wp2_with (go_at_call 12; refine (rorder_any _ _ (by assumption) (by assumption) _).mono ?_; rintro e w' ⟨rfl, hw⟩; rw [hw]; clear hw w'; first | rw [hZa] | rw [hZb])
                  go_roundw
                  case rel => exact ⟨k + 1, a, y, by go_num, by omega, rfl, rfl, HE2, trivial⟩
                  case measure => simp [intOf]; omega
                · have HE2 : Hid (F.Ext m (k + 1) a b) := hide (F.ext_next HE.out HY.out hym (Or.inr ⟨ga, rfl⟩) (Or.inr ⟨gb, rfl⟩))
                  generalize hZa : F.cmp y a = Za at ga
                  generalize hZb : F.cmp y b = Zb at gb
                  go_wp2_with (go_at_call 12; refine (rorder_any _ _ (by assumption) (by assumption) _).mono ?_; rintro e w' ⟨rfl, hw⟩; rw [hw]; clear hw w'; first | rw [hZa] | rw [hZb])
                  go_roundw
                  case rel => exact ⟨k + 1, a, b, by go_num, by omega, rfl, rfl, HE2, trivial⟩
                  case measure => simp [intOf]; omega
            · obtain rfl : L = k := by omega
              have hEx := F.ext_all (by rw [hLe.out]; exact HE.out)
              have hpos : 0 < m.length := by have := hLe.out; omega
              have h100 : m.length ≤ 100 := by have := hLe.out; omega
              have HLs : Hid (F.rank m 0 = a) := hide (F.rank_least HM.out HNN.out hpos (by omega) HE.out.1 hEx.1)
              have HMo : Hid (F.rank m 4607182418800017408 = b) := hide (F.rank_most HM.out HNN.out hpos HE.out.2.1 hEx.2)
              have hmA := F.rank_mem HNN.out hpos (F.fp p)
              have hmB := F.rank_mem HNN.out hpos (F.fp q)
              have hxA := HM.out _ hmA
              have hxB := HM.out _ hmB
              have HT : Hid (F.there m L (F.rank m (F.fp p)) = true) := hide (by rw [← hLe.out]; exact F.there_end hmA)
              have hmono : p ≤ q → F.cmp (F.rank m (F.fp p)) (F.rank m (F.fp q)) ≤ 0 := fun h => F.rank_mono HNN.out hpos h100 h (by omega)
              have hRk : ∀ (z : Nat), z < 2 ^ 64 → ∀ W' : World, SlF W' (some ⟨g, 0, none⟩) m → Calls Try.prog 19 #[.slice (some ⟨g, 0, none⟩) L C, .float .f64 z] W' fun e w' => e = .returned (.float .f64 (F.rank m z)) ∧ Below W'.heap.size W' w' := fun z hz W' hS => rank_any m z (some ⟨g, 0, none⟩) L C W' hLe hS (Or.inr ⟨_, _, rfl⟩) HM.out hz (by omega)
              have r1 : ∀ (t : TypeId) (W : World), (binOp .quo t (.float .f64 (floatOfInt .f64 (p : Int))) (.float .f64 4643176031446892544)).run Try.prog W = .ok (.float .f64 (F.fp p)) W := fun t W => run_float_arith W .quo t .f64 _ _ _ (F.fp_ok hp)
              have r2 : ∀ (t : TypeId) (W : World), (binOp .quo t (.float .f64 (floatOfInt .f64 (q : Int))) (.float .f64 4643176031446892544)).run Try.prog W = .ok (.float .f64 (F.fp q)) W := fun t W => run_float_arith W .quo t .f64 _ _ _ (F.fp_ok hq)
              have fa := F.fp_lt p
              have fb := F.fp_lt q
              have R1 := hRk (F.fp p) fa
              have R2 := hRk (F.fp q) fb
              have R3 := hRk 0 (by decide)
              have R4 := hRk 4607182418800017408 (by decide)
              rw [HLs.out] at R3
              rw [HMo.out] at R4
              clear hRk HLs HMo hmA hmB fa fb hEx HE HM HNN HG
              generalize F.fp p = pa at *
              generalize F.fp q = pb at *
              generalize hRA : F.rank m pa = A at *
              generalize hRB : F.rank m pb = B at *
              clear hRA hRB
              have sA : ∀ (z : Nat) (W : World), Calls Try.prog 16 #[.float .f64 z, .float .f64 z] W fun e w' => e = .returned (.bool true) ∧ w' = W := fun z W => by
                have h := same_any z z W
                rw [show ((F.norm z : Int) == (F.norm z : Int)) = true by simp] at h; exact h
              have hT0 : True := trivial
              go_wp2_with (first | (go_at_call 19; have hk := hT0; clear hk hT0; refine (R1 _ HSW.out).mono ?_; rintro e w5 ⟨rfl, hb5⟩; have S5 := hide (HSW.out.below hb5 (Nat.le_refl _)); have hB5 := hBW.trans (hb5.mono hBW.size); clear hb5 R1; have hT1 : True := trivial) | (go_at_call 19; have hk := hT1; clear hk hT1; refine (R2 _ S5.out).mono ?_; rintro e w6 ⟨rfl, hb6⟩; have S6 := hide (S5.out.below hb6 (Nat.le_refl _)); have hB6 := hB5.trans (hb6.mono hB5.size); clear hb6 R2 S5 hB5))
              go_loopw [17, 16] (fun i tv wx => ∃ (k : Nat) (t : Bool), i = .int .i64 (k : Int) ∧ k ≤ L ∧ tv = .bool t ∧ Hid (F.there m k A = t) ∧ wx = w6) (fun i _ _ => L - (intOf i).toNat)
              case atStart => exact ⟨0, false, rfl, by omega, rfl, hide rfl, rfl⟩
              case round =>
                obtain ⟨k, t, rfl, hk, rfl, Ht, rfl⟩ := hrel
                by_cases hkl : k < L
                · obtain ⟨_, _, e, _, hcc⟩ := S6.out (by have := hLe.out; omega)
                  cases e
                  have hck := hcc k (by have := hLe.out; omega)
                  rw [Nat.zero_add] at hck
                  clear hcc
                  have HN := hide (F.there_next (m := m) (j := k) (A := A) (by have := hLe.out; omega))
                  generalize m.getD k 0 = y at *
                  cases t
                  · have HN2 : Hid (F.there m (k + 1) A = ((F.norm y : Int) == (F.norm A : Int))) := hide (by rw [HN.out, Ht.out, Bool.false_or])
                    go_wp2_with (go_at_call 16; refine (same_any _ _ _).mono ?_; rintro e w' ⟨rfl, hw⟩; rw [hw]; clear hw w')
                    go_roundw
                    case rel => exact ⟨k + 1, _, by go_num, by omega, rfl, HN2, trivial⟩
                    case measure => simp [intOf]; omega
                  · have HN2 : Hid (F.there m (k + 1) A = true) := hide (by rw [HN.out, Ht.out, Bool.true_or])
                    go_wp2
                    go_roundw
                    case rel => exact ⟨k + 1, true, by go_num, by omega, rfl, HN2, trivial⟩
                    case measure => simp [intOf]; omega
                · obtain rfl : L = k := by omega
                  have : t = true := by rw [← Ht.out]; exact HT.out
                  subst this
                  have hT3 : True := trivial
                  by_cases hpq : p ≤ q
                  · obtain ⟨Z, hZ, hZ0⟩ : ∃ Z, F.cmp A B = Z ∧ Z ≤ 0 := ⟨_, rfl, hmono hpq⟩
                    have hpq1 : ¬ (q : Int) < (p : Int) := by omega
                    go_wp2_with (first | (go_at_call 19; have hk := hT3; clear hk hT3; refine (R3 _ S6.out).mono ?_; rintro e w7 ⟨rfl, hb7⟩; have S7 := hide (S6.out.below hb7 (Nat.le_refl _)); have hB7 := hB6.trans (hb7.mono hB6.size); clear hb7 R3; have hT4 : True := trivial) | (go_at_call 19; have hk := hT4; clear hk hT4; refine (R4 _ S7.out).mono ?_; rintro e w8 ⟨rfl, hb8⟩; have hB8 := hB7.trans (hb8.mono hB7.size); clear hb8 R4 S7 hB7) | (go_at_call 16; refine (sA _ _).mono ?_; rintro e w' ⟨rfl, hw⟩; rw [hw]; clear hw w') | (go_at_call 10; refine (order_any _ _ hxA hxB _).mono ?_; rintro e w' ⟨rfl, hw⟩; rw [hw, hZ]; clear hw w'))
                    go_ret
                    exact ⟨by simp_all, hB8⟩
                  · have hpq1 : (q : Int) < (p : Int) := by omega
                    obtain ⟨Z, hZ⟩ : ∃ Z, F.cmp A B = Z := ⟨_, rfl⟩
                    go_wp2_with (first | (go_at_call 19; have hk := hT3; clear hk hT3; refine (R3 _ S6.out).mono ?_; rintro e w7 ⟨rfl, hb7⟩; have S7 := hide (S6.out.below hb7 (Nat.le_refl _)); have hB7 := hB6.trans (hb7.mono hB6.size); clear hb7 R3; have hT4 : True := trivial) | (go_at_call 19; have hk := hT4; clear hk hT4; refine (R4 _ S7.out).mono ?_; rintro e w8 ⟨rfl, hb8⟩; have hB8 := hB7.trans (hb8.mono hB7.size); clear hb8 R4 S7 hB7) | (go_at_call 16; refine (sA _ _).mono ?_; rintro e w' ⟨rfl, hw⟩; rw [hw]; clear hw w') | (go_at_call 10; refine (order_any _ _ hxA hxB _).mono ?_; rintro e w' ⟨rfl, hw⟩; rw [hw, hZ]; clear hw w'))
                    go_ret
                    exact ⟨by simp_all, hB8⟩
end Go.Proofs.Ytmkpihagfbohdaa
