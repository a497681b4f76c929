/- Lists of records joined; the law's size and light; acts that came in. -/
import Derived.Test.YtidocfajhhpfdaaDoorJbt
namespace Go.Proofs.YtidocfajhhpfdaaDoor
open Go.RowKit
set_option maxRecDepth 5000 in
theorem wpList_append_Bs {w : World} {ops : Array Oper} {rest : List Oper} {o : Oper} {a : Act} {Q : Exit → Act → World → Prop} (hgd : o.guard = none) (s x : Operand)
    (ho : o.op = .call { callee := .builtin .append, args := #[s, x], argTypes := #[32, 32] }) (base : Nat) (v : Value) (L : List (List UInt8)) (hs : a.eval s = v) (hown : OwnBs w base v L)
    (ao : Option Addr) (m c B : Nat) (L2 : List (List UInt8)) (hx : a.eval x = .slice ao m c) (hm : L2.length = m) (hsrc : OwnBs w B (.slice ao m c) L2) (hbound : L.length + m ≤ 1000000000) (hbase : base ≤ w.heap.size)
    (h : ∀ v' w', OwnBs w' base v' (L ++ L2) → w.grownBy w' v.ownBlock → KB w w' → Below base w w' → wpList Tryd.prog ops Q rest (a.put o.dst v') w') : wpList Tryd.prog ops Q (o :: rest) a w := by
  obtain ⟨i0, hi, hz0, hz1, hz2⟩ := info_parts infoBs2
  obtain ⟨vs, hvl, hV, hE⟩ := hown.own
  obtain ⟨vs2, hvl2, hV2, hE2⟩ := hsrc.own
  subst hm
  rcases hV2.2 with ⟨e, e2⟩ | ⟨g, cap, cur, e, h3, h4, h5, h6, h7, h8⟩
  · injection e with e1 _ e3
    subst e1
    subst e3
    obtain rfl : L2 = [] := List.eq_nil_of_length_eq_zero e2
    refine wpList_append_own_none hgd s x 32 ho base 22 i0 1 Tryd.underlying32 hi v L.length vs hs hV hx ?_
    exact h v w (by rw [List.append_nil]; exact hown) ⟨rfl, rfl, rfl, Nat.le_refl _, fun _ _ _ => rfl⟩ (KB.refl _) (Below.refl _ _)
  · injection e with e1 _ e3
    subst e1
    refine wpList_append_own w hgd s x 32 ho base 22 i0 (.slice none 0 0) 1 24 Tryd.underlying32 hi hz0 hz1 hz2 rfl (by decide) v L.length vs hs hV ⟨g, 0, none⟩ L2.length c vs2 hx (by omega) ?_ ?_ (by unfold maxLen; omega) (by omega) hbase ?_
    · intro j u hu
      have hj : j < L2.length := by have := (List.getElem?_eq_some_iff.1 hu).1; omega
      rw [Addr.add_mid, Nat.zero_add, cell_of_row _ _ _ _ _ _ h4]
      rw [← h8, List.getElem?_take_of_lt (by omega)] at hu
      simpa using hu
    · intro u hu
      obtain ⟨j, hj, rfl⟩ := List.getElem_of_mem hu
      obtain ⟨a', c', h9, _⟩ := hE2 j (by omega)
      have h10 : vs2[j]? = some vs2[j] := List.getElem?_eq_getElem hj
      have h9' : vs2[j]? = _ := h9
      rw [h10] at h9'
      injection h9' with h9'
      rw [h9']; rfl
    · intro v' w' h1 h2 _
      have hk := owns_kb hV h2
      refine h v' w' ⟨vs ++ vs2, by rw [List.length_append]; exact h1, each_app (hE.kb hk) hvl (hE2.kb hk)⟩ h2 hk ?_
      exact owns_below hV h2 (Below.refl _ _) hbase
/- what the law counts of records -/
def J.sz2 (L : List (List UInt8)) : Nat := (L.map fun r => r.length + 16).sum
set_option maxRecDepth 5000 in
theorem J.sz2_snoc (l : List (List UInt8)) (r : List UInt8) : J.sz2 (l ++ [r]) = J.sz2 l + (r.length + 16) := by simp [J.sz2]
set_option maxRecDepth 5000 in
theorem J.sz2_take (L : List (List UInt8)) (k : Nat) : J.sz2 (L.take k) ≤ J.sz2 L := by
  have h := congrArg J.sz2 (List.take_append_drop k L)
  have e : ∀ a b, J.sz2 (a ++ b) = J.sz2 a + J.sz2 b := fun a b => by simp [J.sz2]
  rw [e] at h; omega
set_option maxRecDepth 5000 in
theorem J.fsz_sz2 : ∀ L : List (List UInt8), J.fsz L ≤ J.sz2 L
  | [] => by simp [J.fsz, J.sz2]
  | r :: L => by
    have := J.fsz_sz2 L
    simp only [J.fsz, J.sz2, List.map_cons, List.sum_cons] at this ⊢
    split <;> omega
set_option maxRecDepth 5000 in
theorem J.sz2_len : ∀ L : List (List UInt8), 16 * L.length ≤ J.sz2 L
  | [] => by simp
  | r :: L => by
    have := J.sz2_len L
    simp only [J.sz2, List.map_cons, List.sum_cons, List.length_cons] at this ⊢
    omega
set_option maxRecDepth 5000 in
theorem J.sz2_bound (m : Nat) : ∀ R : List (List UInt8), (∀ k, k < R.length → (R.getD k []).length ≤ m) → J.sz2 R ≤ R.length * (m + 16)
  | [], _ => by simp [J.sz2]
  | r :: R, h => by
    have h0 := h 0 (by simp)
    have ih := J.sz2_bound m R (fun k hk => by have := h (k + 1) (by simp; omega); simpa using this)
    have e : J.sz2 (r :: R) = (r.length + 16) + J.sz2 R := by simp [J.sz2]
    rw [e, List.length_cons, Nat.succ_mul]
    have h1 : r.length ≤ m := by simpa using h0
    omega
set_option maxRecDepth 5000 in
theorem size_any2 (w : World) (ao : Option Addr) (c : Nat) (L : List (List UInt8)) (hl : J.sz2 L ≤ 1000000000) (hs : SlBs w ao L) :
    Calls Tryd.prog 20 #[.slice ao L.length c] w fun e w' => e = .returned (.int .i64 (J.sz2 L : Int)) ∧ w' = w := by
  have HS := hide hs
  have hll := J.sz2_len L
  clear hs
  go_enter Tryd.func20, Tryd.ntmps20
  go_wp2
  go_loopw [3, 4] (fun q i wr => wr = w ∧ ∃ k : Nat, k ≤ L.length ∧ i = .int .i64 (k : Int) ∧ q = .int .i64 (J.sz2 (L.take k) : Int)) (fun q i wr => L.length - (intOf i).toNat)
  case atStart => exact ⟨rfl, 0, by omega, rfl, rfl⟩
  case round =>
    obtain ⟨hw, k, hk, rfl, rfl⟩ := hrel
    rw [hw]
    clear hw
    by_cases hlt : k < L.length
    · obtain ⟨b, o, rfl, hb, hc⟩ := HS.out (by omega)
      obtain ⟨a, c2, c1, _, _⟩ := hc k hlt
      have hlt' : (k : Int) < (L.length : Int) := by omega
      have E := hide (J.sz2_snoc (L.take k) (L.getD k []))
      rw [← take_snoc L k hlt] at E
      have hb1 := J.sz2_take L (k + 1)
      rw [E.out] at hb1
      generalize J.sz2 (L.take k) = q at E hb1
      generalize (L.getD k []).length = n at E hb1 c1
      have e1 : IntKind.i64.wrap ((n : Int) + 16) = (n : Int) + 16 := by rw [IntKind.wrap_i64]; omega
      clear hc
      go_wp2
      go_roundw
      case rel => exact ⟨trivial, k + 1, by omega, by go_num, by rw [E.out]; go_num⟩
      case measure => simp [intOf]; omega
    · have hlt' : ¬ (k : Int) < (L.length : Int) := by omega
      rw [List.take_of_length_le (by omega)]
      go_wp2
      go_ret
      exact ⟨rfl, rfl⟩
/- acts that came in -/
def AcL (w : World) (ao : Option Addr) (A : List (Int × List UInt8)) : Prop := 0 < A.length → ∃ b o, ao = some ⟨b, o, none⟩ ∧ b < w.heap.size ∧ ∀ i, i < A.length → w.cell? ⟨b, o + i * 2, none⟩ = some (.int .i64 (A.getD i (0, [])).1) ∧ ∃ a c, w.cell? ⟨b, o + i * 2 + 1, none⟩ = some (.slice a (A.getD i (0, [])).2.length c) ∧ SlL w a (A.getD i (0, [])).2 ∧ (A.getD i (0, [])).2.length ≤ 9223372036854775807
set_option maxRecDepth 5000 in
theorem AcL.below {w w' : World} {B : Nat} {ao : Option Addr} {A : List (Int × List UInt8)} (h : AcL w ao A) (hb : Below B w w') (hB : w.heap.size ≤ B) : AcL w' ao A := fun hn => by
  obtain ⟨b, o, e, hlt, hc⟩ := h hn
  refine ⟨b, o, e, Nat.lt_of_lt_of_le hlt hb.size, fun i hi => ?_⟩
  obtain ⟨h1, a, c, h2, h3, h4⟩ := hc i hi
  exact ⟨(hb.cell (p := ⟨b, o + i * 2, none⟩) (by show b < B; omega)).trans h1, a, c, (hb.cell (p := ⟨b, o + i * 2 + 1, none⟩) (by show b < B; omega)).trans h2, h3.below hb hB, h4⟩
def lightB (A : List (Int × List UInt8)) : Bool := decide (A.length ≤ 30) && A.all fun x => decide (x.2.length ≤ 6)
set_option maxRecDepth 5000 in
theorem lightB_get {A : List (Int × List UInt8)} (h : lightB A = true) : A.length ≤ 30 ∧ ∀ i, i < A.length → (A.getD i (0, [])).2.length ≤ 6 := by
  simp only [lightB, Bool.and_eq_true, decide_eq_true_eq, List.all_eq_true] at h
  refine ⟨h.1, fun i hi => ?_⟩
  have : A.getD i (0, []) = A[i] := by simp [hi]
  rw [this]; exact h.2 _ (List.getElem_mem hi)
set_option maxHeartbeats 1000000 in
set_option maxRecDepth 5000 in
theorem light_any (w : World) (ao : Option Addr) (c : Nat) (A : List (Int × List UInt8)) (hm : A.length ≤ 9223372036854775807) (hs : AcL w ao A) :
    Calls Tryd.prog 12 #[.slice ao A.length c] w fun e w' => e = .returned (.bool (lightB A)) ∧ w' = w := by
  have HS := hide hs
  clear hs
  go_enter Tryd.func12, Tryd.ntmps12
  by_cases h30 : A.length ≤ 30
  · have h30' : ¬ (30 : Int) < (A.length : Int) := by omega
    go_wp2
    go_loopw [3] (fun q wr => wr = w ∧ ∃ k : Nat, k ≤ A.length ∧ q = .int .i64 (k : Int) ∧ ∀ i, i < k → (A.getD i (0, [])).2.length ≤ 6) (fun q wr => A.length - (intOf q).toNat)
    case atStart => exact ⟨rfl, 0, by omega, rfl, fun i hi => by omega⟩
    case round =>
      obtain ⟨hw, k, hk, rfl, hall⟩ := hrel
      rw [hw]
      clear hw
      by_cases hlt : k < A.length
      · obtain ⟨b, o, rfl, hb, hc⟩ := HS.out (by omega)
        obtain ⟨_, a, c2, c1, _, hn1⟩ := hc k hlt
        have hlt' : (k : Int) < (A.length : Int) := by omega
        have HA := hide hall
        clear hc hall
        obtain ⟨n, hn⟩ : ∃ n, n = (A.getD k (0, [])).2.length := ⟨_, rfl⟩
        rw [← hn] at c1 hn1
        have HN := hide hn
        clear hn
        by_cases h6 : n ≤ 6
        · have h6' : ¬ (6 : Int) < (n : Int) := by omega
          go_wp2
          go_roundw
          case rel => exact ⟨trivial, k + 1, by omega, by go_num, fun i hi => by
            by_cases e : i = k
            · rw [e, ← HN.out]; exact h6
            · exact HA.out i (by omega)⟩
          case measure => simp [intOf]; omega
        · have h6' : (6 : Int) < (n : Int) := by omega
          have hf : lightB A = false := by
            cases hl : lightB A
            · rfl
            · have := (lightB_get hl).2 k hlt
              rw [← HN.out] at this; omega
          go_wp2
          go_ret
          exact ⟨by first | rfl | (rw [hf]; rfl), rfl⟩
      · have hlt' : ¬ (k : Int) < (A.length : Int) := by omega
        have ht : lightB A = true := by
          simp only [lightB, Bool.and_eq_true, decide_eq_true_eq, List.all_eq_true]
          refine ⟨h30, fun x hx => ?_⟩
          obtain ⟨j, hj, rfl⟩ := List.getElem_of_mem hx
          have := hall j (by omega)
          simpa [hj] using this
        clear hall
        go_wp2
        go_ret
        exact ⟨by first | rfl | (rw [ht]; rfl), rfl⟩
  · have h30' : (30 : Int) < (A.length : Int) := by omega
    have hf : lightB A = false := by simp [lightB]; omega
    go_wp2
    go_ret
    exact ⟨by first | rfl | (rw [hf]; rfl), rfl⟩
end Go.Proofs.YtidocfajhhpfdaaDoor
