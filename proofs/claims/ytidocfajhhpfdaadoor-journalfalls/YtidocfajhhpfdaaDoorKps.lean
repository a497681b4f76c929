/- signethelp.Blobs of any two lists. -/
import Derived.Test.YtidocfajhhpfdaaDoorJkn
import Derived.Test.YtidocfajhhpfdaaDoorJbt
namespace Go.Proofs.YtidocfajhhpfdaaDoor
open Go.RowKit
set_option maxRecDepth 5000 in
theorem list_getD_ext {α : Type} (d : α) (L L' : List α) (hl : L.length = L'.length) (h : ∀ j, j < L.length → L.getD j d = L'.getD j d) : L = L' := by
  apply List.ext_getElem? 
  intro j
  by_cases hj : j < L.length
  · have := h j hj
    rw [List.getD_eq_getElem?_getD, List.getD_eq_getElem?_getD] at this
    rw [List.getElem?_eq_getElem hj, List.getElem?_eq_getElem (by omega)] at this ⊢
    simpa using this
  · rw [List.getElem?_eq_none (by omega), List.getElem?_eq_none (by omega)]
set_option maxHeartbeats 2000000 in
set_option maxRecDepth 5000 in
theorem blobs_any (w : World) (ao ao' : Option Addr) (c c' : Nat) (L L' : List (List UInt8)) (hl : L.length ≤ 1000000000) (hs : SlBs w ao L) (hs' : SlBs w ao' L') :
    Calls Tryd.prog 17 #[.slice ao L.length c, .slice ao' L'.length c'] w fun e w' => e = .returned (.bool (decide (L = L'))) ∧ ∃ m, w' = w.drewN m := by
  have HS := hide hs
  have HS' := hide hs'
  clear hs hs'
  by_cases hlen : L.length = L'.length
  · rw [← hlen]
    have HLEN := hide hlen
    clear hlen
    go_enter Tryd.func17, Tryd.ntmps17
    go_wp2
    go_loopw [5] (fun i wr => (∃ m, wr = w.drewN m) ∧ ∃ k : Nat, k ≤ L.length ∧ i = .int .i64 (k : Int) ∧ ∀ j, j < k → L.getD j [] = L'.getD j []) (fun i wr => L.length - (intOf i).toNat)
    case atStart => exact ⟨⟨0, rfl⟩, 0, by omega, rfl, fun j hj => absurd hj (by omega)⟩
    case round =>
      obtain ⟨⟨m, hm⟩, k, hk, rfl, hAll⟩ := hrel
      have HALL := hide hAll
      have S1 := HS.out.drewN m
      have S2 := HS'.out.drewN m
      rw [← hm] at S1 S2
      have HM := hide hm
      clear hm hAll
      by_cases hlt : k < L.length
      · have hlt' : (k : Int) < (L.length : Int) := by omega
        obtain ⟨b1, o1, e1, hb1, hc1⟩ := S1 (by omega)
        obtain ⟨b2, o2, e2, hb2, hc2⟩ := S2 (by have := HLEN.out; omega)
        obtain ⟨a1, d1, x1, y1, _⟩ := hc1 k hlt
        obtain ⟨a2, d2, x2, y2, _⟩ := hc2 k (by rw [← HLEN.out]; exact hlt)
        subst e1
        subst e2
        obtain ⟨r1, hr1⟩ : ∃ r, r = L.getD k [] := ⟨_, rfl⟩
        obtain ⟨r2, hr2⟩ : ∃ r, r = L'.getD k [] := ⟨_, rfl⟩
        rw [← hr1] at x1 y1
        rw [← hr2] at x2 y2
        have HR1 := hide hr1
        have HR2 := hide hr2
        have hby : ∀ W j, W = wr.drewN j → Calls Tryd.prog 36 #[.slice a1 r1.length d1, .slice a2 r2.length d2] W fun e w' => e = .returned (.bool (decide (r1 = r2))) ∧ w' = W := fun W j hW => hBytes_any W a1 a2 _ _ d1 d2 r1 r2 rfl rfl (by rw [hW]; exact y1) (by rw [hW]; exact y2)
        clear hc1 hc2 y1 y2 S1 S2 hr1 hr2
        by_cases her : r1 = r2
        · rw [decide_eq_true her] at hby
          have HER := hide her
          clear her
          go_wp2
          go_region_held3 (fun w' => w'.cell? ⟨b1, o1 + k, none⟩ = some (.slice a1 r1.length d1) ∧ w'.cell? ⟨b2, o2 + k, none⟩ = some (.slice a2 r2.length d2)) (first | exact ⟨x1, x2⟩ | fail) (first
            | (go_at_call 36; refine (hby _ _ rfl).mono ?_; rintro e w' ⟨rfl, hw⟩; rw [hw]; clear hw w'))
          all_goals go_wp2
          all_goals go_roundw
          case rel => exact ⟨⟨m + 1, by rw [HM.out]; rfl⟩, k + 1, by omega, by go_num, fun j hj => by
            rcases Nat.lt_succ_iff_lt_or_eq.1 hj with h | rfl
            · exact HALL.out j h
            · rw [← HR1.out, ← HR2.out]; exact HER.out⟩
          case measure => simp [intOf]; omega
        · rw [decide_eq_false her] at hby
          have hne : ¬ (L = L') := fun e => her (by rw [HR1.out, HR2.out, e])
          have HNE := hide (decide_eq_false hne)
          clear her hne
          go_wp2
          go_region_held3 (fun w' => w'.cell? ⟨b1, o1 + k, none⟩ = some (.slice a1 r1.length d1) ∧ w'.cell? ⟨b2, o2 + k, none⟩ = some (.slice a2 r2.length d2)) (first | exact ⟨x1, x2⟩ | fail) (first
            | (go_at_call 36; refine (hby _ _ rfl).mono ?_; rintro e w' ⟨rfl, hw⟩; rw [hw]; clear hw w'))
          all_goals go_wp2
          all_goals go_ret
          all_goals exact ⟨by rw [HNE.out]; rfl, m + 1, by rw [HM.out]; rfl⟩
      · have hlt' : ¬ (k : Int) < (L.length : Int) := by omega
        have hek : k = L.length := by omega
        have heq : L = L' := list_getD_ext [] L L' HLEN.out (fun j hj => HALL.out j (by omega))
        have HEQ := hide (decide_eq_true heq)
        clear heq hek
        go_wp2
        go_ret
        exact ⟨by rw [HEQ.out]; rfl, m, HM.out⟩
  · have hne : ¬ (L = L') := fun e => hlen (by rw [e])
    have HNE := hide (decide_eq_false hne)
    clear hne
    have hlen' : ¬ ((L.length : Int) = (L'.length : Int)) := by omega
    go_enter Tryd.func17, Tryd.ntmps17
    go_wp2
    go_ret
    exact ⟨by rw [HNE.out]; rfl, 0, rfl⟩
end Go.Proofs.YtidocfajhhpfdaaDoor

/- Lists of records joined; the law's size and light; acts that came in. -/
namespace Go.Proofs.YtidocfajhhpfdaaDoor
open Go.RowKit
set_option maxRecDepth 5000 in
theorem wpList_append_Bs {w : World} {ops : Array Oper} {rest : List Oper} {o : Oper} {a : Act} {Q : Exit → Act → World → Prop} (hgd : o.guard = none) (s x : Operand)
    (ho : o.op = .call { callee := .builtin .append, args := #[s, x], argTypes := #[32, 32] }) (base : Nat) (v : Value) (L : List (List UInt8)) (hs : a.eval s = v) (hown : OwnBs w base v L)
    (ao : Option Addr) (m c B : Nat) (L2 : List (List UInt8)) (hx : a.eval x = .slice ao m c) (hm : L2.length = m) (hsrc : OwnBs w B (.slice ao m c) L2) (hbound : L.length + m ≤ 1000000000) (hbase : base ≤ w.heap.size)
    (h : ∀ v' w', OwnBs w' base v' (L ++ L2) → w.grownBy w' v.ownBlock → KB w w' → Below base w w' → wpList Tryd.prog ops Q rest (a.put o.dst v') w') : wpList Tryd.prog ops Q (o :: rest) a w := by
  obtain ⟨i0, hi, hz0, hz1, hz2⟩ := info_parts infoBs2
  obtain ⟨vs, hvl, hV, hE⟩ := hown.own
  obtain ⟨vs2, hvl2, hV2, hE2⟩ := hsrc.own
  subst hm
  rcases hV2.2 with ⟨e, e2⟩ | ⟨g, cap, cur, e, h3, h4, h5, h6, h7, h8⟩
  · injection e with e1 _ e3
    subst e1
    subst e3
    obtain rfl : L2 = [] := List.eq_nil_of_length_eq_zero e2
    refine wpList_append_own_none hgd s x 32 ho base 22 i0 1 Tryd.underlying32 hi v L.length vs hs hV hx ?_
    exact h v w (by rw [List.append_nil]; exact hown) ⟨rfl, rfl, rfl, Nat.le_refl _, fun _ _ _ => rfl⟩ (KB.refl _) (Below.refl _ _)
  · injection e with e1 _ e3
    subst e1
    refine wpList_append_own w hgd s x 32 ho base 22 i0 (.slice none 0 0) 1 24 Tryd.underlying32 hi hz0 hz1 hz2 rfl (by decide) v L.length vs hs hV ⟨g, 0, none⟩ L2.length c vs2 hx (by omega) ?_ ?_ (by unfold maxLen; omega) (by omega) hbase ?_
    · intro j u hu
      have hj : j < L2.length := by have := (List.getElem?_eq_some_iff.1 hu).1; omega
      rw [Addr.add_mid, Nat.zero_add, cell_of_row _ _ _ _ _ _ h4]
      rw [← h8, List.getElem?_take_of_lt (by omega)] at hu
      simpa using hu
    · intro u hu
      obtain ⟨j, hj, rfl⟩ := List.getElem_of_mem hu
      obtain ⟨a', c', h9, _⟩ := hE2 j (by omega)
      have h10 : vs2[j]? = some vs2[j] := List.getElem?_eq_getElem hj
      have h9' : vs2[j]? = _ := h9
      rw [h10] at h9'
      injection h9' with h9'
      rw [h9']; rfl
    · intro v' w' h1 h2 _
      have hk := owns_kb hV h2
      refine h v' w' ⟨vs ++ vs2, by rw [List.length_append]; exact h1, each_app (hE.kb hk) hvl (hE2.kb hk)⟩ h2 hk ?_
      exact owns_below hV h2 (Below.refl _ _) hbase
/- what the law counts of records -/
def J.sz2 (L : List (List UInt8)) : Nat := (L.map fun r => r.length + 16).sum
set_option maxRecDepth 5000 in
theorem J.sz2_snoc (l : List (List UInt8)) (r : List UInt8) : J.sz2 (l ++ [r]) = J.sz2 l + (r.length + 16) := by simp [J.sz2]
set_option maxRecDepth 5000 in
theorem J.sz2_take (L : List (List UInt8)) (k : Nat) : J.sz2 (L.take k) ≤ J.sz2 L := by
  have h := congrArg J.sz2 (List.take_append_drop k L)
  have e : ∀ a b, J.sz2 (a ++ b) = J.sz2 a + J.sz2 b := fun a b => by simp [J.sz2]
  rw [e] at h; omega
set_option maxRecDepth 5000 in
theorem J.fsz_sz2 : ∀ L : List (List UInt8), J.fsz L ≤ J.sz2 L
  | [] => by simp [J.fsz, J.sz2]
  | r :: L => by
    have := J.fsz_sz2 L
    simp only [J.fsz, J.sz2, List.map_cons, List.sum_cons] at this ⊢
    split <;> omega
set_option maxRecDepth 5000 in
theorem J.sz2_len : ∀ L : List (List UInt8), 16 * L.length ≤ J.sz2 L
  | [] => by simp
  | r :: L => by
    have := J.sz2_len L
    simp only [J.sz2, List.map_cons, List.sum_cons, List.length_cons] at this ⊢
    omega
set_option maxRecDepth 5000 in
theorem J.sz2_bound (m : Nat) : ∀ R : List (List UInt8), (∀ k, k < R.length → (R.getD k []).length ≤ m) → J.sz2 R ≤ R.length * (m + 16)
  | [], _ => by simp [J.sz2]
  | r :: R, h => by
    have h0 := h 0 (by simp)
    have ih := J.sz2_bound m R (fun k hk => by have := h (k + 1) (by simp; omega); simpa using this)
    have e : J.sz2 (r :: R) = (r.length + 16) + J.sz2 R := by simp [J.sz2]
    rw [e, List.length_cons, Nat.succ_mul]
    have h1 : r.length ≤ m := by simpa using h0
    omega
set_option maxRecDepth 5000 in
theorem size_any2 (w : World) (ao : Option Addr) (c : Nat) (L : List (List UInt8)) (hl : J.sz2 L ≤ 1000000000) (hs : SlBs w ao L) :
    Calls Tryd.prog 20 #[.slice ao L.length c] w fun e w' => e = .returned (.int .i64 (J.sz2 L : Int)) ∧ w' = w := by
  have HS := hide hs
  have hll := J.sz2_len L
  clear hs
  go_enter Tryd.func20, Tryd.ntmps20
  go_wp2
  go_loopw [3, 4] (fun q i wr => wr = w ∧ ∃ k : Nat, k ≤ L.length ∧ i = .int .i64 (k : Int) ∧ q = .int .i64 (J.sz2 (L.take k) : Int)) (fun q i wr => L.length - (intOf i).toNat)
  case atStart => exact ⟨rfl, 0, by omega, rfl, rfl⟩
  case round =>
    obtain ⟨hw, k, hk, rfl, rfl⟩ := hrel
    rw [hw]
    clear hw
    by_cases hlt : k < L.length
    · obtain ⟨b, o, rfl, hb, hc⟩ := HS.out (by omega)
      obtain ⟨a, c2, c1, _, _⟩ := hc k hlt
      have hlt' : (k : Int) < (L.length : Int) := by omega
      have E := hide (J.sz2_snoc (L.take k) (L.getD k []))
      rw [← take_snoc L k hlt] at E
      have hb1 := J.sz2_take L (k + 1)
      rw [E.out] at hb1
      generalize J.sz2 (L.take k) = q at E hb1
      generalize (L.getD k []).length = n at E hb1 c1
      have e1 : IntKind.i64.wrap ((n : Int) + 16) = (n : Int) + 16 := by rw [IntKind.wrap_i64]; omega
      clear hc
      go_wp2
      go_roundw
      case rel => exact ⟨trivial, k + 1, by omega, by go_num, by rw [E.out]; go_num⟩
      case measure => simp [intOf]; omega
    · have hlt' : ¬ (k : Int) < (L.length : Int) := by omega
      rw [List.take_of_length_le (by omega)]
      go_wp2
      go_ret
      exact ⟨rfl, rfl⟩
/- acts that came in -/
def AcL (w : World) (ao : Option Addr) (A : List (Int × List UInt8)) : Prop := 0 < A.length → ∃ b o, ao = some ⟨b, o, none⟩ ∧ b < w.heap.size ∧ ∀ i, i < A.length → w.cell? ⟨b, o + i * 2, none⟩ = some (.int .i64 (A.getD i (0, [])).1) ∧ ∃ a c, w.cell? ⟨b, o + i * 2 + 1, none⟩ = some (.slice a (A.getD i (0, [])).2.length c) ∧ SlL w a (A.getD i (0, [])).2 ∧ (A.getD i (0, [])).2.length ≤ 9223372036854775807
set_option maxRecDepth 5000 in
theorem AcL.below {w w' : World} {B : Nat} {ao : Option Addr} {A : List (Int × List UInt8)} (h : AcL w ao A) (hb : Below B w w') (hB : w.heap.size ≤ B) : AcL w' ao A := fun hn => by
  obtain ⟨b, o, e, hlt, hc⟩ := h hn
  refine ⟨b, o, e, Nat.lt_of_lt_of_le hlt hb.size, fun i hi => ?_⟩
  obtain ⟨h1, a, c, h2, h3, h4⟩ := hc i hi
  exact ⟨(hb.cell (p := ⟨b, o + i * 2, none⟩) (by show b < B; omega)).trans h1, a, c, (hb.cell (p := ⟨b, o + i * 2 + 1, none⟩) (by show b < B; omega)).trans h2, h3.below hb hB, h4⟩
def lightB (A : List (Int × List UInt8)) : Bool := decide (A.length ≤ 30) && A.all fun x => decide (x.2.length ≤ 6)
set_option maxRecDepth 5000 in
theorem lightB_get {A : List (Int × List UInt8)} (h : lightB A = true) : A.length ≤ 30 ∧ ∀ i, i < A.length → (A.getD i (0, [])).2.length ≤ 6 := by
  simp only [lightB, Bool.and_eq_true, decide_eq_true_eq, List.all_eq_true] at h
  refine ⟨h.1, fun i hi => ?_⟩
  have : A.getD i (0, []) = A[i] := by simp [hi]
  rw [this]; exact h.2 _ (List.getElem_mem hi)
set_option maxHeartbeats 1000000 in
set_option maxRecDepth 5000 in
theorem light_any (w : World) (ao : Option Addr) (c : Nat) (A : List (Int × List UInt8)) (hm : A.length ≤ 9223372036854775807) (hs : AcL w ao A) :
    Calls Tryd.prog 12 #[.slice ao A.length c] w fun e w' => e = .returned (.bool (lightB A)) ∧ w' = w := by
  have HS := hide hs
  clear hs
  go_enter Tryd.func12, Tryd.ntmps12
  by_cases h30 : A.length ≤ 30
  · have h30' : ¬ (30 : Int) < (A.length : Int) := by omega
    go_wp2
    go_loopw [3] (fun q wr => wr = w ∧ ∃ k : Nat, k ≤ A.length ∧ q = .int .i64 (k : Int) ∧ ∀ i, i < k → (A.getD i (0, [])).2.length ≤ 6) (fun q wr => A.length - (intOf q).toNat)
    case atStart => exact ⟨rfl, 0, by omega, rfl, fun i hi => by omega⟩
    case round =>
      obtain ⟨hw, k, hk, rfl, hall⟩ := hrel
      rw [hw]
      clear hw
      by_cases hlt : k < A.length
      · obtain ⟨b, o, rfl, hb, hc⟩ := HS.out (by omega)
        obtain ⟨_, a, c2, c1, _, hn1⟩ := hc k hlt
        have hlt' : (k : Int) < (A.length : Int) := by omega
        have HA := hide hall
        clear hc hall
        obtain ⟨n, hn⟩ : ∃ n, n = (A.getD k (0, [])).2.length := ⟨_, rfl⟩
        rw [← hn] at c1 hn1
        have HN := hide hn
        clear hn
        by_cases h6 : n ≤ 6
        · have h6' : ¬ (6 : Int) < (n : Int) := by omega
          go_wp2
          go_roundw
          case rel => exact ⟨trivial, k + 1, by omega, by go_num, fun i hi => by
            by_cases e : i = k
            · rw [e, ← HN.out]; exact h6
            · exact HA.out i (by omega)⟩
          case measure => simp [intOf]; omega
        · have h6' : (6 : Int) < (n : Int) := by omega
          have hf : lightB A = false := by
            cases hl : lightB A
            · rfl
            · have := (lightB_get hl).2 k hlt
              rw [← HN.out] at this; omega
          go_wp2
          go_ret
          exact ⟨by first | rfl | (rw [hf]; rfl), rfl⟩
      · have hlt' : ¬ (k : Int) < (A.length : Int) := by omega
        have ht : lightB A = true := by
          simp only [lightB, Bool.and_eq_true, decide_eq_true_eq, List.all_eq_true]
          refine ⟨h30, fun x hx => ?_⟩
          obtain ⟨j, hj, rfl⟩ := List.getElem_of_mem hx
          have := hall j (by omega)
          simpa [hj] using this
        clear hall
        go_wp2
        go_ret
        exact ⟨by first | rfl | (rw [ht]; rfl), rfl⟩
  · have h30' : (30 : Int) < (A.length : Int) := by omega
    have hf : lightB A = false := by simp [lightB]; omega
    go_wp2
    go_ret
    exact ⟨by first | rfl | (rw [hf]; rfl), rfl⟩
end Go.Proofs.YtidocfajhhpfdaaDoor

/- The law JournalResets. -/
namespace Go.Proofs.YtidocfajhhpfdaaDoor
open Go.RowKit
set_option maxRecDepth 5000 in
theorem J.fsz_bound (m : Nat) : ∀ R : List (List UInt8), (∀ k, k < R.length → (R.getD k []).length ≤ m) → J.fsz R ≤ R.length * (m + 12)
  | [], _ => by simp [J.fsz]
  | r :: R, h => by
    have h0 := h 0 (by simp)
    have ih := J.fsz_bound m R (fun k hk => by have := h (k + 1) (by simp; omega); simpa using this)
    have e : J.fsz (r :: R) = (if r = [] then 0 else r.length + 12) + J.fsz R := by simp [J.fsz]
    rw [e, List.length_cons, Nat.succ_mul]
    have h1 : r.length ≤ m := by simpa using h0
    split <;> omega
set_option maxRecDepth 5000 in
theorem lit_u8 (w : World) (x y : UInt8) : SlL (w.alloc (.cells #[.int .u8 (x.toNat : Int), .int .u8 (y.toNat : Int)] 5)) (some ⟨w.heap.size, 0, none⟩) [x, y] := fun _ => by
  have h := RowAt.new w 5 #[.int .u8 (x.toNat : Int), .int .u8 (y.toNat : Int)]
  refine ⟨_, 0, rfl, h.lt, fun j hj => ?_⟩
  have : j = 0 ∨ j = 1 := by have : j < 2 := hj; omega
  rcases this with rfl | rfl
  · exact h.cell 0
  · exact h.cell 1
set_option maxHeartbeats 2000000 in
set_option maxRecDepth 5000 in
theorem resets_walk (w : World) (ht : Tab w) (x y z : UInt8) :
    Calls Tryd.prog 7 #[.int .u8 (x.toNat : Int), .int .u8 (y.toNat : Int), .int .u8 (z.toNat : Int)] w fun e w' => e = .returned (.bool true) ∧ Below w.heap.size w w' := by
  have hk := known_any w ht
  have HT := hide ht
  have hpos := ht.1
  clear ht
  have hx256 := x.toNat_lt
  have hz256 := z.toNat_lt
  go_enter Tryd.func7, Tryd.ntmps7
  go_wp2_with (first | (go_at_call 9; refine hk.mono ?_; rintro e w1 ⟨rfl, hB⟩; have B1 := hide hB; clear hB) | fail)
  refine (new_at FF w1 (fun _ h => h.elim) 60 512 60 512 (by omega) (by omega) (by omega) (by omega) (by decide) (by decide)).mono ?_
  rintro e w2 ⟨rfl, hD, hB2, hs2⟩
  have D2 : Hid (DiskAt FF w2 (w1.heap.size + 2) w1.heap.size (w1.heap.size + 1) (K.St.new 60 512)) := hD
  have B2 := hide (B1.out.trans (hB2.mono B1.out.size))
  have z1 := B1.out.size
  have HS2 := hide hs2
  clear hD hB2 hk hs2
  go_wp2_with fail
  refine (open_new w2 (HT.out.below B2.out hpos) _ _ _ 60 512 (by omega) D2.out (by have := HS2.out; omega)).mono ?_
  rintro e w3 ⟨v3, M3, rfl, J3, D3, V3, z3, O3⟩
  obtain ⟨a3, c3, hv3⟩ := O3.slice
  rw [hv3]
  have W3 : Hid (JW w (w1.heap.size + 2) w1.heap.size w2.heap.size M3 (newS 60 512) h0 [] w3) := ⟨V3.below B2.out B2.out.size (by omega) (by omega) (by omega), by omega, by omega, by have := HS2.out; omega, by have := HS2.out; omega, D3, newS_is 60 512 (by omega), J3⟩
  have zz3 : w2.heap.size ≤ w3.heap.size := V3.size
  clear J3 D3 V3 z3 O3 hv3 D2
  have he1 : ∀ (g : Nat) (W : World), (binOp .eql 31 (.pointer (some ⟨g, 0, none⟩)) (.pointer none)).run Tryd.prog W = .ok (.bool false) W := fun _ _ => rfl
  go_wp2_with fail
  have b4 : Below w3.heap.size w3 (w3.alloc (.cells #[.int .u8 (y.toNat : Int), .int .u8 (x.toNat : Int)] 5)) := (Below.refl _ w3).alloc (Nat.le_refl _) _
  have W4 := hide (W3.out.below b4)
  have z4 := b4.size
  have S4 := hide (lit_u8 w3 y x)
  generalize (w3.alloc (.cells #[.int .u8 (y.toNat : Int), .int .u8 (x.toNat : Int)] 5)) = w4 at W4 S4 z4 ⊢
  refine (batch_any w4 (x.toNat : Int) (by omega) (by omega) (some ⟨w3.heap.size, 0, none⟩) 2 [y, x] (by simp) S4.out).mono ?_
  rintro e w5 ⟨v5, rfl, R, O5, hRl, hRk, b5⟩
  have HRl : Hid (R.length = 2) := hRl
  have hfz : J.fsz R ≤ 534 := by
    have := J.fsz_bound 255 R (fun k hk => by rw [hRk k (by rw [← hRl]; exact hk)]; have := ([y, x].getD k 0).toNat_lt; omega)
    rw [HRl.out] at this; omega
  obtain ⟨a5, c5, hv5⟩ := O5.slice
  rw [hv5] at O5 ⊢
  have W5 := hide (W4.out.below b5)
  have O5H := hide O5
  clear O5 hv5 b5 b4 hRk W3 W4 S4
  obtain ⟨T, hT⟩ : ∃ T, T = z.toNat % 6 + 1 := ⟨_, rfl⟩
  have hT1 : (z.toNat : Int) % 6 + 1 = (T : Int) := by omega
  have hT6 : T ≤ 6 ∧ 1 ≤ T := by omega
  obtain ⟨D, hDe⟩ : ∃ D, D = w1.heap.size + 2 := ⟨_, rfl⟩
  rw [← hDe] at W5 ⊢
  obtain ⟨SS, hSe⟩ : ∃ SS, SS = w1.heap.size := ⟨_, rfl⟩
  rw [← hSe] at W5
  have hSlt : SS < w4.heap.size := by have := HS2.out; omega
  generalize w2.heap.size = bJ at W5 ⊢
  generalize w4.heap.size = B4 at O5H hSlt
  have hars : ∀ s : K.St, s.n = 60 → s.sz = 512 → J.arb s = 14848 := fun s h1 h2 => by unfold J.arb J.ars; rw [h1, h2]
  clear hDe hSe zz3 z4 hRl hT
  go_wp2
  go_loopw [12] (fun q wr => ∃ i : Nat, i ≤ T ∧ q = .int .i64 (i : Int) ∧ ∃ M s h L, JW w D SS bJ M s h L wr ∧ s.n = 60 ∧ s.sz = 512 ∧ h.c ≤ i * 801 ∧ h.b ≤ 2 ∧ (0 < i → L = R) ∧ OwnBs wr B4 (.slice a5 R.length c5) R) (fun q wr => T - (intOf q).toNat)
  case atStart => exact ⟨0, by omega, rfl, _, _, _, _, W5.out, newS_n 60 512, newS_sz 60 512, Nat.le_refl _, Nat.zero_le _, fun h => absurd h (by omega), O5H.out⟩
  case round =>
    obtain ⟨wA, rfl⟩ : ∃ wA, wA = wr := ⟨wr, rfl⟩
    obtain ⟨i, hi, rfl, MA, sA, hA, LA, WA, nA, zA, cA, bA, rA, OA⟩ := hrel
    by_cases hiT : i < T
    · have hiT' : (i : Int) < (T : Int) := by omega
      have WAH := hide WA
      have OAH := hide OA
      clear WA OA W5 O5H
      go_wp2
      go_loopw [13, 14] (fun f q wr => ∃ (k : Nat) (fb : Bool), k ≤ 800 ∧ q = .int .i64 (k : Int) ∧ f = .bool fb ∧ ∃ M s h L, JW w D SS bJ M s h L wr ∧ s.n = 60 ∧ s.sz = 512 ∧ h.c ≤ i * 801 + k ∧ h.b ≤ 2 + 2 * k ∧ OwnBs wr B4 (.slice a5 R.length c5) R) (fun f q wr => 800 - (intOf q).toNat)
      case atStart => exact ⟨0, false, by omega, rfl, rfl, MA, sA, hA, LA, WAH.out, nA, zA, cA, bA, OAH.out⟩
      case round =>
        obtain ⟨k, fb, hk8, rfl, rfl, M, s, h, L, WB, nB, zB, cB, bB, OB⟩ := hrel
        have hab := hars s nB zB
        by_cases hgo : k < 800 ∧ fb = false
        · obtain ⟨hk, rfl⟩ := hgo
          have hk' : (k : Int) < 800 := by omega
          have WBH := hide WB
          have OBH := hide OB
          clear WB OB WAH OAH
          go_wp2_with fail
          refine (commit_is wr (WBH.out.tab HT.out) D SS M bJ s h L WBH.out.is WBH.out.dk WBH.out.jr (WBH.out.pos HT.out) a5 c5 R OBH.out.sl (by omega) (by have := HRl.out; omega) (by omega)).mono ?_
          rintro e w' (⟨_, rfl, M', s', hl⟩ | ⟨_, rfl, hb⟩)
          · have W' := hide (WBH.out.laid hl)
            have O' := hide (hl.keepBs WBH.out.dk WBH.out.jr OBH.out hSlt)
            have n' := hl.n.trans nB
            have z' := hl.sz.trans zB
            clear hl WBH OBH
            go_wp2
            go_roundw
            case rel => exact ⟨k + 1, false, by omega, by go_num, rfl, M', s', _, _, W'.out, n', z', by show h.c + 1 ≤ _; omega, by show h.b + R.length ≤ _; have := HRl.out; omega, O'.out⟩
            case measure => simp [intOf]; omega
          · have W' := hide (WBH.out.below hb)
            have O' := hide (OBH.out.bel hb)
            clear hb WBH OBH
            go_wp2
            go_roundw
            case rel => exact ⟨k + 1, true, by omega, by go_num, rfl, M, s, h, L, W'.out, nB, zB, by omega, by omega, O'.out⟩
            case measure => simp [intOf]; omega
        · have WBH := hide WB
          have OBH := hide OB
          have hstop : (decide ((k : Int) < 800) && !fb) = false := by
            by_cases h1 : k < 800
            · cases fb
              · exact absurd ⟨h1, rfl⟩ hgo
              · simp
            · simp; omega
          have hrs := reset_is wr (WB.tab HT.out) D SS M bJ s h L WB.is WB.dk WB.jr (WB.pos HT.out) a5 c5 R OB.sl (by omega) (by have := HRl.out; omega) (by omega)
          clear WB OB WAH OAH
          have hcases : (k < 800 ∧ fb = true) ∨ k = 800 := by
            by_cases h1 : k < 800
            · cases fb
              · exact absurd ⟨h1, rfl⟩ hgo
              · exact Or.inl ⟨h1, rfl⟩
            · exact Or.inr (by omega)
          rcases hcases with ⟨h1, rfl⟩ | rfl
          · have h1' : (k : Int) < 800 := by omega
            go_wp2_with fail
            refine hrs.mono ?_
            rintro e w' ⟨xx, rfl, hx⟩
            obtain ⟨_, rfl, M', s', hl⟩ := hx.resolve_right (fun h => absurd h.1 (by omega))
            have W' := hide (WBH.out.laid hl)
            have O' := hide (hl.keepBs WBH.out.dk WBH.out.jr OBH.out hSlt)
            have n' := hl.n.trans nB
            have z' := hl.sz.trans zB
            clear hl WBH OBH hrs hx
            go_wp2
            go_roundw
            case rel => exact ⟨i + 1, by omega, by go_num, M', s', _, _, W'.out, n', z', by show h.c + 1 ≤ _; omega, by show 0 + R.length ≤ _; have := HRl.out; omega, fun _ => rfl, O'.out⟩
            case measure => simp [intOf]; omega
          · go_wp2_with fail
            refine hrs.mono ?_
            rintro e w' ⟨xx, rfl, hx⟩
            obtain ⟨_, rfl, M', s', hl⟩ := hx.resolve_right (fun h => absurd h.1 (by omega))
            have W' := hide (WBH.out.laid hl)
            have O' := hide (hl.keepBs WBH.out.dk WBH.out.jr OBH.out hSlt)
            have n' := hl.n.trans nB
            have z' := hl.sz.trans zB
            clear hl WBH OBH hrs hx
            go_wp2
            go_roundw
            case rel => exact ⟨i + 1, by omega, by go_num, M', s', _, _, W'.out, n', z', by show h.c + 1 ≤ _; omega, by show 0 + R.length ≤ _; have := HRl.out; omega, fun _ => rfl, O'.out⟩
            case measure => simp [intOf]; omega
    · have hiT' : ¬ (i : Int) < (T : Int) := by omega
      have eL := rA (by omega)
      subst eL
      have WAH := hide WA
      have OAH := hide OA
      clear WA OA W5 O5H rA
      go_wp2_with fail
      refine (open_is wA (WAH.out.tab HT.out) D SS MA sA WAH.out.dk hA LA WAH.out.is (WAH.out.pos HT.out)).mono ?_
      rintro e w6 ⟨v6, M6, rfl, J6, D6, V6, z6, O6⟩
      obtain ⟨a6, c6, hv6⟩ := O6.slice
      rw [hv6] at O6 ⊢
      have W6 := hide (WAH.out.opened V6 z6 D6 J6)
      have S6 := hide O6.sl
      have O6b : Hid (SlBs w6 a5 LA) := by
        obtain ⟨sv, uv, hdk⟩ := WAH.out.dk
        refine OwnBs.sl (base := B4) (n := LA.length) (c := c5) (OAH.out.kept V6.size (fun g o ho hb => ?_))
        have hlt : g < wA.heap.size := (Array.getElem?_eq_some_iff.1 ho).1
        have hrow := hdk.row
        have hsur := hdk.sure
        unfold RowAt at hrow hsur
        refine V6.block g hlt (fun e => ?_) (fun e => ?_) ?_
        · rw [e, hrow] at ho; injection ho with ho
          rcases hb with ⟨c, fr, hb⟩ | ⟨_, c, fr, hb⟩ <;> (rw [hb] at ho; injection ho with _ ho _; exact absurd ho (by decide))
        · rcases hb with ⟨c, fr, hb⟩ | ⟨hg, _⟩
          · rw [e, hsur] at ho; injection ho with ho; rw [hb] at ho; injection ho with _ ho _; exact absurd ho (by decide)
          · omega
        · rcases hb with ⟨c, fr, rfl⟩ | ⟨_, c, fr, rfl⟩
          · exact hdk.un.row_ne ho
          · exact hdk.un.row_ne ho
      clear J6 D6 V6 z6 O6 hv6 WAH OAH
      have hne1 : ∀ (g : Nat) (W : World), (binOp .neq 31 (.pointer (some ⟨g, 0, none⟩)) (.pointer none)).run Tryd.prog W = .ok (.bool true) W := fun _ _ => rfl
      have hbl := blobs_same w6 a6 a5 c6 c5 LA.length LA.length LA rfl rfl (by have := HRl.out; omega) S6.out O6b.out
      go_wp2_with (go_at_call 17; refine hbl.mono ?_; rintro e w7 ⟨rfl, m, hw7⟩; have BW7 : Hid (Below w.heap.size w w7) := (by rw [hw7]; exact below_drewN W6.out.bl m); clear hw7)
      go_ret
      exact ⟨rfl, BW7.out⟩
end Go.Proofs.YtidocfajhhpfdaaDoor

/- The law JournalKeeps. -/
namespace Go.Proofs.YtidocfajhhpfdaaDoor
open Go.RowKit
/- lists that were made behind the disk are kept where the disk alone moves -/
set_option maxRecDepth 5000 in
theorem Mv.keepBs {W W' : World} {D S M B : Nat} {s : K.St} (hm : Mv D S M W W') (hd : DiskAt FF W D S M s) {v : Value} {R : List (List UInt8)} (hv : OwnBs W B v R) (hS : S < B) : OwnBs W' B v R := by
  obtain ⟨sv, uv, hk⟩ := hd
  refine hv.kept hm.size (fun g o ho hb => ?_)
  have hlt : g < W.heap.size := (Array.getElem?_eq_some_iff.1 ho).1
  have hrow := hk.row
  have hsur := hk.sure
  unfold RowAt at hrow hsur
  refine hm.block g hlt (fun e => ?_) (fun e => ?_) ?_
  · rw [e, hrow] at ho; injection ho with ho
    rcases hb with ⟨c, fr, hb⟩ | ⟨_, c, fr, hb⟩ <;> (rw [hb] at ho; injection ho with _ ho _; exact absurd ho (by decide))
  · rcases hb with ⟨c, fr, hb⟩ | ⟨hg, _⟩
    · rw [e, hsur] at ho; injection ho with ho; rw [hb] at ho; injection ho with _ ho _; exact absurd ho (by decide)
    · omega
  · rcases hb with ⟨c, fr, rfl⟩ | ⟨_, c, fr, rfl⟩
    · exact hk.un.row_ne ho
    · exact hk.un.row_ne ho
set_option maxRecDepth 5000 in
theorem OwnBs.drewN {w : World} {B : Nat} {v : Value} {L : List (List UInt8)} (h : OwnBs w B v L) (m : Nat) : OwnBs (w.drewN m) B v L := h.bel (below_drewN (Below.refl _ _) m)
set_option maxRecDepth 5000 in
theorem room_new (N : Nat) : J.room (newS N 512) h0 = min ((N - 2) / 2 * 512 - 12) 16777216 := by
  unfold J.room J.arb J.ars
  rw [newS_n, newS_sz]; rfl
set_option maxHeartbeats 4000000 in
set_option maxRecDepth 5000 in
theorem keeps_walk (w : World) (ht : Tab w) (x : UInt8) (ao : Option Addr) (c : Nat) (A : List (Int × List UInt8)) (hm : A.length ≤ 9223372036854775807) (hA : AcL w ao A) :
    Calls Tryd.prog 4 #[.int .u8 (x.toNat : Int), .slice ao A.length c] w fun e w' => e = .returned (.bool true) ∧ Below w.heap.size w w' := by
  have hk := known_any w ht
  have HT := hide ht
  have hpos := ht.1
  have HA := hide hA
  have hli : ∀ W, Below w.heap.size w W → Calls Tryd.prog 12 #[.slice ao A.length c] W fun e w' => e = .returned (.bool (lightB A)) ∧ w' = W := fun W hW => light_any W ao c A hm (HA.out.below hW (Nat.le_refl _))
  clear ht hA
  have hx256 := x.toNat_lt
  cases hl : lightB A
  · rw [hl] at hli
    clear hl
    go_enter Tryd.func4, Tryd.ntmps4
    go_wp2_with (first
      | (go_at_call 9; refine hk.mono ?_; rintro e w1 ⟨rfl, hB⟩; have B1 := hide hB; clear hB)
      | (go_at_call 12; refine (hli _ B1.out).mono ?_; rintro e w' ⟨rfl, hw⟩; rw [hw]; clear hw w')
      | fail)
    go_ret
    exact ⟨rfl, B1.out⟩
  rw [hl] at hli
  obtain ⟨h30, h6⟩ := lightB_get hl
  have H6 := hide h6
  clear hl h6
  obtain ⟨N, hN⟩ : ∃ N : Nat, N = 60 + x.toNat := ⟨_, rfl⟩
  have hNi : (60 : Int) + (x.toNat : Int) = (N : Int) := by omega
  have hN1 : 60 ≤ N ∧ N ≤ 315 := by omega
  clear hN
  go_enter Tryd.func4, Tryd.ntmps4
  go_wp2_with (first
    | (go_at_call 9; refine hk.mono ?_; rintro e w1 ⟨rfl, hB⟩; have B1 := hide hB; clear hB)
    | (go_at_call 12; refine (hli _ B1.out).mono ?_; rintro e w' ⟨rfl, hw⟩; rw [hw]; clear hw w')
    | fail)
  refine (new_at FF w1 (fun _ h => h.elim) (N : Int) 512 N 512 (by omega) (by omega) (by omega) (by omega) (by omega) (by decide)).mono ?_
  rintro e w2 ⟨rfl, hD, hB2, hs2⟩
  have D2 : Hid (DiskAt FF w2 (w1.heap.size + 2) w1.heap.size (w1.heap.size + 1) (K.St.new N 512)) := hD
  have B2 := hide (B1.out.trans (hB2.mono B1.out.size))
  have z1 := B1.out.size
  have HS2 := hide hs2
  clear hD hB2 hk hs2 hli
  go_wp2_with fail
  refine (open_new w2 (HT.out.below B2.out hpos) _ _ _ N 512 (by omega) D2.out (by have := HS2.out; omega)).mono ?_
  rintro e w3 ⟨v3, M3, rfl, J3, D3, V3, z3, O3⟩
  obtain ⟨a3, c3, hv3⟩ := O3.slice
  rw [hv3]
  have W3 : Hid (JW w (w1.heap.size + 2) w1.heap.size w2.heap.size M3 (newS N 512) h0 [] w3) := ⟨V3.below B2.out B2.out.size (by omega) (by omega) (by omega), by omega, by omega, by have := HS2.out; omega, by have := HS2.out; omega, D3, newS_is N 512 (by omega), J3⟩
  have zz3 : w2.heap.size ≤ w3.heap.size := V3.size
  clear J3 D3 V3 z3 O3 hv3 D2
  obtain ⟨D, hDe⟩ : ∃ D, D = w1.heap.size + 2 := ⟨_, rfl⟩
  rw [← hDe] at W3 ⊢
  obtain ⟨SS, hSe⟩ : ∃ SS, SS = w1.heap.size := ⟨_, rfl⟩
  rw [← hSe] at W3
  have hSlt : SS < w3.heap.size := by have := HS2.out; omega
  obtain ⟨B4, hB4⟩ : ∃ B4, B4 = w3.heap.size := ⟨_, rfl⟩
  rw [← hB4] at hSlt
  have HB4 : Hid (B4 ≤ w3.heap.size) := by show _ ≤ _; omega
  generalize w2.heap.size = bJ at W3 ⊢
  clear hDe hSe zz3 HS2 hB4 z1
  have he1 : ∀ (g : Nat) (W : World), (binOp .eql 31 (.pointer (some ⟨g, 0, none⟩)) (.pointer none)).run Tryd.prog W = .ok (.bool false) W := fun _ _ => rfl
  have hrm := room_any w3 D SS M3 bJ (newS N 512) h0 false W3.out.dk W3.out.is.n8 W3.out.is.u W3.out.is.ok.b W3.out.jr
  rw [room_new] at hrm
  obtain ⟨R0, hR0⟩ : ∃ R0, R0 = min ((N - 2) / 2 * 512 - 12) 16777216 := ⟨_, rfl⟩
  rw [← hR0] at hrm
  have hR1 : N * 128 ≤ R0 + 1024 := by omega
  have hR2 : R0 ≤ 16777216 := by omega
  have hR3 : ¬ (R0 : Int) < (N : Int) * 512 / 4 - 1024 := by omega
  clear hR0
  go_wp2_with (first
    | (go_at_call 15; refine hrm.mono ?_; rintro e w4 ⟨rfl, hb4⟩; have W4 := hide (W3.out.below hb4); have z4 : Hid (B4 ≤ w4.heap.size) := Nat.le_trans HB4.out hb4.size; clear hb4)
    | fail)
  clear hrm hR1 hR2 hR3 W3 HB4 hNi
  have harb : ∀ s : K.St, s.n = N → s.sz = 512 → J.arb s = (N - 2) / 2 * 512 := fun s h1 h2 => by unfold J.arb J.ars; rw [h1, h2]
  have hne1 : ∀ (g : Nat) (W : World), (binOp .neq 31 (.pointer (some ⟨g, 0, none⟩)) (.pointer none)).run Tryd.prog W = .ok (.bool true) W := fun _ _ => rfl
  go_loopw [6, 9, 10, 11] (fun jv al cm q wr => ∃ (i bJ M : Nat) (s : K.St) (h : J.H) (L : List (List UInt8)), i ≤ A.length ∧ q = .int .i64 (i : Int) ∧ jv = .pointer (some ⟨bJ, 0, none⟩) ∧ cm = .int .u64 (h.c : Int) ∧ JW w D SS bJ M s h L wr ∧ s.n = N ∧ s.sz = 512 ∧ h.c ≤ i ∧ h.b ≤ 6 * i ∧ OwnBs wr B4 al L ∧ B4 ≤ wr.heap.size) (fun jv al cm q wr => A.length - (intOf q).toNat)
  case atStart => exact ⟨0, bJ, M3, newS N 512, h0, [], by omega, rfl, rfl, rfl, W4.out, newS_n N 512, newS_sz N 512, Nat.le_refl _, Nat.le_refl _, OwnBs.nil _ _, z4.out⟩
  case round =>
    obtain ⟨i, bJ', M, s, h, L, hi, rfl, rfl, rfl, hW, hsn, hsz, hci, hbi, hO, hB4⟩ := hrel
    obtain ⟨wA, rfl⟩ : ∃ wA, wA = wr := ⟨wr, rfl⟩
    have WA := hide hW
    have OA := hide hO
    have hab := harb s hsn hsz
    obtain ⟨aL, cL, hvL⟩ := hO.slice
    rw [hvL] at OA ⊢
    have hu := hW.is.u
    have hLl := hide hW.is.len
    have HSN := hide (And.intro hsn hsz)
    have HPW := hide hW.is.pw
    clear hW hO hvL W4 hsn hsz
    by_cases hlt : i < A.length
    · have hlt' : (i : Int) < (A.length : Int) := by omega
      obtain ⟨b, o, rfl, hb, hc⟩ := (HA.out.below WA.out.bl (Nat.le_refl _)) (by omega)
      obtain ⟨c1, a2, cc2, c2, hls, _⟩ := hc i hlt
      have hl6 := H6.out i hlt
      generalize (A.getD i (0, [])).1 = X at c1
      generalize (A.getD i (0, [])).2 = ls at c2 hls hl6
      have HLS := hide hls
      clear hc hls
      go_wp2_with fail
      refine (batch_any wA (i : Int) (by omega) (by omega) a2 cc2 ls (by omega) HLS.out).mono ?_
      rintro e w5 ⟨v5, rfl, R, O5, hRl, hRk, b5⟩
      have hR255 : ∀ k, k < R.length → (R.getD k []).length ≤ 255 := fun k hk => by rw [hRk k (by omega)]; have := (ls.getD k 0).toNat_lt; omega
      have hsz2 := J.sz2_bound 255 R hR255
      have hfz2 := J.fsz_sz2 R
      have hln2 := J.sz2_len R
      have hRl6 : R.length ≤ 6 := by omega
      have hX6 : J.sz2 R ≤ 1626 := by
        have : R.length * (255 + 16) ≤ 6 * (255 + 16) := Nat.mul_le_mul_right _ hRl6
        omega
      obtain ⟨a5, c5, hv5⟩ := O5.slice
      rw [hv5] at O5 ⊢
      have W5 := hide (WA.out.below b5)
      have OB5 := hide (OA.out.bel b5)
      have O5H := hide (O5.low hB4)
      have z5 : Hid (B4 ≤ w5.heap.size) := Nat.le_trans hB4 b5.size
      have k1 : w5.cell? ⟨b, o + i * 2, none⟩ = some (.int .i64 X) := (b5.cell (p := ⟨b, o + i * 2, none⟩) (Nat.lt_of_lt_of_le hb (Nat.le_refl _))).trans c1
      clear O5 hv5 b5 hRk hR255 hsz2 WA OA c1 c2 HLS hB4 hl6 hRl
      have hrm := room_any w5 D SS M bJ' s h false W5.out.dk W5.out.is.n8 W5.out.is.u W5.out.is.ok.b W5.out.jr
      obtain ⟨Rm, hRm⟩ : ∃ Rm, Rm = J.room s h := ⟨_, rfl⟩
      rw [← hRm] at hrm
      have hRmE : Rm = min ((N - 2) / 2 * 512 - h.u - 12) ((1048576 - h.b) * 16) := by rw [hRm, J.room, hab]
      rw [hab] at hu
      clear hRm
      have hblt : b < w5.heap.size := block_lt_of_cell k1
      go_wp2_with fail
      refine hrm.mono ?_
      rintro e w6 ⟨rfl, b6⟩
      have W6 := hide (W5.out.below b6)
      have OB6 := hide (OB5.out.bel b6)
      have O6H := hide (O5H.out.bel b6)
      have z6 : Hid (B4 ≤ w6.heap.size) := Nat.le_trans z5.out b6.size
      have k2 : w6.cell? ⟨b, o + i * 2, none⟩ = some (.int .i64 X) := (b6.cell (p := ⟨b, o + i * 2, none⟩) hblt).trans k1
      clear b6 hrm W5 OB5 O5H z5 k1 hblt
      by_cases h5 : X = 5
      · subst h5
        have hop := open_is w6 (W6.out.tab HT.out) D SS M s W6.out.dk h L W6.out.is (W6.out.pos HT.out)
        go_wp2_with fail
        refine hop.mono ?_
        rintro e w7 ⟨v7, M7, rfl, J7, D7, V7, z7, O7⟩
        obtain ⟨a7, c7, hv7⟩ := O7.slice
        rw [hv7] at O7 ⊢
        have W7 := hide (W6.out.opened V7 z7 D7 J7)
        have OB7 := hide (V7.keepBs W6.out.dk OB6.out hSlt)
        have zz7 : Hid (B4 ≤ w7.heap.size) := Nat.le_trans z6.out V7.size
        have hbl := blobs_same w7 a7 aL c7 cL L.length L.length L rfl rfl (by have := hLl.out; omega) O7.sl OB7.out.sl
        generalize w6.heap.size = bJ7 at W7 ⊢
        clear J7 D7 V7 z7 O7 hv7 hop W6 OB6 O6H z6 k2
        go_wp2_with (first
          | (go_at_call 17; refine hbl.mono ?_; rintro e w8 ⟨rfl, m, hw8⟩; have W8 : Hid (JW w D SS bJ7 M7 s.synced h L w8) := (by rw [hw8]; exact W7.out.below (below_drewN (Below.refl _ _) m)); have OB8 : Hid (OwnBs w8 B4 (.slice aL L.length cL) L) := (by rw [hw8]; exact OB7.out.drewN m); have zz8 : Hid (B4 ≤ w8.heap.size) := (by rw [hw8]; exact zz7.out); have hcm := commits_any w8 D bJ7 h false W8.out.jr; clear hw8)
          | (go_at_call 18; refine hcm.mono ?_; rintro e w' ⟨rfl, hw⟩; rw [hw]; clear hw w')
          | fail)
        go_roundw
        case rel => exact ⟨i + 1, bJ7, M7, s.synced, h, L, by omega, by go_num, rfl, rfl, W8.out, by rw [synced_n HPW.out]; exact HSN.out.1, by rw [synced_sz HPW.out]; exact HSN.out.2, by omega, by omega, OB8.out, zz8.out⟩
        case measure => simp [intOf]; omega
      have e5 : (X == 5) = false := by simp [h5]
      obtain ⟨C1, hC1⟩ : ∃ C1 : Nat, (h.c : Int) + 1 = (C1 : Int) := ⟨h.c + 1, by omega⟩
      have HC1 : Hid (C1 = h.c + 1) := by show _ = _; omega
      by_cases h4 : X = 4
      · subst h4
        have hrs := reset_is w6 (W6.out.tab HT.out) D SS M bJ' s h L W6.out.is W6.out.dk W6.out.jr (W6.out.pos HT.out) a5 c5 R O6H.out.sl (by omega) (by omega) (by omega)
        go_wp2_with fail
        refine hrs.mono ?_
        rintro e w7 ⟨xx, rfl, hx⟩
        obtain ⟨_, rfl, M', s', hl⟩ := hx.resolve_right (fun h => absurd h.1 (by omega))
        have W7 := hide (W6.out.laid hl)
        have O7 := hide (hl.keepBs W6.out.dk W6.out.jr O6H.out hSlt)
        have n' := hide (hl.n.trans HSN.out.1)
        have z' := hide (hl.sz.trans HSN.out.2)
        have zz7 : Hid (B4 ≤ w7.heap.size) := Nat.le_trans z6.out hl.mv.size
        have hcm : Calls Tryd.prog 18 #[.pointer (some ⟨bJ', 0, none⟩)] w7 fun e w' => e = .returned (.int .u64 (C1 : Int)) ∧ w' = w7 := by rw [HC1.out]; exact commits_any w7 D bJ' _ false W7.out.jr
        clear hl hx hrs W6 O6H OB6 z6 k2
        go_wp2_with (first
          | (go_at_call 18; refine hcm.mono ?_; rintro e w' ⟨rfl, hw⟩; rw [hw]; clear hw w')
          | fail)
        go_roundw
        case rel => exact ⟨i + 1, bJ', M', s', _, R, by omega, by go_num, rfl, by rw [HC1.out]; rfl, W7.out, n'.out, z'.out, by show h.c + 1 ≤ _; omega, by show 0 + R.length ≤ _; omega, O7.out, zz7.out⟩
        case measure => simp [intOf]; omega
      · have e4 : (X == 4) = false := by simp [h4]
        have hcs := commit_is w6 (W6.out.tab HT.out) D SS M bJ' s h L W6.out.is W6.out.dk W6.out.jr (W6.out.pos HT.out) a5 c5 R O6H.out.sl (by omega) (by omega) (by omega)
        have hszc : ∀ W, SlBs W a5 R → Calls Tryd.prog 20 #[.slice a5 R.length c5] W fun e w' => e = .returned (.int .i64 (J.sz2 R : Int)) ∧ w' = W := fun W hW => size_any2 W a5 c5 R (by omega) hW
        rw [hab] at hcs
        obtain ⟨Z2, hZ2⟩ : ∃ Z2, Z2 = J.sz2 R := ⟨_, rfl⟩
        rw [← hZ2] at hszc hfz2 hln2 hX6
        clear hZ2
        go_wp2_with fail
        refine hcs.mono ?_
        rintro e w7 (⟨hroom, rfl, M', s', hl⟩ | ⟨hfull, rfl, hb7⟩)
        · have W7 := hide (W6.out.laid hl)
          have O7 := hide (hl.keepBs W6.out.dk W6.out.jr O6H.out hSlt)
          have OB7 := hide (hl.keepBs W6.out.dk W6.out.jr OB6.out hSlt)
          have n' := hide (hl.n.trans HSN.out.1)
          have z' := hide (hl.sz.trans HSN.out.2)
          have zz7 : Hid (B4 ≤ w7.heap.size) := Nat.le_trans z6.out hl.mv.size
          have hLn : L.length ≤ 1000 := by have := hLl.out; omega
          clear hl hcs W6 O6H OB6 z6 k2
          go_wp2_with (first
            | (at_builtin; refine wpList_append_Bs rfl (.tmp 93) (.tmp 94) rfl w7.heap.size _ _ rfl O8.out _ _ _ B4 R rfl rfl OC8.out (by simp; omega) z8.out ?_; intro v9 w9 P9 _ _ b9; have b79 := B8.out.trans b9; obtain ⟨a9, c9, hv9⟩ := P9.slice; rw [hv9] at P9; rw [hv9]; have O9 := hide (P9.low zz7.out); have OC9 := hide (O7.out.bel b79); have W9 := hide (W7.out.below b79); have zz9 : Hid (B4 ≤ w9.heap.size) := Nat.le_trans zz7.out b79.size; have hrm9 := room_any w9 D SS M' bJ' s' _ false W9.out.dk W9.out.is.n8 W9.out.is.u W9.out.is.ok.b W9.out.jr; clear P9 b9 b79 hv9 O8 B8 z8 OC8)
            | (at_builtin; refine wpList_append_Bs rfl (.const (.slice none 0 0)) (.tmp 92) rfl w7.heap.size _ [] rfl (OwnBs.nil _ _) _ _ _ B4 L rfl rfl OB7.out (by simp; omega) (Nat.le_refl _) ?_; intro v8 w8 P8 _ _ b8; obtain ⟨a8, c8, hv8⟩ := P8.slice; rw [hv8] at P8; rw [hv8]; have O8 := hide P8; have B8 := hide b8; have z8 := hide b8.size; have OC8 := hide (O7.out.bel b8); clear P8 b8 hv8)
            | fail)
          have hrE : J.room s' (nextH h R) = min ((N - 2) / 2 * 512 - (h.u + J.fsz R) - 12) ((1048576 - (h.b + R.length)) * 16) := by
            unfold J.room
            rw [harb s' n'.out z'.out]; rfl
          obtain ⟨Rn, hRn⟩ : ∃ Rn, Rn = J.room s' (nextH h R) := ⟨_, rfl⟩
          rw [← hRn] at hrm9 hrE
          have hRb : (Rm : Int) ≤ 16777216 ∧ (Rn : Int) ≤ 16777216 := by omega
          have hcmp : ¬ (Rn : Int) < (Rm : Int) - (Z2 : Int) - 1024 := by omega
          clear hRn hrE
          refine hrm9.mono ?_
          rintro e w10 ⟨rfl, b10⟩
          have W10 := hide (W9.out.below b10)
          have O10 := hide (O9.out.bel b10)
          have S10 := hide (OC9.out.bel b10).sl
          have zz10 : Hid (B4 ≤ w10.heap.size) := Nat.le_trans zz9.out b10.size
          have hcm : Calls Tryd.prog 18 #[.pointer (some ⟨bJ', 0, none⟩)] w10 fun e w' => e = .returned (.int .u64 (C1 : Int)) ∧ w' = w10 := by rw [HC1.out]; exact commits_any w10 D bJ' _ false W10.out.jr
          clear hrm9 b10 W9 O9 OC9 zz9 W7 O7 OB7 zz7
          go_wp2_with (first
            | (go_at_call 20; refine (hszc _ S10.out).mono ?_; rintro e w' ⟨rfl, hw⟩; rw [hw]; clear hw w')
            | (go_at_call 18; refine hcm.mono ?_; rintro e w' ⟨rfl, hw⟩; rw [hw]; clear hw w')
            | fail)
          go_roundw
          case rel => exact ⟨i + 1, bJ', M', s', _, L ++ R, by omega, by go_num, rfl, by rw [HC1.out]; rfl, W10.out, n'.out, z'.out, by show h.c + 1 ≤ _; omega, by show h.b + R.length ≤ _; omega, by first | exact O10.out | simpa using O10.out, zz10.out⟩
          case measure => simp [intOf]; omega
        · have W7 := hide (W6.out.below hb7)
          have OB7 := hide (OB6.out.bel hb7)
          have S7 := hide (O6H.out.bel hb7).sl
          have zz7 : Hid (B4 ≤ w7.heap.size) := Nat.le_trans z6.out hb7.size
          have hRb : (Rm : Int) ≤ 16777216 := by omega
          have hcmp : ¬ (Z2 : Int) + 1024 ≤ (Rm : Int) := by omega
          have hcm := commits_any w7 D bJ' h false W7.out.jr
          clear hb7 hcs W6 O6H OB6 z6 k2 hC1
          go_wp2_with (first
            | (go_at_call 20; refine (hszc _ S7.out).mono ?_; rintro e w' ⟨rfl, hw⟩; rw [hw]; clear hw w')
            | (go_at_call 18; refine hcm.mono ?_; rintro e w' ⟨rfl, hw⟩; rw [hw]; clear hw w')
            | fail)
          go_roundw
          case rel => exact ⟨i + 1, bJ', M, s, h, L, by omega, by go_num, rfl, rfl, W7.out, HSN.out.1, HSN.out.2, by omega, by omega, OB7.out, zz7.out⟩
          case measure => simp [intOf]; omega
    · have hlt' : ¬ (i : Int) < (A.length : Int) := by omega
      have hop := open_is wA (WA.out.tab HT.out) D SS M s WA.out.dk h L WA.out.is (WA.out.pos HT.out)
      go_wp2_with fail
      refine hop.mono ?_
      rintro e w7 ⟨v7, M7, rfl, J7, D7, V7, z7, O7⟩
      obtain ⟨a7, c7, hv7⟩ := O7.slice
      rw [hv7] at O7 ⊢
      have W7 := hide (WA.out.opened V7 z7 D7 J7)
      have OB7 := hide (V7.keepBs WA.out.dk OA.out hSlt)
      have hbl := blobs_same w7 a7 aL c7 cL L.length L.length L rfl rfl (by have := hLl.out; omega) O7.sl OB7.out.sl
      clear J7 D7 V7 z7 O7 hv7 hop WA OA
      go_wp2_with (go_at_call 17; refine hbl.mono ?_; rintro e w8 ⟨rfl, m, hw8⟩; have BW8 : Hid (Below w.heap.size w w8) := (by rw [hw8]; exact below_drewN W7.out.bl m); clear hw8)
      go_ret
      exact ⟨rfl, BW8.out⟩
end Go.Proofs.YtidocfajhhpfdaaDoor
