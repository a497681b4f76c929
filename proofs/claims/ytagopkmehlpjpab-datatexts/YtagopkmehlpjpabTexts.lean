/- signetlaw5.DataTexts: the walk. -/
import Derived.Test.YtagopkmehlpjpabKnown
import Derived.Test.YtagopkmehlpjpabMk
import Derived.Deep.RegionHeld3
namespace Go.Proofs.Ytagopkmehlpjpab
open Go.RowKit
set_option maxRecDepth 5000 in
theorem place_any (n : Int) (k : Nat) (w : World) (hk : 0 < k) (hk2 : k ≤ 1000000) :
    Calls Try.prog 6 #[.int .i64 n, .int .i64 (k : Int)] w fun e w' => ∃ r : Nat, r < k ∧ e = .returned (.int .i64 (r : Int)) ∧ w' = w := by
  have hne : ((k : Int) == 0) = false := beq_eq_false_iff_ne.2 (by omega)
  have hk0 : (k : Int) ≠ 0 := by omega
  have hb : -(k : Int) < n.tmod k ∧ n.tmod k < k := by
    have h3 := Int.tmod_lt_of_pos n (b := (k : Int)) (by omega)
    refine ⟨?_, h3⟩
    have h4 := Int.lt_tmod_of_pos n (b := (k : Int)) (by omega)
    exact h4
  go_enter Try.func6, Try.ntmps6
  go_wp2
  · go_ret
    refine ⟨(n.tmod k + k).toNat, by omega, ?_, rfl⟩
    show Ending.returned (.int .i64 (n.tmod k + k)) = _
    rw [Int.toNat_of_nonneg (by omega)]
  · go_ret
    refine ⟨(n.tmod k).toNat, by omega, ?_, rfl⟩
    show Ending.returned (.int .i64 (n.tmod k)) = _
    rw [Int.toNat_of_nonneg (by omega)]
namespace D
/- texts of noughts, of these lengths -/
def tx (l : List UInt8) : List UInt8 := l.flatMap (fun k => k :: List.replicate k.toNat 0)
set_option maxRecDepth 5000 in
theorem tx_cons (k : UInt8) (l : List UInt8) : tx (k :: l) = k :: (List.replicate k.toNat 0 ++ tx l) := by simp [tx]
set_option maxRecDepth 5000 in
theorem tx_next (l : List UInt8) (j : Nat) (h : j < l.length) : tx (l.take (j + 1)) = tx (l.take j) ++ [l.getD j 0] ++ List.replicate (l.getD j 0).toNat 0 := by
  rw [N.take_nextB l j h]; simp [tx]
set_option maxRecDepth 5000 in
theorem tx_len : ∀ (l : List UInt8), (tx l).length ≤ 256 * l.length
  | [] => by simp [tx]
  | k :: l => by
    have h := tx_len l
    have := k.toNat_lt
    rw [tx_cons, List.length_cons, List.length_append, List.length_replicate, List.length_cons]; omega
set_option maxRecDepth 5000 in
theorem tx_pos (l : List UInt8) (h : l ≠ []) : 0 < (tx l).length := by
  match l with
  | k :: l => rw [tx_cons]; simp
/- is there a text's end at k? -/
def bd : List UInt8 → Nat → Bool
  | [], _ => false
  | a :: r, k => if k = 0 then false else if k - 1 < a.toNat then false else if k - 1 = a.toNat then true else bd r (k - 1 - a.toNat)
set_option maxRecDepth 5000 in
theorem tok_take : ∀ (l : List UInt8) (k : Nat), k ≤ (tx l).length → tok ((tx l).take k) = bd l k
  | [], k, h => by
    have : k = 0 := by simpa [tx] using h
    subst this
    rw [List.take_zero, tok]; rfl
  | a :: r, k, h => by
    unfold bd
    split
    · rename_i h0; subst h0; rw [List.take_zero, tok]
    · rename_i h0
      obtain ⟨m, rfl⟩ : ∃ m, k = m + 1 := ⟨k - 1, by omega⟩
      rw [tx_cons] at h ⊢
      rw [List.length_cons, List.length_append, List.length_replicate] at h
      rw [List.take_succ_cons, tok]
      have hl : ((List.replicate a.toNat 0 ++ tx r).take m).length = m := by rw [List.length_take, List.length_append, List.length_replicate]; omega
      rw [hl, Nat.add_sub_cancel]
      split
      · rfl
      · split
        · rfl
        · rename_i h1 h2
          have e : ((List.replicate a.toNat 0 ++ tx r).take m).drop a.toNat = (tx r).take (m - a.toNat) := by
            rw [List.drop_take, List.drop_append_of_le_length (by simp), List.drop_of_length_le (by simp), List.nil_append]
          rw [e]
          exact tok_take r (m - a.toNat) (by omega)
set_option maxRecDepth 5000 in
theorem tok_tx (l : List UInt8) : tok (tx l) = decide (l ≠ []) := by
  have h := tok_take l (tx l).length (Nat.le_refl _)
  rw [List.take_length] at h
  rw [h]
  induction l with
  | nil => rfl
  | cons a r ih =>
    have ih := ih (by have := tok_take r (tx r).length (Nat.le_refl _); rwa [List.take_length] at this)
    unfold bd
    rw [tx_cons, List.length_cons, List.length_append, List.length_replicate]
    rw [if_neg (by omega), if_neg (by omega), Nat.add_sub_cancel]
    by_cases hr : r = []
    · subst hr; simp [tx]
    · have := tx_pos r hr
      rw [if_neg (by omega), Nat.add_sub_cancel_left, ih]
      simp [hr]
/- how far the second loop goes -/
def lp : List UInt8 → Nat → Nat → Nat
  | [], _, p => p
  | a :: r, k, p => if p < k then lp r k (p + 1 + a.toNat) else p
set_option maxRecDepth 5000 in
theorem lp_stop (l : List UInt8) (k p : Nat) (h : k ≤ p) : lp l k p = p := by
  cases l with
  | nil => rfl
  | cons a r => unfold lp; rw [if_neg (by omega)]
set_option maxRecDepth 5000 in
theorem lp_bd : ∀ (l : List UInt8) (k p : Nat), p ≤ k → decide (lp l k p = k) = (decide (p = k) || bd l (k - p))
  | [], k, p, _ => by rw [show bd [] (k - p) = false from rfl, Bool.or_false]; rfl
  | a :: r, k, p, h => by
    unfold lp bd
    by_cases hp : p = k
    · subst hp; simp
    · rw [if_pos (by omega), if_neg (by omega)]
      rcases Nat.lt_or_ge (k - p - 1) a.toNat with h1 | h1
      · rw [if_pos h1, lp_stop r k _ (by omega)]
        simp [hp]; omega
      · rw [if_neg (by omega), lp_bd r k (p + 1 + a.toNat) (by omega)]
        by_cases h2 : k - p - 1 = a.toNat
        · rw [if_pos h2]
          have : p + 1 + a.toNat = k := by omega
          simp [this]
        · rw [if_neg h2]
          have h3 : ¬ p + 1 + a.toNat = k := by omega
          have h4 : k - (p + 1 + a.toNat) = k - p - 1 - a.toNat := by omega
          simp [h3, hp, h4]
set_option maxRecDepth 5000 in
theorem lp_next (l : List UInt8) (j k p : Nat) (h : j < l.length) (hp : p < k) : lp (l.drop j) k p = lp (l.drop (j + 1)) k (p + 1 + (l.getD j 0).toNat) := by
  rw [N.drop_at l j h]
  show (if p < k then _ else _) = _
  rw [if_pos hp]
set_option maxRecDepth 5000 in
theorem lp_end (l : List UInt8) (j k p : Nat) (h : l.length ≤ j ∨ k ≤ p) : lp (l.drop j) k p = p := by
  rcases h with h | h
  · rw [List.drop_eq_nil_of_le h]; rfl
  · exact lp_stop _ k p h
set_option maxRecDepth 5000 in
theorem code_txt (b : List UInt8) (h : b.length ≤ 8192) : codeOf (full b (can 16 b)) = if tok b then 0 else 50 := by
  have e : can 16 b = txt b := rfl
  rw [e]
  unfold txt
  split
  · rw [full_some h rfl]; rfl
  · rw [full_none rfl]; rfl
end D
set_option maxHeartbeats 1600000 in
set_option maxRecDepth 5000 in
theorem texts_walk (l : List UInt8) (ao : Option Addr) (len cap : Nat) (cut : Int) (w : World) (hl : Hid (l.length = len)) (hs : SlL w ao l) (hlen : len ≤ 9223372036854775807) :
    Calls Try.prog 3 #[.slice ao len cap, .int .i64 cut] w fun e w' => e = .returned (.bool true) ∧ Below w.heap.size w w' := by
  have HS := hide hs
  clear hs
  go_enter Try.func3, Try.ntmps3
  go_wp2_with fail
  refine (known_any _).mono ?_
  rintro e w1 ⟨rfl, hb1⟩
  have B1 := hide hb1
  clear hb1
  rcases Nat.lt_or_ge 20 len with hlt | hge
  · have hlt' : (20 : Int) < (len : Int) := by omega
    go_wp2
    go_ret
    exact ⟨rfl, B1.out⟩
  have hlt' : ¬ (20 : Int) < (len : Int) := by omega
  go_wp2
  go_loopw [6, 5] (fun i v wr => ∃ j : Nat, i = .int .i64 (j : Int) ∧ j ≤ len ∧ OwnB wr w.heap.size v (D.tx (l.take j)) ∧ Below w.heap.size w wr) (fun i _ _ => len - (intOf i).toNat)
  case atStart => exact ⟨0, rfl, by omega, OwnB.nil _ _, B1.out⟩
  case round =>
    clear B1
    obtain ⟨j, rfl, hj, hO, hB⟩ := hrel
    have hz := hB.size
    have HO := hide hO
    have HB := hide hB
    have htl := D.tx_len (l.take j)
    have htl2 : (D.tx (l.take j)).length ≤ 5120 := by rw [List.length_take] at htl; omega
    clear hO hB htl
    by_cases hjl : j < len
    · obtain ⟨b1, o1, rfl, hb1, hc1⟩ := HS.out (by have := hl.out; omega)
      have hx0 := hc1 j (by have := hl.out; omega)
      have hx := (HB.out.cell (p := ⟨b1, o1 + j, none⟩) hb1).trans hx0
      have hn := D.tx_next l j (by have := hl.out; omega)
      have hy := (l.getD j 0).toNat_lt
      clear hc1
      generalize l.getD j 0 = x at hx hn hx0 hy
      have HN := hide hn
      have HX0 := hide hx0
      have hj1 : (j : Int) < (len : Int) := by omega
      have hxa : ∀ o, (wr.alloc o).cell? ⟨b1, o1 + j, none⟩ = some (.int .u8 (x.toNat : Int)) := fun o => (((Below.refl wr.heap.size wr).alloc (Nat.le_refl _) o).cell (p := ⟨b1, o1 + j, none⟩) (by show b1 < _; omega)).trans hx
      have hwx : IntKind.i64.wrap (x.toNat : Int) = (x.toNat : Int) := wrap_nat _ (by omega)
      clear hn hx0
      go_wp2
      go_region_held3 (fun w' => w'.cell? ⟨b1, o1 + j, none⟩ = some (.int .u8 (x.toNat : Int))) ((first | exact hx5 | exact hx4 | exact hxa _ | exact hx)) ((first
        | (refine step_append_B rfl (.tmp 21) (.tmp 26) rfl w.heap.size _ (D.tx (l.take j)) (by rfl) (by exact HO.out.alloc _) ⟨wr.heap.size, 0, none⟩ 1 1 [x] (by rfl) rfl (by exact SlL.one wr x 5) (by simp; omega) (by simp; omega) ?_; intro v4 w4 hO4 hG4; have hB4 := grown_below (w := (wr.alloc (.cells #[.int .u8 (x.toNat : Int)] 5)).drew) (HO.out.alloc _) hG4 (below_drew (HB.out.alloc hz _)) (by show _ ≤ (wr.alloc _).heap.size; simp; omega); have hx4 : w4.cell? ⟨b1, o1 + j, none⟩ = some (.int .u8 (x.toNat : Int)) := (hB4.cell (p := ⟨b1, o1 + j, none⟩) hb1).trans HX0.out; have hz4 := hB4.size; have O4 := hide hO4; have B4 := hide hB4; clear hG4 hO4 hB4)
        | (refine step_append_make rfl (.tmp 27) (.tmp 32) rfl w.heap.size v4 (D.tx (l.take j) ++ [x]) (by rfl) (by exact O4.out) x.toNat (by first | (simp [Act.eval]; done) | (show Value.int .i64 (IntKind.i64.wrap (x.toNat : Int)) = _; rw [hwx])) (by omega) (by simp; omega) hz4 ?_; intro v5 w5 hO5 hG5; have hB5 := grown_below O4.out hG5 B4.out hz4; have hx5 : w5.cell? ⟨b1, o1 + j, none⟩ = some (.int .u8 (x.toNat : Int)) := (hB5.cell (p := ⟨b1, o1 + j, none⟩) hb1).trans HX0.out; have O5 := hide hO5; have B5 := hide hB5; clear hG5 hO5 hB5)))
      all_goals
        go_wp2
        go_roundw
        case rel => exact ⟨j + 1, by go_num, by omega, (by rw [HN.out]; exact O5.out), B5.out⟩
        case measure => simp [intOf]; omega
    · obtain rfl : j = len := by omega
      have ht : l.take j = l := by rw [← hl.out]; exact List.take_length
      rw [ht] at HO htl2
      have hjn : ¬ (j : Int) < (j : Int) := by omega
      obtain ⟨a5, c5, rfl, hs5, hn5, hc5, _⟩ := HO.out.open
      have S5 := hide hs5
      have N5 := hide hn5
      have HC5 := hide (D.code_txt (D.tx l) (by omega))
      clear hs5 hn5
      go_wp2_with fail
      refine (dCheck_any 16 (D.tx l) a5 (D.tx l).length c5 _ rfl (by exact S5.out) hc5 N5.out).mono ?_
      rw [HC5.out, D.tok_tx]
      rintro e w6 ⟨rfl, hb6⟩
      have B6 := hide (HB.out.trans (hb6.mono HB.out.size))
      have S6 := hide (S5.out.below hb6 (Nat.le_refl _))
      clear hb6 HC5
      by_cases hl0 : l = []
      · subst hl0
        obtain rfl : j = 0 := hl.out.symm
        go_wp2
        go_ret
        exact ⟨rfl, B6.out⟩
      have hpos := D.tx_pos l hl0
      have hjpos : 0 < j := by rw [← hl.out]; exact List.length_pos_iff.2 hl0
      rw [show (decide (l ≠ []) : Bool) = true from decide_eq_true hl0]
      have hj0 : (0 : Int) < (j : Int) := by omega
      have hne0 : (((D.tx l).length : Int) == 0) = false := beq_eq_false_iff_ne.2 (by omega)
      go_wp2_with fail
      refine (place_any cut (D.tx l).length _ hpos (by omega)).mono ?_
      rintro e w7 ⟨k, hk, rfl, rfl⟩
      go_wp2
      go_loopw [9, 8] (fun i p wr => ∃ (q at_ : Nat), i = .int .i64 (q : Int) ∧ p = .int .i64 (at_ : Int) ∧ q ≤ j ∧ at_ ≤ 256 * q ∧ Hid (D.lp (l.drop q) k at_ = D.lp l k 0) ∧ wr = w7) (fun i _ _ => j - (intOf i).toNat)
      case atStart => exact ⟨0, 0, rfl, rfl, by omega, by omega, rfl, rfl⟩
      case round =>
        obtain ⟨q, at_, rfl, rfl, hq, hat, HL, rfl⟩ := hrel
        by_cases hgo : q < j ∧ at_ < k
        · obtain ⟨hq1, ha1⟩ := hgo
          obtain ⟨b1, o1, rfl, hb1, hc1⟩ := HS.out (by have := hl.out; omega)
          have hx := (B6.out.cell (p := ⟨b1, o1 + q, none⟩) hb1).trans (hc1 q (by have := hl.out; omega))
          have hn := D.lp_next l q k at_ (by have := hl.out; omega) ha1
          have hy := (l.getD q 0).toNat_lt
          clear hc1
          generalize (l.getD q 0).toNat = y at hx hn hy
          have HN := hide (hn.symm.trans HL.out)
          have hq2 : (q : Int) < (j : Int) := by omega
          have ha2 : (at_ : Int) < (k : Int) := by omega
          clear hn
          go_wp2
          go_roundw
          case rel => exact ⟨q + 1, at_ + 1 + y, by go_num, by go_num, by omega, by omega, HN, trivial⟩
          case measure => simp [intOf]; omega
        · have hend := D.lp_end l q k at_ (by have := hl.out; omega)
          rw [hend] at HL
          have hlb := D.lp_bd l k 0 (by omega)
          rw [← HL.out, Nat.sub_zero] at hlb
          obtain ⟨a8, r8, s8, n8⟩ := slice_hd k (S6.out.slB) (by omega) hc5 N5.out
          have S8 := hide s8
          have HC8 := hide (D.code_txt ((D.tx l).take k) (by rw [List.length_take]; omega))
          rw [D.tok_take l k (by omega)] at HC8
          have hkl : Hid (((D.tx l).take k).length = k) := by show _ = _; rw [List.length_take]; omega
          have hkc : k ≤ c5 := by omega
          have hgd : ((decide ((q : Int) < (j : Int)) && decide ((at_ : Int) < (k : Int))) : Bool) = false := by
            rw [Bool.and_eq_false_iff]
            rcases Nat.lt_or_ge q j with h | h
            · right; exact decide_eq_false (by omega)
            · left; exact decide_eq_false (by omega)
          clear s8 hend
          rcases Nat.lt_or_ge q j with h | h
          all_goals
            go_wp2_with fail
            refine (dCheck_any 16 ((D.tx l).take k) a8 k c5 _ hkl (by exact S8.out.sl (Nat.le_refl _)) hkc n8).mono ?_
            rw [HC8.out]
            rintro e w8 ⟨rfl, hb8⟩
            have B8 := hide (B6.out.trans (hb8.mono B6.out.size))
            clear hb8 HC8
            rcases Nat.eq_zero_or_pos k with hk0 | hk0
            · subst hk0
              have hbd : D.bd l 0 = false := by cases l <;> rfl
              rw [hbd, if_neg (by decide)]
              go_wp2
              go_ret
              exact ⟨rfl, B8.out⟩
            · have hk1 : (0 : Int) < (k : Int) := by omega
              rw [show decide (0 = k) = false from decide_eq_false (by omega), Bool.false_or] at hlb
              by_cases hak : at_ = k
              · have hbd : D.bd l k = true := by rw [← hlb]; exact decide_eq_true hak
                have he : ((at_ : Int) == (k : Int)) = true := by rw [hak]; simp
                rw [hbd, if_pos rfl]
                clear hlb hak hbd
                go_wp2
                go_ret
                exact ⟨rfl, B8.out⟩
              · have hbd : D.bd l k = false := by rw [← hlb]; exact decide_eq_false hak
                have he : ((at_ : Int) == (k : Int)) = false := beq_eq_false_iff_ne.2 (by omega)
                rw [hbd, if_neg (by decide)]
                clear hlb hak hbd
                go_wp2
                go_ret
                exact ⟨rfl, B8.out⟩
end Go.Proofs.Ytagopkmehlpjpab
