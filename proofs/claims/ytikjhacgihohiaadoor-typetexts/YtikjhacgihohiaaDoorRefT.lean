/- The reference: types' texts. -/
import Derived.Test.YtikjhacgihohiaaDoorTxt2
namespace Go.Proofs.YtikjhacgihohiaaDoor
open Go.RowKit
namespace T
theorem pre_take (s : List UInt8) : Lib.hasPrefix s typeW = true ↔ s.take 4 = typeW := by
  unfold Lib.hasPrefix
  rw [List.isPrefixOf_iff_prefix]
  constructor
  · rintro ⟨r, rfl⟩; rfl
  · intro h
    exact ⟨s.drop 4, by rw [← h]; exact List.take_append_drop 4 s⟩
theorem rest_none (s : List UInt8) (h : s.take 4 = typeW → num (s.drop 4) = none) : parseFrom (tab.drop 14) s = none := by
  show (if Lib.hasPrefix s typeW then num (s.drop 4) else none) = none
  by_cases hp : Lib.hasPrefix s typeW = true
  · rw [if_pos hp]; exact h ((pre_take s).1 hp)
  · rw [if_neg hp]
theorem rest_some (s : List UInt8) (h : s.take 4 = typeW) : parseFrom (tab.drop 14) s = num (s.drop 4) := by
  show (if Lib.hasPrefix s typeW then num (s.drop 4) else none) = _
  rw [if_pos ((pre_take s).2 h)]
theorem num_len (d : List UInt8) (h : d.length < 1 ∨ 5 < d.length) : num d = none := num_none d fun n hn e => by
  have h1 := dec_len n hn
  have h2 := (dec_facts (n + 1) n (by omega)).2.2.1
  have h3 : 0 < (Lib.decDigits n).length := List.length_pos_iff.2 h2
  rw [e] at h; omega
theorem num_lead (d : List UInt8) (h : 1 < d.length) (h0 : d.getD 0 0 = 48) : num d = none := num_none d fun n hn e => by
  have h2 := (dec_facts (n + 1) n (by omega)).2.2.2.1
  rw [← e] at h2
  refine h2 h ?_
  cases d with
  | nil => simp at h
  | cons x r => simpa using h0
theorem num_bad (d : List UInt8) (i : Nat) (hi : i < d.length) (h : ¬ dig (d.getD i 0)) : num d = none := num_none d fun n hn e => by
  have h2 := (dec_facts (n + 1) n (by omega)).1
  rw [← e] at h2
  refine h (h2 _ ?_)
  rw [List.getD_eq_getElem?_getD, List.getElem?_eq_getElem hi]
  exact List.getElem_mem _
theorem num_great (d : List UInt8) (h : 65535 < val 0 d) : num d = none := num_none d fun n hn e => by
  have h2 := (dec_facts (n + 1) n (by omega)).2.1
  rw [← e] at h2; omega
theorem num_good (d : List UInt8) (h1 : d ≠ []) (h2 : ∀ c ∈ d, dig c) (h3 : 1 < d.length → d.getD 0 0 ≠ 48) (h4 : val 0 d ≤ 65535) : num d = some (val 0 d) := by
  refine (num_iff d _).2 ⟨by omega, ((dec_of_val d.length d (Nat.le_refl _) h2 h1 fun hl hh => ?_).1).symm⟩
  refine h3 hl ?_
  cases d with
  | nil => exact absurd rfl h1
  | cons x r => simpa using hh
theorem val_next (d : List UInt8) (i : Nat) (hi : i < d.length) : val 0 (d.take (i + 1)) = val 0 (d.take i) * 10 + ((d.getD i 0).toNat - 48) := by
  rw [List.take_succ_eq_append_getElem hi, val_app, val_cons, val_nil, List.getD_eq_getElem?_getD, List.getElem?_eq_getElem hi]
  rfl
theorem val_small (d : List UInt8) (h : ∀ c ∈ d, dig c) (k : Nat) (hl : d.length ≤ k) : val 0 d < 10 ^ k := by
  induction k generalizing d with
  | zero => obtain rfl : d = [] := List.eq_nil_of_length_eq_zero (by omega); rw [val_nil]; decide
  | succ k ih =>
    rcases List.eq_nil_or_concat d with rfl | ⟨e, c, rfl⟩
    · rw [val_nil]; exact Nat.pow_pos (by omega)
    · rw [List.concat_eq_append] at *
      have := ih e (fun x hx => h x (List.mem_append_left _ hx)) (by simp at hl; omega)
      have hc := h c (by simp)
      rw [val_app, val_cons, val_nil, Nat.pow_succ]
      unfold dig at hc
      omega
end T
/- the two lists -/
structure Words (w : World) (a b : Nat) : Prop where
  la : a < w.heap.size
  lb : b < w.heap.size
  kind : ∀ j, j < 14 → w.cell? ⟨a, j, none⟩ = some (.int .u16 (T.kindAt j : Int))
  word : ∀ j, j < 14 → w.cell? ⟨b, j, none⟩ = some (.string ⟨(T.wordAt j).toArray⟩)
def ks : Nat → List Value
  | 0 => []
  | k + 1 => ks k ++ [.int .u16 (T.kindAt k : Int)]
def ws : Nat → List Value
  | 0 => []
  | k + 1 => ws k ++ [.string ⟨(T.wordAt k).toArray⟩]
theorem ks_at (j : Nat) (hj : j < 14) : (ks 14).toArray[j]? = some (.int .u16 (T.kindAt j : Int)) := by
  rcases (by omega : j = 0 ∨ j = 1 ∨ j = 2 ∨ j = 3 ∨ j = 4 ∨ j = 5 ∨ j = 6 ∨ j = 7 ∨ j = 8 ∨ j = 9 ∨ j = 10 ∨ j = 11 ∨ j = 12 ∨ j = 13) with rfl | rfl | rfl | rfl | rfl | rfl | rfl | rfl | rfl | rfl | rfl | rfl | rfl | rfl <;> rfl
theorem ws_at (j : Nat) (hj : j < 14) : (ws 14).toArray[j]? = some (.string ⟨(T.wordAt j).toArray⟩) := by
  rcases (by omega : j = 0 ∨ j = 1 ∨ j = 2 ∨ j = 3 ∨ j = 4 ∨ j = 5 ∨ j = 6 ∨ j = 7 ∨ j = 8 ∨ j = 9 ∨ j = 10 ∨ j = 11 ∨ j = 12 ∨ j = 13) with rfl | rfl | rfl | rfl | rfl | rfl | rfl | rfl | rfl | rfl | rfl | rfl | rfl | rfl <;> rfl
theorem words_of (w : World) : Words ((w.alloc (.cells (ks 14).toArray 22)).alloc (.cells (ws 14).toArray 9)) w.heap.size (w.heap.size + 1) where
  la := by simp; omega
  lb := by simp
  kind j hj := (cell_of_row _ _ _ (ks 14).toArray 22 (0, 0) (heap_alloc2_old w _ _)).trans (ks_at j hj)
  word j hj := (cell_of_row _ _ _ (ws 14).toArray 9 (0, 0) (heap_alloc2_new w _ _)).trans (ws_at j hj)
theorem Words.below {w w' : World} {a b : Nat} (h : Words w a b) (hb : Below w.heap.size w w') : Words w' a b where
  la := Nat.lt_of_lt_of_le h.la hb.size
  lb := Nat.lt_of_lt_of_le h.lb hb.size
  kind j hj := (hb.cell (p := ⟨a, j, none⟩) h.la).trans (h.kind j hj)
  word j hj := (hb.cell (p := ⟨b, j, none⟩) h.lb).trans (h.word j hj)
theorem words_any (w : World) : Calls Tryd.prog 23 #[] w fun e w' => ∃ a b, e = .returned (.tuple #[.slice (some ⟨a, 0, none⟩) 14 14, .slice (some ⟨b, 0, none⟩) 14 14]) ∧ Words w' a b ∧ Below w.heap.size w w' := by
  go_enter Tryd.func23, Tryd.ntmps23
  go_wp2
  go_ret2
  exact ⟨w.heap.size, w.heap.size + 1, rfl, words_of w, ((Below.refl _ _).alloc (Nat.le_refl _) _).alloc (by simp) _⟩
theorem digit_any (c : UInt8) (w : World) : Calls Tryd.prog 24 #[.int .u8 (c.toNat : Int)] w fun e w' => e = .returned (.bool (decide (48 ≤ c.toNat ∧ c.toNat ≤ 57))) ∧ w' = w := by
  by_cases h1 : 48 ≤ c.toNat
  · have e1 : (48 : Int) ≤ (c.toNat : Int) := by omega
    by_cases h2 : c.toNat ≤ 57
    · have e2 : (c.toNat : Int) ≤ 57 := by omega
      rw [decide_eq_true ⟨h1, h2⟩]
      go_enter Tryd.func24, Tryd.ntmps24
      go_wp2
      go_ret
      exact ⟨by simp, rfl⟩
    · have e2 : ¬ (c.toNat : Int) ≤ 57 := by omega
      rw [decide_eq_false (fun h => h2 h.2)]
      go_enter Tryd.func24, Tryd.ntmps24
      go_wp2
      go_ret
      exact ⟨by simp, rfl⟩
  · have e1 : ¬ (48 : Int) ≤ (c.toNat : Int) := by omega
    rw [decide_eq_false (fun h => h1 h.1)]
    go_enter Tryd.func24, Tryd.ntmps24
    go_wp2
    go_ret
    exact ⟨by simp, rfl⟩
theorem dec_step (n : Nat) (hn : n < 65536)
    (ih : ∀ m, m < n → ∀ w : World, Calls Tryd.prog 25 #[.int .u64 (m : Int)] w fun e w' => e = .returned (.string ⟨(Lib.decDigits m).toArray⟩) ∧ w' = w) (w : World) :
    Calls Tryd.prog 25 #[.int .u64 (n : Int)] w fun e w' => e = .returned (.string ⟨(Lib.decDigits n).toArray⟩) ∧ w' = w := by
  by_cases h : n < 10
  · rw [T.dec_small n h]
    clear ih hn
    rcases (by omega : n = 0 ∨ n = 1 ∨ n = 2 ∨ n = 3 ∨ n = 4 ∨ n = 5 ∨ n = 6 ∨ n = 7 ∨ n = 8 ∨ n = 9) with rfl | rfl | rfl | rfl | rfl | rfl | rfl | rfl | rfl | rfl
    all_goals
      go_enter Tryd.func25, Tryd.ntmps25
      go_wp2
      go_ret
      exact ⟨rfl, rfl⟩
  · have e1 : ¬ (n : Int) < 10 := by omega
    obtain ⟨q, hq⟩ : ∃ q, n / 10 = q := ⟨_, rfl⟩
    obtain ⟨r, hr⟩ : ∃ r, n % 10 = r := ⟨_, rfl⟩
    have eq1 : (n : Int) / 10 = (q : Int) := by omega
    have eq2 : Int.tdiv (n : Int) 10 = (q : Int) := by rw [Int.tdiv_eq_ediv_of_nonneg (by omega)]; exact eq1
    have er1 : (n : Int) % 10 = (r : Int) := by omega
    have er2 : Int.tmod (n : Int) 10 = (r : Int) := by rw [Int.tmod_eq_emod_of_nonneg (by omega)]; exact er1
    have eq3 : IntKind.u64.wrap (q : Int) = (q : Int) := by rw [IntKind.wrap_u64]; omega
    have er3 : IntKind.u64.wrap (r : Int) = (r : Int) := by rw [IntKind.wrap_u64]; omega
    have cq := ih q (by omega)
    have cr := ih r (by omega)
    have hd : Lib.decDigits n = Lib.decDigits q ++ Lib.decDigits r := by rw [T.dec_big n h, hq, hr, T.dec_small r (by omega)]
    have l1 := T.dec_len q (by omega)
    have l2 := T.dec_len r (by omega)
    have HD := hide hd
    generalize Lib.decDigits n = dn at HD ⊢
    generalize Lib.decDigits q = dq at HD cq l1
    generalize Lib.decDigits r = dr at HD cr l2
    have hcat : ∀ W, (Op.stringOp .add ⟨dq.toArray⟩ ⟨dr.toArray⟩).run Tryd.prog W = .ok (.string ⟨(dq ++ dr).toArray⟩) W := fun W => by
      have h1 : (⟨dq.toArray⟩ : ByteArray).size ≤ 5 := l1
      have h2 : (⟨dr.toArray⟩ : ByteArray).size ≤ 5 := l2
      rw [run_string_add_sum W _ _ (by omega)]
      exact congrArg (fun x => Result.ok (Value.string x) W) (str_app dq dr)
    clear hd ih hq hr hn
    go_enter Tryd.func25, Tryd.ntmps25
    go_wp2_with fail
    refine (cq _).mono ?_
    rintro e w2 ⟨rfl, rfl⟩
    go_wp2_with fail
    refine (cr _).mono ?_
    rintro e w2 ⟨rfl, rfl⟩
    go_wp2
    go_ret
    exact ⟨by rw [HD.out]; rfl, rfl⟩
theorem dec_any (n : Nat) : n < 65536 → ∀ w : World, Calls Tryd.prog 25 #[.int .u64 (n : Int)] w fun e w' => e = .returned (.string ⟨(Lib.decDigits n).toArray⟩) ∧ w' = w := by
  induction n using Nat.strongRecOn with
  | _ n ih => exact fun hn w => dec_step n hn (fun m hm => ih m hm (Nat.lt_trans hm hn)) w
set_option maxHeartbeats 1600000 in
theorem rtext_any (t : UInt16) (w : World) :
    Calls Tryd.prog 11 #[.int .u16 (t.toNat : Int)] w fun e w' => e = .returned (.string ⟨(T.textOf t.toNat).toArray⟩) ∧ Below w.heap.size w w' := by
  go_enter Tryd.func11, Tryd.ntmps11
  go_wp2_with (go_at_call 23; refine (words_any _).mono ?_; rintro e w1 ⟨a, b, rfl, hW, hB⟩)
  go_loopw [5] (fun v W => ∃ j : Nat, v = .int .i64 (j : Int) ∧ j ≤ 14 ∧ W = w1 ∧ T.textFrom (T.tab.drop j) t.toNat = T.textOf t.toNat) (fun v _ => 14 - (intOf v).toNat)
  case atStart => exact ⟨0, rfl, by omega, rfl, rfl⟩
  case round =>
    obtain ⟨j, rfl, hj, rfl, hT⟩ := hrel
    have HT := hide hT
    clear hT
    by_cases h14 : j < 14
    · have hk := hW.kind j h14
      have hw := hW.word j h14
      have e14 : (j : Int) < 14 := by omega
      by_cases h : T.kindAt j = t.toNat
      · have e1 : ((T.kindAt j : Int) == (t.toNat : Int)) = true := by rw [h]; simp
        have e2 : T.textOf t.toNat = T.wordAt j := by rw [← HT.out]; exact T.textFrom_hit j h14 _ h
        have HE := hide e2
        clear e2 h
        generalize T.kindAt j = kj at hk e1
        generalize T.wordAt j = sj at hw HE
        go_wp2
        go_ret
        exact ⟨by rw [HE.out]; rfl, hB⟩
      · have e1 : ((T.kindAt j : Int) == (t.toNat : Int)) = false := by simp; omega
        have e2 := (T.textFrom_miss j h14 _ h).symm.trans HT.out
        have HE := hide e2
        clear e2 h
        generalize T.kindAt j = kj at hk e1
        generalize T.wordAt j = sj at hw
        go_wp2
        go_roundw
        case rel => exact ⟨j + 1, by go_num, by omega, by trivial, HE.out⟩
        case measure => simp [intOf]; omega
    · obtain rfl : j = 14 := by omega
      have e2 : T.textOf t.toNat = T.typeW ++ Lib.decDigits t.toNat := HT.out.symm
      have h16 : t.toNat < 65536 := t.toNat_lt
      have cn := dec_any t.toNat h16
      have eu : IntKind.u64.wrap (t.toNat : Int) = (t.toNat : Int) := by rw [IntKind.wrap_u64]; omega
      clear h16
      have HE := hide e2
      have hdl := T.dec_len t.toNat t.toNat_lt
      clear e2 HT
      generalize Lib.decDigits t.toNat = d at cn HE hdl
      have hds : (⟨d.toArray⟩ : ByteArray).size ≤ 5 := hdl
      have hcat : ∀ W, (Op.stringOp .add ⟨#[84, 89, 80, 69]⟩ ⟨d.toArray⟩).run Tryd.prog W = .ok (.string ⟨(T.typeW ++ d).toArray⟩) W := fun W => by
        rw [run_string_add_sum W _ _ (by have : (⟨#[84, 89, 80, 69]⟩ : ByteArray).size = 4 := rfl; omega)]
        exact congrArg (fun x => Result.ok (Value.string x) W) (str_app T.typeW d)
      go_wp2_with (go_at_call 25; refine (cn _).mono ?_; rintro e w2 ⟨rfl, rfl⟩)
      go_ret
      exact ⟨by rw [HE.out]; rfl, hB⟩
end Go.Proofs.YtikjhacgihohiaaDoor
