/- The law NameBytes returns true, for every three bytes. -/
import Derived.Test.YtecikfdnnjinpabDoorBack0
import Derived.Test.YtecikfdnnjinpabDoorHelp
namespace Go.Proofs.YtecikfdnnjinpabDoor
open Go.RowKit
namespace N
/- a text is of the bytes 33 to 126 -/
theorem esc_ok (c d : UInt8) (h : d ∈ esc c) : 33 ≤ d.toNat ∧ d.toNat ≤ 126 := by
  have hc := c.toNat_lt
  by_cases h1 : c.toNat = 46 ∨ c.toNat = 92
  · rw [esc_dot h1] at h
    simp only [List.mem_cons, List.not_mem_nil, or_false] at h
    rcases h with rfl | rfl
    · decide
    · omega
  · by_cases h2 : c.toNat < 33 ∨ 126 < c.toNat
    · rw [esc_num h2] at h
      have hd : ∀ k, k ≤ 9 → 33 ≤ (UInt8.ofNat (48 + k)).toNat ∧ (UInt8.ofNat (48 + k)).toNat ≤ 126 := fun k hk => by rw [UInt8.toNat_ofNat']; omega
      simp only [List.mem_cons, List.not_mem_nil, or_false] at h
      rcases h with rfl | rfl | rfl | rfl
      · decide
      · exact hd _ (by omega)
      · exact hd _ (by omega)
      · exact hd _ (by omega)
    · rw [esc_own (by omega) (by omega) (by omega) (by omega)] at h
      simp only [List.mem_cons, List.not_mem_nil, or_false] at h
      subst h; omega
theorem text_ok (n : List (List UInt8)) (d : UInt8) (h : d ∈ text n) : 33 ≤ d.toNat ∧ d.toNat ≤ 126 := by
  unfold text at h
  split at h
  · simp only [List.mem_cons, List.not_mem_nil, or_false] at h
    subst h; decide
  · simp only [textN, textL, List.mem_flatMap, List.mem_append, List.mem_singleton] at h
    obtain ⟨l, _, ⟨c, _, h⟩ | rfl⟩ := h
    · exact esc_ok c d h
    · decide
/- the label's two bytes, again and again -/
def pairs (a b : UInt8) (j : Nat) : List UInt8 := (List.replicate j [a, b]).flatten
theorem pairs_next (a b : UInt8) (j : Nat) : pairs a b (j + 1) = pairs a b j ++ [a, b] := by
  unfold pairs; rw [List.replicate_succ']; simp
theorem pairs_len (a b : UInt8) (j : Nat) : (pairs a b j).length = 2 * j := by
  induction j with
  | zero => rfl
  | succ j ih => rw [pairs_next, List.length_append, ih]; rfl
def bare (l : List UInt8) : List UInt8 := textN [l] ++ textL [101]
theorem text_bare (l : List UInt8) : text [l, [101]] = bare l ++ [46] := by
  unfold text bare; rw [if_neg (by simp)]
  simp [textN]
theorem rd_bare_e (l : List UInt8) (h : l ≠ []) : rd (bare l) = some [l, [101]] := by
  refine rd_bare [l] [101] (by simpa using h.symm) (by simp) ?_
  intro e
  have h0 := congrArg List.length e
  have h1 : (textL [101]).length = 1 := rfl
  have h2 : 1 ≤ (textN [l]).length := by simp [textN]
  have h3 : ([46] : List UInt8).length = 1 := rfl
  rw [List.length_append, h1, h3] at h0
  omega
theorem chk_two (l : List UInt8) (h : l ≠ []) (hl : l.length ≤ 63) : chk [l, [101]] = 0 := by
  refine chk_ok (by simpa using h.symm) ?_ ?_
  · simp [size]; omega
  · intro x hx
    simp only [List.mem_cons, List.not_mem_nil, or_false] at hx
    rcases hx with rfl | rfl
    · exact hl
    · simp
end N
theorem app_str (s : ByteArray) (l m : List UInt8) (h : s.data.toList = l) : (s ++ (⟨m.toArray⟩ : ByteArray)).data.toList = l ++ m := by
  rw [ByteArray.data_append]; simp [h]
set_option maxRecDepth 3000 in
set_option maxHeartbeats 1000000 in
theorem nameBytes_walk (a b n : UInt8) (w : World) (hTab : Tabs w) :
    Calls Tryd.prog 3 #[.int .u8 (a.toNat : Int), .int .u8 (b.toNat : Int), .int .u8 (n.toNat : Int)] w fun e w' => e = .returned (.bool true) ∧ Below w.heap.size w w' := by
  have HT := hide hTab
  have hT2 := hTab.2
  clear hTab
  have hn := n.toNat_lt
  have ha := a.toNat_lt
  have hb := b.toNat_lt
  obtain ⟨M, hM⟩ : ∃ M, M = n.toNat % 20 := ⟨_, rfl⟩
  have hMi : (n.toNat : Int) % 20 = (M : Int) := by omega
  have hM2 : M ≤ 19 := by omega
  clear hM
  have hnot : ∀ (x : Bool) (w : World), (Op.unary .not (.bool x)).run Tryd.prog w = .ok (.bool (!x)) w := fun _ _ => rfl
  go_enter Tryd.func3, Tryd.ntmps3
  go_wp2_with (go_at_call 5; refine (known_any _ (by exact HT.out)).mono ?_; rintro e w1 ⟨rfl, hB1⟩)
  have hz1 := hB1.size
  go_loopw [8, 7] (fun i l wr => ∃ (j : Nat) (s : ByteArray), i = .int .i64 (j : Int) ∧ j ≤ M + 1 ∧ l = .string s ∧ Hid (s.data.toList = N.pairs a b j) ∧ Below w1.heap.size w1 wr) (fun i _ _ => M + 1 - (intOf i).toNat)
  case atStart => exact ⟨0, ⟨#[]⟩, rfl, by omega, rfl, (by show _ = _; rfl), Below.refl _ _⟩
  case round =>
    obtain ⟨j, s, rfl, hj, rfl, HS, hB⟩ := hrel
    have hz := hB.size
    by_cases hlt : j ≤ M
    · have hst : (convert 23 9 (.slice (some ⟨wr.heap.size, 0, none⟩) 2 2)).run Tryd.prog (wr.alloc (.cells #[.int .u8 (a.toNat : Int), .int .u8 (b.toNat : Int)] 5)) = .ok (.string ⟨#[a, b]⟩) (wr.alloc (.cells #[.int .u8 (a.toNat : Int), .int .u8 (b.toNat : Int)] 5)) :=
        run_str (l := [a, b]) 2 2 (SlL.litm wr [a, b] _ 5 (0, 0) rfl) rfl
      have hss : s.size ≤ 40 := by
        have h1 : s.data.toList.length = s.size := rfl
        rw [HS.out, N.pairs_len] at h1
        omega
      go_wp2
      go_roundw
      case rel => exact ⟨j + 1, _, by go_num, by omega, rfl, (by show _ = _; rw [N.pairs_next]; exact app_str s _ [a, b] HS.out), hB.alloc hz _⟩
      case measure => simp [intOf]; omega
    · obtain rfl : j = M + 1 := by omega
      obtain ⟨l, hl⟩ : ∃ l, N.pairs a b (M + 1) = l := ⟨_, rfl⟩
      have hl2 : l.length = 2 * (M + 1) := by rw [← hl]; exact N.pairs_len a b (M + 1)
      rw [hl] at HS
      have hl3 : l ≠ [] := by intro e; rw [e] at hl2; simp at hl2
      have hl4 : l.length ≤ 40 := by omega
      clear hl2 hl
      obtain rfl : s = ⟨l.toArray⟩ := by
        rw [← HS.out]
      have HCHK : Hid (N.chk [l, [101]] = 0) := N.chk_two l hl3 (by omega)
      have HSM : Hid (N.Small [l, [101]]) := ⟨by simp, fun x hx => by
        simp only [List.mem_cons, List.not_mem_nil, or_false] at hx
        rcases hx with rfl | rfl
        · omega
        · simp⟩
      have HRD : Hid (N.rd (N.text [l, [101]]) = some [l, [101]]) := N.rd_text _ (by simpa using hl3.symm)
      have HRB : Hid (N.rd (N.bare l) = some [l, [101]]) := N.rd_bare_e l hl3
      have hok := hide (N.text_ok [l, [101]])
      have htl := N.text_len [l, [101]]
      have hsz : N.size [l, [101]] ≤ 100 := by simp [N.size]; omega
      have HTB := hide (N.text_bare l)
      go_wp2_with fail
      have hb0 := hB1.trans ((hB.alloc (o := .cells #[.string ⟨l.toArray⟩, .string ⟨#[101]⟩] 9) hz).mono hz1)
      have hs0 : SlS (wr.alloc (.cells #[.string ⟨l.toArray⟩, .string ⟨#[101]⟩] 9)) (some ⟨wr.heap.size, 0, none⟩) [l, [101]] := SlS.litm wr [l, [101]] _ 9 (0, 0) rfl
      refine (text_any [l, [101]] (some ⟨wr.heap.size, 0, none⟩) 2 2 _ rfl hs0 HSM).mono ?_
      rintro e w3 ⟨rfl, hB3⟩
      have hz0 := hb0.size
      have HS3 := hide (hs0.below hB3 (Nat.le_refl _))
      have hb3 := hb0.trans (hB3.mono hz0)
      have hz3 := hb3.size
      generalize wr.heap.size = g at HS3
      clear hb0 hB3 hz0 hs0 hB hB1 hz hz1
      obtain ⟨s, hsE, HSD⟩ : ∃ s : ByteArray, (⟨(N.text [l, [101]]).toArray⟩ : ByteArray) = s ∧ Hid (s.data.toList = N.text [l, [101]]) := ⟨_, rfl, rfl⟩
      rw [hsE]
      clear hsE
      have hsl0 : s.data.toList.length = s.size := rfl
      have hs4 : s.size ≤ 400 := by rw [← hsl0, HSD.out]; omega
      obtain ⟨m, hm⟩ : ∃ m, m = (N.bare l).length := ⟨_, rfl⟩
      have hsm : s.size = m + 1 := by rw [← hsl0, HSD.out, HTB.out, List.length_append, ← hm]; rfl
      have hm1 : s.size ≤ m + 1 := by omega
      have hm2 : m + 1 ≤ s.size := by omega
      clear hsm hsl0 htl hsz
      have e1 : IntKind.i64.wrap ((s.size : Int) - 1) = (m : Int) := by rw [IntKind.wrap_i64]; omega
      have hsl : ∀ W, (Instr.slice 9 (.string s) none (some (.int .i64 (m : Int))) none).run Tryd.prog W = .ok (.string ⟨(N.bare l).toArray⟩) W := fun W => by
        rw [run_slice_string_h (P := Tryd.prog) W 9 s Tryd.underlying9 .i64 (m : Int) (by omega) (by omega), Int.toNat_natCast, ← Nat.zero_add m, extract_is, HSD.out, HTB.out, hm]
        simp
      have HM := hide hm
      clear hm
      go_wp2
      go_loopw [11] (fun i wr => ∃ j : Nat, i = .int .i64 (j : Int) ∧ j ≤ s.size ∧ wr = w3) (fun i _ => s.size - (intOf i).toNat)
      case atStart => exact ⟨0, rfl, by omega, rfl⟩
      case round =>
        obtain ⟨j, rfl, hj, rfl⟩ := hrel
        by_cases hlt : j < s.size
        · have hx : s[j]'hlt = (N.text [l, [101]]).getD j 0 := by rw [← HSD.out]; exact str_at s j hlt
          have hin : (N.text [l, [101]]).getD j 0 ∈ N.text [l, [101]] := by
            have h1 : j < (N.text [l, [101]]).length := by rw [← HSD.out]; exact hlt
            rw [List.getD_eq_getElem?_getD, List.getElem?_eq_getElem h1]
            exact List.getElem_mem h1
          obtain ⟨hy1, hy2⟩ := hok.out _ hin
          generalize (N.text [l, [101]]).getD j 0 = y at hx hy1 hy2
          clear hin
          have hj1 : (j : Int) < (s.size : Int) := by omega
          go_wp2
          go_roundw
          case rel => exact ⟨j + 1, by go_num, by omega, trivial⟩
          case measure => simp [intOf]; omega
        · obtain rfl : j = s.size := by omega
          go_wp2_with fail
          refine (parse_good s (N.text [l, [101]]) [l, [101]] 2 _ HSD (by omega) (by exact HT.out.below hb3 hT2) HRD HCHK rfl).mono ?_
          rintro e w4 ⟨a4, c4, rfl, hS4, _, hB4⟩
          have hb4 := hb3.trans (hB4.mono hz3)
          have hz4 := hb4.size
          have HS4 := hide hS4
          have HS34 := hide (HS3.out.below hB4 (Nat.le_refl _))
          clear hb3 hB4 hz3 hS4 HS3
          go_wp2_with fail
          refine (parse_good ⟨(N.bare l).toArray⟩ (N.bare l) [l, [101]] 2 _ rfl (by show (N.bare l).length ≤ _; rw [← HM.out]; omega) (by exact HT.out.below hb4 hT2) HRB HCHK rfl).mono ?_
          rintro e w5 ⟨a5, c5, rfl, hS5, _, hB5⟩
          have hb5 := hb4.trans (hB5.mono hz4)
          have HS5 := hide hS5
          have HS45 := hide (HS4.out.below hB5 (Nat.le_refl _))
          have HS35 := hide (HS34.out.below hB5 (Nat.le_refl _))
          clear hb4 hB5 hz4 hS5 HS34 HS4
          go_wp2_with fail
          refine (name_same [l, [101]] (some ⟨g, 0, none⟩) a4 2 2 2 c4 _ rfl rfl (by exact HS35.out) (by exact HS45.out) (by omega)).mono ?_
          rintro e w6 ⟨rfl, hm6⟩
          have hb6 := hb5.trans (drew_below _ hm6)
          have HS36 := hide (HS35.out.below (drew_below _ hm6) (Nat.le_refl _))
          have HS56 := hide (HS5.out.below (drew_below _ hm6) (Nat.le_refl _))
          clear hb5 hm6 HS35 HS45 HS5
          go_wp2_with fail
          refine (name_same [l, [101]] (some ⟨g, 0, none⟩) a5 2 2 2 c5 _ rfl rfl (by exact HS36.out) (by exact HS56.out) (by omega)).mono ?_
          rintro e w7 ⟨rfl, hm7⟩
          have hb7 := hb6.trans (drew_below _ hm7)
          go_wp2
          go_ret
          exact ⟨by simp, hb7⟩
end Go.Proofs.YtecikfdnnjinpabDoor
