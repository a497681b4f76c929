/- signetref1.OpenHex32, signetref1.OpenHex: the reference's reading of texts. -/
import Derived.Test.YtffggdjmhgialaaRefW
namespace Go.Proofs.Ytffggdjmhgialaa
open Go.RowKit
theorem i64_or_nat (a b : Nat) (ha : a < 1048576) (hb : b < 1048576) : bits .or .i64 (a : Int) (b : Int) = ((a ||| b : Nat) : Int) := by
  have hx : a ||| b < 2 ^ 20 := Nat.or_lt_two_pow (by omega) (by omega)
  show IntKind.i64.wrap ((BitVec.ofInt 64 (a : Int) ||| BitVec.ofInt 64 (b : Int)).toNat : Int) = _
  rw [BitVec.toNat_or, ofInt_u64 a (by omega), ofInt_u64 b (by omega), IntKind.wrap_i64]
  omega
theorem i64_and_nat (a b : Nat) (ha : a < 1048576) (hb : b < 1048576) : bits .and .i64 (a : Int) (b : Int) = ((a &&& b : Nat) : Int) := by
  have hx : a &&& b ≤ a := Nat.and_le_left
  show IntKind.i64.wrap ((BitVec.ofInt 64 (a : Int) &&& BitVec.ofInt 64 (b : Int)).toNat : Int) = _
  rw [BitVec.toNat_and, ofInt_u64 a (by omega), ofInt_u64 b (by omega), IntKind.wrap_i64]
  omega
theorem or32_i (a b : Nat) (ha : a < 256) (hb : b < 32) : bits .or .i64 ((a : Int) * 32) (b : Int) = (a : Int) * 32 + (b : Int) := by
  rw [show (a : Int) * 32 = ((a * 32 : Nat) : Int) by omega, i64_or_nat _ _ (by omega) (by omega), Nat.mul_comm, show 32 = 2 ^ 5 from rfl, ← Nat.two_pow_add_eq_or_of_lt hb]
  omega
theorem and_i64 (a c : Nat) (ha : a < 65536) (hc : c < 16) : bits .and .i64 (a : Int) ((2 : Int) ^ c - 1) = ((a % 2 ^ c : Nat) : Int) := by
  have h1 : 2 ^ c ≤ 2 ^ 16 := Nat.pow_le_pow_right (by omega) (by omega)
  have h2 := Nat.two_pow_pos c
  have h3 : (2 : Int) ^ c - 1 = ((2 ^ c - 1 : Nat) : Int) := by rw [Int.ofNat_sub h2]; simp
  rw [h3, i64_and_nat _ _ (by omega) (by omega), Nat.and_two_pow_sub_one_eq_mod]
theorem and4095 (a : Nat) (ha : a < 4096) : bits .and .i64 (a : Int) 4095 = (a : Int) := by
  have h := and_i64 a 12 (by omega) (by omega)
  rw [show ((2 : Int) ^ 12 - 1) = 4095 from rfl, show 2 ^ 12 = 4096 from rfl, Nat.mod_eq_of_lt ha] at h
  exact h
set_option maxRecDepth 3000 in
set_option maxHeartbeats 400000 in
theorem refOpen32_any (s : ByteArray) (bs : List UInt8) (w : World) (hs : Hid (s.data.toList = bs)) (hn : s.size ≤ 1000000) :
    Calls Try.prog 16 #[.string s] w fun e w' => ((∃ out v, e = .returned (.tuple #[v, .int .i64 0]) ∧ B.Good 5 32 bs out ∧ OwnB w' w.heap.size v out) ∨ (e = .returned (.tuple #[.slice none 0 0, .int .i64 20]) ∧ ∀ out, ¬ B.Good 5 32 bs out)) ∧ Below w.heap.size w w' := by
  have hlen : bs.length = s.size := by rw [← hs.out]; rfl
  have HLEN := hide hlen
  clear hlen
  go_enter Try.func16, Try.ntmps16
  go_wp2
  go_loopw [4, 5, 6, 7] (fun v h c i wr => ∃ (pos hh cc : Nat) (out : List UInt8), i = .int .i64 (pos : Int) ∧ h = .int .i64 (hh : Int) ∧ c = .int .i64 (cc : Int) ∧ cc < 8 ∧ pos ≤ s.size ∧ Hid (B.Val 32 (bs.take pos)) ∧ Hid (B.Dec 5 (B.dv (bs.take pos)) out cc hh) ∧ OwnB wr w.heap.size v out ∧ Below w.heap.size w wr) (fun _ _ _ i _ => s.size - (intOf i).toNat)
  case atStart => exact ⟨0, 0, 0, [], rfl, rfl, rfl, by omega, by omega, B.Val.nil 32, B.Dec.zero 5, OwnB.nil _ _, Below.refl _ _⟩
  case round =>
    obtain ⟨pos, hh, cc, out, rfl, rfl, rfl, hcc, hpos, HV, HD, hO, hB⟩ := hrel
    have hz := hB.size
    by_cases hp : pos < s.size
    · have hxs : s[pos]'hp = bs.getD pos 0 := by
        have h1 := hs.out
        subst h1
        exact str_at s pos hp
      generalize hx : bs.getD pos 0 = x at hxs
      have HX := hide hx
      have hxl := x.toNat_lt
      clear hx
      by_cases hd : B.dval x.toNat < 32
      · generalize hdd : B.dval x.toNat = d at hd
        have HDD := hide hdd
        clear hdd
        have h7 : hh < 128 := by
          have h1 := HD.out.1
          have h2 : 2 ^ cc ≤ 2 ^ 7 := Nat.pow_le_pow_right (by omega) (by omega)
          omega
        have hor := or32_i hh d (by omega) hd
        have ham := and4095 (hh * 32 + d) (by omega)
        rw [show ((hh * 32 + d : Nat) : Int) = (hh : Int) * 32 + (d : Int) by omega] at ham
        have HD2 : Hid (B.Dec 5 (B.dv (bs.take (pos + 1))) out (cc + 5) (hh * 32 + d)) := by
          rw [B.take_next bs pos (by have := HLEN.out; omega), HX.out, B.dv_app, HDD.out]
          exact HD.out.digit d hd
        have HV2 : Hid (B.Val 32 (bs.take (pos + 1))) := by
          rw [B.take_next bs pos (by have := HLEN.out; omega), HX.out]
          exact HV.out.next x (by rw [HDD.out]; exact hd)
        have hol : out.length ≤ 10000000 := by
          have h1 := HD.out.2.1
          have h2 : (B.dv (bs.take pos)).length ≤ pos := by simp [B.dv]; omega
          omega
        by_cases h8 : cc + 5 < 8
        · go_wp2_with (go_at_call 21; refine (value_yes x.toNat d _ HDD (by omega) (by omega)).mono ?_; rintro e w2 ⟨rfl, rfl⟩)
          go_roundw
          case rel => exact ⟨pos + 1, hh * 32 + d, cc + 5, out, by go_num, by simp, by go_num, h8, by omega, HV2, HD2, hO, hB⟩
          case measure => simp [intOf]; omega
        · obtain ⟨c, hc⟩ : ∃ c, cc + 5 = c + 8 := ⟨cc + 5 - 8, by omega⟩
          rw [hc] at HD2
          have hci : (cc : Int) + 5 - 8 = (c : Int) := by omega
          obtain ⟨hb1, hb2⟩ := HD2.out.byte
          obtain ⟨hp1, hp2⟩ := pow_bounds c (by omega)
          obtain ⟨y, hy⟩ : ∃ y : UInt8, y.toNat = (hh * 32 + d) / 2 ^ c := ⟨UInt8.ofNat ((hh * 32 + d) / 2 ^ c), by simp; omega⟩
          have hyi : ((hh : Int) * 32 + (d : Int)) / 2 ^ c = (y.toNat : Int) := by rw [hy]; simp
          have hand := and_i64 (hh * 32 + d) c (by omega) (by omega)
          rw [show ((hh * 32 + d : Nat) : Int) = (hh : Int) * 32 + (d : Int) by omega] at hand
          have HD3 := hide (hb2 y hy)
          have hyl := y.toNat_lt
          clear hb1 hb2 hy
          go_wp2_with (first
            | (go_at_call 21; refine (value_yes x.toNat d _ HDD (by omega) (by omega)).mono ?_; rintro e w2 ⟨rfl, rfl⟩)
            | (at_builtin; refine wpList_append_B rfl (.tmp 32) (.tmp 37) rfl w.heap.size _ out rfl (by exact hO.alloc _) _ _ _ [y] rfl rfl (SlL.oneI _ _ _ _ (by first | rfl | omega)) (by simp) (by omega) (by simp; omega) ?_; intro v4 w4 hO4 hG4; have hB4 := grown_below (hO.alloc _) hG4 (hB.alloc hz _) (by simp; omega); clear hG4 hO))
          go_roundw
          case rel => exact ⟨pos + 1, (hh * 32 + d) % 2 ^ c, c, out ++ [y], by go_num, by simp, by go_num, by omega, by omega, HV2, HD3, hO4, hB4⟩
          case measure => simp [intOf]; omega
      · have hbad : ∀ out, ¬ B.Good 5 32 bs out := fun out => B.bad_at pos (by have := HLEN.out; omega) (by rw [HX.out]; omega) out
        have HBAD := hide hbad
        clear hbad
        go_wp2_with (go_at_call 21; refine (value_no x.toNat _ (by show 32 ≤ _; omega) (by omega)).mono ?_; rintro e w2 ⟨rfl, rfl⟩)
        go_ret2
        exact ⟨Or.inr ⟨rfl, HBAD.out⟩, hB⟩
    · obtain rfl : pos = s.size := by omega
      have htk : bs.take s.size = bs := List.take_of_length_le (by have := HLEN.out; omega)
      rw [htk] at HV HD
      clear htk hp
      by_cases hg : cc < 5
      · by_cases h0 : hh = 0
        · subst h0
          go_wp2
          go_ret2
          exact ⟨Or.inl ⟨out, _, rfl, ⟨HV.out, HD.out.good hg⟩, hO⟩, hB⟩
        · have HBAD : Hid (∀ out, ¬ B.Good 5 32 bs out) := fun out' hgg => HD.out.bad (by omega) hcc (Or.inr h0) out' hgg.2
          have hne : ((hh : Int) != 0) = true := by simp; omega
          go_wp2
          go_ret2
          exact ⟨Or.inr ⟨rfl, HBAD.out⟩, hB⟩
      · have HBAD : Hid (∀ out, ¬ B.Good 5 32 bs out) := fun out' hgg => HD.out.bad (by omega) hcc (Or.inl (by omega)) out' hgg.2
        go_wp2
        go_ret2
        exact ⟨Or.inr ⟨rfl, HBAD.out⟩, hB⟩
namespace B
def rv (r : Nat) : Int := if dval r < 32 then (dval r : Int) else -1
theorem rv_lt {r : Nat} (h : dval r < 16) : rv r = (dval r : Int) := by unfold rv; rw [if_pos (by omega)]
theorem rv_ge {r : Nat} (h : 16 ≤ dval r) : rv r < 0 ∨ 15 < rv r := by
  unfold rv
  by_cases h1 : dval r < 32
  · rw [if_pos h1]; right; omega
  · rw [if_neg h1]; left; omega
theorem rv_bounds (r : Nat) : -1 ≤ rv r ∧ rv r < 32 := by
  unfold rv
  by_cases h1 : dval r < 32
  · rw [if_pos h1]; omega
  · rw [if_neg h1]; omega
end B
theorem value_any (r : Nat) (w : World) (hr : r ≤ 255) :
    Calls Try.prog 21 #[.int .u8 (r : Int)] w fun e w' => e = .returned (.int .i64 (B.rv r)) ∧ w' = w := by
  by_cases h : B.dval r < 32
  · rw [show B.rv r = (B.dval r : Int) by unfold B.rv; rw [if_pos h]]
    exact value_yes r (B.dval r) w rfl h hr
  · rw [show B.rv r = -1 by unfold B.rv; rw [if_neg h]]
    exact value_no r w (by show 32 ≤ _; omega) hr
theorem dec4_next {D : List Nat} {out : List UInt8} (h : B.Dec 4 D out 0 0) (a b : Nat) (ha : a < 16) (hb : b < 16) (y : UInt8) (hy : y.toNat = 16 * a + b) : B.Dec 4 (D ++ [a] ++ [b]) (out ++ [y]) 0 0 := by
  have h1 := h.digit a (by omega)
  have h2 := h1.digit b (by omega)
  have h3 := (B.Dec.byte (k := 4) (c := 0) h2).2 y (by simp; omega)
  simpa [Nat.mod_one] using h3
theorem odd_bad {bs out : List UInt8} (h : bs.length % 2 ≠ 0) : ¬ B.Good 4 16 bs out := by
  rintro ⟨_, p, hp, hl, _⟩
  have : (B.dv bs).length = bs.length := by simp [B.dv]
  omega
set_option maxRecDepth 3000 in
set_option maxHeartbeats 400000 in
theorem refOpen16_any (s : ByteArray) (bs : List UInt8) (w : World) (hs : Hid (s.data.toList = bs)) (hn : s.size ≤ 1000000) :
    Calls Try.prog 17 #[.string s] w fun e w' => ((∃ out v, e = .returned (.tuple #[v, .int .i64 0]) ∧ B.Good 4 16 bs out ∧ OwnB w' w.heap.size v out) ∨ (e = .returned (.tuple #[.slice none 0 0, .int .i64 20]) ∧ ∀ out, ¬ B.Good 4 16 bs out)) ∧ Below w.heap.size w w' := by
  have hlen : bs.length = s.size := by rw [← hs.out]; rfl
  have HLEN := hide hlen
  clear hlen
  by_cases hodd : s.size % 2 = 0
  · have hq : ((s.size : Int) % 2 != 0) = false := by simp; omega
    obtain ⟨m, hm⟩ : ∃ m, s.size = 2 * m := ⟨s.size / 2, by omega⟩
    have HM := hide hm
    clear hm hodd
    go_enter Try.func17, Try.ntmps17
    go_wp2
    go_loopw [4, 5] (fun v i wr => ∃ (j : Nat) (out : List UInt8), i = .int .i64 (2 * (j : Int)) ∧ j ≤ m ∧ Hid (B.Val 16 (bs.take (2 * j))) ∧ Hid (B.Dec 4 (B.dv (bs.take (2 * j))) out 0 0) ∧ OwnB wr w.heap.size v out ∧ Below w.heap.size w wr) (fun _ i _ => s.size - (intOf i).toNat)
    case atStart => exact ⟨0, [], rfl, by omega, B.Val.nil 16, B.Dec.zero 4, OwnB.nil _ _, Below.refl _ _⟩
    case round =>
      obtain ⟨j, out, rfl, hj, HV, HD, hO, hB⟩ := hrel
      have hz := hB.size
      by_cases hp : j < m
      · have hp1 : 2 * j < s.size := by have := HM.out; omega
        have hp2 : 2 * j + 1 < s.size := by have := HM.out; omega
        have hxs : s[2 * j]'hp1 = bs.getD (2 * j) 0 := by
          have h1 := hs.out
          subst h1
          exact str_at s _ hp1
        have hys : s[2 * j + 1]'hp2 = bs.getD (2 * j + 1) 0 := by
          have h1 := hs.out
          subst h1
          exact str_at s _ hp2
        generalize hx : bs.getD (2 * j) 0 = x at hxs
        generalize hy : bs.getD (2 * j + 1) 0 = y at hys
        have HX := hide hx
        have HY := hide hy
        have hxl := x.toNat_lt
        have hyl := y.toNat_lt
        clear hx hy
        have hxi : ∀ W, (Instr.index 9 (.string s) (.int .i64 (2 * (j : Int)))).run Try.prog W = .ok (.int .u8 (x.toNat : Int)) W := fun W => by
          rw [run_index_string W 9 s .i64 _ Try.underlying9, dif_pos ⟨by omega, by omega⟩]
          rw [← hxs]; rfl
        have hyi : ∀ W, (Instr.index 9 (.string s) (.int .i64 (2 * (j : Int) + 1))).run Try.prog W = .ok (.int .u8 (y.toNat : Int)) W := fun W => by
          rw [run_index_string W 9 s .i64 _ Try.underlying9, dif_pos ⟨by omega, by omega⟩]
          rw [← hys]; rfl
        have hb1 := B.rv_bounds x.toNat
        have hb2 := B.rv_bounds y.toNat
        by_cases hd : B.dval x.toNat < 16 ∧ B.dval y.toNat < 16
        · obtain ⟨hd1, hd2⟩ := hd
          have hr1 := B.rv_lt hd1
          have hr2 := B.rv_lt hd2
          have hol : out.length ≤ 10000000 := by
            have h1 := HD.out.2.1
            have h2 : (B.dv (bs.take (2 * j))).length ≤ 2 * j := by simp [B.dv]; omega
            omega
          obtain ⟨z, hzz⟩ : ∃ z : UInt8, z.toNat = 16 * B.dval x.toNat + B.dval y.toNat := ⟨UInt8.ofNat (16 * B.dval x.toNat + B.dval y.toNat), by simp; omega⟩
          have HD2 : Hid (B.Dec 4 (B.dv (bs.take (2 * (j + 1)))) (out ++ [z]) 0 0) := by
            rw [show 2 * (j + 1) = 2 * j + 1 + 1 by omega, B.take_next bs (2 * j + 1) (by have := HLEN.out; omega), B.take_next bs (2 * j) (by have := HLEN.out; omega), HX.out, HY.out, B.dv_app, B.dv_app]
            exact dec4_next HD.out _ _ hd1 hd2 z hzz
          have HV2 : Hid (B.Val 16 (bs.take (2 * (j + 1)))) := by
            rw [show 2 * (j + 1) = 2 * j + 1 + 1 by omega, B.take_next bs (2 * j + 1) (by have := HLEN.out; omega), B.take_next bs (2 * j) (by have := HLEN.out; omega), HX.out, HY.out]
            exact (HV.out.next x hd1).next y hd2
          have hzi : 16 * (B.dval x.toNat : Int) + (B.dval y.toNat : Int) = (z.toNat : Int) := by omega
          have hzl := z.toNat_lt
          clear HD HV hzz
          generalize B.dval x.toNat = a at hr1 hd1 hzi
          generalize B.dval y.toNat = b at hr2 hd2 hzi
          go_wp2
          go_quiet ((go_at_call 21; exact Calls.quiet_of_same (value_any _ _ (by omega))))
          have hOq : OwnB (wr.drewN nq) w.heap.size _ out := hO
          have hBq := below_drewN hB nq
          have hzq := hBq.size
          generalize wr.drewN nq = wq at hOq hBq hzq
          clear hO hB hz
          go_wp2_with (at_builtin; refine wpList_append_B rfl (.tmp 41) (.tmp 47) rfl w.heap.size _ out rfl (by exact hOq.alloc _) _ _ _ [z] rfl rfl (SlL.oneI _ _ _ _ (by first | rfl | omega)) (by simp) (by omega) (by simp; omega) ?_; intro v4 w4 hO4 hG4; have hB4 := grown_below (hOq.alloc _) hG4 (hBq.alloc hzq _) (by simp; omega); clear hG4 hOq)
          go_roundw
          case rel => exact ⟨j + 1, out ++ [z], by go_num, by omega, HV2, HD2, hO4, hB4⟩
          case measure => simp [intOf]; omega
        · have HBAD : Hid (∀ out, ¬ B.Good 4 16 bs out) := fun out => by
            by_cases h1 : B.dval x.toNat < 16
            · exact B.bad_at (2 * j + 1) (by have := HLEN.out; omega) (by rw [HY.out]; omega) out
            · exact B.bad_at (2 * j) (by have := HLEN.out; omega) (by rw [HX.out]; omega) out
          have hor : (B.rv x.toNat < 0 ∨ 15 < B.rv x.toNat) ∨ (0 ≤ B.rv x.toNat ∧ B.rv x.toNat ≤ 15 ∧ (B.rv y.toNat < 0 ∨ 15 < B.rv y.toNat)) := by
            by_cases h1 : B.dval x.toNat < 16
            · right
              have := B.rv_lt h1
              exact ⟨by omega, by omega, B.rv_ge (by omega)⟩
            · left; exact B.rv_ge (by omega)
          clear hd
          generalize ha : B.rv x.toNat = a at hor hb1
          generalize hb : B.rv y.toNat = b at hor hb2
          rcases hor with (hor | hor) | ⟨h1, h2, hor | hor⟩
          all_goals
            go_wp2
            go_quiet ((go_at_call 21; exact Calls.quiet_of_same (value_any _ _ (by omega))))
            go_wp2
            go_ret2
            exact ⟨Or.inr ⟨rfl, HBAD.out⟩, below_drewN hB _⟩
      · obtain rfl : j = m := by omega
        have htk : bs.take (2 * j) = bs := List.take_of_length_le (by have := HLEN.out; have := HM.out; omega)
        rw [htk] at HV HD
        have hmi : ((s.size : Int)) = 2 * (j : Int) := by have := HM.out; omega
        clear htk hp
        go_wp2
        go_ret2
        exact ⟨Or.inl ⟨out, _, rfl, ⟨HV.out, HD.out.good (by omega)⟩, hO⟩, hB⟩
  · have hq : ((s.size : Int) % 2 != 0) = true := by simp; omega
    have HBAD : Hid (∀ out, ¬ B.Good 4 16 bs out) := fun out => odd_bad (by have := HLEN.out; omega)
    clear hodd
    go_enter Try.func17, Try.ntmps17
    go_wp2
    go_ret2
    exact ⟨Or.inr ⟨rfl, HBAD.out⟩, Below.refl _ _⟩
end Go.Proofs.Ytffggdjmhgialaa
