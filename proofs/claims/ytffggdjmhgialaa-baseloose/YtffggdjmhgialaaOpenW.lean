/- base.open reads a text of digits of four or five bits. -/
import Derived.Test.YtffggdjmhgialaaText
import Derived.Lib.OthersKept
namespace Go.Proofs.Ytffggdjmhgialaa
open Go.RowKit
namespace B
def dv (bs : List UInt8) : List Nat := bs.map fun x => dval x.toNat
theorem dv_app (bs : List UInt8) (x : UInt8) : dv (bs ++ [x]) = dv bs ++ [dval x.toNat] := by simp [dv]
def Val (q : Nat) (bs : List UInt8) : Prop := ∀ x ∈ bs, dval x.toNat < q
theorem Val.nil (q : Nat) : Val q [] := fun x hx => by simp at hx
theorem Val.next {q : Nat} {bs : List UInt8} (h : Val q bs) (x : UInt8) (hx : dval x.toNat < q) : Val q (bs ++ [x]) := fun y hy => by
  rcases List.mem_append.1 hy with h1 | h1
  · exact h y h1
  · rw [List.mem_singleton] at h1; subst h1; exact hx
def Good (k q : Nat) (bs out : List UInt8) : Prop := Val q bs ∧ Rel k out (dv bs)
theorem bad_at {k q : Nat} {bs : List UInt8} (j : Nat) (hj : j < bs.length) (h : q ≤ dval (bs.getD j 0).toNat) (out : List UInt8) : ¬ Good k q bs out := fun hg => by
  have h1 := hg.1 (bs.getD j 0) (by simp [hj])
  omega
end B
theorem or32 (a b : Nat) (ha : a < 256) (hb : b < 32) : bits .or .u64 ((a : Int) * 32) (b : Int) = ((a * 32 + b : Nat) : Int) := by
  rw [show (a : Int) * 32 = ((a * 32 : Nat) : Int) by omega, u64_or_nat _ _ (by omega) (by omega), Nat.mul_comm, show 32 = 2 ^ 5 from rfl, ← Nat.two_pow_add_eq_or_of_lt hb]
theorem or16 (a b : Nat) (ha : a < 256) (hb : b < 16) : bits .or .u64 ((a : Int) * 16) (b : Int) = ((a * 16 + b : Nat) : Int) := by
  rw [show (a : Int) * 16 = ((a * 16 : Nat) : Int) by omega, u64_or_nat _ _ (by omega) (by omega), Nat.mul_comm, show 16 = 2 ^ 4 from rfl, ← Nat.two_pow_add_eq_or_of_lt hb]
theorem grown_iter {w w' : World} {base : Nat} {v : Value} {l : List UInt8} {K : Nat} {s : ByteArray} {pos : Nat} (hown : OwnB w base v l) (hg : w.grownBy w' v.ownBlock) (hit : w.heap[K]? = some (.stringIter s pos)) : w'.heap[K]? = some (.stringIter s pos) := by
  have hlt : K < w.heap.size := (Array.getElem?_eq_some_iff.1 hit).1
  rw [hg.block K hlt ?_]
  · exact hit
  · intro e
    have h0 : w.ownsRow base 5 1 v l.length (vb l) := hown
    rcases h0.2 with ⟨rfl, _⟩ | ⟨g, cap, cur, rfl, hb, hgg, _⟩
    · simp [Value.ownBlock] at e
    · simp [Value.ownBlock] at e
      subst e
      rw [hit] at hgg; cases hgg
theorem own_iterAt {w : World} {base : Nat} {v : Value} {l : List UInt8} {K : Nat} {s : ByteArray} {pos : Nat} (hown : OwnB w base v l) (hit : w.heap[K]? = some (.stringIter s pos)) (pos' : Nat) : OwnB (w.iterAt K s pos') base v l := by
  have h0 : w.ownsRow base 5 1 v l.length (vb l) := hown
  refine ⟨h0.1, ?_⟩
  rcases h0.2 with h1 | ⟨g, cap, cur, e, h1, h2, h3⟩
  · exact Or.inl h1
  · refine Or.inr ⟨g, cap, cur, e, h1, ?_, h3⟩
    rw [Lib.iterAt_other w K g s pos' (fun e1 => by rw [e1, hit] at h2; cases h2)]; exact h2
theorem str_at (s : ByteArray) (pos : Nat) (h : pos < s.size) : s[pos]'h = s.data.toList.getD pos 0 := by
  have h1 : pos < s.data.toList.length := h
  rw [List.getD_eq_getElem?_getD, List.getElem?_eq_getElem h1]; rfl
theorem make_own (w : World) (c : Nat) (x : Int) (hx : x = (c : Int)) (hc : c ≤ 1000000000) : ∃ w', (Instr.makeSlice 22 (.int .i64 0) (.int .i64 x)).run Try.prog w = .ok (.slice (some ⟨w.heap.size, 0, none⟩) 0 c) w' ∧ OwnB w' w.heap.size (.slice (some ⟨w.heap.size, 0, none⟩) 0 c) [] ∧ Below w.heap.size w w' := by
  subst hx
  obtain ⟨i0, hi, hz0, hz1, hz2⟩ := info_parts info5
  obtain ⟨w', h1, h2, h3⟩ := run_make_own w w.heap.size 22 5 i0 (.int .u8 0) 1 Try.underlying22 hi hz0 hz1 .i64 .i64 c (by rw [hz2]; omega) (by unfold maxLen; omega) (Nat.le_refl _)
  exact ⟨w', h1, h2, (Below.refl _ _).grown h3 (Nat.le_refl _) (fun k hk => by cases hk)⟩
set_option maxRecDepth 3000 in
set_option maxHeartbeats 400000 in
theorem open5 (s : ByteArray) (bs : List UInt8) (w : World) (hs : Hid (s.data.toList = bs)) (hn : s.size ≤ 1000000) :
    Calls Try.prog 20 #[.string s, .int .i64 5] w fun e w' => ((∃ out v, e = .returned (.tuple #[v, .int .i64 0]) ∧ B.Good 5 32 bs out ∧ OwnB w' w.heap.size v out) ∨ (e = .returned (.tuple #[.slice none 0 0, .int .i64 20]) ∧ ∀ out, ¬ B.Good 5 32 bs out)) ∧ Below w.heap.size w w' := by
  obtain ⟨w1, hmk, hO1, hB1⟩ := make_own w (s.size * 5 / 8) ((s.size : Int) * 5 / 8) (by omega) (by omega)
  go_enter Try.func20, Try.ntmps20
  go_wp2
  have hit1 : (w1.iter s 0).heap[w1.heap.size]? = some (.stringIter s 0) := World.iter_heap w1 s 0
  have hIO : OwnB (w1.iter s 0) w.heap.size (.slice (some ⟨w.heap.size, 0, none⟩) 0 (s.size * 5 / 8)) [] := hO1.alloc _
  have hIB : Below w.heap.size w (w1.iter s 0) := hB1.alloc hB1.size _
  have hw1 := hB1.size
  have hlen : bs.length = s.size := by rw [← hs.out]; rfl
  have HLEN := hide hlen
  generalize hK : w1.heap.size = K at hit1 hw1
  clear hK hO1 hB1 hmk hlen
  go_loopw [6, 7, 8] (fun v h c wr => ∃ (pos hh cc : Nat) (out : List UInt8), h = .int .u64 (hh : Int) ∧ c = .int .i64 (cc : Int) ∧ cc < 8 ∧ pos ≤ s.size ∧ Hid (B.Val 32 (bs.take pos)) ∧ Hid (B.Dec 5 (B.dv (bs.take pos)) out cc hh) ∧ OwnB wr w.heap.size v out ∧ wr.heap[K]? = some (.stringIter s pos) ∧ Below w.heap.size w wr) (fun _ _ _ wr => s.size - wr.iterPos K)
  case atStart => exact ⟨0, 0, 0, [], rfl, rfl, by omega, by omega, B.Val.nil 32, B.Dec.zero 5, hIO, hit1, hIB⟩
  case round =>
    clear hit1 hIO hIB
    obtain ⟨pos, hh, cc, out, rfl, rfl, hcc, hpos, HV, HD, hO, hit, hB⟩ := hrel
    have hz := hB.size
    by_cases hp : pos < s.size
    · have hxs : s[pos]'hp = bs.getD pos 0 := by
        have h1 := hs.out
        subst h1
        exact str_at s pos hp
      generalize hx : bs.getD pos 0 = x at hxs
      have HX := hide hx
      have hxl := x.toNat_lt
      clear hx
      by_cases hd : B.dval x.toNat < 32
      · have hx1 : x.toNat < 128 := by
          rcases B.dval_cases x.toNat with h | h | h | h <;> omega
        have hnx : ∀ ty, (Instr.next (.pointer (some ⟨K, 0, none⟩)) true ty).run Try.prog wr = .ok (.tuple #[.bool true, .int .i64 pos, .int .i32 (x.toNat : Int)]) (wr.iterAt K s (pos + 1)) := fun ty => by
          rw [Lib.run_next_ascii_at wr K s pos ty hit hp (by rw [hxs]; exact hx1), hxs]
        have hO2 := own_iterAt hO hit (pos + 1)
        have hit2 := Lib.iterAt_heap wr K s pos (pos + 1) hit
        have hB2 := Lib.below_iterAt hB (k := K) (by omega) s (pos + 1)
        have hz2 := hB2.size
        have hm := hit
        generalize wr.iterAt K s (pos + 1) = wi at hnx hO2 hit2 hB2 hz2
        clear hO hB hz
        generalize hdd : B.dval x.toNat = d at hd
        have HDD := hide hdd
        clear hdd
        have h7 : hh < 128 := by
          have h1 := HD.out.1
          have h2 : 2 ^ cc ≤ 2 ^ 7 := Nat.pow_le_pow_right (by omega) (by omega)
          omega
        have hor := or32 hh d (by omega) hd
        have HD2 : Hid (B.Dec 5 (B.dv (bs.take (pos + 1))) out (cc + 5) (hh * 32 + d)) := by
          rw [B.take_next bs pos (by have := HLEN.out; omega), HX.out, B.dv_app, HDD.out]
          exact HD.out.digit d hd
        have HV2 : Hid (B.Val 32 (bs.take (pos + 1))) := by
          rw [B.take_next bs pos (by have := HLEN.out; omega), HX.out]
          exact HV.out.next x (by rw [HDD.out]; exact hd)
        have hol : out.length ≤ 10000000 := by
          have h1 := HD.out.2.1
          have h2 : (B.dv (bs.take pos)).length ≤ pos := by simp [B.dv]; omega
          omega
        by_cases h8 : cc + 5 < 8
        · go_wp2_with (go_at_call 25; refine (digit_yes x.toNat d _ HDD (by omega) (by omega)).mono ?_; rintro e w2 ⟨rfl, rfl⟩)
          go_roundw
          case rel => exact ⟨pos + 1, hh * 32 + d, cc + 5, out, by simp, by go_num, h8, by omega, HV2, HD2, hO2, hit2, hB2⟩
          case measure => simp only [World.iterPos, hit2, hm]; omega
        · obtain ⟨c, hc⟩ : ∃ c, cc + 5 = c + 8 := ⟨cc + 5 - 8, by omega⟩
          rw [hc] at HD2
          have hci : (cc : Int) + 5 - 8 = (c : Int) := by omega
          obtain ⟨hb1, hb2⟩ := HD2.out.byte
          obtain ⟨hp1, hp2⟩ := pow_bounds c (by omega)
          obtain ⟨y, hy⟩ : ∃ y : UInt8, y.toNat = (hh * 32 + d) / 2 ^ c := ⟨UInt8.ofNat ((hh * 32 + d) / 2 ^ c), by simp; omega⟩
          have hyi : ((hh : Int) * 32 + (d : Int)) / 2 ^ c = (y.toNat : Int) := by rw [hy]; simp
          have hand := and_u64 (hh * 32 + d) c (by omega) (by omega)
          rw [show ((hh * 32 + d : Nat) : Int) = (hh : Int) * 32 + (d : Int) by omega] at hand
          have HD3 := hide (hb2 y hy)
          have hyl := y.toNat_lt
          clear hb1 hb2 hy
          go_wp2_with (first
            | (go_at_call 25; refine (digit_yes x.toNat d _ HDD (by omega) (by omega)).mono ?_; rintro e w2 ⟨rfl, rfl⟩)
            | (at_builtin; refine wpList_append_B rfl (.tmp 49) (.tmp 54) rfl w.heap.size _ out rfl (by exact hO2.alloc _) _ _ _ [y] rfl rfl (SlL.oneI _ _ _ _ (by first | rfl | omega)) (by simp) (by omega) (by simp; omega) ?_; intro v4 w4 hO4 hG4; have hB4 := grown_below (hO2.alloc _) hG4 (hB2.alloc hz2 _) (by simp; omega); have hit4 := grown_iter (hO2.alloc _) hG4 ((Lib.alloc_old _ _ _ (Array.getElem?_eq_some_iff.1 hit2).1).trans hit2); clear hG4 hO2))
          go_roundw
          case rel => exact ⟨pos + 1, (hh * 32 + d) % 2 ^ c, c, out ++ [y], by simp, by go_num, by omega, by omega, HV2, HD3, hO4, hit4, hB4⟩
          case measure => simp only [World.iterPos, hit4, hm]; omega
      · have hbad : ∀ out, ¬ B.Good 5 32 bs out := fun out => B.bad_at pos (by have := HLEN.out; omega) (by rw [HX.out]; omega) out
        have HBAD := hide hbad
        clear hbad
        obtain ⟨r, t, hr, hr1, hnx⟩ : ∃ r t : Nat, Hid (32 ≤ B.dval r) ∧ r ≤ 2147483647 ∧ ∀ ty, (Instr.next (.pointer (some ⟨K, 0, none⟩)) true ty).run Try.prog wr = .ok (.tuple #[.bool true, .int .i64 pos, .int .i32 (r : Int)]) (wr.iterAt K s t) := by
          by_cases hx1 : x.toNat < 128
          · exact ⟨x.toNat, pos + 1, by show 32 ≤ _; omega, by omega, fun ty => by rw [Lib.run_next_ascii_at wr K s pos ty hit hp (by rw [hxs]; exact hx1), hxs]⟩
          · have h1 := (decode_high s pos hp (by rw [hxs]; omega)).1
            exact ⟨_, _, by show 32 ≤ _; rw [B.dval_high (by omega)]; omega, decode_le s pos, fun ty => Lib.run_next_any_at wr K s pos ty hit hp⟩
        have hB2 := Lib.below_iterAt hB (k := K) (by omega) s t
        generalize wr.iterAt K s t = wi at hnx hB2
        clear hO hB hz hit
        by_cases h99 : B.dval r = 99
        · go_wp2_with (go_at_call 25; refine (digit_no r _ (by exact h99) hr1).mono ?_; rintro e w2 ⟨rfl, rfl⟩)
          go_ret2
          exact ⟨Or.inr ⟨rfl, HBAD.out⟩, hB2⟩
        · have h35 : B.dval r < 99 := by rcases B.dval_cases r with h | h | h | h <;> omega
          generalize hdd : B.dval r = d at h35 hr
          have HDD := hide hdd
          have hd32 := hr.out
          clear hdd h99
          go_wp2_with (go_at_call 25; refine (digit_yes r d _ HDD (by omega) hr1).mono ?_; rintro e w2 ⟨rfl, rfl⟩)
          go_ret2
          exact ⟨Or.inr ⟨rfl, HBAD.out⟩, hB2⟩
    · have hnx : ∀ ty, (Instr.next (.pointer (some ⟨K, 0, none⟩)) true ty).run Try.prog wr = .ok (.tuple #[.bool false]) wr := fun ty => Lib.run_next_end_at wr K s pos ty hit hp
      obtain rfl : pos = s.size := by omega
      have htk : bs.take s.size = bs := List.take_of_length_le (by have := HLEN.out; omega)
      rw [htk] at HV HD
      clear htk hp
      by_cases hg : cc < 5
      · by_cases h0 : hh = 0
        · subst h0
          go_wp2
          go_ret2
          exact ⟨Or.inl ⟨out, _, rfl, ⟨HV.out, HD.out.good hg⟩, hO⟩, hB⟩
        · have HBAD : Hid (∀ out, ¬ B.Good 5 32 bs out) := fun out' hgg => HD.out.bad (by omega) hcc (Or.inr h0) out' hgg.2
          have hne : ((hh : Int) != 0) = true := by simp; omega
          go_wp2
          go_ret2
          exact ⟨Or.inr ⟨rfl, HBAD.out⟩, hB⟩
      · have HBAD : Hid (∀ out, ¬ B.Good 5 32 bs out) := fun out' hgg => HD.out.bad (by omega) hcc (Or.inl (by omega)) out' hgg.2
        go_wp2
        go_ret2
        exact ⟨Or.inr ⟨rfl, HBAD.out⟩, hB⟩
set_option maxRecDepth 3000 in
set_option maxHeartbeats 400000 in
theorem open4 (s : ByteArray) (bs : List UInt8) (w : World) (hs : Hid (s.data.toList = bs)) (hn : s.size ≤ 1000000) :
    Calls Try.prog 20 #[.string s, .int .i64 4] w fun e w' => ((∃ out v, e = .returned (.tuple #[v, .int .i64 0]) ∧ B.Good 4 16 bs out ∧ OwnB w' w.heap.size v out) ∨ (e = .returned (.tuple #[.slice none 0 0, .int .i64 20]) ∧ ∀ out, ¬ B.Good 4 16 bs out)) ∧ Below w.heap.size w w' := by
  obtain ⟨w1, hmk, hO1, hB1⟩ := make_own w (s.size * 4 / 8) ((s.size : Int) * 4 / 8) (by omega) (by omega)
  go_enter Try.func20, Try.ntmps20
  go_wp2
  have hit1 : (w1.iter s 0).heap[w1.heap.size]? = some (.stringIter s 0) := World.iter_heap w1 s 0
  have hIO : OwnB (w1.iter s 0) w.heap.size (.slice (some ⟨w.heap.size, 0, none⟩) 0 (s.size * 4 / 8)) [] := hO1.alloc _
  have hIB : Below w.heap.size w (w1.iter s 0) := hB1.alloc hB1.size _
  have hw1 := hB1.size
  have hlen : bs.length = s.size := by rw [← hs.out]; rfl
  have HLEN := hide hlen
  generalize hK : w1.heap.size = K at hit1 hw1
  clear hK hO1 hB1 hmk hlen
  go_loopw [6, 7, 8] (fun v h c wr => ∃ (pos hh cc : Nat) (out : List UInt8), h = .int .u64 (hh : Int) ∧ c = .int .i64 (cc : Int) ∧ cc < 8 ∧ pos ≤ s.size ∧ Hid (B.Val 16 (bs.take pos)) ∧ Hid (B.Dec 4 (B.dv (bs.take pos)) out cc hh) ∧ OwnB wr w.heap.size v out ∧ wr.heap[K]? = some (.stringIter s pos) ∧ Below w.heap.size w wr) (fun _ _ _ wr => s.size - wr.iterPos K)
  case atStart => exact ⟨0, 0, 0, [], rfl, rfl, by omega, by omega, B.Val.nil 16, B.Dec.zero 4, hIO, hit1, hIB⟩
  case round =>
    clear hit1 hIO hIB
    obtain ⟨pos, hh, cc, out, rfl, rfl, hcc, hpos, HV, HD, hO, hit, hB⟩ := hrel
    have hz := hB.size
    by_cases hp : pos < s.size
    · have hxs : s[pos]'hp = bs.getD pos 0 := by
        have h1 := hs.out
        subst h1
        exact str_at s pos hp
      generalize hx : bs.getD pos 0 = x at hxs
      have HX := hide hx
      have hxl := x.toNat_lt
      clear hx
      by_cases hd : B.dval x.toNat < 16
      · have hx1 : x.toNat < 128 := by
          rcases B.dval_cases x.toNat with h | h | h | h <;> omega
        have hnx : ∀ ty, (Instr.next (.pointer (some ⟨K, 0, none⟩)) true ty).run Try.prog wr = .ok (.tuple #[.bool true, .int .i64 pos, .int .i32 (x.toNat : Int)]) (wr.iterAt K s (pos + 1)) := fun ty => by
          rw [Lib.run_next_ascii_at wr K s pos ty hit hp (by rw [hxs]; exact hx1), hxs]
        have hO2 := own_iterAt hO hit (pos + 1)
        have hit2 := Lib.iterAt_heap wr K s pos (pos + 1) hit
        have hB2 := Lib.below_iterAt hB (k := K) (by omega) s (pos + 1)
        have hz2 := hB2.size
        have hm := hit
        generalize wr.iterAt K s (pos + 1) = wi at hnx hO2 hit2 hB2 hz2
        clear hO hB hz
        generalize hdd : B.dval x.toNat = d at hd
        have HDD := hide hdd
        clear hdd
        have h7 : hh < 128 := by
          have h1 := HD.out.1
          have h2 : 2 ^ cc ≤ 2 ^ 7 := Nat.pow_le_pow_right (by omega) (by omega)
          omega
        have hor := or16 hh d (by omega) hd
        have HD2 : Hid (B.Dec 4 (B.dv (bs.take (pos + 1))) out (cc + 4) (hh * 16 + d)) := by
          rw [B.take_next bs pos (by have := HLEN.out; omega), HX.out, B.dv_app, HDD.out]
          exact HD.out.digit d hd
        have HV2 : Hid (B.Val 16 (bs.take (pos + 1))) := by
          rw [B.take_next bs pos (by have := HLEN.out; omega), HX.out]
          exact HV.out.next x (by rw [HDD.out]; exact hd)
        have hol : out.length ≤ 10000000 := by
          have h1 := HD.out.2.1
          have h2 : (B.dv (bs.take pos)).length ≤ pos := by simp [B.dv]; omega
          omega
        by_cases h8 : cc + 4 < 8
        · go_wp2_with (go_at_call 25; refine (digit_yes x.toNat d _ HDD (by omega) (by omega)).mono ?_; rintro e w2 ⟨rfl, rfl⟩)
          go_roundw
          case rel => exact ⟨pos + 1, hh * 16 + d, cc + 4, out, by simp, by go_num, h8, by omega, HV2, HD2, hO2, hit2, hB2⟩
          case measure => simp only [World.iterPos, hit2, hm]; omega
        · obtain ⟨c, hc⟩ : ∃ c, cc + 4 = c + 8 := ⟨cc + 4 - 8, by omega⟩
          rw [hc] at HD2
          have hci : (cc : Int) + 4 - 8 = (c : Int) := by omega
          obtain ⟨hb1, hb2⟩ := HD2.out.byte
          obtain ⟨hp1, hp2⟩ := pow_bounds c (by omega)
          obtain ⟨y, hy⟩ : ∃ y : UInt8, y.toNat = (hh * 16 + d) / 2 ^ c := ⟨UInt8.ofNat ((hh * 16 + d) / 2 ^ c), by simp; omega⟩
          have hyi : ((hh : Int) * 16 + (d : Int)) / 2 ^ c = (y.toNat : Int) := by rw [hy]; simp
          have hand := and_u64 (hh * 16 + d) c (by omega) (by omega)
          rw [show ((hh * 16 + d : Nat) : Int) = (hh : Int) * 16 + (d : Int) by omega] at hand
          have HD3 := hide (hb2 y hy)
          have hyl := y.toNat_lt
          clear hb1 hb2 hy
          go_wp2_with (first
            | (go_at_call 25; refine (digit_yes x.toNat d _ HDD (by omega) (by omega)).mono ?_; rintro e w2 ⟨rfl, rfl⟩)
            | (at_builtin; refine wpList_append_B rfl (.tmp 49) (.tmp 54) rfl w.heap.size _ out rfl (by exact hO2.alloc _) _ _ _ [y] rfl rfl (SlL.oneI _ _ _ _ (by first | rfl | omega)) (by simp) (by omega) (by simp; omega) ?_; intro v4 w4 hO4 hG4; have hB4 := grown_below (hO2.alloc _) hG4 (hB2.alloc hz2 _) (by simp; omega); have hit4 := grown_iter (hO2.alloc _) hG4 ((Lib.alloc_old _ _ _ (Array.getElem?_eq_some_iff.1 hit2).1).trans hit2); clear hG4 hO2))
          go_roundw
          case rel => exact ⟨pos + 1, (hh * 16 + d) % 2 ^ c, c, out ++ [y], by simp, by go_num, by omega, by omega, HV2, HD3, hO4, hit4, hB4⟩
          case measure => simp only [World.iterPos, hit4, hm]; omega
      · have hbad : ∀ out, ¬ B.Good 4 16 bs out := fun out => B.bad_at pos (by have := HLEN.out; omega) (by rw [HX.out]; omega) out
        have HBAD := hide hbad
        clear hbad
        obtain ⟨r, t, hr, hr1, hnx⟩ : ∃ r t : Nat, Hid (16 ≤ B.dval r) ∧ r ≤ 2147483647 ∧ ∀ ty, (Instr.next (.pointer (some ⟨K, 0, none⟩)) true ty).run Try.prog wr = .ok (.tuple #[.bool true, .int .i64 pos, .int .i32 (r : Int)]) (wr.iterAt K s t) := by
          by_cases hx1 : x.toNat < 128
          · exact ⟨x.toNat, pos + 1, by show 16 ≤ _; omega, by omega, fun ty => by rw [Lib.run_next_ascii_at wr K s pos ty hit hp (by rw [hxs]; exact hx1), hxs]⟩
          · have h1 := (decode_high s pos hp (by rw [hxs]; omega)).1
            exact ⟨_, _, by show 16 ≤ _; rw [B.dval_high (by omega)]; omega, decode_le s pos, fun ty => Lib.run_next_any_at wr K s pos ty hit hp⟩
        have hB2 := Lib.below_iterAt hB (k := K) (by omega) s t
        generalize wr.iterAt K s t = wi at hnx hB2
        clear hO hB hz hit
        by_cases h99 : B.dval r = 99
        · go_wp2_with (go_at_call 25; refine (digit_no r _ (by exact h99) hr1).mono ?_; rintro e w2 ⟨rfl, rfl⟩)
          go_ret2
          exact ⟨Or.inr ⟨rfl, HBAD.out⟩, hB2⟩
        · have h35 : B.dval r < 99 := by rcases B.dval_cases r with h | h | h | h <;> omega
          generalize hdd : B.dval r = d at h35 hr
          have HDD := hide hdd
          have hd32 := hr.out
          clear hdd h99
          go_wp2_with (go_at_call 25; refine (digit_yes r d _ HDD (by omega) hr1).mono ?_; rintro e w2 ⟨rfl, rfl⟩)
          go_ret2
          exact ⟨Or.inr ⟨rfl, HBAD.out⟩, hB2⟩
    · have hnx : ∀ ty, (Instr.next (.pointer (some ⟨K, 0, none⟩)) true ty).run Try.prog wr = .ok (.tuple #[.bool false]) wr := fun ty => Lib.run_next_end_at wr K s pos ty hit hp
      obtain rfl : pos = s.size := by omega
      have htk : bs.take s.size = bs := List.take_of_length_le (by have := HLEN.out; omega)
      rw [htk] at HV HD
      clear htk hp
      by_cases hg : cc < 4
      · by_cases h0 : hh = 0
        · subst h0
          go_wp2
          go_ret2
          exact ⟨Or.inl ⟨out, _, rfl, ⟨HV.out, HD.out.good hg⟩, hO⟩, hB⟩
        · have HBAD : Hid (∀ out, ¬ B.Good 4 16 bs out) := fun out' hgg => HD.out.bad (by omega) hcc (Or.inr h0) out' hgg.2
          have hne : ((hh : Int) != 0) = true := by simp; omega
          go_wp2
          go_ret2
          exact ⟨Or.inr ⟨rfl, HBAD.out⟩, hB⟩
      · have HBAD : Hid (∀ out, ¬ B.Good 4 16 bs out) := fun out' hgg => HD.out.bad (by omega) hcc (Or.inl (by omega)) out' hgg.2
        go_wp2
        go_ret2
        exact ⟨Or.inr ⟨rfl, HBAD.out⟩, hB⟩
theorem openHex32_any (s : ByteArray) (bs : List UInt8) (w : World) (hs : Hid (s.data.toList = bs)) (hn : s.size ≤ 1000000) :
    Calls Try.prog 11 #[.string s] w fun e w' => ((∃ out v, e = .returned (.tuple #[v, .int .i64 0]) ∧ B.Good 5 32 bs out ∧ OwnB w' w.heap.size v out) ∨ (e = .returned (.tuple #[.slice none 0 0, .int .i64 20]) ∧ ∀ out, ¬ B.Good 5 32 bs out)) ∧ Below w.heap.size w w' := by
  go_enter Try.func11, Try.ntmps11
  go_wp2_with fail
  refine (open5 s bs _ hs hn).mono ?_
  rintro e w1 ⟨⟨out, v, rfl, h1, h2⟩ | ⟨rfl, h1⟩, hB1⟩
  · go_wp2
    go_ret2
    exact ⟨Or.inl ⟨out, v, rfl, h1, h2⟩, hB1⟩
  · go_wp2
    go_ret2
    exact ⟨Or.inr ⟨rfl, h1⟩, hB1⟩
theorem openHex_any (s : ByteArray) (bs : List UInt8) (w : World) (hs : Hid (s.data.toList = bs)) (hn : s.size ≤ 1000000) :
    Calls Try.prog 12 #[.string s] w fun e w' => ((∃ out v, e = .returned (.tuple #[v, .int .i64 0]) ∧ B.Good 4 16 bs out ∧ OwnB w' w.heap.size v out) ∨ (e = .returned (.tuple #[.slice none 0 0, .int .i64 20]) ∧ ∀ out, ¬ B.Good 4 16 bs out)) ∧ Below w.heap.size w w' := by
  go_enter Try.func12, Try.ntmps12
  go_wp2_with fail
  refine (open4 s bs _ hs hn).mono ?_
  rintro e w1 ⟨⟨out, v, rfl, h1, h2⟩ | ⟨rfl, h1⟩, hB1⟩
  · go_wp2
    go_ret2
    exact ⟨Or.inl ⟨out, v, rfl, h1, h2⟩, hB1⟩
  · go_wp2
    go_ret2
    exact ⟨Or.inr ⟨rfl, h1⟩, hB1⟩
end Go.Proofs.Ytffggdjmhgialaa
