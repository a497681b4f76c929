/- The law BaseReads returns true, for every text, and turns nothing that was there. -/
import Derived.Test.YtffggdjmhgialaaKnown
namespace Go.Proofs.Ytffggdjmhgialaa
open Go.RowKit
theorem baseReads_long (s : ByteArray) (w : World) (hn : 500 < s.size) (hm : s.size ≤ 9223372036854775807) :
    Calls Try.prog 4 #[.string s] w fun e w' => e = .returned (.bool true) ∧ Below w.heap.size w w' := by
  go_enter Try.func4, Try.ntmps4
  go_wp2_with (go_at_call 8; refine (known_any _).mono ?_; rintro e w1 ⟨rfl, hB1⟩)
  go_ret
  exact ⟨rfl, hB1⟩
/- a reading's bytes, or none where it is refused -/
def rd (k q : Nat) (bs : List UInt8) (b : List UInt8) (x : Int) : Prop := (B.Good k q bs b ∧ x = 0) ∨ ((∀ c, ¬ B.Good k q bs c) ∧ b = [] ∧ x = 20)
theorem rd_any (k q : Nat) (bs : List UInt8) : ∃ b x, rd k q bs b x := by
  by_cases h : ∃ b, B.Good k q bs b
  · obtain ⟨b, hb⟩ := h
    exact ⟨b, 0, Or.inl ⟨hb, rfl⟩⟩
  · exact ⟨[], 20, Or.inr ⟨fun c hc => h ⟨c, hc⟩, rfl, rfl⟩⟩
theorem rd_bounds {k q : Nat} {bs b : List UInt8} {x : Int} (h : rd k q bs b x) : 0 ≤ x ∧ x ≤ 20 := by
  rcases h with ⟨_, rfl⟩ | ⟨_, _, rfl⟩ <;> omega
theorem o32_rd (s : ByteArray) (bs b : List UInt8) (x : Int) (w : World) (hs : Hid (s.data.toList = bs)) (hn : s.size ≤ 1000000) (hg : Hid (rd 5 32 bs b x)) :
    Calls Try.prog 11 #[.string s] w fun e w' => ∃ ao c, e = .returned (.tuple #[.slice ao b.length c, .int .i64 x]) ∧ SlL w' ao b ∧ Below w.heap.size w w' := by
  rcases hg.out with ⟨h1, rfl⟩ | ⟨h1, rfl, rfl⟩
  · exact o32_good s bs b _ w rfl hs hn h1
  · exact (o32_bad s bs w hs hn h1).mono fun _ _ h => ⟨none, 0, h.1, SlL.nil _ _, h.2⟩
theorem o16_rd (s : ByteArray) (bs b : List UInt8) (x : Int) (w : World) (hs : Hid (s.data.toList = bs)) (hn : s.size ≤ 1000000) (hg : Hid (rd 4 16 bs b x)) :
    Calls Try.prog 12 #[.string s] w fun e w' => ∃ ao c, e = .returned (.tuple #[.slice ao b.length c, .int .i64 x]) ∧ SlL w' ao b ∧ Below w.heap.size w w' := by
  rcases hg.out with ⟨h1, rfl⟩ | ⟨h1, rfl, rfl⟩
  · exact o16_good s bs b _ w rfl hs hn h1
  · exact (o16_bad s bs w hs hn h1).mono fun _ _ h => ⟨none, 0, h.1, SlL.nil _ _, h.2⟩
theorem r32_rd (s : ByteArray) (bs b : List UInt8) (x : Int) (w : World) (hs : Hid (s.data.toList = bs)) (hn : s.size ≤ 1000000) (hg : Hid (rd 5 32 bs b x)) :
    Calls Try.prog 16 #[.string s] w fun e w' => ∃ ao c, e = .returned (.tuple #[.slice ao b.length c, .int .i64 x]) ∧ SlL w' ao b ∧ Below w.heap.size w w' := by
  rcases hg.out with ⟨h1, rfl⟩ | ⟨h1, rfl, rfl⟩
  · exact r32_good s bs b _ w rfl hs hn h1
  · exact (r32_bad s bs w hs hn h1).mono fun _ _ h => ⟨none, 0, h.1, SlL.nil _ _, h.2⟩
theorem r16_rd (s : ByteArray) (bs b : List UInt8) (x : Int) (w : World) (hs : Hid (s.data.toList = bs)) (hn : s.size ≤ 1000000) (hg : Hid (rd 4 16 bs b x)) :
    Calls Try.prog 17 #[.string s] w fun e w' => ∃ ao c, e = .returned (.tuple #[.slice ao b.length c, .int .i64 x]) ∧ SlL w' ao b ∧ Below w.heap.size w w' := by
  rcases hg.out with ⟨h1, rfl⟩ | ⟨h1, rfl, rfl⟩
  · exact r16_good s bs b _ w rfl hs hn h1
  · exact (r16_bad s bs w hs hn h1).mono fun _ _ h => ⟨none, 0, h.1, SlL.nil _ _, h.2⟩
set_option maxRecDepth 3000 in
set_option maxHeartbeats 1000000 in
theorem baseReads_walk (s : ByteArray) (w : World) (hn : s.size ≤ 500) :
    Calls Try.prog 4 #[.string s] w fun e w' => e = .returned (.bool true) ∧ Below w.heap.size w w' := by
  obtain ⟨b, x, hbx⟩ := rd_any 5 32 s.data.toList
  obtain ⟨d, y, hdy⟩ := rd_any 4 16 s.data.toList
  have hx := rd_bounds hbx
  have hy := rd_bounds hdy
  have HB := hide hbx
  have HD := hide hdy
  clear hbx hdy
  go_enter Try.func4, Try.ntmps4
  go_wp2_with (go_at_call 8; refine (known_any _).mono ?_; rintro e w1 ⟨rfl, hB1⟩; have hz1 := hB1.size)
  refine (o32_rd s _ b x _ (by exact rfl) (by omega) HB).mono ?_
  rintro e w2 ⟨a2, c2, rfl, hs2, hB2⟩
  have hb2 := hB1.trans (hB2.mono hz1)
  have hz2 := hb2.size
  have HS2 := hide hs2
  clear hB1 hB2 hz1 hs2
  go_wp2_with fail
  refine (r32_rd s _ b x _ (by exact rfl) (by omega) HB).mono ?_
  rintro e w3 ⟨a3, c3, rfl, hs3, hB3⟩
  have hb3 := hb2.trans (hB3.mono hz2)
  have hz3 := hb3.size
  have HS3 := hide hs3
  have HS23 := hide (HS2.out.below hB3 (Nat.le_refl _))
  clear hb2 hB3 hz2 hs3 HS2
  go_wp2_with fail
  refine (o16_rd s _ d y _ (by exact rfl) (by omega) HD).mono ?_
  rintro e w4 ⟨a4, c4, rfl, hs4, hB4⟩
  have hb4 := hb3.trans (hB4.mono hz3)
  have hz4 := hb4.size
  have HS4 := hide hs4
  have HS24 := hide (HS23.out.below hB4 (Nat.le_refl _))
  have HS34 := hide (HS3.out.below hB4 (Nat.le_refl _))
  clear hb3 hB4 hz3 hs4 HS23 HS3
  go_wp2_with fail
  refine (r16_rd s _ d y _ (by exact rfl) (by omega) HD).mono ?_
  rintro e w5 ⟨a5, c5, rfl, hs5, hB5⟩
  have hb5 := hb4.trans (hB5.mono hz4)
  have HS25 := HS24.out.below hB5 (Nat.le_refl _)
  have HS35 := HS34.out.below hB5 (Nat.le_refl _)
  have HS45 := HS4.out.below hB5 (Nat.le_refl _)
  clear hb4 hB5 hz4 HS24 HS34 HS4
  go_wp2_with fail
  refine (bytes_same b a2 a3 _ _ c2 c3 _ (by exact HS25) (by exact HS35) rfl rfl).mono ?_
  rintro e w8 ⟨rfl, rfl⟩
  go_wp2_with fail
  refine (bytes_same d a4 a5 _ _ c4 c5 _ (by exact HS45) (by exact hs5) rfl rfl).mono ?_
  rintro e w9 ⟨rfl, rfl⟩
  go_wp2
  go_ret
  exact ⟨rfl, hb5⟩
end Go.Proofs.Ytffggdjmhgialaa
