/- The statement on types' texts, walked. -/
import Derived.Test.YtikjhacgihohiaaDoorKnown
import Derived.Test.YtikjhacgihohiaaDoorRefT2
namespace Go.Proofs.YtikjhacgihohiaaDoor
open Go.RowKit
set_option maxRecDepth 10000 in
set_option maxHeartbeats 3200000 in
theorem texts_any (t : UInt16) (s : List UInt8) (w : World) (G : Glob w) :
    Calls Tryd.prog 3 #[.int .u16 (t.toNat : Int), .string ⟨s.toArray⟩] w fun e w' => e = .returned (.bool true) ∧ Below w.heap.size w w' := by
  have ck := known_any w G
  have ht : t.toNat < 65536 := t.toNat_lt
  obtain ⟨L, hL⟩ : ∃ L, (⟨s.toArray⟩ : ByteArray).size = L := ⟨_, rfl⟩
  have hsl : s.length = L := hL
  go_enter Tryd.func3, Tryd.ntmps3
  go_wp2_with (go_at_call 7; refine ck.mono ?_; rintro e w1 ⟨rfl, hB1⟩)
  · go_ret
    exact ⟨rfl, hB1⟩
  · have hL100 : (L : Int) ≤ 100 := by assumption
    have hs1 : s.length ≤ 1000000 := by omega
    have cx := text_any t w1 (G.same hB1)
    have ht10 := T.text_len t.toNat ht
    have hpt := T.parse_text t.toNat ht
    have cr := fun W => rtext_any t W
    generalize hx : T.textOf t.toNat = x at *
    clear hx
    refine cx.mono ?_
    rintro e w2 ⟨rfl, hB2⟩
    have b2 := hB1.trans (hB2.mono hB1.size)
    have cp := parse_any x (by omega) w2 (G.same b2)
    rw [hpt] at cp
    clear hpt ck cx hB2 hB1
    go_wp2_with fail
    go_at_call 9
    refine cp.mono ?_
    unfold T.pv
    rintro e w3 ⟨rfl, hB3⟩
    have b3 := b2.trans (hB3.mono b2.size)
    have cp2 := parse_any s hs1 w3 (G.same b3)
    have cr2 := fun W => rparse_any s hs1 W
    clear cp hB3 b2
    cases hp : T.parseOf s with
    | none =>
      rw [hp] at cp2 cr2
      go_wp2_with fail
      go_at_call 9
      refine cp2.mono ?_
      unfold T.pv
      rintro e w4 ⟨rfl, hB4⟩
      have b4 := b3.trans (hB4.mono b3.size)
      go_wp2_with fail
      go_at_call 10
      refine (cr2 _).mono ?_
      unfold T.pv
      rintro e w5 ⟨rfl, hB5⟩
      have b5 := b4.trans (hB5.mono b4.size)
      go_wp2_with fail
      go_at_call 11
      refine (cr _).mono ?_
      rintro e w6 ⟨rfl, hB6⟩
      have b6 := b5.trans (hB6.mono b5.size)
      clear cr cr2 cp2 hB4 hB5 hB6
      go_wp2
      go_ret
      exact ⟨by simp, b6⟩
    | some n =>
      rw [hp] at cp2 cr2
      go_wp2_with fail
      go_at_call 9
      refine cp2.mono ?_
      unfold T.pv
      rintro e w4 ⟨rfl, hB4⟩
      have b4 := b3.trans (hB4.mono b3.size)
      go_wp2_with fail
      go_at_call 10
      refine (cr2 _).mono ?_
      unfold T.pv
      rintro e w5 ⟨rfl, hB5⟩
      have b5 := b4.trans (hB5.mono b4.size)
      go_wp2_with fail
      go_at_call 11
      refine (cr _).mono ?_
      rintro e w6 ⟨rfl, hB6⟩
      have b6 := b5.trans (hB6.mono b5.size)
      clear cr cr2 cp2 hB4 hB5 hB6
      go_wp2
      go_ret
      exact ⟨by simp, b6⟩
end Go.Proofs.YtikjhacgihohiaaDoor
