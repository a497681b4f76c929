/- The statement on opened bitmaps, walked. -/
import Derived.Test.YtikjhacgihohiaaDoorKnown
import Derived.Test.YtikjhacgihohiaaDoorRefO
namespace Go.Proofs.YtikjhacgihohiaaDoor
open Go.RowKit
namespace T
theorem places_len (b : List UInt8) : (places b).length ≤ 8 * b.length := by
  unfold places
  exact Nat.le_trans (List.length_filter_le _ _) (by simp)
theorem opn_len (k : Nat) : ∀ (b : List UInt8) (least : Nat) (m : List UInt16), b.length ≤ k → opn least b = some m → m.length ≤ 8 * b.length := by
  induction k with
  | zero =>
    intro b least m hk h
    match b, hk with
    | [], _ => rw [opn_nil] at h; cases h; simp
  | succ k ih =>
    intro b least m hk h
    match b, hk, h with
    | [], _, h => rw [opn_nil] at h; cases h; simp
    | [x], _, h => rw [opn_one] at h; cases h
    | x :: n :: r, hk, h =>
      rw [opn_two] at h
      split at h
      · cases h
      · obtain ⟨m', hm', rfl⟩ := Option.map_eq_some_iff.1 h
        have h1 := ih (r.drop n.toNat) _ m' (by simp only [List.length_cons, List.length_drop] at hk ⊢; omega) hm'
        have h2 := places_len (r.take n.toNat)
        have h3 : (typ x.toNat (r.take n.toNat)).length = (places (r.take n.toNat)).length := by simp [typ]
        simp only [List.length_append, List.length_cons, List.length_drop, List.length_take] at *
        omega
end T
set_option maxRecDepth 10000 in
set_option maxHeartbeats 3200000 in
theorem opens_any (l : List UInt8) (ao : Option Addr) (len cap : Nat) (w : World) (hl : Hid (l.length = len)) (hs : SlL w ao l) (hc1 : len ≤ cap) (hc2 : cap ≤ 9223372036854775807) (G : Glob w) :
    Calls Tryd.prog 5 #[.slice ao len cap] w fun e w' => e = .returned (.bool true) ∧ Below w.heap.size w w' := by
  have ck := known_any w G
  have HS := hide hs
  clear hs
  go_enter Tryd.func5, Tryd.ntmps5
  go_wp2_with (go_at_call 7; refine ck.mono ?_; rintro e w1 ⟨rfl, hB1⟩)
  · go_ret
    exact ⟨rfl, hB1⟩
  · have hL2000 : (len : Int) ≤ 2000 := by assumption
    have co := open_any l ao len cap w1 hl (HS.out.below hB1 (Nat.le_refl _)) hc1 hc2 (by omega)
    refine co.mono ?_
    rintro e w2 ⟨hB2, h2⟩
    have b2 := hB1.trans (hB2.mono hB1.size)
    have cr := ropen_any l ao len cap w2 hl (HS.out.below b2 (Nat.le_refl _)) (by omega)
    obtain ⟨m, v2, hm, rfl, hO2⟩ | ⟨hm, rfl⟩ := h2
    · obtain ⟨a2, c2, rfl, hS2, hn2, _, hm2⟩ := hO2.open
      have HS2 := hide hS2
      obtain ⟨hbm, hri, _⟩ := T.bmp_opn _ l 0 m (Nat.le_refl _) hm
      have hml := T.opn_len _ l 0 m (Nat.le_refl _) hm
      rw [hl.out] at hml
      obtain ⟨nm, hnm⟩ : ∃ nm, m.length = nm := ⟨_, rfl⟩
      rw [hnm]
      rw [hnm] at hml
      rw [hm] at cr
      clear hS2 hO2 co ck hB1 hB2 hm
      go_wp2_with fail
      go_at_call 19
      refine cr.mono ?_
      rintro e w3 ⟨hB3, h3⟩
      obtain ⟨m', v3, hm', rfl, hO3⟩ | ⟨h, _⟩ := h3
      · obtain rfl := Option.some.inj hm'
        obtain ⟨a3, c3, rfl, hS3, hn3, _, hm3⟩ := hO3.open
        have b3 := b2.trans (hB3.mono b2.size)
        have z3 := hB3.size
        have ct := htypes_any _ _ a2 a3 nm c2 nm c3 w3 (HS2.out.below hB3 (Nat.le_refl _)) hS3 hnm hnm (by omega)
        rw [decide_eq_true rfl] at ct
        rw [hnm]
        clear hS3 hO3 cr hm'
        go_wp2_with fail
        go_at_call 17
        refine ct.mono ?_
        rintro e w4 ⟨rfl, hB4⟩
        have b4 := b3.trans (hB4.mono b3.size)
        have hB24 := hB3.trans (hB4.mono z3)
        have cb := bitmap_any m a2 nm c2 w4 hnm (HS2.out.below hB24 (Nat.le_refl _)) hn2 (by omega)
        clear ct hB4 hB3 z3 b3
        go_wp2_with fail
        go_at_call 12
        refine cb.mono ?_
        rintro e w5 ⟨v5, c, rfl, hcl, hclen, hO5, hB5⟩
        obtain rfl := hcl.self hri
        rw [hbm] at hO5
        obtain ⟨a5, c5, rfl, hS5, _, _, _⟩ := hO5.open
        have b5 := b4.trans (hB5.mono b4.size)
        have ch := hbytes_any l l a5 ao len c5 len cap w5 hS5 (HS.out.below b5 (Nat.le_refl _)) hl hl
        rw [beq_self_eq_true] at ch
        rw [hl.out]
        clear hS5 hO5 cb hcl hB5 b4 hB24
        go_wp2_with fail
        go_at_call 15
        refine ch.mono ?_
        rintro e w6 ⟨rfl, rfl⟩
        clear ch
        go_wp2
        go_ret
        exact ⟨rfl, b5⟩
      · cases h
    · rw [hm] at cr
      clear co ck hB1 hB2 hm
      go_wp2_with fail
      go_at_call 19
      refine cr.mono ?_
      rintro e w3 ⟨hB3, h3⟩
      obtain ⟨m', v3, hm', _, _⟩ | ⟨_, rfl⟩ := h3
      · cases hm'
      · have b3 := b2.trans (hB3.mono b2.size)
        have ct := htypes_any [] [] none none 0 0 0 0 w3 (SlH.nil _ _) (SlH.nil _ _) rfl rfl (by omega)
        rw [decide_eq_true rfl] at ct
        clear cr hB3 b2
        go_wp2_with fail
        go_at_call 17
        refine ct.mono ?_
        rintro e w4 ⟨rfl, hB4⟩
        have b4 := b3.trans (hB4.mono b3.size)
        clear ct hB4 b3
        go_wp2
        go_ret
        exact ⟨rfl, b4⟩
end Go.Proofs.YtikjhacgihohiaaDoor
