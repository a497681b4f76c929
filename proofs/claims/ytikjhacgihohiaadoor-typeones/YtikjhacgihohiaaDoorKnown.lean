/- The chapter's example. -/
import Derived.Test.YtikjhacgihohiaaDoorOpn3
import Derived.Test.YtikjhacgihohiaaDoorTxt2
import Derived.Test.YtikjhacgihohiaaDoorHelp
namespace Go.Proofs.YtikjhacgihohiaaDoor
open Go.RowKit
namespace T
theorem known_clean : IsClean [47, 1, 46, 15] [1, 15, 46, 47] := by
  constructor
  · unfold Rising; decide
  · intro x; simp only [List.mem_cons, List.not_mem_nil, or_false]
    constructor
    · rintro (h | h | h | h) <;> simp [h]
    · rintro (h | h | h | h) <;> simp [h]
theorem known_bmp : bmp [1, 15, 46, 47] = [0, 6, 64, 1, 0, 0, 0, 3] := by
  rw [bmp_cons, show List.dropWhile (same 1) [15, 46, 47] = [] from by decide, bmp_nil, List.append_nil]
  decide
theorem known_opn : opn 0 [0, 6, 64, 1, 0, 0, 0, 3] = some [1, 15, 46, 47] := by
  rw [← known_bmp]
  exact opn_bmp 4 _ 0 (Nat.le_refl _) known_clean.1 (fun _ _ => Nat.zero_le _)
theorem known_parse : parseOf [84, 89, 80, 69, 49] = some 1 := by
  have h : num [49] = some 1 := (num_iff [49] 1).2 ⟨by omega, by rw [dec_small 1 (by omega)]; rfl⟩
  exact h
theorem known_text : textOf 1 = [65] := rfl
theorem tab_pre : ∀ p ∈ tab, p.2.take 4 ≠ typeW := by decide
theorem tab_back : ∀ p ∈ tab, parseOf p.2 = some p.1 := by
  intro p hp
  have : ∀ p ∈ tab, tab.find? (fun q => q.2 == p.2) = some p := by decide
  unfold parseOf
  rw [this p hp]
theorem parse_text (t : Nat) (ht : t < 65536) : parseOf (textOf t) = some t := by
  unfold textOf
  cases hf : tab.find? (fun p => p.1 == t) with
  | some p =>
    have h1 := List.mem_of_find?_eq_some hf
    have h2 := List.find?_some hf
    have h3 : p.1 = t := by simpa using h2
    rw [← h3]; exact tab_back p h1
  | none =>
    show parseOf (typeW ++ Lib.decDigits t) = some t
    have hn : tab.find? (fun p => p.2 == typeW ++ Lib.decDigits t) = none := by
      rw [List.find?_eq_none]
      intro p hp he
      have e : p.2 = typeW ++ Lib.decDigits t := by simpa using he
      refine tab_pre p hp ?_
      rw [e]; rfl
    unfold parseOf
    rw [hn]
    have hp : Lib.hasPrefix (typeW ++ Lib.decDigits t) typeW = true := by
      unfold Lib.hasPrefix
      rw [List.isPrefixOf_iff_prefix]; exact List.prefix_append _ _
    show (if Lib.hasPrefix (typeW ++ Lib.decDigits t) typeW then num ((typeW ++ Lib.decDigits t).drop 4) else none) = some t
    rw [if_pos hp, show (typeW ++ Lib.decDigits t).drop 4 = Lib.decDigits t from rfl]
    exact (num_iff _ t).2 ⟨ht, rfl⟩
theorem text_len (t : Nat) (ht : t < 65536) : (textOf t).length ≤ 10 := by
  unfold textOf
  cases hf : tab.find? (fun p => p.1 == t) with
  | some p =>
    have h1 := List.mem_of_find?_eq_some hf
    have : ∀ p ∈ tab, p.2.length ≤ 10 := by decide
    exact this p h1
  | none =>
    show (typeW ++ Lib.decDigits t).length ≤ 10
    rw [List.length_append]
    have := dec_len t ht
    have h4 : typeW.length = 4 := rfl
    omega
theorem parse_lt (s : List UInt8) (n : Nat) (h : parseOf s = some n) : n < 65536 := by
  unfold parseOf at h
  split at h
  · rename_i p hp
    cases h
    have h1 := List.mem_of_find?_eq_some hp
    have : ∀ p ∈ tab, p.1 < 65536 := by decide
    exact this p h1
  · split at h
    · exact ((num_iff _ n).1 h).1
    · cases h
end T
set_option maxRecDepth 10000 in
set_option maxHeartbeats 3200000 in
theorem known_any (w : World) (G : Glob w) : Calls Tryd.prog 7 #[] w fun e w' => e = .returned (.bool true) ∧ Below w.heap.size w w' := by
  have hz0 := G.size
  have b0 : Below w.heap.size w (w.alloc (.cells #[.int .u16 47, .int .u16 1, .int .u16 46, .int .u16 15] 22)) := (Below.refl _ _).alloc (Nat.le_refl _) _
  have cb := bitmap_any [47, 1, 46, 15] (some ⟨w.heap.size, 0, none⟩) 4 4 (w.alloc (.cells #[.int .u16 47, .int .u16 1, .int .u16 46, .int .u16 15] 22)) rfl (SlH.litm w [47, 1, 46, 15] _ 22 (0, 0) rfl) (by simp) (by omega)
  go_enter Tryd.func7, Tryd.ntmps7
  go_wp2_with fail
  go_at_call 12
  refine cb.mono ?_
  rintro e w1 ⟨v1, c, rfl, hcl, _, hO1, hB1⟩
  obtain rfl := hcl.unique T.known_clean
  rw [T.known_bmp] at hO1
  obtain ⟨a1, c1, rfl, hS1, _, hc1, hm1⟩ := hO1.open
  have b1 := b0.trans (hB1.mono b0.size)
  have co := open_any [0, 6, 64, 1, 0, 0, 0, 3] a1 8 c1 w1 rfl hS1 hc1 (by unfold maxLen at hm1; omega) (by omega)
  rw [T.known_opn] at co
  clear cb hcl hB1 b0 hO1
  go_wp2_with fail
  go_at_call 13
  refine co.mono ?_
  rintro e w2 ⟨hB2, h2⟩
  obtain ⟨m, v2, hm, rfl, hO2⟩ | ⟨h, _⟩ := h2
  · have hm2 := (Option.some.inj hm).symm
    subst hm2
    clear hm co
    obtain ⟨a2, c2, rfl, hS2, _, _, _⟩ := hO2.open
    have b2 := b1.trans (hB2.mono b1.size)
    have hSL1 : SlL w2 a1 [0, 6, 64, 1, 0, 0, 0, 3] := hS1.below hB2 (Nat.le_refl _)
    have b2a : Below w2.heap.size w2 (w2.alloc (.cells #[.int .u8 0] 5)) := (Below.refl _ _).alloc (Nat.le_refl _) _
    have co2 := open_any [0] (some ⟨w2.heap.size, 0, none⟩) 1 1 (w2.alloc (.cells #[.int .u8 0] 5)) rfl (SlL.litm w2 [0] _ 5 (0, 0) rfl) (by omega) (by omega) (by omega)
    rw [T.opn_one] at co2
    have HS1 := hide hSL1
    have HS2 := hide hS2
    have z2 := b2.size
    clear hS1 hSL1 hS2 hO2 hB2
    go_wp2_with fail
    go_at_call 13
    refine co2.mono ?_
    rintro e w3 ⟨hB3, h3⟩
    obtain ⟨m, v3, hm, _, _⟩ | ⟨_, rfl⟩ := h3
    · cases hm
    · have hB23 := b2a.trans (hB3.mono b2a.size)
      have b3 := b2.trans (hB23.mono z2)
      have z3 := b3.size
      have hz23 := hB23.size
      have cp := parse_any [84, 89, 80, 69, 49] (by simp) w3 (G.same b3)
      rw [T.known_parse] at cp
      clear co2 hB3 b2a
      go_wp2_with fail
      go_at_call 9
      refine cp.mono ?_
      unfold T.pv
      rintro e w4 ⟨rfl, hB4⟩
      have hB24 := hB23.trans (hB4.mono hz23)
      have b4 := b2.trans (hB24.mono z2)
      have z4 := b4.size
      have b5 := b4.alloc z4 (.cells #[.int .u8 0, .int .u8 6, .int .u8 64, .int .u8 1, .int .u8 0, .int .u8 0, .int .u8 0, .int .u8 3] 5)
      have hB25 := hB24.alloc hB24.size (.cells #[.int .u8 0, .int .u8 6, .int .u8 64, .int .u8 1, .int .u8 0, .int .u8 0, .int .u8 0, .int .u8 3] 5)
      have ch := hbytes_any [0, 6, 64, 1, 0, 0, 0, 3] [0, 6, 64, 1, 0, 0, 0, 3] a1 (some ⟨w4.heap.size, 0, none⟩) 8 c1 8 8 (w4.alloc (.cells #[.int .u8 0, .int .u8 6, .int .u8 64, .int .u8 1, .int .u8 0, .int .u8 0, .int .u8 0, .int .u8 3] 5)) (HS1.out.below hB25 (Nat.le_refl _)) (SlL.litm w4 [0, 6, 64, 1, 0, 0, 0, 3] _ 5 (0, 0) rfl) rfl rfl
      rw [show (([0, 6, 64, 1, 0, 0, 0, 3] : List UInt8) == [0, 6, 64, 1, 0, 0, 0, 3]) = true from rfl] at ch
      clear cp hB4
      go_wp2_with fail
      go_at_call 15
      refine ch.mono ?_
      rintro e w5 ⟨rfl, rfl⟩
      clear ch
      generalize hw5 : (w4.alloc (.cells #[.int .u8 0, .int .u8 6, .int .u8 64, .int .u8 1, .int .u8 0, .int .u8 0, .int .u8 0, .int .u8 3] 5)) = w5 at *
      have z5 := b5.size
      have b6 := b5.alloc z5 (.cells #[.int .u16 1, .int .u16 15, .int .u16 46, .int .u16 47] 22)
      have hB26 := hB25.alloc hB25.size (.cells #[.int .u16 1, .int .u16 15, .int .u16 46, .int .u16 47] 22)
      have ct := htypes_any [1, 15, 46, 47] [1, 15, 46, 47] a2 (some ⟨w5.heap.size, 0, none⟩) 4 c2 4 4 (w5.alloc (.cells #[.int .u16 1, .int .u16 15, .int .u16 46, .int .u16 47] 22)) (HS2.out.below hB26 (Nat.le_refl _)) (SlH.litm w5 [1, 15, 46, 47] _ 22 (0, 0) rfl) rfl rfl (by omega)
      rw [decide_eq_true rfl] at ct
      clear hw5
      go_wp2_with fail
      go_at_call 17
      refine ct.mono ?_
      rintro e w6 ⟨rfl, hB6⟩
      have b7 := b6.trans (hB6.mono b6.size)
      have cx := text_any 1 w6 (G.same b7)
      rw [show (1 : UInt16).toNat = 1 from rfl, T.known_text] at cx
      clear ct hB6
      go_wp2_with fail
      go_at_call 8
      refine cx.mono ?_
      rintro e w7 ⟨rfl, hB7⟩
      go_wp2
      go_ret
      exact ⟨rfl, b7.trans (hB7.mono b7.size)⟩
  · cases h
end Go.Proofs.YtikjhacgihohiaaDoor
