/- signetref3.Target, Canon. -/
import Derived.Test.YtagopkmehlpjpaaRefY
import Derived.Test.YtagopkmehlpjpaaRefV
namespace Go.Proofs.Ytagopkmehlpjpaa
open Go.RowKit
namespace D
set_option maxRecDepth 5000 in
theorem nm_inv {b r : List UInt8} {n : List (List UInt8)} (h : nm b = some (n, r)) : N.opn b = some n ∧ N.size n ≤ 255 := by
  unfold nm at h
  rw [Option.bind_eq_some_iff] at h
  obtain ⟨m, h1, h⟩ := h
  split at h
  · rename_i hz; cases h; exact ⟨h1, hz⟩
  · cases h
set_option maxRecDepth 5000 in
theorem small_inv {b x r : List UInt8} (h : small b = some (x, r)) : ∃ n, nm b = some (n, r) ∧ x = N.wire (N.lowN n) := by
  unfold small at h
  rw [Option.map_eq_some_iff] at h
  obtain ⟨⟨n, q⟩, h1, h2⟩ := h
  cases h2
  exact ⟨n, h1, rfl⟩
set_option maxRecDepth 5000 in
theorem code_rest {α β : Type} (l : List UInt8) (o : Option (α × List UInt8)) (o' : Option (β × List UInt8)) (h : o.map (·.2) = o'.map (·.2)) : codeOf (full l o) = codeOf (full l o') := by
  unfold full
  split
  · rfl
  · cases o with
    | none =>
      cases o' with
      | none => rfl
      | some p => cases h
    | some p =>
      cases o' with
      | none => cases h
      | some q =>
        obtain ⟨p1, p2⟩ := p
        obtain ⟨q1, q2⟩ := q
        have : p2 = q2 := Option.some.inj h
        subst this
        by_cases hp : p2 = [] <;> simp [hp, codeOf]
set_option maxRecDepth 5000 in
theorem tgt_code (t : Nat) (b : List UInt8) (h : t = 2 ∨ t = 5 ∨ t = 15) : codeOf (full b (can t b)) = codeOf (full b (tgt t b)) := by
  refine code_rest _ _ _ ?_
  rcases h with rfl | rfl | rfl
  · show (small b).map (·.2) = (nm b).map (·.2); unfold small; cases nm b <;> rfl
  · show (small b).map (·.2) = (nm b).map (·.2); unfold small; cases nm b <;> rfl
  · show ((by_ 2 b).bind fun p => (small p.2).map fun q => (p.1 ++ q.1, q.2)).map (·.2) = ((by_ 2 b).bind fun p => nm p.2).map (·.2)
    cases by_ 2 b with
    | none => rfl
    | some p => simp only [Option.bind_some]; unfold small; cases nm p.2 <;> rfl
set_option maxRecDepth 5000 in
theorem by_inv {k : Nat} {b x r : List UInt8} (h : by_ k b = some (x, r)) : k ≤ b.length ∧ x = b.take k ∧ r = b.drop k := by
  unfold by_ at h
  split at h
  · cases h
  · cases h; exact ⟨by omega, rfl, rfl⟩
/- of the other types the canonical form is the data themselves -/
set_option maxRecDepth 5000 in
theorem can_plain {t : Nat} {b x : List UInt8} (h2 : t ≠ 2) (h5 : t ≠ 5) (h15 : t ≠ 15) (h6 : t ≠ 6) (h46 : t ≠ 46) (h : can t b = some (x, [])) : x = b := by
  by_cases h1 : t = 1
  · subst h1; have := (by_back (show by_ 4 b = some (x, []) from h)).1; rw [List.append_nil] at this; exact this.symm
  by_cases h28 : t = 28
  · subst h28; have := (by_back (show by_ 16 b = some (x, []) from h)).1; rw [List.append_nil] at this; exact this.symm
  by_cases h16 : t = 16
  · subst h16
    have h : txt b = some (x, []) := h
    unfold txt at h
    split at h
    · cases h; rfl
    · cases h
  by_cases h43 : t = 43
  · subst h43
    have h : ((by_ 5 b).map fun p => (p.1 ++ p.2, [])) = some (x, []) := h
    rw [Option.map_eq_some_iff] at h
    obtain ⟨⟨p, q⟩, g1, g2⟩ := h
    cases g2
    exact (by_back g1).1.symm
  by_cases h48 : t = 48
  · subst h48
    have h : ((key b).map fun p => (keyB p.1, p.2)) = some (x, []) := h
    rw [Option.map_eq_some_iff] at h
    obtain ⟨⟨p, q⟩, g1, g2⟩ := h
    cases g2
    have := (key_back g1).1
    rw [List.append_nil] at this; exact this.symm
  by_cases h50 : t = 50
  · subst h50
    have h : ((chain b).map fun p => (chainB p.1, p.2)) = some (x, []) := h
    rw [Option.map_eq_some_iff] at h
    obtain ⟨⟨p, q⟩, g1, g2⟩ := h
    cases g2
    have := (chain_back g1).1
    rw [List.append_nil] at this; exact this.symm
  by_cases h51 : t = 51
  · subst h51
    have h : ((by_ 4 b).bind fun p => (cnt p.2).map fun q => (p.1 ++ pc q.1, q.2)) = some (x, []) := h
    rw [Option.bind_eq_some_iff] at h
    obtain ⟨⟨p, q⟩, g1, g2⟩ := h
    rw [Option.map_eq_some_iff] at g2
    obtain ⟨⟨p2, q2⟩, g3, g4⟩ := g2
    cases g4
    have e1 := (by_back g1).1
    have e2 := (cnt_back g3).1
    simp only at e2
    rw [List.append_nil] at e2
    rw [e1, e2]
  have e : can t b = some (b, []) := by simp [can, h1, h28, h2, h5, h15, h6, h16, h43, h46, h48, h50, h51]
  rw [e] at h
  cases h; rfl
end D
set_option maxRecDepth 5000 in
theorem rOpen_nm (b : List UInt8) (ao : Option Addr) (len cap : Nat) (w : World) (hl : Hid (b.length = len)) (hs : SlL w ao b) (hm : len ≤ 1000000000) (hcap : len ≤ cap) {n : List (List UInt8)} {r : List UInt8} (h : D.nm b = some (n, r)) :
    Calls Try.prog 42 #[.slice ao len cap] w fun e w' => ∃ a c, e = .returned (.tuple #[.slice a n.length c, .int .i64 (N.size n : Int), .int .i64 0]) ∧ OwnS w' w.heap.size (.slice a n.length c) n ∧ Below w.heap.size w w' := by
  obtain ⟨h1, h2⟩ := D.nm_inv h
  refine (rOpen_any b ao len cap w hl hs hm hcap).mono ?_
  rintro e w1 ⟨⟨m, v, hn, hz, rfl, hO⟩ | ⟨hn, rfl⟩ | ⟨m, hn, hz, rfl⟩, hb⟩
  · rw [h1] at hn; cases hn
    obtain ⟨a, c, rfl, _⟩ := hO.open
    exact ⟨a, c, rfl, hO, hb⟩
  · rw [h1] at hn; cases hn
  · rw [h1] at hn; cases hn; omega
set_option maxHeartbeats 400000 in
set_option maxRecDepth 5000 in
theorem tgt_2 (b : List UInt8) (ao : Option Addr) (len cap : Nat) (w : World) (hl : Hid (b.length = len)) (hs : SlL w ao b) (hc : len ≤ cap) (hnil : ao = none → cap = 0) (h8 : len ≤ 8192) :
    Calls Try.prog 13 #[.int .u16 2, .slice ao len cap] w fun e w' => Ans (D.full b (D.tgt 2 b)) NameV (.slice none 0 0) w e w' := by
  have HG := hide (D.tgt_code 2 b (by decide))
  have HS := hide hs
  have NI := hide hnil
  cases hx : D.full b (D.tgt 2 b) with
  | none =>
    rw [hx] at HG
    clear hs hnil
    go_enter Try.func13, Try.ntmps13
    go_wp2_with fail
    refine (chk_2 b ao len cap _ hl (by exact HS.out) hc NI.out h8).mono ?_
    rintro e w1 ⟨rfl, hb1⟩
    rw [HG.out]
    unfold codeOf
    go_wp2
    go_ret2
    exact ⟨Or.inr ⟨rfl, rfl⟩, hb1⟩
  | some n =>
    rw [hx] at HG
    have hn : D.nm b = some (n, []) := (D.full_iff.1 hx).2
    have hg := (D.nm_back hn).2
    have hne : 0 < b.length := by
      have := (D.nm_back hn).1
      rw [this]; simp [N.wire]
    obtain ⟨blk, o, rfl, hblt, hcell⟩ := hs hne
    obtain ⟨ad2, r2, s2⟩ := cut_tl 0 hs hl.out (by omega) hc
    replace r2 : ∀ W, (Instr.slice 23 (.slice (some ⟨blk, o, none⟩) len cap) (some (.int .i64 0)) none none).run Try.prog W = .ok (.slice (some ad2) len cap) W := r2
    have S2 : Hid (SlL w (some ad2) b) := s2
    have HN := hide hn
    clear hs hcell s2 hnil hn
    go_enter Try.func13, Try.ntmps13
    go_wp2_with fail
    refine (chk_2 b _ len cap _ hl (by exact HS.out) hc NI.out h8).mono ?_
    rintro e w1 ⟨rfl, hb1⟩
    rw [HG.out]
    have B1 := hide hb1
    clear hb1
    unfold codeOf
    go_wp2_with fail
    refine (rOpen_nm b (some ad2) len cap _ hl (by exact S2.out.below B1.out (Nat.le_refl _)) (by omega) hc HN.out).mono ?_
    rintro e w2 ⟨a3, c3, rfl, hO, hb2⟩
    go_wp2
    go_ret2
    exact ⟨Or.inl ⟨n, _, rfl, rfl, hO.lower B1.out.size⟩, B1.out.trans (hb2.mono B1.out.size)⟩
set_option maxHeartbeats 400000 in
set_option maxRecDepth 5000 in
theorem tgt_5 (b : List UInt8) (ao : Option Addr) (len cap : Nat) (w : World) (hl : Hid (b.length = len)) (hs : SlL w ao b) (hc : len ≤ cap) (hnil : ao = none → cap = 0) (h8 : len ≤ 8192) :
    Calls Try.prog 13 #[.int .u16 5, .slice ao len cap] w fun e w' => Ans (D.full b (D.tgt 5 b)) NameV (.slice none 0 0) w e w' := by
  have HG := hide (D.tgt_code 5 b (by decide))
  have HS := hide hs
  have NI := hide hnil
  cases hx : D.full b (D.tgt 5 b) with
  | none =>
    rw [hx] at HG
    clear hs hnil
    go_enter Try.func13, Try.ntmps13
    go_wp2_with fail
    refine (chk_5 b ao len cap _ hl (by exact HS.out) hc NI.out h8).mono ?_
    rintro e w1 ⟨rfl, hb1⟩
    rw [HG.out]
    unfold codeOf
    go_wp2
    go_ret2
    exact ⟨Or.inr ⟨rfl, rfl⟩, hb1⟩
  | some n =>
    rw [hx] at HG
    have hn : D.nm b = some (n, []) := (D.full_iff.1 hx).2
    have hg := (D.nm_back hn).2
    have hne : 0 < b.length := by
      have := (D.nm_back hn).1
      rw [this]; simp [N.wire]
    obtain ⟨blk, o, rfl, hblt, hcell⟩ := hs hne
    obtain ⟨ad2, r2, s2⟩ := cut_tl 0 hs hl.out (by omega) hc
    replace r2 : ∀ W, (Instr.slice 23 (.slice (some ⟨blk, o, none⟩) len cap) (some (.int .i64 0)) none none).run Try.prog W = .ok (.slice (some ad2) len cap) W := r2
    have S2 : Hid (SlL w (some ad2) b) := s2
    have HN := hide hn
    clear hs hcell s2 hnil hn
    go_enter Try.func13, Try.ntmps13
    go_wp2_with fail
    refine (chk_5 b _ len cap _ hl (by exact HS.out) hc NI.out h8).mono ?_
    rintro e w1 ⟨rfl, hb1⟩
    rw [HG.out]
    have B1 := hide hb1
    clear hb1
    unfold codeOf
    go_wp2_with fail
    refine (rOpen_nm b (some ad2) len cap _ hl (by exact S2.out.below B1.out (Nat.le_refl _)) (by omega) hc HN.out).mono ?_
    rintro e w2 ⟨a3, c3, rfl, hO, hb2⟩
    go_wp2
    go_ret2
    exact ⟨Or.inl ⟨n, _, rfl, rfl, hO.lower B1.out.size⟩, B1.out.trans (hb2.mono B1.out.size)⟩
set_option maxHeartbeats 400000 in
set_option maxRecDepth 5000 in
theorem tgt_15 (b : List UInt8) (ao : Option Addr) (len cap : Nat) (w : World) (hl : Hid (b.length = len)) (hs : SlL w ao b) (hc : len ≤ cap) (hnil : ao = none → cap = 0) (h8 : len ≤ 8192) :
    Calls Try.prog 13 #[.int .u16 15, .slice ao len cap] w fun e w' => Ans (D.full b (D.tgt 15 b)) NameV (.slice none 0 0) w e w' := by
  have HG := hide (D.tgt_code 15 b (by decide))
  have HS := hide hs
  have NI := hide hnil
  cases hx : D.full b (D.tgt 15 b) with
  | none =>
    rw [hx] at HG
    clear hs hnil
    go_enter Try.func13, Try.ntmps13
    go_wp2_with fail
    refine (chk_15 b ao len cap _ hl (by exact HS.out) hc NI.out h8).mono ?_
    rintro e w1 ⟨rfl, hb1⟩
    rw [HG.out]
    unfold codeOf
    go_wp2
    go_ret2
    exact ⟨Or.inr ⟨rfl, rfl⟩, hb1⟩
  | some n =>
    rw [hx] at HG
    have hq : ((D.by_ 2 b).bind fun p => D.nm p.2) = some (n, []) := (D.full_iff.1 hx).2
    rw [Option.bind_eq_some_iff] at hq
    obtain ⟨⟨p, q⟩, hp, hn⟩ := hq
    obtain ⟨k2, rfl, rfl⟩ := D.by_inv hp
    simp only at hn
    have hg := (D.nm_back hn).2
    have hlen := hl.out
    have hne : 0 < b.length := by
      have := congrArg List.length (D.nm_back hn).1
      rw [List.length_drop] at this
      simp [N.wire] at this; omega
    obtain ⟨blk, o, rfl, hblt, hcell⟩ := hs hne
    obtain ⟨ad2, r2, s2⟩ := cut_tl 2 hs hl.out (by omega) hc
    replace r2 : ∀ W, (Instr.slice 23 (.slice (some ⟨blk, o, none⟩) len cap) (some (.int .i64 2)) none none).run Try.prog W = .ok (.slice (some ad2) (len - 2) (cap - 2)) W := r2
    have S2 := hide s2
    have HN := hide hn
    have hd : Hid ((b.drop 2).length = len - 2) := by show _ = _; rw [List.length_drop]; omega
    clear hs hcell s2 hnil hn hp
    go_enter Try.func13, Try.ntmps13
    go_wp2_with fail
    refine (chk_15 b _ len cap _ hl (by exact HS.out) hc NI.out h8).mono ?_
    rintro e w1 ⟨rfl, hb1⟩
    rw [HG.out]
    have B1 := hide hb1
    clear hb1
    unfold codeOf
    go_wp2_with fail
    refine (rOpen_nm (b.drop 2) (some ad2) (len - 2) (cap - 2) _ hd (by exact S2.out.below B1.out (Nat.le_refl _)) (by omega) (by omega) HN.out).mono ?_
    rintro e w2 ⟨a3, c3, rfl, hO, hb2⟩
    go_wp2
    go_ret2
    exact ⟨Or.inl ⟨n, _, rfl, rfl, hO.lower B1.out.size⟩, B1.out.trans (hb2.mono B1.out.size)⟩
set_option maxRecDepth 5000 in
theorem sTarget_any (t : Nat) (b : List UInt8) (ao : Option Addr) (len cap : Nat) (w : World) (hl : Hid (b.length = len)) (hs : SlL w ao b) (hc : len ≤ cap) (hnil : ao = none → cap = 0) (h8 : len ≤ 8192) :
    Calls Try.prog 13 #[.int .u16 (t : Int), .slice ao len cap] w fun e w' => Ans (D.full b (D.tgt t b)) NameV (.slice none 0 0) w e w' := by
  by_cases h2 : t = 2
  · subst h2; exact tgt_2 b ao len cap w hl hs hc hnil h8
  by_cases h5 : t = 5
  · subst h5; exact tgt_5 b ao len cap w hl hs hc hnil h8
  by_cases h15 : t = 15
  · subst h15; exact tgt_15 b ao len cap w hl hs hc hnil h8
  have e : D.full b (D.tgt t b) = none := D.full_none (by unfold D.tgt; rw [if_neg (by omega), if_neg h15])
  rw [e]
  have b2 : ((t : Int) == 2) = false := beq_eq_false_iff_ne.2 (by omega)
  have b5 : ((t : Int) == 5) = false := beq_eq_false_iff_ne.2 (by omega)
  have b15 : ((t : Int) == 15) = false := beq_eq_false_iff_ne.2 (by omega)
  clear hs e
  go_enter Try.func13, Try.ntmps13
  go_wp2
  go_ret2
  exact ⟨Or.inr ⟨rfl, rfl⟩, Below.refl _ _⟩
set_option maxHeartbeats 800000 in
set_option maxRecDepth 5000 in
theorem rcan_2 (b : List UInt8) (ao : Option Addr) (len cap : Nat) (w : World) (hl : Hid (b.length = len)) (hs : SlL w ao b) (hc : len ≤ cap) (hnil : ao = none → cap = 0) (h8 : len ≤ 8192) :
    Calls Try.prog 11 #[.int .u16 2, .slice ao len cap] w fun e w' => Ans (D.full b (D.can 2 b)) BytesV (.slice none 0 0) w e w' := by
  have HS := hide hs
  have NI := hide hnil
  cases hx : D.full b (D.can 2 b) with
  | none =>
    have HC : Hid (codeOf (D.full b (D.can 2 b)) = 50) := by show _ = _; rw [hx]; rfl
    clear hs hnil
    go_enter Try.func11, Try.ntmps11
    go_wp2_with fail
    refine (chk_2 b ao len cap _ hl (by exact HS.out) hc NI.out h8).mono ?_
    rintro e w1 ⟨rfl, hb1⟩
    rw [HC.out]
    go_wp2
    go_ret2
    exact ⟨Or.inr ⟨rfl, rfl⟩, hb1⟩
  | some x =>
    have HC : Hid (codeOf (D.full b (D.can 2 b)) = 0) := by show _ = _; rw [hx]; rfl
    have hx2 := (D.full_iff.1 hx).2
    obtain ⟨n, hn, rfl⟩ := D.small_inv (show D.small b = some (x, []) from hx2)
    have hg := (D.nm_back hn).2
    have hz : N.size (N.lowN n) ≤ 1000 := by rw [D.size_low]; have := hg.2.2; omega
    have m1 := hide (good_small hg)
    have m2 := hide (small_of hz)
    have HN := hide hn
    clear hs hnil hn hg hx2 hx
    go_enter Try.func11, Try.ntmps11
    go_wp2_with fail
    refine (chk_2 b _ len cap _ hl (by exact HS.out) hc NI.out h8).mono ?_
    rintro e w1 ⟨rfl, hb1⟩
    rw [HC.out]
    have B1 := hide hb1
    clear hb1
    go_wp2_with fail
    refine (rOpen_nm b _ len cap _ hl (by exact HS.out.below B1.out (Nat.le_refl _)) (by omega) hc HN.out).mono ?_
    rintro e w2 ⟨a3, c3, rfl, hO, hb2⟩
    have B2 := hide (B1.out.trans (hb2.mono B1.out.size))
    have S2 := hide hO.sl
    clear hO hb2 B1
    go_wp2_with fail
    refine (rLower_any n a3 n.length c3 _ rfl (by exact S2.out) m1).mono ?_
    rintro e w3 ⟨v3, rfl, hO3, hb3⟩
    obtain ⟨a4, c4, rfl, hs4, _⟩ := hO3.open
    have B3 := hide (B2.out.trans (hb3.mono B2.out.size))
    have S4 := hide hs4
    clear hO3 hb3 hs4 B2
    go_wp2_with fail
    refine (rWire_any (N.lowN n) a4 (N.lowN n).length c4 _ rfl (by exact S4.out) m2).mono ?_
    rintro e w4 ⟨v4, rfl, hO4, hb4⟩
    go_wp2
    go_ret2
    exact ⟨Or.inl ⟨_, _, rfl, rfl, hO4.lower B3.out.size⟩, B3.out.trans (hb4.mono B3.out.size)⟩
set_option maxHeartbeats 800000 in
set_option maxRecDepth 5000 in
theorem rcan_5 (b : List UInt8) (ao : Option Addr) (len cap : Nat) (w : World) (hl : Hid (b.length = len)) (hs : SlL w ao b) (hc : len ≤ cap) (hnil : ao = none → cap = 0) (h8 : len ≤ 8192) :
    Calls Try.prog 11 #[.int .u16 5, .slice ao len cap] w fun e w' => Ans (D.full b (D.can 5 b)) BytesV (.slice none 0 0) w e w' := by
  have HS := hide hs
  have NI := hide hnil
  cases hx : D.full b (D.can 5 b) with
  | none =>
    have HC : Hid (codeOf (D.full b (D.can 5 b)) = 50) := by show _ = _; rw [hx]; rfl
    clear hs hnil
    go_enter Try.func11, Try.ntmps11
    go_wp2_with fail
    refine (chk_5 b ao len cap _ hl (by exact HS.out) hc NI.out h8).mono ?_
    rintro e w1 ⟨rfl, hb1⟩
    rw [HC.out]
    go_wp2
    go_ret2
    exact ⟨Or.inr ⟨rfl, rfl⟩, hb1⟩
  | some x =>
    have HC : Hid (codeOf (D.full b (D.can 5 b)) = 0) := by show _ = _; rw [hx]; rfl
    have hx2 := (D.full_iff.1 hx).2
    obtain ⟨n, hn, rfl⟩ := D.small_inv (show D.small b = some (x, []) from hx2)
    have hg := (D.nm_back hn).2
    have hz : N.size (N.lowN n) ≤ 1000 := by rw [D.size_low]; have := hg.2.2; omega
    have m1 := hide (good_small hg)
    have m2 := hide (small_of hz)
    have HN := hide hn
    clear hs hnil hn hg hx2 hx
    go_enter Try.func11, Try.ntmps11
    go_wp2_with fail
    refine (chk_5 b _ len cap _ hl (by exact HS.out) hc NI.out h8).mono ?_
    rintro e w1 ⟨rfl, hb1⟩
    rw [HC.out]
    have B1 := hide hb1
    clear hb1
    go_wp2_with fail
    refine (rOpen_nm b _ len cap _ hl (by exact HS.out.below B1.out (Nat.le_refl _)) (by omega) hc HN.out).mono ?_
    rintro e w2 ⟨a3, c3, rfl, hO, hb2⟩
    have B2 := hide (B1.out.trans (hb2.mono B1.out.size))
    have S2 := hide hO.sl
    clear hO hb2 B1
    go_wp2_with fail
    refine (rLower_any n a3 n.length c3 _ rfl (by exact S2.out) m1).mono ?_
    rintro e w3 ⟨v3, rfl, hO3, hb3⟩
    obtain ⟨a4, c4, rfl, hs4, _⟩ := hO3.open
    have B3 := hide (B2.out.trans (hb3.mono B2.out.size))
    have S4 := hide hs4
    clear hO3 hb3 hs4 B2
    go_wp2_with fail
    refine (rWire_any (N.lowN n) a4 (N.lowN n).length c4 _ rfl (by exact S4.out) m2).mono ?_
    rintro e w4 ⟨v4, rfl, hO4, hb4⟩
    go_wp2
    go_ret2
    exact ⟨Or.inl ⟨_, _, rfl, rfl, hO4.lower B3.out.size⟩, B3.out.trans (hb4.mono B3.out.size)⟩
set_option maxHeartbeats 800000 in
set_option maxRecDepth 5000 in
theorem rcan_15 (b : List UInt8) (ao : Option Addr) (len cap : Nat) (w : World) (hl : Hid (b.length = len)) (hs : SlL w ao b) (hc : len ≤ cap) (hnil : ao = none → cap = 0) (h8 : len ≤ 8192) :
    Calls Try.prog 11 #[.int .u16 15, .slice ao len cap] w fun e w' => Ans (D.full b (D.can 15 b)) BytesV (.slice none 0 0) w e w' := by
  have HS := hide hs
  have NI := hide hnil
  cases hx : D.full b (D.can 15 b) with
  | none =>
    have HC : Hid (codeOf (D.full b (D.can 15 b)) = 50) := by show _ = _; rw [hx]; rfl
    clear hs hnil
    go_enter Try.func11, Try.ntmps11
    go_wp2_with fail
    refine (chk_15 b ao len cap _ hl (by exact HS.out) hc NI.out h8).mono ?_
    rintro e w1 ⟨rfl, hb1⟩
    rw [HC.out]
    go_wp2
    go_ret2
    exact ⟨Or.inr ⟨rfl, rfl⟩, hb1⟩
  | some x =>
    have HC : Hid (codeOf (D.full b (D.can 15 b)) = 0) := by show _ = _; rw [hx]; rfl
    have hx2 := (D.full_iff.1 hx).2
    have hq : ((D.by_ 2 b).bind fun p => (D.small p.2).map fun q => (p.1 ++ q.1, q.2)) = some (x, []) := hx2
    rw [Option.bind_eq_some_iff] at hq
    obtain ⟨⟨p, q⟩, hp, hq⟩ := hq
    obtain ⟨k2, rfl, rfl⟩ := D.by_inv hp
    rw [Option.map_eq_some_iff] at hq
    obtain ⟨⟨y, r⟩, hy, he⟩ := hq
    simp only at he hy
    obtain ⟨n, hn, rfl⟩ := D.small_inv hy
    cases he
    have hg := (D.nm_back hn).2
    have hz : N.size (N.lowN n) ≤ 1000 := by rw [D.size_low]; have := hg.2.2; omega
    have HW := hide (N.wire_len (N.lowN n))
    have m1 := hide (good_small hg)
    have m2 := hide (small_of hz)
    have hlen := hl.out
    have hne : 0 < b.length := by omega
    obtain ⟨blk, o, rfl, hblt, hcell⟩ := hs hne
    obtain ⟨ad1, r1, s1⟩ := cut_hd 2 hs hl.out (by omega) hc
    obtain ⟨ad2, r2, s2⟩ := cut_tl 2 hs hl.out (by omega) hc
    replace r1 : ∀ W, (Instr.slice 23 (.slice (some ⟨blk, o, none⟩) len cap) none (some (.int .i64 2)) none).run Try.prog W = .ok (.slice (some ad1) 2 cap) W := r1
    replace r2 : ∀ W, (Instr.slice 23 (.slice (some ⟨blk, o, none⟩) len cap) (some (.int .i64 2)) none none).run Try.prog W = .ok (.slice (some ad2) (len - 2) (cap - 2)) W := r2
    have S1 := hide s1
    have S2 := hide s2
    have HN := hide hn
    have hd : Hid ((b.drop 2).length = len - 2) := by show _ = _; rw [List.length_drop]; omega
    have ht : (b.take 2).length = 2 := by rw [List.length_take]; omega
    clear hs hcell s1 s2 hnil hn hp hg hx2 hx hy
    go_enter Try.func11, Try.ntmps11
    go_wp2_with fail
    refine (chk_15 b _ len cap _ hl (by exact HS.out) hc NI.out h8).mono ?_
    rintro e w1 ⟨rfl, hb1⟩
    rw [HC.out]
    have B1 := hide hb1
    clear hb1
    go_wp2_with fail
    refine (rOpen_nm (b.drop 2) (some ad2) (len - 2) (cap - 2) _ hd (by exact S2.out.below B1.out (Nat.le_refl _)) (by omega) (by omega) HN.out).mono ?_
    rintro e w2 ⟨a3, c3, rfl, hO, hb2⟩
    have B2 := hide (B1.out.trans (hb2.mono B1.out.size))
    have O2 := hide hO
    clear hO hb2 B1
    go_wp2_with (at_builtin; refine wpList_append_B rfl (.const (.slice none 0 0)) (.tmp 43) rfl w2.heap.size _ [] rfl (by exact OwnB.nil _ _) _ _ _ (b.take 2) rfl ht (by exact S1.out.below B2.out (Nat.le_refl _)) (by intro h; cases h) (by simp) (Nat.le_refl _) ?_; intro v6 w6 hO6 hG6; have hb6 := nil_grown0 hG6; rw [List.nil_append] at hO6; have S2 := hide (O2.out.below hb6).sl; have B6 := hide (B2.out.trans (hb6.mono B2.out.size)); have O6 := hide (hO6.lower B2.out.size); clear hG6 hO6 hb6 O2 B2)
    refine (rLower_any n a3 n.length c3 _ rfl (by exact S2.out) m1).mono ?_
    rintro e w3 ⟨v3, rfl, hO3, hb3⟩
    obtain ⟨a4, c4, rfl, hs4, _⟩ := hO3.open
    have B3 := hide (B6.out.trans (hb3.mono B6.out.size))
    have O7 := hide (O6.out.below hb3)
    have S4 := hide hs4
    clear hO3 hb3 hs4 B6 O6 S2
    go_wp2_with fail
    refine (rWire_any (N.lowN n) a4 (N.lowN n).length c4 _ rfl (by exact S4.out) m2).mono ?_
    rintro e w4 ⟨v4, rfl, hO4, hb4⟩
    have B4 := hide (B3.out.trans (hb4.mono B3.out.size))
    have O8 := hide (O7.out.below hb4)
    obtain ⟨a9, c9, rfl, hs9, hn9, _⟩ := hO4.open
    have S9 := hide hs9
    have N9 := hide hn9
    have z4 : w.heap.size ≤ w4.heap.size := B4.out.size
    clear hO4 hb4 hs9 hn9 B3 O7 S4
    go_wp2_with (at_builtin; refine wpList_append_B rfl (.tmp 44) (.tmp 47) rfl w.heap.size _ (b.take 2) rfl (by exact O8.out) _ _ _ (N.wire (N.lowN n)) rfl rfl (by exact S9.out) N9.out (by have := HW.out; omega) z4 ?_; intro v10 w10 hO10 hG10; have hK10 := Kp.grown O8.out hG10 z4; clear hG10)
    go_ret2
    exact ⟨Or.inl ⟨_, _, rfl, rfl, hO10⟩, B4.out.trans hK10.1⟩
set_option maxHeartbeats 800000 in
set_option maxRecDepth 5000 in
theorem rcan_else (t : Nat) (b : List UInt8) (ao : Option Addr) (len cap : Nat) (w : World) (hl : Hid (b.length = len)) (hs : SlL w ao b) (hc : len ≤ cap) (hnil : ao = none → cap = 0) (h8 : len ≤ 8192) (h2 : t ≠ 2) (h5 : t ≠ 5) (h15 : t ≠ 15) (h6 : t ≠ 6) (h46 : t ≠ 46) :
    Calls Try.prog 11 #[.int .u16 (t : Int), .slice ao len cap] w fun e w' => Ans (D.full b (D.can t b)) BytesV (.slice none 0 0) w e w' := by
  have HS := hide hs
  have NI := hide hnil
  cases hx : D.full b (D.can t b) with
  | none =>
    have HC : Hid (codeOf (D.full b (D.can t b)) = 50) := by show _ = _; rw [hx]; rfl
    clear hs hnil
    go_enter Try.func11, Try.ntmps11
    go_wp2_with fail
    refine (sCheck_any t b ao len cap _ hl (by exact HS.out) hc NI.out h8).mono ?_
    rintro e w1 ⟨rfl, hb1⟩
    rw [HC.out]
    go_wp2
    go_ret2
    exact ⟨Or.inr ⟨rfl, rfl⟩, hb1⟩
  | some x =>
    have HC : Hid (codeOf (D.full b (D.can t b)) = 0) := by show _ = _; rw [hx]; rfl
    obtain rfl := D.can_plain h2 h5 h15 h6 h46 (D.full_iff.1 hx).2
    have b2 : ((t : Int) == 2) = false := beq_eq_false_iff_ne.2 (by omega)
    have b5 : ((t : Int) == 5) = false := beq_eq_false_iff_ne.2 (by omega)
    have b15 : ((t : Int) == 15) = false := beq_eq_false_iff_ne.2 (by omega)
    have b6 : ((t : Int) == 6) = false := beq_eq_false_iff_ne.2 (by omega)
    have b46 : ((t : Int) == 46) = false := beq_eq_false_iff_ne.2 (by omega)
    clear hs hnil h2 h5 h15 h6 h46 hx
    go_enter Try.func11, Try.ntmps11
    go_wp2_with fail
    refine (sCheck_any t x ao len cap _ hl (by exact HS.out) hc NI.out h8).mono ?_
    rintro e w1 ⟨rfl, hb1⟩
    rw [HC.out]
    have B1 := hide hb1
    clear hb1
    go_wp2_with (at_builtin; refine wpList_append_B rfl (.const (.slice none 0 0)) (.tmp 79) rfl w1.heap.size _ [] rfl (by exact OwnB.nil _ _) _ _ _ x rfl hl.out (by exact HS.out.below B1.out (Nat.le_refl _)) NI.out (by simp; omega) (Nat.le_refl _) ?_; intro v6 w6 hO6 hG6; have hb6 := nil_grown0 hG6; rw [List.nil_append] at hO6; clear hG6)
    go_ret2
    exact ⟨Or.inl ⟨_, _, rfl, rfl, hO6.lower B1.out.size⟩, B1.out.trans (hb6.mono B1.out.size)⟩
end Go.Proofs.Ytagopkmehlpjpaa
