/- A canonical form is its own (a text of stage 5, at this seat). -/
import Derived.Test.YtdldaphkiphpnaaGreatDck
/- stage5/Canons -/
/- signetlaw5.DataCanons: the walk. -/
namespace Go.Proofs.YtdldaphkiphpnaaGreat
open Go.RowKit
namespace D
set_option maxRecDepth 5000 in
theorem low_good {n : List (List UInt8)} (h : Good n) : Good (N.lowN n) := by
  refine ⟨?_, ?_, by rw [size_low]; exact h.2.2⟩
  · intro e
    simp only [N.lowN, List.mem_map] at e
    obtain ⟨l, hl, e⟩ := e
    have : l = [] := by
      have := congrArg List.length e
      rw [N.lowL_len] at this
      exact List.eq_nil_of_length_eq_zero this
    exact h.1 (this ▸ hl)
  · intro l e
    simp only [N.lowN, List.mem_map] at e
    obtain ⟨l', hl, rfl⟩ := e
    rw [N.lowL_len]; exact h.2.1 l' hl
set_option maxRecDepth 5000 in
theorem low_low (n : List (List UInt8)) : N.lowN (N.lowN n) = N.lowN n := by
  unfold N.lowN
  rw [List.map_map]
  apply List.map_congr_left
  intro l _
  exact N.lowL_low l
set_option maxRecDepth 5000 in
theorem small_idem {l x r : List UInt8} (h : small l = some (x, r)) (q : List UInt8) : small (x ++ q) = some (x, q) ∧ x.length + r.length = l.length := by
  unfold small at h
  rw [Option.map_eq_some_iff] at h
  obtain ⟨⟨n, r'⟩, h1, h2⟩ := h
  cases h2
  obtain ⟨e, hg⟩ := nm_back h1
  constructor
  · show (nm (N.wire (N.lowN n) ++ q)).map _ = _
    rw [nm_fwd _ _ (low_good hg)]
    simp only [Option.map_some, low_low]
  · show (N.wire (N.lowN n)).length + r'.length = l.length
    rw [e, List.length_append, N.wire_len, N.wire_len, size_low]
set_option maxRecDepth 5000 in
theorem by_len {k : Nat} {l x r : List UInt8} (h : by_ k l = some (x, r)) : x.length = k ∧ x.length + r.length = l.length := by
  obtain ⟨e, h1⟩ := by_back h
  exact ⟨h1, by rw [e, List.length_append]⟩
set_option maxRecDepth 5000 in
theorem soaB_len (s : Soa) : (soaB s.low).length = (soaB s).length := by
  unfold soaB Soa.low
  simp only [List.length_append, N.wire_len, size_low]
set_option maxRecDepth 5000 in
theorem sigB_len (s : Sig) : (sigB s.low).length = (sigB s).length := by
  unfold sigB Sig.low
  simp only [List.length_append, N.wire_len, size_low]
/- a canonical form is its own, of the same length -/
set_option maxRecDepth 5000 in
theorem can_idem {t : Nat} {l x : List UInt8} (h : can t l = some (x, [])) : can t x = some (x, []) ∧ x.length = l.length := by
  by_cases h1 : t = 1
  · subst h1
    have h' : by_ 4 l = some (x, []) := h
    obtain ⟨e, e2⟩ := by_len h'
    refine ⟨?_, by simpa using e2⟩
    show by_ 4 x = some (x, [])
    have := by_fwd x [] 4 e
    rwa [List.append_nil] at this
  by_cases h28 : t = 28
  · subst h28
    have h' : by_ 16 l = some (x, []) := h
    obtain ⟨e, e2⟩ := by_len h'
    refine ⟨?_, by simpa using e2⟩
    show by_ 16 x = some (x, [])
    have := by_fwd x [] 16 e
    rwa [List.append_nil] at this
  by_cases h2 : t = 2 ∨ t = 5
  · have e : ∀ q, can t q = small q := fun q => by simp [can, h1, h28, h2]
    rw [e] at h ⊢
    obtain ⟨a, b⟩ := small_idem h []
    rw [List.append_nil] at a
    exact ⟨a, by simpa using b⟩
  have h2' : t ≠ 2 := fun e => h2 (Or.inl e)
  have h5' : t ≠ 5 := fun e => h2 (Or.inr e)
  by_cases h15 : t = 15
  · subst h15
    have h' : ((by_ 2 l).bind fun p => (small p.2).map fun q => (p.1 ++ q.1, q.2)) = some (x, []) := h
    rw [Option.bind_eq_some_iff] at h'
    obtain ⟨⟨p, r⟩, a1, a2⟩ := h'
    rw [Option.map_eq_some_iff] at a2
    obtain ⟨⟨y, r2⟩, a3, a4⟩ := a2
    simp only [Prod.mk.injEq] at a4
    obtain ⟨rfl, rfl⟩ := a4
    obtain ⟨e1, e2⟩ := by_len a1
    obtain ⟨f1, f2⟩ := small_idem a3 []
    rw [List.append_nil] at f1
    refine ⟨?_, by simp only [List.length_append] at f2 ⊢; simp only [List.length_nil] at f2; omega⟩
    show ((by_ 2 (p ++ y)).bind fun p => (small p.2).map fun q => (p.1 ++ q.1, q.2)) = _
    rw [by_fwd p y 2 e1]
    simp only [Option.bind_some]
    rw [f1]; rfl
  by_cases h6 : t = 6
  · subst h6
    have h' : ((soa l).map fun p => (soaB p.1.low, p.2)) = some (x, []) := h
    rw [Option.map_eq_some_iff] at h'
    obtain ⟨⟨s, r⟩, a1, a2⟩ := h'
    simp only [Prod.mk.injEq] at a2
    obtain ⟨rfl, rfl⟩ := a2
    obtain ⟨e, hk⟩ := soa_back a1
    have hk' : s.low.Ok := ⟨low_good hk.1, low_good hk.2.1, hk.2.2⟩
    have hf := soa_fwd s.low [] hk'
    rw [List.append_nil] at hf e
    refine ⟨?_, by rw [e, soaB_len]⟩
    show ((soa (soaB s.low)).map fun p => (soaB p.1.low, p.2)) = _
    rw [hf]
    simp only [Option.map_some, Soa.low, low_low]
  by_cases h16 : t = 16
  · subst h16
    have h' : txt l = some (x, []) := h
    unfold txt at h'
    split at h'
    · cases h'
      refine ⟨h, rfl⟩
    · cases h'
  by_cases h43 : t = 43
  · subst h43
    have h' : ((by_ 5 l).map fun p => (p.1 ++ p.2, ([] : List UInt8))) = some (x, []) := h
    rw [Option.map_eq_some_iff] at h'
    obtain ⟨⟨p, r⟩, a1, a2⟩ := h'
    simp only [Prod.mk.injEq] at a2
    obtain ⟨rfl, _⟩ := a2
    obtain ⟨e1, _⟩ := by_back a1
    rw [← e1]
    exact ⟨by rw [h, ← e1], rfl⟩
  by_cases h46 : t = 46
  · subst h46
    have h' : ((sig l).map fun p => (sigB p.1.low, p.2)) = some (x, []) := h
    rw [Option.map_eq_some_iff] at h'
    obtain ⟨⟨s, r⟩, a1, a2⟩ := h'
    simp only [Prod.mk.injEq] at a2
    obtain ⟨rfl, rfl⟩ := a2
    obtain ⟨e, _, k1, k2, k3, k4, k5, k6, k7, k8⟩ := sig_back a1
    have hf := sig_fwd s.low ⟨k1, k2, k3, k4, k5, k6, k7, low_good k8⟩
    rw [List.append_nil] at e
    refine ⟨?_, by rw [e, sigB_len]⟩
    show ((sig (sigB s.low)).map fun p => (sigB p.1.low, p.2)) = _
    rw [hf]
    simp only [Option.map_some, Sig.low, low_low]
  by_cases h48 : t = 48
  · subst h48
    have h' : ((key l).map fun p => (keyB p.1, p.2)) = some (x, []) := h
    rw [Option.map_eq_some_iff] at h'
    obtain ⟨⟨s, r⟩, a1, a2⟩ := h'
    simp only [Prod.mk.injEq] at a2
    obtain ⟨rfl, rfl⟩ := a2
    obtain ⟨e, _, _⟩ := key_back a1
    rw [List.append_nil] at e
    rw [← e]
    exact ⟨by rw [h, ← e], rfl⟩
  by_cases h50 : t = 50
  · subst h50
    have h' : ((chain l).map fun p => (chainB p.1, p.2)) = some (x, []) := h
    rw [Option.map_eq_some_iff] at h'
    obtain ⟨⟨s, r⟩, a1, a2⟩ := h'
    simp only [Prod.mk.injEq] at a2
    obtain ⟨rfl, rfl⟩ := a2
    obtain ⟨e, _, _⟩ := chain_back a1
    rw [List.append_nil] at e
    rw [← e]
    exact ⟨by rw [h, ← e], rfl⟩
  by_cases h51 : t = 51
  · subst h51
    have h' : ((by_ 4 l).bind fun p => (cnt p.2).map fun q => (p.1 ++ pc q.1, q.2)) = some (x, []) := h
    rw [Option.bind_eq_some_iff] at h'
    obtain ⟨⟨p, r⟩, a1, a2⟩ := h'
    rw [Option.map_eq_some_iff] at a2
    obtain ⟨⟨y, r2⟩, a3, a4⟩ := a2
    simp only [Prod.mk.injEq] at a4
    obtain ⟨rfl, rfl⟩ := a4
    obtain ⟨e1, _⟩ := by_back a1
    obtain ⟨e2, _⟩ := cnt_back a3
    simp only [] at e2
    rw [List.append_nil] at e2
    have : p ++ pc y = l := by rw [e1, e2]
    rw [this]
    exact ⟨by rw [h, this], rfl⟩
  have e : ∀ q, can t q = some (q, []) := fun q => by simp [can, h1, h28, h2', h5', h15, h6, h16, h43, h46, h48, h50, h51]
  rw [e] at h
  cases h
  exact ⟨e _, rfl⟩
end D
end Go.Proofs.YtdldaphkiphpnaaGreat

