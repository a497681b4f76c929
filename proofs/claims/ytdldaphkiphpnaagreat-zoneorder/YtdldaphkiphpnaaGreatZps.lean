/- Zones, plain: dropping sets; names, types, sets of what stands there; nodes that are cut away. -/
import Derived.Test.YtdldaphkiphpnaaGreatZrc
namespace Go.Proofs.YtdldaphkiphpnaaGreat
namespace Z
set_option maxRecDepth 5000 in
theorem drop_rise {L : List R} (h : L.Pairwise rlt) (p : List (List UInt8)) (t : Nat) (c : List UInt8) : (drop L p t c).Pairwise rlt := h.filter _
set_option maxRecDepth 5000 in
theorem dropSet_rise {L : List R} (h : L.Pairwise rlt) (p : List (List UInt8)) (t : Nat) : (dropSet L p t).Pairwise rlt := h.filter _
set_option maxRecDepth 5000 in
theorem drop_lows {L : List R} (h : Lows L) (p : List (List UInt8)) (t : Nat) (c : List UInt8) : Lows (drop L p t c) := fun x hx => h x (mem_drop.1 hx).1
set_option maxRecDepth 5000 in
theorem dropSet_lows {L : List R} (h : Lows L) (p : List (List UInt8)) (t : Nat) : Lows (dropSet L p t) := fun x hx => h x (mem_dropSet.1 hx).1
/- who is ahead of whom -/
set_option maxRecDepth 5000 in
theorem rlt_path {x y : R} (h : plt x.p y.p) : rlt x y := by
  unfold plt at h; unfold rlt cmpK
  rw [if_neg (by omega)]; exact h
set_option maxRecDepth 5000 in
theorem rlt_type {x y : R} (h : x.p = y.p) (h2 : x.t < y.t) : rlt x y := by
  unfold rlt cmpK
  rw [h, if_pos ((N.cmpR_zero).2 rfl), if_neg (by omega), if_pos h2]; omega
set_option maxRecDepth 5000 in
theorem rlt_can {x y : R} (h : x.p = y.p) (h2 : x.t = y.t) : rlt x y ↔ x.c < y.c := by
  unfold rlt cmpK
  rw [h, h2, if_pos ((N.cmpR_zero).2 rfl), if_pos rfl, lt_cmpB]
set_option maxRecDepth 5000 in
theorem path_of_rlt {x y : R} (hx : Low x.p) (hy : Low y.p) (h : rlt x y) : plt x.p y.p ∨ x.p = y.p := by
  unfold rlt cmpK at h
  by_cases e : N.cmpR x.p y.p = 0
  · exact Or.inr ((cmpR_zero' hx hy).1 e)
  · rw [if_neg e] at h; exact Or.inl h
set_option maxRecDepth 5000 in
theorem type_of_rlt {x y : R} (hp : x.p = y.p) (h : rlt x y) : x.t < y.t ∨ x.t = y.t := by
  unfold rlt cmpK at h
  rw [hp, if_pos ((N.cmpR_zero).2 rfl)] at h
  by_cases e : x.t = y.t
  · exact Or.inr e
  · rw [if_neg e] at h
    split at h
    · rename_i h2; exact Or.inl h2
    · omega
/- names -/
def paths (L : List R) : List (List (List UInt8)) := (L.map (·.p)).foldl dd1 []
set_option maxRecDepth 5000 in
theorem paths_rise {L : List R} (h : L.Pairwise rlt) (hl : Lows L) : (paths L).Pairwise plt ∧ ∀ p, p ∈ paths L ↔ ∃ x ∈ L, x.p = p := by
  have h0 : (L.map (·.p)).Pairwise (fun a b => plt a b ∨ a = b) := by
    rw [List.pairwise_map]
    exact h.imp_of_mem fun {a b} ha hb hab => path_of_rlt (hl a ha) (hl b hb) hab
  obtain ⟨h1, h2⟩ := dd_spec plt_irr plt_asy (L.map (·.p)) [] (by simpa using h0) List.Pairwise.nil
  exact ⟨h1, fun p => by unfold paths; rw [h2 p]; simp⟩
/- types -/
def typesAt (L : List R) (p : List (List UInt8)) : List Nat := ((L.filter (fun x => decide (x.p = p))).map (·.t)).foldl dd1 []
set_option maxRecDepth 5000 in
theorem types_rise {L : List R} (h : L.Pairwise rlt) (p : List (List UInt8)) : (typesAt L p).Pairwise (· < ·) ∧ ∀ t, t ∈ typesAt L p ↔ ∃ x ∈ L, x.p = p ∧ x.t = t := by
  have h0 : ((L.filter (fun x => decide (x.p = p))).map (·.t)).Pairwise (fun a b => a < b ∨ a = b) := by
    rw [List.pairwise_map]
    refine (h.filter _).imp_of_mem fun {a b} ha hb hab => type_of_rlt ?_ hab
    have h1 := (List.mem_filter.1 ha).2
    have h2 := (List.mem_filter.1 hb).2
    simp at h1 h2
    rw [h1, h2]
  obtain ⟨h1, h2⟩ := dd_spec (r := (· < ·)) (fun a => Nat.lt_irrefl a) (fun a b h h2 => Nat.lt_asymm h h2) _ [] (by simpa using h0) List.Pairwise.nil
  refine ⟨h1, fun t => ?_⟩
  unfold typesAt; rw [h2 t]
  simp [List.mem_map, List.mem_filter, and_assoc]
/- the records of one name and type -/
def setAt (L : List R) (p : List (List UInt8)) (t : Nat) : List R := L.filter (fun x => decide (x.p = p) && decide (x.t = t))
set_option maxRecDepth 5000 in
theorem mem_setAt {L : List R} {p : List (List UInt8)} {t : Nat} {x : R} : x ∈ setAt L p t ↔ x ∈ L ∧ x.p = p ∧ x.t = t := by
  unfold setAt; rw [List.mem_filter]; simp
set_option maxRecDepth 5000 in
theorem setAt_rise {L : List R} (h : L.Pairwise rlt) (p : List (List UInt8)) (t : Nat) : ((setAt L p t).map (·.c)).Pairwise (· < ·) := by
  rw [List.pairwise_map]
  refine List.Pairwise.imp_of_mem (R := rlt) (fun {a b} ha hb hab => ?_) (h.filter _)
  obtain ⟨_, h1, h2⟩ := mem_setAt.1 ha
  obtain ⟨_, h3, h4⟩ := mem_setAt.1 hb
  exact (rlt_can (h1.trans h3.symm) (h2.trans h4.symm)).1 hab
/- all of them, name by name, type by type -/
set_option maxRecDepth 5000 in
theorem whole {L : List R} (h : L.Pairwise rlt) (hl : Lows L) : (paths L).flatMap (fun p => (typesAt L p).flatMap (fun t => setAt L p t)) = L := by
  obtain ⟨h1, h2⟩ := paths_rise h hl
  refine ext_rise rlt_irr rlt_asy ?_ h fun x => ?_
  · rw [List.pairwise_flatMap]
    refine ⟨fun p _ => ?_, h1.imp fun {p q} hpq x hx y hy => ?_⟩
    · rw [List.pairwise_flatMap]
      refine ⟨fun t _ => h.filter _, (types_rise h p).1.imp fun {s t} hst x hx y hy => ?_⟩
      obtain ⟨_, e1, e2⟩ := mem_setAt.1 hx
      obtain ⟨_, e3, e4⟩ := mem_setAt.1 hy
      exact rlt_type (e1.trans e3.symm) (by omega)
    · obtain ⟨s, _, hx⟩ := List.mem_flatMap.1 hx
      obtain ⟨t, _, hy⟩ := List.mem_flatMap.1 hy
      obtain ⟨_, e1, _⟩ := mem_setAt.1 hx
      obtain ⟨_, e3, _⟩ := mem_setAt.1 hy
      exact rlt_path (by rw [e1, e3]; exact hpq)
  · rw [List.mem_flatMap]
    constructor
    · rintro ⟨p, _, h3⟩
      obtain ⟨t, _, h4⟩ := List.mem_flatMap.1 h3
      exact (mem_setAt.1 h4).1
    · intro hx
      exact ⟨x.p, (h2 _).2 ⟨x, hx, rfl⟩, List.mem_flatMap.2 ⟨x.t, ((types_rise h x.p).2 _).2 ⟨x, hx, rfl, rfl⟩, mem_setAt.2 ⟨hx, rfl, rfl⟩⟩⟩
/- what stands there, and its sets -/
set_option maxRecDepth 5000 in
theorem Of.isSome {L : List R} {C : List (List UInt8) → Nat → Option St} (h : Of L C) (p : List (List UInt8)) (t : Nat) : (C p t).isSome ↔ ∃ x ∈ L, x.p = p ∧ x.t = t := by
  constructor
  · intro hs
    obtain ⟨S, hS⟩ := Option.isSome_iff_exists.1 hs
    exact h.ex p t S hS
  · rintro ⟨x, hx, rfl, rfl⟩
    obtain ⟨S, hS⟩ := h.hasS hx
    rw [hS]; rfl
set_option maxRecDepth 5000 in
theorem Of.mem_c {L : List R} {C : List (List UInt8) → Nat → Option St} (h : Of L C) {p : List (List UInt8)} {t : Nat} {S : St} (hS : C p t = some S) (c : List UInt8) : c ∈ (setAt L p t).map (·.c) ↔ (S.g c).isSome := by
  rw [List.mem_map]
  constructor
  · rintro ⟨x, hx, rfl⟩
    obtain ⟨h1, rfl, rfl⟩ := mem_setAt.1 hx
    rw [(h.at_ x h1 S hS).2]; rfl
  · intro hs
    obtain ⟨d, hd⟩ := Option.isSome_iff_exists.1 hs
    obtain ⟨x, hx, h1, h2, h3, _⟩ := h.back p t S c d hS hd
    exact ⟨x, mem_setAt.2 ⟨hx, h1, h2⟩, h3⟩
/- whether a record stands at p, or below it -/
def has (L : List R) (p : List (List UInt8)) : Bool := L.any (fun x => p.isPrefixOf x.p)
set_option maxRecDepth 5000 in
theorem has_iff {L : List R} {p : List (List UInt8)} : has L p = true ↔ ∃ x ∈ L, p <+: x.p := by
  unfold has; rw [List.any_eq_true]; simp only [List.isPrefixOf_iff_prefix]
/- each node is there for a record -/
def Cov {α : Type} (G : List (List UInt8) → Option α) (L : List R) : Prop := ∀ p, (G p).isSome → p = [] ∨ ∃ x ∈ L, p <+: x.p
/- without the nodes on the way to q that are deeper than d -/
def cutG {α : Type} (G : List (List UInt8) → Option α) (q : List (List UInt8)) (d : Nat) : List (List UInt8) → Option α := fun p => if d < p.length ∧ p <+: q then none else G p
set_option maxRecDepth 5000 in
theorem cutG_some {α : Type} {G : List (List UInt8) → Option α} {q p : List (List UInt8)} {d : Nat} (h : (cutG G q d p).isSome) : (G p).isSome ∧ ¬ (d < p.length ∧ p <+: q) := by
  unfold cutG at h
  by_cases e : d < p.length ∧ p <+: q
  · rw [if_pos e] at h; cases h
  · rw [if_neg e] at h; exact ⟨h, e⟩
set_option maxRecDepth 5000 in
theorem cutG_off {α : Type} (G : List (List UInt8) → Option α) {q p : List (List UInt8)} {d : Nat} (h : ¬ (d < p.length ∧ p <+: q)) : cutG G q d p = G p := if_neg h
set_option maxRecDepth 5000 in
theorem Cov.trim {α : Type} {G : List (List UInt8) → Option α} {L L' : List R} (h : Cov G L) (q : List (List UInt8)) (d : Nat) (hd : d ≤ q.length) (hL : ∀ x ∈ L, x.p ≠ q → x ∈ L')
    (hend : d = 0 ∨ (∃ x ∈ L', x.p = q.take d) ∨ ∃ l, (cutG G q d (q.take d ++ [l])).isSome) : Cov (cutG G q d) L' := by
  intro p hp
  obtain ⟨h1, h2⟩ := cutG_some hp
  rcases h p h1 with h3 | ⟨x, hx, hpx⟩
  · exact Or.inl h3
  · by_cases e : x.p = q
    · rw [e] at hpx
      have hl : p.length ≤ d := Nat.le_of_not_lt fun h4 => h2 ⟨h4, hpx⟩
      have hpt : p <+: q.take d := by
        rw [List.prefix_take_iff]; exact ⟨hpx, hl⟩
      rcases hend with h0 | ⟨y, hy, hyp⟩ | ⟨l, hl2⟩
      · left; exact List.eq_nil_of_length_eq_zero (by omega)
      · exact Or.inr ⟨y, hy, by rw [hyp]; exact hpt⟩
      · obtain ⟨h5, h6⟩ := cutG_some hl2
        rcases h _ h5 with h7 | ⟨y, hy, hyp⟩
        · simp at h7
        · refine Or.inr ⟨y, hL y hy fun e2 => h6 ⟨?_, e2 ▸ hyp⟩, (hpt.trans (List.prefix_append _ _)).trans hyp⟩
          rw [List.length_append, List.length_take, List.length_singleton]; omega
    · exact Or.inr ⟨x, hL x hx e, hpx⟩
set_option maxRecDepth 5000 in
theorem Cov.more {α : Type} {G : List (List UInt8) → Option α} {L : List R} (h : Cov G L) (r : R) : Cov G (put L r) := fun p hp => by
  rcases h p hp with h3 | ⟨x, hx, hpx⟩
  · exact Or.inl h3
  · exact Or.inr ⟨_, mem_put.2 ⟨x, Or.inl hx, rfl⟩, by rw [setT_p]; exact hpx⟩
set_option maxRecDepth 5000 in
theorem put_has (L : List R) (r : R) : ∃ x ∈ put L r, x.p = r.p := by
  by_cases ht : there L r = true
  · obtain ⟨x, hx, h1, _⟩ := there_iff.1 ht
    exact ⟨_, mem_put.2 ⟨x, Or.inl hx, rfl⟩, by rw [setT_p, h1]⟩
  · exact ⟨_, mem_put.2 ⟨r, Or.inr ⟨by simpa using ht, rfl⟩, rfl⟩, by rw [setT_p]⟩
end Z
end Go.Proofs.YtdldaphkiphpnaaGreat
