/- Zones, plain: lists that rise; the order of records; the order of paths (names, the last label first). -/
import Derived.Test.YtdldaphkiphpnaaGreatNmA
namespace Go.Proofs.YtdldaphkiphpnaaGreat
namespace Z
/- a list that rises is known by what is in it -/
set_option maxRecDepth 5000 in
theorem ext_rise {α : Type} {r : α → α → Prop} (irr : ∀ a, ¬ r a a) (asy : ∀ a b, r a b → ¬ r b a) : ∀ {l m : List α}, l.Pairwise r → m.Pairwise r → (∀ x, x ∈ l ↔ x ∈ m) → l = m
  | [], [], _, _, _ => rfl
  | [], b :: m, _, _, h => absurd ((h b).2 (by simp)) (by simp)
  | a :: l, [], _, _, h => absurd ((h a).1 (by simp)) (by simp)
  | a :: l, b :: m, hl, hm, h => by
    rw [List.pairwise_cons] at hl hm
    have e : a = b := by
      rcases List.mem_cons.1 ((h a).1 (by simp)) with e | ha
      · exact e
      · rcases List.mem_cons.1 ((h b).2 (by simp)) with e | hb
        · exact e.symm
        · exact absurd (hm.1 a ha) (asy _ _ (hl.1 b hb))
    subst e
    have e2 : l = m := ext_rise irr asy hl.2 hm.2 fun x => by
      constructor
      · intro hx
        rcases List.mem_cons.1 ((h x).1 (by simp [hx])) with e | h2
        · subst e; exact absurd (hl.1 x hx) (irr x)
        · exact h2
      · intro hx
        rcases List.mem_cons.1 ((h x).2 (by simp [hx])) with e | h2
        · subst e; exact absurd (hm.1 x hx) (irr x)
        · exact h2
    rw [e2]
/- each thing once: what comes behind itself is left out -/
def dd1 {α : Type} [DecidableEq α] (acc : List α) (x : α) : List α := if acc.getLast? = some x then acc else acc ++ [x]
set_option maxRecDepth 5000 in
theorem dd_spec {α : Type} [DecidableEq α] {r : α → α → Prop} (irr : ∀ a, ¬ r a a) (asy : ∀ a b, r a b → ¬ r b a) : ∀ (l acc : List α), (acc ++ l).Pairwise (fun a b => r a b ∨ a = b) → acc.Pairwise r →
    (l.foldl dd1 acc).Pairwise r ∧ ∀ x, x ∈ l.foldl dd1 acc ↔ x ∈ acc ∨ x ∈ l
  | [], acc, _, h => ⟨h, by simp⟩
  | a :: l, acc, hle, h => by
    rw [List.foldl_cons]
    by_cases hx : acc.getLast? = some a
    · have e : dd1 acc a = acc := if_pos hx
      rw [e]
      have hs : (acc ++ l).Pairwise (fun a b => r a b ∨ a = b) := hle.sublist (List.Sublist.append_left (List.sublist_cons_self a l) acc)
      obtain ⟨h1, h2⟩ := dd_spec irr asy l acc hs h
      refine ⟨h1, fun x => ?_⟩
      rw [h2 x]
      have ha : a ∈ acc := List.mem_of_getLast? hx
      constructor
      · rintro (h | h); exact Or.inl h; exact Or.inr (by simp [h])
      · rintro (h | h)
        · exact Or.inl h
        · rcases List.mem_cons.1 h with rfl | h
          · exact Or.inl ha
          · exact Or.inr h
    · have e : dd1 acc a = acc ++ [a] := if_neg hx
      rw [e]
      have hr : (acc ++ [a]).Pairwise r := by
        rw [List.pairwise_append]
        refine ⟨h, List.pairwise_singleton _ _, fun b hb c hc => ?_⟩
        rw [List.mem_singleton] at hc; subst hc
        rcases (List.pairwise_append.1 hle).2.2 b hb c (by simp) with h1 | h1
        · exact h1
        · subst h1
          exfalso
          cases hl : acc.getLast? with
          | none => rw [List.getLast?_eq_none_iff] at hl; subst hl; cases hb
          | some z =>
            obtain ⟨ys, hz⟩ := List.getLast?_eq_some_iff.1 hl
            have hzb : z ≠ b := fun e => hx (by rw [hl, e])
            have hz2 : z ∈ acc := List.mem_of_getLast? hl
            have h4 : r b z := by
              rw [hz] at h hb
              rcases List.mem_append.1 hb with h5 | h5
              · exact (List.pairwise_append.1 h).2.2 b h5 z (by simp)
              · rw [List.mem_singleton] at h5; exact absurd h5.symm hzb
            rcases (List.pairwise_append.1 hle).2.2 z hz2 b (by simp) with h5 | h5
            · exact asy _ _ h4 h5
            · exact hzb h5
      obtain ⟨h1, h2⟩ := dd_spec irr asy l (acc ++ [a]) (by simpa using hle) hr
      refine ⟨h1, fun x => ?_⟩
      rw [h2 x]; simp [or_assoc]
/- texts -/
set_option maxRecDepth 5000 in
theorem lt_cmpB : ∀ (a b : List UInt8), a < b ↔ N.cmpB a b < 0
  | [], [] => by simp [N.cmpB]
  | [], _ :: _ => by simp [N.cmpB]
  | _ :: _, [] => by simp [N.cmpB]
  | a :: x, b :: y => by
    have hc : N.cmpB (a :: x) (b :: y) = if N.cmpI a.toNat b.toNat = 0 then N.cmpB x y else N.cmpI a.toNat b.toNat := rfl
    rw [hc, List.cons_lt_cons_iff, lt_cmpB x y]
    have h1 : a < b ↔ a.toNat < b.toNat := UInt8.lt_iff_toNat_lt
    have h2 : a = b ↔ a.toNat = b.toNat := UInt8.toNat_inj.symm
    rw [h1, h2]
    have h0 := @N.cmpI_zero a.toNat b.toNat
    by_cases h : N.cmpI a.toNat b.toNat = 0
    · rw [if_pos h]
      have := h0.1 h
      constructor
      · rintro (h3 | ⟨_, h3⟩); omega; exact h3
      · exact fun h3 => Or.inr ⟨this, h3⟩
    · rw [if_neg h]
      have h4 : a.toNat ≠ b.toNat := fun e => h (h0.2 e)
      have h5 : N.cmpI a.toNat b.toNat < 0 ↔ a.toNat < b.toNat := by unfold N.cmpI; split <;> (try split) <;> omega
      rw [h5]
      constructor
      · rintro (h3 | ⟨h3, _⟩); exact h3; exact absurd h3 h4
      · exact fun h3 => Or.inl h3
set_option maxRecDepth 5000 in
theorem blt_irr (a : List UInt8) : ¬ a < a := List.lt_irrefl a
set_option maxRecDepth 5000 in
theorem blt_asy (a b : List UInt8) (h : a < b) : ¬ b < a := fun h2 => List.lt_irrefl a (List.lt_trans h h2)
/- paths in small letters -/
def Low (p : List (List UInt8)) : Prop := N.lowN p = p
set_option maxRecDepth 5000 in
theorem Low.cons {l : List UInt8} {p : List (List UInt8)} (h : Low (l :: p)) : N.lowL l = l ∧ Low p := by
  unfold Low N.lowN at h; rw [List.map_cons] at h; injection h with h1 h2; exact ⟨h1, h2⟩
set_option maxRecDepth 5000 in
theorem Low.app {p q : List (List UInt8)} : Low (p ++ q) ↔ Low p ∧ Low q := by
  unfold Low N.lowN; rw [List.map_append]
  constructor
  · intro h; exact List.append_inj h (by simp)
  · rintro ⟨h1, h2⟩; rw [h1, h2]
set_option maxRecDepth 5000 in
theorem Low.of (n : List (List UInt8)) : Low (N.lowN n) := by
  unfold Low N.lowN; rw [List.map_map]; exact List.map_congr_left fun x _ => N.lowL_low x
set_option maxRecDepth 5000 in
theorem Low.one {l : List UInt8} : Low [l] ↔ N.lowL l = l := by simp [Low, N.lowN]
set_option maxRecDepth 5000 in
theorem Low.pre {p q : List (List UInt8)} (h : Low q) (hp : p <+: q) : Low p := by
  obtain ⟨r, rfl⟩ := hp; exact (Low.app.1 h).1
/- the order of paths -/
def plt (a b : List (List UInt8)) : Prop := N.cmpR a b < 0
set_option maxRecDepth 5000 in
theorem plt_irr (a : List (List UInt8)) : ¬ plt a a := by unfold plt; rw [(N.cmpR_zero (a := a) (b := a)).2 rfl]; omega
set_option maxRecDepth 5000 in
theorem plt_asy (a b : List (List UInt8)) (h : plt a b) : ¬ plt b a := by unfold plt at *; rw [N.cmpR_neg]; omega
set_option maxRecDepth 5000 in
theorem cmpR_zero' {a b : List (List UInt8)} (ha : Low a) (hb : Low b) : N.cmpR a b = 0 ↔ a = b := by
  rw [N.cmpR_zero]; unfold Low at *; rw [ha, hb]
set_option maxRecDepth 5000 in
theorem cmpR_app : ∀ (p a b : List (List UInt8)), N.cmpR (p ++ a) (p ++ b) = N.cmpR a b
  | [], _, _ => rfl
  | l :: p, a, b => by
    show (if N.cmpL l l = 0 then N.cmpR (p ++ a) (p ++ b) else N.cmpL l l) = _
    rw [if_pos (N.cmpL_zero.2 rfl)]
    exact cmpR_app p a b
set_option maxRecDepth 5000 in
theorem plt_app {p a b : List (List UInt8)} : plt (p ++ a) (p ++ b) ↔ plt a b := by unfold plt; rw [cmpR_app]
set_option maxRecDepth 5000 in
theorem plt_nil (l : List UInt8) (a : List (List UInt8)) : plt [] (l :: a) := by unfold plt N.cmpR; omega
set_option maxRecDepth 5000 in
theorem plt_cons {l m : List UInt8} (a b : List (List UInt8)) (hl : N.lowL l = l) (hm : N.lowL m = m) (h : l < m) : plt (l :: a) (m :: b) := by
  have h1 := (lt_cmpB l m).1 h
  unfold plt N.cmpR N.cmpL
  rw [hl, hm, if_neg (by omega)]; exact h1
/- the names at and below a path, of those that stand in order -/
def under (L : List (List (List UInt8))) (p : List (List UInt8)) : List (List (List UInt8)) := L.filter (fun q => p.isPrefixOf q)
set_option maxRecDepth 5000 in
theorem mem_under {L : List (List (List UInt8))} {p q : List (List UInt8)} : q ∈ under L p ↔ q ∈ L ∧ p <+: q := by
  unfold under; rw [List.mem_filter, List.isPrefixOf_iff_prefix]
set_option maxRecDepth 5000 in
theorem under_nil (L : List (List (List UInt8))) : under L [] = L := by
  unfold under; exact List.filter_eq_self.2 fun a _ => by simp
set_option maxRecDepth 5000 in
theorem under_step {L : List (List (List UInt8))} (hL : L.Pairwise plt) (hw : ∀ q ∈ L, Low q) (p : List (List UInt8)) (ks : List (List UInt8)) (ha : ks.Pairwise (· < ·)) (hm : ∀ l, l ∈ ks ↔ ∃ q ∈ L, (p ++ [l]) <+: q) :
    under L p = (if p ∈ L then [p] else []) ++ ks.flatMap (fun l => under L (p ++ [l])) := by
  have hpre : ∀ l q, q ∈ under L (p ++ [l]) → ∃ r, q = p ++ (l :: r) := fun l q h => by
    obtain ⟨r, hr⟩ := (mem_under.1 h).2
    exact ⟨r, by rw [← hr]; simp⟩
  have hlow : ∀ l ∈ ks, N.lowL l = l := fun l hl => by
    obtain ⟨q, hq, h1⟩ := (hm l).1 hl
    exact Low.one.1 (Low.app.1 ((hw q hq).pre h1)).2
  refine ext_rise plt_irr plt_asy (hL.filter _) ?_ fun q => ?_
  · rw [List.pairwise_append]
    refine ⟨by split <;> simp, ?_, ?_⟩
    · rw [List.pairwise_flatMap]
      refine ⟨fun l _ => hL.filter _, ha.imp_of_mem fun {l m} hl hm' hlm x hx y hy => ?_⟩
      obtain ⟨r, rfl⟩ := hpre l x hx
      obtain ⟨s, rfl⟩ := hpre m y hy
      rw [plt_app]
      exact plt_cons _ _ (hlow l hl) (hlow m hm') hlm
    · intro a hA b hB
      have e : a = p := by
        split at hA
        · simpa using hA
        · cases hA
      obtain ⟨l, _, hb⟩ := List.mem_flatMap.1 hB
      obtain ⟨r, rfl⟩ := hpre l b hb
      rw [e]
      have := plt_app (p := p) (a := []) (b := l :: r)
      rw [List.append_nil] at this
      exact this.2 (plt_nil l r)
  · rw [mem_under, List.mem_append, List.mem_flatMap]
    constructor
    · rintro ⟨h1, r, rfl⟩
      cases r with
      | nil => left; rw [List.append_nil] at h1 ⊢; rw [if_pos h1]; simp
      | cons l r =>
        right
        have h2 : (p ++ [l]) <+: (p ++ l :: r) := ⟨r, by simp⟩
        exact ⟨l, (hm l).2 ⟨_, h1, h2⟩, mem_under.2 ⟨h1, h2⟩⟩
    · rintro (h | ⟨l, _, h⟩)
      · split at h
        · rename_i h1; rw [List.mem_singleton] at h; subst h; exact ⟨h1, List.prefix_refl _⟩
        · cases h
      · obtain ⟨h1, h2⟩ := mem_under.1 h
        exact ⟨h1, (List.prefix_append p [l]).trans h2⟩
end Z
end Go.Proofs.YtdldaphkiphpnaaGreat

/- Zones, plain: records, in order; putting and dropping; what stands at a path, by types. -/
namespace Go.Proofs.YtdldaphkiphpnaaGreat
namespace Z
/- a record: its owner's path, its type, its data in canonical form, its time to live, its data -/
structure R where
  p : List (List UInt8)
  t : Nat
  c : List UInt8
  ttl : Nat
  d : List UInt8
def cmpK (a b : R) : Int := if N.cmpR a.p b.p = 0 then (if a.t = b.t then N.cmpB a.c b.c else if a.t < b.t then -1 else 1) else N.cmpR a.p b.p
def rlt (a b : R) : Prop := cmpK a b < 0
set_option maxRecDepth 5000 in
theorem cmpK_neg (a b : R) : cmpK b a = - cmpK a b := by
  unfold cmpK
  have h1 := N.cmpR_neg a.p b.p
  have h2 := N.cmpB_neg a.c b.c
  by_cases h : N.cmpR a.p b.p = 0
  · rw [if_pos h, if_pos (by omega)]
    by_cases ht : a.t = b.t
    · rw [if_pos ht, if_pos ht.symm]; exact h2
    · rw [if_neg ht, if_neg (fun e => ht e.symm)]
      split <;> split <;> omega
  · rw [if_neg h, if_neg (by omega)]; exact h1
set_option maxRecDepth 5000 in
theorem cmpK_self (a : R) : cmpK a a = 0 := by
  unfold cmpK; rw [if_pos ((N.cmpR_zero).2 rfl), if_pos rfl]; exact N.cmpB_zero.2 rfl
set_option maxRecDepth 5000 in
theorem rlt_irr (a : R) : ¬ rlt a a := by unfold rlt; rw [cmpK_self]; omega
set_option maxRecDepth 5000 in
theorem rlt_asy (a b : R) (h : rlt a b) : ¬ rlt b a := by unfold rlt at *; rw [cmpK_neg]; omega
set_option maxRecDepth 5000 in
theorem cmpR_cong {a b : List (List UInt8)} (h : N.cmpR a b = 0) (c : List (List UInt8)) : N.cmpR a c = N.cmpR b c := by
  rw [← N.cmpR_lowN a, ← N.cmpR_lowN b, (N.cmpR_zero).1 h]
set_option maxRecDepth 5000 in
theorem rlt_trans {a b c : R} (h1 : rlt a b) (h2 : rlt b c) : rlt a c := by
  unfold rlt cmpK at *
  by_cases e1 : N.cmpR a.p b.p = 0
  · rw [if_pos e1] at h1
    rw [cmpR_cong e1 c.p]
    by_cases e2 : N.cmpR b.p c.p = 0
    · rw [if_pos e2] at h2 ⊢
      by_cases t1 : a.t = b.t
      · rw [if_pos t1] at h1
        by_cases t2 : b.t = c.t
        · rw [if_pos t2] at h2
          rw [if_pos (t1.trans t2)]
          have h3 := N.cmpB_trans (a := a.c) (b := b.c) (c := c.c) (by omega) (by omega)
          by_cases h0 : N.cmpB a.c c.c = 0
          · have := N.cmpB_zero.1 h0
            rw [this] at h1
            have h4 := N.cmpB_neg c.c b.c
            omega
          · omega
        · rw [if_neg t2] at h2
          rw [if_neg (by omega)]
          split at h2
          · rw [if_pos (by omega)]; omega
          · omega
      · rw [if_neg t1] at h1
        split at h1
        · by_cases t2 : b.t = c.t
          · rw [if_neg (by omega), if_pos (by omega)]; omega
          · rw [if_neg t2] at h2
            split at h2
            · rw [if_neg (by omega), if_pos (by omega)]; omega
            · omega
        · omega
    · rw [if_neg e2] at h2 ⊢; exact h2
  · rw [if_neg e1] at h1
    by_cases e2 : N.cmpR b.p c.p = 0
    · have h3 := cmpR_cong e2 a.p
      have h4 := N.cmpR_neg a.p b.p
      have h5 := N.cmpR_neg a.p c.p
      rw [if_neg (by omega)]; omega
    · rw [if_neg e2] at h2
      have h3 := N.cmpR_trans (a := a.p) (b := b.p) (c := c.p) (by omega) (by omega)
      by_cases e3 : N.cmpR a.p c.p = 0
      · exfalso
        have h4 := cmpR_cong e3 b.p
        have h5 := N.cmpR_neg b.p c.p
        omega
      · rw [if_neg e3]; omega
set_option maxRecDepth 5000 in
theorem cmpK_zero {a b : R} (ha : Low a.p) (hb : Low b.p) : cmpK a b = 0 ↔ a.p = b.p ∧ a.t = b.t ∧ a.c = b.c := by
  unfold cmpK
  by_cases h : N.cmpR a.p b.p = 0
  · rw [if_pos h]
    have h1 := (cmpR_zero' ha hb).1 h
    by_cases ht : a.t = b.t
    · rw [if_pos ht, N.cmpB_zero]
      exact ⟨fun e => ⟨h1, ht, e⟩, fun e => e.2.2⟩
    · rw [if_neg ht]
      refine ⟨fun e => ?_, fun e => absurd e.2.1 ht⟩
      split at e <;> omega
  · rw [if_neg h]
    exact ⟨fun e => absurd e h, fun e => absurd ((cmpR_zero' ha hb).2 e.1) h⟩
/- records that rise -/
def Lows (L : List R) : Prop := ∀ x ∈ L, Low x.p
set_option maxRecDepth 5000 in
theorem rise_eq {L : List R} (h : L.Pairwise rlt) {x y : R} (hx : x ∈ L) (hy : y ∈ L) (hp : x.p = y.p) (ht : x.t = y.t) (hc : x.c = y.c) : x = y := by
  have h0 : cmpK x y = 0 := by
    unfold cmpK; rw [hp, ht, hc, if_pos ((N.cmpR_zero).2 rfl), if_pos rfl]; exact N.cmpB_zero.2 rfl
  induction L with
  | nil => cases hx
  | cons a L ih =>
    rw [List.pairwise_cons] at h
    rcases List.mem_cons.1 hx with rfl | hx'
    · rcases List.mem_cons.1 hy with rfl | hy'
      · rfl
      · have := h.1 y hy'; unfold rlt at this; omega
    · rcases List.mem_cons.1 hy with rfl | hy'
      · have := h.1 x hx'; unfold rlt at this; rw [cmpK_neg] at this; omega
      · exact ih h.2 hx' hy'
def isK (p : List (List UInt8)) (t : Nat) (c : List UInt8) (x : R) : Bool := decide (x.p = p) && decide (x.t = t) && decide (x.c = c)
set_option maxRecDepth 5000 in
theorem isK_iff {p : List (List UInt8)} {t : Nat} {c : List UInt8} {x : R} : isK p t c x = true ↔ x.p = p ∧ x.t = t ∧ x.c = c := by simp [isK, and_assoc]
def there (L : List R) (r : R) : Bool := L.any (isK r.p r.t r.c)
set_option maxRecDepth 5000 in
theorem there_iff {L : List R} {r : R} : there L r = true ↔ ∃ x ∈ L, x.p = r.p ∧ x.t = r.t ∧ x.c = r.c := by
  unfold there; rw [List.any_eq_true]
  exact ⟨fun ⟨x, h, e⟩ => ⟨x, h, isK_iff.1 e⟩, fun ⟨x, h, e⟩ => ⟨x, h, isK_iff.2 e⟩⟩
def lead (L : List R) (r : R) : List R := L.takeWhile (fun x => decide (cmpK x r < 0))
def rear (L : List R) (r : R) : List R := L.dropWhile (fun x => decide (cmpK x r < 0))
def ins (L : List R) (r : R) : List R := lead L r ++ r :: rear L r
set_option maxRecDepth 5000 in
theorem lead_rear (L : List R) (r : R) : lead L r ++ rear L r = L := List.takeWhile_append_dropWhile
set_option maxRecDepth 5000 in
theorem mem_ins {L : List R} {r x : R} : x ∈ ins L r ↔ x = r ∨ x ∈ L := by
  unfold ins
  rw [List.mem_append, List.mem_cons]
  have h : x ∈ L ↔ x ∈ lead L r ∨ x ∈ rear L r := by rw [← List.mem_append, lead_rear]
  rw [h]
  constructor
  · rintro (h | h | h)
    · exact Or.inr (Or.inl h)
    · exact Or.inl h
    · exact Or.inr (Or.inr h)
  · rintro (h | h | h)
    · exact Or.inr (Or.inl h)
    · exact Or.inl h
    · exact Or.inr (Or.inr h)
set_option maxRecDepth 5000 in
theorem lead_lt {L : List R} {r x : R} (h : x ∈ lead L r) : rlt x r := by
  unfold lead at h
  have := List.all_takeWhile (p := fun x => decide (cmpK x r < 0)) (l := L)
  rw [List.all_eq_true] at this
  simpa [rlt] using this x h
/- the rest is behind r, or is r -/
set_option maxRecDepth 5000 in
theorem rear_ge {L : List R} (h : L.Pairwise rlt) (r : R) : ∀ x ∈ rear L r, ¬ rlt x r := by
  induction L with
  | nil => intro x hx; cases hx
  | cons a L ih =>
    rw [List.pairwise_cons] at h
    intro x hx
    unfold rear at hx
    by_cases ha : cmpK a r < 0
    · rw [List.dropWhile_cons_of_pos (by simpa using ha)] at hx
      exact ih h.2 x hx
    · rw [List.dropWhile_cons_of_neg (by simpa using ha)] at hx
      rcases List.mem_cons.1 hx with rfl | hx'
      · exact ha
      · intro h2
        exact ha (rlt_trans (h.1 x hx') h2)
set_option maxRecDepth 5000 in
theorem ins_rise {L : List R} (h : L.Pairwise rlt) (hl : Lows L) {r : R} (hr : Low r.p) (hn : there L r = false) : (ins L r).Pairwise rlt := by
  unfold ins
  have hs : (lead L r ++ rear L r).Pairwise rlt := by rw [lead_rear]; exact h
  rw [List.pairwise_append] at hs ⊢
  refine ⟨hs.1, ?_, fun a ha b hb => ?_⟩
  · rw [List.pairwise_cons]
    refine ⟨fun x hx => ?_, hs.2.1⟩
    have h1 := rear_ge h r x hx
    have hx' : x ∈ L := by rw [← lead_rear L r]; exact List.mem_append_right _ hx
    have h2 : cmpK x r ≠ 0 := fun e => by
      have := (cmpK_zero (hl x hx') hr).1 e
      rw [there_iff.2 ⟨x, hx', this⟩] at hn; cases hn
    unfold rlt at h1 ⊢
    rw [cmpK_neg]; omega
  · rcases List.mem_cons.1 hb with rfl | hb'
    · exact lead_lt ha
    · exact hs.2.2 a ha b hb'
def setT (p : List (List UInt8)) (t ttl : Nat) (x : R) : R := if x.p = p ∧ x.t = t then { x with ttl := ttl } else x
set_option maxRecDepth 5000 in
theorem setT_p (p : List (List UInt8)) (t ttl : Nat) (x : R) : (setT p t ttl x).p = x.p := by unfold setT; split <;> rfl
set_option maxRecDepth 5000 in
theorem setT_t (p : List (List UInt8)) (t ttl : Nat) (x : R) : (setT p t ttl x).t = x.t := by unfold setT; split <;> rfl
set_option maxRecDepth 5000 in
theorem setT_c (p : List (List UInt8)) (t ttl : Nat) (x : R) : (setT p t ttl x).c = x.c := by unfold setT; split <;> rfl
set_option maxRecDepth 5000 in
theorem setT_d (p : List (List UInt8)) (t ttl : Nat) (x : R) : (setT p t ttl x).d = x.d := by unfold setT; split <;> rfl
set_option maxRecDepth 5000 in
theorem setT_at (p : List (List UInt8)) (t ttl : Nat) (x : R) (h : x.p = p ∧ x.t = t) : (setT p t ttl x).ttl = ttl := by unfold setT; rw [if_pos h]
set_option maxRecDepth 5000 in
theorem setT_off (p : List (List UInt8)) (t ttl : Nat) (x : R) (h : ¬ (x.p = p ∧ x.t = t)) : setT p t ttl x = x := by unfold setT; rw [if_neg h]
def put (L : List R) (r : R) : List R := (if there L r = true then L else ins L r).map (setT r.p r.t r.ttl)
set_option maxRecDepth 5000 in
theorem setT_rise {L : List R} (h : L.Pairwise rlt) (p : List (List UInt8)) (t ttl : Nat) : (L.map (setT p t ttl)).Pairwise rlt := by
  rw [List.pairwise_map]
  refine h.imp fun {a b} hab => ?_
  unfold rlt cmpK at *
  rw [setT_p, setT_p, setT_t, setT_t, setT_c, setT_c]; exact hab
set_option maxRecDepth 5000 in
theorem put_rise {L : List R} (h : L.Pairwise rlt) (hl : Lows L) {r : R} (hr : Low r.p) : (put L r).Pairwise rlt := by
  unfold put
  refine setT_rise ?_ _ _ _
  split
  · exact h
  · rename_i hn; exact ins_rise h hl hr (by simpa using hn)
set_option maxRecDepth 5000 in
theorem mem_put {L : List R} {r x : R} : x ∈ put L r ↔ ∃ y, (y ∈ L ∨ (there L r = false ∧ y = r)) ∧ x = setT r.p r.t r.ttl y := by
  unfold put
  rw [List.mem_map]
  constructor
  · rintro ⟨y, hy, rfl⟩
    refine ⟨y, ?_, rfl⟩
    split at hy
    · exact Or.inl hy
    · rename_i hn
      rcases mem_ins.1 hy with h | h
      · exact Or.inr ⟨by simpa using hn, h⟩
      · exact Or.inl h
  · rintro ⟨y, hy, rfl⟩
    refine ⟨y, ?_, rfl⟩
    split
    · rename_i hn
      rcases hy with h | ⟨h, _⟩
      · exact h
      · rw [hn] at h; cases h
    · rcases hy with h | ⟨_, h⟩
      · exact mem_ins.2 (Or.inr h)
      · exact mem_ins.2 (Or.inl h)
set_option maxRecDepth 5000 in
theorem put_lows {L : List R} (hl : Lows L) {r : R} (hr : Low r.p) : Lows (put L r) := fun x hx => by
  obtain ⟨y, hy, rfl⟩ := mem_put.1 hx
  rw [setT_p]
  rcases hy with h | ⟨_, rfl⟩
  · exact hl y h
  · exact hr
set_option maxRecDepth 5000 in
theorem put_len (L : List R) (r : R) : (put L r).length = if there L r = true then L.length else L.length + 1 := by
  unfold put
  rw [List.length_map]
  split
  · rfl
  · have h : L.length = (lead L r).length + (rear L r).length := by rw [← List.length_append, lead_rear]
    unfold ins; rw [List.length_append, List.length_cons]; omega
def drop (L : List R) (p : List (List UInt8)) (t : Nat) (c : List UInt8) : List R := L.filter (fun x => !isK p t c x)
set_option maxRecDepth 5000 in
theorem mem_drop {L : List R} {p : List (List UInt8)} {t : Nat} {c : List UInt8} {x : R} : x ∈ drop L p t c ↔ x ∈ L ∧ ¬ (x.p = p ∧ x.t = t ∧ x.c = c) := by
  unfold drop
  rw [List.mem_filter, ← isK_iff]
  simp
def isS (p : List (List UInt8)) (t : Nat) (x : R) : Bool := decide (x.p = p) && (decide (t = 255) || decide (x.t = t))
set_option maxRecDepth 5000 in
theorem isS_iff {p : List (List UInt8)} {t : Nat} {x : R} : isS p t x = true ↔ x.p = p ∧ (t = 255 ∨ x.t = t) := by simp [isS]
def dropSet (L : List R) (p : List (List UInt8)) (t : Nat) : List R := L.filter (fun x => !isS p t x)
set_option maxRecDepth 5000 in
theorem mem_dropSet {L : List R} {p : List (List UInt8)} {t : Nat} {x : R} : x ∈ dropSet L p t ↔ x ∈ L ∧ ¬ (x.p = p ∧ (t = 255 ∨ x.t = t)) := by
  unfold dropSet
  rw [List.mem_filter, ← isS_iff]
  simp
/- what stands at a path, by types: a time to live, and data by their canonical forms -/
structure St where
  ttl : Nat
  g : List UInt8 → Option (List UInt8)
structure Of (L : List R) (C : List (List UInt8) → Nat → Option St) : Prop where
  no : ∀ p t, C p t = none → ∀ x ∈ L, ¬ (x.p = p ∧ x.t = t)
  ex : ∀ p t S, C p t = some S → ∃ x ∈ L, x.p = p ∧ x.t = t
  at_ : ∀ x ∈ L, ∀ S, C x.p x.t = some S → x.ttl = S.ttl ∧ S.g x.c = some x.d
  back : ∀ p t S c d, C p t = some S → S.g c = some d → ∃ x ∈ L, x.p = p ∧ x.t = t ∧ x.c = c ∧ x.d = d
set_option maxRecDepth 5000 in
theorem Of.nil : Of [] (fun _ _ => none) := ⟨fun _ _ _ x hx => (by cases hx), fun _ _ _ h => (by cases h), fun x hx => (by cases hx), fun _ _ _ _ _ h => (by cases h)⟩
set_option maxRecDepth 5000 in
theorem Of.hasS {L : List R} {C : List (List UInt8) → Nat → Option St} (h : Of L C) {x : R} (hx : x ∈ L) : ∃ S, C x.p x.t = some S := by
  cases hC : C x.p x.t with
  | none => exact absurd ⟨rfl, rfl⟩ (h.no _ _ hC x hx)
  | some S => exact ⟨S, rfl⟩
/- what has the canonical form c at p, of the type t -/
def got (C : List (List UInt8) → Nat → Option St) (p : List (List UInt8)) (t : Nat) (c : List UInt8) : Option (List UInt8) := (C p t).bind (fun S => S.g c)
set_option maxRecDepth 5000 in
theorem Of.got_there {L : List R} {C : List (List UInt8) → Nat → Option St} (h : Of L C) (r : R) : (got C r.p r.t r.c).isSome = there L r := by
  rw [Bool.eq_iff_iff, there_iff]
  unfold got
  constructor
  · intro hs
    cases hC : C r.p r.t with
    | none => rw [hC] at hs; cases hs
    | some S =>
      rw [hC] at hs
      obtain ⟨d, hd⟩ := Option.isSome_iff_exists.1 hs
      obtain ⟨x, hx, h1, h2, h3, _⟩ := h.back _ _ S r.c d hC hd
      exact ⟨x, hx, h1, h2, h3⟩
  · rintro ⟨x, hx, h1, h2, h3⟩
    obtain ⟨S, hS⟩ := h.hasS hx
    have := (h.at_ x hx S hS).2
    rw [← h1, ← h2, ← h3, hS]
    show (S.g x.c).isSome = true
    rw [this]; rfl
def cput (C : List (List UInt8) → Nat → Option St) (p : List (List UInt8)) (t ttl : Nat) (c d : List UInt8) : List (List UInt8) → Nat → Option St := fun q s =>
  if q = p ∧ s = t then some ⟨ttl, fun x => if x = c then some ((got C p t c).getD d) else got C p t x⟩ else C q s
set_option maxRecDepth 5000 in
theorem Of.put {L : List R} {C : List (List UInt8) → Nat → Option St} (h : Of L C) (r : R) : Of (put L r) (cput C r.p r.t r.ttl r.c r.d) := by
  refine ⟨fun p t hC x hx => ?_, fun p t S hC => ?_, fun x hx S hC => ?_, fun p t S c d hC hg => ?_⟩
  · unfold cput at hC
    by_cases e : p = r.p ∧ t = r.t
    · rw [if_pos e] at hC; cases hC
    · rw [if_neg e] at hC
      obtain ⟨y, hy, rfl⟩ := mem_put.1 hx
      rw [setT_p, setT_t]
      rcases hy with hy | ⟨_, rfl⟩
      · exact h.no p t hC y hy
      · exact fun e2 => e ⟨e2.1.symm, e2.2.symm⟩
  · unfold cput at hC
    by_cases e : p = r.p ∧ t = r.t
    · by_cases ht : there L r = true
      · obtain ⟨x, hx, h1, h2, h3⟩ := there_iff.1 ht
        exact ⟨_, mem_put.2 ⟨x, Or.inl hx, rfl⟩, by rw [setT_p, h1, e.1], by rw [setT_t, h2, e.2]⟩
      · exact ⟨_, mem_put.2 ⟨r, Or.inr ⟨by simpa using ht, rfl⟩, rfl⟩, by rw [setT_p, e.1], by rw [setT_t, e.2]⟩
    · rw [if_neg e] at hC
      obtain ⟨x, hx, h1, h2⟩ := h.ex p t S hC
      exact ⟨_, mem_put.2 ⟨x, Or.inl hx, rfl⟩, by rw [setT_p, h1], by rw [setT_t, h2]⟩
  · obtain ⟨y, hy, rfl⟩ := mem_put.1 hx
    rw [setT_p, setT_t] at hC
    rw [setT_c, setT_d]
    unfold cput at hC
    by_cases e : y.p = r.p ∧ y.t = r.t
    · rw [if_pos e] at hC
      injection hC with hC; subst hC
      rw [setT_at _ _ _ _ e]
      refine ⟨rfl, ?_⟩
      show (if y.c = r.c then some ((got C r.p r.t r.c).getD r.d) else got C r.p r.t y.c) = some y.d
      rcases hy with hy | ⟨hn, rfl⟩
      · obtain ⟨S, hS⟩ := h.hasS hy
        have h2 := (h.at_ y hy S hS).2
        have h3 : got C r.p r.t y.c = some y.d := by unfold got; rw [← e.1, ← e.2, hS]; exact h2
        by_cases ec : y.c = r.c
        · rw [if_pos ec, ← ec, h3]; rfl
        · rw [if_neg ec, h3]
      · rw [if_pos rfl]
        have h3 := h.got_there y
        rw [hn] at h3
        have h4 : got C y.p y.t y.c = none := by
          cases hg : got C y.p y.t y.c with
          | none => rfl
          | some d => rw [hg] at h3; cases h3
        rw [h4]; rfl
    · rw [if_neg e] at hC
      rw [setT_off _ _ _ _ e]
      rcases hy with hy | ⟨_, rfl⟩
      · exact h.at_ y hy S hC
      · exact absurd ⟨rfl, rfl⟩ e
  · unfold cput at hC
    by_cases e : p = r.p ∧ t = r.t
    · rw [if_pos e] at hC
      injection hC with hC; subst hC
      have hg' : (if c = r.c then some ((got C r.p r.t r.c).getD r.d) else got C r.p r.t c) = some d := hg
      have old : got C r.p r.t c = some d → ∃ x ∈ Z.put L r, x.p = p ∧ x.t = t ∧ x.c = c ∧ x.d = d := fun hq => by
        unfold got at hq
        cases hC2 : C r.p r.t with
        | none => rw [hC2] at hq; cases hq
        | some S =>
          rw [hC2] at hq
          obtain ⟨x, hx, h1, h2, h3, h4⟩ := h.back _ _ S c d hC2 hq
          exact ⟨_, mem_put.2 ⟨x, Or.inl hx, rfl⟩, by rw [setT_p, h1, e.1], by rw [setT_t, h2, e.2], by rw [setT_c, h3], by rw [setT_d, h4]⟩
      by_cases ec : c = r.c
      · rw [if_pos ec] at hg'
        cases hq : got C r.p r.t r.c with
        | some d0 =>
          rw [hq] at hg'
          have : d0 = d := by simpa using hg'
          exact old (by rw [ec, hq, this])
        | none =>
          rw [hq] at hg'
          have hd : r.d = d := by simpa using hg'
          have hn := h.got_there r
          rw [hq] at hn
          exact ⟨_, mem_put.2 ⟨r, Or.inr ⟨hn.symm, rfl⟩, rfl⟩, by rw [setT_p, e.1], by rw [setT_t, e.2], by rw [setT_c, ec], by rw [setT_d, hd]⟩
      · rw [if_neg ec] at hg'
        exact old hg'
    · rw [if_neg e] at hC
      obtain ⟨x, hx, h1, h2, h3, h4⟩ := h.back p t S c d hC hg
      refine ⟨_, mem_put.2 ⟨x, Or.inl hx, rfl⟩, by rw [setT_p, h1], by rw [setT_t, h2], by rw [setT_c, h3], by rw [setT_d, h4]⟩
/- without the data whose canonical form is c; none: whether none is left -/
def cdel (C : List (List UInt8) → Nat → Option St) (p : List (List UInt8)) (t : Nat) (c : List UInt8) (last : Bool) : List (List UInt8) → Nat → Option St := fun q s =>
  if q = p ∧ s = t then (if last then none else (C p t).map fun S => ⟨S.ttl, fun x => if x = c then none else S.g x⟩) else C q s
set_option maxRecDepth 5000 in
theorem Of.drop {L : List R} {C : List (List UInt8) → Nat → Option St} (h : Of L C) (p : List (List UInt8)) (t : Nat) (c : List UInt8) (last : Bool) (hl : ∀ S, C p t = some S → (last = true ↔ ∀ x, x ≠ c → S.g x = none)) (hs : (C p t).isSome) : Of (drop L p t c) (cdel C p t c last) := by
  obtain ⟨S0, hS0⟩ := Option.isSome_iff_exists.1 hs
  have hl0 := hl S0 hS0
  have key : ∀ q s, ¬ (q = p ∧ s = t) → cdel C p t c last q s = C q s := fun q s e => by unfold cdel; rw [if_neg e]
  have at1 : cdel C p t c last p t = if last then none else some ⟨S0.ttl, fun x => if x = c then none else S0.g x⟩ := by unfold cdel; rw [if_pos ⟨rfl, rfl⟩, hS0]; rfl
  refine ⟨fun q s hC x hx => ?_, fun q s S hC => ?_, fun x hx S hC => ?_, fun q s S c' d hC hg => ?_⟩
  · obtain ⟨hx1, hx2⟩ := mem_drop.1 hx
    by_cases e : q = p ∧ s = t
    · obtain ⟨rfl, rfl⟩ := e
      rw [at1] at hC
      rintro ⟨rfl, rfl⟩
      cases last with
      | false => cases hC
      | true =>
        have h2 := (h.at_ x hx1 S0 hS0).2
        by_cases ec : x.c = c
        · exact hx2 ⟨rfl, rfl, ec⟩
        · rw [hl0.1 rfl x.c ec] at h2; cases h2
    · rw [key q s e] at hC
      exact h.no q s hC x hx1
  · by_cases e : q = p ∧ s = t
    · obtain ⟨rfl, rfl⟩ := e
      rw [at1] at hC
      cases last with
      | true => cases hC
      | false =>
        have h1 : ¬ ∀ x, x ≠ c → S0.g x = none := fun h2 => by have := hl0.2 h2; cases this
        refine Classical.byContradiction fun hn => h1 fun x hxc => ?_
        cases hg : S0.g x with
        | none => rfl
        | some d =>
          obtain ⟨y, hy, h2, h3, h4, _⟩ := h.back q s S0 x d hS0 hg
          exact absurd ⟨y, mem_drop.2 ⟨hy, fun e2 => hxc (h4 ▸ e2.2.2)⟩, h2, h3⟩ hn
    · rw [key q s e] at hC
      obtain ⟨x, hx, h1, h2⟩ := h.ex q s S hC
      exact ⟨x, mem_drop.2 ⟨hx, fun e2 => e ⟨by rw [← h1, e2.1], by rw [← h2, e2.2.1]⟩⟩, h1, h2⟩
  · obtain ⟨hx1, hx2⟩ := mem_drop.1 hx
    by_cases e : x.p = p ∧ x.t = t
    · rw [e.1, e.2, at1] at hC
      cases last with
      | true => cases hC
      | false =>
        injection hC with hC; subst hC
        have h2 := h.at_ x hx1 S0 (by rw [e.1, e.2]; exact hS0)
        refine ⟨h2.1, ?_⟩
        show (if x.c = c then none else S0.g x.c) = some x.d
        rw [if_neg (fun ec => hx2 ⟨e.1, e.2, ec⟩)]; exact h2.2
    · rw [key _ _ e] at hC
      exact h.at_ x hx1 S hC
  · by_cases e : q = p ∧ s = t
    · obtain ⟨rfl, rfl⟩ := e
      rw [at1] at hC
      cases last with
      | true => cases hC
      | false =>
        injection hC with hC; subst hC
        have hg' : (if c' = c then none else S0.g c') = some d := hg
        by_cases ec : c' = c
        · rw [if_pos ec] at hg'; cases hg'
        · rw [if_neg ec] at hg'
          obtain ⟨x, hx, h1, h2, h3, h4⟩ := h.back q s S0 c' d hS0 hg'
          exact ⟨x, mem_drop.2 ⟨hx, fun e2 => ec (h3 ▸ e2.2.2)⟩, h1, h2, h3, h4⟩
    · rw [key q s e] at hC
      obtain ⟨x, hx, h1, h2, h3, h4⟩ := h.back q s S c' d hC hg
      exact ⟨x, mem_drop.2 ⟨hx, fun e2 => e ⟨by rw [← h1, e2.1], by rw [← h2, e2.2.1]⟩⟩, h1, h2, h3, h4⟩
/- without the set of the type t, or of all types -/
set_option maxRecDepth 5000 in
theorem Of.dropSet {L : List R} {C C' : List (List UInt8) → Nat → Option St} (h : Of L C) (p : List (List UInt8)) (t : Nat) (h1 : ∀ s, t = 255 ∨ s = t → C' p s = none) (h2 : ∀ q s, ¬ (q = p ∧ (t = 255 ∨ s = t)) → C' q s = C q s) : Of (dropSet L p t) C' := by
  have off : ∀ {q s}, (C' q s).isSome → ¬ (q = p ∧ (t = 255 ∨ s = t)) := fun {q s} hS e => by
    rw [e.1, h1 s e.2] at hS; cases hS
  refine ⟨fun q s hC x hx => ?_, fun q s S hC => ?_, fun x hx S hC => ?_, fun q s S c d hC hg => ?_⟩
  · obtain ⟨hx1, hx2⟩ := mem_dropSet.1 hx
    rintro ⟨rfl, rfl⟩
    rw [h2 _ _ hx2] at hC
    exact h.no _ _ hC x hx1 ⟨rfl, rfl⟩
  · have ho := off (q := q) (s := s) (by rw [hC]; rfl)
    rw [h2 _ _ ho] at hC
    obtain ⟨x, hx, e1, e2⟩ := h.ex q s S hC
    exact ⟨x, mem_dropSet.2 ⟨hx, by rw [e1, e2]; exact ho⟩, e1, e2⟩
  · obtain ⟨hx1, hx2⟩ := mem_dropSet.1 hx
    rw [h2 _ _ hx2] at hC
    exact h.at_ x hx1 S hC
  · have ho := off (q := q) (s := s) (by rw [hC]; rfl)
    rw [h2 _ _ ho] at hC
    obtain ⟨x, hx, e1, e2, e3, e4⟩ := h.back q s S c d hC hg
    exact ⟨x, mem_dropSet.2 ⟨hx, by rw [e1, e2]; exact ho⟩, e1, e2, e3, e4⟩
end Z
end Go.Proofs.YtdldaphkiphpnaaGreat
