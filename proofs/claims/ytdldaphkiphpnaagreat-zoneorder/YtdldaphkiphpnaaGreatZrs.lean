/- Names, plain: the labels below a path; what a zone's tree says of its names. -/
import Derived.Test.YtdldaphkiphpnaaGreatZdm
import Derived.Test.YtdldaphkiphpnaaGreatApn
import Derived.Deep.Cut
import Derived.Test.YtdldaphkiphpnaaGreatZse
import Derived.Test.YtdldaphkiphpnaaGreatRefG
import Derived.Deep.RegionHeld3
namespace Go.Proofs.YtdldaphkiphpnaaGreat
open Go.RowKit
namespace Z
set_option maxRecDepth 5000 in
theorem plt_head {l m : List UInt8} {a b : List (List UInt8)} (hl : N.lowL l = l) (hm : N.lowL m = m) (h : plt (l :: a) (m :: b)) : l < m ∨ l = m := by
  by_cases h1 : N.cmpB l m < 0
  · exact Or.inl ((lt_cmpB l m).2 h1)
  · by_cases h2 : N.cmpB l m = 0
    · exact Or.inr (N.cmpB_zero.1 h2)
    · have h3 := N.cmpB_neg l m
      exact absurd (plt_cons b a hm hl ((lt_cmpB m l).2 (by omega))) (plt_asy _ _ h)
def labs (P : List (List (List UInt8))) (p : List (List UInt8)) : List (List UInt8) := ((under P p).filterMap (fun q => q[p.length]?)).foldl dd1 []
set_option maxRecDepth 5000 in
theorem under_get {P : List (List (List UInt8))} {p q : List (List UInt8)} (h : q ∈ under P p) {l : List UInt8} (hl : q[p.length]? = some l) : ∃ r, q = p ++ l :: r := by
  obtain ⟨r, hr⟩ := (mem_under.1 h).2
  subst hr
  rw [List.getElem?_append_right (Nat.le_refl _), Nat.sub_self] at hl
  cases r with
  | nil => cases hl
  | cons a r => simp at hl; subst hl; exact ⟨r, rfl⟩
set_option maxRecDepth 5000 in
theorem labs_spec {P : List (List (List UInt8))} (hP : P.Pairwise plt) (hw : ∀ q ∈ P, Low q) (p : List (List UInt8)) : (labs P p).Pairwise (· < ·) ∧ ∀ l, l ∈ labs P p ↔ ∃ q ∈ P, p ++ [l] <+: q := by
  have hlow : ∀ q l r, q ∈ P → q = p ++ l :: r → N.lowL l = l := fun q l r hq e => by
    have := hw q hq
    rw [e] at this
    exact (Low.cons (Low.app.1 this).2).1
  have h0 : ((under P p).filterMap (fun q => q[p.length]?)).Pairwise (fun a b => a < b ∨ a = b) := by
    rw [List.pairwise_filterMap]
    have hu : (under P p).Pairwise plt := hP.filter _
    refine hu.imp_of_mem fun {q q'} hq hq' hpl l hl m hm => ?_
    obtain ⟨r, e⟩ := under_get hq hl
    obtain ⟨s, e'⟩ := under_get hq' hm
    rw [e, e', plt_app] at hpl
    exact plt_head (hlow q l r (mem_under.1 hq).1 e) (hlow q' m s (mem_under.1 hq').1 e') hpl
  obtain ⟨h1, h2⟩ := dd_spec (r := fun a b : List UInt8 => a < b) blt_irr blt_asy _ [] (by simpa using h0) List.Pairwise.nil
  refine ⟨h1, fun l => ?_⟩
  unfold labs
  rw [h2 l]
  constructor
  · rintro (h | h)
    · cases h
    · obtain ⟨q, hq, hl⟩ := List.mem_filterMap.1 h
      obtain ⟨r, e⟩ := under_get hq hl
      exact ⟨q, (mem_under.1 hq).1, r, by rw [e]; simp⟩
  · rintro ⟨q, hq, r, e⟩
    refine Or.inr (List.mem_filterMap.2 ⟨q, mem_under.2 ⟨hq, [l] ++ r, by rw [← e]; simp⟩, ?_⟩)
    rw [← e]; simp
/- names at and below a path, up to the j-th label -/
set_option maxRecDepth 5000 in
theorem under_take {P : List (List (List UInt8))} (hP : P.Pairwise plt) (hw : ∀ q ∈ P, Low q) (p : List (List UInt8)) : under P p = (if p ∈ P then [p] else []) ++ (labs P p).flatMap (fun l => under P (p ++ [l])) :=
  under_step hP hw p _ (labs_spec hP hw p).1 (labs_spec hP hw p).2
def upto (P : List (List (List UInt8))) (p : List (List UInt8)) (j : Nat) : List (List (List UInt8)) := ((if p ∈ P then [p] else []) ++ ((labs P p).take j).flatMap (fun l => under P (p ++ [l]))).map List.reverse
set_option maxRecDepth 5000 in
theorem upto_succ (P : List (List (List UInt8))) (p : List (List UInt8)) (j : Nat) (hj : j < (labs P p).length) : upto P p (j + 1) = upto P p j ++ (under P (p ++ [(labs P p).getD j []])).map List.reverse := by
  unfold upto
  rw [N.take_nextN _ j hj, List.flatMap_append, ← List.append_assoc, List.map_append]
  congr 1
  rw [List.flatMap_cons, List.flatMap_nil, List.append_nil]
set_option maxRecDepth 5000 in
theorem upto_all {P : List (List (List UInt8))} (hP : P.Pairwise plt) (hw : ∀ q ∈ P, Low q) (p : List (List UInt8)) : upto P p (labs P p).length = (under P p).map List.reverse := by
  unfold upto
  rw [List.take_length, ← under_take hP hw p]
set_option maxRecDepth 5000 in
theorem under_len (P : List (List (List UInt8))) (p : List (List UInt8)) : (under P p).length ≤ P.length := List.length_filter_le _ _
set_option maxRecDepth 5000 in
theorem upto_len {P : List (List (List UInt8))} (hP : P.Pairwise plt) (hw : ∀ q ∈ P, Low q) (p : List (List UInt8)) (j : Nat) : (upto P p j).length ≤ P.length := by
  have h1 : (under P p).length ≤ P.length := under_len P p
  have h2 : (upto P p j).length ≤ (under P p).length := by
    rw [under_take hP hw p]
    unfold upto
    rw [List.length_map, List.length_append, List.length_append]
    have : ((labs P p).flatMap (fun l => under P (p ++ [l]))).length = (((labs P p).take j).flatMap (fun l => under P (p ++ [l]))).length + (((labs P p).drop j).flatMap (fun l => under P (p ++ [l]))).length := by
      rw [← List.length_append, ← List.flatMap_append, List.take_append_drop]
    omega
  omega
set_option maxRecDepth 5000 in
theorem dd_sub : ∀ (l acc : List (List (List UInt8))), (l.foldl dd1 acc).length ≤ acc.length + l.length
  | [], acc => by simp
  | a :: l, acc => by
    rw [List.foldl_cons]
    have := dd_sub l (dd1 acc a)
    have h2 : (dd1 acc a).length ≤ acc.length + 1 := by unfold dd1; split <;> simp
    rw [List.length_cons]; omega
set_option maxRecDepth 5000 in
theorem paths_len (L : List R) : (paths L).length ≤ L.length := by
  have := dd_sub (L.map (·.p)) []
  rw [List.length_map] at this
  simpa [paths] using this
end Z
/- what a tree says of the names, which are P -/
structure PL (G : List (List UInt8) → Option Nd) (C : List (List UInt8) → Nat → Option Z.St) (P : List (List (List UInt8))) : Prop where
  kid : ∀ p l, (G (p ++ [l])).isSome ↔ ∃ q ∈ P, p ++ [l] <+: q
  own : ∀ p, p ∈ P ↔ ∃ t, (C p t).isSome
  deep : ∀ p, (G p).isSome → p.length ≤ 128
  rise : P.Pairwise Z.plt
  low : ∀ q ∈ P, Z.Low q
  num : P.length ≤ 2000
set_option maxRecDepth 5000 in
theorem ZAt.pl {w : World} {Zb : Nat} {A : List (List UInt8)} {L : List Z.R} {ρ : Nat → Role} {G : List (List UInt8) → Option Nd} {C : List (List UInt8) → Nat → Option Z.St} {K : Nat} (h : ZAt w Zb A L ρ G C K) : PL G C (Z.paths L) := by
  obtain ⟨h1, h2⟩ := Z.paths_rise h.rise h.lows
  refine ⟨fun p l => ⟨fun hg => ?_, ?_⟩, fun p => ⟨fun hp => ?_, ?_⟩, fun p hp => ?_, h1, fun q hq => ?_, Nat.le_trans (Z.paths_len L) h.num⟩
  · rcases h.cov _ hg with h3 | ⟨x, hx, h3⟩
    · simp at h3
    · exact ⟨x.p, (h2 x.p).2 ⟨x, hx, rfl⟩, h3⟩
  · rintro ⟨q, hq, r, e⟩
    obtain ⟨x, hx, rfl⟩ := (h2 q).1 hq
    obtain ⟨S, hS⟩ := h.of.hasS hx
    have := (h.tree.cov _ _ _ hS).1
    rw [← e] at this
    exact h.tree.pre r _ this
  · obtain ⟨x, hx, rfl⟩ := (h2 p).1 hp
    obtain ⟨S, hS⟩ := h.of.hasS hx
    exact ⟨x.t, by rw [hS]; rfl⟩
  · rintro ⟨t, ht⟩
    obtain ⟨x, hx, e, _⟩ := (h.of.isSome p t).1 ht
    exact (h2 p).2 ⟨x, hx, e⟩
  · rcases h.cov p hp with h3 | ⟨x, hx, h3⟩
    · rw [h3]; simp
    · exact Nat.le_trans h3.length_le (h.okk x hx).2.2.2.2
  · obtain ⟨x, hx, rfl⟩ := (h2 q).1 hq
    exact h.lows x hx
end Go.Proofs.YtdldaphkiphpnaaGreat

/- names of a node: those at and below it at which a record stands. -/
namespace Go.Proofs.YtdldaphkiphpnaaGreat
open Go.RowKit
/- a name in a list, nil where it has no label -/
def EM (w : World) (n : List (List UInt8)) (us : List Value) : Prop := ∃ a c, us = [.slice a n.length c] ∧ TyS w a n ∧ (a = none → c = 0) ∧ n.length ≤ c ∧ (n = [] → a = none)
set_option maxRecDepth 5000 in
theorem EM.kb {w w' : World} {n : List (List UInt8)} {us : List Value} (h : EM w n us) (k : KB w w') : EM w' n us := by
  obtain ⟨a, c, h1, h2, h3⟩ := h; exact ⟨a, c, h1, h2.kb k, h3⟩
set_option maxRecDepth 5000 in
theorem setsN {w : World} {ρ : Nat → Role} {G : List (List UInt8) → Option Nd} {C : List (List UInt8) → Nat → Option Z.St} {K : Nat} {P : List (List (List UInt8))} (H : PL G C P) (T : TreeAt w ρ G C K) {p : List (List UInt8)} {x : Nd} (hx : G p = some x) :
    ∃ c0 : Nat, (Builtin.len_ #[93] 3 #[.map (some x.s)]).run Tryz.prog w = .ok (.int .i64 (c0 : Int)) w ∧ (0 < c0 ↔ p ∈ P) := by
  obtain ⟨c0, h1, _, h2⟩ := (T.node p x hx).sets.none_len keyedH Tryz.underlying93 3
  refine ⟨c0, h1, ?_⟩
  rw [H.own p]
  constructor
  · intro hc
    refine Classical.byContradiction fun hn => ?_
    have : c0 = 0 := h2.2 fun k => by
      cases hk : fU (fun t => (C p t).map fun S => setV S (x.dm t)) k with
      | none => rfl
      | some v =>
        obtain ⟨t, ht, rfl⟩ := fU_some (by rw [hk]; rfl)
        rw [fU_at _ t ht] at hk
        exact absurd ⟨t, by cases hC : C p t with
          | none => rw [hC] at hk; cases hk
          | some S => rfl⟩ hn
    omega
  · rintro ⟨t, ht⟩
    refine Nat.pos_of_ne_zero fun h0 => ?_
    obtain ⟨S, hS⟩ := Option.isSome_iff_exists.1 ht
    have h3 := h2.1 h0 (.int .u16 (t : Int))
    rw [fU_at _ t (T.cov p t S hS).2, hS] at h3
    cases h3
set_option maxRecDepth 5000 in
theorem NodeIs.kid {w : World} {G : List (List UInt8) → Option Nd} {C : List (List UInt8) → Nat → Option Z.St} {K : Nat} {p : List (List UInt8)} {x : Nd} (h : NodeIs w G C K p x) {l : List UInt8} {y : Nd} (hy : G (p ++ [l]) = some y) :
    (Instr.lookup 94 (.map (some x.b)) (.string ⟨l.toArray⟩) false).run Tryz.prog w = .ok (.pointer (some ⟨y.n, 0, none⟩)) w := by
  have h1 : fS (fun l => (G (p ++ [l])).map fun y => ptr y.n) (.string l) = some (ptr y.n) := by
    show (G (p ++ [l])).map (fun y => ptr y.n) = _
    rw [hy]; rfl
  obtain ⟨v0, hv0⟩ := MapAt.key h.below (x := .string l) (by rw [h1]; rfl)
  obtain ⟨s, _, e, hs⟩ := Maps.keyOf_str Tryz.underlying9 hv0
  injection e with e; subst e
  have hk : keyOf Tryz.prog 9 (.string ⟨l.toArray⟩) = some (.string l) := by
    have h := WideMaps.keyOf_string_mk (P := Tryz.prog) Tryz.underlying9 (s := ⟨l.toArray⟩) (by show l.toArray.size ≤ maxLen; simpa using hs)
    simpa using h
  have h2 := MapAt.get h.below keyedS Tryz.underlying94 (Tryz.zeroValue80 w) hk
  rw [h1] at h2
  exact h2
set_option maxRecDepth 100000 in
set_option maxHeartbeats 1500000 in
theorem names_any {P : List (List (List UInt8))} {G : List (List UInt8) → Option Nd} {C : List (List UInt8) → Nat → Option Z.St} (H : PL G C P) (K : Nat) (hK : K ≤ 1000000) : ∀ (d : Nat) (w : World) (ρ : Nat → Role) (_ : TreeAt w ρ G C K) (p : List (List UInt8)) (x : Nd) (_ : G p = some x) (_ : 128 < p.length + d) (n : List (List UInt8)) (_ : Hid (n = p.reverse)) (ao : Option Addr) (len cap : Nat) (_ : Hid (n.length = len)) (_ : TyS w ao n) (_ : ao = none → cap = 0) (_ : len ≤ cap) (_ : n = [] → ao = none),
    Calls Tryz.prog 49 #[.pointer (some ⟨x.n, 0, none⟩), .slice ao len cap] w fun e w' => ∃ v, e = .returned v ∧ OwnL 28 1 EM w' w.heap.size v ((Z.under P p).map List.reverse) ∧ Below w.heap.size w w'
  | 0, w, ρ, T, p, x, hx, hd, n, hn, ao, len, cap, hl, hs, h1, h2, h3 => by
    have := H.deep p (by rw [hx]; rfl)
    omega
  | d + 1, w, ρ, T, p, x, hx, hd, n, hn, ao, len, cap, hl, hs, h1, h2, h3 => by
    have ih := names_any H K hK d
    obtain ⟨c0, hln, hpos⟩ := setsN H T hx
    have N0 := T.node p x hx
    have x0 : w.cell? ⟨x.n, 0, none⟩ = some (.map (some x.s)) := N0.row.cell 0
    obtain ⟨hlab, hlm⟩ := Z.labs_spec H.rise H.low p
    obtain ⟨m, hm⟩ : ∃ m, m = (Z.labs P p).length := ⟨_, rfl⟩
    have hkey : ∀ l, l ∈ Z.labs P p ↔ (fS (fun l => (G (p ++ [l])).map fun y => ptr y.n) (.string l)).isSome := fun l => by
      rw [hlm l, ← H.kid p l]
      show _ ↔ ((G (p ++ [l])).map fun y => ptr y.n).isSome = true
      simp
    have hmK : m ≤ K := by
      have hinj : ∀ a b : List UInt8, Lit.string a = Lit.string b → a = b := fun a b e => by injection e
      have h4 := N0.below.le keyedS ((Z.labs P p).map Lit.string) (by
        unfold List.Nodup
        rw [List.pairwise_map]
        exact (asc_nodup hlab).imp fun {a b} hab e => hab (hinj a b e)) (fun k => by
        rw [List.mem_map]
        constructor
        · rintro ⟨l, hl, rfl⟩; exact (hkey l).1 hl
        · intro hk
          obtain ⟨s, rfl⟩ := fS_some hk
          exact ⟨s, (hkey s).2 hk, rfl⟩)
      rw [List.length_map] at h4
      omega
    have hup0 : Z.upto P p 0 = if p ∈ P then [n] else [] := by
      unfold Z.upto
      rw [hn.out]
      by_cases hp : p ∈ P
      · simp [hp]
      · simp [hp]
    have hlb : len ≤ 128 := by
      have h4 := H.deep p (by rw [hx]; rfl)
      have h5 := hl.out
      rw [hn.out, List.length_reverse] at h5
      omega
    have HT := hide T
    have HX := hide hx
    have HS := hide hs
    have HN0 := hide N0
    have HPOS := hide hpos
    have HIH := hide ih
    have HLAB := hide hlab
    have HKEY := hide hkey
    have HM := hide hm
    have HUP := hide hup0
    have H3 := hide h3
    have HD := hide hd
    have HLM := hide hlm
    clear T hx hs N0 hpos ih hlab hkey hm hup0 h3 hd hlm
    go_enter Tryz.func49, Tryz.ntmps49
    go_upto_if 14 with fail
    go_cut [5] from 9 (fun v wc => OwnL 28 1 EM wc w.heap.size v (Z.upto P p 0) ∧ Below w.heap.size w wc)
    case first =>
      by_cases hp : p ∈ P
      · have hcb : ((0 : Int) < (c0 : Int)) := by have := HPOS.out.2 hp; omega
        go_wp2_with (at_builtin; go_loud (refine wpList_appL rfl (.tmp 15) (.tmp 17) 46 rfl Tryz.underlying46 (.slice none 0 0) 24 (info_parts infoNs) rfl (by decide) (by decide) (by decide) w.heap.size (.slice none 0 0) ([] : List (List (List UInt8))) rfl (OwnL.nil 28 1 EM _ _) ⟨w.heap.size, 0, none⟩ 1 n [.slice ao len cap] rfl (cell_one_new _ _ _) rfl (by simp [Value.oneCell']) ⟨ao, cap, by rw [hl.out], HS.out.kb (KB.alloc _ _), h1, by rw [hl.out]; exact h2, H3.out⟩ (fun _ _ _ k h => h.kb k) (by simp) (by simp) ?_); intro v5 w5 hO5 hG5 hK5 hB5)
        go_meet
        refine ⟨?_, ((Below.refl _ w).alloc (Nat.le_refl _) _).trans hB5⟩
        rw [HUP.out, if_pos hp]; exact hO5
      · have h0 : ¬ 0 < c0 := fun h => hp (HPOS.out.1 h)
        have hcb : decide ((0 : Int) < (c0 : Int)) = false := by simp; omega
        have hcc : ¬ (0 : Int) < (c0 : Int) := by omega
        go_wp2
        go_meet
        refine ⟨?_, Below.refl _ _⟩
        rw [HUP.out, if_neg hp]; exact OwnL.nil _ _ _ _ _
    case rest =>
      obtain ⟨hO, hB⟩ := hcut
      have NC := HN0.out.keep (K' := K) (w' := wc) (fun _ _ h => h.below hB (Nat.le_refl _)) (Nat.le_refl _) (fun _ => rfl) (fun _ => rfl) (hB.block _ HN0.out.row.lt) (hB.block _ HN0.out.sets.lt) (hB.block _ HN0.out.below.lt) (fun t S hS => by obtain ⟨f, h, _⟩ := HN0.out.data t S hS; exact hB.block _ h.lt)
      have y1 : wc.cell? ⟨x.n, 1, none⟩ = some (.map (some x.b)) := NC.row.cell 1
      have HNC := hide NC
      have HO := hide hO
      have HB := hide hB
      clear NC hO hB
      go_wp2_with (first
        | (go_at_call 77; refine (keysN_any (some x.b) wc).mono ?_; rintro e w2 ⟨rfl, hw2⟩; rw [hw2]; clear hw2 w2)
        | (go_at_call 76; refine (sortedN_any wc x.b K _ HNC.out.below hK (Z.labs P p) HLAB.out HKEY.out).mono ?_; rintro e w3 ⟨v3, rfl, hv3, hb3⟩; obtain ⟨a3, c3, rfl, hs3, _, _⟩ := hv3.ty; rw [← HM.out]; clear hv3))
      have hbc3 : Below wc.heap.size wc w3 := ((Below.refl _ wc).alloc (Nat.le_refl _) _).trans (hb3.mono (Nat.le_succ _))
      have hb03 : Below w.heap.size w w3 := HB.out.trans (hbc3.mono HB.out.size)
      have hO3 := HO.out.bel (fun _ _ h => h.kb (KB.of_below hbc3)) hbc3
      clear hb3 hbc3
      go_loopw [5, 26] (fun v i wr => ∃ j : Nat, i = .int .i64 (j : Int) ∧ j ≤ m ∧ OwnL 28 1 EM wr w.heap.size v (Z.upto P p j) ∧ Below w.heap.size w wr ∧ TyS wr a3 (Z.labs P p)) (fun _ i _ => m - (intOf i).toNat)
      case atStart => exact ⟨0, rfl, by omega, hO3, hb03, hs3⟩
      case round =>
        obtain ⟨j, rfl, hj, hO, hB, hT⟩ := hrel
        have hz := hB.size
        by_cases hlt : j < m
        · have hjk : j < (Z.labs P p).length := by have := HM.out; omega
          obtain ⟨b1, o1, rfl, _, hc1⟩ := hT.1 (by omega)
          have hcx := hc1 j hjk
          have hd1 := Z.upto_succ P p j hjk
          have hmem : (Z.labs P p).getD j [] ∈ Z.labs P p := by rw [List.getD_eq_getElem?_getD, List.getElem?_eq_getElem hjk]; exact List.getElem_mem hjk
          obtain ⟨key, hkk⟩ : ∃ key, key = (Z.labs P p).getD j [] := ⟨_, rfl⟩
          rw [← hkk] at hcx hd1 hmem
          obtain ⟨y, hy⟩ := Option.isSome_iff_exists.1 ((H.kid p key).2 ((HLM.out key).1 hmem))
          have NR : NodeIs wr G C K p x := HN0.out.keep (K' := K) (w' := wr) (fun _ _ h => h.below hB (Nat.le_refl _)) (Nat.le_refl _) (fun _ => rfl) (fun _ => rfl) (hB.block _ HN0.out.row.lt) (hB.block _ HN0.out.sets.lt) (hB.block _ HN0.out.below.lt) (fun t S hS => by obtain ⟨f, h, _⟩ := HN0.out.data t S hS; exact hB.block _ h.lt)
          have hlen1 := Z.upto_len H.rise H.low p j
          have hlen2 := Z.under_len P (p ++ [key])
          have hnum := H.num
          obtain ⟨n5, hn5⟩ : ∃ n5, n5 = [key] ++ n := ⟨_, rfl⟩
          have hn5l : n5.length = len + 1 := by rw [hn5]; simp [hl.out]
          have hn5r : n5 = (p ++ [key]).reverse := by rw [hn5, hn.out]; simp
          have HO := hide hO
          have HB1 := hide hB
          have HT1 := hide hT
          have HNR := hide NR
          have HY := hide hy
          have HD1 := hide hd1
          have HN5 := hide hn5
          have HN5R := hide hn5r
          have HN5L := hide hn5l
          clear hO hB hT NR hy hd1 hn5 hn5r hn5l hc1 hmem hkk
          go_wp2_with (first
            | (at_builtin; refine wpList_append_SN rfl (.tmp 31) (.tmp 32) rfl wr.heap.size (.slice (some ⟨wr.heap.size, 0, none⟩) 1 1) [key] rfl (OwnS.lit wr [key] _ _ (Nat.le_refl _) rfl (by simp) 1 rfl) ao len cap n rfl hl.out (((HS.out.kb (KB.of_below HB1.out)).kb (KB.alloc _ _)).1) h1 (by simp; omega) (by simp) ?_; intro v5 w5 hO5 hG5; have hb5 := grown_belowS (OwnS.lit wr [key] _ _ (Nat.le_refl _) rfl (by simp) 1 rfl) hG5 ((Below.refl _ wr).alloc (Nat.le_refl _) _) (by simp); rw [← HN5.out] at hO5; obtain ⟨a5, c5, hv5, hs5, hn5, hc5⟩ := hO5.ty; rw [HN5L.out] at hv5 hc5; subst hv5; have hb05 := HB1.out.trans (hb5.mono HB1.out.size); have N5 := (HT.out.below_ hb05).node p x HX.out; have z1 : w5.cell? ⟨x.n, 1, none⟩ = some (.map (some x.b)) := N5.row.cell 1; have hlk := N5.kid HY.out; have HB5 := hide hb5; have HB05 := hide hb05; have HO5 := hide hO5; clear hO5 hG5 N5 hb5 hb05)
            | (go_at_call 49; refine (HIH.out w5 ρ (HT.out.below_ HB05.out) (p ++ [key]) y HY.out (by have := HD.out; simp; omega) n5 HN5R a5 (len + 1) c5 HN5L hs5 hn5 hc5 (fun h => absurd h (by rw [HN5.out]; simp))).mono ?_; rintro e w6 ⟨v6, rfl, hO6, hb6⟩; have hb56 := HB5.out.trans (hb6.mono HB5.out.size))
            | (at_builtin; go_loud (refine wpList_appLL rfl (.tmp 34) (.tmp 42) 46 rfl Tryz.underlying46 (.slice none 0 0) 24 (info_parts infoNs) rfl (by decide) (by decide) (by decide) w.heap.size _ (Z.upto P p j) rfl (HO.out.bel (fun _ _ h => h.kb (KB.of_below hb56)) hb56) w5.heap.size v6 ((Z.under P (p ++ [key])).map List.reverse) rfl hO6 (fun _ _ _ k h => h.kb k) (by rw [List.length_map]; omega) (by have := hb56.size; omega) ?_); intro v7 w7 hO7 hG7 hK7 hB7)
            | fail)
          go_roundw
          case rel =>
            refine ⟨j + 1, by go_num, by omega, by rw [HD1.out]; exact hO7, HB1.out.trans ((hb56.mono hz).trans hB7), (HT1.out.kb (KB.of_below hb56)).kb hK7⟩
          case measure => simp [intOf]; omega
        · obtain rfl : j = m := by omega
          go_wp2
          go_ret
          refine ⟨_, rfl, ?_, hB⟩
          rw [HM.out, Z.upto_all H.rise H.low p] at hO
          exact hO
end Go.Proofs.YtdldaphkiphpnaaGreat

/- Names, Records: first part (plain; lists of records in memory). -/
namespace Go.Proofs.YtdldaphkiphpnaaGreat
open Go.RowKit
namespace Z
set_option maxRecDepth 5000 in
theorem flat_pre {α β : Type} (f : α → List β) (l : List α) (k : Nat) (hk : k < l.length) {X : List β} (hX : X <+: f l[k]) : (l.take k).flatMap f ++ X <+: l.flatMap f := by
  have e : l.flatMap f = (l.take k).flatMap f ++ (f l[k] ++ (l.drop (k + 1)).flatMap f) := by
    rw [← List.flatMap_cons, ← List.drop_eq_getElem_cons hk, ← List.flatMap_append, List.take_append_drop]
  rw [e, List.prefix_append_right_inj]
  exact hX.trans (List.prefix_append _ _)
set_option maxRecDepth 5000 in
theorem flat_succ {α β : Type} (f : α → List β) (l : List α) (k : Nat) (hk : k < l.length) : (l.take (k + 1)).flatMap f = (l.take k).flatMap f ++ f l[k] := by
  rw [List.take_succ_eq_append_getElem hk, List.flatMap_append, List.flatMap_cons, List.flatMap_nil, List.append_nil]
/- the records of a name -/
def recsAt (L : List R) (p : List (List UInt8)) : List R := (typesAt L p).flatMap (fun t => setAt L p t)
end Z
/- a record in memory -/
def ER (w : World) (r : Z.R) (us : List Value) : Prop := ∃ na nc da dc, us = [.slice na r.p.length nc, .int .u16 (r.t : Int), .int .u16 1, .int .u32 (r.ttl : Int), .slice da r.d.length dc] ∧ TyS w na r.p.reverse ∧ r.p.length ≤ nc ∧ (na = none → nc = 0) ∧ TyL w da r.d ∧ (da = none → dc = 0) ∧ r.d.length ≤ dc
set_option maxRecDepth 5000 in
theorem ER.kb {w w' : World} {r : Z.R} {us : List Value} (h : ER w r us) (k : KB w w') : ER w' r us := by
  obtain ⟨na, nc, da, dc, h1, h2, h3, h4, h5, h6, h7⟩ := h
  exact ⟨na, nc, da, dc, h1, h2.kb k, h3, h4, h5.kb k, h6, h7⟩
/- all rows but of the type et are as they were -/
structure KX (et0 : TypeId) (w w' : World) : Prop where
  size : w.heap.size ≤ w'.heap.size
  rows : ∀ (g : Nat) (c : Array Value) (et : TypeId) (fr : Nat × Nat), w.heap[g]? = some (Obj.cells c et fr) → et ≠ et0 → w'.heap[g]? = some (Obj.cells c et fr)
set_option maxRecDepth 5000 in
theorem KX.refl (et0 : TypeId) (w : World) : KX et0 w w := ⟨Nat.le_refl _, fun _ _ _ _ h _ => h⟩
set_option maxRecDepth 5000 in
theorem KX.trans {et0 : TypeId} {a b c : World} (h : KX et0 a b) (k : KX et0 b c) : KX et0 a c := ⟨Nat.le_trans h.size k.size, fun g x et fr hg he => k.rows g x et fr (h.rows g x et fr hg he) he⟩
set_option maxRecDepth 5000 in
theorem KX.of_below {et0 : TypeId} {w w' : World} (h : Below w.heap.size w w') : KX et0 w w' := ⟨h.size, fun g _ _ _ hg _ => (h.block g (Array.getElem?_eq_some_iff.1 hg).1).trans hg⟩
set_option maxRecDepth 5000 in
theorem KX.grown {w w' : World} {base size k : Nat} {e : TypeId} {v : Value} {xs : List Value} (hv : w.ownsRow base e size v k xs) (hg : w.grownBy w' v.ownBlock) : KX e w w' := ⟨hg.size, fun g c et fr hb het => by
  refine (hg.block g (Array.getElem?_eq_some_iff.1 hb).1 (not_own hv hb het)).trans hb⟩
set_option maxRecDepth 5000 in
theorem KX.kb {et0 : TypeId} {w w' : World} (h : KX et0 w w') (h1 : et0 ≠ 5 ∧ et0 ≠ 9) : KB w w' := ⟨h.size, fun g c et fr hg he => h.rows g c et fr hg (fun e => by rcases he with rfl | rfl; exact h1.1 e.symm; exact h1.2 e.symm)⟩
set_option maxRecDepth 5000 in
theorem KX.row {et0 : TypeId} {w w' : World} (h : KX et0 w w') {g : Nat} {t : TypeId} {c : Array Value} (hr : RowAt w g t c) (ht : t ≠ et0) : RowAt w' g t c := h.rows g c t _ hr ht
set_option maxRecDepth 5000 in
theorem OwnL.kx {α : Type} {et et0 : TypeId} {sz : Nat} {E : World → α → List Value → Prop} {w w' : World} {base : Nat} {v : Value} {L : List α} (h : OwnL et sz E w base v L) (k : KX et0 w w') (hE : ∀ x us, E w x us → E w' x us) (hne : et ≠ et0) : OwnL et sz E w' base v L :=
  h.kept hE fun g c fr _ hg => (k.rows g c et fr hg hne).trans hg.symm
set_option maxRecDepth 5000 in
theorem OwnH.kx {et0 : TypeId} {w w' : World} {base : Nat} {v : Value} {l : List UInt16} (h : OwnH w base v l) (k : KX et0 w w') (hne : 36 ≠ et0) : OwnH w' base v l := by
  have h0 : w.ownsRow base 36 1 v l.length (vh l) := h
  refine ⟨h0.1, ?_⟩
  rcases h0.2 with h1 | ⟨g, cap, cur, e, h1, h2, h3⟩
  · exact Or.inl h1
  · exact Or.inr ⟨g, cap, cur, e, h1, k.rows _ _ _ _ h2 hne, h3⟩
set_option maxRecDepth 5000 in
theorem infoRc : (Tryz.prog.info? 39).map (fun i => (i.zero, i.size, i.bytes)) = some (some (.agg #[.slice none 0 0, .int .u16 0, .int .u16 0, .int .u32 0, .slice none 0 0]), 5, 56) := by kernel_rfl
set_option maxRecDepth 5000 in
theorem step_appL {α : Type} {et : TypeId} {sz : Nat} {E : World → α → List Value → Prop} {w : World} {ops : Array Oper} {o : Oper} {a : Act} {J : Act → World → Prop} {Q : Exit → Act → World → Prop} {F : Prop} (hgd : o.guard = none) (s x : Operand) (st : TypeId)
    (ho : o.op = .call { callee := .builtin .append, args := #[s, x], argTypes := #[st, st] }) (hu : Tryz.prog.underlying st = some (.slice et)) (z : Value) (bytes : Nat) (hie : ∃ i, Tryz.prog.info? et = some i ∧ i.zero = some z ∧ i.size = sz ∧ i.bytes = bytes) (hzc : z.cells.size = sz) (hsz : 0 < sz) (hby : bytes ≤ 200) (hne : et ≠ 5 ∧ et ≠ 9)
    (base : Nat) (v : Value) (L : List α) (hs : a.eval s = v) (hown : OwnL et sz E w base v L) (ad : Addr) (c : Nat) (y : α) (us : List Value) (hx : a.eval x = .slice (some ad) 1 c) (hr : ∀ j u, us[j]? = some u → w.cell? (ad.add j) = some u) (hlen : us.length = sz) (hone : ∀ u ∈ us, u.oneCell' = true) (hEy : E w y us)
    (hEk : ∀ w' x us, KB w w' → E w x us → E w' x us) (hbound : L.length ≤ 1000000) (hbase : base ≤ w.heap.size)
    (h : ∀ v' w', OwnL et sz E w' base v' (L ++ [y]) → KX et w w' → Below base w w' → J (a.put o.dst v') w') : if Region.wanted o (yielded ops a.tmps) = true then Oper.wp Tryz.prog o a w J Q else F := by
  have hw : Region.wanted o (yielded ops a.tmps) = true := by simp [Region.wanted, hgd]
  rw [if_pos hw]
  obtain ⟨i0, hi, hz0, hz1, hz2⟩ := hie
  obtain ⟨vss, hv, hE⟩ := hown
  have hmul : (L.length + 1) * bytes ≤ 1000001 * 200 := Nat.mul_le_mul (by omega) hby
  obtain ⟨v', w', h1, h2, h3, _⟩ := run_append_own (P := Tryz.prog) w base st o.type et i0 z sz bytes hu hi hz0 hz1 hz2 hzc hsz v L.length vss.flatten hv ad 1 c us (by omega) hr hone (by unfold maxLen; omega) (by omega) hbase
  have hk := KB.grown hv hne h3
  unfold Oper.wp execOp
  simp only [ho, resolve, invoke, builtin, Sem.run_bind, Sem.run_pure, Result.andThen_ok, List.map_toArray, List.map_cons, List.map_nil, hs, hx, h1]
  refine h v' w' ⟨vss ++ [us], ?_, (hE.kb fun x us => hEk w' x us hk).app (Els.one hlen hone (hEk w' y us hk hEy))⟩ (KX.grown hv h3) (owns_below hv h3 hbase)
  rw [List.length_append, List.length_singleton, List.flatten_append, List.flatten_cons, List.flatten_nil, List.append_nil]
  exact h2
set_option maxRecDepth 5000 in
theorem znames_any (w : World) (Zb : Nat) (A : List (List UInt8)) (L : List Z.R) (ρ : Nat → Role) (G : List (List UInt8) → Option Nd) (C : List (List UInt8) → Nat → Option Z.St) (K : Nat) (Zx : ZAt w Zb A L ρ G C K) (hK : K ≤ 1000000) :
    Calls Tryz.prog 18 #[.pointer (some ⟨Zb, 0, none⟩)] w fun e w' => ∃ v, e = .returned v ∧ OwnL 28 1 EM w' w.heap.size v ((Z.paths L).map List.reverse) ∧ Below w.heap.size w w' := by
  obtain ⟨aa, ac, hz, _, _⟩ := Zx.row
  obtain ⟨x, hx⟩ := Option.isSome_iff_exists.1 Zx.tree.root
  have hnn : nodeN G [] = x.n := nodeN_of hx
  rw [hnn] at hz
  have z1 : w.cell? ⟨Zb, 1, none⟩ = some (.pointer (some ⟨x.n, 0, none⟩)) := hz.cell 1
  have hcall := names_any Zx.pl K hK 129 w ρ Zx.tree [] x hx (by omega) [] rfl none 0 0 rfl ⟨fun h => absurd h (by simp), fun a e => (by cases e)⟩ (fun _ => rfl) (Nat.le_refl _) (fun _ => rfl)
  rw [Z.under_nil] at hcall
  clear hz hnn hx Zx
  go_enter Tryz.func18, Tryz.ntmps18
  go_wp2_with (go_at_call 49; refine hcall.mono ?_; rintro e w1 ⟨v, rfl, hO, hB⟩)
  go_ret
  exact ⟨v, rfl, hO, hB⟩
end Go.Proofs.YtdldaphkiphpnaaGreat

/- Records. -/
namespace Go.Proofs.YtdldaphkiphpnaaGreat
open Go.RowKit
/- labels are short -/
def Z.Thin (L : List Z.R) : Prop := ∀ x ∈ L, ∀ l ∈ x.p, l.length ≤ 63
set_option maxRecDepth 5000 in
theorem path_rev {p : List (List UInt8)} (h : Z.Low p) : path p.reverse = p := by
  unfold path
  have e : N.lowN p.reverse = (N.lowN p).reverse := List.map_reverse
  unfold Z.Low at h
  rw [e, h, List.reverse_reverse]
set_option maxRecDepth 5000 in
theorem nclone_two (w : World) (a : Option Addr) (c : Nat) (n : List (List UInt8)) (len : Nat) (hl : Hid (n.length = len)) (h0 : n = [] → a = none) (hl2 : len ≤ 1000000) (hs : SlS w a n) :
    Calls Tryz.prog 48 #[.slice a len c] w fun e w' => ∃ v, e = .returned v ∧ OwnS w' w.heap.size v n ∧ Below w.heap.size w w' := by
  have hl := hl.out
  subst hl
  by_cases e : n = []
  · rw [h0 e]
    refine (nclone_nil w n.length c).mono ?_
    rintro e2 w' ⟨rfl, rfl⟩
    rw [e]
    exact ⟨_, rfl, OwnS.nil _ _, Below.refl _ _⟩
  · exact nclone_any w a c n (List.length_pos_iff.2 e) hl2 hs
set_option maxRecDepth 5000 in
theorem OwnH.at_ {w : World} {base m c : Nat} {a : Option Addr} {l : List UInt16} (h : OwnH w base (.slice a m c) l) (hm : m = l.length) (j : Nat) (hj : j < l.length) : ∃ g, a = some ⟨g, 0, none⟩ ∧ w.cell? ⟨g, j, none⟩ = some (.int .u16 (l.getD j 0).toNat) := by
  have h0 : w.ownsRow base 36 1 (.slice a m c) l.length (vh l) := h
  subst hm
  rcases h0.2 with ⟨h1, h2⟩ | ⟨g, cap, cur, e, h1, h2, h3⟩
  · omega
  · injection e with e1 e2 e3
    subst e1; subst e3
    refine ⟨g, rfl, ?_⟩
    have := (OwnH.sl (g := g) (cap := c) h) (by omega)
    obtain ⟨b, o, e, _, hc⟩ := this
    injection e with e; injection e with e1 e2
    subst e1; subst e2
    have := hc j hj
    rwa [Nat.zero_add] at this
/- where we are -/
structure RIs (w : World) (A1 : Value) (P : List (List (List UInt8))) (v : Value) (M : List Z.R) (wr : World) : Prop where
  out : OwnL 39 5 ER wr w.heap.size v M
  bel : Below w.heap.size w wr
  nms : OwnL 28 1 EM wr w.heap.size A1 (P.map List.reverse)
set_option maxRecDepth 5000 in
theorem RIs.mv {w wr wq : World} {A1 : Value} {P : List (List (List UInt8))} {v : Value} {M : List Z.R} (h : RIs w A1 P v M wr) (hb : Below wr.heap.size wr wq) : RIs w A1 P v M wq :=
  ⟨h.out.bel (fun _ _ h => h.kb (KB.of_below hb)) hb, h.bel.trans (hb.mono h.bel.size), h.nms.bel (fun _ _ h => h.kb (KB.of_below hb)) hb⟩
set_option maxRecDepth 5000 in
theorem RIs.add {w wr wq : World} {A1 : Value} {P : List (List (List UInt8))} {v v' : Value} {M M' : List Z.R} (h : RIs w A1 P v M wr) (hk : KX 39 wr wq) (hb : Below w.heap.size wr wq) (ho : OwnL 39 5 ER wq w.heap.size v' M') : RIs w A1 P v' M' wq :=
  ⟨ho, h.bel.trans hb, h.nms.kx hk (fun _ _ h => h.kb (hk.kb (by decide))) (by decide)⟩
set_option maxRecDepth 5000 in
theorem one_cell (w : World) (g : Nat) (c : Array Value) (t : TypeId) (h : RowAt w g t c) : ∀ j u, c.toList[j]? = some u → w.cell? ((⟨g, 0, none⟩ : Addr).add j) = some u := fun j u hu => by
  rw [Addr.add_mid, Nat.zero_add, h.cell j]
  simpa using hu
set_option maxRecDepth 5000 in
theorem er_mk {w' : World} {r : Z.R} {p n : List (List UInt8)} {t T pl dl c6 dc : Nat} {a6 da : Option Addr} (hR : r.p = p ∧ r.t = t ∧ r.ttl = T) (hn : n = p.reverse) (hpl : pl = p.length) (hdl : dl = r.d.length) (T6 : TyS w' a6 n) (h1 : pl ≤ c6) (h2 : a6 = none → c6 = 0) (TD : TyL w' da r.d) (h3 : da = none → dc = 0) (h4 : r.d.length ≤ dc) :
    ER w' r [.slice a6 pl c6, .int .u16 (t : Int), .int .u16 1, .int .u32 (T : Int), .slice da dl dc] := by
  obtain ⟨e1, e2, e3⟩ := hR
  subst e1; subst e2; subst e3; subst hpl; subst hdl; subst hn
  exact ⟨a6, c6, da, dc, rfl, T6, h1, h2, TD, h3, h4⟩
set_option maxRecDepth 100000 in
set_option maxHeartbeats 2000000 in
theorem zrecords_any (w : World) (Zb : Nat) (A : List (List UInt8)) (L : List Z.R) (ρ : Nat → Role) (G : List (List UInt8) → Option Nd) (C : List (List UInt8) → Nat → Option Z.St) (K : Nat) (Zx : ZAt w Zb A L ρ G C K) (hK : K ≤ 1000000) (hth : Z.Thin L) :
    Calls Tryz.prog 16 #[.pointer (some ⟨Zb, 0, none⟩)] w fun e w' => ∃ v, e = .returned v ∧ OwnL 39 5 ER w' w.heap.size v L ∧ Below w.heap.size w w' := by
  obtain ⟨P, hP⟩ : ∃ P, P = Z.paths L := ⟨_, rfl⟩
  obtain ⟨np, hnp⟩ : ∃ np, np = P.length := ⟨_, rfl⟩
  obtain ⟨F, hF⟩ : ∃ F, F = Z.recsAt L := ⟨_, rfl⟩
  have hwhole : P.flatMap F = L := by rw [hP, hF]; exact Z.whole Zx.rise Zx.lows
  have hnum := Zx.num
  have hnpb : np ≤ 2000 := by rw [hnp, hP]; exact Nat.le_trans (Z.paths_len L) hnum
  have hps := (Z.paths_rise Zx.rise Zx.lows).2
  rw [← hP] at hps
  have hcall := znames_any w Zb A L ρ G C K Zx hK
  rw [← hP] at hcall
  have HZ := hide Zx
  have HP := hide hP
  have HNP := hide hnp
  have HF := hide hF
  have HWH := hide hwhole
  have HPS := hide hps
  have HTH := hide hth
  clear Zx hP hnp hF hwhole hps hth
  go_enter Tryz.func16, Tryz.ntmps16
  go_wp2_with (go_at_call 18; refine hcall.mono ?_; rintro e w1 ⟨v1, rfl, hN, hB⟩; obtain ⟨a1, c1, hv1, hn1, hc1⟩ := hN.slice; rw [List.length_map, ← HNP.out] at hv1 hc1; subst hv1)
  have hI0 : RIs w (.slice a1 np c1) P (.slice none 0 0) [] w1 := ⟨OwnL.nil _ _ _ _ _, hB, hN⟩
  clear hcall hN hB
  go_loopw [3, 15] (fun v i wr => ∃ j : Nat, i = .int .i64 (j : Int) ∧ j ≤ np ∧ RIs w (.slice a1 np c1) P v ((P.take j).flatMap F) wr) (fun _ i _ => np - (intOf i).toNat)
  case atStart => exact ⟨0, rfl, by omega, hI0⟩
  case round =>
    obtain ⟨j, rfl, hj, hI⟩ := hrel
    clear hI0
    by_cases hlt : j < np
    · have hjP : j < P.length := by have := HNP.out; omega
      obtain ⟨p, hp⟩ : ∃ p, p = P[j] := ⟨_, rfl⟩
      have hpP : p ∈ P := by rw [hp]; exact List.getElem_mem hjP
      obtain ⟨r0, hr0, hr0p⟩ := (HPS.out p).1 hpP
      have hlow : Z.Low p := by rw [← hr0p]; exact HZ.out.lows r0 hr0
      have hpl : p.length ≤ 128 := by rw [← hr0p]; exact (HZ.out.okk r0 hr0).2.2.2.2
      obtain ⟨pl, hpl2⟩ : ∃ pl, pl = p.length := ⟨_, rfl⟩
      have hnl : Hid (p.reverse.length = pl) := by show _ = _; rw [List.length_reverse, hpl2]
      have hsm : Hid (N.Small p.reverse) := by
        show _ ∧ _
        refine ⟨by rw [List.length_reverse]; omega, fun l hl => ?_⟩
        have := HTH.out r0 hr0 l (by rw [hr0p]; simpa using hl)
        omega
      have hpath := path_rev hlow
      obtain ⟨g1, rfl, _, _, _, hg1⟩ := hI.nms.get (by rw [List.length_map]; omega)
      obtain ⟨us, _, ⟨an, cn, rfl, hTn, hnn, hcn, h0n⟩, hus⟩ := hg1 j p.reverse (by rw [List.getElem?_map, List.getElem?_eq_getElem hjP, ← hp]; rfl)
      have hcell : wr.cell? ⟨g1, j, none⟩ = some (.slice an pl cn) := by
        have := hus 0 (by omega)
        rw [Nat.mul_one, Nat.add_zero, hnl.out] at this
        exact this
      rw [hnl.out] at hcn
      have hM1 := Z.flat_succ F P j hjP
      rw [← hp] at hM1
      have hpre := Z.flat_pre F P j hjP (X := F p) (by rw [← hp]; exact List.prefix_refl _)
      rw [HWH.out] at hpre
      obtain ⟨n, hn⟩ : ∃ n, n = p.reverse := ⟨_, rfl⟩
      rw [← hn] at hnl hsm hpath hTn h0n
      obtain ⟨M1, hM⟩ : ∃ M1, M1 = (P.take j).flatMap F := ⟨_, rfl⟩
      rw [← hM] at hI hM1 hpre
      have hty := ztypes_any wr Zb A L ρ G C K (HZ.out.bel hI.bel) hK n an pl cn hnl hTn.1 hsm
      rw [hpath] at hty
      have HI := hide hI
      have HTN := hide hTn
      have HM1 := hide hM1
      have HPRE := hide hpre
      have H0N := hide h0n
      have HPA := hide hpath
      have HN := hide hn
      have HPL := hide hpl2
      clear hI hTn hM1 hpre h0n hpath hn hM hp hg1 hus hpP hr0 hr0p hlow hpl2
      obtain ⟨wA, rfl⟩ : ∃ wA, wA = wr := ⟨wr, rfl⟩
      go_wp2_with (go_at_call 32; refine hty.mono ?_; rintro e w2 ⟨v2, rfl, ts, hts, hO2, hb2⟩; obtain ⟨a2, c2, hv2, _, _, hc2, hc2m⟩ := hO2.open; obtain ⟨nt, hnt⟩ : ∃ nt, nt = ts.length := ⟨_, rfl⟩; rw [← hnt] at hv2 hc2; have HNT := hide hnt; have HTS := hide hts; clear hnt hts; subst hv2)
      have hI2 := HI.out.mv hb2
      have HTN2 := hide (HTN.out.kb (KB.of_below hb2))
      have hntl : (Z.typesAt L p).length = nt := by rw [← HTS.out, List.length_map, HNT.out]
      have HNTL := hide hntl
      have hFp : F p = (Z.typesAt L p).flatMap (fun t => Z.setAt L p t) := by rw [HF.out]; rfl
      have HFP := hide hFp
      have hntb : nt ≤ 9223372036854775807 := by unfold maxLen at hc2m; omega
      clear hc2 hc2m hntl hFp hty hb2
      go_loopw [3, 23] (fun v i wr => ∃ k : Nat, i = .int .i64 (k : Int) ∧ k ≤ nt ∧ RIs w (.slice (some ⟨g1, 0, none⟩) np c1) P v (M1 ++ ((Z.typesAt L p).take k).flatMap (fun t => Z.setAt L p t)) wr ∧ OwnH wr wA.heap.size (.slice a2 nt c2) ts ∧ TyS wr an n) (fun _ i _ => nt - (intOf i).toNat)
      case atStart => exact ⟨0, rfl, Nat.zero_le _, by simpa using hI2, hO2, HTN2.out⟩
      case round =>
        obtain ⟨k, rfl, hk, hI, hO, hT⟩ := hrel
        clear hI2 hO2
        by_cases hlt2 : k < nt
        · have hkT : k < (Z.typesAt L p).length := by have := HNTL.out; omega
          obtain ⟨t, ht⟩ : ∃ t, t = (Z.typesAt L p)[k] := ⟨_, rfl⟩
          obtain ⟨g2, rfl, hcell2⟩ := hO.at_ HNT.out k (by have := HNT.out; omega)
          have htk : ((ts.getD k 0).toNat : Int) = (t : Int) := by
            rw [ht]
            have h1 : k < ts.length := by have := HNT.out; omega
            simp [← HTS.out, List.getD_eq_getElem?_getD, h1]
          rw [htk] at hcell2
          have ht16 : t < 65536 := by
            have := (ts.getD k 0).toNat_lt
            omega
          have htm : t ∈ Z.typesAt L p := by rw [ht]; exact List.getElem_mem hkT
          have hsome := (HZ.out.of.isSome p t).2 (((Z.types_rise HZ.out.rise p).2 t).1 htm)
          have hM2 := Z.flat_succ (fun t => Z.setAt L p t) (Z.typesAt L p) k hkT
          rw [← ht] at hM2
          have hpre2 : ∀ i, (M1 ++ ((Z.typesAt L p).take k).flatMap (fun t => Z.setAt L p t) ++ (Z.setAt L p t).take i).length ≤ 2000 := fun i => by
            have h1 := Z.flat_pre (fun t => Z.setAt L p t) (Z.typesAt L p) k hkT (X := (Z.setAt L p t).take i) (by rw [← ht]; exact List.take_prefix _ _)
            rw [← HFP.out] at h1
            have h2 := ((List.prefix_append_right_inj M1).2 h1).trans HPRE.out
            have h3 := h2.length_le
            rw [← List.append_assoc] at h3
            omega
          have hset := zset_any wr Zb A L ρ G C K (HZ.out.bel hI.bel) hK n an pl cn hnl hT.1 hsm t ht16
          unfold SetPost at hset
          rw [HPA.out] at hset
          have HI2 := hide hI
          have HO2 := hide hO
          have HT2 := hide hT
          have HM2 := hide hM2
          have HPRE2 := hide hpre2
          have HSM := hide hsome
          clear hI hO hT hM2 hpre2 hsome htm htk ht
          obtain ⟨wB, rfl⟩ : ∃ wB, wB = wr := ⟨wr, rfl⟩
          go_wp2_with (go_at_call 23; refine hset.mono ?_; rintro e w3 ⟨hb3, ⟨hno, _⟩ | ⟨S, na5, nc5, v5, hS, rfl, hT5, hnc5, hO5⟩⟩; (· exact absurd HSM.out (by rw [hno]; simp)); obtain ⟨a5, c5, hv5, hn5, hc5⟩ := hO5.slice; obtain ⟨nd, hnd⟩ : ∃ nd, nd = (Z.setAt L p t).length := ⟨_, rfl⟩; rw [List.length_map, ← hnd] at hv5 hc5; have HND := hide hnd; clear hnd; subst hv5; have hbx := RowAt.new w3 54 #[.slice na5 pl nc5, .int .u16 (t : Int), .int .u32 (S.ttl : Int), .slice a5 nd c5]; have q3 : (w3.alloc (.cells #[.slice na5 pl nc5, .int .u16 (t : Int), .int .u32 (S.ttl : Int), .slice a5 nd c5] 54)).cell? ⟨w3.heap.size, 3, none⟩ = some (.slice a5 nd c5) := hbx.cell 3)
          have hb34 : Below w3.heap.size w3 (w3.alloc (.cells #[.slice na5 pl nc5, .int .u16 (t : Int), .int .u32 (S.ttl : Int), .slice a5 nd c5] 54)) := (Below.refl _ w3).alloc (Nat.le_refl _) _
          have hbB4 : Below wB.heap.size wB (w3.alloc (.cells #[.slice na5 pl nc5, .int .u16 (t : Int), .int .u32 (S.ttl : Int), .slice a5 nd c5] 54)) := hb3.trans (hb34.mono hb3.size)
          have hI4 := HI2.out.mv hbB4
          have hO4 := HO2.out.kx (KX.of_below (et0 := 39) hbB4) (by decide)
          have hT4 := HT2.out.kb (KB.of_below hbB4)
          have hD4 := hO5.bel (fun _ _ h => h.kb (KB.of_below hb34)) hb34
          have HS := hide hS
          have hndb : nd ≤ 2000 := by
            have h1 := HND.out
            have h2 : (Z.setAt L p t).length ≤ L.length := List.length_filter_le _ _
            omega
          clear hb34 hbB4 hb3 hO5 hS q3 hT5 hnc5 hc5 hset
          go_loopw [3, 37] (fun v i wr => ∃ q : Nat, i = .int .i64 (q : Int) ∧ q ≤ nd ∧ RIs w (.slice (some ⟨g1, 0, none⟩) np c1) P v (M1 ++ ((Z.typesAt L p).take k).flatMap (fun t => Z.setAt L p t) ++ (Z.setAt L p t).take q) wr ∧ OwnH wr wA.heap.size (.slice (some ⟨g2, 0, none⟩) nt c2) ts ∧ TyS wr an n ∧ OwnL 37 1 EB wr wB.heap.size (.slice a5 nd c5) ((Z.setAt L p t).map (·.d)) ∧ RowAt wr w3.heap.size 54 #[.slice na5 pl nc5, .int .u16 (t : Int), .int .u32 (S.ttl : Int), .slice a5 nd c5]) (fun _ i _ => nd - (intOf i).toNat)
          case atStart => exact ⟨0, rfl, Nat.zero_le _, by simpa using hI4, hO4, hT4, hD4, hbx⟩
          case round =>
            obtain ⟨q, rfl, hq, hI, hO, hT, hD, hX⟩ := hrel
            clear hI4 hO4 hT4 hD4 hbx
            by_cases hlt3 : q < nd
            · have hqs : q < (Z.setAt L p t).length := by have := HND.out; omega
              obtain ⟨r, hr⟩ : ∃ r, r = (Z.setAt L p t)[q] := ⟨_, rfl⟩
              have hrm : r ∈ Z.setAt L p t := by rw [hr]; exact List.getElem_mem hqs
              obtain ⟨hrL, hrp, hrt⟩ := Z.mem_setAt.1 hrm
              have httl : r.ttl = S.ttl := (HZ.out.of.at_ r hrL S (by rw [hrp, hrt]; exact HS.out)).1
              have hM3 : (Z.setAt L p t).take (q + 1) = (Z.setAt L p t).take q ++ [r] := by rw [hr, List.take_append_getElem]
              obtain ⟨g5, rfl, _, _, _, hg5⟩ := hD.get (by rw [List.length_map]; omega)
              obtain ⟨us5, _, ⟨da, dc, rfl, hTd, hnd0, hdc⟩, hus5⟩ := hg5 q r.d (by rw [List.getElem?_map, List.getElem?_eq_getElem hqs, ← hr]; rfl)
              obtain ⟨dl, hdl⟩ : ∃ dl, dl = r.d.length := ⟨_, rfl⟩
              have hcell5 : wr.cell? ⟨g5, q, none⟩ = some (.slice da dl dc) := by
                have := hus5 0 (by omega)
                rw [Nat.mul_one, Nat.add_zero, ← hdl] at this
                exact this
              have x2 : wr.cell? ⟨w3.heap.size, 2, none⟩ = some (.int .u32 (S.ttl : Int)) := hX.cell 2
              have hlen := HPRE2.out q
              have HI3 := hide hI
              have HO3 := hide hO
              have HT3 := hide hT
              have HD3 := hide hD
              have HX3 := hide hX
              have HR := hide (show r.p = p ∧ r.t = t ∧ r.ttl = S.ttl from ⟨hrp, hrt, httl⟩)
              have HM3 := hide hM3
              have HTD := hide hTd
              have HDL := hide hdl
              have HND0 := hide hnd0
              have HLEN := hide hlen
              clear hI hO hT hD hX hrm hrL hrp hrt httl hM3 hg5 hus5 hTd hdl hr hnd0 hlen
              go_wp2
              go_region_held3 (fun w' => w'.cell? ⟨w3.heap.size, 2, none⟩ = some (.int .u32 (S.ttl : Int))) (first | exact x2 | exact y2 | exact y3 | exact y4) ((first
                | (go_at_call 48; refine (nclone_two _ an cn n pl hnl H0N.out (by have := HPL.out; omega) (by exact HT3.out.1)).mono ?_; rintro e w5 ⟨v6, rfl, hO6, hB5⟩; obtain ⟨a6, c6, hv6, hT6, hn6, hc6⟩ := hO6.ty; rw [hnl.out] at hv6 hc6; subst hv6; have HB5 : Hid (Below wr.heap.size wr w5) := hide (by first | exact hB5 | exact (below_drewN (Below.refl _ wr) 1).trans hB5); have HT6 := hide hT6; have y2 : w5.cell? ⟨w3.heap.size, 2, none⟩ = some (.int .u32 (S.ttl : Int)) := (HX3.out.below HB5.out HX3.out.lt).cell 2; have y3 : (w5.alloc (.cells #[.slice a6 pl c6, .int .u16 (t : Int), .int .u16 1, .int .u32 (S.ttl : Int), .slice da dl dc] 39)).cell? ⟨w3.heap.size, 2, none⟩ = some (.int .u32 (S.ttl : Int)) := ((HX3.out.below HB5.out HX3.out.lt).alloc _).cell 2; have HB6 : Hid (Below wr.heap.size wr (w5.alloc (.cells #[.slice a6 pl c6, .int .u16 (t : Int), .int .u16 1, .int .u32 (S.ttl : Int), .slice da dl dc] 39))) := hide (HB5.out.alloc HB5.out.size _); clear hO6 hB5 hT6)
                | (refine step_appL rfl (.tmp 41) (.tmp 49) 31 rfl Tryz.underlying31 _ 56 (info_parts infoRc) rfl (by decide) (by decide) (by decide) w.heap.size _ (M1 ++ ((Z.typesAt L p).take k).flatMap (fun t => Z.setAt L p t) ++ (Z.setAt L p t).take q) rfl (by exact (HI3.out.mv HB6.out).out) ⟨w5.heap.size, 0, none⟩ 1 r [.slice a6 pl c6, .int .u16 (t : Int), .int .u16 1, .int .u32 (S.ttl : Int), .slice da dl dc] rfl (by exact one_cell _ _ #[.slice a6 pl c6, .int .u16 (t : Int), .int .u16 1, .int .u32 (S.ttl : Int), .slice da dl dc] 39 (RowAt.new w5 _ _)) rfl (by simp [Value.oneCell']) (er_mk HR.out HN.out HPL.out HDL.out (HT6.out.kb (KB.alloc _ _)) hc6 hn6 (HTD.out.kb (KB.of_below HB6.out)) HND0.out hdc) (fun _ _ _ k h => h.kb k) (by have := HLEN.out; omega) (by exact (HI3.out.bel.trans (HB6.out.mono HI3.out.bel.size)).size) ?_; intro v7 w7 hO7 hK7 hB7; have y4 : w7.cell? ⟨w3.heap.size, 2, none⟩ = some (.int .u32 (S.ttl : Int)) := (((KX.of_below HB6.out).trans hK7).row HX3.out (by decide)).cell 2)))
              all_goals
                have hkx : KX 39 wr w7 := (KX.of_below HB6.out).trans hK7
                have hkb : KB wr w7 := hkx.kb (by decide)
                have hI7 : RIs w (.slice (some ⟨g1, 0, none⟩) np c1) P v7 (M1 ++ ((Z.typesAt L p).take k).flatMap (fun t => Z.setAt L p t) ++ (Z.setAt L p t).take (q + 1)) w7 := by
                  rw [HM3.out, ← List.append_assoc]
                  exact (HI3.out.mv HB6.out).add hK7 hB7 hO7
                have hO7b := HO3.out.kx hkx (by decide)
                have hD7 := HD3.out.kx hkx (fun _ _ h => h.kb hkb) (by decide)
                have hX7 := hkx.row HX3.out (by decide)
                have HI7 := hide hI7
                have HO7 := hide hO7b
                have HD7 := hide hD7
                have HX7 := hide hX7
                have HT7 := hide (HT3.out.kb hkb)
                clear hI7 hO7b hD7 hX7 hO7 hK7 hB7 hkx hkb
                go_wp2
                exact ⟨⟨q + 1, by go_num, by omega, by exact HI7.out, by exact HO7.out, by exact HT7.out, by exact HD7.out, by exact HX7.out⟩, by simp [intOf]; omega⟩
            · obtain rfl : q = nd := by omega
              have e3 : (Z.setAt L p t).take q = Z.setAt L p t := by rw [HND.out]; exact List.take_length
              rw [e3, List.append_assoc, ← HM2.out] at hI
              have HI3 := hide hI
              have HO3 := hide hO
              have HT3 := hide hT
              clear hI hO hT hD hX
              go_wp2
              exact ⟨⟨k + 1, by go_num, by omega, HI3.out, HO3.out, HT3.out⟩, by simp [intOf]; omega⟩
        · obtain rfl : k = nt := by omega
          rw [← HNTL.out, List.take_length, ← HFP.out, ← HM1.out] at hI
          have HI2 := hide hI
          clear hI hO hT
          go_wp2
          exact ⟨⟨j + 1, by go_num, by omega, HI2.out⟩, by simp [intOf]; omega⟩
    · obtain rfl : j = np := by omega
      go_wp2
      go_ret
      have e : P.take j = P := by rw [HNP.out]; exact List.take_length
      rw [e, HWH.out] at hI
      exact ⟨_, rfl, hI.out, hI.bel⟩
end Go.Proofs.YtdldaphkiphpnaaGreat
