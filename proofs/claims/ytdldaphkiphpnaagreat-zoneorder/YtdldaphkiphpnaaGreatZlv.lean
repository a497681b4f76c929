/- Zones that live in memory: what each call answers and leaves, in plain words. -/
import Derived.Test.YtdldaphkiphpnaaGreatZpg
import Derived.Test.YtdldaphkiphpnaaGreatZdt
import Derived.Test.YtdldaphkiphpnaaGreatZrs
namespace Go.Proofs.YtdldaphkiphpnaaGreat
open Go.RowKit
namespace Z
set_option maxRecDepth 5000 in
theorem chk_len {n : List (List UInt8)} (h : N.chk n = 0) : n.length ≤ 127 := by
  obtain ⟨h1, h2, _⟩ := N.chk_small h
  have : ∀ m : List (List UInt8), [] ∉ m → 2 * m.length ≤ (m.map (fun l => l.length + 1)).sum := fun m => by
    induction m with
    | nil => intro _; simp
    | cons a m ih =>
      intro hm
      have h3 := ih (fun h => hm (by simp [h]))
      have h4 : 0 < a.length := List.length_pos_iff.2 fun e => hm (by simp [e])
      rw [List.map_cons, List.sum_cons, List.length_cons]; omega
  have := this n h1
  unfold N.size at h2
  omega
/- the time to live of a set -/
def ttlAt (L : List R) (p : List (List UInt8)) (t : Nat) : Nat := ((setAt L p t).head?.map (·.ttl)).getD 0
set_option maxRecDepth 5000 in
theorem Of.ttl {L : List R} {C : List (List UInt8) → Nat → Option St} (h : Of L C) (p : List (List UInt8)) (t : Nat) : ((C p t).map fun S => S.ttl).getD 0 = ttlAt L p t := by
  unfold ttlAt
  cases hC : C p t with
  | none =>
    have h0 : setAt L p t = [] := List.filter_eq_nil_iff.2 fun x hx hk => by
      have hk : x.p = p ∧ x.t = t := by simpa using hk
      exact h.no p t hC x hx hk
    rw [h0]; rfl
  | some S =>
    obtain ⟨x, hx, e1, e2⟩ := h.ex p t S hC
    cases hs : setAt L p t with
    | nil =>
      have := mem_setAt.2 ⟨hx, e1, e2⟩
      rw [hs] at this; cases this
    | cons y r =>
      have hy : y ∈ setAt L p t := by rw [hs]; simp
      obtain ⟨hy, e3, e4⟩ := mem_setAt.1 hy
      have := (h.at_ y hy S (by rw [e3, e4]; exact hC)).1
      show S.ttl = y.ttl
      exact this.symm
set_option maxRecDepth 5000 in
theorem Of.none_iff {L : List R} {C : List (List UInt8) → Nat → Option St} (h : Of L C) (p : List (List UInt8)) (t : Nat) : C p t = none ↔ setAt L p t = [] := by
  constructor
  · intro hC
    exact List.filter_eq_nil_iff.2 fun x hx hk => by
      have hk : x.p = p ∧ x.t = t := by simpa using hk
      exact h.no p t hC x hx hk
  · intro hs
    cases hC : C p t with
    | none => rfl
    | some S =>
      obtain ⟨x, hx, e1, e2⟩ := h.ex p t S hC
      have := mem_setAt.2 ⟨hx, e1, e2⟩
      rw [hs] at this; cases this
set_option maxRecDepth 5000 in
theorem thin_put {L : List R} (h : Thin L) {n : List (List UInt8)} (hg : N.chk n = 0) {t ttl : Nat} {c d : List UInt8} : Thin (put L ⟨path n, t, c, ttl, d⟩) := fun x hx l hl => by
  obtain ⟨y, hy, rfl⟩ := mem_put.1 hx
  rw [setT_p] at hl
  rcases hy with hy | ⟨_, rfl⟩
  · exact h y hy l hl
  · have hl : l ∈ path n := hl
    unfold path at hl
    rw [List.mem_reverse] at hl
    unfold N.lowN at hl
    obtain ⟨l0, h0, rfl⟩ := List.mem_map.1 hl
    rw [N.lowL_len]
    exact (N.chk_small hg).2.2 l0 h0
/- what Put does: whether it changed anything, its number, the records behind it -/
def putR (A : List (List UInt8)) (L : List R) (n : List (List UInt8)) (t cl ttl : Nat) (d : List UInt8) : Bool × Nat × List R :=
  if N.chk n ≠ 0 ∨ N.within n A = false then (false, 110, L)
  else if cl ≠ 1 then (false, 50, L)
  else match cn t d with
  | none => (false, 50, L)
  | some c => if there L ⟨path n, t, c, ttl, d⟩ = true then (if ttlAt L (path n) t = ttl then (false, 0, L) else (true, 0, put L ⟨path n, t, c, ttl, d⟩))
    else if 2000 ≤ L.length then (false, 111, L) else (true, 0, put L ⟨path n, t, c, ttl, d⟩)
def dropR (L : List R) (n : List (List UInt8)) (t : Nat) (d : List UInt8) : Bool × List R :=
  match cn t d with
  | none => (false, L)
  | some c => if there L ⟨path n, t, c, 0, d⟩ = true then (true, drop L (path n) t c) else (false, L)
end Z
/- a zone in memory that keeps off the blocks X -/
def ZLive (X : Nat → Prop) (w : World) (Zb : Nat) (A : List (List UInt8)) (L : List Z.R) (K : Nat) : Prop := ∃ ρ G C, ZAt w Zb A L ρ G C K ∧ (∀ i, X i → i < w.heap.size ∧ i ≠ Zb ∧ ρ i = .none) ∧ Z.Thin L
/- what a call leaves as it was -/
structure ZKp (X : Nat → Prop) (w w' : World) : Prop where
  os : w'.os = w.os
  tape : w'.tape = w.tape
  output : w'.output = w.output
  size : w.heap.size ≤ w'.heap.size
  keep : ∀ i, X i → i < w.heap.size → w'.heap[i]? = w.heap[i]?
  rows : ∀ (g : Nat) (c : Array Value) (et : TypeId) (fr : Nat × Nat), w.heap[g]? = some (Obj.cells c et fr) → et ≠ 96 → et ≠ 83 → w'.heap[g]? = w.heap[g]?
  sl : ∀ ao l, SlL w ao l → SlL w' ao l
  ss : ∀ ao l, SlS w ao l → SlS w' ao l
set_option maxRecDepth 5000 in
theorem ZKp.refl (X : Nat → Prop) (w : World) : ZKp X w w := ⟨rfl, rfl, rfl, Nat.le_refl _, fun _ _ _ => rfl, fun _ _ _ _ _ _ _ => rfl, fun _ _ h => h, fun _ _ h => h⟩
set_option maxRecDepth 5000 in
theorem ZKp.of_below {X : Nat → Prop} {w w' : World} (h : Below w.heap.size w w') : ZKp X w w' :=
  ⟨h.os, h.tape, h.output, h.size, fun i _ hi => h.block i hi, fun g _ _ _ hg _ _ => h.block g (Array.getElem?_eq_some_iff.1 hg).1, fun _ _ hs => hs.below h (Nat.le_refl _), fun _ _ hs => hs.below h (Nat.le_refl _)⟩
set_option maxRecDepth 5000 in
theorem ZKp.trans {X : Nat → Prop} {a b c : World} (h : ZKp X a b) (k : ZKp X b c) : ZKp X a c :=
  ⟨k.os.trans h.os, k.tape.trans h.tape, k.output.trans h.output, Nat.le_trans h.size k.size, fun i hx hi => (k.keep i hx (Nat.lt_of_lt_of_le hi h.size)).trans (h.keep i hx hi), fun g c et fr hg h1 h2 => (k.rows g c et fr ((h.rows g c et fr hg h1 h2).trans hg) h1 h2).trans (h.rows g c et fr hg h1 h2), fun _ _ hs => k.sl _ _ (h.sl _ _ hs), fun _ _ hs => k.ss _ _ (h.ss _ _ hs)⟩
set_option maxRecDepth 5000 in
theorem ZKp.kb {X : Nat → Prop} {w w' : World} (h : ZKp X w w') : KB w w' := ⟨h.size, fun g c et fr hg he => (h.rows g c et fr hg (fun e => by rcases he with rfl | rfl <;> exact absurd e (by decide)) (fun e => by rcases he with rfl | rfl <;> exact absurd e (by decide))).trans hg⟩
set_option maxRecDepth 5000 in
theorem ZKp.row {X : Nat → Prop} {w w' : World} (h : ZKp X w w') {g : Nat} {t : TypeId} {c : Array Value} (hr : RowAt w g t c) (h1 : t ≠ 96) (h2 : t ≠ 83) : RowAt w' g t c := (h.rows g c t _ hr h1 h2).trans hr
set_option maxRecDepth 5000 in
theorem ZKp.drewN {X : Nat → Prop} (w : World) (n : Nat) : ZKp X w (w.drewN n) := .of_below (below_drewN (Below.refl _ w) n)
set_option maxRecDepth 5000 in
theorem ZKp.of_zm {X : Nat → Prop} {w w' : World} {Zb : Nat} {A : List (List UInt8)} {L : List Z.R} {ρ : Nat → Role} {G : List (List UInt8) → Option Nd} {C : List (List UInt8) → Nat → Option Z.St} {K : Nat} (Zx : ZAt w Zb A L ρ G C K) (hX : ∀ i, X i → i < w.heap.size ∧ i ≠ Zb ∧ ρ i = .none) (h : ZM Zb ρ w w') : ZKp X w w' := by
  obtain ⟨ao, cap, hz, _, _⟩ := Zx.row
  have hk := Zx.tree.kind
  refine ⟨h.os, h.tape, h.output, h.size, fun i hx hi => h.block i hi (hX i hx).2.1 (hX i hx).2.2, fun g c et fr hg h1 h2 => ?_, fun _ _ hs => slL_zm h hk hz hs, fun _ _ hs => slS_zm h hk hz hs⟩
  refine h.block g (Array.getElem?_eq_some_iff.1 hg).1 (fun e => ?_) (Classical.byContradiction fun h0 => ?_)
  · have hz' : w.heap[Zb]? = some (Obj.cells #[.slice ao A.length cap, ptr (nodeN G []), .int .i64 (L.length : Int)] 83) := hz
    rw [e, hz'] at hg; injection hg with hg; injection hg with _ hg _; exact h2 hg.symm
  · rcases hk g h0 with ⟨es, k, hb⟩ | ⟨a, b, hb⟩
    · rw [hb] at hg; cases hg
    · rw [hb] at hg; injection hg with hg; injection hg with _ hg _; exact h1 hg.symm
set_option maxRecDepth 5000 in
theorem ZLive.bel {X : Nat → Prop} {w w' : World} {Zb : Nat} {A : List (List UInt8)} {L : List Z.R} {K : Nat} (h : ZLive X w Zb A L K) (hb : Below w.heap.size w w') : ZLive X w' Zb A L K := by
  obtain ⟨ρ, G, C, h1, h2, h3⟩ := h
  exact ⟨ρ, G, C, h1.bel hb, fun i hi => ⟨Nat.lt_of_lt_of_le (h2 i hi).1 hb.size, (h2 i hi).2⟩, h3⟩
set_option maxRecDepth 5000 in
theorem ZLive.mono {X : Nat → Prop} {w : World} {Zb : Nat} {A : List (List UInt8)} {L : List Z.R} {K K' : Nat} (h : ZLive X w Zb A L K) (hk : K ≤ K') : ZLive X w Zb A L K' := by
  obtain ⟨ρ, G, C, h1, h2, h3⟩ := h
  exact ⟨ρ, G, C, h1.mono hk, h2, h3⟩
set_option maxRecDepth 5000 in
theorem ZLive.num {X : Nat → Prop} {w : World} {Zb : Nat} {A : List (List UInt8)} {L : List Z.R} {K : Nat} (h : ZLive X w Zb A L K) : L.length ≤ 2000 := by
  obtain ⟨ρ, G, C, h1, h2, h3⟩ := h; exact h1.num
set_option maxRecDepth 5000 in
theorem ZLive.lt {X : Nat → Prop} {w : World} {Zb : Nat} {A : List (List UInt8)} {L : List Z.R} {K : Nat} (h : ZLive X w Zb A L K) : Zb < w.heap.size := by
  obtain ⟨ρ, G, C, h1, h2, h3⟩ := h; exact h1.lt
set_option maxRecDepth 5000 in
theorem ZLive.off {X : Nat → Prop} {w : World} {Zb : Nat} {A : List (List UInt8)} {L : List Z.R} {K : Nat} (h : ZLive X w Zb A L K) (i : Nat) (hi : X i) : i < w.heap.size := by
  obtain ⟨ρ, G, C, h1, h2, h3⟩ := h; exact (h2 i hi).1
/- New -/
set_option maxRecDepth 5000 in
theorem znew_live (X : Nat → Prop) (w : World) (hX : ∀ i, X i → i < w.heap.size) (n : List (List UInt8)) (ao : Option Addr) (len cap : Nat) (hl : Hid (n.length = len)) (hs : SlS w ao n) (hm : Hid (N.Small n)) :
    Calls Tryz.prog 11 #[.slice ao len cap] w fun e w' => ∃ Zb, e = .returned (.pointer (some ⟨Zb, 0, none⟩)) ∧ w.heap.size ≤ Zb ∧ ZLive X w' Zb (N.lowN n) [] 0 ∧ Below w.heap.size w w' := by
  refine (znew_any w n ao len cap hl hs hm).mono ?_
  rintro e w' ⟨Zb, ρ, G, rfl, h1, h2, h3, h4⟩
  exact ⟨Zb, rfl, h1, ⟨ρ, G, _, h2, fun i hi => ⟨Nat.lt_of_lt_of_le (hX i hi) h4.size, by have := hX i hi; omega, h3 i (hX i hi)⟩, fun x hx => (by cases hx)⟩, h4⟩
/- Put -/
set_option maxRecDepth 5000 in
theorem zput_live {X : Nat → Prop} {w : World} {Zb : Nat} {A : List (List UInt8)} {L : List Z.R} {K : Nat} (Z0 : ZLive X w Zb A L K) (hA : Hid (N.Small A)) (n : List (List UInt8)) (na : Option Addr) (nl nc : Nat) (hl : Hid (n.length = nl)) (hnc : nl ≤ nc) (hs : SlS w na n) (hm : Hid (N.Small n)) (t cl ttl : Nat) (d : List UInt8) (da : Option Addr) (dl dc : Nat) (hdl : Hid (d.length = dl)) (hsd : SlL w da d) (hnd : da = none → dc = 0) (hdc : dl ≤ dc) (ht : t < 65536) (httl : ttl < 4294967296) (hK : K + nl + 2 ≤ 1000000) :
    Calls Tryz.prog 36 #[.pointer (some ⟨Zb, 0, none⟩), recV na nl nc t cl ttl da dl dc] w fun e w' => e = .returned (.tuple #[.bool (Z.putR A L n t cl ttl d).1, .int .i64 ((Z.putR A L n t cl ttl d).2.1 : Int)]) ∧ ZLive X w' Zb A (Z.putR A L n t cl ttl d).2.2 (K + nl + 1) ∧ ZKp X w w' := by
  have hdl' := hdl.out
  subst hdl'
  have Z0' := Z0
  obtain ⟨ρ, G, C, Zx, hX, hth⟩ := Z0
  by_cases hbad : N.chk n ≠ 0 ∨ N.within n A = false
  · have e : Z.putR A L n t cl ttl d = (false, 110, L) := by unfold Z.putR; rw [if_pos hbad]
    rw [e]
    refine (zput_name w Zb A L ρ G C K Zx hA n na nl nc hl hnc hs hm t cl ttl d da dc hsd hnd hdc hbad).mono ?_
    rintro e w' ⟨rfl, hb⟩
    exact ⟨rfl, (Z0'.bel hb).mono (by omega), .of_below hb⟩
  · have hgood : N.chk n = 0 := Classical.byContradiction fun h => hbad (Or.inl h)
    have hwin : N.within n A = true := by
      cases h : N.within n A with
      | true => rfl
      | false => exact absurd (Or.inr h) hbad
    by_cases hcl : cl ≠ 1 ∨ cn t d = none
    · have e : Z.putR A L n t cl ttl d = (false, 50, L) := by
        unfold Z.putR; rw [if_neg hbad]
        by_cases h : cl ≠ 1
        · rw [if_pos h]
        · rw [if_neg h, hcl.resolve_left h]
      rw [e]
      refine (zput_data w Zb A L ρ G C K Zx hA n na nl nc hl hnc hs hm t cl ttl d da dc hsd hnd hdc hgood hwin hcl).mono ?_
      rintro e w' ⟨rfl, hb⟩
      exact ⟨rfl, (Z0'.bel hb).mono (by omega), .of_below hb⟩
    · have hc1 : cl = 1 := Classical.byContradiction fun h => hcl (Or.inl h)
      subst hc1
      cases hcn : cn t d with
      | none => exact absurd (Or.inr hcn) hcl
      | some c =>
        have hnl : nl ≤ 128 := by have := Z.chk_len hgood; have := hl.out; omega
        have hthe : (Z.got C (path n) t c).isSome = Z.there L ⟨path n, t, c, ttl, d⟩ := Zx.of.got_there ⟨path n, t, c, ttl, d⟩
        have htt := Z.Of.ttl Zx.of (path n) t
        have e0 : Z.putR A L n t 1 ttl d = if Z.there L ⟨path n, t, c, ttl, d⟩ = true then (if Z.ttlAt L (path n) t = ttl then (false, 0, L) else (true, 0, Z.put L ⟨path n, t, c, ttl, d⟩)) else if 2000 ≤ L.length then (false, 111, L) else (true, 0, Z.put L ⟨path n, t, c, ttl, d⟩) := by
          unfold Z.putR; rw [if_neg hbad, if_neg (by simp), hcn]
        refine (zput_good w Zb A L ρ G C K Zx hA n na nl nc hl hnc hs hm t ttl d da dc hsd hnd hdc ht c hgood hwin hcn httl hnl hK).mono ?_
        rintro e w' ⟨b, cd, rfl, ⟨rfl, hb, ⟨rfl, h1, h2⟩ | ⟨rfl, h1, h2⟩⟩ | ⟨rfl, rfl, h1, h2, ρ', G', hZ, hmore, hzm⟩⟩
        · have e : Z.putR A L n t 1 ttl d = (false, 0, L) := by rw [e0, if_pos (by rw [← hthe]; exact h1), if_pos (by rw [← htt]; exact h2)]
          rw [e]
          exact ⟨rfl, (Z0'.bel hb).mono (by omega), .of_below hb⟩
        · have e : Z.putR A L n t 1 ttl d = (false, 111, L) := by rw [e0, if_neg (by rw [← hthe, h1]; simp), if_pos h2]
          rw [e]
          exact ⟨rfl, (Z0'.bel hb).mono (by omega), .of_below hb⟩
        · have e : Z.putR A L n t 1 ttl d = (true, 0, Z.put L ⟨path n, t, c, ttl, d⟩) := by
            rw [e0]
            by_cases ht : Z.there L ⟨path n, t, c, ttl, d⟩ = true
            · rw [if_pos ht, if_neg (fun h => h1 ⟨by rw [hthe]; exact ht, by rw [htt]; exact h⟩)]
            · rw [if_neg ht, if_neg (fun h => h2 ⟨?_, h⟩)]
              cases hg : Z.got C (path n) t c with
              | none => rfl
              | some z => rw [hg] at hthe; exact absurd hthe.symm ht
          rw [e]
          exact ⟨rfl, ⟨ρ', G', _, hZ, fun i hi => ⟨Nat.lt_of_lt_of_le (hX i hi).1 hzm.size, (hX i hi).2.1, by rw [hmore i (hX i hi).1]; exact (hX i hi).2.2⟩, Z.thin_put hth hgood⟩, .of_zm Zx hX hzm⟩
/- Drop -/
set_option maxRecDepth 5000 in
theorem zdrop_live {X : Nat → Prop} {w : World} {Zb : Nat} {A : List (List UInt8)} {L : List Z.R} {K : Nat} (Z0 : ZLive X w Zb A L K) (n : List (List UInt8)) (na : Option Addr) (nl nc : Nat) (hl : Hid (n.length = nl)) (hs : SlS w na n) (hm : Hid (N.Small n)) (t cl ttl : Nat) (d : List UInt8) (da : Option Addr) (dl dc : Nat) (hdl : Hid (d.length = dl)) (hsd : SlL w da d) (hnd : da = none → dc = 0) (hdc : dl ≤ dc) (ht : t < 65536) :
    Calls Tryz.prog 39 #[.pointer (some ⟨Zb, 0, none⟩), recV na nl nc t cl ttl da dl dc] w fun e w' => e = .returned (.bool (Z.dropR L n t d).1) ∧ ZLive X w' Zb A (Z.dropR L n t d).2 K ∧ ZKp X w w' := by
  have hdl' := hdl.out
  subst hdl'
  have Z0' := Z0
  obtain ⟨ρ, G, C, Zx, hX, hth⟩ := Z0
  refine (zdrop_any w Zb A L ρ G C K Zx n na nl nc hl hs hm t cl ttl d da dc hsd hnd hdc ht).mono ?_
  rintro e w' ⟨b, rfl, ⟨rfl, hb, hno⟩ | ⟨rfl, c, hcn, hg, G', C', hZ, hzm⟩⟩
  · have e : Z.dropR L n t d = (false, L) := by
      unfold Z.dropR
      rcases hno with h | ⟨c, h1, h2⟩
      · rw [h]
      · rw [h1]
        have hth : (Z.got C (path n) t c).isSome = Z.there L ⟨path n, t, c, 0, d⟩ := Zx.of.got_there ⟨path n, t, c, 0, d⟩
        rw [h2] at hth
        show (if _ then _ else _) = _
        rw [if_neg (by rw [← hth]; simp)]
    rw [e]
    exact ⟨rfl, Z0'.bel hb, .of_below hb⟩
  · have e : Z.dropR L n t d = (true, Z.drop L (path n) t c) := by
      unfold Z.dropR
      rw [hcn]
      have hth : (Z.got C (path n) t c).isSome = Z.there L ⟨path n, t, c, 0, d⟩ := Zx.of.got_there ⟨path n, t, c, 0, d⟩
      show (if _ then _ else _) = _
      rw [if_pos (by rw [← hth]; exact hg)]
    rw [e]
    exact ⟨rfl, ⟨ρ, G', C', hZ, fun i hi => ⟨Nat.lt_of_lt_of_le (hX i hi).1 hzm.size, (hX i hi).2⟩, fun x hx => hth x (Z.mem_drop.1 hx).1⟩, .of_zm Zx hX hzm⟩
/- DropSet -/
set_option maxRecDepth 5000 in
theorem zdropSet_live {X : Nat → Prop} {w : World} {Zb : Nat} {A : List (List UInt8)} {L : List Z.R} {K : Nat} (Z0 : ZLive X w Zb A L K) (hK : K ≤ 1000000) (n : List (List UInt8)) (ao : Option Addr) (len cap : Nat) (hl : Hid (n.length = len)) (hs : SlS w ao n) (hm : Hid (N.Small n)) (t : Nat) (ht : t < 65536) :
    Calls Tryz.prog 40 #[.pointer (some ⟨Zb, 0, none⟩), .slice ao len cap, .int .u16 (t : Int)] w fun e w' => e = .returned (.int .i64 ((L.length - (Z.dropSet L (path n) t).length : Nat) : Int)) ∧ ZLive X w' Zb A (Z.dropSet L (path n) t) K ∧ ZKp X w w' := by
  obtain ⟨ρ, G, C, Zx, hX, hth⟩ := Z0
  refine (zdropSet_any w Zb A L ρ G C K Zx hK n ao len cap hl hs hm t ht).mono ?_
  rintro e w' ⟨rfl, G', C', hZ, hzm⟩
  exact ⟨rfl, ⟨ρ, G', C', hZ, fun i hi => ⟨Nat.lt_of_lt_of_le (hX i hi).1 hzm.size, (hX i hi).2⟩, fun x hx => hth x (Z.mem_dropSet.1 hx).1⟩, .of_zm Zx hX hzm⟩
/- Len, Has, Set, Types -/
set_option maxRecDepth 5000 in
theorem zlen_live {X : Nat → Prop} {w : World} {Zb : Nat} {A : List (List UInt8)} {L : List Z.R} {K : Nat} (Z0 : ZLive X w Zb A L K) : Calls Tryz.prog 14 #[.pointer (some ⟨Zb, 0, none⟩)] w fun e w' => e = .returned (.int .i64 (L.length : Int)) ∧ w' = w := by
  obtain ⟨ρ, G, C, Zx, hX, hth⟩ := Z0
  exact zlen_any w Zb A L ρ G C K Zx
set_option maxRecDepth 5000 in
theorem zhas_live {X : Nat → Prop} {w : World} {Zb : Nat} {A : List (List UInt8)} {L : List Z.R} {K : Nat} (Z0 : ZLive X w Zb A L K) (n : List (List UInt8)) (ao : Option Addr) (len cap : Nat) (hl : Hid (n.length = len)) (hs : SlS w ao n) (hm : Hid (N.Small n)) :
    Calls Tryz.prog 29 #[.pointer (some ⟨Zb, 0, none⟩), .slice ao len cap] w fun e w' => e = .returned (.bool (Z.has L (path n))) ∧ Below w.heap.size w w' := by
  obtain ⟨ρ, G, C, Zx, hX, hth⟩ := Z0
  exact zhas_any w Zb A L ρ G C K Zx n ao len cap hl hs hm
def SetR (w : World) (L : List Z.R) (n : List (List UInt8)) (nl t : Nat) (e : Ending) (w' : World) : Prop :=
  Below w.heap.size w w' ∧ ((Z.setAt L (path n) t = [] ∧ e = .returned (.tuple #[asetZ, .bool false])) ∨
    (Z.setAt L (path n) t ≠ [] ∧ ∃ (na : Option Addr) (nc : Nat) (v : Value), e = .returned (.tuple #[.agg #[.slice na nl nc, .int .u16 (t : Int), .int .u32 (Z.ttlAt L (path n) t : Int), v], .bool true]) ∧ TyS w' na (N.lowN n) ∧ nl ≤ nc ∧ OwnL 37 1 EB w' w.heap.size v ((Z.setAt L (path n) t).map (·.d))))
set_option maxRecDepth 5000 in
theorem zset_live {X : Nat → Prop} {w : World} {Zb : Nat} {A : List (List UInt8)} {L : List Z.R} {K : Nat} (Z0 : ZLive X w Zb A L K) (hK : K ≤ 1000000) (n : List (List UInt8)) (ao : Option Addr) (len cap : Nat) (hl : Hid (n.length = len)) (hs : SlS w ao n) (hm : Hid (N.Small n)) (t : Nat) (ht : t < 65536) :
    Calls Tryz.prog 23 #[.pointer (some ⟨Zb, 0, none⟩), .slice ao len cap, .int .u16 (t : Int)] w fun e w' => SetR w L n len t e w' := by
  obtain ⟨ρ, G, C, Zx, hX, hth⟩ := Z0
  refine (zset_any w Zb A L ρ G C K Zx hK n ao len cap hl hs hm t ht).mono ?_
  rintro e w' ⟨hb, ⟨hC, rfl⟩ | ⟨S, na, nc, v, hC, rfl, h1, h2, h3⟩⟩
  · exact ⟨hb, Or.inl ⟨(Z.Of.none_iff Zx.of _ _).1 hC, rfl⟩⟩
  · have htt := Z.Of.ttl Zx.of (path n) t
    rw [hC] at htt
    have htt : S.ttl = Z.ttlAt L (path n) t := htt
    refine ⟨hb, Or.inr ⟨fun h => ?_, na, nc, v, by rw [htt], h1, h2, h3⟩⟩
    rw [(Z.Of.none_iff Zx.of _ _).2 h] at hC; cases hC
set_option maxRecDepth 5000 in
theorem ztypes_live {X : Nat → Prop} {w : World} {Zb : Nat} {A : List (List UInt8)} {L : List Z.R} {K : Nat} (Z0 : ZLive X w Zb A L K) (hK : K ≤ 1000000) (n : List (List UInt8)) (ao : Option Addr) (len cap : Nat) (hl : Hid (n.length = len)) (hs : SlS w ao n) (hm : Hid (N.Small n)) :
    Calls Tryz.prog 32 #[.pointer (some ⟨Zb, 0, none⟩), .slice ao len cap] w fun e w' => ∃ v, e = .returned v ∧ ∃ ts : List UInt16, ts.map (·.toNat) = Z.typesAt L (path n) ∧ OwnH w' w.heap.size v ts ∧ Below w.heap.size w w' := by
  obtain ⟨ρ, G, C, Zx, hX, hth⟩ := Z0
  exact ztypes_any w Zb A L ρ G C K Zx hK n ao len cap hl hs hm
/- Names, Records -/
set_option maxRecDepth 5000 in
theorem znames_live {X : Nat → Prop} {w : World} {Zb : Nat} {A : List (List UInt8)} {L : List Z.R} {K : Nat} (Z0 : ZLive X w Zb A L K) (hK : K ≤ 1000000) :
    Calls Tryz.prog 18 #[.pointer (some ⟨Zb, 0, none⟩)] w fun e w' => ∃ v, e = .returned v ∧ OwnL 28 1 EM w' w.heap.size v ((Z.paths L).map List.reverse) ∧ Below w.heap.size w w' := by
  obtain ⟨ρ, G, C, Zx, hX, hth⟩ := Z0
  exact znames_any w Zb A L ρ G C K Zx hK
set_option maxRecDepth 5000 in
theorem zrecords_live {X : Nat → Prop} {w : World} {Zb : Nat} {A : List (List UInt8)} {L : List Z.R} {K : Nat} (Z0 : ZLive X w Zb A L K) (hK : K ≤ 1000000) :
    Calls Tryz.prog 16 #[.pointer (some ⟨Zb, 0, none⟩)] w fun e w' => ∃ v, e = .returned v ∧ OwnL 39 5 ER w' w.heap.size v L ∧ Below w.heap.size w w' := by
  obtain ⟨ρ, G, C, Zx, hX, hth⟩ := Z0
  exact zrecords_any w Zb A L ρ G C K Zx hK hth
set_option maxRecDepth 5000 in
theorem ZKp.below {X : Nat → Prop} {w w' : World} {B : Nat} (h : ZKp X w w') (hX : ∀ i, i < B → X i) (hB : B ≤ w.heap.size) : Below B w w' :=
  ⟨h.os, h.tape, h.output, h.size, fun i hi => h.keep i (hX i hi) (Nat.lt_of_lt_of_le hi hB)⟩
end Go.Proofs.YtdldaphkiphpnaaGreat
