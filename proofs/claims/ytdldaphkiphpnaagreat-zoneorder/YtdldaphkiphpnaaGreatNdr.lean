/- (*node).drop. -/
import Derived.Test.YtdldaphkiphpnaaGreatTrm
namespace Go.Proofs.YtdldaphkiphpnaaGreat
open Go.RowKit
set_option maxRecDepth 5000 in
theorem gput_self {G : List (List UInt8) → Option Nd} {p : List (List UInt8)} {x : Nd} (hx : G p = some x) : gput G p (some x) = G := by
  funext q
  by_cases e : q = p
  · rw [e, gput_same, hx]
  · rw [gput_other G e]
set_option maxRecDepth 5000 in
theorem TreeAt.del {w w' : World} {ρ : Nat → Role} {G : List (List UInt8) → Option Nd} {C C' : List (List UInt8) → Nat → Option Z.St} {K : Nat} (T : TreeAt w ρ G C K) {p : List (List UInt8)} {x : Nd} (hx : G p = some x) (bad : Nat → Prop) (hC : ∀ q t, q ≠ p → C' q t = C q t) (hC2 : ∀ t, ¬ bad t → C' p t = C p t)
    (h0 : Below 0 w w') (hoth : ∀ i, i < w.heap.size → i ≠ x.s → (∀ t, bad t → ρ i ≠ .data p t) → w'.heap[i]? = w.heap[i]?) (hsets : MapU w' x.s (fun s => (C' p s).map fun S => setV S (x.dm s)) K)
    (hdat : ∀ t S, bad t → C' p t = some S → (C p t).isSome ∧ ∃ h, MapS w' (x.dm t) h K ∧ ∀ y, DIs w' (S.g y) (h y)) (hmap : ∀ i t, bad t → ρ i = .data p t → ZObj w' i) : TreeAt w' ρ G C' K ∧ ZMv ρ w w' := by
  have hsz := h0.size
  have hslL : ∀ ao l, SlL w ao l → SlL w' ao l := fun ao l => slL_keep hsz fun i hi hz => by
    have h0 : ρ i = .none := Classical.byContradiction fun h0 => hz (T.kind i h0)
    exact hoth i hi (fun e => by rw [e, T.rs p x hx] at h0; cases h0) (fun t _ e => by rw [e] at h0; cases h0)
  have h1 : TreeAt w' ρ (gput G p (some x)) C' K := by
    refine T.turn hx rfl rfl rfl hC (Nat.le_refl _) (More.refl _ _) hsz (fun i hi h1 h2 => hoth i hi (fun e => h1 (by rw [e]; exact T.rs p x hx)) (fun t _ e => h2 t e)) hsets (fun t S hS => ?_) (fun i hi => ?_)
    · by_cases hb : bad t
      · obtain ⟨hs, h3⟩ := hdat t S hb hS
        obtain ⟨S0, hS0⟩ := Option.isSome_iff_exists.1 hs
        exact ⟨(T.cov p t S0 hS0).2, T.rd p x t S0 hx hS0, h3⟩
      · rw [hC2 t hb] at hS
        obtain ⟨h, h4, h5⟩ := (T.node p x hx).data t S hS
        have hr := T.rd p x t S hx hS
        refine ⟨(T.cov p t S hS).2, hr, h, h4.heap (hoth _ h4.lt (fun e => ?_) (fun s hs e => ?_)), fun y => (h5 y).keep hslL⟩
        · rw [e, T.rs p x hx] at hr; cases hr
        · rw [hr] at e; injection e with _ e; exact hb (by rw [e]; exact hs)
    · by_cases e : i = x.s
      · rw [e]; obtain ⟨es, k, h⟩ := hsets.obj; exact Or.inl ⟨es, k, h⟩
      · by_cases e2 : ∃ t, bad t ∧ ρ i = .data p t
        · obtain ⟨t, hb, e2⟩ := e2; exact hmap i t hb e2
        · exact (T.kind i hi).heap (hoth i (T.kind i hi).lt e fun t hb h => e2 ⟨t, hb, h⟩)
  rw [gput_self hx] at h1
  exact ⟨h1, h0.os, h0.tape, h0.output, hsz, fun i hi h2 => hoth i hi (fun e => by rw [e, T.rs p x hx] at h2; cases h2) (fun t _ e => by rw [e] at h2; cases h2)⟩
set_option maxHeartbeats 1500000 in
set_option maxRecDepth 5000 in
theorem ndrop_any (w : World) {ρ : Nat → Role} {G : List (List UInt8) → Option Nd} {C : List (List UInt8) → Nat → Option Z.St} {K : Nat} (T : TreeAt w ρ G C K) {p : List (List UInt8)} {x : Nd} (hx : G p = some x) (t : Nat) (ht : t < 65536) (c : List UInt8) (ca : Option Addr) (cc : Nat) (hsc : SlL w ca c) (hc8 : c.length ≤ 1000000) (S : Z.St) (hS : C p t = some S) :
    Calls Tryz.prog 68 #[.pointer (some ⟨x.n, 0, none⟩), .int .u16 (t : Int), .slice ca c.length cc] w fun e w' => e = .returned (.tuple #[]) ∧ ∃ last : Bool, (last = true ↔ ∀ y, y ≠ c → S.g y = none) ∧ TreeAt w' ρ G (Z.cdel C p t c last) K ∧ ZMv ρ w w' := by
  obtain ⟨m, hm⟩ : ∃ m, m = x.dm t := ⟨_, rfl⟩
  have NX := T.node p x hx
  obtain ⟨h0, hmap, hdi⟩ := NX.data t S hS
  rw [← hm] at hmap
  have hmr := T.rd p x t S hx hS
  rw [← hm] at hmr
  have hmn : m ≠ x.n := fun e => by rw [e, T.rn p x hx] at hmr; cases hmr
  have hms : m ≠ x.s := fun e => by rw [e, T.rs p x hx] at hmr; cases hmr
  obtain ⟨w1, hw1⟩ : ∃ w1, w1 = w.alloc (.cells #[.int .u32 (S.ttl : Int), .map (some m)] 91) := ⟨_, rfl⟩
  have hb1 : Below w.heap.size w w1 := by rw [hw1]; exact (Below.refl _ w).alloc (Nat.le_refl _) _
  have hz1 : w1.heap.size = w.heap.size + 1 := by rw [hw1]; simp
  have hbx : RowAt w1 w.heap.size 91 #[.int .u32 (S.ttl : Int), .map (some m)] := by rw [hw1]; exact RowAt.new w _ _
  have x0 : w.cell? ⟨x.n, 0, none⟩ = some (.map (some x.s)) := NX.row.cell 0
  have hlk := (NX.lookup t ht w rfl).2
  rw [hS] at hlk
  have hmv : setV S (x.dm t) = .agg #[.int .u32 (S.ttl : Int), .map (some m)] := by rw [hm]; rfl
  simp only [Option.map_some, Option.getD_some, hmv] at hlk
  have hcv : (convert 37 9 (.slice ca c.length cc)).run Tryz.prog w1 = .ok (.string ⟨c.toArray⟩) w1 := run_str c.length cc (hsc.below hb1 (Nat.le_refl _)) rfl
  have y1 : w1.cell? ⟨w.heap.size, 1, none⟩ = some (.map (some m)) := hbx.cell 1
  have hm1 : MapS w1 m h0 K := hmap.heap (hb1.block _ hmap.lt)
  obtain ⟨w2, hrun2, hM2, ht2⟩ := MapAt.drop hm1 keyedS Tryz.underlying89 (keyS c hc8) 0
  have hM2' : MapS w2 m (sdel h0 c) K := hM2.congr fun k => fdel_S _ _ k
  have hbx2 : RowAt w2 w.heap.size 91 #[.int .u32 (S.ttl : Int), .map (some m)] := (ht2.block _ (fun e => by have := hmap.lt; omega)).trans hbx
  have y2 : w2.cell? ⟨w.heap.size, 1, none⟩ = some (.map (some m)) := hbx2.cell 1
  obtain ⟨cnt, hlen, _, hcnt⟩ := hM2'.none_len keyedS Tryz.underlying89 3
  have hlast : (cnt = 0 ↔ ∀ y, y ≠ c → S.g y = none) := hcnt.trans ⟨(fun h y hy => by
      have h1 := h (.string y)
      have h1 : sdel h0 c y = none := h1
      unfold sdel at h1; rw [if_neg hy] at h1
      have h2 := (hdi y).same
      rw [h1] at h2
      cases hg : S.g y with
      | none => rfl
      | some d => rw [hg] at h2; cases h2), (fun h k => by
      cases hk : fS (sdel h0 c) k with
      | none => rfl
      | some v =>
        obtain ⟨s, rfl⟩ := fS_some (h := sdel h0 c) (k := k) (by rw [hk]; rfl)
        have h1 : sdel h0 c s = some v := hk
        unfold sdel at h1
        by_cases e : s = c
        · rw [if_pos e] at h1; cases h1
        · rw [if_neg e] at h1
          have h2 := (hdi s).same
          rw [h s e, h1] at h2; cases h2)⟩
  have hrx2 : RowAt w2 x.n 96 #[.map (some x.s), .map (some x.b)] := (ht2.block _ (fun e => hmn e.symm)).trans (NX.row.below hb1 NX.row.lt)
  have x2 : w2.cell? ⟨x.n, 0, none⟩ = some (.map (some x.s)) := hrx2.cell 0
  have hse2 : MapU w2 x.s (fun t => (C p t).map fun S => setV S (x.dm t)) K := (NX.sets.heap (hb1.block _ NX.sets.lt)).heap (ht2.block _ (fun e => hms e.symm))
  obtain ⟨w3, hrun3, hM3, ht3⟩ := MapAt.drop hse2 keyedH Tryz.underlying93 (keyH t ht) 0
  have hb2 : Below 0 w w2 := ⟨ht2.os.trans hb1.os, ht2.tape.trans hb1.tape, ht2.output.trans hb1.output, by have := ht2.size; omega, fun i hi => by omega⟩
  have ho2 : ∀ i, i < w.heap.size → i ≠ m → w2.heap[i]? = w.heap[i]? := fun i hi h1 => (ht2.block i h1).trans (hb1.block i hi)
  have hsl2 : ∀ ao l, SlL w ao l → SlL w2 ao l := fun ao l hs => slL_map ht2 (hs.below hb1 (Nat.le_refl _))
  have hsl3 : ∀ ao l, SlL w2 ao l → SlL w3 ao l := fun ao l hs => slL_map ht3 hs
  have HALL := hide (And.intro hM2' (And.intro hM3 (And.intro ht2 (And.intro ht3 (And.intro hb2 (And.intro ho2 (And.intro hsl2 (And.intro hsl3 (And.intro hse2 (And.intro hlast (And.intro hdi hmr)))))))))))
  have HT := hide T
  have HM := hide hm
  have HMS := hide hms
  subst hw1
  clear hM2' hM3 ht2 ht3 hb2 ho2 hsl2 hsl3 hse2 hlast hdi hmr hM2 hcnt hmn hms hm hb1 hz1 hbx hbx2 hrx2 hmap hm1 T NX hmv
  go_enter Tryz.func68, Tryz.ntmps68
  by_cases hc0 : cnt = 0
  · have hcb : ((cnt : Int) == 0) = true := by simp [hc0]
    go_wp2
    go_end0
    obtain ⟨hM2', hM3, ht2, ht3, hb2, ho2, hsl2, hsl3, hse2, hlast, hdi, hmr⟩ := HALL.out
    have hC1 : ∀ s, Z.cdel C p t c true p s = if s = t then none else C p s := fun s => by
      unfold Z.cdel
      by_cases e : s = t
      · rw [if_pos ⟨rfl, e⟩, if_pos e]; rfl
      · rw [if_neg (fun h => e h.2), if_neg e]
    refine ⟨rfl, true, ⟨fun _ => hlast.1 hc0, fun _ => rfl⟩, HT.out.del hx (fun s => s = t) (fun q s hq => by unfold Z.cdel; rw [if_neg (fun h => hq h.1)]) (fun s hs => by rw [hC1, if_neg hs]) ⟨ht3.os.trans hb2.os, ht3.tape.trans hb2.tape, ht3.output.trans hb2.output, by have := ht3.size; have := hb2.size; omega, fun i hi => by omega⟩ (fun i hi h1 h2 => ?_) ?_ (fun s S' hs h => by rw [hC1, if_pos hs] at h; cases h) (fun i s hs hr => ?_)⟩
    · refine (ht3.block i h1).trans (ho2 i hi (fun e => h2 t rfl ?_))
      rw [e]; exact hmr
    · refine MapU.ext (hM3.congr fun k => fdel_U _ t ht k) fun s hs => ?_
      rw [hC1]
      by_cases e : s = t
      · rw [if_pos e]; simp [udel, e]
      · rw [if_neg e]; simp [udel, e]
    · by_cases e : i = m
      · obtain ⟨es, k, h⟩ := hM2'.obj
        exact Or.inl ⟨es, k, by rw [e, ht3.block m HMS.out]; exact h⟩
      · subst hs
        refine (HT.out.kind i (by rw [hr]; simp)).heap ((ht3.block i (fun e2 => ?_)).trans (ho2 i (HT.out.kind i (by rw [hr]; simp)).lt e))
        rw [e2, HT.out.rs p x hx] at hr; cases hr
  · have hcb : ((cnt : Int) == 0) = false := by simp [hc0]
    go_wp2
    go_end0
    obtain ⟨hM2', hM3, ht2, ht3, hb2, ho2, hsl2, hsl3, hse2, hlast, hdi, hmr⟩ := HALL.out
    have hC1 : ∀ s, Z.cdel C p t c false p s = if s = t then some ⟨S.ttl, fun y => if y = c then none else S.g y⟩ else C p s := fun s => by
      unfold Z.cdel
      by_cases e : s = t
      · rw [if_pos ⟨rfl, e⟩, if_pos e, hS]; rfl
      · rw [if_neg (fun h => e h.2), if_neg e]
    refine ⟨rfl, false, ⟨(fun h => by cases h), fun h => absurd (hlast.2 h) hc0⟩, HT.out.del hx (fun s => s = t) (fun q s hq => by unfold Z.cdel; rw [if_neg (fun h => hq h.1)]) (fun s hs => by rw [hC1, if_neg hs]) hb2 (fun i hi h1 h2 => ?_) ?_ (fun s S' hs h => ?_) (fun i s hs hr => ?_)⟩
    · refine ho2 i hi (fun e => h2 t rfl ?_)
      rw [e]; exact hmr
    · refine MapU.ext hse2 fun s hs => ?_
      rw [hC1]
      by_cases e : s = t
      · rw [if_pos e, e, hS]; rfl
      · rw [if_neg e]
    · rw [hC1, if_pos hs] at h
      injection h with h
      subst h; subst hs
      refine ⟨by rw [hS]; rfl, _, by rw [← HM.out]; exact hM2', fun y => ?_⟩
      by_cases e : y = c
      · show DIs w2 (if y = c then none else S.g y) _
        rw [if_pos e]; simp [sdel, e, DIs]
      · show DIs w2 (if y = c then none else S.g y) _
        rw [if_neg e]
        have e9 : sdel h0 c y = h0 y := by simp [sdel, e]
        rw [e9]; exact (hdi y).keep hsl2
    · by_cases e : i = m
      · obtain ⟨es, k, h⟩ := hM2'.obj
        exact Or.inl ⟨es, k, by rw [e]; exact h⟩
      · exact (HT.out.kind i (by rw [hr]; simp)).heap (ho2 i (HT.out.kind i (by rw [hr]; simp)).lt e)
end Go.Proofs.YtdldaphkiphpnaaGreat
