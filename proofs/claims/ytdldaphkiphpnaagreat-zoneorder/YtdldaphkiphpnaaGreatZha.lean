/- New, Has, Len of zones. -/
import Derived.Test.YtdldaphkiphpnaaGreatTrm
import Derived.Test.YtdldaphkiphpnaaGreatZpl2
namespace Go.Proofs.YtdldaphkiphpnaaGreat
open Go.RowKit
set_option maxRecDepth 5000 in
theorem TreeAt.new {w : World} {n s b : Nat} (hn : RowAt w n 96 #[.map (some s), .map (some b)]) (hs : MapU w s (fun _ => none) 0) (hb : MapS w b (fun _ => none) 0) (d1 : n ≠ s) (d2 : n ≠ b) (d3 : s ≠ b) :
    TreeAt w (role3 (fun _ => .none) [] ⟨n, s, b, fun _ => 0⟩) (gput (fun _ => none) [] (some ⟨n, s, b, fun _ => 0⟩)) (fun _ _ => none) 0 := by
  have hg : ∀ q x, gput (fun _ => none) [] (some (⟨n, s, b, fun _ => 0⟩ : Nd)) q = some x → q = [] ∧ x = (⟨n, s, b, fun _ => 0⟩ : Nd) := fun q x h => by
    by_cases e : q = []
    · rw [e, gput_same] at h; injection h with h; exact ⟨e, h.symm⟩
    · rw [gput_other _ e] at h; cases h
  refine ⟨by rw [gput_same]; rfl, fun p l h => ?_, fun p x hx => ?_, fun p t S h => (by cases h), fun p x hx => ?_, fun p x hx => ?_, fun p x hx => ?_, fun p x t S _ h => (by cases h), fun i hi => ?_⟩
  · rw [gput_other _ (by simp)] at h; cases h
  · obtain ⟨rfl, rfl⟩ := hg p x hx
    refine ⟨hn, MapU.ext hs fun t _ => rfl, MapS.ext hb fun l => (by rw [gput_other _ (by simp)]; rfl), fun t S h => (by cases h)⟩
  · obtain ⟨rfl, rfl⟩ := hg p x hx
    unfold role3; rw [if_pos rfl]
  · obtain ⟨rfl, rfl⟩ := hg p x hx
    unfold role3; rw [if_neg (fun e => d1 e.symm), if_pos rfl]
  · obtain ⟨rfl, rfl⟩ := hg p x hx
    unfold role3; rw [if_neg (fun e => d2 e.symm), if_neg (fun e => d3 e.symm), if_pos rfl]
  · unfold role3 at hi
    by_cases e1 : i = n
    · rw [e1]; exact Or.inr ⟨_, _, hn⟩
    · by_cases e2 : i = s
      · rw [e2]; obtain ⟨es, k, h⟩ := hs.obj; exact Or.inl ⟨es, k, h⟩
      · by_cases e3 : i = b
        · rw [e3]; obtain ⟨es, k, h⟩ := hb.obj; exact Or.inl ⟨es, k, h⟩
        · exact absurd (by show (if i = n then Role.node [] else if i = s then .sets [] else if i = b then .below [] else .none) = .none; rw [if_neg e1, if_neg e2, if_neg e3]) hi
set_option maxHeartbeats 1000000 in
set_option maxRecDepth 5000 in
theorem znew_any (w : World) (n : List (List UInt8)) (ao : Option Addr) (len cap : Nat) (hl : Hid (n.length = len)) (hs : SlS w ao n) (hm : Hid (N.Small n)) :
    Calls Tryz.prog 11 #[.slice ao len cap] w fun e w' => ∃ Zb ρ G, e = .returned (.pointer (some ⟨Zb, 0, none⟩)) ∧ w.heap.size ≤ Zb ∧ ZAt w' Zb (N.lowN n) [] ρ G (fun _ _ => none) 0 ∧ (∀ i, i < w.heap.size → ρ i = .none) ∧ Below w.heap.size w w' := by
  have HS := hide hs
  clear hs
  go_enter Tryz.func11, Tryz.ntmps11
  go_wp2_with (first
    | (go_at_call 41; refine (lower_any n ao len cap _ hl HS.out hm).mono ?_; rintro e w1 ⟨v1, rfl, hv1, hb1⟩; obtain ⟨a1, c1, rfl, hs1, _, hc1⟩ := hv1.ty)
    | (go_at_call 42; refine (newNode_any _).mono ?_; rintro e w2 ⟨rfl, hw2⟩; unfold ptr))
  go_ret
  have hz1 := hb1.size
  obtain ⟨w3, hw3⟩ : ∃ w3, w3 = ((w1.alloc (.map #[] 0)).alloc (.map #[] 0)).alloc (.cells #[.map (some w1.heap.size), .map (some (w1.heap.size + 1))] 96) := ⟨_, rfl⟩
  have hz3 : w3.heap.size = w1.heap.size + 3 := by rw [hw3]; simp
  have hb3 : Below w1.heap.size w1 w3 := by rw [hw3]; exact (((Below.refl _ w1).alloc (Nat.le_refl _) _).alloc (by simp) _).alloc (by simp; omega) _
  have hn3 : RowAt w3 (w1.heap.size + 2) 96 #[.map (some w1.heap.size), .map (some (w1.heap.size + 1))] := by
    rw [hw3]
    have := RowAt.new ((w1.alloc (.map #[] 0)).alloc (.map #[] 0)) 96 #[.map (some w1.heap.size), .map (some (w1.heap.size + 1))]
    simpa using this
  have hs3 : MapU w3 w1.heap.size (fun _ => none) 0 := by
    rw [hw3]
    refine (MapU.made w1 0).heap ?_
    rw [Below.heap_alloc _ _ _ (by simp; omega), Below.heap_alloc _ _ _ (by simp)]
  have hbm3 : MapS w3 (w1.heap.size + 1) (fun _ => none) 0 := by
    rw [hw3]
    have := MapS.made (w1.alloc (.map #[] 0)) 0
    rw [World.size_alloc] at this
    exact this.heap (Below.heap_alloc _ _ _ (by simp))
  rw [← hw3, show w1.heap.size + 1 + 1 + 1 = w3.heap.size from hz3.symm]
  have hal : ∀ o, Below w3.heap.size w3 (w3.alloc o) := fun o => (Below.refl _ w3).alloc (Nat.le_refl _) o
  have T := TreeAt.new hn3 hs3 hbm3 (by omega) (by omega) (by omega)
  refine ⟨w3.heap.size, role3 (fun _ => .none) [] ⟨w1.heap.size + 2, w1.heap.size, w1.heap.size + 1, fun _ => 0⟩, gput (fun _ => none) [] (some ⟨w1.heap.size + 2, w1.heap.size, w1.heap.size + 1, fun _ => 0⟩), rfl, by omega, ⟨⟨a1, c1, ?_, (hs1.1.below hb3 (Nat.le_refl _)).below (hal _) (Nat.le_refl _), hc1⟩, T.below_ (hal _), Z.Of.nil, List.Pairwise.nil, fun _ h => (by cases h), fun p hp => ?_, by simp, fun _ h => (by cases h), ?_⟩, fun i hi => ?_, ?_⟩
  · have := RowAt.new w3 83 #[.slice a1 (N.lowN n).length c1, .pointer (some ⟨w1.heap.size + 2, 0, none⟩), .int .i64 0]
    exact this
  · left
    by_cases e : p = []
    · exact e
    · rw [gput_other _ e] at hp; cases hp
  · show role3 _ _ _ w3.heap.size = _
    unfold role3
    rw [if_neg (by show w3.heap.size ≠ w1.heap.size + 2; omega), if_neg (by show w3.heap.size ≠ w1.heap.size; omega), if_neg (by show w3.heap.size ≠ w1.heap.size + 1; omega)]
  · unfold role3
    rw [if_neg (by show i ≠ w1.heap.size + 2; omega), if_neg (by show i ≠ w1.heap.size; omega), if_neg (by show i ≠ w1.heap.size + 1; omega)]
  · exact (hb1.trans (hb3.mono hz1)).alloc (by omega) _
set_option maxRecDepth 5000 in
theorem zlen_any (w : World) (Zb : Nat) (A : List (List UInt8)) (L : List Z.R) (ρ : Nat → Role) (G : List (List UInt8) → Option Nd) (C : List (List UInt8) → Nat → Option Z.St) (K : Nat) (Zx : ZAt w Zb A L ρ G C K) :
    Calls Tryz.prog 14 #[.pointer (some ⟨Zb, 0, none⟩)] w fun e w' => e = .returned (.int .i64 (L.length : Int)) ∧ w' = w := by
  obtain ⟨ao, cap, hr, _⟩ := Zx.row
  have x2 : w.cell? ⟨Zb, 2, none⟩ = some (.int .i64 (L.length : Int)) := hr.cell 2
  clear Zx hr
  go_enter Tryz.func14, Tryz.ntmps14
  go_wp2
  go_ret
  exact ⟨rfl, rfl⟩
/- whether anything stands at or below a path -/
set_option maxRecDepth 5000 in
theorem ZAt.has_iff {w : World} {Zb : Nat} {A : List (List UInt8)} {L : List Z.R} {ρ : Nat → Role} {G : List (List UInt8) → Option Nd} {C : List (List UInt8) → Nat → Option Z.St} {K : Nat} (Zx : ZAt w Zb A L ρ G C K) (p : List (List UInt8)) : Z.has L p = true ↔ ¬ ((∀ t, C p t = none) ∧ ∀ l, G (p ++ [l]) = none) := by
  rw [Z.has_iff]
  constructor
  · rintro ⟨x, hx, r, hr⟩ ⟨h1, h2⟩
    obtain ⟨S, hS⟩ := Zx.of.hasS hx
    cases r with
    | nil => rw [List.append_nil] at hr; rw [← hr, h1] at hS; cases hS
    | cons l r =>
      have h3 := (Zx.tree.cov _ _ S hS).1
      rw [← hr] at h3
      have h4 := Zx.tree.pre r (p ++ [l]) (by simpa using h3)
      rw [h2 l] at h4; cases h4
  · intro h
    refine Classical.byContradiction fun hno => h ⟨fun t => ?_, fun l => ?_⟩
    · cases hC : C p t with
      | none => rfl
      | some S =>
        obtain ⟨x, hx, e, _⟩ := Zx.of.ex p t S hC
        exact absurd ⟨x, hx, by rw [e]; exact List.prefix_refl _⟩ hno
    · cases hg : G (p ++ [l]) with
      | none => rfl
      | some y =>
        rcases Zx.cov _ (by rw [hg]; rfl) with e | ⟨x, hx, e⟩
        · simp at e
        · exact absurd ⟨x, hx, (List.prefix_append _ _).trans e⟩ hno
set_option maxRecDepth 5000 in
theorem ZAt.find {w : World} {Zb : Nat} {A : List (List UInt8)} {L : List Z.R} {ρ : Nat → Role} {G : List (List UInt8) → Option Nd} {C : List (List UInt8) → Nat → Option Z.St} {K : Nat} (Zx : ZAt w Zb A L ρ G C K) (n : List (List UInt8)) (ao : Option Addr) (len cap : Nat) (hl : Hid (n.length = len)) (hs : SlS w ao n) (hm : Hid (N.Small n)) :
    Calls Tryz.prog 51 #[.pointer (some ⟨Zb, 0, none⟩), .slice ao len cap] w fun e w' => ∃ x : Nd, e = .returned (.pointer (some ⟨x.n, 0, none⟩)) ∧ Found w w' G C K (path n) x := by
  obtain ⟨aa, ac, hr, _⟩ := Zx.row
  exact find_any w Zb _ _ ρ G C K Zx.tree hr n ao len cap hl hs hm
set_option maxRecDepth 5000 in
theorem zhas_any (w : World) (Zb : Nat) (A : List (List UInt8)) (L : List Z.R) (ρ : Nat → Role) (G : List (List UInt8) → Option Nd) (C : List (List UInt8) → Nat → Option Z.St) (K : Nat) (Zx : ZAt w Zb A L ρ G C K) (n : List (List UInt8)) (ao : Option Addr) (len cap : Nat) (hl : Hid (n.length = len)) (hs : SlS w ao n) (hm : Hid (N.Small n)) :
    Calls Tryz.prog 29 #[.pointer (some ⟨Zb, 0, none⟩), .slice ao len cap] w fun e w' => e = .returned (.bool (Z.has L (path n))) ∧ Below w.heap.size w w' := by
  have hf := Zx.find n ao len cap hl hs hm
  have HZ := hide Zx
  have hh := Zx.has_iff (path n)
  clear hs Zx
  go_enter Tryz.func29, Tryz.ntmps29
  go_wp2_with (first
    | (go_at_call 51; refine hf.mono ?_; rintro e w1 ⟨x, rfl, hF⟩)
    | (go_at_call 57; refine (empty_node w1 hF.node (fun t S h => (HZ.out.tree.cov _ t S h).2)).mono ?_; rintro e wq ⟨r, rfl, hwq, hr⟩; rw [hwq]; clear hwq wq))
  go_ret
  refine ⟨?_, hF.bel⟩
  have : Z.has L (path n) = !r := by
    rw [Bool.eq_iff_iff, hh, ← hr]; simp
  rw [this]; rfl
end Go.Proofs.YtdldaphkiphpnaaGreat
