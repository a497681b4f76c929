/- Values between: what a law's round comes to; min and max of floats; slices of numbers of 16 bits. -/
import Derived.Test.YtmkpihagfbohdaaBt0
import Derived.Test.YtmkpihagfbohdaaKnw
namespace Go.Proofs.Ytmkpihagfbohdaa
open Go.RowKit
namespace F
set_option maxRecDepth 5000 in
theorem between {k : Nat} (hk : k ≤ 3) {N X Q : Int} (h : X - N = Q * ((2 ^ k : Nat) : Int)) : (N ≤ X → N ≤ N + Q ∧ N + Q ≤ X) ∧ (X ≤ N → X ≤ N + Q ∧ N + Q ≤ N) := by
  have : k = 0 ∨ k = 1 ∨ k = 2 ∨ k = 3 := by omega
  rcases this with rfl | rfl | rfl | rfl <;> simp at h <;> omega
set_option maxRecDepth 5000 in
theorem div_step {k j : Nat} (hk : k ≤ 3) (hj : 1 ≤ j) (hj5 : j ≤ 5) {N : Int} (X : Int) (h : ((2 ^ (15 - k * (j - 1)) : Nat) : Int) ∣ N) : ∃ Q, X * 32768 - N = Q * ((2 ^ k : Nat) : Int) ∧ ((2 ^ (15 - k * j) : Nat) : Int) ∣ (N + Q) := by
  have h1 : k = 0 ∨ k = 1 ∨ k = 2 ∨ k = 3 := by omega
  have h2 : j = 1 ∨ j = 2 ∨ j = 3 ∨ j = 4 ∨ j = 5 := by omega
  refine ⟨(X * 32768 - N) / ((2 ^ k : Nat) : Int), ?_⟩
  rcases h1 with rfl | rfl | rfl | rfl <;> rcases h2 with rfl | rfl | rfl | rfl | rfl <;> simp at h ⊢ <;> omega
set_option maxRecDepth 5000 in
theorem is_min {a x : Nat} {A X : Int} (ha : Is a A) (hx : Is x X) : ∃ r, (∀ (P : Program) (ts : Array TypeId) (ty : TypeId) (w : World), (Builtin.min_ ts ty #[.float .f64 a, .float .f64 x]).run P w = .ok (.float .f64 r) w) ∧ Is r (min A X) := by
  have ho := is_order ha hx
  rcases Int.lt_trichotomy A X with h | h | h
  · rw [Int.compare_eq_lt.2 h] at ho
    exact ⟨a, fun P ts ty w => by simp [Builtin.min_, Builtin.min2, ho], by rw [Int.min_eq_left (by omega)]; exact ha⟩
  · subst h
    rw [Int.compare_eq_eq.2 rfl] at ho
    refine ⟨if (FloatKind.f64.decode a).neg then a else x, fun P ts ty w => by simp [Builtin.min_, Builtin.min2, ho], ?_⟩
    rw [Int.min_self]
    split
    · exact ha
    · exact hx
  · rw [Int.compare_eq_gt.2 h] at ho
    exact ⟨x, fun P ts ty w => by simp [Builtin.min_, Builtin.min2, ho], by rw [Int.min_eq_right (by omega)]; exact hx⟩
set_option maxRecDepth 5000 in
theorem is_max {a x : Nat} {A X : Int} (ha : Is a A) (hx : Is x X) : ∃ r, (∀ (P : Program) (ts : Array TypeId) (ty : TypeId) (w : World), (Builtin.max_ ts ty #[.float .f64 a, .float .f64 x]).run P w = .ok (.float .f64 r) w) ∧ Is r (max A X) := by
  have ho := is_order ha hx
  rcases Int.lt_trichotomy A X with h | h | h
  · rw [Int.compare_eq_lt.2 h] at ho
    exact ⟨x, fun P ts ty w => by simp [Builtin.max_, Builtin.max2, ho], by rw [Int.max_eq_right (by omega)]; exact hx⟩
  · subst h
    rw [Int.compare_eq_eq.2 rfl] at ho
    refine ⟨if (FloatKind.f64.decode a).neg then x else a, fun P ts ty w => by simp [Builtin.max_, Builtin.max2, ho], ?_⟩
    rw [Int.max_self]
    split
    · exact hx
    · exact ha
  · rw [Int.compare_eq_gt.2 h] at ho
    exact ⟨a, fun P ts ty w => by simp [Builtin.max_, Builtin.max2, ho], by rw [Int.max_eq_left (by omega)]; exact ha⟩
set_option maxRecDepth 5000 in
theorem is_nlt {a b : Nat} {A B : Int} (ha : Is a A) (hb : Is b B) (h : B ≤ A) : (FloatKind.f64.format.order a b == some .lt) = false := by
  rw [is_order ha hb]
  rcases Int.lt_trichotomy A B with g | g | g
  · omega
  · rw [Int.compare_eq_eq.2 g]; rfl
  · rw [Int.compare_eq_gt.2 g]; rfl
set_option maxRecDepth 5000 in
theorem is_ngt {a b : Nat} {A B : Int} (ha : Is a A) (hb : Is b B) (h : A ≤ B) : (FloatKind.f64.format.order a b == some .gt) = false := by
  rw [is_order ha hb]
  rcases Int.lt_trichotomy A B with g | g | g
  · rw [Int.compare_eq_lt.2 g]; rfl
  · rw [Int.compare_eq_eq.2 g]; rfl
  · omega
set_option maxRecDepth 5000 in
theorem bnd1 {lo hi X N Q : Int} (h1 : lo * 32768 ≤ N) (h2 : N ≤ hi * 32768) (hb : (N ≤ X * 32768 → N ≤ N + Q ∧ N + Q ≤ X * 32768) ∧ (X * 32768 ≤ N → X * 32768 ≤ N + Q ∧ N + Q ≤ N)) : min lo X * 32768 ≤ N + Q ∧ N + Q ≤ max hi X * 32768 := by
  have a1 := Int.min_le_left lo X
  have a2 := Int.min_le_right lo X
  have a3 := Int.le_max_left hi X
  have a4 := Int.le_max_right hi X
  generalize min lo X = L at *
  generalize max hi X = H at *
  rcases Int.le_total N (X * 32768) with h | h
  · have := hb.1 h; omega
  · have := hb.2 h; omega
set_option maxRecDepth 5000 in
theorem bnd2 {lo hi N : Int} (h1 : lo * 32768 ≤ N) (h2 : N ≤ hi * 32768) (a : lo.natAbs ≤ 32768) (b : hi.natAbs ≤ 32768) : N.natAbs < 2 ^ 31 := by omega
set_option maxRecDepth 5000 in
theorem bnd3 {X N Q : Int} (hN : N.natAbs < 2 ^ 31) (hX : X.natAbs ≤ 32768) (hb : (N ≤ X * 32768 → N ≤ N + Q ∧ N + Q ≤ X * 32768) ∧ (X * 32768 ≤ N → X * 32768 ≤ N + Q ∧ N + Q ≤ N)) : Q.natAbs < 2 ^ 40 := by
  rcases Int.le_total N (X * 32768) with h | h
  · have := hb.1 h; omega
  · have := hb.2 h; omega
set_option maxRecDepth 5000 in
theorem bnd4 {lo hi X : Int} : min lo X * 32768 ≤ X * 32768 ∧ X * 32768 ≤ max hi X * 32768 := by
  have a2 := Int.min_le_right lo X
  have a4 := Int.le_max_right hi X
  omega
set_option maxRecDepth 5000 in
theorem bnd5 {X : Int} (hX : X.natAbs ≤ 32768) : (X * 32768).natAbs < 2 ^ 39 := by omega
/- a value behind j numbers, by parts of 2 ^ k, between lo and hi -/
def Val (k j : Nat) (v : Nat) (lo hi : Int) : Prop := (j = 0 → v = 9221120237041090561) ∧ (0 < j → ∃ N, Is v N ∧ lo * 32768 ≤ N ∧ N ≤ hi * 32768 ∧ ((2 ^ (15 - k * (j - 1)) : Nat) : Int) ∣ N)
set_option maxRecDepth 5000 in
theorem val_step {k P j v : Nat} {lo hi X : Int} (hk : k ≤ 3) (hP : FloatKind.f64.format.read P = .number false (2 ^ 52) (-52 - (k : Int))) (hj : j ≤ 5) (hv : Val k j v lo hi) (hlo : lo.natAbs ≤ 32768) (hhi : hi.natAbs ≤ 32768) (hX : X.natAbs ≤ 32768) :
    Val k (j + 1) (step P v (floatOfInt .f64 X)) (min lo X) (max hi X) ∧ ∃ N, Is (step P v (floatOfInt .f64 X)) N ∧ min lo X * 32768 ≤ N ∧ N ≤ max hi X * 32768 := by
  have hx := is_int X hX
  have key : ∃ N, Is (step P v (floatOfInt .f64 X)) N ∧ min lo X * 32768 ≤ N ∧ N ≤ max hi X * 32768 ∧ ((2 ^ (15 - k * (j + 1 - 1)) : Nat) : Int) ∣ N := by
    rw [Nat.add_sub_cancel]
    by_cases h0 : j = 0
    · have := hv.1 h0
      subst h0
      subst this
      refine ⟨X * 32768, ?_, (bnd4 (hi := hi)).1, (bnd4 (lo := lo)).2, ?_⟩
      · unfold step; rw [show fin 9221120237041090561 = false by kernel_rfl, if_neg (by decide)]; exact hx
      · rw [Nat.mul_zero, show ((2 ^ (15 - 0) : Nat) : Int) = 32768 from rfl]; exact ⟨X, Int.mul_comm _ _⟩
    · obtain ⟨N, hN, h1, h2, h3⟩ := hv.2 (by omega)
      obtain ⟨Q, hQ, hd⟩ := div_step hk (by omega) hj X h3
      have hb := between hk hQ
      have hNb := bnd2 h1 h2 hlo hhi
      have hs := step_is hk hP hN hx Q hQ (Nat.lt_trans hNb (by decide)) (bnd5 hX) (bnd3 hNb hX hb)
      have hbb := bnd1 h1 h2 hb
      exact ⟨N + Q, hs, hbb.1, hbb.2, hd⟩
  obtain ⟨N, h1, h2, h3, h4⟩ := key
  exact ⟨⟨fun h => by omega, fun _ => ⟨N, h1, h2, h3, h4⟩⟩, N, h1, h2, h3⟩
end F
/- the address ao of a slice that holds the numbers l, 16 bits each -/
def SlI (w : World) (ao : Option Addr) (l : List Int) : Prop := 0 < l.length → ∃ b o, ao = some ⟨b, o, none⟩ ∧ b < w.heap.size ∧ ∀ j, j < l.length → w.cell? ⟨b, o + j, none⟩ = some (.int .i16 (l.getD j 0))
set_option maxRecDepth 5000 in
theorem SlI.below {B : Nat} {w w' : World} {ao : Option Addr} {l : List Int} (h : SlI w ao l) (hb : Below B w w') (hB : w.heap.size ≤ B) : SlI w' ao l := fun hn => by
  obtain ⟨b, o, e, hlt, hc⟩ := h hn
  exact ⟨b, o, e, Nat.lt_of_lt_of_le hlt hb.size, fun j hj => (hb.cell (p := ⟨b, o + j, none⟩) (Nat.lt_of_lt_of_le hlt hB)).trans (hc j hj)⟩
end Go.Proofs.Ytmkpihagfbohdaa
