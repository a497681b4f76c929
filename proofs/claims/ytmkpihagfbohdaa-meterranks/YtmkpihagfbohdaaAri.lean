/- Sums, differences, products, quotients of floats: which are numbers, which not; alike of what is alike; the walk's law for both. -/
import Derived.Test.YtmkpihagfbohdaaMem
namespace Go.Proofs.Ytmkpihagfbohdaa
open Go.RowKit
namespace F
open Ieee
/- the result of an operation; where it is no number, the NaN that is told -/
def ar (op : BinOp) (x y : Nat) : Nat := (floatBits op .f64 x y).getD 9221120237041090561
def fin (b : Nat) : Bool := decide (rung b < 9218868437227405312)
set_option maxRecDepth 5000 in
theorem rung_word (s : Bool) (r : Nat) (h : r < 2 ^ 63) : rung (FloatKind.f64.format.word s r) = r := by
  unfold Format.word rung
  rw [fmt_sw]
  cases s
  · simp only [Bool.false_eq_true, if_false]; omega
  · simp only [if_true]; omega
set_option maxRecDepth 5000 in
theorem nan_word (s : Bool) (r : Nat) (h : r ≤ 9218868437227405312) : nan (FloatKind.f64.format.word s r) = false := by
  rw [nan_iff, rung_word s r (by omega)]; simp; omega
set_option maxRecDepth 5000 in
theorem nan_write (d : Datum) (h : d.isNaN = false) : nan (FloatKind.f64.format.write d) = false := by
  cases d with
  | number s m p =>
    show nan (FloatKind.f64.format.nearest s m p) = false
    unfold Format.nearest
    split
    · exact nan_word _ _ (by omega)
    · refine nan_word _ _ ?_
      rw [fmt_inf]; exact Nat.min_le_right _ _
  | infinity s => exact nan_word _ _ (by rw [fmt_inf]; exact Nat.le_refl _)
  | nan s t => cases h
set_option maxRecDepth 5000 in
theorem read_of_nan {x : Nat} (h : nan x = true) : ∃ s t, FloatKind.f64.format.read x = .nan s t := by
  unfold nan at h
  cases hd : FloatKind.f64.format.read x with
  | number s m p => rw [hd] at h; cases h
  | infinity s => rw [hd] at h; cases h
  | nan s t => exact ⟨s, t, rfl⟩
set_option maxRecDepth 5000 in
theorem fb_nan (op : BinOp) (x y : Nat) (h : nan x = true ∨ nan y = true) : floatBits op .f64 x y = none := by
  rcases h with h | h
  · obtain ⟨s, t, hr⟩ := read_of_nan h
    unfold floatBits
    cases op <;> simp only [Format.add, Format.sub, Format.mul, Format.div, hr] <;> first | rfl | (cases FloatKind.f64.format.read y <;> rfl)
  · obtain ⟨s, t, hr⟩ := read_of_nan h
    unfold floatBits
    cases op <;> simp only [Format.add, Format.sub, Format.mul, Format.div, hr] <;> first | rfl | (cases FloatKind.f64.format.read x <;> rfl)
set_option maxRecDepth 5000 in
theorem sum_num {d e r : Datum} (h : d.sum e = some r) : r.isNaN = false := by
  cases d <;> cases e <;> simp only [Datum.sum] at h <;> first | (cases h; done) | (cases h; rfl) | (split at h <;> first | (cases h; done) | (cases h; rfl)) | skip
set_option maxRecDepth 5000 in
theorem product_num {d e r : Datum} (h : d.product e = some r) : r.isNaN = false := by
  cases d <;> cases e <;> simp only [Datum.product] at h <;> first | (cases h; done) | (cases h; rfl) | (split at h <;> first | (cases h; done) | (cases h; rfl)) | skip
set_option maxRecDepth 5000 in
theorem quotient_num {k : Nat} {d e r : Datum} (h : d.quotient k e = some r) : r.isNaN = false := by
  cases d <;> cases e <;> simp only [Datum.quotient] at h <;> first | (cases h; done) | (cases h; rfl) | (split at h <;> first | (cases h; done) | (cases h; rfl) | (split at h <;> first | (cases h; done) | (cases h; rfl))) | skip
set_option maxRecDepth 5000 in
theorem map_num {o : Option Datum} {r : Nat} (h : o.map FloatKind.f64.format.write = some r) (hn : ∀ d, o = some d → d.isNaN = false) : nan r = false := by
  cases o with
  | none => cases h
  | some d => cases h; exact nan_write d (hn d rfl)
set_option maxRecDepth 5000 in
theorem fb_num {op : BinOp} {x y r : Nat} (h : floatBits op .f64 x y = some r) : nan r = false := by
  unfold floatBits at h
  split at h
  · exact map_num h fun d hd => sum_num hd
  · exact map_num h fun d hd => sum_num hd
  · exact map_num h fun d hd => product_num hd
  · exact map_num h fun d hd => quotient_num hd
  · cases h
set_option maxRecDepth 5000 in
theorem fb_lt {op : BinOp} {x y r : Nat} (h : floatBits op .f64 x y = some r) : r < 2 ^ 64 := by
  have := floatBits_wf h
  simpa [Lit.wf] using this
set_option maxRecDepth 5000 in
theorem ar_lt (op : BinOp) (x y : Nat) : ar op x y < 2 ^ 64 := by
  unfold ar
  cases h : floatBits op .f64 x y with
  | none => decide
  | some r => exact fb_lt h
set_option maxRecDepth 5000 in
theorem norm_nan {x y : Nat} (h : norm x = norm y) : nan x = nan y := by rw [← nan_norm x, h, nan_norm]
set_option maxRecDepth 5000 in
theorem norm_eq {x y : Nat} (h : norm x = norm y) (hx : nan x = false) : x = y := by
  have hy : nan y = false := by rw [← norm_nan h]; exact hx
  unfold norm at h; rw [hx, hy] at h; exact h
set_option maxRecDepth 5000 in
theorem ar_al (op : BinOp) {x x' y y' : Nat} (hx : norm x = norm x') (hy : norm y = norm y') : ar op x y = ar op x' y' := by
  unfold ar
  by_cases h : nan x = true ∨ nan y = true
  · rw [fb_nan op x y h, fb_nan op x' y' (by rw [← norm_nan hx, ← norm_nan hy]; exact h)]
  · have hx' := norm_eq hx (by cases hn : nan x <;> simp_all)
    have hy' := norm_eq hy (by cases hn : nan y <;> simp_all)
    subst hx'; subst hy'; rfl
set_option maxRecDepth 5000 in
theorem read_of_fin {x : Nat} (h : fin x = true) : ∃ m p, FloatKind.f64.format.read x = .number (neg x) m p ∧ -1074 ≤ p ∧ m * 2 ^ (p + 1074).toNat = V (rung x) := read_fin (by simpa [fin] using h)
set_option maxRecDepth 5000 in
theorem read_not_nan {x : Nat} (h : nan x = false) : (FloatKind.f64.format.read x).isNaN = false := h
set_option maxRecDepth 5000 in
theorem fin_nan {x : Nat} (h : fin x = true) : nan x = false := by
  rw [nan_iff]; simp [fin] at h ⊢; omega
set_option maxRecDepth 5000 in
theorem sub_ok {x v : Nat} (hx : nan x = false) (hv : fin v = true) : ∃ r, floatBits .sub .f64 x v = some r := by
  obtain ⟨m, p, hr, _⟩ := read_of_fin hv
  have hx := read_not_nan hx
  show ∃ r, ((FloatKind.f64.format.read x).sum (FloatKind.f64.format.read v).opposite).map _ = some r
  rw [hr]
  cases hd : FloatKind.f64.format.read x with
  | number s n q => exact ⟨_, rfl⟩
  | infinity s => exact ⟨_, rfl⟩
  | nan s t => rw [hd] at hx; cases hx
set_option maxRecDepth 5000 in
theorem add_ok {x v : Nat} (hv : fin v = true) (hx : nan x = false) : ∃ r, floatBits .add .f64 v x = some r := by
  obtain ⟨m, p, hr, _⟩ := read_of_fin hv
  have hx := read_not_nan hx
  show ∃ r, ((FloatKind.f64.format.read v).sum (FloatKind.f64.format.read x)).map _ = some r
  rw [hr]
  cases hd : FloatKind.f64.format.read x with
  | number s n q => exact ⟨_, rfl⟩
  | infinity s => exact ⟨_, rfl⟩
  | nan s t => rw [hd] at hx; cases hx
set_option maxRecDepth 5000 in
theorem V_pos {r : Nat} (h : 0 < r) : 0 < V r := by have := V_lt h; omega
set_option maxRecDepth 5000 in
theorem mul_ok {p x : Nat} (hp : fin p = true) (h0 : 0 < rung p) (hx : nan x = false) : ∃ r, floatBits .mul .f64 p x = some r := by
  obtain ⟨m, i, hr, _, hm⟩ := read_of_fin hp
  have hx := read_not_nan hx
  have hm0 : m ≠ 0 := fun e => by subst e; have := V_pos h0; omega
  show ∃ r, ((FloatKind.f64.format.read p).product (FloatKind.f64.format.read x)).map _ = some r
  rw [hr]
  cases hd : FloatKind.f64.format.read x with
  | number s n q => exact ⟨_, rfl⟩
  | infinity s => simp only [Datum.product, if_neg hm0]; exact ⟨_, rfl⟩
  | nan s t => rw [hd] at hx; cases hx
set_option maxRecDepth 5000 in
theorem ar_some {op : BinOp} {x y r : Nat} (h : floatBits op .f64 x y = some r) : ar op x y = r := by unfold ar; rw [h]; rfl
set_option maxRecDepth 5000 in
theorem nan_drawn (t : Nat) : nan ((t % 2) * 2 ^ 63 + 0x7ff0000000000000 + 1 + (t / 2) % (2 ^ 52 - 1)) = true ∧ (t % 2) * 2 ^ 63 + 0x7ff0000000000000 + 1 + (t / 2) % (2 ^ 52 - 1) < 2 ^ 64 := by
  rw [nan_iff]; unfold rung
  have h1 : (t / 2) % (2 ^ 52 - 1) < 2 ^ 52 - 1 := Nat.mod_lt _ (by decide)
  generalize (t / 2) % (2 ^ 52 - 1) = u at h1
  have h2 : t % 2 < 2 := Nat.mod_lt _ (by decide)
  generalize t % 2 = s at h2
  have : s = 0 ∨ s = 1 := by omega
  rcases this with rfl | rfl
  · simp; omega
  · simp; omega
end F
def isAr : BinOp → Bool
  | .add => true | .sub => true | .mul => true | .quo => true | _ => false
/- THE WALK's LAW: an operation on floats gives what is alike to ar; a draw is made where it is no number. -/
set_option maxRecDepth 5000 in
theorem run_ar (P : Program) (op : BinOp) (hop : isAr op = true) (t : TypeId) (x y : Nat) (w : World) :
    ∃ r q, (binOp op t (.float .f64 x) (.float .f64 y)).run P w = .ok (.float .f64 r) (w.drewN q) ∧ r < 2 ^ 64 ∧ F.norm r = F.norm (F.ar op x y) := by
  cases h : floatBits op .f64 x y with
  | some r =>
    exact ⟨r, 0, by rw [run_float_arith w op t .f64 x y r h]; rfl, F.fb_lt h, by rw [F.ar_some h]⟩
  | none =>
    have hn : F.ar op x y = 9221120237041090561 := by unfold F.ar; rw [h]; rfl
    have key : ∃ T, (binOp op t (.float .f64 x) (.float .f64 y)).run P w = .ok (.float .f64 ((T % 2) * 2 ^ 63 + 0x7ff0000000000000 + 1 + (T / 2) % (2 ^ 52 - 1))) (w.drewN 1) := by
      unfold floatBits at h
      cases op <;> simp only [isAr, Bool.false_eq_true] at hop h <;> exact ⟨_, by simp only [binOp, Op.floatArith, h]; rfl⟩
    obtain ⟨T, hT⟩ := key
    obtain ⟨h1, h2⟩ := F.nan_drawn T
    refine ⟨_, 1, hT, h2, ?_⟩
    rw [hn]
    unfold F.norm
    rw [h1, F.nan_told, if_pos rfl, if_pos rfl]
end Go.Proofs.Ytmkpihagfbohdaa
