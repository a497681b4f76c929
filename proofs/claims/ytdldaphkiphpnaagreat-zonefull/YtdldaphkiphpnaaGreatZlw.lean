/- One record put, put again, dropped, plain; the seat's records. -/
import Derived.Test.YtdldaphkiphpnaaGreatZsp0
import Derived.Test.YtdldaphkiphpnaaGreatZlv
namespace Go.Proofs.YtdldaphkiphpnaaGreat
open Go.RowKit
namespace Z
set_option maxRecDepth 5000 in
theorem data_ok (k j : Nat) (hk : k < 256) : ∃ c, cn (typeK j) (dataK (typeK j) k) = some c := by
  have h : ∀ k, k < 256 → ∀ j, j < 10 → (cn (kinds.getD j 0) (dataK (kinds.getD j 0) k)).isSome = true := by decide +kernel
  exact Option.isSome_iff_exists.1 (h k hk (j % 10) (Nat.mod_lt _ (by decide)))
set_option maxRecDepth 5000 in
theorem put_nil (r : R) : put [] r = [r] := by
  have h : there [] r = false := rfl
  unfold put
  rw [h, if_neg (by simp)]
  show [setT r.p r.t r.ttl r] = [r]
  unfold setT; rw [if_pos ⟨rfl, rfl⟩]
set_option maxRecDepth 5000 in
theorem there_one (r : R) (ttl : Nat) (d : List UInt8) : there [r] ⟨r.p, r.t, r.c, ttl, d⟩ = true := there_iff.2 ⟨r, by simp, rfl, rfl, rfl⟩
set_option maxRecDepth 5000 in
theorem ttlAt_one (r : R) : ttlAt [r] r.p r.t = r.ttl := by
  have h : setAt [r] r.p r.t = [r] := by unfold setAt; simp
  unfold ttlAt; rw [h]; rfl
set_option maxRecDepth 5000 in
theorem put_one (r : R) (ttl : Nat) (d : List UInt8) : put [r] ⟨r.p, r.t, r.c, ttl, d⟩ = [⟨r.p, r.t, r.c, ttl, r.d⟩] := by
  unfold put
  rw [there_one, if_pos rfl]
  show [setT r.p r.t ttl r] = _
  unfold setT; rw [if_pos ⟨rfl, rfl⟩]
set_option maxRecDepth 5000 in
theorem drop_one (r : R) : drop [r] r.p r.t r.c = [] := by
  unfold drop
  have h : isK r.p r.t r.c r = true := isK_iff.2 ⟨rfl, rfl, rfl⟩
  simp [h]
/- a name and data that may be put -/
structure Fine (A n : List (List UInt8)) (t : Nat) (d c : List UInt8) : Prop where
  chk : N.chk n = 0
  win : N.within n A = true
  cn_ : cn t d = some c
set_option maxRecDepth 5000 in
theorem putR_fine {A n : List (List UInt8)} {t : Nat} {d c : List UInt8} (h : Fine A n t d c) (L : List R) (ttl : Nat) : putR A L n t 1 ttl d = if there L ⟨path n, t, c, ttl, d⟩ = true then (if ttlAt L (path n) t = ttl then (false, 0, L) else (true, 0, put L ⟨path n, t, c, ttl, d⟩)) else if 2000 ≤ L.length then (false, 111, L) else (true, 0, put L ⟨path n, t, c, ttl, d⟩) := by
  unfold putR
  rw [if_neg (by rintro (h1 | h1); exact h1 h.chk; rw [h.win] at h1; cases h1), if_neg (by simp), h.cn_]
set_option maxRecDepth 5000 in
theorem putR_nil {A n : List (List UInt8)} {t : Nat} {d c : List UInt8} (h : Fine A n t d c) (ttl : Nat) : putR A [] n t 1 ttl d = (true, 0, [⟨path n, t, c, ttl, d⟩]) := by
  rw [putR_fine h, put_nil]
  have : there [] (⟨path n, t, c, ttl, d⟩ : R) = false := rfl
  rw [this, if_neg (by simp), if_neg (by simp)]
set_option maxRecDepth 5000 in
theorem putR_one {A n : List (List UInt8)} {t : Nat} {d c : List UInt8} (h : Fine A n t d c) (ttl ttl' : Nat) : putR A [⟨path n, t, c, ttl, d⟩] n t 1 ttl' d = (!decide (ttl' = ttl), 0, [⟨path n, t, c, ttl', d⟩]) := by
  rw [putR_fine h, put_one (⟨path n, t, c, ttl, d⟩ : R), there_one (⟨path n, t, c, ttl, d⟩ : R), if_pos rfl]
  have := ttlAt_one (⟨path n, t, c, ttl, d⟩ : R)
  rw [this]
  by_cases e : ttl' = ttl
  · subst e; simp
  · rw [if_neg (fun h => e h.symm)]; simp [e]
set_option maxRecDepth 5000 in
theorem putR_far {A n : List (List UInt8)} (h : N.within n A = false) (L : List R) (t cl ttl : Nat) (d : List UInt8) : putR A L n t cl ttl d = (false, 110, L) := by
  unfold putR; rw [if_pos (Or.inr h)]
set_option maxRecDepth 5000 in
theorem dropR_one {A n : List (List UInt8)} {t : Nat} {d c : List UInt8} (h : Fine A n t d c) (ttl : Nat) : dropR [⟨path n, t, c, ttl, d⟩] n t d = (true, []) := by
  unfold dropR
  rw [h.cn_]
  have h1 := there_one (⟨path n, t, c, ttl, d⟩ : R) 0 d
  have h2 := drop_one (⟨path n, t, c, ttl, d⟩ : R)
  show (if _ then _ else _) = _
  rw [if_pos h1, h2]
set_option maxRecDepth 5000 in
theorem dropR_nil {A n : List (List UInt8)} {t : Nat} {d c : List UInt8} (h : Fine A n t d c) : dropR [] n t d = (false, []) := by
  unfold dropR
  rw [h.cn_]
  show (if _ then _ else _) = _
  rw [if_neg (by have : there [] (⟨path n, t, c, 0, d⟩ : R) = false := rfl; rw [this]; simp)]
set_option maxRecDepth 5000 in
theorem setAt_one (p : List (List UInt8)) (t : Nat) (c d : List UInt8) (ttl : Nat) : setAt [⟨p, t, c, ttl, d⟩] p t = [⟨p, t, c, ttl, d⟩] := by unfold setAt; simp
set_option maxRecDepth 5000 in
theorem seat_fine (k : Nat) : ∃ c, Fine exA (owner (k % 256)) (typeK (k / 256 % 256)) (dataK (typeK (k / 256 % 256)) (k / 65536 % 256)) c := by
  obtain ⟨c, hc⟩ := data_ok (k / 65536 % 256) (k / 256 % 256) (Nat.mod_lt _ (by decide))
  exact ⟨c, (owner_good _).1, (owner_good _).2.1, hc⟩
set_option maxRecDepth 5000 in
theorem ttlK_lt (k : Nat) : ttlK k < 4294967296 := by
  have h : ∀ j, j < 4 → [30, 30, 60, 5].getD j 0 < 4294967296 := by decide
  exact h _ (Nat.mod_lt _ (by decide))
end Z
set_option maxRecDepth 5000 in
theorem exA_small : N.Small Z.exA := by
  have h2 : Z.exA.length ≤ 1000000 ∧ ∀ l ∈ Z.exA, l.length ≤ 1000000 := by decide
  exact h2
set_option maxRecDepth 5000 in
theorem exA_low : N.lowN Z.exA = Z.exA := by decide +kernel
end Go.Proofs.YtdldaphkiphpnaaGreat
