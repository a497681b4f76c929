/- Small facts for the walk of hash.Sum: the contracts of compress and packed at literal rows, the last bytes as the padded text's. -/
import Derived.Test.YtgmjppmcfmcmkaaDoorPadded
import Derived.Deep.RegionWith
namespace Go.Proofs.YtgmjppmcfmcmkaaDoor
namespace H
open Go.RowKit
set_option maxRecDepth 5000 in
theorem mw_shift (p : Nat → BitVec 8) (k : Nat) : Sha.mw (fun j => p (k + j)) 0 = Sha.mw p k := by
  funext i; simp only [Sha.mw, Nat.zero_add, Nat.add_assoc]
set_option maxRecDepth 5000 in
theorem comp_at (s : Sha.St) (p : Nat → BitVec 8) (k : Nat) (b o n cap : Nat) (w : World) (hn : 64 ≤ n) (hm : n ≤ 9223372036854775807) (hb : b < w.heap.size)
    (hc : ∀ j, j < 64 → w.cell? ⟨b, o + j, none⟩ = some (.int .u8 (p (k + j)).toNat)) (hT : Tab w) :
    Calls Tryd.prog 32 #[.agg #[.int .u32 s.a.toNat, .int .u32 s.b.toNat, .int .u32 s.c.toNat, .int .u32 s.d.toNat, .int .u32 s.e.toNat, .int .u32 s.f.toNat, .int .u32 s.g.toNat, .int .u32 s.h.toNat], .slice (some ⟨b, o, none⟩) n cap] w
      fun e w' => ∃ t : Sha.St, Hid (t = Sha.comp s (Sha.mw p k)) ∧ e = .returned (.agg #[.int .u32 t.a.toNat, .int .u32 t.b.toNat, .int .u32 t.c.toNat, .int .u32 t.d.toNat, .int .u32 t.e.toNat, .int .u32 t.f.toNat, .int .u32 t.g.toNat, .int .u32 t.h.toNat]) ∧ Below w.heap.size w w' := by
  have h := comp_any s (fun j => p (k + j)) b o n cap w hn hm hb hc hT
  rw [mw_shift] at h
  exact h.mono fun e w' ⟨he, hB⟩ => ⟨_, rfl, he, hB⟩
set_option maxRecDepth 5000 in
theorem pack_lit (s : Sha.St) (w : World) :
    Calls Tryd.prog 34 #[.agg #[.int .u32 s.a.toNat, .int .u32 s.b.toNat, .int .u32 s.c.toNat, .int .u32 s.d.toNat, .int .u32 s.e.toNat, .int .u32 s.f.toNat, .int .u32 s.g.toNat, .int .u32 s.h.toNat]] w fun e w' => e = .returned (.agg (rowB 32 (Sha.digB s))) ∧ Below w.heap.size w w' := pack_any s w
/- the eight cells of a state in memory -/
structure StAt (w : World) (g : Nat) (s : Sha.St) : Prop where
  row : RowAt w g 52 (rowS s)
  c0 : w.cell? ⟨g, 0, none⟩ = some (.int .u32 s.a.toNat)
  c1 : w.cell? ⟨g, 1, none⟩ = some (.int .u32 s.b.toNat)
  c2 : w.cell? ⟨g, 2, none⟩ = some (.int .u32 s.c.toNat)
  c3 : w.cell? ⟨g, 3, none⟩ = some (.int .u32 s.d.toNat)
  c4 : w.cell? ⟨g, 4, none⟩ = some (.int .u32 s.e.toNat)
  c5 : w.cell? ⟨g, 5, none⟩ = some (.int .u32 s.f.toNat)
  c6 : w.cell? ⟨g, 6, none⟩ = some (.int .u32 s.g.toNat)
  c7 : w.cell? ⟨g, 7, none⟩ = some (.int .u32 s.h.toNat)
set_option maxRecDepth 5000 in
theorem RowAt.st {w : World} {g : Nat} {s : Sha.St} (h : RowAt w g 52 (rowS s)) : StAt w g s :=
  ⟨h, h.cell 0, h.cell 1, h.cell 2, h.cell 3, h.cell 4, h.cell 5, h.cell 6, h.cell 7⟩
set_option maxRecDepth 5000 in
theorem st_set {w : World} {g : Nat} {s : Sha.St} (h : RowAt w g 52 (rowS s)) (t : Sha.St) :
    RowAt ((((((((w.setCell ⟨g, 0, none⟩ (.int .u32 t.a.toNat)).setCell ⟨g, 1, none⟩ (.int .u32 t.b.toNat)).setCell ⟨g, 2, none⟩ (.int .u32 t.c.toNat)).setCell ⟨g, 3, none⟩ (.int .u32 t.d.toNat)).setCell ⟨g, 4, none⟩ (.int .u32 t.e.toNat)).setCell ⟨g, 5, none⟩ (.int .u32 t.f.toNat)).setCell ⟨g, 6, none⟩ (.int .u32 t.g.toNat)).setCell ⟨g, 7, none⟩ (.int .u32 t.h.toNat)) g 52 (rowS t) :=
  by
    have e : ∀ v0 v1 v2 v3 v4 v5 v6 v7 : Value, ((((((((rowS s).setIfInBounds 0 v0).setIfInBounds 1 v1).setIfInBounds 2 v2).setIfInBounds 3 v3).setIfInBounds 4 v4).setIfInBounds 5 v5).setIfInBounds 6 v6).setIfInBounds 7 v7 = #[v0, v1, v2, v3, v4, v5, v6, v7] := by
      intro v0 v1 v2 v3 v4 v5 v6 v7; simp [rowS]
    unfold rowS
    rw [← e]
    exact (((((((h.set 0 _).set 1 _).set 2 _).set 3 _).set 4 _).set 5 _).set 6 _).set 7 _
set_option maxRecDepth 5000 in
theorem last_pad (bs : List (BitVec 8)) (q m en : Nat) (hn : bs.length = 64 * q + m) (hm : m < 64) (he : en = 64 ∧ m + 9 ≤ 64 ∨ en = 128 ∧ 64 < m + 9) (j : Nat) (hj : j < en) :
    lastF (fun j => Sha.padF bs (64 * q + j)) m bs.length en j = Sha.padF bs (64 * q + j) := by
  have hnb : 64 * Sha.nb bs.length = 64 * q + en := by unfold Sha.nb; omega
  unfold lastF
  by_cases h1 : j < m
  · rw [if_pos h1]
  · rw [if_neg h1]
    unfold Sha.padF
    rw [if_neg (show ¬ 64 * q + j < bs.length by omega), hnb]
    by_cases h2 : j = m
    · rw [if_pos h2, if_pos (show 64 * q + j = bs.length by omega)]
    · rw [if_neg h2, if_neg (show ¬ 64 * q + j = bs.length by omega)]
      by_cases h3 : en - 8 ≤ j
      · rw [if_pos (show en - 8 ≤ j ∧ j < en from ⟨h3, hj⟩), if_pos (show 64 * q + en - 8 ≤ 64 * q + j by omega), show j - (en - 8) = 64 * q + j - (64 * q + en - 8) by omega]
      · rw [if_neg (show ¬ (en - 8 ≤ j ∧ j < en) by omega), if_neg (show ¬ 64 * q + en - 8 ≤ 64 * q + j by omega)]
set_option maxRecDepth 5000 in
theorem nb_of (n q m en : Nat) (hn : n = 64 * q + m) (hm : m < 64) (he : en = 64 ∧ m + 9 ≤ 64 ∨ en = 128 ∧ 64 < m + 9) : Sha.nb n = q + en / 64 := by unfold Sha.nb; omega
end H
end Go.Proofs.YtgmjppmcfmcmkaaDoor
