/- Contracts of functions of the library, laid at this program by the kit's own tools. -/
import Derived.Ground.SlgmProg
import Derived.Ground.GgzProg
import Derived.Ground.SlgnProg
import Derived.Ground.SlmcProg
import Derived.Shelf.SortM.Plain
import Derived.Shelf.SortM.SortNone
import Derived.Shelf.SlIter.Nil
import Derived.Shelf.SlIter.Sorted
import Derived.Shelf.SlicesE.Clone
import Derived.Shelf.SlMaps.Clone
import Derived.Test.YtdldaphkiphpnaaGreatChecked
import Derived.Test.YtdldaphkiphpnaaGreatNmB
import Derived.Maps.OwnSet
import Derived.Maps.Views
import Derived.Maps.RangeWalk
import Derived.StringKeys
import Derived.Test.YtdldaphkiphpnaaGreatSh
import Derived.Test.YtdldaphkiphpnaaGreatZrc
namespace Go.Proofs
open Go.Shelf
def Tryz.sortSA_ren : Go.Shelf.Ren := ⟨fun | 6 => 102 | 8 => 109 | 9 => 134 | 19 => 144 | 20 => 145 | 21 => 158 | 22 => 159 | 23 => 160 | 24 => 161 | 25 => 162 | 26 => 163 | 27 => 164 | 28 => 165 | 29 => 166 | 36 => 182 | 31 => 168 | 32 => 169 | 37 => 183 | 38 => 184 | 39 => 185 | 41 => 191 | n => n, fun | 27 => 27 | 29 => 9 | 3 => 3 | 32 => 67 | 26 => 27 | 0 => 0 | 44 => 35 | 46 => 198 | 4 => 4 | 36 => 189 | 35 => 188 | 41 => 194 | 5 => 5 | 9 => 9 | 53 => 213 | 57 => 217 | 63 => 231 | 64 => 232 | n => n, fun | n => n⟩
theorem Tryz.sortSA : Go.Proofs.SlLaysM.n6 Tryz.prog Tryz.sortSA_ren := {
  mixed := by kernel_rfl
  f6 := ⟨Tryz.f102.name, by decide, Tryz.func102.trans (congrArg some (by kernel_rfl))⟩
  f8 := Tryz.func109.trans (congrArg some (by kernel_rfl))
  f9 := ⟨Tryz.f134.name, by decide, Tryz.func134.trans (congrArg some (by kernel_rfl))⟩
  f19 := Tryz.func144.trans (congrArg some (by kernel_rfl))
  f20 := Tryz.func145.trans (congrArg some (by kernel_rfl))
  f21 := ⟨Tryz.f158.name, by decide, Tryz.func158.trans (congrArg some (by kernel_rfl))⟩
  f22 := ⟨Tryz.f159.name, by decide, Tryz.func159.trans (congrArg some (by kernel_rfl))⟩
  f23 := ⟨Tryz.f160.name, by decide, Tryz.func160.trans (congrArg some (by kernel_rfl))⟩
  f24 := ⟨Tryz.f161.name, by decide, Tryz.func161.trans (congrArg some (by kernel_rfl))⟩
  f25 := ⟨Tryz.f162.name, by decide, Tryz.func162.trans (congrArg some (by kernel_rfl))⟩
  f26 := ⟨Tryz.f163.name, by decide, Tryz.func163.trans (congrArg some (by kernel_rfl))⟩
  f27 := ⟨Tryz.f164.name, by decide, Tryz.func164.trans (congrArg some (by kernel_rfl))⟩
  f28 := ⟨Tryz.f165.name, by decide, Tryz.func165.trans (congrArg some (by kernel_rfl))⟩
  f29 := ⟨Tryz.f166.name, by decide, Tryz.func166.trans (congrArg some (by kernel_rfl))⟩
  f31 := Tryz.func168.trans (congrArg some (by kernel_rfl))
  f32 := Tryz.func169.trans (congrArg some (by kernel_rfl))
  f36 := ⟨Tryz.f182.name, by decide, Tryz.func182.trans (congrArg some (by kernel_rfl))⟩
  f37 := ⟨Tryz.f183.name, by decide, Tryz.func183.trans (congrArg some (by kernel_rfl))⟩
  f38 := ⟨Tryz.f184.name, by decide, Tryz.func184.trans (congrArg some (by kernel_rfl))⟩
  f39 := ⟨Tryz.f185.name, by decide, Tryz.func185.trans (congrArg some (by kernel_rfl))⟩
  f41 := ⟨Tryz.f191.name, by decide, Tryz.func191.trans (congrArg some (by kernel_rfl))⟩
  t0 := Tryz.underlying0
  a0 := Tryz.isAgg0
  z0 := Tryz.sizeOf0
  v0 := Tryz.zeroValue0
  t3 := Tryz.underlying3
  a3 := Tryz.isAgg3
  z3 := Tryz.sizeOf3
  v3 := Tryz.zeroValue3
  t4 := Tryz.underlying4
  a4 := Tryz.isAgg4
  z4 := Tryz.sizeOf4
  v4 := Tryz.zeroValue4
  t5 := Tryz.underlying5
  a5 := Tryz.isAgg5
  z5 := Tryz.sizeOf5
  v5 := Tryz.zeroValue5
  t9 := Tryz.underlying9
  a9 := Tryz.isAgg9
  z9 := Tryz.sizeOf9
  v9 := Tryz.zeroValue9
  t26 := Tryz.underlying27
  a26 := Tryz.isAgg27
  z26 := Tryz.sizeOf27
  v26 := Tryz.zeroValue27
  t27 := Tryz.underlying27
  a27 := Tryz.isAgg27
  z27 := Tryz.sizeOf27
  v27 := Tryz.zeroValue27
  t29 := Tryz.underlying9
  a29 := Tryz.isAgg9
  z29 := Tryz.sizeOf9
  v29 := Tryz.zeroValue9
  t32 := Tryz.underlying67
  a32 := Tryz.isAgg67
  z32 := Tryz.sizeOf67
  v32 := Tryz.zeroValue67
  t35 := Tryz.underlying188
  a35 := Tryz.isAgg188
  z35 := Tryz.sizeOf188
  v35 := Tryz.zeroValue188
  t36 := Tryz.underlying189
  a36 := Tryz.isAgg189
  z36 := Tryz.sizeOf189
  v36 := Tryz.zeroValue189
  t41 := Tryz.underlying194
  a41 := Tryz.isAgg194
  z41 := Tryz.sizeOf194
  v41 := Tryz.zeroValue194
  t44 := Tryz.underlying35
  a44 := Tryz.isAgg35
  z44 := Tryz.sizeOf35
  v44 := Tryz.zeroValue35
  t46 := Tryz.underlying198
  a46 := Tryz.isAgg198
  z46 := Tryz.sizeOf198
  v46 := Tryz.zeroValue198
  t53 := Tryz.underlying213
  a53 := Tryz.isAgg213
  z53 := Tryz.sizeOf213
  v53 := Tryz.zeroValue213
  t57 := Tryz.underlying217
  a57 := Tryz.isAgg217
  z57 := Tryz.sizeOf217
  v57 := Tryz.zeroValue217
  t63 := Tryz.underlying231
  a63 := Tryz.isAgg231
  z63 := Tryz.sizeOf231
  v63 := Tryz.zeroValue231
  t64 := Tryz.underlying232
  a64 := Tryz.isAgg232
  z64 := Tryz.sizeOf232
  v64 := Tryz.zeroValue232 }
def Tryz.keysNA_ren : Go.Shelf.Ren := ⟨fun | 7 => 77 | 10 => 103 | n => n, fun | 23 => 94 | 26 => 9 | 3 => 80 | 28 => 122 | 0 => 0 | 27 => 121 | 33 => 161 | 4 => 4 | n => n, fun | n => n⟩
theorem Tryz.keysNA : Go.Proofs.SlLaysZ.n7 Tryz.prog Tryz.keysNA_ren := {
  mixed := by kernel_rfl
  f7 := ⟨Tryz.f77.name, by decide, Tryz.func77.trans (congrArg some (by kernel_rfl))⟩
  f10 := ⟨Tryz.f103.name, by decide, Tryz.func103.trans (congrArg some (by kernel_rfl))⟩
  t0 := Tryz.underlying0
  a0 := Tryz.isAgg0
  z0 := Tryz.sizeOf0
  v0 := Tryz.zeroValue0
  t4 := Tryz.underlying4
  a4 := Tryz.isAgg4
  z4 := Tryz.sizeOf4
  v4 := Tryz.zeroValue4
  t23 := Tryz.underlying94
  a23 := Tryz.isAgg94
  z23 := Tryz.sizeOf94
  v23 := Tryz.zeroValue94
  t26 := Tryz.underlying9
  a26 := Tryz.isAgg9
  z26 := Tryz.sizeOf9
  v26 := Tryz.zeroValue9
  t27 := Tryz.underlying121
  a27 := Tryz.isAgg121
  z27 := Tryz.sizeOf121
  v27 := Tryz.zeroValue121
  t28 := Tryz.underlying122
  a28 := Tryz.isAgg122
  z28 := Tryz.sizeOf122
  v28 := Tryz.zeroValue122
  t33 := Tryz.underlying161
  a33 := Tryz.isAgg161
  z33 := Tryz.sizeOf161
  v33 := Tryz.zeroValue161 }
def Tryz.keysDA_ren : Go.Shelf.Ren := ⟨fun | 7 => 79 | 10 => 105 | n => n, fun | 23 => 89 | 26 => 9 | 3 => 37 | 28 => 122 | 0 => 0 | 27 => 121 | 33 => 161 | 4 => 4 | n => n, fun | n => n⟩
theorem Tryz.keysDA : Go.Proofs.SlLaysZ.n7 Tryz.prog Tryz.keysDA_ren := {
  mixed := by kernel_rfl
  f7 := ⟨Tryz.f79.name, by decide, Tryz.func79.trans (congrArg some (by kernel_rfl))⟩
  f10 := ⟨Tryz.f105.name, by decide, Tryz.func105.trans (congrArg some (by kernel_rfl))⟩
  t0 := Tryz.underlying0
  a0 := Tryz.isAgg0
  z0 := Tryz.sizeOf0
  v0 := Tryz.zeroValue0
  t4 := Tryz.underlying4
  a4 := Tryz.isAgg4
  z4 := Tryz.sizeOf4
  v4 := Tryz.zeroValue4
  t23 := Tryz.underlying89
  a23 := Tryz.isAgg89
  z23 := Tryz.sizeOf89
  v23 := Tryz.zeroValue89
  t26 := Tryz.underlying9
  a26 := Tryz.isAgg9
  z26 := Tryz.sizeOf9
  v26 := Tryz.zeroValue9
  t27 := Tryz.underlying121
  a27 := Tryz.isAgg121
  z27 := Tryz.sizeOf121
  v27 := Tryz.zeroValue121
  t28 := Tryz.underlying122
  a28 := Tryz.isAgg122
  z28 := Tryz.sizeOf122
  v28 := Tryz.zeroValue122
  t33 := Tryz.underlying161
  a33 := Tryz.isAgg161
  z33 := Tryz.sizeOf161
  v33 := Tryz.zeroValue161 }
def Tryz.sortedSA_ren : Go.Shelf.Ren := ⟨fun | 6 => 76 | 8 => 101 | 9 => 102 | 11 => 133 | 13 => 109 | 12 => 134 | 23 => 144 | 24 => 145 | 14 => 158 | 15 => 159 | 16 => 160 | 17 => 161 | 18 => 162 | 19 => 163 | 20 => 164 | 21 => 165 | 22 => 166 | 25 => 182 | 26 => 168 | 27 => 169 | 28 => 183 | 29 => 184 | 30 => 185 | 31 => 191 | n => n, fun | 26 => 9 | 28 => 122 | 24 => 27 | 0 => 0 | 3 => 3 | 37 => 67 | 48 => 35 | 50 => 198 | 4 => 4 | 40 => 189 | 39 => 188 | 45 => 194 | 5 => 5 | 9 => 9 | 51 => 213 | 55 => 217 | 57 => 231 | 58 => 232 | 33 => 161 | n => n, fun | n => n⟩
theorem Tryz.sortedSA : Go.Proofs.SlLaysZ.n6 Tryz.prog Tryz.sortedSA_ren := {
  mixed := by kernel_rfl
  f6 := ⟨Tryz.f76.name, by decide, Tryz.func76.trans (congrArg some (by kernel_rfl))⟩
  f8 := ⟨Tryz.f101.name, by decide, Tryz.func101.trans (congrArg some (by kernel_rfl))⟩
  f11 := ⟨Tryz.f133.name, by decide, Tryz.func133.trans (congrArg some (by kernel_rfl))⟩
  t0 := Tryz.underlying0
  a0 := Tryz.isAgg0
  z0 := Tryz.sizeOf0
  v0 := Tryz.zeroValue0
  t24 := Tryz.underlying27
  a24 := Tryz.isAgg27
  z24 := Tryz.sizeOf27
  v24 := Tryz.zeroValue27
  t26 := Tryz.underlying9
  a26 := Tryz.isAgg9
  z26 := Tryz.sizeOf9
  v26 := Tryz.zeroValue9
  t28 := Tryz.underlying122
  a28 := Tryz.isAgg122
  z28 := Tryz.sizeOf122
  v28 := Tryz.zeroValue122
  i26 := by kernel_rfl }
def Tryz.mapsCloneA_ren : Go.Shelf.Ren := ⟨fun | 5 => 85 | 7 => 110 | n => n, fun | 23 => 89 | 25 => 9 | 3 => 37 | 4 => 4 | 20 => 20 | n => n, fun | n => n⟩
theorem Tryz.mapsCloneA : Go.Proofs.SlLaysW.n5 Tryz.prog Tryz.mapsCloneA_ren := {
  mixed := by kernel_rfl
  f5 := ⟨Tryz.f85.name, by decide, Tryz.func85.trans (congrArg some (by kernel_rfl))⟩
  f7 := Tryz.func110.trans (congrArg some (by kernel_rfl))
  t4 := Tryz.underlying4
  a4 := Tryz.isAgg4
  z4 := Tryz.sizeOf4
  v4 := Tryz.zeroValue4
  t20 := Tryz.underlying20
  a20 := Tryz.isAgg20
  z20 := Tryz.sizeOf20
  v20 := Tryz.zeroValue20
  t23 := Tryz.underlying89
  a23 := Tryz.isAgg89
  z23 := Tryz.sizeOf89
  v23 := Tryz.zeroValue89 }
def Tryz.nCloneA_ren : Go.Shelf.Ren := ⟨fun | 41 => 48 | n => n, fun | 22 => 28 | 23 => 9 | 4 => 4 | n => n, fun | n => n⟩
theorem Tryz.nCloneA : Go.Proofs.SlLaysE0.n41 Tryz.prog Tryz.nCloneA_ren := {
  mixed := by kernel_rfl
  f41 := ⟨Tryz.f48.name, by decide, Tryz.func48.trans (congrArg some (by kernel_rfl))⟩
  t4 := Tryz.underlying4
  a4 := Tryz.isAgg4
  z4 := Tryz.sizeOf4
  v4 := Tryz.zeroValue4
  t22 := Tryz.underlying28
  a22 := Tryz.isAgg28
  z22 := Tryz.sizeOf28
  v22 := Tryz.zeroValue28 }
end Go.Proofs

/- Maps whose elements are held as they are, as functions of their keys; their keys in order; copies of them. -/
namespace Go.Proofs.YtdldaphkiphpnaaGreat
open Go.RowKit Go.Shelf
def HR : Value → Option (DataW Value × List MemPlace) := fun v => some (.held v, [])
/- what a map says, key by key -/
structure MapV (D : DataW Value) (f : Lit → Option Value) : Prop where
  isMap : Maps.IsMap D
  has : ∀ k, Maps.has D k = (f k).isSome
  val : ∀ (k : Lit) (z : Value), D.atKey k (.held z) = .held ((f k).getD z)
def fput (f : Lit → Option Value) (k : Lit) (v : Value) : Lit → Option Value := fun j => if j.sameKey k = true then some v else f j
def fdel (f : Lit → Option Value) (k : Lit) : Lit → Option Value := fun j => if j.sameKey k = true then none else f j
set_option maxRecDepth 5000 in
theorem same_ne {j k : Lit} (h : j ≠ k) : ¬ j.sameKey k = true := fun e => h (WideAt.sameKey_eq e)
set_option maxRecDepth 5000 in
theorem fput_same (f : Lit → Option Value) {k : Lit} (hk : WideAt.IsKeyLit k) (v : Value) : fput f k v k = some v := by unfold fput; rw [if_pos (WideAt.sameKey_self hk)]
set_option maxRecDepth 5000 in
theorem fput_other (f : Lit → Option Value) {j k : Lit} (h : j ≠ k) (v : Value) : fput f k v j = f j := by unfold fput; rw [if_neg (same_ne h)]
set_option maxRecDepth 5000 in
theorem fdel_same (f : Lit → Option Value) {k : Lit} (hk : WideAt.IsKeyLit k) : fdel f k k = none := by unfold fdel; rw [if_pos (WideAt.sameKey_self hk)]
set_option maxRecDepth 5000 in
theorem fdel_other (f : Lit → Option Value) {j k : Lit} (h : j ≠ k) : fdel f k j = f j := by unfold fdel; rw [if_neg (same_ne h)]
set_option maxRecDepth 5000 in
theorem MapV.nil : MapV (.map []) (fun _ => none) := ⟨Maps.isMap_empty, fun _ => rfl, fun _ _ => rfl⟩
set_option maxRecDepth 5000 in
theorem MapV.put {D : DataW Value} {f : Lit → Option Value} (h : MapV D f) (k : Lit) (hk : WideAt.IsKeyLit k) (v : Value) : MapV (D.put k (.held v)) (fput f k v) := by
  refine ⟨h.isMap.put _ _, fun j => ?_, fun j z => ?_⟩
  · by_cases e : j = k
    · subst e; rw [Maps.has_put_same h.isMap hk, fput_same f hk]; rfl
    · rw [Maps.has_put_other e, h.has, fput_other f e]
  · by_cases e : j = k
    · subst e; rw [Maps.atKey_put_same h.isMap hk, fput_same f hk]; rfl
    · rw [Maps.atKey_put_other e, h.val, fput_other f e]
set_option maxRecDepth 5000 in
theorem MapV.del {D : DataW Value} {f : Lit → Option Value} (h : MapV D f) (k : Lit) (hk : WideAt.IsKeyLit k) : MapV (D.del k) (fdel f k) := by
  refine ⟨h.isMap.del _, fun j => ?_, fun j z => ?_⟩
  · by_cases e : j = k
    · subst e; rw [Maps.has_del_same, fdel_same f hk]; rfl
    · rw [Maps.has_del_other e, h.has, fdel_other f e]
  · by_cases e : j = k
    · subst e; rw [Maps.atKey_del_same, fdel_same f hk]; rfl
    · rw [Maps.atKey_del_other e, h.val, fdel_other f e]
/- block b is a map of keys of the type k that says f; it has at most K keys -/
def MapAt (k : TypeId) (w : World) (b : Nat) (f : Lit → Option Value) (K : Nat) : Prop := ∃ D, w.ownsMap Tryz.prog k HR b K D ∧ MapV D f
set_option maxRecDepth 5000 in
theorem ownsMap_size {k : TypeId} {w : World} {b N : Nat} {D : DataW Value} (h : w.ownsMap Tryz.prog k HR b N D) : w.ownsMap Tryz.prog k HR b (Maps.size D) D := by
  obtain ⟨es, clock, hb, F, _, rfl⟩ := h
  exact ⟨es, clock, hb, F, by simp [Maps.size, length_sorted], rfl⟩
set_option maxRecDepth 5000 in
theorem MapAt.mono {k : TypeId} {w : World} {b K K' : Nat} {f : Lit → Option Value} (h : MapAt k w b f K) (hk : K ≤ K') : MapAt k w b f K' := by
  obtain ⟨D, h1, h2⟩ := h; exact ⟨D, h1.mono hk, h2⟩
set_option maxRecDepth 5000 in
theorem MapAt.heap {k : TypeId} {w w' : World} {b K : Nat} {f : Lit → Option Value} (h : MapAt k w b f K) (hb : w'.heap[b]? = w.heap[b]?) : MapAt k w' b f K := by
  obtain ⟨D, ⟨es, clock, h1, h2⟩, hv⟩ := h
  exact ⟨D, ⟨es, clock, hb.trans h1, h2⟩, hv⟩
set_option maxRecDepth 5000 in
theorem MapAt.obj {k : TypeId} {w : World} {b K : Nat} {f : Lit → Option Value} (h : MapAt k w b f K) : ∃ es clock, w.heap[b]? = some (.map es clock) := by
  obtain ⟨D, ⟨es, clock, h1, _⟩, _⟩ := h; exact ⟨es, clock, h1⟩
set_option maxRecDepth 5000 in
theorem MapAt.lt {k : TypeId} {w : World} {b K : Nat} {f : Lit → Option Value} (h : MapAt k w b f K) : b < w.heap.size := by
  obtain ⟨D, h1, _⟩ := h; exact h1.lt
set_option maxRecDepth 5000 in
theorem MapAt.row_ne {k : TypeId} {w : World} {b K g : Nat} {f : Lit → Option Value} (h : MapAt k w b f K) {c : Array Value} {t : TypeId} {fr : Nat × Nat} (hg : w.heap[g]? = some (.cells c t fr)) : g ≠ b := fun e => by
  obtain ⟨es, clock, h1⟩ := h.obj
  rw [e, h1] at hg; cases hg
set_option maxRecDepth 5000 in
theorem MapAt.made (k : TypeId) (w : World) : MapAt k (w.alloc (.map #[] 0)) w.heap.size (fun _ => none) 0 := ⟨_, World.ownsMap_made w _ _ _, MapV.nil⟩
set_option maxRecDepth 5000 in
theorem MapAt.congr {k : TypeId} {w : World} {b K : Nat} {f g : Lit → Option Value} (h : MapAt k w b f K) (e : ∀ x, f x = g x) : MapAt k w b g K := (funext e : f = g) ▸ h
/- the keys of a map are of its keys' type -/
set_option maxRecDepth 5000 in
theorem MapAt.key {k : TypeId} {w : World} {b K : Nat} {f : Lit → Option Value} (h : MapAt k w b f K) {x : Lit} (hx : (f x).isSome) : ∃ v, keyOf Tryz.prog k v = some x := by
  obtain ⟨D, h1, h2⟩ := h
  obtain ⟨es, rfl, hk⟩ := h1.keysOf
  have h3 := h2.has x
  rw [hx] at h3
  obtain ⟨p, hp, e⟩ := List.any_eq_true.1 h3
  obtain ⟨v, hv⟩ := hk p hp
  exact ⟨v, by rw [hv, WideAt.sameKey_eq e]⟩
set_option maxRecDepth 5000 in
theorem MapAt.look {t k e : TypeId} {w : World} {b K : Nat} {f : Lit → Option Value} (h : MapAt k w b f K) (hK : Maps.Keyed Tryz.prog k) (hu : Tryz.prog.underlying t = some (.map k e)) {z : Value} (hz : (zeroValue e).run Tryz.prog w = .ok z w) {key : Value} {kl : Lit} (hk : keyOf Tryz.prog k key = some kl) :
    (Instr.lookup t (.map (some b)) key true).run Tryz.prog w = .ok (.tuple #[(f kl).getD z, .bool (f kl).isSome]) w := by
  obtain ⟨D, h1, hv⟩ := h
  obtain ⟨v, ps, hrun, hR⟩ := h1.look_ok hK hu hz (zd := .held z) (zp := []) rfl hk
  rw [hv.val kl] at hR
  simp only [HR, Option.some.injEq, Prod.mk.injEq, DataW.held.injEq] at hR
  rw [hrun, hv.has kl, hR.1]
set_option maxRecDepth 5000 in
theorem MapAt.get {t k e : TypeId} {w : World} {b K : Nat} {f : Lit → Option Value} (h : MapAt k w b f K) (hK : Maps.Keyed Tryz.prog k) (hu : Tryz.prog.underlying t = some (.map k e)) {z : Value} (hz : (zeroValue e).run Tryz.prog w = .ok z w) {key : Value} {kl : Lit} (hk : keyOf Tryz.prog k key = some kl) :
    (Instr.lookup t (.map (some b)) key false).run Tryz.prog w = .ok ((f kl).getD z) w := by
  obtain ⟨D, h1, hv⟩ := h
  obtain ⟨v, ps, hrun, hR⟩ := h1.lookup hK hu hz (zd := .held z) (zp := []) rfl hk
  rw [hv.val kl] at hR
  simp only [HR, Option.some.injEq, Prod.mk.injEq, DataW.held.injEq] at hR
  rw [hrun, hR.1]
/- one block alone, which is a map, is another -/
structure Turn (b : Nat) (w w' : World) : Prop where
  os : w'.os = w.os
  tape : w'.tape = w.tape
  output : w'.output = w.output
  size : w'.heap.size = w.heap.size
  block : ∀ i, i ≠ b → w'.heap[i]? = w.heap[i]?
  was : ∃ es clock, w.heap[b]? = some (.map es clock)
  is_ : ∃ es clock, w'.heap[b]? = some (.map es clock)
set_option maxRecDepth 5000 in
theorem Turn.of {b : Nat} {w w' : World} (h : w.mapTurned w' b) : Turn b w w' := by
  obtain ⟨es, clock, es', clock', hb, rfl⟩ := h
  refine ⟨rfl, rfl, rfl, by simp [ChangeMaps.setBlock], fun i hi => ?_, ⟨es, clock, hb⟩, ⟨es', clock', ChangeMaps.heap_setBlock_same hb _⟩⟩
  simp only [ChangeMaps.setBlock]
  exact Array.getElem?_setIfInBounds_ne (fun e => hi e.symm)
set_option maxRecDepth 5000 in
theorem MapAt.update {t k e : TypeId} {w : World} {b K : Nat} {f : Lit → Option Value} (h : MapAt k w b f K) (hK : Maps.Keyed Tryz.prog k) (hu : Tryz.prog.underlying t = some (.map k e)) (hn : K ≤ 1000000) {key : Value} {kl : Lit} (hk : keyOf Tryz.prog k key = some kl) (v : Value) :
    ∃ w', (Instr.mapUpdate t (.map (some b)) key v).run Tryz.prog w = .ok () w' ∧ MapAt k w' b (fput f kl v) (K + 1) ∧ Turn b w w' := by
  obtain ⟨D, h1, hv⟩ := h
  obtain ⟨w', hrun, ho, ht⟩ := h1.store hK hu (by unfold maxLen; omega) hk (d := .held v) (ps := []) rfl
  exact ⟨w', hrun, ⟨_, ho, hv.put kl (hK.key hk) v⟩, Turn.of ht⟩
set_option maxRecDepth 5000 in
theorem MapAt.drop {t k e : TypeId} {w : World} {b K : Nat} {f : Lit → Option Value} (h : MapAt k w b f K) (hK : Maps.Keyed Tryz.prog k) (hu : Tryz.prog.underlying t = some (.map k e)) {key : Value} {kl : Lit} (hk : keyOf Tryz.prog k key = some kl) (ty : TypeId) :
    ∃ w', (Builtin.delete_ #[t, k] ty #[.map (some b), key]).run Tryz.prog w = .ok (.tuple #[]) w' ∧ MapAt k w' b (fdel f kl) K ∧ Turn b w w' := by
  obtain ⟨D, h1, hv⟩ := h
  obtain ⟨w', hrun, ho, ht⟩ := h1.drop hK hu hk ty
  exact ⟨w', hrun, ⟨_, ho, hv.del kl (hK.key hk)⟩, Turn.of ht⟩
/- how many keys there are -/
set_option maxRecDepth 5000 in
theorem MapV.count {k : TypeId} {w : World} {b N : Nat} {D : DataW Value} {f : Lit → Option Value} (hK : Maps.Keyed Tryz.prog k) (ho : w.ownsMap Tryz.prog k HR b N D) (h : MapV D f) (ks : List Lit) (hn : ks.Nodup) (hm : ∀ x, x ∈ ks ↔ (f x).isSome) : Maps.size D = ks.length := by
  obtain ⟨es, rfl, hp, hk⟩ := ho.entries hK
  have h1 : (es.map Prod.fst).Perm ks := by
    refine (List.perm_ext_iff_of_nodup ?_ hn).2 fun x => ?_
    · exact List.pairwise_map.2 hp
    · rw [hm x, ← h.has x, List.mem_map]
      constructor
      · rintro ⟨p, hp', rfl⟩
        exact List.any_eq_true.2 ⟨p, hp', WideAt.sameKey_self (hk p hp')⟩
      · intro hx
        obtain ⟨p, hp', e⟩ := List.any_eq_true.1 hx
        exact ⟨p, hp', WideAt.sameKey_eq e⟩
  rw [← h1.length_eq, List.length_map]; rfl
set_option maxRecDepth 5000 in
theorem MapAt.len {t k e : TypeId} {w : World} {b K : Nat} {f : Lit → Option Value} (h : MapAt k w b f K) (hK : Maps.Keyed Tryz.prog k) (hu : Tryz.prog.underlying t = some (.map k e)) (ks : List Lit) (hn : ks.Nodup) (hm : ∀ x, x ∈ ks ↔ (f x).isSome) (ty : TypeId) :
    (Builtin.len_ #[t] ty #[.map (some b)]).run Tryz.prog w = .ok (.int .i64 (ks.length : Int)) w := by
  obtain ⟨D, h1, hv⟩ := h
  rw [h1.len hu ty, hv.count hK h1 ks hn hm]
set_option maxRecDepth 5000 in
theorem MapAt.le {k : TypeId} {w : World} {b K : Nat} {f : Lit → Option Value} (h : MapAt k w b f K) (hK : Maps.Keyed Tryz.prog k) (ks : List Lit) (hn : ks.Nodup) (hm : ∀ x, x ∈ ks ↔ (f x).isSome) : ks.length ≤ K := by
  obtain ⟨D, h1, hv⟩ := h
  rw [← hv.count hK h1 ks hn hm]; exact h1.size_le
set_option maxRecDepth 5000 in
theorem MapAt.size {k : TypeId} {w : World} {b K : Nat} {f : Lit → Option Value} (h : MapAt k w b f K) (hK : Maps.Keyed Tryz.prog k) (ks : List Lit) (hn : ks.Nodup) (hm : ∀ x, x ∈ ks ↔ (f x).isSome) : MapAt k w b f ks.length := by
  obtain ⟨D, h1, hv⟩ := h
  refine ⟨D, ?_, hv⟩
  rw [← hv.count hK h1 ks hn hm]; exact ownsMap_size h1
/- whether there is none -/
set_option maxRecDepth 5000 in
theorem MapAt.none_len {t k e : TypeId} {w : World} {b K : Nat} {f : Lit → Option Value} (h : MapAt k w b f K) (hK : Maps.Keyed Tryz.prog k) (hu : Tryz.prog.underlying t = some (.map k e)) (ty : TypeId) :
    ∃ n : Nat, (Builtin.len_ #[t] ty #[.map (some b)]).run Tryz.prog w = .ok (.int .i64 (n : Int)) w ∧ n ≤ K ∧ (n = 0 ↔ ∀ x, f x = none) := by
  obtain ⟨D, h1, hv⟩ := h
  refine ⟨Maps.size D, h1.len hu ty, h1.size_le, ?_⟩
  obtain ⟨es, rfl, hp, hk⟩ := h1.entries hK
  constructor
  · intro h0 x
    have he : es = [] := List.eq_nil_of_length_eq_zero h0
    subst he
    have := hv.has x
    cases hx : f x with
    | none => rfl
    | some v => rw [hx] at this; cases this
  · intro hx
    show es.length = 0
    cases es with
    | nil => rfl
    | cons p es =>
      have h2 : Maps.has (.map (p :: es)) p.1 = true := List.any_eq_true.2 ⟨p, by simp, WideAt.sameKey_self (hk p (by simp))⟩
      rw [hv.has, hx] at h2; cases h2
/- keys -/
set_option maxRecDepth 5000 in
theorem keyedS : Maps.Keyed Tryz.prog 9 := Maps.string_keyed Tryz.underlying9
set_option maxRecDepth 5000 in
theorem keyedH : Maps.Keyed Tryz.prog 36 := Maps.int_keyed Tryz.underlying36
set_option maxRecDepth 5000 in
theorem keyS (s : List UInt8) (hs : s.length ≤ 1000000) : keyOf Tryz.prog 9 (.string ⟨s.toArray⟩) = some (.string s) := by
  have h := WideMaps.keyOf_string_mk (P := Tryz.prog) Tryz.underlying9 (s := ⟨s.toArray⟩) (by show s.toArray.size ≤ maxLen; unfold maxLen; simp; omega)
  simpa using h
set_option maxRecDepth 5000 in
theorem keyH (t : Nat) (ht : t < 65536) : keyOf Tryz.prog 36 (.int .u16 (t : Int)) = some (.int .u16 (t : Int)) := by
  refine Maps.keyOf_int_mk Tryz.underlying36 ?_
  have h1 : IntKind.u16.min = 0 := by decide
  have h2 : IntKind.u16.max = 65535 := by decide
  simp only [Lit.wf, Bool.and_eq_true, decide_eq_true_eq, h1, h2]; omega
set_option maxRecDepth 5000 in
theorem MapAt.keyStr {w : World} {b K : Nat} {f : Lit → Option Value} (h : MapAt 9 w b f K) {x : Lit} (hx : (f x).isSome) : ∃ s, x = .string s := by
  obtain ⟨v, hv⟩ := h.key hx
  obtain ⟨s, _, e, _⟩ := Maps.keyOf_str Tryz.underlying9 hv
  exact ⟨s, e⟩
set_option maxRecDepth 5000 in
theorem MapAt.keyU16 {w : World} {b K : Nat} {f : Lit → Option Value} (h : MapAt 36 w b f K) {x : Lit} (hx : (f x).isSome) : ∃ t : Nat, t < 65536 ∧ x = .int .u16 (t : Int) := by
  obtain ⟨v, hv⟩ := h.key hx
  obtain ⟨a, _, e, hw⟩ := Maps.keyOf_int_inv Tryz.underlying36 hv
  have h1 : IntKind.u16.min = 0 := by decide
  have h2 : IntKind.u16.max = 65535 := by decide
  simp only [Lit.wf, Bool.and_eq_true, decide_eq_true_eq, h1, h2] at hw
  refine ⟨a.toNat, by omega, ?_⟩
  rw [e, Int.toNat_of_nonneg hw.1]
end Go.Proofs.YtdldaphkiphpnaaGreat

/- The keys of a map that are texts, in order: slices.Sorted(maps.Keys(m)). Made by gmks.py. -/
namespace Go.Proofs.YtdldaphkiphpnaaGreat
open Go.RowKit Go.Shelf
set_option maxRecDepth 5000 in
theorem asc_strs (l : List (List UInt8)) (h : l.Pairwise (· < ·)) : l.mergeSort (fun x y => decide (x ≤ y)) = l :=
  List.mergeSort_of_pairwise (h.imp fun {a b} hab => by simpa using List.le_of_lt hab)
set_option maxRecDepth 5000 in
theorem asc_nodup {l : List (List UInt8)} (h : l.Pairwise (· < ·)) : l.Nodup := List.Pairwise.imp (R := (· < ·)) (S := (· ≠ ·)) (fun {a b} (hab : a < b) (e : a = b) => List.lt_irrefl a (by rw [← e] at hab; exact hab)) h
set_option maxRecDepth 5000 in
theorem sortsS (m : Nat) : AnyZ.SortsIn Tryz.prog Tryz.sortedSA_ren Fence.wide m :=
  ⟨fun blk off cap ss W hH hblk hsz => callsIn_wide.2 (AnyM.slices_Sort_string Tryz.sortSA blk off cap ss W hH hblk hsz),
   fun p cap W => callsIn_wide.2 (AnyM.slices_Sort_string_none Tryz.sortSA p cap W)⟩
set_option maxRecDepth 5000 in
theorem MapV.permS {w : World} {b N : Nat} {D : DataW Value} {f : Lit → Option Value} (ho : w.ownsMap Tryz.prog 9 HR b N D) (h : MapV D f) (ks : List (List UInt8)) (ha : ks.Pairwise (· < ·)) (hm : ∀ x, x ∈ ks ↔ (f (.string x)).isSome) : ks.Perm (strKeys D) := by
  obtain ⟨es, rfl, hp, hk⟩ := ho.entries keyedS
  obtain ⟨es', e, hk2⟩ := ho.keysOf
  injection e with e; subst e
  refine perm_strKeys hp (fun p hp' => ?_) (asc_nodup ha) fun x => ?_
  · obtain ⟨v, hv⟩ := hk2 p hp'
    obtain ⟨x, _, e, _⟩ := Maps.keyOf_str Tryz.underlying9 hv
    exact ⟨x, e⟩
  · rw [hm x, h.has]
set_option maxRecDepth 5000 in
theorem keysN_any (mb : Option Nat) (W : World) : Calls Tryz.prog 77 #[.map mb] W fun e w' => e = .returned (.func (.func 103) #[] #[.pointer (some ⟨W.heap.size, 0, none⟩)]) ∧ w' = W.alloc (.cells #[.map mb] 94) :=
  (callsIn_wide (n := 5)).1 (AnyZ.keys_in Tryz.keysNA Fence.wide 5 trivial rfl mb W)
set_option maxRecDepth 5000 in
theorem sortedN_any (w : World) (b K : Nat) (f : Lit → Option Value) (h : MapAt 9 w b f K) (hK : K ≤ 1000000) (ks : List (List UInt8)) (ha : ks.Pairwise (· < ·)) (hm : ∀ x, x ∈ ks ↔ (f (.string x)).isSome) :
    Calls Tryz.prog 76 #[.func (.func 103) #[] #[.pointer (some ⟨w.heap.size, 0, none⟩)]] (w.alloc (.cells #[.map (some b)] 94)) fun e w' => ∃ v, e = .returned v ∧
      OwnS w' (w.heap.size + 1) v ks ∧ Below (w.heap.size + 1) (w.alloc (.cells #[.map (some b)] 94)) w' := by
  obtain ⟨D, hown, hv⟩ := h
  have hbl := hown.lt
  have hs := hown.size_le
  have hp := hv.permS hown ks ha hm
  refine (callsIn_wide (n := 5)).1 ?_
  have hseq : SeqGives Fence.wide 2 Tryz.prog 103 #[.pointer (some ⟨w.heap.size, 0, none⟩)] encStr (fun ss => ss.Perm (strKeys D)) (Maps.size D) (w.alloc (.cells #[.map (some b)] 94)) :=
    AnyZ.keys_gives (ρ := Tryz.keysNA_ren) { Tryz.keysNA with } Fence.wide _ trivial rfl (by omega) w.heap.size b K D _ (by simp) (by simp) (by
      obtain ⟨es, clock, hb, Ft, hs, hD⟩ := hown
      exact ⟨es, clock, (Below.heap_alloc _ _ b hbl).trans hb, Ft, hs, hD⟩)
  have cS := AnyZ.sorted_in Tryz.sortedSA Fence.wide 5 trivial trivial trivial trivial rfl (by omega) (sortsS _) (enters_of Tryz.func102 (by kernel_rfl) rfl) 103 #[.pointer (some ⟨w.heap.size, 0, none⟩)] trivial (enters_of Tryz.func103 (by kernel_rfl) rfl) _ _ (by unfold maxLen; omega) (by omega) _ hseq
  refine cS.mono ?_
  rintro e w' ⟨v, ss, rfl, hS, hrow, hnil, hb⟩
  have e1 : ss.mergeSort (fun x y => decide (x ≤ y)) = ks := by
    rw [← asc_strs _ ha]
    exact mergeSort_of_perm (hS.trans hp.symm)
  have e2 : ss.length = ks.length := (hS.trans hp.symm).length_eq
  rw [e1, e2] at hrow
  refine ⟨v, rfl, ?_, ?_⟩
  · have e3 : (w.alloc (.cells #[.map (some b)] 94)).heap.size = w.heap.size + 1 := by simp
    rw [e3] at hrow
    exact hrow
  · simpa using hb
set_option maxRecDepth 5000 in
theorem keysD_any (mb : Option Nat) (W : World) : Calls Tryz.prog 79 #[.map mb] W fun e w' => e = .returned (.func (.func 105) #[] #[.pointer (some ⟨W.heap.size, 0, none⟩)]) ∧ w' = W.alloc (.cells #[.map mb] 89) :=
  (callsIn_wide (n := 5)).1 (AnyZ.keys_in Tryz.keysDA Fence.wide 5 trivial rfl mb W)
set_option maxRecDepth 5000 in
theorem sortedD_any (w : World) (b K : Nat) (f : Lit → Option Value) (h : MapAt 9 w b f K) (hK : K ≤ 1000000) (ks : List (List UInt8)) (ha : ks.Pairwise (· < ·)) (hm : ∀ x, x ∈ ks ↔ (f (.string x)).isSome) :
    Calls Tryz.prog 76 #[.func (.func 105) #[] #[.pointer (some ⟨w.heap.size, 0, none⟩)]] (w.alloc (.cells #[.map (some b)] 89)) fun e w' => ∃ v, e = .returned v ∧
      OwnS w' (w.heap.size + 1) v ks ∧ Below (w.heap.size + 1) (w.alloc (.cells #[.map (some b)] 89)) w' := by
  obtain ⟨D, hown, hv⟩ := h
  have hbl := hown.lt
  have hs := hown.size_le
  have hp := hv.permS hown ks ha hm
  refine (callsIn_wide (n := 5)).1 ?_
  have hseq : SeqGives Fence.wide 2 Tryz.prog 105 #[.pointer (some ⟨w.heap.size, 0, none⟩)] encStr (fun ss => ss.Perm (strKeys D)) (Maps.size D) (w.alloc (.cells #[.map (some b)] 89)) :=
    AnyZ.keys_gives (ρ := Tryz.keysDA_ren) { Tryz.keysDA with } Fence.wide _ trivial rfl (by omega) w.heap.size b K D _ (by simp) (by simp) (by
      obtain ⟨es, clock, hb, Ft, hs, hD⟩ := hown
      exact ⟨es, clock, (Below.heap_alloc _ _ b hbl).trans hb, Ft, hs, hD⟩)
  have cS := AnyZ.sorted_in Tryz.sortedSA Fence.wide 5 trivial trivial trivial trivial rfl (by omega) (sortsS _) (enters_of Tryz.func102 (by kernel_rfl) rfl) 105 #[.pointer (some ⟨w.heap.size, 0, none⟩)] trivial (enters_of Tryz.func105 (by kernel_rfl) rfl) _ _ (by unfold maxLen; omega) (by omega) _ hseq
  refine cS.mono ?_
  rintro e w' ⟨v, ss, rfl, hS, hrow, hnil, hb⟩
  have e1 : ss.mergeSort (fun x y => decide (x ≤ y)) = ks := by
    rw [← asc_strs _ ha]
    exact mergeSort_of_perm (hS.trans hp.symm)
  have e2 : ss.length = ks.length := (hS.trans hp.symm).length_eq
  rw [e1, e2] at hrow
  refine ⟨v, rfl, ?_, ?_⟩
  · have e3 : (w.alloc (.cells #[.map (some b)] 89)).heap.size = w.heap.size + 1 := by simp
    rw [e3] at hrow
    exact hrow
  · simpa using hb
/- maps.Clone of the map of data -/
set_option maxRecDepth 5000 in
theorem mclone_any (w : World) (b K : Nat) (f : Lit → Option Value) (h : MapAt 9 w b f K) : Calls Tryz.prog 85 #[.map (some b)] w fun e w' => e = .returned (.map (some w.heap.size)) ∧ MapAt 9 w' w.heap.size f K ∧ Below w.heap.size w w' ∧ w'.heap.size = w.heap.size + 1 := by
  obtain ⟨D, ⟨es, clock, hb, F, hs, hD⟩, hv⟩ := h
  refine (AnyW.maps_Clone Tryz.mapsCloneA b es clock w hb).mono fun e w' ⟨he, hw⟩ => ?_
  subst hw
  exact ⟨he, ⟨D, ⟨es, clock, (Below.refl w.heap.size w).alloc (Nat.le_refl _) (.map es clock) |> fun _ => heap_alloc_last w _, F, hs, hD⟩, hv⟩, (Below.refl _ w).alloc (Nat.le_refl _) _, by simp⟩
/- slices.Clone of a name -/
set_option maxRecDepth 5000 in
theorem nclone_any (w : World) (ao : Option Addr) (c : Nat) (l : List (List UInt8)) (hl : 0 < l.length) (hl2 : l.length ≤ 1000000) (hs : SlS w ao l) :
    Calls Tryz.prog 48 #[.slice ao l.length c] w fun e w' => ∃ v, e = .returned v ∧ OwnS w' w.heap.size v l ∧ Below w.heap.size w w' := by
  obtain ⟨i0, hi, hz0, hz1, hz2⟩ := info_parts infoS
  obtain ⟨b, o, rfl, hlt, hc⟩ := hs hl
  refine (AnyE.slices_Clone Tryz.nCloneA i0 (.string ⟨#[]⟩) 1 16 hi hz0 hz1 hz2 rfl (by decide) Tryz.sizeOf9 b o l.length c (vs l) w (by rw [vs_len]; omega) (by unfold maxLen; omega) (by omega) (fun j u hu => ?_) (vs_one l)).mono ?_
  · have hj : j < l.length := by have := (List.getElem?_eq_some_iff.1 hu).1; rwa [vs_len] at this
    rw [hc j hj, ← vs_get l j hj, hu]
  · rintro e w' ⟨v, rfl, h1, _, h2⟩
    exact ⟨v, rfl, h1, h2⟩
set_option maxRecDepth 5000 in
theorem nclone_nil (w : World) (n c : Nat) : Calls Tryz.prog 48 #[.slice none n c] w fun e w' => e = .returned (.slice none 0 0) ∧ w' = w := AnyE.slices_Clone_nil Tryz.nCloneA n c w
/- bytes.Clone -/
set_option maxRecDepth 5000 in
theorem bclone_any (w : World) (ao : Option Addr) (c : Nat) (l : List UInt8) (hl2 : l.length ≤ 1000000) (hs : SlL w ao l) (hn : ao = none → c = 0) :
    Calls Tryz.prog 80 #[.slice ao l.length c] w fun e w' => ∃ v, e = .returned v ∧ OwnB w' w.heap.size v l ∧ Below w.heap.size w w' := by
  cases ao with
  | none =>
    have h0 : l = [] := by
      cases l with
      | nil => rfl
      | cons x r => obtain ⟨b, o, e, _⟩ := hs (by simp); cases e
    subst h0
    refine (Tryz.bytes_Clone_nil 0 c w).mono ?_
    rintro e w' ⟨rfl, rfl⟩
    exact ⟨_, rfl, OwnB.nil _ _, Below.refl _ _⟩
  | some a =>
    refine (Tryz.bytes_Clone_at a l.length c (l.map fun x => (x.toNat : Int)) w (by simp) (by omega) (fun i hi => ?_)).mono ?_
    · obtain ⟨b, o, e, hlt, hc⟩ := hs (by omega)
      injection e with e; subst e
      have := hc i hi
      simp only [Addr.add]
      have e2 : (if i = 0 then (⟨b, o, none⟩ : Addr) else ⟨b, o + i, none⟩) = ⟨b, o + i, none⟩ := by
        split
        · rename_i h0; subst h0; rfl
        · rfl
      rw [e2, this]
      simp [List.getD, hi]
    · rintro e w' ⟨v, rfl, h1, _, h2⟩
      refine ⟨v, rfl, ?_, h2⟩
      unfold OwnB
      rw [List.map_map] at h1
      exact h1
end Go.Proofs.YtdldaphkiphpnaaGreat

/- A zone's tree in memory: nodes, their maps, what they hold; what changes leave as it was. -/
namespace Go.Proofs.YtdldaphkiphpnaaGreat
open Go.RowKit
/- maps by the numbers, or the texts, that are their keys -/
def fU (h : Nat → Option Value) : Lit → Option Value
  | .int .u16 z => if 0 ≤ z ∧ z < 65536 then h z.toNat else none
  | _ => none
def fS (h : List UInt8 → Option Value) : Lit → Option Value
  | .string s => h s
  | _ => none
def uput (h : Nat → Option Value) (t : Nat) (v : Value) : Nat → Option Value := fun s => if s = t then some v else h s
def udel (h : Nat → Option Value) (t : Nat) : Nat → Option Value := fun s => if s = t then none else h s
def sput (h : List UInt8 → Option Value) (t : List UInt8) (v : Value) : List UInt8 → Option Value := fun s => if s = t then some v else h s
def sdel (h : List UInt8 → Option Value) (t : List UInt8) : List UInt8 → Option Value := fun s => if s = t then none else h s
set_option maxRecDepth 5000 in
theorem fU_at (h : Nat → Option Value) (t : Nat) (ht : t < 65536) : fU h (.int .u16 (t : Int)) = h t := by
  show (if 0 ≤ (t : Int) ∧ (t : Int) < 65536 then h (t : Int).toNat else none) = _
  rw [if_pos (by omega)]; rfl
set_option maxRecDepth 5000 in
theorem fU_some {h : Nat → Option Value} {k : Lit} (hk : (fU h k).isSome) : ∃ t : Nat, t < 65536 ∧ k = .int .u16 (t : Int) := by
  unfold fU at hk
  split at hk
  · rename_i z
    split at hk
    · rename_i hz; exact ⟨z.toNat, by omega, by rw [Int.toNat_of_nonneg hz.1]⟩
    · cases hk
  · cases hk
set_option maxRecDepth 5000 in
theorem fS_some {h : List UInt8 → Option Value} {k : Lit} (hk : (fS h k).isSome) : ∃ s, k = .string s := by
  unfold fS at hk
  split at hk
  · exact ⟨_, rfl⟩
  · cases hk
set_option maxRecDepth 5000 in
theorem ext_some {f g : Lit → Option Value} (h : ∀ k, (f k).isSome ∨ (g k).isSome → f k = g k) (k : Lit) : f k = g k := by
  cases hf : f k with
  | some v => rw [← hf]; exact h k (Or.inl (by rw [hf]; rfl))
  | none => cases hg : g k with
    | none => rfl
    | some v => rw [← hf, ← hg]; exact h k (Or.inr (by rw [hg]; rfl))
set_option maxRecDepth 5000 in
theorem u16_ne {a b : Nat} (h : a ≠ b) : Lit.int .u16 (a : Int) ≠ .int .u16 (b : Int) := fun e => h (by injection e with _ h; omega)
set_option maxRecDepth 5000 in
theorem str_ne {a b : List UInt8} (h : a ≠ b) : Lit.string a ≠ .string b := fun e => h (by injection e)
set_option maxRecDepth 5000 in
theorem isU (t : Nat) : WideAt.IsKeyLit (.int .u16 (t : Int)) := trivial
set_option maxRecDepth 5000 in
theorem isS (s : List UInt8) : WideAt.IsKeyLit (.string s) := trivial
set_option maxRecDepth 5000 in
theorem fU_other (h : Nat → Option Value) (k : Lit) (hk : ∀ t : Nat, t < 65536 → k ≠ .int .u16 (t : Int)) : fU h k = none := by
  cases hh : fU h k with
  | none => rfl
  | some v => obtain ⟨t, ht, e⟩ := fU_some (h := h) (k := k) (by rw [hh]; rfl); exact absurd e (hk t ht)
set_option maxRecDepth 5000 in
theorem fput_U (h : Nat → Option Value) (t : Nat) (ht : t < 65536) (v : Value) (k : Lit) : fput (fU h) (.int .u16 (t : Int)) v k = fU (uput h t v) k := by
  by_cases e : k = .int .u16 (t : Int)
  · rw [e, fput_same _ (isU t), fU_at _ t ht]; simp [uput]
  · rw [fput_other _ e]
    by_cases hx : ∃ s : Nat, s < 65536 ∧ k = .int .u16 (s : Int)
    · obtain ⟨s, hs, rfl⟩ := hx
      rw [fU_at _ s hs, fU_at _ s hs]
      have : s ≠ t := fun e2 => e (by rw [e2])
      simp [uput, this]
    · rw [fU_other _ k (fun s hs e2 => hx ⟨s, hs, e2⟩), fU_other _ k (fun s hs e2 => hx ⟨s, hs, e2⟩)]
set_option maxRecDepth 5000 in
theorem fdel_U (h : Nat → Option Value) (t : Nat) (ht : t < 65536) (k : Lit) : fdel (fU h) (.int .u16 (t : Int)) k = fU (udel h t) k := by
  by_cases e : k = .int .u16 (t : Int)
  · rw [e, fdel_same _ (isU t), fU_at _ t ht]; simp [udel]
  · rw [fdel_other _ e]
    by_cases hx : ∃ s : Nat, s < 65536 ∧ k = .int .u16 (s : Int)
    · obtain ⟨s, hs, rfl⟩ := hx
      rw [fU_at _ s hs, fU_at _ s hs]
      have : s ≠ t := fun e2 => e (by rw [e2])
      simp [udel, this]
    · rw [fU_other _ k (fun s hs e2 => hx ⟨s, hs, e2⟩), fU_other _ k (fun s hs e2 => hx ⟨s, hs, e2⟩)]
set_option maxRecDepth 5000 in
theorem fS_other (h : List UInt8 → Option Value) (k : Lit) (hk : ∀ s, k ≠ .string s) : fS h k = none := by
  cases hh : fS h k with
  | none => rfl
  | some v => obtain ⟨s, e⟩ := fS_some (h := h) (k := k) (by rw [hh]; rfl); exact absurd e (hk s)
set_option maxRecDepth 5000 in
theorem fput_S (h : List UInt8 → Option Value) (t : List UInt8) (v : Value) (k : Lit) : fput (fS h) (.string t) v k = fS (sput h t v) k := by
  by_cases e : k = .string t
  · rw [e, fput_same _ (isS t)]; simp [sput, fS]
  · rw [fput_other _ e]
    by_cases hx : ∃ s, k = .string s
    · obtain ⟨s, rfl⟩ := hx
      have : s ≠ t := fun e2 => e (by rw [e2])
      simp [sput, fS, this]
    · rw [fS_other _ k (fun s e2 => hx ⟨s, e2⟩), fS_other _ k (fun s e2 => hx ⟨s, e2⟩)]
set_option maxRecDepth 5000 in
theorem fdel_S (h : List UInt8 → Option Value) (t : List UInt8) (k : Lit) : fdel (fS h) (.string t) k = fS (sdel h t) k := by
  by_cases e : k = .string t
  · rw [e, fdel_same _ (isS t)]; simp [sdel, fS]
  · rw [fdel_other _ e]
    by_cases hx : ∃ s, k = .string s
    · obtain ⟨s, rfl⟩ := hx
      have : s ≠ t := fun e2 => e (by rw [e2])
      simp [sdel, fS, this]
    · rw [fS_other _ k (fun s e2 => hx ⟨s, e2⟩), fS_other _ k (fun s e2 => hx ⟨s, e2⟩)]
set_option maxRecDepth 5000 in
theorem fU_none (k : Lit) : fU (fun _ => none) k = none := by
  cases hh : fU (fun _ => none) k with
  | none => rfl
  | some v =>
    obtain ⟨t, ht, e⟩ := fU_some (h := fun _ => none) (k := k) (by rw [hh]; rfl)
    rw [e, fU_at _ t ht] at hh; cases hh
set_option maxRecDepth 5000 in
theorem fS_none (k : Lit) : fS (fun _ => none) k = none := by
  cases hh : fS (fun _ => none) k with
  | none => rfl
  | some v =>
    obtain ⟨s, e⟩ := fS_some (h := fun _ => none) (k := k) (by rw [hh]; rfl)
    rw [e] at hh; cases hh
/- the map b of types, of texts -/
def MapU (w : World) (b : Nat) (h : Nat → Option Value) (K : Nat) : Prop := MapAt 36 w b (fU h) K
def MapS (w : World) (b : Nat) (h : List UInt8 → Option Value) (K : Nat) : Prop := MapAt 9 w b (fS h) K
set_option maxRecDepth 5000 in
theorem MapU.made (w : World) (K : Nat) : MapU (w.alloc (.map #[] 0)) w.heap.size (fun _ => none) K := ((MapAt.made 36 w).congr fun k => (fU_none k).symm).mono (Nat.zero_le _)
set_option maxRecDepth 5000 in
theorem MapS.made (w : World) (K : Nat) : MapS (w.alloc (.map #[] 0)) w.heap.size (fun _ => none) K := ((MapAt.made 9 w).congr fun k => (fS_none k).symm).mono (Nat.zero_le _)
set_option maxRecDepth 5000 in
theorem MapU.ext {w : World} {b K : Nat} {h h' : Nat → Option Value} (m : MapU w b h K) (e : ∀ t, t < 65536 → h t = h' t) : MapU w b h' K := MapAt.congr m (ext_some fun k hk => by
  have : ∃ t : Nat, t < 65536 ∧ k = .int .u16 (t : Int) := by rcases hk with hk | hk <;> exact fU_some hk
  obtain ⟨t, ht, rfl⟩ := this
  rw [fU_at _ t ht, fU_at _ t ht, e t ht])
set_option maxRecDepth 5000 in
theorem MapS.ext {w : World} {b K : Nat} {h h' : List UInt8 → Option Value} (m : MapS w b h K) (e : ∀ s, h s = h' s) : MapS w b h' K := (funext e : h = h') ▸ m
/- what a place in a zone's tree is for -/
inductive Role where
  | none : Role
  | node (p : List (List UInt8)) : Role
  | sets (p : List (List UInt8)) : Role
  | below (p : List (List UInt8)) : Role
  | data (p : List (List UInt8)) (t : Nat) : Role
/- a node: its block, its map of sets, its map of nodes below, the maps of data by types -/
structure Nd where
  n : Nat
  s : Nat
  b : Nat
  dm : Nat → Nat
/- data in memory -/
def DIs (w : World) : Option (List UInt8) → Option Value → Prop
  | none, none => True
  | some d, some v => ∃ ao c, v = .slice ao d.length c ∧ SlL w ao d ∧ (ao = none → c = 0) ∧ d.length ≤ c ∧ d.length ≤ 8192
  | _, _ => False
def setV (S : Z.St) (m : Nat) : Value := .agg #[.int .u32 (S.ttl : Int), .map (some m)]
def ptr (n : Nat) : Value := .pointer (some ⟨n, 0, none⟩)
structure NodeIs (w : World) (G : List (List UInt8) → Option Nd) (C : List (List UInt8) → Nat → Option Z.St) (K : Nat) (p : List (List UInt8)) (x : Nd) : Prop where
  row : RowAt w x.n 96 #[.map (some x.s), .map (some x.b)]
  sets : MapU w x.s (fun t => (C p t).map fun S => setV S (x.dm t)) K
  below : MapS w x.b (fun l => (G (p ++ [l])).map fun y => ptr y.n) K
  data : ∀ t S, C p t = some S → ∃ h, MapS w (x.dm t) h K ∧ ∀ c, DIs w (S.g c) (h c)
/- what may lie in a zone's tree -/
def ZObj (w : World) (i : Nat) : Prop := (∃ es clock, w.heap[i]? = some (.map es clock)) ∨ ∃ a b, w.heap[i]? = some (.cells #[.map a, .map b] 96 (0, 0))
set_option maxRecDepth 5000 in
theorem ZObj.lt {w : World} {i : Nat} (h : ZObj w i) : i < w.heap.size := by
  rcases h with ⟨es, c, h⟩ | ⟨a, b, h⟩ <;> exact (Array.getElem?_eq_some_iff.1 h).1
set_option maxRecDepth 5000 in
theorem ZObj.cell {w : World} {i j : Nat} (h : ZObj w i) {v : Value} (hv : w.cell? ⟨i, j, none⟩ = some v) : ∃ m, v = .map m := by
  rcases h with ⟨es, c, h⟩ | ⟨a, b, h⟩
  · simp [World.cell?, h] at hv
  · rw [cell_of_row w i j _ _ _ h] at hv
    match j with
    | 0 => exact ⟨a, by simpa using hv.symm⟩
    | 1 => exact ⟨b, by simpa using hv.symm⟩
    | j + 2 => simp at hv
set_option maxRecDepth 5000 in
theorem ZObj.heap {w w' : World} {i : Nat} (h : ZObj w i) (e : w'.heap[i]? = w.heap[i]?) : ZObj w' i := by unfold ZObj at *; rw [e]; exact h
structure TreeAt (w : World) (ρ : Nat → Role) (G : List (List UInt8) → Option Nd) (C : List (List UInt8) → Nat → Option Z.St) (K : Nat) : Prop where
  root : (G []).isSome
  up : ∀ p l, (G (p ++ [l])).isSome → (G p).isSome
  node : ∀ p x, G p = some x → NodeIs w G C K p x
  cov : ∀ p t S, C p t = some S → (G p).isSome ∧ t < 65536
  rn : ∀ p x, G p = some x → ρ x.n = .node p
  rs : ∀ p x, G p = some x → ρ x.s = .sets p
  rb : ∀ p x, G p = some x → ρ x.b = .below p
  rd : ∀ p x t S, G p = some x → C p t = some S → ρ (x.dm t) = .data p t
  kind : ∀ i, ρ i ≠ .none → ZObj w i
set_option maxRecDepth 5000 in
theorem TreeAt.pre {w : World} {ρ : Nat → Role} {G : List (List UInt8) → Option Nd} {C : List (List UInt8) → Nat → Option Z.St} {K : Nat} (T : TreeAt w ρ G C K) : ∀ (r p : List (List UInt8)), (G (p ++ r)).isSome → (G p).isSome
  | [], p, h => by simpa using h
  | l :: r, p, h => T.up p l (TreeAt.pre T r (p ++ [l]) (by simpa using h))
/- slices of bytes, of texts, are kept where the tree's blocks alone are others -/
set_option maxRecDepth 5000 in
theorem slL_keep {w w' : World} (hsz : w.heap.size ≤ w'.heap.size) (hb : ∀ i, i < w.heap.size → ¬ ZObj w i → w'.heap[i]? = w.heap[i]?) {ao : Option Addr} {l : List UInt8} (h : SlL w ao l) : SlL w' ao l := fun hn => by
  obtain ⟨b, o, e, hlt, hc⟩ := h hn
  have hz : ¬ ZObj w b := fun hz => by
    obtain ⟨m, hm⟩ := hz.cell (hc 0 hn)
    cases hm
  refine ⟨b, o, e, by omega, fun j hj => ?_⟩
  rw [← hc j hj]
  exact World.cell?_of_block (hb b hlt hz)
set_option maxRecDepth 5000 in
theorem slS_keep {w w' : World} (hsz : w.heap.size ≤ w'.heap.size) (hb : ∀ i, i < w.heap.size → ¬ ZObj w i → w'.heap[i]? = w.heap[i]?) {ao : Option Addr} {l : List (List UInt8)} (h : SlS w ao l) : SlS w' ao l := fun hn => by
  obtain ⟨b, o, e, hlt, hc⟩ := h hn
  have hz : ¬ ZObj w b := fun hz => by
    obtain ⟨m, hm⟩ := hz.cell (hc 0 hn)
    cases hm
  refine ⟨b, o, e, by omega, fun j hj => ?_⟩
  rw [← hc j hj]
  exact World.cell?_of_block (hb b hlt hz)
set_option maxRecDepth 5000 in
theorem DIs.keep {w w' : World} (hs : ∀ ao l, SlL w ao l → SlL w' ao l) : ∀ {d : Option (List UInt8)} {v : Option Value}, DIs w d v → DIs w' d v
  | none, none, _ => trivial
  | some _, some _, ⟨ao, c, h1, h2, h3⟩ => ⟨ao, c, h1, hs _ _ h2, h3⟩
  | none, some _, h => h.elim
  | some _, none, h => h.elim
/- a node whose blocks are as they were -/
set_option maxRecDepth 5000 in
theorem NodeIs.keep {w w' : World} {G G' : List (List UInt8) → Option Nd} {C C' : List (List UInt8) → Nat → Option Z.St} {K K' : Nat} {p : List (List UInt8)} {x : Nd} (h : NodeIs w G C K p x) (hs : ∀ ao l, SlL w ao l → SlL w' ao l) (hK : K ≤ K')
    (hG : ∀ l, ((G' (p ++ [l])).map fun y => y.n) = ((G (p ++ [l])).map fun y => y.n)) (hC : ∀ t, C' p t = C p t) (h1 : w'.heap[x.n]? = w.heap[x.n]?) (h2 : w'.heap[x.s]? = w.heap[x.s]?) (h3 : w'.heap[x.b]? = w.heap[x.b]?) (h4 : ∀ t S, C p t = some S → w'.heap[x.dm t]? = w.heap[x.dm t]?) : NodeIs w' G' C' K' p x := by
  refine ⟨?_, ?_, ?_, fun t S hS => ?_⟩
  · unfold RowAt; rw [h1]; exact h.row
  · refine MapU.ext ((h.sets.heap h2).mono hK) fun t _ => ?_
    rw [hC t]
  · refine MapS.ext ((h.below.heap h3).mono hK) fun l => ?_
    have := hG l
    cases h5 : G (p ++ [l]) with
    | none => rw [h5] at this; cases h6 : G' (p ++ [l]) with
      | none => rfl
      | some y => rw [h6] at this; cases this
    | some y => rw [h5] at this; cases h6 : G' (p ++ [l]) with
      | none => rw [h6] at this; cases this
      | some y' =>
        rw [h6] at this
        have : y'.n = y.n := by simpa using this
        simp [ptr, this]
  · rw [hC t] at hS
    obtain ⟨g, hm, hd⟩ := h.data t S hS
    exact ⟨g, (hm.heap (h4 t S hS)).mono hK, fun c => (hd c).keep hs⟩
/- all of the tree's blocks, and the slices, are as they were -/
set_option maxRecDepth 5000 in
theorem TreeAt.keep {w w' : World} {ρ : Nat → Role} {G : List (List UInt8) → Option Nd} {C : List (List UInt8) → Nat → Option Z.St} {K : Nat} (T : TreeAt w ρ G C K) (hb : ∀ i, ρ i ≠ .none → w'.heap[i]? = w.heap[i]?) (hs : ∀ ao l, SlL w ao l → SlL w' ao l) : TreeAt w' ρ G C K := by
  have ne : ∀ {i r}, ρ i = r → r ≠ .none → ρ i ≠ .none := fun h h2 => by rw [h]; exact h2
  refine ⟨T.root, T.up, fun p x hx => ?_, T.cov, T.rn, T.rs, T.rb, T.rd, fun i hi => (T.kind i hi).heap (hb i hi)⟩
  refine (T.node p x hx).keep hs (Nat.le_refl _) (fun _ => rfl) (fun _ => rfl) (hb _ (ne (T.rn p x hx) (by simp))) (hb _ (ne (T.rs p x hx) (by simp))) (hb _ (ne (T.rb p x hx) (by simp))) fun t S hS => hb _ (ne (T.rd p x t S hx hS) (by simp))
set_option maxRecDepth 5000 in
theorem TreeAt.below_ {w w' : World} {ρ : Nat → Role} {G : List (List UInt8) → Option Nd} {C : List (List UInt8) → Nat → Option Z.St} {K : Nat} (T : TreeAt w ρ G C K) (h : Below w.heap.size w w') : TreeAt w' ρ G C K :=
  T.keep (fun i hi => h.block i (T.kind i hi).lt) fun _ _ hs => hs.below h (Nat.le_refl _)
set_option maxRecDepth 5000 in
theorem TreeAt.mono {w : World} {ρ : Nat → Role} {G : List (List UInt8) → Option Nd} {C : List (List UInt8) → Nat → Option Z.St} {K K' : Nat} (T : TreeAt w ρ G C K) (h : K ≤ K') : TreeAt w ρ G C K' :=
  ⟨T.root, T.up, fun p x hx => (T.node p x hx).keep (fun _ _ h => h) h (fun _ => rfl) (fun _ => rfl) rfl rfl rfl (fun _ _ _ => rfl), T.cov, T.rn, T.rs, T.rb, T.rd, T.kind⟩
/- what a call on a zone moved: blocks of its tree, and new ones -/
structure ZMv (ρ : Nat → Role) (w w' : World) : Prop where
  os : w'.os = w.os
  tape : w'.tape = w.tape
  output : w'.output = w.output
  size : w.heap.size ≤ w'.heap.size
  block : ∀ i, i < w.heap.size → ρ i = .none → w'.heap[i]? = w.heap[i]?
set_option maxRecDepth 5000 in
theorem ZMv.refl (ρ : Nat → Role) (w : World) : ZMv ρ w w := ⟨rfl, rfl, rfl, Nat.le_refl _, fun _ _ _ => rfl⟩
set_option maxRecDepth 5000 in
theorem ZMv.of_below {ρ : Nat → Role} {w w' : World} (h : Below w.heap.size w w') : ZMv ρ w w' := ⟨h.os, h.tape, h.output, h.size, fun i hi _ => h.block i hi⟩
set_option maxRecDepth 5000 in
theorem ZMv.trans {ρ ρ' : Nat → Role} {w w' w'' : World} (h : ZMv ρ w w') (h' : ZMv ρ' w' w'') (hr : ∀ i, i < w.heap.size → ρ i = .none → ρ' i = .none) : ZMv ρ w w'' :=
  ⟨h'.os.trans h.os, h'.tape.trans h.tape, h'.output.trans h.output, Nat.le_trans h.size h'.size, fun i hi h0 => by rw [h'.block i (Nat.lt_of_lt_of_le hi h.size) (hr i hi h0), h.block i hi h0]⟩
set_option maxRecDepth 5000 in
theorem ZMv.slL {ρ : Nat → Role} {w w' : World} (h : ZMv ρ w w') (hk : ∀ i, ρ i ≠ .none → ZObj w i) {ao : Option Addr} {l : List UInt8} (hs : SlL w ao l) : SlL w' ao l := slL_keep h.size (fun i hi hz => h.block i hi (Classical.byContradiction fun h0 => hz (hk i h0))) hs
set_option maxRecDepth 5000 in
theorem ZMv.slS {ρ : Nat → Role} {w w' : World} (h : ZMv ρ w w') (hk : ∀ i, ρ i ≠ .none → ZObj w i) {ao : Option Addr} {l : List (List UInt8)} (hs : SlS w ao l) : SlS w' ao l := slS_keep h.size (fun i hi hz => h.block i hi (Classical.byContradiction fun h0 => hz (hk i h0))) hs
set_option maxRecDepth 5000 in
theorem ZMv.turn {ρ : Nat → Role} {w w' : World} {b : Nat} (h : Turn b w w') (hb : ρ b ≠ .none) : ZMv ρ w w' := ⟨h.os, h.tape, h.output, Nat.le_of_eq h.size.symm, fun i _ h0 => h.block i fun e => hb (e ▸ h0)⟩
/- roles that are there stay -/
def More (w : World) (ρ ρ' : Nat → Role) : Prop := ∀ i, i < w.heap.size → ρ' i = ρ i
set_option maxRecDepth 5000 in
theorem More.refl (w : World) (ρ : Nat → Role) : More w ρ ρ := fun _ _ => rfl
set_option maxRecDepth 5000 in
theorem More.trans {w w' : World} {ρ ρ' ρ'' : Nat → Role} (h : More w ρ ρ') (h' : More w' ρ' ρ'') (hs : w.heap.size ≤ w'.heap.size) : More w ρ ρ'' := fun i hi => (h' i (by omega)).trans (h i hi)
/- one node alone is another: its sets -/
def gput (G : List (List UInt8) → Option Nd) (p : List (List UInt8)) (x : Option Nd) : List (List UInt8) → Option Nd := fun q => if q = p then x else G q
set_option maxRecDepth 5000 in
theorem gput_same (G : List (List UInt8) → Option Nd) (p : List (List UInt8)) (x : Option Nd) : gput G p x p = x := if_pos rfl
set_option maxRecDepth 5000 in
theorem gput_other (G : List (List UInt8) → Option Nd) {p q : List (List UInt8)} (h : q ≠ p) (x : Option Nd) : gput G p x q = G q := if_neg h
set_option maxRecDepth 5000 in
theorem TreeAt.turn {w w' : World} {ρ ρ' : Nat → Role} {G : List (List UInt8) → Option Nd} {C C' : List (List UInt8) → Nat → Option Z.St} {K K' : Nat} (T : TreeAt w ρ G C K) {p : List (List UInt8)} {x x' : Nd} (hx : G p = some x) (hn : x'.n = x.n) (hs : x'.s = x.s) (hb : x'.b = x.b)
    (hC : ∀ q t, q ≠ p → C' q t = C q t) (hK : K ≤ K') (hρ : More w ρ ρ') (hsz : w.heap.size ≤ w'.heap.size) (hblk : ∀ i, i < w.heap.size → ρ i ≠ .sets p → (∀ t, ρ i ≠ .data p t) → w'.heap[i]? = w.heap[i]?)
    (hsets : MapU w' x.s (fun t => (C' p t).map fun S => setV S (x'.dm t)) K') (hdata : ∀ t S, C' p t = some S → t < 65536 ∧ ρ' (x'.dm t) = .data p t ∧ ∃ h, MapS w' (x'.dm t) h K' ∧ ∀ c, DIs w' (S.g c) (h c)) (hkind : ∀ i, ρ' i ≠ .none → ZObj w' i) : TreeAt w' ρ' (gput G p (some x')) C' K' := by
  have hslL : ∀ ao l, SlL w ao l → SlL w' ao l := fun ao l => slL_keep hsz fun i hi hz => by
    have h0 : ρ i = .none := Classical.byContradiction fun h0 => hz (T.kind i h0)
    exact hblk i hi (by rw [h0]; simp) (fun t => by rw [h0]; simp)
  have lt : ∀ {i r}, ρ i = r → r ≠ .none → i < w.heap.size := fun h h2 => (T.kind _ (by rw [h]; exact h2)).lt
  have same : ∀ {i r}, ρ i = r → r ≠ .none → r ≠ .sets p → (∀ t, r ≠ .data p t) → w'.heap[i]? = w.heap[i]? := fun {i r} h h0 h1 h2 => hblk i (lt h h0) (by rw [h]; exact h1) (fun t => by rw [h]; exact h2 t)
  have hgn : ∀ q, ((gput G p (some x') q).map fun y => y.n) = ((G q).map fun y => y.n) := fun q => by
    by_cases e : q = p
    · rw [e, gput_same, hx]; simp [hn]
    · rw [gput_other G e]
  have hgs : ∀ q, (gput G p (some x') q).isSome = (G q).isSome := fun q => by
    have := congrArg Option.isSome (hgn q); simpa using this
  have hcov : ∀ q t S, C' q t = some S → (G q).isSome ∧ t < 65536 := fun q t S hS => by
    by_cases e : q = p
    · rw [e] at hS ⊢; exact ⟨by rw [hx]; rfl, (hdata t S hS).1⟩
    · rw [hC q t e] at hS; exact T.cov q t S hS
  have each : ∀ q y, gput G p (some x') q = some y → ∃ y0, G q = some y0 ∧ y.n = y0.n ∧ y.s = y0.s ∧ y.b = y0.b ∧ (q ≠ p → y = y0) ∧ (q = p → y = x') := fun q y hy => by
    by_cases e : q = p
    · rw [e, gput_same] at hy; injection hy with hy; subst hy
      exact ⟨x, by rw [e]; exact hx, hn, hs, hb, fun h => absurd e h, fun _ => rfl⟩
    · rw [gput_other G e] at hy
      exact ⟨y, hy, rfl, rfl, rfl, fun _ => rfl, fun h => absurd h e⟩
  refine ⟨by rw [hgs]; exact T.root, fun q l h => by rw [hgs] at *; exact T.up q l h, fun q y hy => ?_, fun q t S hS => by rw [hgs]; exact hcov q t S hS, fun q y hy => ?_, fun q y hy => ?_, fun q y hy => ?_, fun q y t S hy hS => ?_, hkind⟩
  · obtain ⟨y0, h0, e1, e2, e3, e4, e5⟩ := each q y hy
    by_cases e : q = p
    · subst e
      rw [hx] at h0; injection h0 with h0; subst h0
      rw [e5 rfl]
      have N0 := T.node q x hx
      refine ⟨?_, by rw [hs]; exact hsets, ?_, fun t S hS => (hdata t S hS).2.2⟩
      · rw [hn, hs, hb]
        unfold RowAt
        rw [same (T.rn q x hx) (by simp) (by simp) (by simp)]
        exact N0.row
      · rw [hb]
        have h3 := (N0.below.heap (same (T.rb q x hx) (by simp) (by simp) (by simp))).mono hK
        refine MapS.ext h3 fun l => ?_
        have := hgn (q ++ [l])
        cases h5 : G (q ++ [l]) with
        | none => rw [h5] at this; cases h6 : gput G q (some x') (q ++ [l]) with
          | none => rfl
          | some y => rw [h6] at this; cases this
        | some y => rw [h5] at this; cases h6 : gput G q (some x') (q ++ [l]) with
          | none => rw [h6] at this; cases this
          | some y' =>
            rw [h6] at this
            have : y'.n = y.n := by simpa using this
            simp [ptr, this]
    · rw [e4 e]
      rw [e4 e] at hy
      exact (T.node q y0 h0).keep hslL hK (fun l => hgn (q ++ [l])) (fun t => hC q t e) (same (T.rn q y0 h0) (by simp) (by simp) (by simp)) (same (T.rs q y0 h0) (by simp) (by simpa using e) (by simp)) (same (T.rb q y0 h0) (by simp) (by simp) (by simp)) fun t S hS => same (T.rd q y0 t S h0 hS) (by simp) (by simp) (by intro s h; injection h with h1 _; exact e h1)
  · obtain ⟨y0, h0, e1, e2, e3, e4, e5⟩ := each q y hy
    rw [e1, hρ _ (lt (T.rn q y0 h0) (by simp))]; exact T.rn q y0 h0
  · obtain ⟨y0, h0, e1, e2, e3, e4, e5⟩ := each q y hy
    rw [e2, hρ _ (lt (T.rs q y0 h0) (by simp))]; exact T.rs q y0 h0
  · obtain ⟨y0, h0, e1, e2, e3, e4, e5⟩ := each q y hy
    rw [e3, hρ _ (lt (T.rb q y0 h0) (by simp))]; exact T.rb q y0 h0
  · obtain ⟨y0, h0, e1, e2, e3, e4, e5⟩ := each q y hy
    by_cases e : q = p
    · subst e; rw [e5 rfl]; exact (hdata t S hS).2.1
    · rw [e4 e]
      rw [hC q t e] at hS
      rw [hρ _ (lt (T.rd q y0 t S h0 hS) (by simp))]; exact T.rd q y0 t S h0 hS
end Go.Proofs.YtdldaphkiphpnaaGreat

/- A zone's tree in memory: a node more, a node less. newNode, empty. -/
namespace Go.Proofs.YtdldaphkiphpnaaGreat
open Go.RowKit
set_option maxRecDepth 5000 in
theorem app_ne {p : List (List UInt8)} {l : List UInt8} : p ≠ p ++ [l] := fun e => by
  have := congrArg List.length e; simp at this
set_option maxRecDepth 5000 in
theorem app_inj {p q : List (List UInt8)} {l m : List UInt8} : p ++ [l] = q ++ [m] ↔ p = q ∧ l = m := by
  constructor
  · intro e; obtain ⟨h1, h2⟩ := List.append_inj' e rfl; exact ⟨h1, by simpa using h2⟩
  · rintro ⟨rfl, rfl⟩; rfl
def role3 (ρ : Nat → Role) (q : List (List UInt8)) (y : Nd) : Nat → Role := fun i => if i = y.n then .node q else if i = y.s then .sets q else if i = y.b then .below q else ρ i
set_option maxRecDepth 5000 in
theorem role3_more {w : World} {ρ : Nat → Role} {q : List (List UInt8)} {y : Nd} (h1 : w.heap.size ≤ y.n) (h2 : w.heap.size ≤ y.s) (h3 : w.heap.size ≤ y.b) : More w ρ (role3 ρ q y) := fun i hi => by
  unfold role3; rw [if_neg (by omega), if_neg (by omega), if_neg (by omega)]
set_option maxRecDepth 5000 in
theorem TreeAt.child {w w' : World} {ρ : Nat → Role} {G : List (List UInt8) → Option Nd} {C : List (List UInt8) → Nat → Option Z.St} {K K' : Nat} (T : TreeAt w ρ G C K) {p : List (List UInt8)} {x y : Nd} {l : List UInt8} (hx : G p = some x) (hno : G (p ++ [l]) = none) (hK : K ≤ K')
    (h1 : w.heap.size ≤ y.n) (h2 : w.heap.size ≤ y.s) (h3 : w.heap.size ≤ y.b) (d1 : y.n ≠ y.s) (d2 : y.n ≠ y.b) (d3 : y.s ≠ y.b) (hsz : w.heap.size ≤ w'.heap.size) (hblk : ∀ i, i < w.heap.size → i ≠ x.b → w'.heap[i]? = w.heap[i]?)
    (hbel : MapS w' x.b (sput (fun l => (G (p ++ [l])).map fun y => ptr y.n) l (ptr y.n)) K') (hrow : RowAt w' y.n 96 #[.map (some y.s), .map (some y.b)]) (hs0 : MapU w' y.s (fun _ => none) K') (hb0 : MapS w' y.b (fun _ => none) K') :
    TreeAt w' (role3 ρ (p ++ [l]) y) (gput G (p ++ [l]) (some y)) C K' := by
  have hρ := role3_more (ρ := ρ) (q := p ++ [l]) h1 h2 h3
  have lt : ∀ {i r}, ρ i = r → r ≠ .none → i < w.heap.size := fun h h2 => (T.kind _ (by rw [h]; exact h2)).lt
  have hxb := T.rb p x hx
  have hzb : ZObj w' x.b := by obtain ⟨es, c, h⟩ := hbel.obj; exact Or.inl ⟨es, c, h⟩
  have hblk2 : ∀ i, i < w.heap.size → ρ i ≠ .below p → w'.heap[i]? = w.heap[i]? := fun i hi h => hblk i hi fun e => h (by rw [e]; exact hxb)
  have hslL : ∀ ao l, SlL w ao l → SlL w' ao l := fun ao l => slL_keep hsz fun i hi hz => by
    have h0 : ρ i = .none := Classical.byContradiction fun h0 => hz (T.kind i h0)
    exact hblk2 i hi (by rw [h0]; simp)
  have same : ∀ {i r}, ρ i = r → r ≠ .none → r ≠ .below p → w'.heap[i]? = w.heap[i]? := fun {i r} h h0 h1 => hblk2 i (lt h h0) (by rw [h]; exact h1)
  have hC0 : ∀ t, C (p ++ [l]) t = none := fun t => by
    cases hc : C (p ++ [l]) t with
    | none => rfl
    | some S => have := (T.cov _ t S hc).1; rw [hno] at this; cases this
  have hG0 : ∀ m, G (p ++ [l] ++ [m]) = none := fun m => by
    cases hg : G (p ++ [l] ++ [m]) with
    | none => rfl
    | some z => have := T.up (p ++ [l]) m (by rw [hg]; rfl); rw [hno] at this; cases this
  have hgs : ∀ q, (G q).isSome → (gput G (p ++ [l]) (some y) q).isSome := fun q h => by
    by_cases e : q = p ++ [l]
    · rw [e, gput_same]; rfl
    · rw [gput_other G e]; exact h
  refine ⟨hgs _ T.root, fun q m h => ?_, fun q z hz => ?_, fun q t S hS => ⟨hgs _ (T.cov q t S hS).1, (T.cov q t S hS).2⟩, fun q z hz => ?_, fun q z hz => ?_, fun q z hz => ?_, fun q z t S hz hS => ?_, fun i hi => ?_⟩
  · by_cases e : q ++ [m] = p ++ [l]
    · obtain ⟨rfl, rfl⟩ := app_inj.1 e
      exact hgs _ (by rw [hx]; rfl)
    · rw [gput_other G e] at h
      exact hgs _ (T.up q m h)
  · by_cases e : q = p ++ [l]
    · subst e
      rw [gput_same] at hz; injection hz with hz; subst hz
      refine ⟨hrow, MapU.ext hs0 fun t _ => by rw [hC0 t]; rfl, MapS.ext hb0 fun m => ?_, fun t S hS => by rw [hC0 t] at hS; cases hS⟩
      rw [gput_other G (fun e => app_ne e.symm), hG0 m]; rfl
    · rw [gput_other G e] at hz
      by_cases e2 : q = p
      · subst e2
        rw [hx] at hz; injection hz with hz; subst hz
        have N0 := T.node q x hx
        refine ⟨?_, ?_, ?_, fun t S hS => ?_⟩
        · unfold RowAt; rw [same (T.rn q x hx) (by simp) (by simp)]; exact N0.row
        · exact (N0.sets.heap (same (T.rs q x hx) (by simp) (by simp))).mono hK
        · refine MapS.ext hbel fun m => ?_
          by_cases em : m = l
          · subst em; rw [gput_same]; simp [sput]
          · rw [gput_other G (fun e => em (app_inj.1 e).2)]; simp [sput, em]
        · obtain ⟨g, hm, hd⟩ := N0.data t S hS
          exact ⟨g, (hm.heap (same (T.rd q x t S hx hS) (by simp) (by simp))).mono hK, fun c => (hd c).keep hslL⟩
      · refine (T.node q z hz).keep hslL hK (fun m => ?_) (fun _ => rfl) (same (T.rn q z hz) (by simp) (by simp)) (same (T.rs q z hz) (by simp) (by simp)) (same (T.rb q z hz) (by simp) (by simpa using e2)) fun t S hS => same (T.rd q z t S hz hS) (by simp) (by simp)
        rw [gput_other G (fun e => e2 (app_inj.1 e).1)]
  · by_cases e : q = p ++ [l]
    · subst e; rw [gput_same] at hz; injection hz with hz; subst hz
      unfold role3; rw [if_pos rfl]
    · rw [gput_other G e] at hz
      rw [hρ _ (lt (T.rn q z hz) (by simp))]; exact T.rn q z hz
  · by_cases e : q = p ++ [l]
    · subst e; rw [gput_same] at hz; injection hz with hz; subst hz
      unfold role3; rw [if_neg (fun e => d1 e.symm), if_pos rfl]
    · rw [gput_other G e] at hz
      rw [hρ _ (lt (T.rs q z hz) (by simp))]; exact T.rs q z hz
  · by_cases e : q = p ++ [l]
    · subst e; rw [gput_same] at hz; injection hz with hz; subst hz
      unfold role3; rw [if_neg (fun e => d2 e.symm), if_neg (fun e => d3 e.symm), if_pos rfl]
    · rw [gput_other G e] at hz
      rw [hρ _ (lt (T.rb q z hz) (by simp))]; exact T.rb q z hz
  · by_cases e : q = p ++ [l]
    · subst e; rw [hC0 t] at hS; cases hS
    · rw [gput_other G e] at hz
      rw [hρ _ (lt (T.rd q z t S hz hS) (by simp))]; exact T.rd q z t S hz hS
  · by_cases e1 : i = y.n
    · rw [e1]; exact Or.inr ⟨_, _, hrow⟩
    · by_cases e2 : i = y.s
      · rw [e2]; obtain ⟨es, c, h⟩ := hs0.obj; exact Or.inl ⟨es, c, h⟩
      · by_cases e3 : i = y.b
        · rw [e3]; obtain ⟨es, c, h⟩ := hb0.obj; exact Or.inl ⟨es, c, h⟩
        · unfold role3 at hi
          rw [if_neg e1, if_neg e2, if_neg e3] at hi
          by_cases e4 : i = x.b
          · rw [e4]; exact hzb
          · exact (T.kind i hi).heap (hblk i (T.kind i hi).lt e4)
set_option maxRecDepth 5000 in
theorem TreeAt.cut {w w' : World} {ρ : Nat → Role} {G : List (List UInt8) → Option Nd} {C : List (List UInt8) → Nat → Option Z.St} {K : Nat} (T : TreeAt w ρ G C K) {p : List (List UInt8)} {x : Nd} {l : List UInt8} (hx : G p = some x) (hC : ∀ t, C (p ++ [l]) t = none) (hG : ∀ m, G (p ++ [l] ++ [m]) = none)
    (ht : Turn x.b w w') (hbel : MapS w' x.b (sdel (fun l => (G (p ++ [l])).map fun y => ptr y.n) l) K) : TreeAt w' ρ (gput G (p ++ [l]) none) C K := by
  have lt : ∀ {i r}, ρ i = r → r ≠ .none → i < w.heap.size := fun h h2 => (T.kind _ (by rw [h]; exact h2)).lt
  have hxb := T.rb p x hx
  have hblk2 : ∀ i, ρ i ≠ .below p → w'.heap[i]? = w.heap[i]? := fun i h => ht.block i fun e => h (by rw [e]; exact hxb)
  have hslL : ∀ ao l, SlL w ao l → SlL w' ao l := fun ao l => slL_keep (Nat.le_of_eq ht.size.symm) fun i hi hz => by
    have h0 : ρ i = .none := Classical.byContradiction fun h0 => hz (T.kind i h0)
    exact hblk2 i (by rw [h0]; simp)
  have same : ∀ {i r}, ρ i = r → r ≠ .below p → w'.heap[i]? = w.heap[i]? := fun {i r} h h1 => hblk2 i (by rw [h]; exact h1)
  have hgo : ∀ q z, gput G (p ++ [l]) none q = some z → q ≠ p ++ [l] ∧ G q = some z := fun q z hz => by
    by_cases e : q = p ++ [l]
    · rw [e, gput_same] at hz; cases hz
    · rw [gput_other G e] at hz; exact ⟨e, hz⟩
  refine ⟨?_, fun q m h => ?_, fun q z hz => ?_, fun q t S hS => ?_, fun q z hz => T.rn q z (hgo q z hz).2, fun q z hz => T.rs q z (hgo q z hz).2, fun q z hz => T.rb q z (hgo q z hz).2, fun q z t S hz hS => T.rd q z t S (hgo q z hz).2 hS, fun i hi => ?_⟩
  · rw [gput_other G (by simp)]; exact T.root
  · obtain ⟨z, hz⟩ := Option.isSome_iff_exists.1 h
    obtain ⟨e, h2⟩ := hgo _ z hz
    have e2 : q ≠ p ++ [l] := fun e2 => by rw [e2, hG m] at h2; cases h2
    rw [gput_other G e2]
    exact T.up q m (by rw [h2]; rfl)
  · obtain ⟨e, h2⟩ := hgo q z hz
    by_cases e2 : q = p
    · subst e2
      rw [hx] at h2; injection h2 with h2; subst h2
      have N0 := T.node q x hx
      refine ⟨?_, ?_, ?_, fun t S hS => ?_⟩
      · unfold RowAt; rw [same (T.rn q x hx) (by simp)]; exact N0.row
      · exact N0.sets.heap (same (T.rs q x hx) (by simp))
      · refine MapS.ext hbel fun m => ?_
        by_cases em : m = l
        · subst em; rw [gput_same]; simp [sdel]
        · rw [gput_other G (fun e => em (app_inj.1 e).2)]; simp [sdel, em]
      · obtain ⟨g, hm, hd⟩ := N0.data t S hS
        exact ⟨g, hm.heap (same (T.rd q x t S hx hS) (by simp)), fun c => (hd c).keep hslL⟩
    · refine (T.node q z h2).keep hslL (Nat.le_refl _) (fun m => ?_) (fun _ => rfl) (same (T.rn q z h2) (by simp)) (same (T.rs q z h2) (by simp)) (same (T.rb q z h2) (by simpa using e2)) fun t S hS => same (T.rd q z t S h2 hS) (by simp)
      rw [gput_other G (fun e => e2 (app_inj.1 e).1)]
  · have h1 := T.cov q t S hS
    have e : q ≠ p ++ [l] := fun e => by rw [e, hC t] at hS; cases hS
    rw [gput_other G e]; exact h1
  · by_cases e : i = x.b
    · rw [e]; obtain ⟨es, c, h⟩ := hbel.obj; exact Or.inl ⟨es, c, h⟩
    · exact (T.kind i hi).heap (ht.block i e)
/- newNode -/
set_option maxRecDepth 5000 in
theorem newNode_any (w : World) : Calls Tryz.prog 42 #[] w fun e w' => e = .returned (ptr (w.heap.size + 2)) ∧ w' = ((w.alloc (.map #[] 0)).alloc (.map #[] 0)).alloc (.cells #[.map (some w.heap.size), .map (some (w.heap.size + 1))] 96) := by
  have hmm := @run_makeMap Tryz.prog
  go_enter Tryz.func42, Tryz.ntmps42
  go_wp2
  go_ret
  exact ⟨by simp [ptr], by simp⟩
/- whether nothing stands at or below a node -/
set_option maxRecDepth 5000 in
theorem empty_any (w : World) (n s b K : Nat) (f g : Lit → Option Value) (hr : RowAt w n 96 #[.map (some s), .map (some b)]) (hs : MapAt 36 w s f K) (hb : MapAt 9 w b g K) :
    Calls Tryz.prog 57 #[ptr n] w fun e w' => ∃ r : Bool, e = .returned (.bool r) ∧ w' = w ∧ (r = true ↔ (∀ k, f k = none) ∧ ∀ k, g k = none) := by
  obtain ⟨a, ha, ha1, ha2⟩ := hs.none_len keyedH Tryz.underlying93 3
  obtain ⟨c, hc, hc1, hc2⟩ := hb.none_len keyedS Tryz.underlying94 3
  have x0 : w.cell? ⟨n, 0, none⟩ = some (.map (some s)) := hr.cell 0
  have x1 : w.cell? ⟨n, 1, none⟩ = some (.map (some b)) := hr.cell 1
  have H1 := hide ha2
  have H2 := hide hc2
  clear ha2 hc2
  unfold ptr
  go_enter Tryz.func57, Tryz.ntmps57
  by_cases h0 : (a : Int) = 0
  · have h0' : ((a : Int) == 0) = true := by simp [h0]
    go_wp2
    go_ret
    refine ⟨_, rfl, rfl, ?_⟩
    rw [← H1.out, ← H2.out]
    simp; omega
  · have h1' : a ≠ 0 := by omega
    have h0' : ((a : Int) == 0) = false := by simp [h1']
    go_wp2
    go_ret
    refine ⟨_, rfl, rfl, ?_⟩
    rw [← H1.out, ← H2.out]
    simp; omega
end Go.Proofs.YtdldaphkiphpnaaGreat
