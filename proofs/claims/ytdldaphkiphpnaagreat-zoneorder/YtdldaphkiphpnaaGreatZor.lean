/- ZoneOrder, plain: in whatever order records come, their paths and their number are one. -/
import Derived.Test.YtdldaphkiphpnaaGreatZbx
import Derived.Test.YtdldaphkiphpnaaGreatNmC
import Derived.Test.YtdldaphkiphpnaaGreatRda
import Derived.Deep.RegionHeld3
import Derived.Deep.Cut
namespace Go.Proofs.YtdldaphkiphpnaaGreat
open Go.RowKit
namespace Z
def key (x : R) : List (List UInt8) × Nat × List UInt8 := (x.p, x.t, x.c)
def klt (a b : List (List UInt8) × Nat × List UInt8) : Prop := rlt ⟨a.1, a.2.1, a.2.2, 0, []⟩ ⟨b.1, b.2.1, b.2.2, 0, []⟩
def keyK (k : Nat) : List (List UInt8) × Nat × List UInt8 := (path (owner (k % 256)), typeK (k / 256 % 256), (cn (typeK (k / 256 % 256)) (dataK (typeK (k / 256 % 256)) (k / 65536 % 256))).getD [])
set_option maxRecDepth 5000 in
theorem klt_rlt (x y : R) : klt (key x) (key y) ↔ rlt x y := Iff.rfl
set_option maxRecDepth 5000 in
theorem klt_irr (a : List (List UInt8) × Nat × List UInt8) : ¬ klt a a := fun h => by
  have h' : cmpK ⟨a.1, a.2.1, a.2.2, 0, []⟩ ⟨a.1, a.2.1, a.2.2, 0, []⟩ < 0 := h
  rw [cmpK_self] at h'; omega
set_option maxRecDepth 5000 in
theorem klt_asy (a b : List (List UInt8) × Nat × List UInt8) : klt a b → ¬ klt b a := fun h h2 => by
  have h' : cmpK ⟨a.1, a.2.1, a.2.2, 0, []⟩ ⟨b.1, b.2.1, b.2.2, 0, []⟩ < 0 := h
  have h2' : cmpK ⟨b.1, b.2.1, b.2.2, 0, []⟩ ⟨a.1, a.2.1, a.2.2, 0, []⟩ < 0 := h2
  rw [cmpK_neg] at h2'; omega
set_option maxRecDepth 5000 in
theorem keys_eq {L M : List R} (hL : L.Pairwise rlt) (hM : M.Pairwise rlt) (h : ∀ q, q ∈ L.map key ↔ q ∈ M.map key) : L.map key = M.map key :=
  ext_rise klt_irr klt_asy (List.pairwise_map.2 (hL.imp fun {a b} h => (klt_rlt a b).2 h)) (List.pairwise_map.2 (hM.imp fun {a b} h => (klt_rlt a b).2 h)) h
set_option maxRecDepth 5000 in
theorem keys_put (L : List R) (r : R) : ∀ q, q ∈ (put L r).map key ↔ q ∈ L.map key ∨ q = key r := by
  intro q
  have hk : ∀ y : R, key (setT r.p r.t r.ttl y) = key y := fun y => by unfold key; rw [setT_p, setT_t, setT_c]
  rw [List.mem_map, List.mem_map]
  constructor
  · rintro ⟨x, hx, rfl⟩
    obtain ⟨y, hy, rfl⟩ := mem_put.1 hx
    rw [hk]
    rcases hy with h | ⟨_, rfl⟩
    · exact Or.inl ⟨y, h, rfl⟩
    · exact Or.inr rfl
  · rintro (⟨y, hy, rfl⟩ | rfl)
    · exact ⟨_, mem_put.2 ⟨y, Or.inl hy, rfl⟩, hk y⟩
    · by_cases ht : there L r = true
      · obtain ⟨y, hy, h1, h2, h3⟩ := there_iff.1 ht
        refine ⟨_, mem_put.2 ⟨y, Or.inl hy, rfl⟩, ?_⟩
        rw [hk]; unfold key; rw [h1, h2, h3]
      · exact ⟨_, mem_put.2 ⟨r, Or.inr ⟨by simpa using ht, rfl⟩, rfl⟩, hk r⟩
set_option maxRecDepth 5000 in
theorem keys_step (L : List R) (k : Nat) (h : L.length < 2000) : (∀ q, q ∈ (stepK L k).map key ↔ q ∈ L.map key ∨ q = keyK k) ∧ (stepK L k).length ≤ L.length + 1 := by
  obtain ⟨c, hf⟩ := seat_fine k
  have hc : cn (typeK (k / 256 % 256)) (dataK (typeK (k / 256 % 256)) (k / 65536 % 256)) = some c := hf.cn_
  have hk : keyK k = key ⟨path (owner (k % 256)), typeK (k / 256 % 256), c, 30, dataK (typeK (k / 256 % 256)) (k / 65536 % 256)⟩ := by unfold keyK; rw [hc]; rfl
  unfold stepK
  rw [putR_fine hf, hk]
  split
  · rename_i ht
    split
    · refine ⟨fun q => ⟨fun h => Or.inl h, fun h => ?_⟩, Nat.le_succ _⟩
      rcases h with h | rfl
      · exact h
      · obtain ⟨y, hy, h1, h2, h3⟩ := there_iff.1 ht
        exact List.mem_map.2 ⟨y, hy, by unfold key; rw [h1, h2, h3]⟩
    · refine ⟨keys_put _ _, ?_⟩
      rw [put_len]; split <;> omega
  · rw [if_neg (by omega)]
    refine ⟨keys_put _ _, ?_⟩
    rw [put_len]; split <;> omega
set_option maxRecDepth 5000 in
theorem keys_run : ∀ (l : List Nat) (L : List R), L.length + l.length ≤ 2000 → ∀ q, q ∈ (l.foldl stepK L).map key ↔ q ∈ L.map key ∨ ∃ k ∈ l, q = keyK k
  | [], L, _, q => by simp
  | k :: l, L, hh, q => by
    have h' : L.length + (l.length + 1) ≤ 2000 := hh
    obtain ⟨h1, h2⟩ := keys_step L k (by omega)
    rw [List.foldl_cons, keys_run l _ (by omega) q, h1 q]
    constructor
    · rintro ((h | h) | ⟨k', hk', h⟩)
      · exact Or.inl h
      · exact Or.inr ⟨k, List.mem_cons_self .., h⟩
      · exact Or.inr ⟨k', List.mem_cons_of_mem _ hk', h⟩
    · rintro (h | ⟨k', hk', h⟩)
      · exact Or.inl (Or.inl h)
      · rcases List.mem_cons.1 hk' with rfl | hk'
        · exact Or.inl (Or.inr h)
        · exact Or.inr ⟨k', hk', h⟩
def rot (l : List Nat) (n k : Nat) : List Nat := (List.range n).map (fun j => l.getD ((j + k) % n) 0)
set_option maxRecDepth 5000 in
theorem rot_mem (l : List Nat) (n k : Nat) (hl : l.length = n) (hn : 0 < n) (x : Nat) : x ∈ rot l n k ↔ x ∈ l := by
  unfold rot
  rw [List.mem_map]
  constructor
  · rintro ⟨j, _, rfl⟩
    have hlt : (j + k) % n < l.length := by rw [hl]; exact Nat.mod_lt _ hn
    rw [List.getD_eq_getElem?_getD, List.getElem?_eq_getElem hlt]
    exact List.getElem_mem _
  · intro hx
    obtain ⟨i, hi, rfl⟩ := List.mem_iff_getElem.1 hx
    refine ⟨(i + (n - k % n)) % n, List.mem_range.2 (Nat.mod_lt _ hn), ?_⟩
    have e : ((i + (n - k % n)) % n + k) % n = i := by
      rw [Nat.mod_add_mod]
      have h1 := Nat.div_add_mod k n
      have h2 := Nat.mod_lt k hn
      have h3 : i + (n - k % n) + k = i + n * (k / n + 1) := by rw [Nat.mul_succ]; omega
      rw [h3, Nat.add_mul_mod_self_left]
      exact Nat.mod_eq_of_lt (by omega)
    rw [e, List.getD_eq_getElem?_getD, List.getElem?_eq_getElem hi]
    rfl
set_option maxRecDepth 5000 in
theorem rot_len (l : List Nat) (n k : Nat) : (rot l n k).length = n := by simp [rot]
set_option maxRecDepth 5000 in
theorem rot_keys (l : List Nat) (n k : Nat) (hl : l.length = n) (h20 : n ≤ 20) (h1 : (runK l).Pairwise rlt) (h2 : (runK (rot l n k)).Pairwise rlt) : (runK l).map key = (runK (rot l n k)).map key := by
  rcases Nat.eq_zero_or_pos n with rfl | hn
  · obtain rfl : l = [] := List.length_eq_zero_iff.1 hl
    rfl
  refine keys_eq h1 h2 fun q => ?_
  unfold runK
  rw [keys_run l [] (by simp; omega) q, keys_run (rot l n k) [] (by rw [rot_len]; simp; omega) q]
  constructor
  · rintro (h | ⟨a, ha, e⟩)
    · exact Or.inl h
    · exact Or.inr ⟨a, (rot_mem l n k hl hn a).2 ha, e⟩
  · rintro (h | ⟨a, ha, e⟩)
    · exact Or.inl h
    · exact Or.inr ⟨a, (rot_mem l n k hl hn a).1 ha, e⟩
set_option maxRecDepth 5000 in
theorem keys_len {L M : List R} (h : L.map key = M.map key) : L.length = M.length := by
  have := congrArg List.length h
  simpa using this
set_option maxRecDepth 5000 in
theorem keys_paths {L M : List R} (h : L.map key = M.map key) : paths L = paths M := by
  have e : ∀ L : List R, L.map (·.p) = (L.map key).map (·.1) := fun L => by rw [List.map_map]; rfl
  unfold paths
  rw [e L, e M, h]
set_option maxRecDepth 5000 in
theorem rlt_typ {x y : R} (h : rlt x y) (hp : x.p = y.p) : x.t ≤ y.t := by
  have h' : cmpK x y < 0 := h
  unfold cmpK at h'
  rw [hp, if_pos ((N.cmpR_zero).2 rfl)] at h'
  by_cases e : x.t = y.t
  · omega
  · rw [if_neg e] at h'
    by_cases h2 : x.t < y.t
    · omega
    · rw [if_neg h2] at h'; omega
set_option maxRecDepth 5000 in
theorem rise_next {L : List R} (h : L.Pairwise rlt) {j : Nat} {x y : R} (hx : L[j]? = some x) (hy : L[j + 1]? = some y) (ht : y.t < x.t) : ¬ x.p.reverse = y.p.reverse := fun e => by
  have hp : x.p = y.p := List.reverse_inj.1 e
  obtain ⟨h1, e1⟩ := List.getElem?_eq_some_iff.1 hx
  obtain ⟨h2, e2⟩ := List.getElem?_eq_some_iff.1 hy
  have := List.pairwise_iff_getElem.1 h j (j + 1) h1 h2 (Nat.lt_succ_self j)
  rw [e1, e2] at this
  have := rlt_typ this hp
  omega
end Z
set_option maxRecDepth 5000 in
theorem ZLive.rise {X : Nat → Prop} {w : World} {Zb : Nat} {A : List (List UInt8)} {L : List Z.R} {K : Nat} (h : ZLive X w Zb A L K) : L.Pairwise Z.rlt := by
  obtain ⟨ρ, G, C, hz, _⟩ := h
  exact hz.rise
end Go.Proofs.YtdldaphkiphpnaaGreat

/- signethelp.Name of any two names. -/
namespace Go.Proofs.YtdldaphkiphpnaaGreat
open Go.RowKit
set_option maxRecDepth 3000 in
theorem hname_any (n m : List (List UInt8)) (ao bo : Option Addr) (la lb ca cb : Nat) (w : World) (hla : Hid (n.length = la)) (hlb : Hid (m.length = lb)) (hsa : SlS w ao n) (hsb : SlS w bo m) (hma : la ≤ 9223372036854775807) (hmb : lb ≤ 9223372036854775807) :
    Calls Tryz.prog 28 #[.slice ao la ca, .slice bo lb cb] w fun e w' => e = .returned (.bool (decide (n = m))) ∧ ∃ k, w' = w.drewN k := by
  have HSA := hide hsa
  have HSB := hide hsb
  clear hsa hsb
  by_cases hab : la = lb
  · subst hab
    go_enter Tryz.func28, Tryz.ntmps28
    go_wp2
    go_loopw [5] (fun i wr => ∃ j : Nat, i = .int .i64 (j : Int) ∧ j ≤ la ∧ Hid (n.take j = m.take j) ∧ ∃ k, wr = w.drewN k) (fun i _ => la - (intOf i).toNat)
    case atStart => exact ⟨0, rfl, by omega, hide rfl, 0, rfl⟩
    case round =>
      obtain ⟨j, rfl, hj, HE, hm⟩ := hrel
      have HM := hide hm
      clear hm
      by_cases hlt : j < la
      · obtain ⟨b1, o1, rfl, _, hc1⟩ := HSA.out (by have := hla.out; omega)
        obtain ⟨b2, o2, rfl, _, hc2⟩ := HSB.out (by have := hlb.out; omega)
        have hx1 : wr.cell? ⟨b1, o1 + j, none⟩ = some (.string ⟨(n.getD j []).toArray⟩) := by
          obtain ⟨m, rfl⟩ := HM.out
          exact hc1 j (by have := hla.out; omega)
        have hx2 : wr.cell? ⟨b2, o2 + j, none⟩ = some (.string ⟨(m.getD j []).toArray⟩) := by
          obtain ⟨m, rfl⟩ := HM.out
          exact hc2 j (by have := hlb.out; omega)
        clear hc1 hc2
        obtain ⟨x, hx⟩ : ∃ x, x = n.getD j [] := ⟨_, rfl⟩
        obtain ⟨y, hy⟩ : ∃ y, y = m.getD j [] := ⟨_, rfl⟩
        rw [← hx] at hx1
        rw [← hy] at hx2
        have HX := hide hx
        have HY := hide hy
        clear hx hy
        have hj1 : (j : Int) < (la : Int) := by omega
        by_cases hq : x = y
        · have HQ := hide hq
          subst hq
          go_wp2
          go_quiet (fail)
          go_wp2
          go_roundw
          case rel =>
            refine ⟨j + 1, by go_num, by omega, hide ?_, drew_more _ HM.out⟩
            have h1 : j < n.length := by have := hla.out; omega
            have h2 : j < m.length := by have := hlb.out; omega
            have e1 := HX.out
            have e2 := HY.out
            rw [List.getD_eq_getElem?_getD, List.getElem?_eq_getElem h1] at e1
            rw [List.getD_eq_getElem?_getD, List.getElem?_eq_getElem h2] at e2
            rw [List.take_succ_eq_append_getElem h1, List.take_succ_eq_append_getElem h2, HE.out]
            have e3 : n[j] = m[j] := e1.symm.trans e2
            rw [e3]
          case measure => simp [intOf]; omega
        · have hq1 : (x == y) = false := by simp [hq]
          have hq2 : decide (x = y) = false := by simp [hq]
          have hres : decide (n = m) = false := by
            refine decide_eq_false fun e => hq ?_
            rw [HX.out, HY.out, e]
          go_wp2
          go_quiet (fail)
          go_wp2
          go_ret
          exact ⟨by rw [hres]; rfl, drew_more _ HM.out⟩
      · obtain rfl : j = la := by omega
        have hres : decide (n = m) = true := by
          have h := HE.out
          rw [List.take_of_length_le (by have := hla.out; omega), List.take_of_length_le (by have := hlb.out; omega)] at h
          exact decide_eq_true h
        go_wp2
        go_ret
        exact ⟨by rw [hres]; rfl, HM.out⟩
  · have hres : decide (n = m) = false := by
      refine decide_eq_false fun e => hab ?_
      rw [← hla.out, ← hlb.out, e]
    have hab1 : ¬ ((la : Int) = (lb : Int)) := by omega
    go_enter Tryz.func28, Tryz.ntmps28
    go_wp2
    go_ret
    exact ⟨by rw [hres]; rfl, 0, rfl⟩
end Go.Proofs.YtdldaphkiphpnaaGreat

/- signethelp.Names of any two lists of names. -/
namespace Go.Proofs.YtdldaphkiphpnaaGreat
open Go.RowKit
/- a slice of names that may be read -/
def SlM (w : World) (ao : Option Addr) (L : List (List (List UInt8))) : Prop := 0 < L.length → ∃ b o, ao = some ⟨b, o, none⟩ ∧ b < w.heap.size ∧ ∀ j, j < L.length → ∃ a c, w.cell? ⟨b, o + j, none⟩ = some (.slice a (L.getD j []).length c) ∧ SlS w a (L.getD j [])
set_option maxRecDepth 5000 in
theorem drew_two (w : World) (a b : Nat) : (w.drewN a).drewN b = w.drewN (a + b) := by
  show ({ w with drawn := w.drawn + a + b } : World) = { w with drawn := w.drawn + (a + b) }
  rw [Nat.add_assoc]
set_option maxRecDepth 5000 in
theorem drew_one (w : World) (b : Nat) : ∃ k, w.drew.drewN b = w.drewN k := ⟨1 + b, drew_two w 1 b⟩
set_option maxRecDepth 3000 in
theorem hnames_any (L M : List (List (List UInt8))) (ao bo : Option Addr) (la lb ca cb : Nat) (w : World) (hla : Hid (L.length = la)) (hlb : Hid (M.length = lb)) (hsa : SlM w ao L) (hsb : SlM w bo M) (hma : la ≤ 9223372036854775807) (hmb : lb ≤ 9223372036854775807) (hna : Hid (∀ n ∈ L, n.length ≤ 9223372036854775807)) (hnb : Hid (∀ n ∈ M, n.length ≤ 9223372036854775807)) :
    Calls Tryz.prog 17 #[.slice ao la ca, .slice bo lb cb] w fun e w' => e = .returned (.bool (decide (L = M))) ∧ ∃ k, w' = w.drewN k := by
  have HSA := hide hsa
  have HSB := hide hsb
  clear hsa hsb
  by_cases hab : la = lb
  · subst hab
    go_enter Tryz.func17, Tryz.ntmps17
    go_wp2
    go_loopw [5] (fun i wr => ∃ j : Nat, i = .int .i64 (j : Int) ∧ j ≤ la ∧ Hid (L.take j = M.take j) ∧ ∃ k, wr = w.drewN k) (fun i _ => la - (intOf i).toNat)
    case atStart => exact ⟨0, rfl, by omega, hide rfl, 0, rfl⟩
    case round =>
      obtain ⟨j, rfl, hj, HE, hm⟩ := hrel
      have HM := hide hm
      clear hm
      by_cases hlt : j < la
      · obtain ⟨b1, o1, rfl, _, hc1⟩ := HSA.out (by have := hla.out; omega)
        obtain ⟨b2, o2, rfl, _, hc2⟩ := HSB.out (by have := hlb.out; omega)
        obtain ⟨a1, c1, hd1, hs1⟩ := hc1 j (by have := hla.out; omega)
        obtain ⟨a2, c2, hd2, hs2⟩ := hc2 j (by have := hlb.out; omega)
        have h1 : j < L.length := by have := hla.out; omega
        have h2 : j < M.length := by have := hlb.out; omega
        have e1 : L.getD j [] = L[j] := by rw [List.getD_eq_getElem?_getD, List.getElem?_eq_getElem h1]; rfl
        have e2 : M.getD j [] = M[j] := by rw [List.getD_eq_getElem?_getD, List.getElem?_eq_getElem h2]; rfl
        have hm1 : (L.getD j []).length ≤ 9223372036854775807 := by rw [e1]; exact hna.out _ (List.getElem_mem _)
        have hm2 : (M.getD j []).length ≤ 9223372036854775807 := by rw [e2]; exact hnb.out _ (List.getElem_mem _)
        have hstep : L[j] = M[j] → L.take (j + 1) = M.take (j + 1) := fun e => by
          rw [List.take_succ_eq_append_getElem h1, List.take_succ_eq_append_getElem h2, HE.out, e]
        rw [← e1, ← e2] at hstep
        clear hc1 hc2 e1 e2 h1 h2
        obtain ⟨x, hx⟩ : ∃ x, x = L.getD j [] := ⟨_, rfl⟩
        obtain ⟨y, hy⟩ : ∃ y, y = M.getD j [] := ⟨_, rfl⟩
        rw [← hx] at hd1 hs1 hm1 hstep
        rw [← hy] at hd2 hs2 hm2 hstep
        have HSTEP := hide hstep
        have HX := hide hx
        have HY := hide hy
        clear hx hy hstep
        obtain ⟨nx, hnx⟩ : ∃ nx, nx = x.length := ⟨_, rfl⟩
        obtain ⟨ny, hny⟩ : ∃ ny, ny = y.length := ⟨_, rfl⟩
        rw [← hnx] at hd1 hm1
        rw [← hny] at hd2 hm2
        have HNX : Hid (x.length = nx) := hide hnx.symm
        have HNY : Hid (y.length = ny) := hide hny.symm
        clear hnx hny
        have f1 : wr.cell? ⟨b1, o1 + j, none⟩ = some (.slice a1 nx c1) := by obtain ⟨m, rfl⟩ := HM.out; exact hd1
        have f2 : wr.cell? ⟨b2, o2 + j, none⟩ = some (.slice a2 ny c2) := by obtain ⟨m, rfl⟩ := HM.out; exact hd2
        have HS1 : Hid (SlS wr a1 x) := by obtain ⟨m, rfl⟩ := HM.out; exact hide hs1
        have HS2 : Hid (SlS wr a2 y) := by obtain ⟨m, rfl⟩ := HM.out; exact hide hs2
        clear hd1 hd2 hs1 hs2
        have hj1 : (j : Int) < (la : Int) := by omega
        obtain ⟨r, hr⟩ : ∃ r, r = decide (x = y) := ⟨_, rfl⟩
        have HR := hide hr
        clear hr
        go_wp2
        go_cut [26] from 27 (fun s26 wc => s26 = .bool (!r) ∧ ∃ k, wc = wr.drewN k)
        case first =>
          go_region_held3 (fun w' => w'.cell? ⟨b1, o1 + j, none⟩ = some (.slice a1 nx c1) ∧ w'.cell? ⟨b2, o2 + j, none⟩ = some (.slice a2 ny c2)) (exact ⟨f1, f2⟩) ((go_at_call 28; refine (hname_any x y a1 a2 nx ny c1 c2 _ HNX HNY (by exact HS1.out) (by exact HS2.out) hm1 hm2).mono ?_; rintro e wq ⟨he, k, rfl⟩; rw [← HR.out] at he; subst he))
          all_goals go_wp2_with fail
          all_goals go_meet
          all_goals exact ⟨rfl, _, rfl⟩
        case rest =>
          obtain ⟨rfl, hk⟩ := hcut
          have HK := hide hk
          clear hk
          have HM2 : Hid (∃ k, wc = w.drewN k) := by
            obtain ⟨m, rfl⟩ := HM.out
            obtain ⟨k, rfl⟩ := HK.out
            exact hide ⟨_, drew_two _ _ _⟩
          cases r with
          | true =>
            go_wp2
            go_roundw
            case rel => exact ⟨j + 1, by go_num, by omega, hide (HSTEP.out (of_decide_eq_true HR.out.symm)), HM2.out⟩
            case measure => simp [intOf]; omega
          | false =>
            have hres : decide (L = M) = false := by
              refine decide_eq_false fun e => of_decide_eq_false HR.out.symm ?_
              rw [HX.out, HY.out, e]
            go_wp2
            go_ret
            exact ⟨by rw [hres]; rfl, HM2.out⟩
      · obtain rfl : j = la := by omega
        have hres : decide (L = M) = true := by
          have h := HE.out
          rw [List.take_of_length_le (by have := hla.out; omega), List.take_of_length_le (by have := hlb.out; omega)] at h
          exact decide_eq_true h
        go_wp2
        go_ret
        exact ⟨by rw [hres]; rfl, HM.out⟩
  · have hres : decide (L = M) = false := by
      refine decide_eq_false fun e => hab ?_
      rw [← hla.out, ← hlb.out, e]
    have hab1 : ¬ ((la : Int) = (lb : Int)) := by omega
    go_enter Tryz.func17, Tryz.ntmps17
    go_wp2
    go_ret
    exact ⟨by rw [hres]; rfl, 0, rfl⟩
end Go.Proofs.YtdldaphkiphpnaaGreat

/- ZoneOrder: what its end wants. -/
namespace Go.Proofs.YtdldaphkiphpnaaGreat
open Go.RowKit
set_option maxRecDepth 5000 in
theorem SlM.below {w w' : World} {ao : Option Addr} {L : List (List (List UInt8))} (h : SlM w ao L) (hb : Below w.heap.size w w') : SlM w' ao L := fun hn => by
  obtain ⟨b, o, e, hlt, hc⟩ := h hn
  refine ⟨b, o, e, Nat.lt_of_lt_of_le hlt hb.size, fun j hj => ?_⟩
  obtain ⟨a, c, h1, h2⟩ := hc j hj
  exact ⟨a, c, by rw [← h1]; exact World.cell?_of_block (hb.block _ hlt), h2.below hb (Nat.le_refl _)⟩
set_option maxRecDepth 5000 in
theorem slM_of {w : World} {base : Nat} {a : Option Addr} {n c : Nat} {M : List (List (List UInt8))} (h : OwnL 28 1 EM w base (.slice a n c) M) : SlM w a M := fun hn => by
  obtain ⟨g, rfl, h1, h2, _, hc⟩ := h.get hn
  refine ⟨g, 0, rfl, h2, fun j hj => ?_⟩
  have e : M.getD j [] = M[j] := by rw [List.getD_eq_getElem?_getD, List.getElem?_eq_getElem hj]; rfl
  obtain ⟨us, hu, ⟨a', c', hE, hT, _⟩, ht⟩ := hc j M[j] (List.getElem?_eq_getElem hj)
  rw [e]
  refine ⟨a', c', ?_, hT.1⟩
  have := ht 0 (by omega)
  rw [hE] at this
  rw [Nat.zero_add]
  simpa using this
namespace Z
set_option maxRecDepth 5000 in
theorem dd1_len {α : Type} [DecidableEq α] (acc : List α) (a : α) : (dd1 acc a).length ≤ acc.length + 1 := by
  unfold dd1; split
  all_goals first | (simp; done) | omega | (split <;> simp)
set_option maxRecDepth 5000 in
theorem dd_len {α : Type} [DecidableEq α] : ∀ (l acc : List α), (l.foldl dd1 acc).length ≤ acc.length + l.length
  | [], acc => Nat.le_refl _
  | a :: l, acc => by
    have h1 := dd_len l (dd1 acc a)
    have h2 := dd1_len acc a
    rw [List.foldl_cons, List.length_cons]; omega
set_option maxRecDepth 5000 in
theorem paths_len0 (L : List R) : (paths L).length ≤ L.length := by
  have := dd_len (L.map (·.p)) []
  unfold paths
  simpa using this
end Z
set_option maxRecDepth 5000 in
theorem ZLive.short {X : Nat → Prop} {w : World} {Zb : Nat} {A : List (List UInt8)} {L : List Z.R} {K : Nat} (h : ZLive X w Zb A L K) : L.length ≤ 2000 ∧ ∀ n ∈ (Z.paths L).map List.reverse, n.length ≤ 9223372036854775807 := by
  obtain ⟨ρ, G, C, hz, _⟩ := h
  refine ⟨hz.num, fun n hn => ?_⟩
  obtain ⟨p, hp, rfl⟩ := List.mem_map.1 hn
  obtain ⟨x, hx, rfl⟩ := ((Z.paths_rise hz.rise hz.lows).2 p).1 hp
  have := (hz.okk x hx).2.2.2.2
  rw [List.length_reverse]; omega
/- a record's cells in the slice that Records answers -/
set_option maxRecDepth 5000 in
theorem er_cells {w : World} {base g n c : Nat} {L : List Z.R} (h : OwnL 39 5 ER w base (.slice (some ⟨g, 0, none⟩) n c) L) {j : Nat} {x : Z.R} (hx : L[j]? = some x) : ∃ a c, w.cell? ⟨g, j * 5, none⟩ = some (.slice a x.p.length c) ∧ w.cell? ⟨g, j * 5 + 1, none⟩ = some (.int .u16 (x.t : Int)) ∧ SlS w a x.p.reverse := by
  have hn : 0 < L.length := Nat.lt_of_le_of_lt (Nat.zero_le j) (List.getElem?_eq_some_iff.1 hx).1
  obtain ⟨g', e, h1, h2, _, hc⟩ := h.get hn
  injection e with e; injection e with e; subst e
  obtain ⟨us, hu, ⟨na, nc, da, dc, hE, hT, _⟩, ht⟩ := hc j x hx
  have t0 := ht 0 (by omega)
  have t1 := ht 1 (by omega)
  rw [hE] at t0 t1
  exact ⟨na, nc, by simpa using t0, by simpa using t1, hT.1⟩
end Go.Proofs.YtdldaphkiphpnaaGreat

/- ZoneOrder: its walk. -/
namespace Go.Proofs.YtdldaphkiphpnaaGreat
open Go.RowKit
set_option maxRecDepth 5000 in
theorem ZLive.shortR {X : Nat → Prop} {w : World} {Zb : Nat} {A : List (List UInt8)} {L : List Z.R} {K : Nat} (h : ZLive X w Zb A L K) : ∀ x ∈ L, x.p.length ≤ 128 := by
  obtain ⟨ρ, G, C, hz, _⟩ := h
  exact fun x hx => (hz.okk x hx).2.2.2.2
set_option maxRecDepth 100000 in
set_option maxHeartbeats 4000000 in
theorem zoneOrder_walk (l : List Nat) (ao : Option Addr) (len cap : Nat) (turn : Int) (w : World) (hl : Hid (l.length = len)) (hs : SlU w ao l) (hu : ∀ x ∈ l, x < 4294967296) (h20 : len ≤ 20) :
    Calls Tryz.prog 7 #[.slice ao len cap, .int .i64 turn] w fun e w' => e = .returned (.bool true) ∧ Below w.heap.size w w' := by
  have hgt : decide ((20 : Int) < (len : Int)) = false := by simp; omega
  have HS := hide hs
  have HU := hide hu
  obtain ⟨B, hB⟩ : ∃ B, B = w.heap.size := ⟨_, rfl⟩
  have HBe := hide hB
  clear hs hB hu
  go_enter Tryz.func7, Tryz.ntmps7
  go_upto_region 5 with (go_at_call 9; refine (known_any w).mono ?_; rintro e w0 ⟨rfl, hB0⟩)
  go_upto_region 7 with (first
    | (go_at_call 37; refine (place_any turn (len + 1) w2 (by omega) (by omega)).mono ?_; rintro e wq ⟨k, hk, he, hwq⟩; rw [he, hwq]; clear he hwq wq)
    | (go_at_call 12; have hq := HX1.out; clear hq; refine (apex_any w1).mono ?_; rintro e wb ⟨vb, rfl, hOb, hBb⟩; obtain ⟨ab, cb, rfl, hSb, _, hcb, _⟩ := hOb.open)
    | (go_at_call 11; have hq := HX1.out; clear hq; refine (znew_live X wb (fun i hi => Nat.lt_of_lt_of_le (HX1.out.1 i hi) hBb.size) Z.exA ab _ cb (hide rfl) hSb (hide exA_small)).mono ?_; rintro e w2 ⟨Y, rfl, _, hZ2, hB2⟩; rw [exA_low] at hZ2; have HP := hide (HX1.out.2 w2 Y (hBb.trans (hB2.mono hBb.size)) hZ2).flip; have HB2 := hide (HB1.out.trans ((hBb.trans (hB2.mono hBb.size)).mono HB1.out.size)))
    | (go_at_call 12; refine (apex_any w0).mono ?_; rintro e wa ⟨va, rfl, hOa, hBa⟩; obtain ⟨aa, ca, rfl, hSa, _, hca, _⟩ := hOa.open; have hB0a := hB0.trans (hBa.mono hB0.size))
    | (go_at_call 11; refine (znew_live (fun i => i < B) wa (fun i hi => by have := hB0a.size; have := HBe.out; omega) Z.exA aa _ ca (hide rfl) hSa (hide exA_small)).mono ?_; rintro e w1 ⟨V, rfl, _, hZ1, hB1⟩; rw [exA_low] at hZ1; have hb1 := hB0a.trans (hB1.mono hB0a.size); have HB1 := hide hb1; obtain ⟨X, hX1⟩ := ZPair.mk' hZ1 (by have := hb1.size; have := HBe.out; omega); have HX1 := hide hX1; clear hX1 hZ1)
    | fail)
  clear hBb hOb hSb hcb hB2 hZ2 hBa hOa hSa hca hB1 hB0 hB0a hb1
  obtain ⟨sv, hsv⟩ : ∃ sv, sv = (List.range len).map (fun j => l.getD ((j + k) % len) 0) := ⟨_, rfl⟩
  have HSV := hide hsv
  clear hsv
  go_wp2
  go_loopw [8] (fun i wr => ∃ j : Nat, i = .int .i64 (j : Int) ∧ j ≤ len ∧ ZPair B wr V Y Z.exA (Z.runK (l.take j)) (Z.runK (sv.take j)) (j * 10) ∧ Below w.heap.size w wr) (fun i _ => len - (intOf i).toNat)
  case atStart => exact ⟨0, rfl, by omega, HP.out, HB2.out⟩
  case round =>
    obtain ⟨j, rfl, hj, hP, hB⟩ := hrel
    have HPr := hide hP
    have HBr := hide hB
    clear hP hB
    by_cases hlt : j < len
    · have hpos : 0 < len := by omega
      obtain ⟨q, hq⟩ : ∃ q, q = (j + k) % len := ⟨_, rfl⟩
      have hql : q < len := by rw [hq]; exact Nat.mod_lt _ hpos
      have hmod : ((j : Int) + (k : Int)) % (len : Int) = (q : Int) := by rw [hq, Int.natCast_emod, Int.natCast_add]
      obtain ⟨K1, hK1⟩ : ∃ K1, K1 = l.getD j 0 := ⟨_, rfl⟩
      obtain ⟨K2, hK2⟩ : ∃ K2, K2 = l.getD q 0 := ⟨_, rfl⟩
      have hsr := HS.out.below HBr.out (Nat.le_refl _)
      obtain ⟨b, o, rfl, hbl, hcl⟩ := hsr (by have := hl.out; omega)
      have c1 := hcl j (by have := hl.out; omega)
      have c2 := hcl q (by have := hl.out; omega)
      rw [← hK1] at c1
      rw [← hK2] at c2
      have hk1 : K1 < 4294967296 := by
        rw [hK1, List.getD_eq_getElem?_getD, List.getElem?_eq_getElem (by have := hl.out; omega)]
        exact HU.out _ (List.getElem_mem _)
      have hk2 : K2 < 4294967296 := by
        rw [hK2, List.getD_eq_getElem?_getD, List.getElem?_eq_getElem (by have := hl.out; omega)]
        exact HU.out _ (List.getElem_mem _)
      have HQ := hide hq
      have HK1 := hide hK1
      have HK2 := hide hK2
      clear hq hK1 hK2 hcl hsr
      have HR1 := hide (fun W => seatRecord_any K1 hk1 W)
      have HR2 := hide (fun W => seatRecord_any K2 hk2 W)
      obtain ⟨sI, hsI⟩ : ∃ sI : Int, (j : Int) + (k : Int) = sI := ⟨_, rfl⟩
      have hwr : IntKind.i64.wrap ((j : Int) + (k : Int)) = sI := by rw [IntKind.wrap_i64]; omega
      have hl0 : ¬ ((len : Int) = 0) := by omega
      have htm : Int.tmod sI (len : Int) = (q : Int) := by rw [← hsI, Int.tmod_eq_emod_of_nonneg (by omega)]; exact hmod
      clear hsI hmod
      have hl2 : ¬ (len = 0) := by omega
      have hl1 : ¬ ((len : Int) = -1) := by omega
      have hwq : IntKind.i64.wrap (q : Int) = (q : Int) := by rw [IntKind.wrap_i64]; omega
      have hq0 : (0 : Int) ≤ (q : Int) := by omega
      have hqn : (q : Int) < (len : Int) := by omega
      have hx0 := Bx.s0 c1 c2 hbl
      have hT1 : True := trivial
      clear c1 c2
      go_wp2
      go_cut [9, 10] from 109 (fun s9 s10 wc => ∃ g1 g2, s9 = .pointer (some ⟨g1, 0, none⟩) ∧ s10 = .pointer (some ⟨g2, 0, none⟩) ∧ Two wr (Z.owner (K1 % 256)) (Z.dataK (Z.typeK (K1 / 256 % 256)) (K1 / 65536 % 256)) (Z.typeK (K1 / 256 % 256)) (Z.ttlK K1) (Z.owner (K2 % 256)) (Z.dataK (Z.typeK (K2 / 256 % 256)) (K2 / 65536 % 256)) (Z.typeK (K2 / 256 % 256)) (Z.ttlK K2) g1 g2 wc)
      case first =>
        go_region_held3 (fun w' => w'.cell? ⟨b, o + j, none⟩ = some (.int .u32 (K1 : Int)) ∧ w'.cell? ⟨b, o + q, none⟩ = some (.int .u32 (K2 : Int))) (first | (with_reducible first | exact hx0.s | exact hx0.s1.s | exact hx0.s2.s | exact hx3.s | exact hx3.t1.s | exact hx3.t2.s | exact hx4.s | exact hx4.t1.s | exact hx4.t2.s) | exact And.intro (by with_reducible (repeat (first | exact hx4.s.1 | exact hx4.s.2 | refine cell_set1 _ _ ?_ (by dsimp only; omega) | refine cell_al ?_ (by dsimp only; simp only [World.size_alloc]; omega) | refine cell_al ?_ (by dsimp only; omega)))) (by with_reducible (repeat (first | exact hx4.s.1 | exact hx4.s.2 | refine cell_set1 _ _ ?_ (by dsimp only; omega) | refine cell_al ?_ (by dsimp only; simp only [World.size_alloc]; omega) | refine cell_al ?_ (by dsimp only; omega))))) ((first
          | (go_at_call 38; have hq3 := hx3; clear hq3; refine (HR2.out _).mono ?_; rintro e w4 ⟨na2, nc2, da2, dc2, rfl, hSn2, hnc2, hSd2, hnd2, hdc2, hB4⟩; have hx4 := Bx.call hB4 (by with_reducible first | exact hx3 | exact hx3.t1 | exact hx3.t2); have hy4 : Below w3.heap.size w3 w4 := bel_of (by with_reducible first | exact Below.refl _ w3 | exact bel1 w3 _ | exact bel2 w3 _ _) hB4; have z4 := hy4.size; have hb4 : b < w4.heap.size := Nat.lt_of_lt_of_le hx4.2.1 hx4.2.2.1.size; have hR2 := hide (show Rc w4 (Z.owner (K2 % 256)) (Z.dataK (Z.typeK (K2 / 256 % 256)) (K2 / 65536 % 256)) na2 nc2 da2 dc2 from ⟨hSn2, hnc2, hSd2, hnd2, hdc2⟩); have hR1 := hide (hR3.out.bel hy4); clear hSn2 hnc2 hSd2 hnd2 hdc2 hB4 hy4; (first | (have ht := hx4.a2; have u0 := (rz_facts ht.1).1; have u1 := (rz_facts ht.1).2.1; have u2 := (rz_facts ht.1).2.2.1; have u3 := (rz_facts ht.1).2.2.2.1; have u4 := (rz_facts ht.1).2.2.2.2.1; have u5 := (rz_facts ht.1).2.2.2.2.2.1; have u6 := (rz_facts ht.1).2.2.2.2.2.2.1; have u7 := (rz_facts ht.1).2.2.2.2.2.2.2.1; have u8 := (rz_facts ht.1).2.2.2.2.2.2.2.2.1; have u9 := (rz_facts ht.1).2.2.2.2.2.2.2.2.2; have v0 := (rz_facts ht.2.1).1; have v1 := (rz_facts ht.2.1).2.1; have v2 := (rz_facts ht.2.1).2.2.1; have v3 := (rz_facts ht.2.1).2.2.2.1; have v4 := (rz_facts ht.2.1).2.2.2.2.1; have v5 := (rz_facts ht.2.1).2.2.2.2.2.1; have v6 := (rz_facts ht.2.1).2.2.2.2.2.2.1; have v7 := (rz_facts ht.2.1).2.2.2.2.2.2.2.1; have v8 := (rz_facts ht.2.1).2.2.2.2.2.2.2.2.1; have v9 := (rz_facts ht.2.1).2.2.2.2.2.2.2.2.2; have ne1 := ht.2.2.1; have ne2 := ht.2.2.2; clear ht) | (have ht := hx4.a1; have u0 := fun ob => (rz_facts (ht.1 ob)).1; have u1 := fun ob => (rz_facts (ht.1 ob)).2.1; have u2 := fun ob => (rz_facts (ht.1 ob)).2.2.1; have u3 := fun ob => (rz_facts (ht.1 ob)).2.2.2.1; have u4 := fun ob => (rz_facts (ht.1 ob)).2.2.2.2.1; have u5 := fun ob => (rz_facts (ht.1 ob)).2.2.2.2.2.1; have u6 := fun ob => (rz_facts (ht.1 ob)).2.2.2.2.2.2.1; have u7 := fun ob => (rz_facts (ht.1 ob)).2.2.2.2.2.2.2.1; have u8 := fun ob => (rz_facts (ht.1 ob)).2.2.2.2.2.2.2.2.1; have u9 := fun ob => (rz_facts (ht.1 ob)).2.2.2.2.2.2.2.2.2; have ne1 := ht.2.1; have ne2 := ht.2.2; clear ht) | skip))
          | (go_at_call 38; have hT1q := hT1; clear hT1q hT1; refine (HR1.out _).mono ?_; rintro e w3 ⟨na, nc, da, dc, rfl, hSn, hnc, hSd, hnd, hdc, hB3⟩; have hx3 := Bx.call hB3 (by with_reducible first | exact hx0 | exact hx0.s1 | exact hx0.s2); have z3 := hx3.2.2.1.size; have hR3 := hide (show Rc w3 (Z.owner (K1 % 256)) (Z.dataK (Z.typeK (K1 / 256 % 256)) (K1 / 65536 % 256)) na nc da dc from ⟨hSn, hnc, hSd, hnd, hdc⟩); clear hSn hnc hSd hnd hdc hB3)))
        all_goals go_wp2_with fail
        all_goals go_meet
        all_goals refine ⟨_, _, rfl, rfl, ?_⟩
        all_goals with_reducible first
          | exact Two.c hx4 hR1.out hR2.out
          | exact Two.c2 hx4 hR1.out hR2.out
          | exact Two.b hx4 hR1.out hR2.out (by simp)
          | exact Two.mk hx4 (by simp) (by simp) ne1 hR1.out hR2.out
          | exact Two.mk hx4 (by simp) (by simp) ne2 hR1.out hR2.out
          | exact Two.mk hx4.t1 (by simp) (by simp) ne1 (hR1.out.bel (bel1 w4 _)) (hR2.out.bel (bel1 w4 _))
          | exact Two.mk hx4.t1 (by simp) (by simp) ne2 (hR1.out.bel (bel1 w4 _)) (hR2.out.bel (bel1 w4 _))
      case rest =>
        obtain ⟨g1, g2, rfl, rfl, hT⟩ := hcut
        have hwj : IntKind.i64.wrap ((j : Int) + 1) = ((j + 1 : Nat) : Int) := by rw [IntKind.wrap_i64]; omega
        have hF := hT.facts
        have p1 := hF.1
        have p2 := hF.2.1
        have p3 := hF.2.2.1
        have p4 := hF.2.2.2.1
        have p5 := hF.2.2.2.2.1
        have p6 := hF.2.2.2.2.2
        have HT2 := hide hT.ttl
        clear hF hT
        go_upto_region 12 with fail
        have hT3 := HT2.out
        obtain ⟨wd, hwd⟩ : ∃ wd, wd = (wc.setCell ⟨g1, 3, none⟩ (.int .u32 30)).setCell ⟨g2, 3, none⟩ (.int .u32 30) := ⟨_, rfl⟩
        rw [← hwd] at hT3 ⊢
        obtain ⟨na, nc, da, dc, na2, nc2, da2, dc2, hne, hr1, hr2, hs1, hs2, hbd, hg1, hg2⟩ := hT3
        have HPd := hide (HPr.out.bel hbd)
        have HBd := hide (HBr.out.trans (hbd.mono HBr.out.size))
        obtain ⟨x0, x1, x2, x3, x4⟩ := rc_facts hr1
        have HR2d := hide hr2
        have HS1 := hide hs1
        have HS2 := hide hs2
        have hn1 := (Z.owner_good (K1 % 256)).2.2.1
        have hn2 := (Z.owner_good (K2 % 256)).2.2.1
        have ht1 := Z.typeK_lt (K1 / 256 % 256)
        have ht2 := Z.typeK_lt (K2 / 256 % 256)
        have hz1 : j * 10 + (Z.owner (K1 % 256)).length + 2 ≤ 1000000 := by omega
        have hz2 : j * 10 + (Z.owner (K1 % 256)).length + 1 + (Z.owner (K2 % 256)).length + 2 ≤ 1000000 := by omega
        have hz3 : j * 10 + (Z.owner (K1 % 256)).length + 1 + (Z.owner (K2 % 256)).length + 1 ≤ (j + 1) * 10 := by omega
        have hB0 : ∀ i, i < w.heap.size → i < B := fun i hi => by have := HBe.out; omega
        have HB0 := hide hB0
        have HZ1 := hide hz1
        have HZ2 := hide hz2
        have HZ3 := hide hz3
        have hT2 : True := trivial
        clear hr1 hr2 hs1 hs2 hbd hwd p1 p2 p3 p4 HT2 hB0 hz1 hz2 hz3 HPr HBr HR1 HR2
        go_wp2_with (first
          | (go_at_call 36; have hq5 := HP5.out; clear hq5; refine (zput_pair HP5.out (hide exA_small) (Z.owner (K2 % 256)) na2 _ nc2 (hide rfl) (HS2.out.2.1) HS25.out.1 (hide (Z.owner_small _)) (Z.typeK (K2 / 256 % 256)) 1 30 (Z.dataK (Z.typeK (K2 / 256 % 256)) (K2 / 65536 % 256)) da2 _ dc2 (hide rfl) HS25.out.2 HS2.out.2.2.2.1 HS2.out.2.2.2.2 ht2 (by decide) HZ2.out).mono ?_; rintro e w6 ⟨he, hP6, hK6⟩; subst he; have HP6 := hide hP6.flip; have HB6 := hide (HB5.out.trans (hK6.below HB0.out HB5.out.size)); clear hP6 hK6)
          | (go_at_call 36; have hT2q := hT2; clear hT2q hT2; refine (zput_pair HPd.out (hide exA_small) (Z.owner (K1 % 256)) na _ nc (hide rfl) (HS1.out.2.1) HS1.out.1 (hide (Z.owner_small _)) (Z.typeK (K1 / 256 % 256)) 1 30 (Z.dataK (Z.typeK (K1 / 256 % 256)) (K1 / 65536 % 256)) da _ dc (hide rfl) HS1.out.2.2.1 HS1.out.2.2.2.1 HS1.out.2.2.2.2 ht1 (by decide) HZ1.out).mono ?_; rintro e w5 ⟨he, hP5, hK5⟩; subst he; have HP5 := hide hP5.flip; have HB5 := hide (HBd.out.trans (hK5.below HB0.out HBd.out.size)); have hr5 := hK5.row HR2d.out (by decide) (by decide); obtain ⟨y0, y1, y2, y3, y4⟩ := rc_facts hr5; have HS25 := hide (And.intro (hK5.ss _ _ HS2.out.1) (hK5.sl _ _ HS2.out.2.2.1)); clear hP5 hK5 hr5)
          | fail)
        go_roundw
        case rel =>
          refine ⟨j + 1, by go_num, by omega, ?_, HB6.out⟩
          have hjl : j < l.length := by have := hl.out; omega
          have hjs : j < sv.length := by rw [HSV.out]; simpa using hlt
          have hk2 : sv.getD j 0 = K2 := by
            rw [HSV.out, List.getD_eq_getElem?_getD, List.getElem?_map, List.getElem?_range hlt]
            show l.getD ((j + k) % len) 0 = K2
            rw [← HQ.out, HK2.out]
          rw [Z.runK_take l j hjl, Z.runK_take sv j hjs, hk2, ← HK1.out]
          exact HP6.out.mono HZ3.out
        case measure => simp [intOf]; omega
    · obtain rfl : j = len := by omega
      have ht1 : l.take j = l := List.take_of_length_le (by have := hl.out; omega)
      have hsv : sv = Z.rot l j k := HSV.out
      have ht2 : sv.take j = sv := List.take_of_length_le (by rw [hsv, Z.rot_len]; exact Nat.le_refl _)
      have hp := HPr.out
      rw [ht1, ht2, hsv] at hp
      have hkeys := Z.rot_keys l j k hl.out h20 hp.y.rise hp.flip.y.rise
      have hlen := Z.keys_len hkeys
      have hpaths := Z.keys_paths hkeys
      have hrise := hp.y.rise
      have hsh1 := hp.y.short
      have hsh2 := hp.flip.y.short
      obtain ⟨L1, hL1⟩ : ∃ L1, L1 = Z.runK l := ⟨_, rfl⟩
      obtain ⟨L2, hL2⟩ : ∃ L2, L2 = Z.runK (Z.rot l j k) := ⟨_, rfl⟩
      rw [← hL1] at hp hlen hpaths hrise hsh1
      rw [← hL2] at hp hlen hpaths hsh2
      have HPw := hide hp
      have HLEN := hide hlen
      have HPATHS := hide hpaths
      have HRISE := hide hrise
      have HSH1 := hide hsh1
      have HSHR := hide hp.y.shortR
      have HSH2 := hide hsh2
      have hK : j * 10 ≤ 1000000 := by omega
      clear hp hlen hpaths hrise hsh1 hsh2 hL1 hL2 hkeys ht1 ht2 hsv HPr hj hlt hl HSV
      go_upto_region 15 with (first
        | (go_at_call 16; refine (zrecords_live HPw.out.y hK).mono ?_; rintro e w3 ⟨v, rfl, hO, hB3⟩; obtain ⟨av, cv, rfl, _, hcv⟩ := hO.slice)
        | fail)
      have HP3 := hide (HPw.out.bel hB3)
      have HB3 := hide (HBr.out.trans (hB3.mono HBr.out.size))
      have HO := hide hO
      obtain ⟨n, hn⟩ : ∃ n, n = L1.length := ⟨_, rfl⟩
      rw [← hn] at HO ⊢
      have HN := hide hn
      clear hO hB3 hn hcv HPw HBr
      go_wp2
      go_loopw [12] (fun i wz => ∃ q : Nat, i = .int .i64 (q : Int) ∧ 1 ≤ q ∧ (q ≤ n ∨ q = 1) ∧ ∃ m, wz = w3.drewN m) (fun i _ => n - (intOf i).toNat)
      case atStart => exact ⟨1, rfl, Nat.le_refl _, Or.inr rfl, 0, rfl⟩
      case round =>
        obtain ⟨q, rfl, hq1, hqn, hm⟩ := hrel
        have HM := hide hm
        clear hm
        by_cases hlt : q < n
        · obtain ⟨p, hpq⟩ : ∃ p, q = p + 1 := ⟨q - 1, by omega⟩
          have hpL : p < L1.length := by have := HN.out; omega
          have hqL : p + 1 < L1.length := by have := HN.out; omega
          obtain ⟨x, hx⟩ : ∃ x, L1[p]? = some x := ⟨_, List.getElem?_eq_getElem hpL⟩
          obtain ⟨y, hy⟩ : ∃ y, L1[p + 1]? = some y := ⟨_, List.getElem?_eq_getElem hqL⟩
          have hnx : x.p.length ≤ 128 := HSHR.out x (List.mem_of_getElem? hx)
          have hny : y.p.length ≤ 128 := HSHR.out y (List.mem_of_getElem? hy)
          have hnext : y.t < x.t → decide (x.p.reverse = y.p.reverse) = false := fun h => decide_eq_false (Z.rise_next HRISE.out hx hy h)
          obtain ⟨g, rfl, _, hgl, _⟩ := HO.out.get (by omega)
          obtain ⟨a1, c1, d0, d1, s1⟩ := er_cells HO.out hx
          obtain ⟨a2, c2, e0, e1, s2⟩ := er_cells HO.out hy
          rw [← hpq] at e0 e1
          obtain ⟨tx, htx⟩ : ∃ tx, tx = x.t := ⟨_, rfl⟩
          obtain ⟨ty, hty⟩ : ∃ ty, ty = y.t := ⟨_, rfl⟩
          obtain ⟨nx, hnx2⟩ : ∃ nx, nx = x.p.length := ⟨_, rfl⟩
          obtain ⟨ny, hny2⟩ : ∃ ny, ny = y.p.length := ⟨_, rfl⟩
          rw [← htx] at d1 hnext
          rw [← hty] at e1 hnext
          rw [← hnx2] at d0 hnx
          rw [← hny2] at e0 hny
          have HNX : Hid (x.p.reverse.length = nx) := hide (by rw [List.length_reverse]; exact hnx2.symm)
          have HNY : Hid (y.p.reverse.length = ny) := hide (by rw [List.length_reverse]; exact hny2.symm)
          have f0 : wr.cell? ⟨g, p * 5, none⟩ = some (.slice a1 nx c1) := by obtain ⟨m, rfl⟩ := HM.out; exact d0
          have f1 : wr.cell? ⟨g, p * 5 + 1, none⟩ = some (.int .u16 (tx : Int)) := by obtain ⟨m, rfl⟩ := HM.out; exact d1
          have h0 : wr.cell? ⟨g, q * 5, none⟩ = some (.slice a2 ny c2) := by obtain ⟨m, rfl⟩ := HM.out; exact e0
          have h1 : wr.cell? ⟨g, q * 5 + 1, none⟩ = some (.int .u16 (ty : Int)) := by obtain ⟨m, rfl⟩ := HM.out; exact e1
          have HS1 : Hid (SlS wr a1 x.p.reverse) := by obtain ⟨m, rfl⟩ := HM.out; exact hide s1
          have HS2 : Hid (SlS wr a2 y.p.reverse) := by obtain ⟨m, rfl⟩ := HM.out; exact hide s2
          have hwp : IntKind.i64.wrap ((q : Int) - 1) = (p : Int) := by
            have := HSH1.out.1
            have := HN.out
            rw [IntKind.wrap_i64]; omega
          have hwq : IntKind.i64.wrap ((q : Int) + 1) = ((q + 1 : Nat) : Int) := by
            have := HSH1.out.1
            have := HN.out
            rw [IntKind.wrap_i64]; omega
          have hp0 : (0 : Int) ≤ (p : Int) := by omega
          have hpn : (p : Int) < (n : Int) := by omega
          have hqi : (q : Int) < (n : Int) := by omega
          have HPQ := hide hpq
          have HNEXT := hide hnext
          clear hpq hnext d0 d1 e0 e1 s1 s2 htx hty hnx2 hny2 hx hy hpL hqL hqn
          by_cases ht : ty < tx
          · have hd : decide ((ty : Int) < (tx : Int)) = true := by simp; omega
            have hd2 : (ty : Int) < (tx : Int) := by omega
            have HD := hide (HNEXT.out ht)
            go_wp2
            go_cut [89] from 109 (fun s89 wc => s89 = .bool false ∧ ∃ k, wc = wr.drewN k)
            case first =>
              go_region_held3 (fun w' => w'.cell? ⟨g, p * 5, none⟩ = some (.slice a1 nx c1) ∧ w'.cell? ⟨g, p * 5 + 1, none⟩ = some (.int .u16 (tx : Int)) ∧ w'.cell? ⟨g, q * 5, none⟩ = some (.slice a2 ny c2) ∧ w'.cell? ⟨g, q * 5 + 1, none⟩ = some (.int .u16 (ty : Int))) (exact ⟨f0, f1, h0, h1⟩) ((go_at_call 28; refine (hname_any x.p.reverse y.p.reverse a1 a2 nx ny c1 c2 _ HNX HNY (by exact HS1.out) (by exact HS2.out) (by omega) (by omega)).mono ?_; rintro e wq ⟨he, k, rfl⟩; rw [HD.out] at he; subst he))
              all_goals go_wp2_with fail
              all_goals go_meet
              all_goals exact ⟨rfl, _, rfl⟩
            case rest =>
              obtain ⟨rfl, hk⟩ := hcut
              have HK := hide hk
              clear hk
              go_wp2
              go_roundw
              case rel =>
                refine ⟨q + 1, by go_num, by omega, Or.inl (by omega), ?_⟩
                obtain ⟨m, rfl⟩ := HM.out
                obtain ⟨k, rfl⟩ := HK.out
                exact ⟨_, drew_two _ _ _⟩
              case measure => simp [intOf]; omega
          · have hd : decide ((ty : Int) < (tx : Int)) = false := by simp; omega
            have hd2 : ¬ (ty : Int) < (tx : Int) := by omega
            have hd3 : (tx : Int) ≤ (ty : Int) := by omega
            go_wp2
            go_quiet (fail)
            go_wp2
            go_roundw
            case rel => exact ⟨q + 1, by go_num, by omega, Or.inl (by omega), drew_more _ HM.out⟩
            case measure => simp [intOf]; omega
        · have hP := HP3.out
          have HPz : Hid (ZPair B wr V Y Z.exA L1 L2 (j * 10)) := by
            obtain ⟨m, rfl⟩ := HM.out
            exact hide (HP3.out.bel (below_drewN (Below.refl _ w3) m))
          have HBz : Hid (Below w.heap.size w wr) := by
            obtain ⟨m, rfl⟩ := HM.out
            exact hide (below_drewN HB3.out m)
          obtain ⟨M, hMM⟩ : ∃ M, M = (Z.paths L1).map List.reverse := ⟨_, rfl⟩
          obtain ⟨m, hmm⟩ : ∃ m, m = M.length := ⟨_, rfl⟩
          have HNA : Hid (∀ n ∈ M, n.length ≤ 9223372036854775807) := by rw [hMM]; exact hide HSH1.out.2
          have hm9 : m ≤ 9223372036854775807 := by
            have := Z.paths_len0 L1; have := HSH1.out.1
            rw [hmm, hMM, List.length_map]; omega
          have HMM := hide hMM
          have HML : Hid (M.length = m) := hide hmm.symm
          have hT1 : True := trivial
          clear hP HM hMM hmm
          go_wp2_with (first
            | (go_at_call 17; refine (hnames_any M M a5 a6 m m c5 c6 _ HML HML HSA.out HSB.out hm9 hm9 HNA HNA).mono ?_; rintro e w7 ⟨he, hk7⟩; rw [decide_eq_true (rfl : M = M)] at he; subst he; have HK7 := hide hk7; have HP7 : Hid (ZPair B w7 V Y Z.exA L1 L2 (j * 10)) := (by obtain ⟨m, rfl⟩ := HK7.out; exact hide (HP6.out.bel (below_drewN (Below.refl _ w6) m))); have HB7 : Hid (Below w.heap.size w w7) := (by obtain ⟨m, rfl⟩ := HK7.out; exact hide (below_drewN HB6.out m)))
            | (go_at_call 14; have hk7q := HK7.out; clear hk7q; refine (zlen_live HP7.out.y).mono ?_; rintro e wq ⟨he, hwq⟩; rw [← HN.out] at he; rw [he, hwq]; clear he hwq wq)
            | (go_at_call 14; have hk7q := HK7.out; clear hk7q; refine (zlen_live HP7.out.flip.y).mono ?_; rintro e wq ⟨he, hwq⟩; rw [← HLEN.out, ← HN.out] at he; rw [he, hwq]; clear he hwq wq)
            | (go_at_call 14; refine (zlen_live HPz.out.y).mono ?_; rintro e wq ⟨he, hwq⟩; rw [← HN.out] at he; rw [he, hwq]; clear he hwq wq)
            | (go_at_call 18; have hb5q := HB5.out; clear hb5q; refine (znames_live HP5.out.flip.y hK).mono ?_; rintro e w6 ⟨v6, rfl, hO6, hB6⟩; rw [← HPATHS.out, ← HMM.out] at hO6; obtain ⟨a6, c6, hv6, _, _⟩ := hO6.slice; rw [HML.out] at hv6; subst hv6; have HSA := hide (HS5.out.below hB6); have HSB := hide (slM_of hO6); have HP6 := hide (HP5.out.bel hB6); have HB6 := hide (HB5.out.trans (hB6.mono HB5.out.size)); clear hO6 hB6)
            | (go_at_call 18; have hT1q := hT1; clear hT1q hT1; refine (znames_live HPz.out.y hK).mono ?_; rintro e w5 ⟨v5, rfl, hO5, hB5⟩; rw [← HMM.out] at hO5; obtain ⟨a5, c5, hv5, _, _⟩ := hO5.slice; rw [HML.out] at hv5; subst hv5; have HS5 := hide (slM_of hO5); have HP5 := hide (HPz.out.bel hB5); have HB5 := hide (HBz.out.trans (hB5.mono HBz.out.size)); clear hO5 hB5)
            | fail)
          go_ret
          exact ⟨rfl, HB7.out⟩
set_option maxRecDepth 5000 in
theorem zoneOrder_wide (ao : Option Addr) (len cap : Nat) (turn : Int) (w : World) (h20 : 20 < len) :
    Calls Tryz.prog 7 #[.slice ao len cap, .int .i64 turn] w fun e w' => e = .returned (.bool true) ∧ Below w.heap.size w w' := by
  have hgt : decide ((20 : Int) < (len : Int)) = true := by simp; omega
  have hgt2 : (20 : Int) < (len : Int) := by omega
  go_enter Tryz.func7, Tryz.ntmps7
  go_wp2_with (go_at_call 9; refine (known_any w).mono ?_; rintro e w0 ⟨rfl, hB0⟩)
  go_ret
  exact ⟨rfl, hB0⟩
end Go.Proofs.YtdldaphkiphpnaaGreat
