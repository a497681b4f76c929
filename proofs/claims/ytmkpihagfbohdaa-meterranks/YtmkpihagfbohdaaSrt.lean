/- meter.Rank, walked: without NaNs, sorted by Order, the one at its place. -/
import Derived.Test.YtmkpihagfbohdaaRnk
namespace Go.Proofs.Ytmkpihagfbohdaa
open Go.RowKit Go.Lib Go.Sort
/- a float of 64 bits as the sort sees it -/
def encF (u : UInt64) : Value := .float .f64 u.toNat
def us (l : List Nat) : List UInt64 := l.map UInt64.ofNat
def Small (l : List Nat) : Prop := ∀ x ∈ l, x < 2 ^ 64
set_option maxRecDepth 5000 in
theorem toNat_ofNat {x : Nat} (h : x < 2 ^ 64) : (UInt64.ofNat x).toNat = x := by
  rw [UInt64.toNat_ofNat']; exact Nat.mod_eq_of_lt h
set_option maxRecDepth 5000 in
theorem us_vf {l : List Nat} (h : Small l) : (us l).map encF = vf l := by
  unfold us vf encF
  rw [List.map_map]
  apply List.map_congr_left
  intro x hx
  show Value.float .f64 (UInt64.ofNat x).toNat = _
  rw [toNat_ofNat (h x hx)]
set_option maxRecDepth 5000 in
theorem us_len (l : List Nat) : (us l).length = l.length := by simp [us]
set_option maxRecDepth 5000 in
theorem us_back {l : List Nat} (h : Small l) : (us l).map UInt64.toNat = l := by
  unfold us
  rw [List.map_map]
  conv => rhs; rw [← List.map_id l]
  apply List.map_congr_left
  intro x hx
  exact toNat_ofNat (h x hx)
namespace F
def nums (l : List Nat) : List Nat := l.filter fun x => !nan x
def le (a b : Nat) : Bool := decide (okey a ≤ okey b)
/- the numbers in order -/
def srt (l : List Nat) : List Nat := (nums l).mergeSort le
def rank (l : List Nat) (q : Nat) : Nat := if (nums l).length = 0 then 9221120237041090561 else (srt l).getD (plc q (nums l).length) 0
set_option maxRecDepth 5000 in
theorem srt_perm (l : List Nat) : (srt l).Perm (nums l) := List.mergeSort_perm _ _
set_option maxRecDepth 5000 in
theorem srt_sorted (l : List Nat) : (srt l).Pairwise (fun a b => okey a ≤ okey b) := by
  have h := List.pairwise_mergeSort (le := le) (fun a b c h1 h2 => by simp [le] at *; omega) (fun a b => by simp [le]; omega) (nums l)
  exact h.imp fun h => by simpa [le] using h
set_option maxRecDepth 5000 in
theorem nums_small {l : List Nat} (h : Small l) : Small (nums l) := fun x hx => h x (List.mem_filter.1 hx).1
set_option maxRecDepth 5000 in
theorem nums_num {l : List Nat} {x : Nat} (hx : x ∈ nums l) : nan x = false := by simpa using (List.mem_filter.1 hx).2
set_option maxRecDepth 5000 in
theorem okey_eq {a b : Nat} (ha : a < 2 ^ 64) (hb : b < 2 ^ 64) (na : nan a = false) (h : okey a = okey b) : a = b := norm_eq (okey_inj ha hb h) na
/- in order they stand in one way alone -/
set_option maxRecDepth 5000 in
theorem srt_only {l m : List Nat} (hs : Small l) (hp : m.Perm (nums l)) (ho : m.Pairwise (fun a b => okey a ≤ okey b)) : m = srt l := by
  refine List.Perm.eq_of_pairwise (le := fun a b => okey a ≤ okey b) ?_ ho (srt_sorted l) (hp.trans (srt_perm l).symm)
  intro a b ha hb h1 h2
  have a1 := hp.mem_iff.1 ha
  have b1 := (srt_perm l).mem_iff.1 hb
  exact okey_eq (nums_small hs a a1) (nums_small hs b b1) (nums_num a1) (by omega)
set_option maxRecDepth 5000 in
theorem srt_len (l : List Nat) : (srt l).length = (nums l).length := (srt_perm l).length_eq
def cmpU (a b : UInt64) : Int := cmp a.toNat b.toNat
set_option maxRecDepth 5000 in
theorem ltU (a b : UInt64) : Go.Proofs.ltOf cmpU a b = decide (okey a.toNat < okey b.toNat) := by
  unfold Go.Proofs.ltOf cmpU cmp
  by_cases h : okey a.toNat < okey b.toNat
  · rw [if_pos h]; simp [h]
  · rw [if_neg h]; simp only [h, decide_false]
    split <;> rfl
set_option maxRecDepth 5000 in
theorem swoU : SWO (Go.Proofs.ltOf cmpU) where
  irrefl x := by rw [ltU]; simp
  trans x y z h1 h2 := by rw [ltU] at *; simp at *; omega
  ntrans x y z h1 h2 := by rw [ltU] at *; simp at *; omega
set_option maxRecDepth 5000 in
theorem filter_us {l : List Nat} (h : Small l) : ((us l).filter fun u => !nan u.toNat) = us (nums l) := by
  unfold us nums
  rw [List.filter_map]
  congr 1
  apply List.filter_congr
  intro x hx
  show (!nan (UInt64.ofNat x).toNat) = _
  rw [toNat_ofNat (h x hx)]
end F
set_option maxRecDepth 5000 in
theorem infoF1 : ∃ i0, Try.prog.info? 25 = some i0 ∧ i0.zero = some (.float .f64 0) ∧ i0.size = 1 ∧ i0.bytes = 8 := info_parts infoF
set_option maxRecDepth 5000 in
theorem del_empty (a : Option Addr) (c : Nat) (fv : Value) (w : World) : Calls Try.prog 42 #[.slice a 0 c, fv] w fun e w' => e = .returned (.slice a 0 c) ∧ w' = w := by
  go_enter Try.func42, Try.ntmps42
  go_wp2_with (go_at_call 49; refine (Try.slices_IndexFunc_empty (α := Nat) _ _ _ _).mono ?_; rintro e w' ⟨rfl, rfl⟩)
  go_ret
  exact ⟨rfl, rfl⟩
set_option maxRecDepth 5000 in
theorem predF (w : World) : PredAt Try.prog 32 #[] encF (fun u => F.nan u.toNat) w := fun W x _ => (isNaN_any x.toNat W).mono fun _ _ ⟨h1, h2⟩ => ⟨h1, 0, h2⟩
set_option maxRecDepth 5000 in
theorem overF (blk off size : Nat) (w : World) : PredOver Try.prog 32 #[] encF (fun u => F.nan u.toNat) blk off size w := fun _ _ _ x _ => (isNaN_any x.toNat _).mono fun _ _ ⟨h1, h2⟩ => ⟨h1, 0, h2⟩
set_option maxRecDepth 5000 in
theorem cmpF (blk off size : Nat) (w : World) : CmpLays1 Try.prog 10 #[] encF F.cmpU blk off size w := fun m os dk _ x y => (order_any x.toNat y.toNat x.toNat_lt y.toNat_lt _).mono fun _ _ ⟨h1, h2⟩ => ⟨h1, 0, #[], by rw [h2, grow_empty]; rfl⟩
set_option maxRecDepth 5000 in
theorem without_any (l : List Nat) (ao : Option Addr) (n cap : Nat) (w : World) (hl : Hid (l.length = n)) (hs : SlF w ao l) (ha : ao = none ∨ ∃ b o, ao = some ⟨b, o, none⟩) (hsm : Small l) (hn : n ≤ 1000000) :
    Calls Try.prog 37 #[.slice ao n cap] w fun e w' => ∃ v, e = .returned v ∧ OwnF w' w.heap.size v (F.nums l) ∧ Below w.heap.size w w' := by
  have hmk : ∀ (fn : Fn) (first cap : Array Value) (w : World), (Instr.makeFunc fn first cap).run Try.prog w = .ok (.func fn first cap) w := fun _ _ _ _ => rfl
  rcases ha with rfl | ⟨b, o, rfl⟩
  · have h0 : l = [] := by
      cases l with
      | nil => rfl
      | cons x r => obtain ⟨_, _, e, _⟩ := hs (by simp); cases e
    subst h0
    go_enter Try.func37, Try.ntmps37
    go_wp2_with (first | (go_at_call 43; refine (Try.slices_Clone_nil _ _ _).mono ?_; rintro e w' ⟨rfl, hw⟩; rw [hw]; clear hw w') | (go_at_call 42; refine (del_empty _ _ _ _).mono ?_; rintro e w' ⟨rfl, hw⟩; rw [hw]; clear hw w'))
    go_ret
    exact ⟨_, rfl, OwnF.nil _ _, Below.refl _ _⟩
  · obtain ⟨i0, hi, hz0, hz1, hz2⟩ := infoF1
    have hcl := Try.slices_Clone i0 (.float .f64 0) 1 8 hi hz0 hz1 hz2 rfl (by decide) Try.sizeOf25 b o n cap (vf l) w (by rw [vf_len, hl.out]; omega) (by unfold maxLen; omega) (by omega) (by
      intro j u hu
      have hj : j < l.length := by have := (List.getElem?_eq_some_iff.1 hu).1; rwa [vf_len] at this
      obtain ⟨b', o', e, _, hc⟩ := hs (by omega)
      cases e
      rw [hc j hj, ← vf_get l j hj, hu]) (vf_one l)
    clear hs hi hz0 hz1 hz2
    go_enter Try.func37, Try.ntmps37
    go_wp2_with (go_at_call 43; refine hcl.mono ?_; rintro e w1 ⟨v1, rfl, hO1, hv1, hB1⟩; have hO2 : w1.ownsRow w.heap.size 25 1 v1 n ((us l).map encF) := (by rw [us_vf hsm]; exact hO1); clear hO1 hcl; obtain ⟨g, c1, rfl, hg1, hg2, hc1, hc2, hul, hH⟩ := holds_of_ownsRow hO2 hv1; clear hv1)
    have hsz : (us l).toArray.size = n := by rw [List.size_toArray]; exact hul
    have hd := Try.slices_DeleteFunc encF (fun _ => rfl) (fun u => F.nan u.toNat) 32 #[] (enters_of Try.func32 (by kernel_rfl) rfl) 0 Try.zeroValue25 g 0 c1 (us l).toArray w1 (predF w1) (overF _ _ _ w1) hH (by rw [hsz]; omega) (by rw [hsz]; exact hc1)
    rw [hsz, List.toList_toArray, F.filter_us hsm] at hd
    have hle : (us (F.nums l)).length ≤ n := by rw [us_len]; have := hl.out; have h := List.length_filter_le (fun x => !F.nan x) l; unfold F.nums; omega
    have hfin : ∀ q, OwnF (putRow encF (Sort.ahead w1 q) g 0 (us (F.nums l) ++ List.replicate (n - (us (F.nums l)).length) 0).toArray) w.heap.size (.slice (some ⟨g, 0, none⟩) (us (F.nums l)).length c1) (F.nums l) := fun q => by
      have h := ownsRow_putRow (q := q) (k := (us (F.nums l)).length) (ys := us (F.nums l) ++ List.replicate (n - (us (F.nums l)).length) 0) hO2 (by rw [List.length_append, List.length_replicate]; omega) hle
      rw [List.take_left, us_vf (F.nums_small hsm)] at h
      unfold OwnF
      rw [us_len] at h ⊢
      exact h
    have hB2 : ∀ q, Below w.heap.size w (putRow encF (Sort.ahead w1 q) g 0 (us (F.nums l) ++ List.replicate (n - (us (F.nums l)).length) 0).toArray) := fun q => below_putRow hB1 hg1
    clear hO2 hH hsz
    go_wp2_with (go_at_call 42; refine hd.mono ?_; rintro e w2 ⟨rfl, q, rfl⟩)
    go_ret
    exact ⟨_, rfl, hfin q, hB2 q⟩
set_option maxRecDepth 5000 in
theorem sorted_list {d d' : Array UInt64} (hp : PermIn 0 d.size d d') (hs : SortedIn (ltOf F.cmpU) 0 d.size d') : (d'.toList.map UInt64.toNat).Perm (d.toList.map UInt64.toNat) ∧ (d'.toList.map UInt64.toNat).Pairwise (fun a b => F.okey a ≤ F.okey b) ∧ d'.size = d.size := by
  obtain ⟨h1, _, h3⟩ := hp
  refine ⟨?_, ?_, h1⟩
  · have e1 : (d'.extract 0 d.size) = d' := by rw [← h1]; exact Array.extract_size
    have e2 : (d.extract 0 d.size) = d := Array.extract_size
    rw [e1, e2] at h3
    exact h3.map _
  · rw [List.pairwise_map, List.pairwise_iff_getElem]
    intro i j hi hj hij
    have h := hs i j (by omega) hij (by rw [← h1]; simpa using hj)
    rw [F.ltU] at h
    rw [Array.length_toList] at hi hj
    rw [getElem!_pos _ j hj, getElem!_pos _ i hi] at h
    simp only [decide_eq_false_iff_not, Int.not_lt] at h
    simpa using h
set_option maxRecDepth 5000 in
theorem below_sortWorld {B : Nat} {w0 w : World} {g m : Nat} {d : Array UInt64} {os : Array Obj} (h : Below B w0 w) (hg : B ≤ g) (hB : B ≤ w.heap.size) : Below B w0 (sortWorld encF w g 0 m d os) := by
  unfold sortWorld
  have h1 : Below B w0 (putRow encF (Sort.ahead w m) g 0 d) := below_putRow h hg
  refine h1.trans ⟨rfl, rfl, rfl, by simp, fun k hk => ?_⟩
  exact heap_grow_old _ _ (by rw [Go.Sort.size_putRow]; show k < w.heap.size; omega)
set_option maxRecDepth 5000 in
theorem cell_sortWorld {w : World} {g m k : Nat} {d0 d : Array UInt64} {os : Array Obj} (h : Holds encF w g 0 d0) (hg : g < w.heap.size) (hs : d.size = d0.size) (hk : k < d.size) : (sortWorld encF w g 0 m d os).cell? ⟨g, k, none⟩ = some (encF d[k]!) := by
  unfold sortWorld
  rw [cell?_grow _ _ _ (by show g < (putRow _ _ _ _ _).heap.size; rw [Go.Sort.size_putRow]; exact hg)]
  have := cell?_putRow encF (Sort.ahead w m) g 0 d0 d (holds_ahead _ _ _ _ _ _ h) hs k hk
  rw [Nat.zero_add] at this
  exact this
set_option maxHeartbeats 800000 in
set_option maxRecDepth 5000 in
theorem rank_any (l : List Nat) (q : Nat) (ao : Option Addr) (n cap : Nat) (w : World) (hl : Hid (l.length = n)) (hs : SlF w ao l) (ha : ao = none ∨ ∃ b o, ao = some ⟨b, o, none⟩) (hsm : Small l) (hq : q < 2 ^ 64) (hn : n ≤ 1000) :
    Calls Try.prog 19 #[.slice ao n cap, .float .f64 q] w fun e w' => e = .returned (.float .f64 (F.rank l q)) ∧ Below w.heap.size w w' := by
  have h4 : F.norm 9221120237041090561 = 9221120237041090561 := by kernel_rfl
  have hnl : (F.nums l).length ≤ n := by have := hl.out; have h := List.length_filter_le (fun x => !F.nan x) l; unfold F.nums; omega
  have hcon := without_any l ao n cap w hl hs ha hsm (by omega)
  clear hs ha
  unfold F.rank
  by_cases h0 : (F.nums l).length = 0
  · rw [if_pos h0]
    go_enter Try.func19, Try.ntmps19
    go_wp2_with (go_at_call 37; refine hcon.mono ?_; rintro e w1 ⟨v1, rfl, hO, hB⟩; obtain ⟨ao1, c1, rfl, _, _, _, _⟩ := hO.open; rw [h0])
    go_wp2_with (first | (go_at_call 28; refine (nanF_any _).mono ?_; rintro e w' ⟨rfl, hw⟩; rw [hw]; clear hw w') | (go_at_call 36; refine (told_any _ _).mono ?_; rintro e w' ⟨rfl, hw⟩; rw [hw, h4]; clear hw w'))
    go_ret
    exact ⟨rfl, hB⟩
  · rw [if_neg h0]
    have hso : ∀ m : List Nat, m.Perm (F.nums l) → m.Pairwise (fun a b => F.okey a ≤ F.okey b) → m = F.srt l := fun m => F.srt_only (l := l) (m := m) hsm
    have hsl := F.nums_small hsm
    have hpl := F.plc_lt (q := q) (n := (F.nums l).length) (by omega)
    have hpc := place_any q (F.nums l).length hq (by omega) (by omega)
    generalize F.srt l = S at hso ⊢
    generalize F.nums l = m at *
    generalize hP : F.plc q m.length = P at hpl hpc ⊢
    generalize hM : m.length = M at *
    go_enter Try.func19, Try.ntmps19
    go_wp2_with (go_at_call 37; refine hcon.mono ?_; rintro e w1 ⟨v1, rfl, hO, hB⟩; clear hcon; have hO2 : w1.ownsRow w.heap.size 25 1 v1 M ((us m).map encF) := (by rw [us_vf hsl, ← hM]; exact hO); obtain ⟨g, c1, rfl, hg1, hg2, hc1, hc2, hul, hH⟩ := holds_of_ownsRow hO2 (by obtain ⟨_, _, e, _⟩ := hO.form (by omega); rw [e]; intro h; cases h); clear hO hO2)
    have hsz : (us m).toArray.size = M := by rw [List.size_toArray]; exact hul
    have hsf := Try.slices_SortFunc encF (fun _ => rfl) F.cmpU F.swoU 10 #[] g 0 c1 (us m).toArray w1 (enters_of Try.func10 (by kernel_rfl) rfl) (cmpF _ _ _ _) hH hg2 (by rw [hsz]; omega)
    have hback := us_back hsl
    have hfin : ∀ (d' : Array UInt64) (k : Nat) (os : Array Obj), PermIn 0 (us m).toArray.size (us m).toArray d' → SortedIn (ltOf F.cmpU) 0 (us m).toArray.size d' → RowKit.Below w.heap.size w (sortWorld encF w1 g 0 k d' os) ∧ (sortWorld encF w1 g 0 k d' os).cell? ⟨g, P, none⟩ = some (.float .f64 (S.getD P 0)) := fun d' k os hp hs => by
      obtain ⟨p1, p2, p3⟩ := sorted_list hp hs
      rw [List.toList_toArray, hback] at p1
      have hS := hso _ p1 p2
      refine ⟨below_sortWorld hB hg1 hB.size, ?_⟩
      have hPs : P < d'.size := by rw [p3, hsz]; exact hpl
      rw [cell_sortWorld hH hg2 p3 hPs]
      show some (Value.float .f64 d'[P]!.toNat) = _
      rw [← hS, getElem!_pos _ P hPs]
      simp [hPs]
    rw [hsz] at hsf hfin
    clear hH hso hback hsz hul
    obtain ⟨R, hR⟩ : ∃ R, S.getD P 0 = R := ⟨_, rfl⟩
    rw [hR] at hfin
    have HR := hide hR
    clear hR
    go_wp2_with (go_at_call 38; refine hsf.mono ?_; rintro e w2 ⟨rfl, d', k, os, hp, hs, hw⟩; obtain ⟨hB2, hcell⟩ := hfin d' k os hp hs; rw [← hw] at hB2 hcell; clear hw hp hs hfin hsf)
    go_wp2_with (go_at_call 39; refine (hpc _).mono ?_; rintro e w' ⟨rfl, hw⟩; rw [hw]; clear hw w')
    go_ret
    exact ⟨by rw [HR.out]; rfl, hB2⟩
end Go.Proofs.Ytmkpihagfbohdaa
