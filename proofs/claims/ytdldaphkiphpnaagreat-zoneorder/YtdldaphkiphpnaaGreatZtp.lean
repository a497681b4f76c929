/- The keys of a map that are uint16, in order: slices.Sorted(maps.Keys(m)). -/
import Derived.Test.YtdldaphkiphpnaaGreatZha
import Derived.Test.YtdldaphkiphpnaaGreatTyA
import Derived.RangeFuncBox
namespace Go.Proofs.YtdldaphkiphpnaaGreat
open Go.RowKit Go.Maps Go.Sort Go.Shelf
set_option maxRecDepth 5000 in
theorem keysH_any (mb : Option Nat) (W : World) : Calls Tryz.prog 59 #[.map mb] W fun e w' => e = .returned (.func (.func 84) #[] #[.pointer (some ⟨W.heap.size, 0, none⟩)]) ∧ w' = W.alloc (.cells #[.map mb] 93) := by
  have hmf : ∀ (fn : Fn) (first cap : Array Value) (w : World), (Instr.makeFunc fn first cap).run Tryz.prog w = .ok (.func fn first cap) w := fun _ _ _ _ => rfl
  go_enter Tryz.func59, Tryz.ntmps59
  go_wp2
  go_ret
  exact ⟨rfl, rfl⟩
def encH (x : UInt16) : Value := .int .u16 (x.toNat : Int)
/- which keys have come -/
def CollH {H : Type} (D0 : DataW H) (left : Lit → Bool) (ss : List UInt16) : Prop := ss.Nodup ∧ ∀ x : UInt16, x ∈ ss ↔ (has D0 (.int .u16 (x.toNat : Int)) = true ∧ left (.int .u16 (x.toNat : Int)) = false)
set_option maxRecDepth 5000 in
theorem CollH.start {H : Type} (D0 : DataW H) : CollH D0 (has D0) [] := ⟨List.nodup_nil, fun x => by cases has D0 (.int .u16 (x.toNat : Int)) <;> simp⟩
set_option maxRecDepth 5000 in
theorem CollH.step {H : Type} {D0 : DataW H} {left : Lit → Bool} {ss : List UInt16} (h : CollH D0 left ss) {x : UInt16} {y : DataW H} (hlk : left (.int .u16 (x.toNat : Int)) = true) (hat : ∀ zd, D0.atKey (.int .u16 (x.toNat : Int)) zd = y) : CollH D0 (fun z => left z && !z.sameKey (.int .u16 (x.toNat : Int))) (ss ++ [x]) := by
  have hhas : has D0 (.int .u16 (x.toNat : Int)) = true := has_true_of_atKey hat
  have hnew : x ∉ ss := fun hx => by have := ((h.2 x).1 hx).2; rw [hlk] at this; cases this
  refine ⟨List.nodup_append.2 ⟨h.1, by simp, fun a ha b hb => by simp at hb; subst hb; exact fun e => hnew (e ▸ ha)⟩, fun y => ?_⟩
  by_cases hy : y = x
  · subst hy; simp [hhas, Lit.sameKey]
  · have hne : ¬ (y.toNat : Int) = (x.toNat : Int) := fun e => hy (UInt16.toNat_inj.1 (by omega))
    simp [h.2 y, hy, Lit.sameKey, hne]
set_option maxRecDepth 100000 in
set_option maxHeartbeats 1000000 in
theorem keysH1_in (l Bm b nn : Nat) (D0 : DataW Value) (J Jx : List UInt16 → World → Prop) (W : World) (hJ : AbidesFrom W.heap.size J)
    (hY : ∀ pre x W1, J pre W1 → pre.length < Maps.size D0 → YieldAt Fence.wide 2 Tryz.prog l #[encH x] W1 fun e W' => (e = .returned (.bool true) ∧ J (pre ++ [x]) W' ∧ KeepsWalks W1 W') ∨ (e = .returned (.bool false) ∧ Jx (pre ++ [x]) W'))
    (hm : W.cell? ⟨Bm, 0, none⟩ = some (.map (some b))) (hown : W.ownsMap Tryz.prog 36 HR b nn D0) (h0 : J [] W) :
    CallsIn Fence.wide 3 Tryz.prog 84 #[.func (.yield l) #[] #[], .pointer (some ⟨Bm, 0, none⟩)] W fun e W' => (∃ v, e = .returned v) ∧ ((∃ ss : List UInt16, (ss.Nodup ∧ ∀ x : UInt16, x ∈ ss ↔ has D0 (.int .u16 (x.toNat : Int)) = true) ∧ J ss W') ∨ ∃ pre, True ∧ Jx pre W') := by
  refine callsIn_of_wp Tryz.func84 rfl trivial ?_ rfl
  simp only [Tryz.ntmps84, List.size_toArray, List.length_cons, List.length_nil, Nat.reduceAdd, Nat.reduceSub, Array.replicate_succ, Array.replicate_zero, List.push_toArray, List.append_toArray, List.nil_append, List.cons_append]
  have hkey : ∀ key kl, keyOf Tryz.prog 36 key = some kl → ∃ x : UInt16, key = encH x ∧ kl = .int .u16 (x.toNat : Int) := fun key kl hk => by
    obtain ⟨a, e1, e2, hw⟩ := Maps.keyOf_int_inv Tryz.underlying36 hk
    have h1 : IntKind.u16.min = 0 := by decide
    have h2 : IntKind.u16.max = 65535 := by decide
    simp only [Lit.wf, Bool.and_eq_true, decide_eq_true_eq, h1, h2] at hw
    have e3 : ((UInt16.ofNat a.toNat).toNat : Int) = a := by
      rw [UInt16.toNat_ofNat_of_lt' (by show a.toNat < 65536; omega)]; omega
    exact ⟨UInt16.ofNat a.toNat, by unfold encH; rw [e3]; exact e1, by rw [e3]; exact e2⟩
  gi_wp2_with (first
    | (gi_at_range; refine wpListIn_range_own _ rfl _ 93 rfl 36 91 keyedH Tryz.underlying93 _ b nn _ rfl hown ?_; intro w0 hrg0 hg0 hs0)
    | gi_in)
  go_frame
  gi_loopw [3] (fun _ wr => ∃ (left : Lit → Bool) (cnt : Nat) (ss : List UInt16), wr.ranges Tryz.prog 36 HR b W.heap.size nn D0 left cnt ∧ ss.length + cnt ≤ Maps.size D0 ∧ CollH D0 left ss ∧ J ss wr)
    (fun _ wr => wr.rangeLeft b W.heap.size)
  case atStart =>
    exact ⟨_, _, [], hrg0, by simp, CollH.start D0, hJ [] W w0 none h0 hg0 (fun r e => by cases e)⟩
  case round =>
    obtain ⟨left, cnt, ss, hrg, hcs, hC, hJs⟩ := hrel
    gi_wp2_with (first
      | (gi_at_next; refine wpListIn_next_ranges _ rfl _ rfl 36 keyedH HR encH id (fun key kl hk => by obtain ⟨x, hx, _⟩ := hkey key kl hk; exact ⟨x, hx⟩) (fun v _ _ => ⟨v, rfl⟩) b W.heap.size nn _ _ _ rfl hrg ?_ ?_)
      | gi_in)
    · intro hc0 hl0
      gi_wp2
      go_end0
      exact ⟨⟨_, rfl⟩, Or.inl ⟨ss, ⟨hC.1, fun x => by rw [hC.2 x, hl0]; simp⟩, hJs⟩⟩
    · intro x c kl yd yp w2 cnt2 hkk hlk hv hat hrg2 hlt hg2 hs2 hen
      obtain ⟨x', ex, rfl⟩ := hkey _ _ hkk
      obtain rfl : x = x' := by
        unfold encH at ex
        simp at ex
        exact UInt16.toNat_inj.1 (by omega)
      have hJ2 : J ss w2 := hJ ss wr w2 (some W.heap.size) hJs hg2 (fun r e => by cases e; exact ⟨Nat.le_refl _, hrg.iter_walk⟩)
      obtain ⟨fn, tmps, assign, body, hy, hR⟩ := hY ss x w2 hJ2 (by omega)
      clear hs2
      gi_wp2
      refine hR.mono ?_
      rintro e W3 (⟨rfl, hJ3, hk3⟩ | ⟨rfl, hJ3⟩)
      · gi_wp2
        have hrg3 := hrg2.of_walks hk3
        go_roundw
        case rel => exact ⟨_, cnt2, ss ++ [x], hrg3, by simp; omega, hC.step hlk hat, hJ3⟩
        case measure => rw [hrg3.left_eq, hrg.left_eq]; exact hlt
      · gi_wp2
        refine bodyPost_ret (results_none rfl _ _ _) rfl ?_
        exact ⟨⟨_, rfl⟩, Or.inr ⟨_, trivial, hJ3⟩⟩
end Go.Proofs.YtdldaphkiphpnaaGreat

/- slices.Sorted of a map's keys that are uint16. -/
namespace Go.Proofs.YtdldaphkiphpnaaGreat
open Go.RowKit Go.Maps Go.Sort Go.Shelf
attribute [local go_sem] Oper.semAt_some
def KeysOf (D0 : DataW Value) (ss : List UInt16) : Prop := ss.Nodup ∧ ∀ x : UInt16, x ∈ ss ↔ has D0 (.int .u16 (x.toNat : Int)) = true
set_option maxRecDepth 5000 in
theorem keysH_stops (Bm b nn : Nat) (D0 : DataW Value) (w : World) (hBm : Bm < w.heap.size) (hm : w.cell? ⟨Bm, 0, none⟩ = some (.map (some b))) (hown : w.ownsMap Tryz.prog 36 HR b nn D0) :
    SeqStopsK Fence.wide 3 Tryz.prog 84 #[.pointer (some ⟨Bm, 0, none⟩)] (fun x : UInt16 => #[encH x]) KeepsWalks (KeysOf D0) (fun _ => True) (Maps.size D0) w := by
  intro l J Jx W hW hJ _ hY h0
  refine (keysH1_in l Bm b nn D0 J Jx W hJ hY ((hW.cell (p := ⟨Bm, 0, none⟩) hBm).trans hm) ?_ h0).mono fun e W' h => h
  have hbl := hown.lt
  obtain ⟨es, clock, hb, Ft, hs, hD⟩ := hown
  exact ⟨es, clock, (hW.block b hbl).trans hb, Ft, hs, hD⟩
set_option maxRecDepth 100000 in
set_option maxHeartbeats 2000000 in
theorem appendSeqH_any (w : World) (Bm b nn : Nat) (D0 : DataW Value) (hBm : Bm < w.heap.size) (hm : w.cell? ⟨Bm, 0, none⟩ = some (.map (some b))) (hown : w.ownsMap Tryz.prog 36 HR b nn D0) (hN : Maps.size D0 ≤ 1000000) :
    Calls Tryz.prog 107 #[.slice none 0 0, .func (.func 84) #[] #[.pointer (some ⟨Bm, 0, none⟩)]] w fun e w' => ∃ v, e = .returned v ∧ ∃ ss, KeysOf D0 ss ∧ OwnH w' w.heap.size v ss ∧ Below w.heap.size w w' := by
  obtain ⟨i0, hi, hz0, hz1, hz2⟩ := info_parts infoH
  have HO := hide hown
  have HM := hide hm
  clear hown hm
  refine (callsIn_wide (n := 4)).1 ?_
  refine callsIn_of_wp_marks Tryz.func107 rfl trivial ?_ rfl
  simp only [Tryz.ntmps107, List.size_toArray, List.length_cons, List.length_nil, Nat.reduceAdd, Nat.reduceSub, Array.replicate_succ, Array.replicate_zero, List.push_toArray, List.append_toArray, List.nil_append, List.cons_append]
  gi_wp2
  have bO := Boxed.new w 51 (.slice none 0 0)
  have hB0 : Below w.heap.size w (w.alloc (.cells #[.slice none 0 0] 51)) := (Below.refl _ w).alloc (Nat.le_refl _) _
  have hown1 : (w.alloc (.cells #[.slice none 0 0] 51)).ownsMap Tryz.prog 36 HR b nn D0 := by
    obtain ⟨es, clock, hb, Ft, hs, hD⟩ := HO.out
    exact ⟨es, clock, (Below.heap_alloc _ _ b (Array.getElem?_eq_some_iff.1 hb).1).trans hb, Ft, hs, hD⟩
  refine wpIn_rangeFunc_ownG (α := UInt16) rfl (by omega) (gf := 84) (lb := #[.pointer (some ⟨Bm, 0, none⟩)]) rfl trivial (enters_of Tryz.func84 (by kernel_rfl) rfl)
    (keysH_stops Bm b nn D0 _ (by simp; omega) ((hB0.cell (p := ⟨Bm, 0, none⟩) hBm).trans HM.out) hown1) KeepsWalks.trans (fun W l o oo _ hl _ hw => KeepsWalks.putObj _ hl hw) (Below.refl _ _) (fun _ => rfl)
    (fun pre W => (∃ v, Boxed W w.heap.size 51 v ∧ W.ownsRow w.heap.size 36 1 v pre.length (vh pre) ∧ True) ∧ Below w.heap.size w W)
    (fun _ _ _ => False)
    (OwnFrom.and (Own.from (holdsRow_own w.heap.size w.heap.size 51 36 1 (fun pre : List UInt16 => pre.length) (fun pre => vh pre) (fun _ _ => True)) _) (ownFrom_below (Nat.le_refl _) (by simp)))
    (fun _ _ _ _ _ hs _ _ => hs)
    ⟨⟨_, bO, World.ownsRow_nil _ _ _ _, trivial⟩, hB0⟩
    (fun x => { tmps := #[.slice none 0 0, .func (.func 84) #[] #[.pointer (some ⟨Bm, 0, none⟩)], .pointer (some ⟨w.heap.size, 0, none⟩), undef, .slice none 0 0, .int .u16 (x.toNat : Int), .func (.func 84) #[] #[.pointer (some ⟨Bm, 0, none⟩)], .int .u16 (x.toNat : Int), undef, undef, undef, undef, undef], defers := [] }) ?assign ?body ?done ?stop
  case assign =>
    intro l x W K hK
    unfold encH
    gi_wp2
    exact hK
  case body =>
    rintro l pre x W ⟨⟨v, hv, hrow, _⟩, hB⟩ hlt
    have hc := hv.cell
    gi_wp2_with (gi_at_builtin; refine wpListIn_append_own _ rfl _ _ 51 rfl w.heap.size 36 i0 (.int .u16 0) 1 2 Tryz.underlying51 hi hz0 hz1 hz2 rfl (by decide) _ _ _ rfl (hrow.alloc _) ⟨W.heap.size, 0, none⟩ 1 1 [.int .u16 (x.toNat : Int)] rfl rfl (cell_one_new _ _ _) (by simp [Value.oneCell']) (by unfold maxLen; omega) (by omega) (by have := hB.size; simp; omega) ?_; intro v' w1 hown' hgrow _; have hgr : (W.alloc (.cells #[.int .u16 (x.toNat : Int)] 36)).grownBy w1 v.ownBlock := hgrow; obtain ⟨g', cap', rfl⟩ := ownsRow_succ hown'; obtain ⟨hv1, hv2, hr2, hk2, hb2⟩ := hv.appended (by decide) hrow hB.size (Nat.le_refl _) hown' hgrow; have hc1 := hv1.cell; have hf1 := hv1.frozen)
    have e1 : vh (pre ++ [x]) = vh pre ++ [.int .u16 (x.toNat : Int)] := by simp [vh]
    refine ⟨hk2.from _, ?_, ⟨_, hv2, by rw [e1, List.length_append]; exact hr2, trivial⟩, hB.trans hb2⟩
    refine ((KeepsWalks.alloc W _).trans (KeepsWalks.of_grownBy hgr fun j o ej hj => ?_)).trans (KeepsWalks.setCell _ _ _)
    rcases (hrow.alloc (.cells #[.int .u16 (x.toNat : Int)] 36)).2 with ⟨e2, _⟩ | ⟨g2, cap2, cur2, e2, _, hgb, _⟩
    · rw [e2] at ej; simp [Value.ownBlock] at ej
    · rw [e2] at ej
      obtain rfl : g2 = j := by simpa [Value.ownBlock] using ej
      rw [hgb] at hj; cases hj; rfl
  case done =>
    rintro D ys W hD hS ⟨⟨v, hv, hrow, _⟩, hB⟩ hK
    have hc := hv.cell
    have HR0 := hide hrow
    have HS := hide hS
    have HB := hide hB
    clear hrow hS hB
    gi_wp2
    refine ⟨by simp, .inl ⟨_, _, rfl, run_takeDeferred hK, ?_⟩⟩
    exact ⟨_, results_tmp rfl _ _ _, v, rfl, ys, HS.out, ownsRow_putObj HR0.out _ hK rfl, HB.out.trans ⟨rfl, rfl, rfl, by simp, fun i hi => World.putObj_heap_other (by simp at hD; omega)⟩⟩
  case stop =>
    rintro D c pre W _ _ h _
    exact h.elim
set_option maxRecDepth 5000 in
theorem collectH_any (w : World) (Bm b nn : Nat) (D0 : DataW Value) (hBm : Bm < w.heap.size) (hm : w.cell? ⟨Bm, 0, none⟩ = some (.map (some b))) (hown : w.ownsMap Tryz.prog 36 HR b nn D0) (hN : Maps.size D0 ≤ 1000000) :
    Calls Tryz.prog 82 #[.func (.func 84) #[] #[.pointer (some ⟨Bm, 0, none⟩)]] w fun e w' => ∃ v, e = .returned v ∧ ∃ ss, KeysOf D0 ss ∧ OwnH w' w.heap.size v ss ∧ Below w.heap.size w w' := by
  have h := appendSeqH_any w Bm b nn D0 hBm hm hown hN
  clear hown hm
  go_enter Tryz.func82, Tryz.ntmps82
  go_wp2_with (go_at_call 107; refine h.mono ?_; rintro e w1 ⟨v, rfl, hv⟩)
  go_ret
  exact ⟨v, rfl, hv⟩
open Q Go.Lib in
set_option maxRecDepth 5000 in
theorem rise_of {ss : List UInt16} (hn : ss.Nodup) {d : Array UInt16} (hp : PermIn 0 ss.length ss.toArray d) (hs : SortedIn lt 0 ss.length d) (hd : d.size = ss.length) : d.toList.Pairwise (fun a b => a.toNat < b.toNat) ∧ ∀ x, x ∈ d.toList ↔ x ∈ ss := by
  have hperm : d.toList.Perm ss := by
    have h3 := hp.2.2
    have e1 : d.extract 0 ss.length = d := by rw [← hd]; exact Array.extract_size
    have e2 : ss.toArray.extract 0 ss.length = ss.toArray := by
      have : ss.length = ss.toArray.size := by simp
      rw [this]; exact Array.extract_size
    rw [e1, e2] at h3
    simpa using h3
  refine ⟨?_, fun x => hperm.mem_iff⟩
  have hnd : d.toList.Nodup := hperm.nodup_iff.2 hn
  rw [List.pairwise_iff_getElem]
  intro i j hi hj hij
  have hi' : i < d.size := by simpa using hi
  have hj' : j < d.size := by simpa using hj
  have h1 := hs i j (Nat.zero_le _) hij (by omega)
  simp only [lt, decide_eq_false_iff_not] at h1
  rw [getElem!_pos d i hi', getElem!_pos d j hj'] at h1
  have h2 : d.toList[i] ≠ d.toList[j] := List.pairwise_iff_getElem.1 hnd i j hi hj hij
  have h3 : d.toList[i].toNat ≠ d.toList[j].toNat := fun e => h2 (UInt16.toNat_inj.1 e)
  simp only [Array.getElem_toList] at h3 ⊢
  omega
open Q Go.Lib in
/- slices.Sorted(maps.Keys(m)) -/
set_option maxRecDepth 5000 in
theorem sortedH_any (w : World) (b K : Nat) (f : Nat → Option Value) (h : MapU w b f K) (hK : K ≤ 1000000) :
    Calls Tryz.prog 58 #[.func (.func 84) #[] #[.pointer (some ⟨w.heap.size, 0, none⟩)]] (w.alloc (.cells #[.map (some b)] 93)) fun e w' => ∃ v, e = .returned v ∧ ∃ ss : List UInt16,
      (ss.Pairwise (fun a b => a.toNat < b.toNat) ∧ ∀ x : UInt16, x ∈ ss ↔ (f x.toNat).isSome) ∧ OwnH w' (w.heap.size + 1) v ss ∧ Below (w.heap.size + 1) (w.alloc (.cells #[.map (some b)] 93)) w' := by
  have HMP := hide h
  obtain ⟨D, hown, hv⟩ := h
  have hsz := hown.size_le
  have hbl := hown.lt
  have hown1 : (w.alloc (.cells #[.map (some b)] 93)).ownsMap Tryz.prog 36 HR b K D := by
    obtain ⟨es, clock, hb, Ft, hs, hD⟩ := hown
    exact ⟨es, clock, (Below.heap_alloc _ _ b hbl).trans hb, Ft, hs, hD⟩
  have hkf : ∀ x : UInt16, has D (.int .u16 (x.toNat : Int)) = (f x.toNat).isSome := fun x => by
    rw [hv.has, fU_at _ _ x.toNat_lt]
  have hco := collectH_any (w.alloc (.cells #[.map (some b)] 93)) w.heap.size b K D (by simp) (by simp) hown1 (by omega)
  have hsA : (w.alloc (.cells #[.map (some b)] 93)).heap.size = w.heap.size + 1 := by simp
  generalize w.alloc (.cells #[.map (some b)] 93) = wA at hco hsA ⊢
  rw [hsA] at hco
  have HSA := hide hsA
  clear hown1 hown hv hsA
  go_enter Tryz.func58, Tryz.ntmps58
  go_wp2_with (go_at_call 82; refine hco.mono ?_; rintro e w1 ⟨v, rfl, ss, hK1, hO1, hB1⟩)
  have hlen : ss.length ≤ K := by
    have := MapAt.le HMP.out keyedH (ss.map fun x => Lit.int .u16 (x.toNat : Int)) (List.pairwise_map.2 (hK1.1.imp fun {a b} hne e => hne (UInt16.toNat_inj.1 (by injection e with _ e; omega)))) (fun k => by
      rw [List.mem_map]
      constructor
      · rintro ⟨x, hx, rfl⟩
        rw [fU_at _ _ x.toNat_lt, ← hkf x]; exact (hK1.2 x).1 hx
      · intro hk
        obtain ⟨t, ht, rfl⟩ := fU_some hk
        rw [fU_at _ t ht] at hk
        have e : (UInt16.ofNat t).toNat = t := UInt16.toNat_ofNat_of_lt' ht
        refine ⟨UInt16.ofNat t, (hK1.2 _).2 ?_, by rw [e]⟩
        rw [hkf, e]; exact hk)
    rwa [List.length_map] at this
  obtain ⟨a1, c1, rfl, hS1, hn1, hc1, hm1⟩ := hO1.open
  by_cases h0 : ss.length = 0
  · obtain rfl : ss = [] := List.eq_nil_of_length_eq_zero h0
    refine (sort_none a1 c1 _).mono ?_
    rintro e w2 ⟨rfl, rfl⟩
    go_wp2
    go_ret
    exact ⟨_, rfl, [], ⟨List.Pairwise.nil, fun x => by rw [hK1.2 x, hkf x]⟩, hO1, hB1⟩
  · obtain ⟨g, cap1, e1, hbg, _, _, hglt, _⟩ := hO1.form (by omega)
    cases e1
    obtain ⟨hH, hg, _, hlc, hcm⟩ := own_holds hO1
    have hz1 := hB1.size
    refine (sort_any w1 g 0 ss.length c1 ss.toArray (by simp) (by omega) hg hH).mono ?_
    rintro e w2 ⟨rfl, d', hp, hsrt, hSt⟩
    have hd : d'.size = ss.length := hSt.size
    obtain ⟨n2, os2, hw2⟩ := hSt.sw
    obtain ⟨hr1, hr2⟩ := rise_of hK1.1 hp hsrt hd
    have hO2 : OwnH w2 (w.heap.size + 1) (.slice (some ⟨g, 0, none⟩) ss.length c1) d'.toList := by
      have := own_put (n := n2) (os := os2) hO1 d' hd d'.size (Nat.le_refl _)
      rw [hd, show d'.toList.take ss.length = d'.toList from List.take_of_length_le (by simp; omega)] at this
      rw [hw2]; exact this
    have hB2 : Below (w.heap.size + 1) wA w2 := by
      rw [hw2]; exact hB1.trans (below_put os2 d' hbg (by have := HSA.out; omega))
    have HO2 := hide hO2
    have HB2 := hide hB2
    have HR1 := hide hr1
    have HR2 := hide hr2
    have HK1 := hide hK1
    clear hO2 hB2 hr1 hr2 hp hsrt hSt hw2 hO1 hB1 hS1 hH hK1 hd
    go_wp2
    go_ret
    exact ⟨_, rfl, d'.toList, ⟨HR1.out, fun x => by rw [HR2.out x, HK1.out.2 x, hkf x]⟩, HO2.out, HB2.out⟩
end Go.Proofs.YtdldaphkiphpnaaGreat

/- Types. -/
namespace Go.Proofs.YtdldaphkiphpnaaGreat
open Go.RowKit
set_option maxRecDepth 5000 in
theorem ZAt.types_eq {w : World} {Zb : Nat} {A : List (List UInt8)} {L : List Z.R} {ρ : Nat → Role} {G : List (List UInt8) → Option Nd} {C : List (List UInt8) → Nat → Option Z.St} {K : Nat} (Zx : ZAt w Zb A L ρ G C K) (p : List (List UInt8)) (ts : List UInt16) (h1 : ts.Pairwise (fun a b => a.toNat < b.toNat)) (h2 : ∀ x : UInt16, x ∈ ts ↔ (C p x.toNat).isSome) : ts.map (·.toNat) = Z.typesAt L p := by
  obtain ⟨h3, h4⟩ := Z.types_rise Zx.rise p
  refine Z.ext_rise (r := (· < ·)) (fun a => Nat.lt_irrefl a) (fun a b h h2 => Nat.lt_asymm h h2) (List.pairwise_map.2 h1) h3 fun t => ?_
  rw [h4 t, ← Zx.of.isSome p t, List.mem_map]
  constructor
  · rintro ⟨x, hx, rfl⟩; exact (h2 x).1 hx
  · intro hs
    obtain ⟨S, hS⟩ := Option.isSome_iff_exists.1 hs
    have e : (UInt16.ofNat t).toNat = t := UInt16.toNat_ofNat_of_lt' (Zx.tree.cov p t S hS).2
    exact ⟨UInt16.ofNat t, (h2 _).2 (by rw [e]; exact hs), e⟩
set_option maxRecDepth 5000 in
theorem ztypes_any (w : World) (Zb : Nat) (A : List (List UInt8)) (L : List Z.R) (ρ : Nat → Role) (G : List (List UInt8) → Option Nd) (C : List (List UInt8) → Nat → Option Z.St) (K : Nat) (Zx : ZAt w Zb A L ρ G C K) (hK : K ≤ 1000000) (n : List (List UInt8)) (ao : Option Addr) (len cap : Nat) (hl : Hid (n.length = len)) (hs : SlS w ao n) (hm : Hid (N.Small n)) :
    Calls Tryz.prog 32 #[.pointer (some ⟨Zb, 0, none⟩), .slice ao len cap] w fun e w' => ∃ v, e = .returned v ∧ ∃ ts : List UInt16, ts.map (·.toNat) = Z.typesAt L (path n) ∧ OwnH w' w.heap.size v ts ∧ Below w.heap.size w w' := by
  have hf := Zx.find n ao len cap hl hs hm
  have HZ := hide Zx
  clear hs Zx
  go_enter Tryz.func32, Tryz.ntmps32
  go_wp2_with (first
    | (go_at_call 51; refine hf.mono ?_; rintro e w1 ⟨x, rfl, hF⟩; have x0 : w1.cell? ⟨x.n, 0, none⟩ = some (.map (some x.s)) := hF.node.row.cell 0)
    | (go_at_call 59; refine (keysH_any (some x.s) w1).mono ?_; rintro e wq ⟨rfl, hwq⟩; rw [hwq]; clear hwq wq)
    | (go_at_call 58; refine (sortedH_any w1 x.s K _ hF.node.sets hK).mono ?_; rintro e w3 ⟨v, rfl, ss, ⟨hs1, hs2⟩, hO, hB⟩))
  go_ret
  have hb1 := hF.bel
  refine ⟨v, rfl, ss, HZ.out.types_eq (path n) ss hs1 (fun y => by rw [hs2 y]; simp), ?_, ?_⟩
  · refine ⟨hO.1, ?_⟩
    rcases hO.2 with h1 | ⟨g, cap, cur, e, h1, h2⟩
    · exact Or.inl h1
    · exact Or.inr ⟨g, cap, cur, e, by have := hb1.size; omega, h2⟩
  · exact hb1.trans (((Below.refl _ w1).alloc (Nat.le_refl _) _ |>.mono hb1.size).trans (hB.mono (by have := hb1.size; omega)))
end Go.Proofs.YtdldaphkiphpnaaGreat
