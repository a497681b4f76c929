/- (*Zone).trim: nodes that have become empty are taken away. -/
import Derived.Test.YtdldaphkiphpnaaGreatZat
import Derived.RegionTactic
import Derived.BigRegion
namespace Go.Proofs.YtdldaphkiphpnaaGreat
open Go.RowKit
set_option maxRecDepth 5000 in
theorem cutG_start {w : World} {ρ : Nat → Role} {G : List (List UInt8) → Option Nd} {C : List (List UInt8) → Nat → Option Z.St} {K : Nat} (T : TreeAt w ρ G C K) {q : List (List UInt8)} {k : Nat} (h : k < q.length → G (q.take (k + 1)) = none) : Z.cutG G q k = G := by
  funext p
  unfold Z.cutG
  by_cases e : k < p.length ∧ p <+: q
  · rw [if_pos e]
    have hl := e.2.length_le
    have h1 := T.no_below (h (by omega)) (p.drop (k + 1))
    have h2 : q.take (k + 1) = p.take (k + 1) := by
      obtain ⟨r, rfl⟩ := e.2
      rw [List.take_append_of_le_length (by omega)]
    rw [h2, List.take_append_drop] at h1
    exact h1.symm
  · rw [if_neg e]
set_option maxRecDepth 5000 in
theorem cutG_at (G : List (List UInt8) → Option Nd) (q : List (List UInt8)) {d j : Nat} (h : j ≤ d) : Z.cutG G q d (q.take j) = G (q.take j) :=
  Z.cutG_off G fun e => by have := e.1; rw [List.length_take] at this; omega
set_option maxRecDepth 5000 in
theorem cutG_gput (G : List (List UInt8) → Option Nd) (q : List (List UInt8)) {d : Nat} (h0 : 0 < d) (hd : d ≤ q.length) : gput (Z.cutG G q d) (q.take d) none = Z.cutG G q (d - 1) := by
  funext r
  by_cases e : r = q.take d
  · rw [e, gput_same]
    unfold Z.cutG
    rw [if_pos ⟨by rw [List.length_take]; omega, List.take_prefix _ _⟩]
  · rw [gput_other _ e]
    unfold Z.cutG
    by_cases e2 : r <+: q
    · by_cases e3 : d < r.length
      · rw [if_pos ⟨e3, e2⟩, if_pos ⟨by omega, e2⟩]
      · rw [if_neg (fun h => e3 h.1)]
        by_cases e4 : r.length = d
        · exfalso
          apply e
          obtain ⟨s, rfl⟩ := e2
          rw [← e4, List.take_left]
        · rw [if_neg (fun h => by have := h.1; omega)]
    · rw [if_neg (fun h => e2 h.2), if_neg (fun h => e2 h.2)]
set_option maxRecDepth 5000 in
theorem take_last (q : List (List UInt8)) {d : Nat} (h0 : 0 < d) (hd : d ≤ q.length) : q.take (d - 1) ++ [q.getD (d - 1) []] = q.take d := by
  obtain ⟨e, rfl⟩ : ∃ e, d = e + 1 := ⟨d - 1, by omega⟩
  rw [Nat.add_sub_cancel, List.take_add_one, List.getD_eq_getElem?_getD, List.getElem?_eq_getElem (by omega)]; rfl
/- whether a node is empty -/
set_option maxRecDepth 5000 in
theorem empty_node (w : World) {G : List (List UInt8) → Option Nd} {C : List (List UInt8) → Nat → Option Z.St} {K : Nat} {p : List (List UInt8)} {x : Nd} (h : NodeIs w G C K p x) (hc : ∀ t S, C p t = some S → t < 65536) :
    Calls Tryz.prog 57 #[.pointer (some ⟨x.n, 0, none⟩)] w fun e w' => ∃ r : Bool, e = .returned (.bool r) ∧ w' = w ∧ (r = true ↔ (∀ t, C p t = none) ∧ ∀ l, G (p ++ [l]) = none) := by
  refine (empty_any w x.n x.s x.b K _ _ h.row h.sets h.below).mono ?_
  rintro e w' ⟨r, rfl, rfl, hr⟩
  refine ⟨r, rfl, rfl, hr.trans ⟨fun ⟨h1, h2⟩ => ⟨fun t => ?_, fun l => ?_⟩, fun ⟨h1, h2⟩ => ⟨fun k => ?_, fun k => ?_⟩⟩⟩
  · cases hC : C p t with
    | none => rfl
    | some S =>
      have := h1 (.int .u16 (t : Int))
      rw [fU_at _ t (hc t S hC), hC] at this; cases this
  · have := h2 (.string l)
    cases hg : G (p ++ [l]) with
    | none => rfl
    | some y =>
      have this : (G (p ++ [l])).map (fun y => ptr y.n) = none := this
      rw [hg] at this; cases this
  · have : (fun t => (C p t).map fun S => setV S (x.dm t)) = fun _ => none := funext fun t => by rw [h1 t]; rfl
    rw [this]; exact fU_none k
  · have : (fun l => (G (p ++ [l])).map fun y => ptr y.n) = fun _ => none := funext fun l => by rw [h2 l]; rfl
    rw [this]; exact fS_none k
structure TrI (w : World) (ρ : Nat → Role) (G : List (List UInt8) → Option Nd) (C : List (List UInt8) → Nat → Option Z.St) (K : Nat) (q : List (List UInt8)) (d : Nat) (W : World) : Prop where
  tree : TreeAt W ρ (Z.cutG G q d) C K
  mv : ZMv ρ w W
set_option maxRecDepth 5000 in
theorem ownsRow_map {b : Nat} {w w' : World} (h : Turn b w w') {base size k : Nat} {e : TypeId} {v : Value} {xs : List Value} (hr : w.ownsRow base e size v k xs) : w'.ownsRow base e size v k xs := by
  refine ⟨hr.1, ?_⟩
  rcases hr.2 with h1 | ⟨g, cap, cur, e1, h1, h2, h3⟩
  · exact Or.inl h1
  · refine Or.inr ⟨g, cap, cur, e1, h1, (h.block g fun e2 => ?_).trans h2, h3⟩
    obtain ⟨es, kk, hb⟩ := h.was
    rw [e2, hb] at h2; cases h2
set_option maxRecDepth 100000 in
set_option maxHeartbeats 2000000 in
theorem trim_any (w : World) (Zb : Nat) (av : Value) (cnt : Int) (ρ : Nat → Role) (G : List (List UInt8) → Option Nd) (C : List (List UInt8) → Nat → Option Z.St) (K : Nat) (T : TreeAt w ρ G C K) (hz : RowAt w Zb 83 #[av, ptr (nodeN G []), .int .i64 cnt]) (n : List (List UInt8)) (ao : Option Addr) (len cap : Nat) (hl : Hid (n.length = len)) (hs : SlS w ao n) (hm : Hid (N.Small n)) :
    Calls Tryz.prog 69 #[.pointer (some ⟨Zb, 0, none⟩), .slice ao len cap] w fun e w' => e = .returned (.tuple #[]) ∧ ∃ d, d ≤ n.length ∧ TreeAt w' ρ (Z.cutG G (path n) d) C K ∧ ZMv ρ w w' ∧ (d = 0 ∨ (∃ t, (C ((path n).take d) t).isSome) ∨ ∃ l, (Z.cutG G (path n) d ((path n).take d ++ [l])).isSome) := by
  have hL : len ≤ 1000000 := by rw [← hl.out]; exact hm.out.1
  have HT := hide T
  have HZ := hide hz
  have HS := hide hs
  have hlow : ∀ W, Below w.heap.size w W → Calls Tryz.prog 41 #[.slice ao len cap] W fun e w' => ∃ v, e = .returned v ∧ OwnS w' W.heap.size v (N.lowN n) ∧ Below W.heap.size W w' := fun W hW => lower_any n ao len cap W hl (HS.out.below hW (Nat.le_refl _)) hm
  have hq0 : path n = (N.lowN n).reverse := rfl
  obtain ⟨q, hq⟩ : ∃ q, q = path n := ⟨_, rfl⟩
  obtain ⟨m, hme⟩ : ∃ m, m = N.lowN n := ⟨_, rfl⟩
  have hmq : q = m.reverse := by rw [hq, hme]; rfl
  have hml : m.length = len := by rw [hme, N.lowN_len]; exact hl.out
  have hqn : (N.lowN m) = m := by
    have := Z.Low.of n
    unfold Z.Low at this
    rw [hme]; exact this
  have hms : N.Small m := by
    rw [hme]
    refine ⟨by rw [N.lowN_len]; exact hm.out.1, fun l hl => ?_⟩
    unfold N.lowN at hl
    obtain ⟨l0, h2, rfl⟩ := List.mem_map.1 hl
    rw [N.lowL_len]; exact hm.out.2 l0 h2
  rw [← hq]
  rw [← hme] at hlow
  have HQ := hide hq
  have HMQ := hide hmq
  have HML := hide hml
  have HQN := hide hqn
  have HMS := hide hms
  clear T hz hs hq hq0 hmq hml hqn hms hme
  go_enter Tryz.func69, Tryz.ntmps69
  go_wp2_with (first
    | (go_at_call 41; refine (hlow _ (Below.refl _ _)).mono ?_; rintro e w1 ⟨v1, rfl, hv1, hb1⟩; obtain ⟨a1, c1, rfl, hs1, _, _⟩ := hv1.ty; rw [HML.out])
    | (go_at_call 55; refine (way_any w1 Zb av cnt ρ G C K (HT.out.below_ hb1) (HZ.out.below hb1 HZ.out.lt) m a1 len c1 HML.out hs1.1 HMS.out).mono ?_; rintro e w2 ⟨v2, rfl, k, hk, hg1, hg2, hrow, hb2⟩; obtain ⟨g, c2, rfl⟩ := ownsRow_succ hrow; rw [HQN.out, ← HMQ.out] at hg1 hg2; rw [HQN.out] at hrow)
    | fail)
  have hb02 := hb1.trans (hb2.mono hb1.size)
  have hpre : ∀ j, j ≤ k → (G (q.take j)).isSome := fun j hj => by
    have := HT.out.pre ((q.take k).drop j) (q.take j)
    refine this ?_
    have e : q.take j = (q.take k).take j := by rw [List.take_take, Nat.min_eq_left hj]
    rw [e, List.take_append_drop]; exact hg1
  have hqlen : q.length = len := by rw [HMQ.out, List.length_reverse, HML.out]
  have hkl : k ≤ len := by rw [← HML.out]; exact hk
  have hT0 : TrI w ρ G C K q k w2 := ⟨by rw [cutG_start HT.out (fun h => hg2 (by rw [HML.out, ← hqlen]; exact h))]; exact HT.out.below_ hb02, ZMv.of_below hb02⟩
  have hlabel : ∀ e, e < len → m.getD (len - (e + 1)) [] = q.getD e [] := fun e he => by
    have e1 := HMQ.out
    have e2 := HML.out
    rw [e1, List.getD_eq_getElem?_getD, List.getD_eq_getElem?_getD, List.getElem?_reverse (by omega)]
    congr 2; omega
  have HPRE := hide hpre
  have HQL := hide hqlen
  have HLB := hide hlabel
  have hsm := hs1.kb (KB.of_below hb2)
  have hlabs : ∀ l ∈ m, l.length ≤ 1000000 := HMS.out.2
  have HLS := hide hlabs
  have hw0 : IntKind.i64.wrap (((k + 1 : Nat) : Int) - 1) = (k : Int) := by rw [IntKind.wrap_i64]; omega
  clear hpre hqlen hlabel hg1 hg2 hb1 hb2 hb02 hv1 hs1 hlow hlabs
  go_loopw [6] (fun i wr => ∃ d : Nat, i = .int .i64 (d : Int) ∧ d ≤ k ∧ TrI w ρ G C K q d wr ∧ wr.ownsRow w1.heap.size 80 1 (.slice (some ⟨g, 0, none⟩) (k + 1) c2) (k + 1) (wayV G m k) ∧ TyS wr a1 m) (fun i _ => (intOf i).toNat)
  case atStart => exact ⟨k, by congr 1; (first | rfl | (unfold wrap64; omega) | (simp; unfold wrap64; omega)), Nat.le_refl _, hT0, hrow, hsm⟩
  case round =>
    obtain ⟨d, rfl, hd, hI, hR, hT⟩ := hrel
    cases d with
    | zero =>
      have HI := hide hI
      clear hI hR hT hrow hsm hT0
      go_wp2
      go_end0
      exact ⟨rfl, 0, Nat.zero_le _, HI.out.tree, HI.out.mv, Or.inl rfl⟩
    | succ e =>
      obtain ⟨xd, hxd⟩ := Option.isSome_iff_exists.1 (HPRE.out (e + 1) hd)
      obtain ⟨xp, hxp⟩ := Option.isSome_iff_exists.1 (HPRE.out e (by omega))
      have hxd' : Z.cutG G q (e + 1) (q.take (e + 1)) = some xd := by rw [cutG_at G q (Nat.le_refl _)]; exact hxd
      have hxp' : Z.cutG G q (e + 1) (q.take e) = some xp := by rw [cutG_at G q (Nat.le_succ _)]; exact hxp
      have hemp := empty_node wr (hI.tree.node _ xd hxd') (fun t S h => (hI.tree.cov _ t S h).2)
      have c1 : wr.cell? ⟨g, e + 1, none⟩ = some (.pointer (some ⟨xd.n, 0, none⟩)) := by
        rw [World.ownsRow.cellAt hR (e + 1) (by omega), wayV_get _ _ _ _ hd, ← HMQ.out, nodeN_of hxd]; rfl
      have hlt1 : ((e + 1 : Nat) : Int) < ((k + 1 : Nat) : Int) := by omega
      have hpos : (0 : Int) < ((e + 1 : Nat) : Int) := by omega
      have HI := hide hI
      have HR := hide hR
      have HTy := hide hT
      have HXP := hide hxp
      have HXPc := hide hxp'
      clear hI hR hT hrow hsm hT0 hxd hxd' hxp hxp'
      go_wp2_with (go_at_call 57; refine hemp.mono ?_; rintro e' wq ⟨r, rfl, hwq, hr⟩; rw [hwq]; clear hwq wq; cases r)
      · go_end0
        refine ⟨rfl, e + 1, by have := HQL.out; have := hl.out; omega, HI.out.tree, HI.out.mv, Or.inr ?_⟩
        refine Classical.byContradiction fun hno => ?_
        have h1 : false = true := hr.2 ⟨fun t => ?_, fun l => ?_⟩
        · cases h1
        · cases h2 : C (q.take (e + 1)) t with
          | none => rfl
          | some S => exact absurd (Or.inl ⟨t, by rw [h2]; rfl⟩) hno
        · cases h2 : Z.cutG G q (e + 1) (q.take (e + 1) ++ [l]) with
          | none => rfl
          | some y => exact absurd (Or.inr ⟨l, by rw [h2]; rfl⟩) hno
      · obtain ⟨h1, h2⟩ := hr.1 (by simp)
        have el : e < len := by omega
        have hlb2 := HLB.out e el
        have hql := HQL.out
        obtain ⟨b1, o1, ea1, _, hc1⟩ := HTy.out.1 (by have := HML.out; omega)
        subst ea1
        obtain ⟨lx, hlx⟩ : ∃ lx, lx = q.getD e [] := ⟨_, rfl⟩
        rw [← hlx] at hlb2
        have hcl : wr.cell? ⟨b1, o1 + (len - (e + 1)), none⟩ = some (.string ⟨lx.toArray⟩) := by
          rw [hc1 (len - (e + 1)) (by have := HML.out; omega), hlb2]
        have hlx1 : lx.length ≤ 1000000 := by
          rw [← hlb2, List.getD_eq_getElem?_getD, List.getElem?_eq_getElem (by have := HML.out; omega)]
          exact HLS.out _ (List.getElem_mem _)
        have cp : wr.cell? ⟨g, e, none⟩ = some (.pointer (some ⟨xp.n, 0, none⟩)) := by
          rw [World.ownsRow.cellAt HR.out e (by omega), wayV_get _ _ _ _ (by omega), ← HMQ.out, nodeN_of HXP.out]; rfl
        have NP := HI.out.tree.node _ xp HXPc.out
        have v1 : wr.cell? ⟨xp.n, 1, none⟩ = some (.map (some xp.b)) := NP.row.cell 1
        obtain ⟨w8, hrun, hM8, ht8⟩ := MapAt.drop NP.below.drew keyedS Tryz.underlying94 (keyS lx hlx1) 0
        have hwj : IntKind.i64.wrap (((e + 1 : Nat) : Int) - 1) = (e : Int) := by rw [IntKind.wrap_i64]; omega
        obtain ⟨jj, hjj⟩ : ∃ jj, jj = len - (e + 1) := ⟨_, rfl⟩
        have hcl2 := hcl
        rw [← hjj] at hcl
        have hwl : IntKind.i64.wrap ((len : Int) - ((e + 1 : Nat) : Int)) = (jj : Int) := by rw [IntKind.wrap_i64]; omega
        have i1 : (e : Int) < ((k + 1 : Nat) : Int) := by omega
        have i2 : (jj : Int) < (len : Int) := by omega
        have HM8 := hide hM8
        have HT8 := hide ht8
        have HNP := hide NP
        have H1 := hide h1
        have H2 := hide h2
        have HLX := hide hlx
        have HJJ := hide hjj
        clear hM8 ht8 NP h1 h2 hlx hjj hlb2 hc1 hr el hql
        (try go_wp2)
        go_region
        all_goals go_wp2
        all_goals go_roundw
        all_goals (try case' rel => skip)
        case rel =>
          have T' : Turn xp.b wr w8 := ⟨HT8.out.os, HT8.out.tape, HT8.out.output, HT8.out.size, HT8.out.block, HT8.out.was, HT8.out.is_⟩
          have hql := HQL.out
          have etl : q.take e ++ [lx] = q.take (e + 1) := by
            have := take_last q (d := e + 1) (by omega) (by omega)
            rw [Nat.add_sub_cancel] at this
            rw [HLX.out]; exact this
          have hrb : ρ xp.b ≠ .none := by rw [HI.out.tree.rb _ xp HXPc.out]; simp
          refine ⟨e, by first | rfl | simp, by omega, ⟨?_, HI.out.mv.trans (ZMv.turn T' hrb) (fun _ _ h => h)⟩, ownsRow_map T' HR.out, HTy.out.kb (KB.turn T')⟩
          have h3 := HI.out.tree.cut HXPc.out (l := lx) (by rw [etl]; exact H1.out) (by rw [etl]; exact H2.out) T' (HM8.out.congr fun k => fdel_S _ _ k)
          rw [etl, cutG_gput G q (by omega) (by omega)] at h3
          exact h3
        case measure => simp [intOf]
end Go.Proofs.YtdldaphkiphpnaaGreat
