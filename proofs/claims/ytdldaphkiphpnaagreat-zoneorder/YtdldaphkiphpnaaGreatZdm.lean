/- How many records DropSet takes away, plain. -/
import Derived.Test.YtdldaphkiphpnaaGreatZps
import Derived.Test.YtdldaphkiphpnaaGreatZha
namespace Go.Proofs.YtdldaphkiphpnaaGreat
namespace Z
set_option maxRecDepth 5000 in
theorem sets_len (L : List R) (p : List (List UInt8)) : ∀ (ts : List Nat), ts.Nodup → (ts.map fun s => (setAt L p s).length).sum = (L.filter fun x => decide (x.p = p) && decide (x.t ∈ ts)).length
  | [], _ => by
    have : L.filter (fun x => decide (x.p = p) && decide (x.t ∈ ([] : List Nat))) = [] := List.filter_eq_nil_iff.2 fun a _ => by simp
    rw [this]; rfl
  | s :: ts, h => by
    rw [List.nodup_cons] at h
    have ih := sets_len L p ts h.2
    rw [List.map_cons, List.sum_cons, ih]
    unfold setAt
    clear ih
    induction L with
    | nil => rfl
    | cons a L ihL =>
      simp only [List.filter_cons]
      by_cases e : a.p = p
      · by_cases e1 : a.t = s
        · have h1 : (decide (a.p = p) && decide (a.t = s)) = true := by simp [e, e1]
          have h2 : (decide (a.p = p) && decide (a.t ∈ ts)) = false := by simp [e1, h.1]
          have h3 : (decide (a.p = p) && decide (a.t ∈ s :: ts)) = true := by simp [e, e1]
          rw [h1, h2, h3, if_pos rfl, if_neg (by simp), if_pos rfl, List.length_cons, List.length_cons]
          omega
        · have h1 : (decide (a.p = p) && decide (a.t = s)) = false := by simp [e1]
          by_cases e2 : a.t ∈ ts
          · have h2 : (decide (a.p = p) && decide (a.t ∈ ts)) = true := by simp [e, e2]
            have h3 : (decide (a.p = p) && decide (a.t ∈ s :: ts)) = true := by simp [e, e2]
            rw [h1, h2, h3, if_pos rfl, if_neg (by simp), if_pos rfl, List.length_cons, List.length_cons]
            omega
          · have h2 : (decide (a.p = p) && decide (a.t ∈ ts)) = false := by simp [e2]
            have h3 : (decide (a.p = p) && decide (a.t ∈ s :: ts)) = false := by simp [e1, e2]
            rw [h1, h2, h3, if_neg (by simp), if_neg (by simp), if_neg (by simp)]
            exact ihL
      · have h1 : ∀ b : Bool, (decide (a.p = p) && b) = false := fun b => by simp [e]
        rw [h1, h1, h1, if_neg (by simp), if_neg (by simp), if_neg (by simp)]
        exact ihL
/- the types that DropSet goes through -/
def dropTs (L : List R) (p : List (List UInt8)) (t : Nat) : List Nat := if t = 255 then typesAt L p else [t]
set_option maxRecDepth 5000 in
theorem dropTs_nodup {L : List R} (h : L.Pairwise rlt) (p : List (List UInt8)) (t : Nat) : (dropTs L p t).Nodup := by
  unfold dropTs
  split
  · exact (types_rise h p).1.imp fun {a b} hab => by omega
  · simp
set_option maxRecDepth 5000 in
theorem dropSet_len {L : List R} (h : L.Pairwise rlt) (p : List (List UInt8)) (t : Nat) : (dropSet L p t).length + ((dropTs L p t).map fun s => (setAt L p s).length).sum = L.length := by
  rw [sets_len L p _ (dropTs_nodup h p t)]
  have e : L.filter (fun x => decide (x.p = p) && decide (x.t ∈ dropTs L p t)) = L.filter (isS p t) := by
    refine List.filter_congr fun x hx => ?_
    unfold isS dropTs
    by_cases hp : x.p = p
    · by_cases ht : t = 255
      · have : x.t ∈ typesAt L p := ((types_rise h p).2 x.t).2 ⟨x, hx, hp, rfl⟩
        simp [hp, ht, this]
      · simp [hp, ht]
    · simp [hp]
  rw [e]
  unfold dropSet
  clear e h
  induction L with
  | nil => rfl
  | cons a L ih =>
    cases hk : isS p t a with
    | true => rw [List.filter_cons_of_neg (by rw [hk]; simp), List.filter_cons_of_pos hk, List.length_cons, List.length_cons]; omega
    | false => rw [List.filter_cons_of_pos (by rw [hk]; rfl), List.filter_cons_of_neg (by rw [hk]; simp), List.length_cons, List.length_cons]; omega
end Z
end Go.Proofs.YtdldaphkiphpnaaGreat

/- Cut. -/
namespace Go.Proofs.YtdldaphkiphpnaaGreat
open Go.RowKit
/- a set of name servers below the apex, d labels deep on the way -/
def cutHit (A : List (List UInt8)) (C : List (List UInt8) → Nat → Option Z.St) (q : List (List UInt8)) (d : Nat) : Prop := A.length < d ∧ (C (q.take d) 2).isSome
def CutPost (w : World) (A : List (List UInt8)) (C : List (List UInt8) → Nat → Option Z.St) (n : List (List UInt8)) (e : Ending) (w' : World) : Prop :=
  Below w.heap.size w w' ∧ ((e = .returned (.tuple #[.slice none 0 0, .bool false]) ∧ ∀ d, d ≤ n.length → ¬ cutHit A C (path n) d) ∨
    ∃ (d b o c : Nat), d ≤ n.length ∧ cutHit A C (path n) d ∧ (∀ j, j < d → ¬ cutHit A C (path n) j) ∧ e = .returned (.tuple #[.slice (some ⟨b, o, none⟩) d c, .bool true]) ∧ TyS w' (some ⟨b, o, none⟩) ((N.lowN n).drop (n.length - d)) ∧ d ≤ c)
/- how many data a looked-up set has -/
set_option maxRecDepth 5000 in
theorem len_set {w : World} {C : List (List UInt8) → Nat → Option Z.St} {K : Nat} {L : List Z.R} {p : List (List UInt8)} {t : Nat} {mo : Option Nat} (hof : Z.Of L C) (h : DM w mo (Z.got C p t) K) (hmo : mo = none → C p t = none) :
    ∃ c : Nat, (Builtin.len_ #[89] 3 #[.map mo]).run Tryz.prog w = .ok (.int .i64 (c : Int)) w ∧ (0 < c ↔ (C p t).isSome) := by
  cases mo with
  | none => exact ⟨0, rfl, by rw [hmo rfl]; simp⟩
  | some m =>
    obtain ⟨f, h1, h2⟩ := h
    obtain ⟨c, h3, _, h4⟩ := h1.none_len keyedS Tryz.underlying89 3
    refine ⟨c, h3, ?_⟩
    have hsame : ∀ y, (Z.got C p t y).isSome = (f y).isSome := fun y => (h2 y).same.symm
    constructor
    · intro hc
      refine Classical.byContradiction fun hn => ?_
      have hC : C p t = none := by
        cases hC : C p t with
        | none => rfl
        | some S => rw [hC] at hn; exact absurd rfl hn
      have : c = 0 := h4.2 fun x => by
        cases x with
        | string y =>
          have h5 := hsame y
          unfold Z.got at h5; rw [hC] at h5
          show f y = none
          cases hf : f y with
          | none => rfl
          | some v => rw [hf] at h5; cases h5
        | _ => rfl
      omega
    · intro hs
      obtain ⟨S, hS⟩ := Option.isSome_iff_exists.1 hs
      obtain ⟨y, hy, e1, e2⟩ := hof.ex p t S hS
      have h6 := (hof.at_ y hy S (by rw [e1, e2]; exact hS)).2
      refine Nat.pos_of_ne_zero fun h0 => ?_
      have h7 : f y.c = none := h4.1 h0 (.string y.c)
      have h5 := hsame y.c
      unfold Z.got at h5
      rw [hS, h7] at h5
      have h5 : (S.g y.c).isSome = false := h5
      rw [h6] at h5; cases h5
set_option maxRecDepth 100000 in
set_option maxHeartbeats 1000000 in
theorem zcut_any (w : World) (Zb : Nat) (A : List (List UInt8)) (L : List Z.R) (ρ : Nat → Role) (G : List (List UInt8) → Option Nd) (C : List (List UInt8) → Nat → Option Z.St) (K : Nat) (Zx : ZAt w Zb A L ρ G C K) (hA : A.length ≤ 1000000) (n : List (List UInt8)) (ao : Option Addr) (len cap : Nat) (hl : Hid (n.length = len)) (hs : SlS w ao n) (hm : Hid (N.Small n)) :
    Calls Tryz.prog 26 #[.pointer (some ⟨Zb, 0, none⟩), .slice ao len cap] w fun e w' => CutPost w A C n e w' := by
  have hL : len ≤ 1000000 := by rw [← hl.out]; exact hm.out.1
  obtain ⟨aa, ac, hz, _, _⟩ := Zx.row
  have HX := hide Zx
  have HZ := hide hz
  have HS := hide hs
  have hlow : ∀ W, Below w.heap.size w W → Calls Tryz.prog 41 #[.slice ao len cap] W fun e w' => ∃ v, e = .returned v ∧ OwnS w' W.heap.size v (N.lowN n) ∧ Below W.heap.size W w' := fun W hW => lower_any n ao len cap W hl (HS.out.below hW (Nat.le_refl _)) hm
  obtain ⟨q, hq⟩ : ∃ q, q = path n := ⟨_, rfl⟩
  obtain ⟨m, hme⟩ : ∃ m, m = N.lowN n := ⟨_, rfl⟩
  have hmq : q = m.reverse := by rw [hq, hme]; rfl
  have hml : m.length = len := by rw [hme, N.lowN_len]; exact hl.out
  have hqn : (N.lowN m) = m := by
    have := Z.Low.of n
    unfold Z.Low at this
    rw [hme]; exact this
  have hms : N.Small m := by
    rw [hme]
    refine ⟨by rw [N.lowN_len]; exact hm.out.1, fun l hl => ?_⟩
    unfold N.lowN at hl
    obtain ⟨l0, h2, rfl⟩ := List.mem_map.1 hl
    rw [N.lowL_len]; exact hm.out.2 l0 h2
  unfold CutPost
  rw [← hq, ← hme]
  rw [← hme] at hlow
  have HLOW := hide hlow
  have HMQ := hide hmq
  have HML := hide hml
  have HQN := hide hqn
  have HMS := hide hms
  clear Zx hz hs hq hmq hml hqn hms hme hlow
  go_enter Tryz.func26, Tryz.ntmps26
  go_wp2_with (first
    | (go_at_call 41; refine (HLOW.out _ (Below.refl _ _)).mono ?_; rintro e w1 ⟨v1, rfl, hv1, hb1⟩; obtain ⟨a1, c1, rfl, hs1, _, hc1⟩ := hv1.ty; rw [HML.out] at hc1 ⊢)
    | (go_at_call 55; refine (way_any w1 Zb _ _ ρ G C K (HX.out.tree.below_ hb1) (HZ.out.below hb1 HZ.out.lt) m a1 len c1 HML.out hs1.1 HMS.out).mono ?_; rintro e w2 ⟨v2, rfl, k, hk, hg1, hg2, hrow, hb2⟩; obtain ⟨g, c2, rfl⟩ := ownsRow_succ hrow; rw [HQN.out, ← HMQ.out] at hg1 hg2; rw [HQN.out] at hrow)
    | fail)
  have hb02 := hb1.trans (hb2.mono hb1.size)
  have hpre : ∀ j, j ≤ k → (G (q.take j)).isSome := fun j hj => by
    have := HX.out.tree.pre ((q.take k).drop j) (q.take j)
    refine this ?_
    have e : q.take j = (q.take k).take j := by rw [List.take_take, Nat.min_eq_left hj]
    rw [e, List.take_append_drop]; exact hg1
  have hqlen : q.length = len := by rw [HMQ.out, List.length_reverse, HML.out]
  have hkl : k ≤ len := by rw [← HML.out]; exact hk
  have hdeep : ∀ d, k < d → d ≤ len → C (q.take d) 2 = none := fun d h1 h2 => by
    have h3 := hg2 (by rw [HML.out]; omega)
    have h4 := HX.out.tree.no_below h3 ((q.take d).drop (k + 1))
    have e : q.take (k + 1) = (q.take d).take (k + 1) := by rw [List.take_take, Nat.min_eq_left (by omega)]
    rw [e, List.take_append_drop] at h4
    exact HX.out.tree.no_sets h4 2
  have hsm := hs1.kb (KB.of_below hb2)
  have HPRE := hide hpre
  have HQL := hide hqlen
  have HDP := hide hdeep
  have HSM := hide hsm
  have HB2 := hide hb02
  have HT2 := hide (HX.out.tree.below_ hb02)
  have HR := hide hrow
  have hz2 := HZ.out.below hb02 HZ.out.lt
  have z0 : w2.cell? ⟨Zb, 0, none⟩ = some (.slice aa A.length ac) := hz2.cell 0
  clear hpre hqlen hdeep hg1 hg2 hb1 hb2 hb02 hv1 hs1 hsm hrow hz2
  go_loopw [15] (fun i wr => ∃ j : Nat, i = .int .i64 (j : Int) ∧ j ≤ k + 1 ∧ wr = w2 ∧ ∀ d, d < j → ¬ cutHit A C q d) (fun i _ => k + 1 - (intOf i).toNat)
  case atStart => exact ⟨0, rfl, Nat.zero_le _, rfl, fun d hd => absurd hd (Nat.not_lt_zero d)⟩
  case round =>
    obtain ⟨j, rfl, hj, rfl, hno⟩ := hrel
    have HNO := hide hno
    clear hno
    by_cases hlast : j = k + 1
    · subst hlast
      go_wp2
      go_ret2
      refine ⟨HB2.out, Or.inl ⟨rfl, fun d hd h => ?_⟩⟩
      by_cases hdk : d ≤ k
      · exact HNO.out d (by omega) h
      · have := h.2
        rw [HDP.out d (by omega) (by rw [← hl.out]; exact hd)] at this; cases this
    · have hlt : (j : Int) < (k : Int) + 1 := by omega
      obtain ⟨x, hx⟩ := Option.isSome_iff_exists.1 (HPRE.out j (by omega))
      have NX := HT2.out.node _ x hx
      have c1 : wr.cell? ⟨g, j, none⟩ = some (.pointer (some ⟨x.n, 0, none⟩)) := by
        rw [World.ownsRow.cellAt HR.out j (by omega), wayV_get _ _ _ _ (by omega), ← HMQ.out, nodeN_of hx]; rfl
      have x0 : wr.cell? ⟨x.n, 0, none⟩ = some (.map (some x.s)) := NX.row.cell 0
      obtain ⟨T0, mo, hmo, hmn⟩ : ∃ (T0 : Nat) (mo : Option Nat), ((C (q.take j) 2).map fun S => setV S (x.dm 2)).getD (.agg #[.int .u32 0, .map none]) = .agg #[.int .u32 (T0 : Int), .map mo] ∧ (mo = none → C (q.take j) 2 = none) := by
        cases hC : C (q.take j) 2 with
        | none => exact ⟨0, none, rfl, fun _ => rfl⟩
        | some S => exact ⟨S.ttl, some (x.dm 2), rfl, fun h => by cases h⟩
      have F : Found wr wr G C K (q.take j) x := ⟨NX, Or.inl hx, Below.refl _ _⟩
      have hlk : (Instr.lookup 93 (.map (some x.s)) (.int .u16 2) false).run Tryz.prog wr = .ok (.agg #[.int .u32 (T0 : Int), .map mo]) wr := by rw [← hmo]; exact (NX.lookup 2 (by omega) wr rfl).2
      obtain ⟨cn, hln, hpos⟩ := len_set HX.out.of (F.dm 2 T0 mo hmo) hmn
      have hfd : (Instr.field 91 (.agg #[.int .u32 (T0 : Int), .map mo]) 1).run Tryz.prog wr = .ok (.map mo) wr := by rfl
      have HPOS := hide hpos
      have HJ := hide hlast
      have HMN := hide hmn
      have HM0 := hide hmo
      have HNX := hide NX
      have HF := hide F
      clear hx NX hmo hmn F hpos hlast
      by_cases hd : A.length < j
      · have hdb : ((A.length : Int) < (j : Int)) := by omega
        by_cases hc : 0 < cn
        · have hcb : ((0 : Int) < (cn : Int)) := by omega
          have hcut : IntKind.i64.wrap ((len : Int) - (j : Int)) = ((len - j : Nat) : Int) := by rw [IntKind.wrap_i64]; omega
          obtain ⟨b1, o1, ea1, _, _⟩ := HSM.out.1 (by have := HML.out; omega)
          subst ea1
          go_wp2
          go_ret2
          have hjl : j ≤ len := by omega
          have e1 : len - (len - j) = j := by omega
          rw [e1]
          refine ⟨HB2.out, Or.inr ⟨j, b1, o1 + (len - j), _, by rw [hl.out]; exact hjl, ⟨hd, HPOS.out.1 hc⟩, HNO.out, rfl, ⟨?_, fun a e => ?_⟩, ?_⟩⟩
          · rw [hl.out]; exact HSM.out.1.drop (by rw [HML.out]; omega)
          · obtain rfl := Option.some.inj e
            exact HSM.out.2 ⟨b1, o1, none⟩ rfl
          · omega
        · have hcb : decide ((0 : Int) < (cn : Int)) = false := by simp; omega
          go_wp2
          refine ⟨⟨j + 1, by simp, by omega, trivial, fun d hd2 h => ?_⟩, by simp [intOf]; omega⟩
          by_cases e : d = j
          · rw [e] at h; exact hc (HPOS.out.2 h.2)
          · exact HNO.out d (by omega) h
      · have hdb : decide ((A.length : Int) < (j : Int)) = false := by simp; omega
        go_wp2
        refine ⟨⟨j + 1, by simp, by omega, trivial, fun d hd2 h => ?_⟩, by simp [intOf]; omega⟩
        by_cases e : d = j
        · rw [e] at h; exact hd h.1
        · exact HNO.out d (by omega) h
end Go.Proofs.YtdldaphkiphpnaaGreat

/- How many data a looked-up set has: as many as the list has records. -/
namespace Go.Proofs.YtdldaphkiphpnaaGreat
open Go.RowKit
set_option maxRecDepth 5000 in
theorem count_set {w : World} {C : List (List UInt8) → Nat → Option Z.St} {K : Nat} {L : List Z.R} (hr : L.Pairwise Z.rlt) {p : List (List UInt8)} {t : Nat} {mo : Option Nat} (hof : Z.Of L C) (h : DM w mo (Z.got C p t) K) (hmo : mo = none → C p t = none) :
    (Builtin.len_ #[89] 3 #[.map mo]).run Tryz.prog w = .ok (.int .i64 ((Z.setAt L p t).length : Int)) w := by
  cases mo with
  | none =>
    have h0 : Z.setAt L p t = [] := List.filter_eq_nil_iff.2 fun x hx hk => by
      have hk : x.p = p ∧ x.t = t := by simpa using hk
      exact hof.no p t (hmo rfl) x hx hk
    rw [h0]; rfl
  | some m =>
    obtain ⟨f, h1, h2⟩ := h
    have hsame : ∀ y, (Z.got C p t y).isSome = (f y).isSome := fun y => (h2 y).same.symm
    have hinj : ∀ a b : List UInt8, Lit.string a = Lit.string b → a = b := fun a b e => by injection e
    have hnd : (((Z.setAt L p t).map (·.c)).map Lit.string).Nodup := by
      unfold List.Nodup
      rw [List.pairwise_map]
      refine (Z.setAt_rise hr p t).imp ?_
      intro a b hab e
      have e2 := hinj a b e
      rw [e2] at hab
      exact Z.blt_irr b hab
    have h3 := h1.len keyedS Tryz.underlying89 (((Z.setAt L p t).map (·.c)).map Lit.string) hnd (fun x => by
      rw [List.mem_map]
      constructor
      · rintro ⟨c, hc, rfl⟩
        show (f c).isSome = true
        rw [← hsame]
        obtain ⟨r, hr1, rfl⟩ := List.mem_map.1 hc
        obtain ⟨hrL, e1, e2⟩ := Z.mem_setAt.1 hr1
        obtain ⟨S, hS⟩ := hof.hasS hrL
        have h4 := (hof.at_ r hrL S hS).2
        rw [e1, e2] at hS
        unfold Z.got; rw [hS]
        show (S.g r.c).isSome = true
        rw [h4]; rfl
      · intro hx
        cases x with
        | string c =>
          have hx : (f c).isSome = true := hx
          rw [← hsame] at hx
          refine ⟨c, ?_, rfl⟩
          cases hC : C p t with
          | none => unfold Z.got at hx; rw [hC] at hx; cases hx
          | some S =>
            unfold Z.got at hx; rw [hC] at hx
            exact (hof.mem_c hC c).2 hx
        | _ => cases hx) 3
    rw [List.length_map, List.length_map] at h3
    exact h3
end Go.Proofs.YtdldaphkiphpnaaGreat
