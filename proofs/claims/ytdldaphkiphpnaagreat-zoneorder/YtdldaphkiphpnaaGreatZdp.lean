/- Drop. -/
import Derived.Test.YtdldaphkiphpnaaGreatZha
import Derived.Test.YtdldaphkiphpnaaGreatNdr
import Derived.Test.YtdldaphkiphpnaaGreatFdm
import Derived.Deep.RegionHeld3
import Derived.Deep.RegionWith
import Derived.BigQuiet
import Derived.Deep.QuietTactic
namespace Go.Proofs.YtdldaphkiphpnaaGreat
open Go.RowKit
set_option maxRecDepth 5000 in
theorem Z.drop_len {L : List Z.R} (h : L.Pairwise Z.rlt) (p : List (List UInt8)) (t : Nat) (c : List UInt8) (hx : ∃ x ∈ L, x.p = p ∧ x.t = t ∧ x.c = c) : (Z.drop L p t c).length + 1 = L.length := by
  induction L with
  | nil => obtain ⟨x, hx, _⟩ := hx; cases hx
  | cons a L ih =>
    rw [List.pairwise_cons] at h
    unfold Z.drop
    by_cases e : a.p = p ∧ a.t = t ∧ a.c = c
    · rw [List.filter_cons_of_neg (by rw [Z.isK_iff.2 e]; simp)]
      have : L.filter (fun x => !Z.isK p t c x) = L := by
        refine List.filter_eq_self.2 fun y hy => ?_
        cases hk : Z.isK p t c y with
        | false => rfl
        | true =>
          obtain ⟨e1, e2, e3⟩ := Z.isK_iff.1 hk
          have h0 : Z.cmpK a y = 0 := by
            unfold Z.cmpK
            rw [e.1, e1, if_pos ((N.cmpR_zero).2 rfl), e.2.1, e2, if_pos rfl, e.2.2, e3]; exact N.cmpB_zero.2 rfl
          have h1 := h.1 y hy
          unfold Z.rlt at h1; omega
      rw [this]; rfl
    · have hk : Z.isK p t c a = false := by
        cases hk : Z.isK p t c a with
        | false => rfl
        | true => exact absurd (Z.isK_iff.1 hk) e
      rw [List.filter_cons_of_pos (by rw [hk]; rfl), List.length_cons, List.length_cons]
      have := ih h.2 (by
        obtain ⟨x, hx, h3⟩ := hx
        rcases List.mem_cons.1 hx with rfl | hx
        · exact absurd h3 e
        · exact ⟨x, hx, h3⟩)
      unfold Z.drop at this
      omega
/- a zone with a record, or a set, taken away: what the last calls leave -/
set_option maxRecDepth 5000 in
theorem ZAt.less {w w7 w8 : World} {Zb : Nat} {A : List (List UInt8)} {L L' : List Z.R} {ρ : Nat → Role} {G : List (List UInt8) → Option Nd} {C C' : List (List UInt8) → Nat → Option Z.St} {K : Nat} (Zx : ZAt w Zb A L ρ G C K) (p : List (List UInt8)) (hL : ∀ x ∈ L', x ∈ L) (hL2 : ∀ x ∈ L, x.p ≠ p → x ∈ L') (hr : L'.Pairwise Z.rlt) (hof : Z.Of L' C') (hlen : L'.length ≤ L.length)
    {d : Nat} (hd : d ≤ p.length) (T : TreeAt w7 ρ (Z.cutG G p d) C' K) (hm : ZMv ρ w w7) (hend : d = 0 ∨ (∃ t, (C' (p.take d) t).isSome) ∨ ∃ l, (Z.cutG G p d (p.take d ++ [l])).isSome) {v : Value} (hv : v = .int .i64 (L'.length : Int)) (h8 : w8 = w7.setCell ⟨Zb, 2, none⟩ v) :
    ZAt w8 Zb A L' ρ (Z.cutG G p d) C' K ∧ ZM Zb ρ w w8 := by
  obtain ⟨ao, cap, h1, h2, h3⟩ := Zx.row
  have hr7 : RowAt w7 Zb 83 #[.slice ao A.length cap, ptr (nodeN G []), .int .i64 (L.length : Int)] := (hm.block Zb h1.lt Zx.zr).trans h1
  have hc : ZM Zb ρ w7 w8 := by rw [h8]; exact ZM.count hr7
  have hk7 : ∀ i, ρ i ≠ .none → ZObj w7 i := T.kind
  have hroot : nodeN (Z.cutG G p d) [] = nodeN G [] := by
    unfold nodeN; rw [Z.cutG_off G (by simp)]
  refine ⟨⟨⟨ao, cap, ?_, ?_, h3⟩, ?_, hof, hr, fun x hx => Zx.lows x (hL x hx), ?_, Nat.le_trans hlen Zx.num, fun x hx => Zx.okk x (hL x hx), Zx.zr⟩, (ZM.of_mv hm).trans hc (More.refl _ _)⟩
  · rw [h8, hroot, hv]; exact hr7.set 2 _
  · exact slS_zm hc hk7 hr7 (slS_zm (ZM.of_mv hm) Zx.tree.kind h1 h2)
  · rw [h8]
    exact T.keep (fun i hi => heap_setCell_other _ _ _ _ (fun e => hi (by rw [e]; exact Zx.zr))) (fun _ _ hs => slL_zm (ρ := ρ) (ZM.count hr7) hk7 hr7 hs)
  · refine Zx.cov.trim p d hd hL2 ?_
    rcases hend with e | ⟨t, ht⟩ | h
    · exact Or.inl e
    · obtain ⟨x, hx, e, _⟩ := (hof.isSome _ _).1 ht
      exact Or.inr (Or.inl ⟨x, hx, e⟩)
    · exact Or.inr (Or.inr h)
def DropPost (w : World) (Zb : Nat) (A : List (List UInt8)) (L : List Z.R) (ρ : Nat → Role) (C : List (List UInt8) → Nat → Option Z.St) (K : Nat) (n : List (List UInt8)) (t : Nat) (d : List UInt8) (e : Ending) (w' : World) : Prop :=
  ∃ b : Bool, e = .returned (.bool b) ∧ ((b = false ∧ Below w.heap.size w w' ∧ (cn t d = none ∨ ∃ c, cn t d = some c ∧ Z.got C (path n) t c = none)) ∨
      (b = true ∧ ∃ c, cn t d = some c ∧ (Z.got C (path n) t c).isSome ∧ ∃ G' C', ZAt w' Zb A (Z.drop L (path n) t c) ρ G' C' K ∧ ZM Zb ρ w w'))
set_option maxRecDepth 100000 in
set_option maxHeartbeats 1500000 in
theorem zdrop_any (w : World) (Zb : Nat) (A : List (List UInt8)) (L : List Z.R) (ρ : Nat → Role) (G : List (List UInt8) → Option Nd) (C : List (List UInt8) → Nat → Option Z.St) (K : Nat) (Zx : ZAt w Zb A L ρ G C K) (n : List (List UInt8)) (na : Option Addr) (nl nc : Nat) (hl : Hid (n.length = nl)) (hs : SlS w na n) (hm : Hid (N.Small n)) (t cl ttl : Nat) (d : List UInt8) (da : Option Addr) (dc : Nat) (hsd : SlL w da d) (hnd : da = none → dc = 0) (hdc : d.length ≤ dc) (ht : t < 65536) :
    Calls Tryz.prog 39 #[.pointer (some ⟨Zb, 0, none⟩), recV na nl nc t cl ttl da d.length dc] w fun e w' => DropPost w Zb A L ρ C K n t d e w' := by
  obtain ⟨w1, hw1⟩ : ∃ w1, w1 = w.alloc (.cells #[.slice na nl nc, .int .u16 (t : Int), .int .u16 (cl : Int), .int .u32 (ttl : Int), .slice da d.length dc] 39) := ⟨_, rfl⟩
  have hb1 : Below w.heap.size w w1 := by rw [hw1]; exact (Below.refl _ w).alloc (Nat.le_refl _) _
  have hR1 : RowAt w1 w.heap.size 39 #[.slice na nl nc, .int .u16 (t : Int), .int .u16 (cl : Int), .int .u32 (ttl : Int), .slice da d.length dc] := by rw [hw1]; exact RowAt.new w _ _
  have x1 : w1.cell? ⟨w.heap.size, 1, none⟩ = some (.int .u16 (t : Int)) := hR1.cell 1
  have x4 : w1.cell? ⟨w.heap.size, 4, none⟩ = some (.slice da d.length dc) := hR1.cell 4
  have HZ := hide Zx
  have HW1 := hide hw1
  have HB1 := hide hb1
  have HR1 := hide hR1
  have HS := hide (hs.below hb1 (Nat.le_refl _))
  have HSD := hide (hsd.below hb1 (Nat.le_refl _))
  clear Zx hw1 hb1 hR1 hs hsd
  unfold recV
  go_enter Tryz.func39, Tryz.ntmps39
  cases hcn : cn t d with
  | none =>
    go_wp2_with (first
      | (go_at_call 63; rw [← HW1.out]; refine (Canon_any t d da d.length dc _ rfl (by exact HSD.out) hdc hnd).mono ?_; rintro e w2 ⟨⟨x, v, ho, rfl, hx⟩ | ⟨ho, rfl⟩, hb2⟩; (· exact absurd (hcn.symm.trans ho) (by simp)); have hb12 : Below w.heap.size w w2 := HB1.out.trans (hb2.mono HB1.out.size); have hR2 := HR1.out.below hb2 HR1.out.lt; have y0 : w2.cell? ⟨w.heap.size, 0, none⟩ = some (.slice na nl nc) := hR2.cell 0)
      | (go_at_call 51; refine ((HZ.out.bel hb12).find n na nl nc hl (HS.out.below hb2 (Nat.le_refl _)) hm).mono ?_; rintro e w3 ⟨x, rfl, hF⟩)
      | fail)
    go_quiet (fail)
    go_wp2
    go_ret
    exact ⟨false, rfl, Or.inl ⟨rfl, hb12.trans ((hF.bel.trans (below_drewN (Below.refl _ _) _)).mono hb12.size), Or.inl hcn⟩⟩
  | some c =>
    obtain ⟨hclen, hd8, hcc0⟩ := cn_len hcn
    have HCL := hide hclen
    clear hclen hcc0
    have hnum := HZ.out.num
    go_wp2_with (first
      | (go_at_call 63; rw [← HW1.out]; refine (Canon_any t d da d.length dc _ rfl (by exact HSD.out) hdc hnd).mono ?_; rintro e w2 ⟨⟨y, v, ho, rfl, hx⟩ | ⟨ho, rfl⟩, hb2⟩; rotate_left; (· exact absurd (hcn.symm.trans ho) (by simp)); (obtain rfl : c = y := Option.some.inj (hcn.symm.trans ho)); obtain ⟨ca, cc, rfl, hcT, _, hcc⟩ := OwnB.ty hx; have hb12 : Below w.heap.size w w2 := HB1.out.trans (hb2.mono HB1.out.size); have hR2 := HR1.out.below hb2 HR1.out.lt; have y0 : w2.cell? ⟨w.heap.size, 0, none⟩ = some (.slice na nl nc) := hR2.cell 0; have HB2 := hide hb2; have HCT := hide hcT; have HR2 := hide hR2; have HOW := hide hx; clear hx hcT hR2)
      | (go_at_call 51; refine ((HZ.out.bel hb12).find n na nl nc hl (HS.out.below hb2 (Nat.le_refl _)) hm).mono ?_; rintro e w3 ⟨x, rfl, hF⟩)
      | fail)
    have hb23 := hF.bel
    have hb03 : Below w.heap.size w w3 := hb12.trans (hb23.mono hb12.size)
    obtain ⟨T0, hT0⟩ : ∃ T0 : Nat, T0 = ((C (path n) t).map fun S => S.ttl).getD 0 := ⟨_, rfl⟩
    obtain ⟨mo, hmo⟩ : ∃ mo, ((C (path n) t).map fun S => setV S (x.dm t)).getD (.agg #[.int .u32 0, .map none]) = .agg #[.int .u32 (T0 : Int), .map mo] := by
      rw [hT0]; cases C (path n) t
      · exact ⟨none, rfl⟩
      · exact ⟨_, rfl⟩
    have hdm := hF.dm t T0 mo hmo
    have x0 : w3.cell? ⟨x.n, 0, none⟩ = some (.map (some x.s)) := hF.node.row.cell 0
    have hlk : ∀ W, W.heap[x.s]? = w3.heap[x.s]? → (Instr.lookup 93 (.map (some x.s)) (.int .u16 (t : Int)) false).run Tryz.prog W = .ok (.agg #[.int .u32 (T0 : Int), .map mo]) W := fun W hW => by rw [← hmo]; exact (hF.node.lookup t ht W hW).2
    have hlk1 := hlk w3 rfl
    have hlk2 := hlk w3.drew rfl
    have hR3 := HR2.out.below hb23 HR2.out.lt
    have c1 : w3.cell? ⟨w.heap.size, 1, none⟩ = some (.int .u16 (t : Int)) := hR3.cell 1
    have c0 : w3.cell? ⟨w.heap.size, 0, none⟩ = some (.slice na nl nc) := hR3.cell 0
    have hhas : ∀ W, Below w3.heap.size w3 W → Calls Tryz.prog 64 #[.agg #[.int .u32 (T0 : Int), .map mo], .slice ca c.length cc] W fun e w' => e = .returned (.bool (Z.got C (path n) t c).isSome) ∧ w' = W.alloc (.cells #[.int .u32 (T0 : Int), .map mo] 91) := fun W hW =>
      has_any W (T0 : Int) mo (Z.got C (path n) t) K (hdm.bel hW) c ca c.length cc rfl ((HCT.out.kb (KB.of_below (hb23.trans (hW.mono hb23.size)))).1) (by have := HCL.out; omega)
    have HF := hide hF
    have HB03 := hide hb03
    have HB23 := hide hb23
    have HDM := hide hdm
    have HR3 := hide hR3
    have HT0 := hide hT0
    have HMO := hide hmo
    clear hF hb03 hb23 hdm hR3 hT0 hmo hlk y0
    have hal : ∀ o, Below w3.heap.size w3 (w3.alloc o).drew := fun o => ((Below.refl w3.heap.size w3).alloc (Nat.le_refl _) o).trans ((below_drewN (Below.refl (w3.alloc o).heap.size (w3.alloc o)) 1).mono (show w3.heap.size ≤ (w3.alloc o).heap.size by rw [World.size_alloc]; omega))
    obtain ⟨gb, hgb⟩ : ∃ gb, gb = (Z.got C (path n) t c).isSome := ⟨_, rfl⟩
    rw [← hgb] at hhas
    have HGB := hide hgb
    have HHAS := hide hhas
    have HAL0 := hide hal
    clear hgb hhas hal x1 x4
    go_cut [33] from 20 (fun s33 wc => s33 = .bool (!gb) ∧ Below w3.heap.size w3 wc)
    case first =>
      go_region_with (first | (go_at_call 64; refine (HHAS.out _ (by first | exact below_drewN (Below.refl _ w3) 1 | exact Below.refl _ w3)).mono ?_; rintro e wq ⟨he, hwq⟩; rw [he, hwq]; clear he hwq wq) | fail)
      all_goals go_wp2_with fail
      all_goals go_meet
      all_goals first
        | exact ⟨rfl, HAL0.out _⟩
        | exact ⟨rfl, (below_drewN (Below.refl _ w3) 1).alloc (Nat.le_refl _) _⟩
    case rest =>
    obtain ⟨rfl, hal⟩ := hcut
    have HAL := hide hal
    clear hal
    have hb04 : Below w.heap.size w wc := HB03.out.trans (HAL.out.mono HB03.out.size)
    cases gb with
    | false =>
      go_wp2
      go_ret
      refine ⟨false, rfl, Or.inl ⟨rfl, hb04, Or.inr ⟨c, hcn, ?_⟩⟩⟩
      have := HGB.out
      cases hg : Z.got C (path n) t c with
      | none => rfl
      | some d0 => rw [hg] at this; cases this
    | true =>
      have hS : ∃ S d0, C (path n) t = some S ∧ S.g c = some d0 := by
        have := HGB.out
        unfold Z.got at this
        cases hC : C (path n) t with
        | none => rw [hC] at this; cases this
        | some S =>
          rw [hC] at this
          have h3 : true = (S.g c).isSome := this
          cases hg : S.g c with
          | none => rw [hg] at h3; cases h3
          | some d0 => exact ⟨S, d0, rfl, hg⟩
      obtain ⟨S, d0, hS, hd0⟩ := hS
      have hG : G (path n) = some x := by
        rcases HF.out.who with h | ⟨h, _⟩
        · exact h
        · have := (HZ.out.tree.cov _ _ _ hS).1; rw [h] at this; cases this
      have hT4 := HZ.out.tree.below_ hb04
      have hR4 := HR3.out.below HAL.out HR3.out.lt
      have e1 : wc.cell? ⟨w.heap.size, 1, none⟩ = some (.int .u16 (t : Int)) := hR4.cell 1
      have hnd2 := ndrop_any wc hT4 hG t ht c ca cc ((HCT.out.kb (KB.of_below (HB23.out.trans (HAL.out.mono HB23.out.size)))).1) (by have := HCL.out; omega) S hS
      obtain ⟨aa, ac, hZr, _, _⟩ := HZ.out.row
      have hZ4 := hZr.below hb04 hZr.lt
      have hs4 : SlS wc na n := (((HS.out.below HB2.out (Nat.le_refl _)).below HB23.out (Nat.le_refl _)).below HAL.out (Nat.le_refl _))
      have hrr : ρ w.heap.size = .none := Classical.byContradiction fun h => by have := (HZ.out.tree.kind _ h).lt; omega
      have hzlt := hZ4.lt
      have HHS := hide hS
      have HG := hide hG
      have HZ4 := hide hZ4
      have HR4 := hide hR4
      have HS4 := hide hs4
      have HT4 := hide hT4
      have HB04 := hide hb04
      clear hS hG hZ4 hR4 hs4 hT4 hb04 hZr hlk1 hlk2 x0 c0 c1 hzlt
      go_wp2_with (first
        | (go_at_call 68; refine hnd2.mono ?_; rintro e w5 ⟨rfl, last, hlast, hT5, hm5⟩; have hR5 : RowAt w5 w.heap.size 39 #[.slice na nl nc, .int .u16 (t : Int), .int .u16 (cl : Int), .int .u32 (ttl : Int), .slice da d.length dc] := (hm5.block _ HR4.out.lt hrr).trans HR4.out; have g0 : w5.cell? ⟨w.heap.size, 0, none⟩ = some (.slice na nl nc) := hR5.cell 0; have htr := trim_any w5 Zb _ _ ρ G _ K hT5 ((hm5.block _ HZ4.out.lt HZ.out.zr).trans HZ4.out) n na nl nc hl (hm5.slS HT4.out.kind HS4.out) hm)
        | (go_at_call 69; refine htr.mono ?_; rintro e w6 ⟨rfl, dp, hdp, hT6, hm6, hend⟩; have hZ6 : RowAt w6 Zb 83 #[.slice aa A.length ac, ptr (nodeN G []), .int .i64 (L.length : Int)] := (hm6.block _ (Nat.lt_of_lt_of_le HZ4.out.lt hm5.size) HZ.out.zr).trans ((hm5.block _ HZ4.out.lt HZ.out.zr).trans HZ4.out); have z2 : w6.cell? ⟨Zb, 2, none⟩ = some (.int .i64 (L.length : Int)) := hZ6.cell 2; have z3 : w6.frozen? ⟨Zb, 2, none⟩ = false := hZ6.frozen 2)
        | fail)
      go_ret
      have hx : ∃ x ∈ L, x.p = path n ∧ x.t = t ∧ x.c = c := by
        obtain ⟨x, h1, h2, h3, h4, _⟩ := HZ.out.of.back _ _ _ _ _ HHS.out hd0
        exact ⟨x, h1, h2, h3, h4⟩
      have hdl := Z.drop_len HZ.out.rise (path n) t c hx
      refine ⟨true, rfl, Or.inr ⟨rfl, c, hcn, HGB.out.symm, Z.cutG G (path n) dp, Z.cdel C (path n) t c last, ?_⟩⟩
      have hmv : ZMv ρ wc w6 := hm5.trans hm6 (fun _ _ h => h)
      have hofd : Z.Of (Z.drop L (path n) t c) (Z.cdel C (path n) t c last) := HZ.out.of.drop (path n) t c last (fun S' hS' => by
        obtain rfl : S = S' := Option.some.inj (HHS.out.symm.trans hS')
        exact hlast) (by rw [HHS.out]; rfl)
      have hless := ZAt.less (w7 := w6) (HZ.out.bel HB04.out) (path n) (fun x hx => (Z.mem_drop.1 hx).1) (fun x hx hne => Z.mem_drop.2 ⟨hx, fun h => hne h.1⟩) (Z.drop_rise HZ.out.rise (path n) t c) hofd (by omega) (by rw [path_len]; exact hdp) hT6 hmv hend (v := .int .i64 ((L.length : Int) - 1)) (by congr 1; omega) rfl
      exact ⟨hless.1, (ZM.of_below HB04.out).trans hless.2 (More.refl _ _)⟩
end Go.Proofs.YtdldaphkiphpnaaGreat
