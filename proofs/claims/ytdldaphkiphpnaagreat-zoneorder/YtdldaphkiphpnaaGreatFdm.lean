/- (*Zone).Put. Made by gpu.py. -/
import Derived.Test.YtdldaphkiphpnaaGreatZat
import Derived.Test.YtdldaphkiphpnaaGreatCnI
import Derived.BigQuiet
import Derived.Deep.QuietTactic
namespace Go.Proofs.YtdldaphkiphpnaaGreat
open Go.RowKit
set_option maxRecDepth 5000 in
theorem cn_len {t : Nat} {d c : List UInt8} (h : cn t d = some c) : c.length = d.length ∧ d.length ≤ 8192 ∧ cn t c = some c := by
  obtain ⟨h1, h2⟩ := D.full_iff.1 h
  obtain ⟨h3, h4⟩ := D.can_idem h2
  exact ⟨h4, h1, D.full_iff.2 ⟨by omega, h3⟩⟩
set_option maxRecDepth 5000 in
theorem Sane.small {n : List (List UInt8)} (h : N.Small n) : Sane n := fun l hl => by have := h.2 l hl; omega
set_option maxHeartbeats 1500000 in
set_option maxRecDepth 5000 in
theorem zput_name (w : World) (Zb : Nat) (A : List (List UInt8)) (L : List Z.R) (ρ : Nat → Role) (G : List (List UInt8) → Option Nd) (C : List (List UInt8) → Nat → Option Z.St) (K : Nat) (Zx : ZAt w Zb A L ρ G C K) (hA : Hid (N.Small A)) (n : List (List UInt8)) (na : Option Addr) (nl nc : Nat) (hl : Hid (n.length = nl)) (hnc : nl ≤ nc) (hs : SlS w na n) (hm : Hid (N.Small n)) (t : Nat) (cl ttl : Nat) (d : List UInt8) (da : Option Addr) (dc : Nat) (hsd : SlL w da d) (_hnd : da = none → dc = 0) (_hdc : d.length ≤ dc) (hbad : N.chk n ≠ 0 ∨ N.within n A = false) :
    Calls Tryz.prog 36 #[.pointer (some ⟨Zb, 0, none⟩), recV na nl nc t cl ttl da d.length dc] w fun e w' => e = .returned (.tuple #[.bool false, .int .i64 110]) ∧ Below w.heap.size w w' := by
  obtain ⟨ck, hck⟩ : ∃ ck, N.chk n = ck := ⟨_, rfl⟩
  have hchk : ∀ W, SlS W na n → Calls Tryz.prog 61 #[.slice na nl nc] W fun e w' => e = .returned (.int .i64 ck) ∧ w' = W := fun W hW => by rw [← hck]; exact check_any n na nl nc W hl hW hm
  obtain ⟨wi, hwi⟩ : ∃ wi, N.within n A = wi := ⟨_, rfl⟩
  have hwith : ∀ (W : World) (aa : Option Addr) (ac : Nat), SlS W na n → SlS W aa A → Calls Tryz.prog 62 #[.slice na nl nc, .slice aa A.length ac] W fun e w' => e = .returned (.bool wi) ∧ ∃ m, w' = W.drewN m := fun W aa ac h1 h2 => by
    rw [← hwi]
    exact within_any n A na aa nl A.length nc ac W hl rfl h1 h2 (by have := hm.out.1; have := hl.out; omega) (by have := hA.out.1; omega) hnc (Sane.small hm.out) (Sane.small hA.out)
  rw [hck, hwi] at hbad
  have hcq : ck = 30 ∨ ck = 31 ∨ ck = 0 := by rw [← hck]; unfold N.chk; split; exact Or.inl rfl; split; exact Or.inr (Or.inl rfl); exact Or.inr (Or.inr rfl)
  have HCK := hide hck
  have HWI := hide hwi
  clear hck hwi
  obtain ⟨aa, ac, hzr, hsA, hac⟩ := Zx.row
  have ha1 : A.length ≤ 1000000 := hA.out.1
  have hn1 : nl ≤ 1000000 := by rw [← hl.out]; exact hm.out.1
  obtain ⟨w1, hw1⟩ : ∃ w1, w1 = w.alloc (.cells #[.slice na nl nc, .int .u16 (t : Int), .int .u16 (cl : Int), .int .u32 (ttl : Int), .slice da d.length dc] 39) := ⟨_, rfl⟩
  have hb1 : Below w.heap.size w w1 := by rw [hw1]; exact (Below.refl _ w).alloc (Nat.le_refl _) _
  have hR1 : RowAt w1 w.heap.size 39 #[.slice na nl nc, .int .u16 (t : Int), .int .u16 (cl : Int), .int .u32 (ttl : Int), .slice da d.length dc] := by rw [hw1]; exact RowAt.new w _ _
  have hz1 : RowAt w1 Zb 83 #[.slice aa A.length ac, ptr (nodeN G []), .int .i64 (L.length : Int)] := hzr.below hb1 hzr.lt
  have x0 : w1.cell? ⟨w.heap.size, 0, none⟩ = some (.slice na nl nc) := hR1.cell 0
  have x1 : w1.cell? ⟨Zb, 0, none⟩ = some (.slice aa A.length ac) := hz1.cell 0
  have HZ := hide Zx
  have HW1 := hide hw1
  have HB1 := hide hb1
  have HR1 := hide hR1
  have HZ1 := hide hz1
  have HS := hide (hs.below hb1 (Nat.le_refl _))
  have HSA := hide (hsA.below hb1 (Nat.le_refl _))
  have HSD := hide (hsd.below hb1 (Nat.le_refl _))
  clear Zx hzr hw1 hb1 hR1 hz1 hs hsA hsd
  unfold recV
  go_enter Tryz.func36, Tryz.ntmps36
  go_wp2
  rw [← HW1.out]
  rcases hcq with hcq | hcq | hcq
  all_goals subst hcq
  · go_quiet (first
      | (go_at_call 61; exact Calls.quiet_of_same (hchk _ (by exact HS.out.below (below_drewN (Below.refl _ w1) _) (Nat.le_refl _))))
      | fail)
    go_wp2
    go_ret2
    exact ⟨rfl, (below_drewN HB1.out _)⟩
  · go_quiet (first
      | (go_at_call 61; exact Calls.quiet_of_same (hchk _ (by exact HS.out.below (below_drewN (Below.refl _ w1) _) (Nat.le_refl _))))
      | fail)
    go_wp2
    go_ret2
    exact ⟨rfl, (below_drewN HB1.out _)⟩
  · have hwf : wi = false := by rcases hbad with h | h; exact absurd rfl h; exact h
    subst hwf
    go_quiet (first
      | (go_at_call 61; exact Calls.quiet_of_same (hchk _ (by exact HS.out.below (below_drewN (Below.refl _ w1) _) (Nat.le_refl _))))
      | (go_at_call 62; exact Calls.quiet_of (hwith _ aa ac (by exact HS.out.below (below_drewN (Below.refl _ w1) _) (Nat.le_refl _)) (by exact HSA.out.below (below_drewN (Below.refl _ w1) _) (Nat.le_refl _))))
      | fail)
    go_wp2
    go_ret2
    exact ⟨rfl, (below_drewN HB1.out _)⟩
set_option maxHeartbeats 1500000 in
set_option maxRecDepth 5000 in
theorem zput_data (w : World) (Zb : Nat) (A : List (List UInt8)) (L : List Z.R) (ρ : Nat → Role) (G : List (List UInt8) → Option Nd) (C : List (List UInt8) → Nat → Option Z.St) (K : Nat) (Zx : ZAt w Zb A L ρ G C K) (hA : Hid (N.Small A)) (n : List (List UInt8)) (na : Option Addr) (nl nc : Nat) (hl : Hid (n.length = nl)) (hnc : nl ≤ nc) (hs : SlS w na n) (hm : Hid (N.Small n)) (t : Nat) (cl ttl : Nat) (d : List UInt8) (da : Option Addr) (dc : Nat) (hsd : SlL w da d) (hnd : da = none → dc = 0) (hdc : d.length ≤ dc) (hgood : N.chk n = 0) (hwin : N.within n A = true) (hbad : cl ≠ 1 ∨ cn t d = none) :
    Calls Tryz.prog 36 #[.pointer (some ⟨Zb, 0, none⟩), recV na nl nc t cl ttl da d.length dc] w fun e w' => e = .returned (.tuple #[.bool false, .int .i64 50]) ∧ Below w.heap.size w w' := by
  obtain ⟨ck, hck⟩ : ∃ ck, N.chk n = ck := ⟨_, rfl⟩
  have hchk : ∀ W, SlS W na n → Calls Tryz.prog 61 #[.slice na nl nc] W fun e w' => e = .returned (.int .i64 0) ∧ w' = W := fun W hW => by rw [← hgood]; exact check_any n na nl nc W hl hW hm
  have hwith : ∀ (W : World) (aa : Option Addr) (ac : Nat), SlS W na n → SlS W aa A → Calls Tryz.prog 62 #[.slice na nl nc, .slice aa A.length ac] W fun e w' => e = .returned (.bool true) ∧ ∃ m, w' = W.drewN m := fun W aa ac h1 h2 => by
    rw [← hwin]
    exact within_any n A na aa nl A.length nc ac W hl rfl h1 h2 (by have := hm.out.1; have := hl.out; omega) (by have := hA.out.1; omega) hnc (Sane.small hm.out) (Sane.small hA.out)
  clear hck ck
  obtain ⟨aa, ac, hzr, hsA, hac⟩ := Zx.row
  have ha1 : A.length ≤ 1000000 := hA.out.1
  have hn1 : nl ≤ 1000000 := by rw [← hl.out]; exact hm.out.1
  obtain ⟨w1, hw1⟩ : ∃ w1, w1 = w.alloc (.cells #[.slice na nl nc, .int .u16 (t : Int), .int .u16 (cl : Int), .int .u32 (ttl : Int), .slice da d.length dc] 39) := ⟨_, rfl⟩
  have hb1 : Below w.heap.size w w1 := by rw [hw1]; exact (Below.refl _ w).alloc (Nat.le_refl _) _
  have hR1 : RowAt w1 w.heap.size 39 #[.slice na nl nc, .int .u16 (t : Int), .int .u16 (cl : Int), .int .u32 (ttl : Int), .slice da d.length dc] := by rw [hw1]; exact RowAt.new w _ _
  have hz1 : RowAt w1 Zb 83 #[.slice aa A.length ac, ptr (nodeN G []), .int .i64 (L.length : Int)] := hzr.below hb1 hzr.lt
  have x0 : w1.cell? ⟨w.heap.size, 0, none⟩ = some (.slice na nl nc) := hR1.cell 0
  have x1 : w1.cell? ⟨Zb, 0, none⟩ = some (.slice aa A.length ac) := hz1.cell 0
  have HZ := hide Zx
  have HW1 := hide hw1
  have HB1 := hide hb1
  have HR1 := hide hR1
  have HZ1 := hide hz1
  have HS := hide (hs.below hb1 (Nat.le_refl _))
  have HSA := hide (hsA.below hb1 (Nat.le_refl _))
  have HSD := hide (hsd.below hb1 (Nat.le_refl _))
  clear Zx hzr hw1 hb1 hR1 hz1 hs hsA hsd
  unfold recV
  go_enter Tryz.func36, Tryz.ntmps36
  go_wp2
  rw [← HW1.out]
  go_quiet (first
    | (go_at_call 61; exact Calls.quiet_of_same (hchk _ (by exact HS.out.below (below_drewN (Below.refl _ w1) _) (Nat.le_refl _))))
    | (go_at_call 62; exact Calls.quiet_of (hwith _ aa ac (by exact HS.out.below (below_drewN (Below.refl _ w1) _) (Nat.le_refl _)) (by exact HSA.out.below (below_drewN (Below.refl _ w1) _) (Nat.le_refl _))))
    | fail)
  have hbq : Below w1.heap.size w1 (w1.drewN nq) := below_drewN (Below.refl _ w1) _
  have y1 : (w1.drewN nq).cell? ⟨w.heap.size, 1, none⟩ = some (.int .u16 (t : Int)) := HR1.out.cell 1
  have y4 : (w1.drewN nq).cell? ⟨w.heap.size, 4, none⟩ = some (.slice da d.length dc) := HR1.out.cell 4
  have HBQ := hide hbq
  have HSDq := hide (HSD.out.below hbq (Nat.le_refl _))
  clear hbq
  by_cases hcl : cl = 1
  · have hcn : cn t d = none := by rcases hbad with h | h; exact absurd hcl h; exact h
    subst hcl
    go_wp2_with (first
      | (go_at_call 63; refine (Canon_any t d da d.length dc _ rfl (by exact HSDq.out) hdc hnd).mono ?_; rintro e w2 ⟨⟨x, v, ho, rfl, hx⟩ | ⟨ho, rfl⟩, hb2⟩; (· exact absurd (ho.symm.trans hcn) (by simp)); have z2 : w2.cell? ⟨w.heap.size, 2, none⟩ = some (.int .u16 1) := (HR1.out.below (HBQ.out.trans (hb2.mono HBQ.out.size)) HR1.out.lt).cell 2))
    go_ret2
    exact ⟨rfl, HB1.out.trans ((HBQ.out.trans (hb2.mono HBQ.out.size)).mono HB1.out.size)⟩
  · have hcl2 : ((cl : Int) != 1) = true := by simp; omega
    go_wp2_with (first
      | (go_at_call 63; refine (Canon_any t d da d.length dc _ rfl (by exact HSDq.out) hdc hnd).mono ?_; rintro e w2 ⟨⟨x, v, ho, rfl, hx⟩ | ⟨ho, rfl⟩, hb2⟩; all_goals have z2 : w2.cell? ⟨w.heap.size, 2, none⟩ = some (.int .u16 (cl : Int)) := (HR1.out.below (HBQ.out.trans (hb2.mono HBQ.out.size)) HR1.out.lt).cell 2))
    all_goals
      go_ret2
      exact ⟨rfl, HB1.out.trans ((HBQ.out.trans (hb2.mono HBQ.out.size)).mono HB1.out.size)⟩
end Go.Proofs.YtdldaphkiphpnaaGreat

/- What a node's set is, once it was looked up: its map of data. -/
namespace Go.Proofs.YtdldaphkiphpnaaGreat
open Go.RowKit
set_option maxRecDepth 5000 in
theorem Found.dm {W w : World} {G : List (List UInt8) → Option Nd} {C : List (List UInt8) → Nat → Option Z.St} {K : Nat} {p : List (List UInt8)} {x : Nd} (h : Found W w G C K p x) (t T0 : Nat) (mo : Option Nat) (hm : ((C p t).map fun S => setV S (x.dm t)).getD (.agg #[.int .u32 0, .map none]) = .agg #[.int .u32 (T0 : Int), .map mo]) : DM w mo (Z.got C p t) K := by
  cases hC : C p t with
  | none =>
    rw [hC] at hm
    have e : mo = none := by
      have : Value.agg #[.int .u32 0, .map none] = .agg #[.int .u32 (T0 : Int), .map mo] := hm
      simp at this; exact this.2.symm
    subst e
    intro y; unfold Z.got; rw [hC]; rfl
  | some S =>
    rw [hC] at hm
    have e : mo = some (x.dm t) := by
      have : setV S (x.dm t) = .agg #[.int .u32 (T0 : Int), .map mo] := hm
      unfold setV at this
      simp at this; exact this.2.symm
    subst e
    obtain ⟨f, h1, h2⟩ := h.node.data t S hC
    exact ⟨f, h1, fun y => by unfold Z.got; rw [hC]; exact h2 y⟩
set_option maxRecDepth 5000 in
theorem slL_box {w : World} {sb : Nat} {T0 : Int} {mo : Option Nat} (hb : RowAt w sb 91 #[.int .u32 T0, .map mo]) (j : Nat) (v : Value) {ao : Option Addr} {l : List UInt8} (hs : SlL w ao l) : SlL (w.setCell ⟨sb, j, none⟩ v) ao l := fun hn => by
  obtain ⟨g, o, e, hlt, hc⟩ := hs hn
  have hg : g ≠ sb := fun e2 => by
    have := hc 0 hn
    rw [e2, hb.cell] at this
    match o with
    | 0 => simp at this
    | 1 => simp at this
    | o + 2 => simp at this
  refine ⟨g, o, e, by rw [World.size_setCell]; exact hlt, fun i hi => ?_⟩
  rw [← hc i hi]; exact World.cell?_of_block (heap_setCell_other _ _ _ _ hg)
set_option maxRecDepth 5000 in
theorem DM.box {w : World} {sb : Nat} {T0 : Int} {m1 mo : Option Nat} {g : List UInt8 → Option (List UInt8)} {K : Nat} (h : DM w mo g K) (hb : RowAt w sb 91 #[.int .u32 T0, .map m1]) (j : Nat) (v : Value) : DM (w.setCell ⟨sb, j, none⟩ v) mo g K := by
  cases mo with
  | none => exact h
  | some m =>
    obtain ⟨f, h1, h2⟩ := h
    refine ⟨f, h1.heap (heap_setCell_other _ _ _ _ (fun e => h1.row_ne hb e.symm)), fun y => (h2 y).keep fun ao l => slL_box hb j v⟩
/- the set that was looked up lies in a box of its own -/
structure PB (w2 : World) (T0 K : Nat) (g : List UInt8 → Option (List UInt8)) (sb : Nat) (mo : Option Nat) (wc : World) : Prop where
  bel : Below w2.heap.size w2 wc
  box : RowAt wc sb 91 #[.int .u32 (T0 : Int), .map mo]
  sz : w2.heap.size ≤ sb
  dm : DM wc mo g K
end Go.Proofs.YtdldaphkiphpnaaGreat
