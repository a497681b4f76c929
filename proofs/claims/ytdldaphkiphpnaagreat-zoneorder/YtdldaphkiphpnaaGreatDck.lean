/- rdata.Canon, rdata.Check of any type and data (texts of stage 5, at this seat). -/
import Derived.Test.YtdldaphkiphpnaaGreatCan
/- stage5/WhlB -/
/- rdata.whole at []byte; Canon, Check. -/
namespace Go.Proofs.YtdldaphkiphpnaaGreat
open Go.RowKit
namespace D
/- all of b, at most 8192 bytes -/
def full {α : Type} (l : List UInt8) (o : Option (α × List UInt8)) : Option α := if 8192 < l.length then none else o.bind fun p => if p.2 = [] then some p.1 else none
set_option maxRecDepth 5000 in
theorem full_long {α : Type} {l : List UInt8} {o : Option (α × List UInt8)} (h : 8192 < l.length) : full l o = none := by unfold full; rw [if_pos h]
set_option maxRecDepth 5000 in
theorem full_none {α : Type} {l : List UInt8} {o : Option (α × List UInt8)} (h : o = none) : full l o = none := by unfold full; split; rfl; rw [h]; rfl
set_option maxRecDepth 5000 in
theorem full_some {α : Type} {l : List UInt8} {o : Option (α × List UInt8)} {x : α} (hl : l.length ≤ 8192) (h : o = some (x, [])) : full l o = some x := by unfold full; rw [if_neg (by omega), h]; rfl
set_option maxRecDepth 5000 in
theorem full_more {α : Type} {l r : List UInt8} {o : Option (α × List UInt8)} {x : α} (h : o = some (x, r)) (hr : r ≠ []) : full l o = none := by
  unfold full
  split
  · rfl
  · rw [h]; simp [hr]
set_option maxRecDepth 5000 in
theorem full_iff {α : Type} {l : List UInt8} {o : Option (α × List UInt8)} {x : α} : full l o = some x ↔ l.length ≤ 8192 ∧ o = some (x, []) := by
  constructor
  · intro h
    unfold full at h
    split at h
    · cases h
    · rw [Option.bind_eq_some_iff] at h
      obtain ⟨⟨y, r⟩, h1, h2⟩ := h
      simp only at h2
      split at h2
      · cases h2; rename_i h3; rw [h1, h3]; exact ⟨by omega, rfl⟩
      · cases h2
  · rintro ⟨h1, h2⟩; exact full_some h1 h2
end D
/- what a reading of all data answers -/
def Ans {α : Type} (o : Option α) (R : Nat → α → Value → World → Prop) (z : Value) (w : World) (e : Ending) (w' : World) : Prop :=
  ((∃ x v, o = some x ∧ e = .returned (.tuple #[v, .int .i64 0]) ∧ R w.heap.size x v w') ∨ (o = none ∧ e = .returned (.tuple #[z, .int .i64 50]))) ∧ Below w.heap.size w w'
def BytesV (base : Nat) (x : List UInt8) (v : Value) (w : World) : Prop := OwnB w base v x
def NameV (base : Nat) (x : List (List UInt8)) (v : Value) (w : World) : Prop := OwnS w base v x
set_option maxRecDepth 5000 in
theorem rdr_new {w W : World} {b : List UInt8} {ao : Option Addr} {c : Nat} (T : Nat) (hs : SlL w ao b) (hb : Below w.heap.size w W) (hT : RowAt W T 168 #[.slice ao b.length c]) (hw : w.heap.size ≤ T) (hc : b.length ≤ c) (hn : ao = none → c = 0) (hl : b.length ≤ 8192) : Rdr w.heap.size T b W :=
  ⟨ao, c, hT, SlB.below (SlL.slB hs) hb, hc, hn, hw, hl, hb.size⟩
set_option maxRecDepth 5000 in
theorem canon1_any (B T t p : Nat) (l : List UInt8) (w : World) (hR : Rdr B T l w) (hp : w.cell? ⟨p, 0, none⟩ = some (.int .u16 (t : Int))) :
    Calls Tryz.prog 89 #[.pointer (some ⟨T, 0, none⟩), .pointer (some ⟨p, 0, none⟩)] w fun e w' => Got B T (D.can t l) (fun x v w' => OwnB w' w.heap.size v x) w e w' := by
  go_enter Tryz.func89, Tryz.ntmps89
  go_wp2_with fail
  refine (takeCanon_any B T t l _ hR).mono ?_
  rintro e w1 ⟨⟨x, r, v, ho, rfl, hx, hr⟩ | ⟨ho, rfl⟩, hm⟩
  · go_wp2
    go_ret
    exact ⟨Or.inl ⟨x, r, v, ho, rfl, hx, hr⟩, hm⟩
  · unfold fell50
    go_wp2
    exact ⟨rfl, Or.inr ⟨ho, rfl⟩, hm⟩
set_option maxRecDepth 5000 in
theorem wB1_fell (A : Nat) (ve : Value) (u : TypeId) (pv : Value) (w : World) (hq : w.cell? ⟨A, 0, none⟩ = some ve) (fq : w.frozen? ⟨A, 0, none⟩ = false) :
    CallsD Tryz.prog 112 #[.pointer (some ⟨A, 0, none⟩)] (.panicking [{ v := .iface u pv, recovered := false }]) w fun e u' w' =>
      e = .returned (.tuple #[]) ∧ u' = .panicking [{ v := .iface u pv, recovered := true }] ∧ w' = w.setCell ⟨A, 0, none⟩ (.int .i64 50) := by
  refine callsD_of_wpS Tryz.func112 rfl fun c₀ cs hu => ?_
  apply wpS_seq
  apply wpS_region
  simp [wpOpsS, go_sem, recoverD, hu, Tryz.ntmps112, Exit.thenS]
  refine wpS_cond (t := true) (by simp [Act.eval, Array.replicate]) ?_
  simp only [if_true]
  apply wpS_region
  simp [wpOpsS, go_sem, hq, fq, bodyPostS, results, Tryz.results112]
set_option maxRecDepth 5000 in
theorem wB1_idle (A : Nat) (w : World) :
    CallsD Tryz.prog 112 #[.pointer (some ⟨A, 0, none⟩)] .returning w fun e u' w' => e = .returned (.tuple #[]) ∧ u' = .returning ∧ w' = w := by
  refine callsD_of_wpS Tryz.func112 rfl fun c₀ cs hu => ?_
  apply wpS_seq
  apply wpS_region
  simp [wpOpsS, go_sem, recoverD, hu, Tryz.ntmps112, Exit.thenS]
  refine wpS_cond (t := false) (by simp [Act.eval, Array.replicate]) ?_
  simp only [Bool.false_eq_true, if_false]
  refine wpS_of_wp (wp_skip ?_)
  cases c₀
  simp_all [bodyPostS, results, Tryz.results112]
set_option maxHeartbeats 800000 in
set_option maxRecDepth 5000 in
theorem wB_any (t p : Nat) (b : List UInt8) (ao : Option Addr) (len cap : Nat) (w : World) (hl : Hid (b.length = len)) (hs : SlL w ao b) (hc : len ≤ cap) (hnil : ao = none → cap = 0) (hp : w.cell? ⟨p, 0, none⟩ = some (.int .u16 (t : Int))) (hpl : p < w.heap.size) :
    Calls Tryz.prog 88 #[.slice ao len cap, .func (.func 89) #[] #[.pointer (some ⟨p, 0, none⟩)]] w fun e w' => Ans (D.full b (D.can t b)) BytesV (.slice none 0 0) w e w' := by
  have hmf : ∀ (fn : Fn) (first cap : Array Value) (w : World), (Instr.makeFunc fn first cap).run Tryz.prog w = .ok (.func fn first cap) w := fun _ _ _ _ => rfl
  have HS := hide hs
  have NI := hide hnil
  clear hs hnil
  have b0 := (Below.refl w.heap.size w).alloc (Nat.le_refl _) (.cells #[.int .i64 0] 68)
  have r0 := RowAt.new w 68 #[.int .i64 0]
  have B0 := hide b0
  have R0 := hide r0
  clear b0 r0
  rcases Nat.lt_or_ge 8192 len with hlt | hge
  · have hlt' : (8192 : Int) < (len : Int) := by omega
    have HF : Hid (D.full b (D.can t b) = none) := D.full_long (by rw [hl.out]; exact hlt)
    have k0 : (w.alloc (.cells #[.int .i64 0] 68)).cell? ⟨w.heap.size, 0, none⟩ = some (.int .i64 0) := R0.out.cell 0
    go_enter_defers Tryz.func88, Tryz.ntmps88
    go_wp2
    refine leaves_cons (f := 112) (args := #[.pointer (some ⟨w.heap.size, 0, none⟩)]) (by simp) (by simp [go_sem]) ?_
    refine (wB1_fell w.heap.size _ 68 _ _ (R0.out.cell 0) (R0.out.frozen 0)).mono ?_
    rintro e u' w'' ⟨rfl, rfl, hw⟩
    have q0 : w''.cell? ⟨w.heap.size, 0, none⟩ = some (.int .i64 50) := by rw [hw]; exact (R0.out.set 0 _).cell 0
    have hb : Below w.heap.size w w'' := by rw [hw]; exact (B0.out).setCell (Nat.le_refl _) _
    simp [Leaves, settle, results, Tryz.results88, go_sem, q0]
    exact ⟨Or.inr ⟨HF.out, rfl⟩, hb⟩
  · have hge' : ¬ (8192 : Int) < (len : Int) := by omega
    have R1 := hide (R0.out.alloc (.cells #[.slice ao len cap] 168))
    have b1 := B0.out.alloc (by simp) (.cells #[.slice ao len cap] 168)
    have hT := RowAt.new (w.alloc (.cells #[.int .i64 0] 68)) 168 #[.slice ao len cap]
    rw [World.size_alloc] at hT
    have D1 : Hid (Rdr w.heap.size (w.heap.size + 1) b ((w.alloc (.cells #[.int .i64 0] 68)).alloc (.cells #[.slice ao len cap] 168))) := by
      have hT' := hT
      rw [← hl.out] at hT' b1 ⊢
      exact rdr_new (w.heap.size + 1) HS.out b1 hT' (by omega) (by rw [hl.out]; exact hc) NI.out (by rw [hl.out]; exact hge)
    have B1 := hide b1
    clear hT b1 R0 B0 HS NI
    go_enter_defers Tryz.func88, Tryz.ntmps88
    go_wp2_with fail
    refine (canon1_any w.heap.size (w.heap.size + 1) t p b _ (by exact D1.out) (by exact (B1.out.cell (p := ⟨p, 0, none⟩) hpl).trans hp)).mono ?_
    rintro e w1 ⟨⟨x, r, v, ho, rfl, hx, hr⟩ | ⟨ho, rfl⟩, hm⟩
    rotate_left
    · have R2 := hide (row_mv R1.out (by omega) hm)
      have B2 := hide (B1.out.trans (hm.below (by omega) (by simp; omega)))
      have HF : Hid (D.full b (D.can t b) = none) := D.full_none ho
      have k2 : w1.cell? ⟨w.heap.size, 0, none⟩ = some (.int .i64 0) := R2.out.cell 0
      clear ho hm B1 R1 D1
      unfold fell50
      go_wp2
      refine leaves_cons (f := 112) (args := #[.pointer (some ⟨w.heap.size, 0, none⟩)]) (by simp) (by simp [go_sem]) ?_
      refine (wB1_fell w.heap.size _ 68 _ _ (R2.out.cell 0) (R2.out.frozen 0)).mono ?_
      rintro e u' w'' ⟨rfl, rfl, hw⟩
      have q0 : w''.cell? ⟨w.heap.size, 0, none⟩ = some (.int .i64 50) := by rw [hw]; exact (R2.out.set 0 _).cell 0
      have hb : Below w.heap.size w w'' := by rw [hw]; exact (B2.out).setCell (Nat.le_refl _) _
      simp [Leaves, settle, results, Tryz.results88, go_sem, q0]
      exact ⟨Or.inr ⟨HF.out, rfl⟩, hb⟩
    have R2 := hide (row_mv R1.out (by omega) hm)
    have B2 := hide (B1.out.trans (hm.below (by omega) (by simp; omega)))
    have k2 : w1.cell? ⟨w.heap.size, 0, none⟩ = some (.int .i64 0) := R2.out.cell 0
    have f2 := R2.out.frozen 0
    have X := hide (OwnB.lower hx (show w.heap.size ≤ _ by simp; omega))
    have HO := hide ho
    clear ho hm hx B1 R1 D1
    go_wp2_with fail
    refine (rdone_any w.heap.size (w.heap.size + 1) r _ hr).mono ?_
    rintro e w2 ⟨rfl, rfl⟩
    by_cases hr0 : r = []
    · subst hr0
      have HF : Hid (D.full b (D.can t b) = some x) := D.full_some (by rw [hl.out]; exact hge) HO.out
      go_wp2
      refine leaves_cons (f := 112) (args := #[.pointer (some ⟨w.heap.size, 0, none⟩)]) (by simp) (by simp [go_sem]) ?_
      refine (wB1_idle w.heap.size _).mono ?_
      rintro e u' w'' ⟨rfl, rfl, hw⟩
      have q0 : w''.cell? ⟨w.heap.size, 0, none⟩ = some (.int .i64 0) := by rw [hw]; exact (R2.out.set 0 _).cell 0
      have hb : Below w.heap.size w w'' := by rw [hw]; exact B2.out.setCell (Nat.le_refl _) _
      have hX : BytesV w.heap.size x v w'' := by rw [hw]; exact own_set X.out R2.out (by decide) _ _
      simp [Leaves, settle, results, Tryz.results88, go_sem, q0]
      exact ⟨Or.inl ⟨x, _, HF.out, rfl, hX⟩, hb⟩
    · have hd : decide (r = []) = false := decide_eq_false hr0
      have HF : Hid (D.full b (D.can t b) = none) := D.full_more HO.out hr0
      rw [hd]
      go_wp2
      refine leaves_cons (f := 112) (args := #[.pointer (some ⟨w.heap.size, 0, none⟩)]) (by simp) (by simp [go_sem]) ?_
      refine (wB1_fell w.heap.size _ 68 _ _ (R2.out.cell 0) (R2.out.frozen 0)).mono ?_
      rintro e u' w'' ⟨rfl, rfl, hw⟩
      have q0 : w''.cell? ⟨w.heap.size, 0, none⟩ = some (.int .i64 50) := by rw [hw]; exact (R2.out.set 0 _).cell 0
      have hb : Below w.heap.size w w'' := by rw [hw]; exact (B2.out).setCell (Nat.le_refl _) _
      simp [Leaves, settle, results, Tryz.results88, go_sem, q0]
      exact ⟨Or.inr ⟨HF.out, rfl⟩, hb⟩
end Go.Proofs.YtdldaphkiphpnaaGreat

/- stage5/WhlN -/
/- rdata.whole at api.Name; Target. -/
namespace Go.Proofs.YtdldaphkiphpnaaGreat
open Go.RowKit
set_option maxRecDepth 5000 in
theorem Canon_any (t : Nat) (b : List UInt8) (ao : Option Addr) (len cap : Nat) (w : World) (hl : Hid (b.length = len)) (hs : SlL w ao b) (hc : len ≤ cap) (hnil : ao = none → cap = 0) :
    Calls Tryz.prog 63 #[.int .u16 (t : Int), .slice ao len cap] w fun e w' => Ans (D.full b (D.can t b)) BytesV (.slice none 0 0) w e w' := by
  have hmf : ∀ (fn : Fn) (first cap : Array Value) (w : World), (Instr.makeFunc fn first cap).run Tryz.prog w = .ok (.func fn first cap) w := fun _ _ _ _ => rfl
  have HS := hide hs
  have NI := hide hnil
  have b0 := (Below.refl w.heap.size w).alloc (Nat.le_refl _) (.cells #[.int .u16 (t : Int)] 36)
  have R0 := hide (RowAt.new w 36 #[.int .u16 (t : Int)])
  have B0 := hide b0
  clear hs hnil b0
  go_enter Tryz.func63, Tryz.ntmps63
  go_wp2_with fail
  refine (wB_any t w.heap.size b ao len cap _ hl (by exact HS.out.alloc _) hc NI.out (by exact R0.out.cell 0) (by simp)).mono ?_
  rintro e w1 ⟨⟨x, v, ho, rfl, hx⟩ | ⟨ho, rfl⟩, hb⟩
  · have hb1 := B0.out.trans (hb.mono (by simp))
    have HO := hide ho
    clear ho
    go_wp2
    go_ret2
    exact ⟨Or.inl ⟨x, v, HO.out, rfl, OwnB.lower hx (by simp)⟩, hb1⟩
  · have hb1 := B0.out.trans (hb.mono (by simp))
    have HO := hide ho
    clear ho
    go_wp2
    go_ret2
    exact ⟨Or.inr ⟨HO.out, rfl⟩, hb1⟩
/- Check: 0 or 50 -/
def codeOf {α : Type} (o : Option α) : Int := if o.isSome then 0 else 50
end Go.Proofs.YtdldaphkiphpnaaGreat

