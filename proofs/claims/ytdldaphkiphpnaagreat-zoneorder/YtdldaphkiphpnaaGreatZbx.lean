/- signethelp.Place. -/
import Derived.Test.YtdldaphkiphpnaaGreatNmC
import Derived.Test.YtdldaphkiphpnaaGreatRda
import Derived.Test.YtdldaphkiphpnaaGreatZtw
import Derived.Deep.RegionHeld3
import Derived.Deep.Cut
namespace Go.Proofs.YtdldaphkiphpnaaGreat
open Go.RowKit
set_option maxRecDepth 5000 in
theorem place_any (k : Int) (n : Nat) (w : World) (h0 : 0 < n) (hn : n < 1000000) : Calls Tryz.prog 37 #[.int .i64 k, .int .i64 (n : Int)] w fun e w' => ∃ r : Nat, r < n ∧ e = .returned (.int .i64 (r : Int)) ∧ w' = w := by
  have e1 : Int.tmod k (n : Int) < (n : Int) := Int.tmod_lt_of_pos k (by omega)
  have e2 : -(n : Int) < Int.tmod k (n : Int) := by
    have h3 := Int.natAbs_tmod k (n : Int)
    have h4 : k.natAbs % (n : Int).natAbs < n := by rw [Int.natAbs_natCast]; exact Nat.mod_lt _ h0
    omega
  have hnz : ¬ ((n : Int) = 0) := by omega
  have hn1 : ¬ ((n : Int) = -1) := by omega
  obtain ⟨t, ht⟩ : ∃ t, Int.tmod k (n : Int) = t := ⟨_, rfl⟩
  rw [ht] at e1 e2
  have hw : IntKind.i64.wrap t = t := by rw [IntKind.wrap_i64]; omega
  by_cases h1 : t < 0
  · have q : decide (t < 0) = true := by simpa using h1
    obtain ⟨r, hr⟩ : ∃ r : Nat, t + (n : Int) = (r : Int) := ⟨(t + n).toNat, by omega⟩
    have hr2 : r < n := by omega
    have hw2 : IntKind.i64.wrap (t + (n : Int)) = (r : Int) := by rw [IntKind.wrap_i64]; omega
    clear hr
    go_enter Tryz.func37, Tryz.ntmps37
    go_wp2
    go_ret
    exact ⟨r, hr2, rfl, rfl⟩
  · have q : decide (t < 0) = false := by simpa using h1
    obtain ⟨r, rfl⟩ : ∃ r : Nat, t = (r : Int) := ⟨t.toNat, by omega⟩
    go_enter Tryz.func37, Tryz.ntmps37
    go_wp2
    go_ret
    exact ⟨r, by omega, rfl, rfl⟩
end Go.Proofs.YtdldaphkiphpnaaGreat

/- Two zones in one memory. -/
namespace Go.Proofs.YtdldaphkiphpnaaGreat
open Go.RowKit
set_option maxRecDepth 5000 in
theorem ZKp.weak {X X' : Nat → Prop} {w w' : World} (h : ZKp X w w') (hx : ∀ i, X' i → X i) : ZKp X' w w' := ⟨h.os, h.tape, h.output, h.size, fun i hi => h.keep i (hx i hi), h.rows, h.sl, h.ss⟩
def ZPair (B : Nat) (w : World) (Y V : Nat) (A : List (List UInt8)) (LY LV : List Z.R) (K : Nat) : Prop :=
  ∃ ρ G C, ZAt w V A LV ρ G C K ∧ Z.Thin LV ∧ B ≤ w.heap.size ∧ (∀ i, i < B → i ≠ V ∧ ρ i = .none) ∧ ZLive (fun i => i < B ∨ i = V ∨ ρ i ≠ .none) w Y A LY K
set_option maxRecDepth 5000 in
theorem ZPair.flip {B : Nat} {w : World} {Y V : Nat} {A : List (List UInt8)} {LY LV : List Z.R} {K : Nat} (h : ZPair B w Y V A LY LV K) : ZPair B w V Y A LV LY K := by
  obtain ⟨ρ2, G2, C2, h2, th2, hB, hi2, ρ1, G1, C1, h1, hX, th1⟩ := h
  refine ⟨ρ1, G1, C1, h1, th1, hB, fun i hi => ⟨(hX i (Or.inl hi)).2.1, (hX i (Or.inl hi)).2.2⟩, ρ2, G2, C2, h2, fun i hi => ?_, th2⟩
  rcases hi with hi | rfl | hi
  · exact ⟨by omega, (hi2 i hi).1, (hi2 i hi).2⟩
  · exact ⟨h1.lt, fun e => (hX V (Or.inr (Or.inl rfl))).2.1 e.symm, Classical.byContradiction fun h => (hX i (Or.inr (Or.inr h))).2.1 rfl⟩
  · exact ⟨(h1.tree.kind i hi).lt, fun e => hi (by rw [e]; exact (hX V (Or.inr (Or.inl rfl))).2.2), Classical.byContradiction fun h => hi (hX i (Or.inr (Or.inr h))).2.2⟩
set_option maxRecDepth 5000 in
theorem ZPair.bel {B : Nat} {w w' : World} {Y V : Nat} {A : List (List UInt8)} {LY LV : List Z.R} {K : Nat} (h : ZPair B w Y V A LY LV K) (hb : Below w.heap.size w w') : ZPair B w' Y V A LY LV K := by
  obtain ⟨ρ2, G2, C2, h2, th2, hB, hi2, hy⟩ := h
  exact ⟨ρ2, G2, C2, h2.bel hb, th2, Nat.le_trans hB hb.size, hi2, hy.bel hb⟩
set_option maxRecDepth 5000 in
theorem ZPair.y {B : Nat} {w : World} {Y V : Nat} {A : List (List UInt8)} {LY LV : List Z.R} {K : Nat} (h : ZPair B w Y V A LY LV K) : ZLive (fun i => i < B) w Y A LY K := by
  obtain ⟨ρ2, G2, C2, h2, th2, hB, hi2, ρ1, G1, C1, h1, hX, th1⟩ := h
  exact ⟨ρ1, G1, C1, h1, fun i hi => hX i (Or.inl hi), th1⟩
set_option maxRecDepth 5000 in
theorem ZPair.mk' {B : Nat} {w : World} {V : Nat} {A : List (List UInt8)} {K : Nat} (h : ZLive (fun i => i < B) w V A [] K) (hB : B ≤ w.heap.size) : ∃ X : Nat → Prop, (∀ i, X i → i < w.heap.size) ∧ ∀ (u : World) (Q : Nat), Below w.heap.size w u → ZLive X u Q A [] K → ZPair B u Q V A [] [] K := by
  obtain ⟨ρ2, G2, C2, h2, hX, th2⟩ := h
  refine ⟨fun i => i < B ∨ i = V ∨ ρ2 i ≠ .none, fun i hi => ?_, fun w' Y hb hy => ⟨ρ2, G2, C2, h2.bel hb, th2, Nat.le_trans hB hb.size, fun i hi => (hX i hi).2, hy⟩⟩
  rcases hi with hi | rfl | hi
  · omega
  · exact h2.lt
  · exact (h2.tree.kind i hi).lt
set_option maxRecDepth 5000 in
theorem ZPair.rec {B : Nat} {w : World} {Y V : Nat} {A : List (List UInt8)} {LY LV : List Z.R} {K : Nat} (h : ZPair B w Y V A LY LV K) {g : Nat} {na da : Option Addr} {nl nc dl dc : Nat} {a b c : Int} (hr : RowAt w g 39 #[.slice na nl nc, .int .u16 a, .int .u16 b, .int .u32 c, .slice da dl dc]) (j : Nat) (v : Value) : ZPair B (w.setCell ⟨g, j, none⟩ v) Y V A LY LV K := by
  obtain ⟨ρ2, G2, C2, h2, th2, hB, hi2, hy⟩ := h
  obtain ⟨ao, cap, hz, _, _⟩ := h2.row
  have hr' : w.heap[g]? = some (Obj.cells #[.slice na nl nc, .int .u16 a, .int .u16 b, .int .u32 c, .slice da dl dc] 39) := hr
  have hgz : V ≠ g := fun e => by
    have hz' : w.heap[V]? = some (Obj.cells #[.slice ao A.length cap, ptr (nodeN G2 []), .int .i64 (LV.length : Int)] 83) := hz
    rw [e, hr'] at hz'; injection hz' with hz'; injection hz' with _ hz' _
    exact absurd hz' (by decide)
  refine ⟨ρ2, G2, C2, h2.keep (heap_setCell_other _ _ _ _ hgz) (fun i hi => heap_setCell_other _ _ _ _ (fun e => ?_)) (fun _ _ hs => slL_rec hr j v hs) (fun _ _ hs => slS_rec hr j v hs), th2, by rw [World.size_setCell]; exact hB, hi2, hy.rec hr j v⟩
  rcases h2.kind i hi with ⟨es, k, hb⟩ | ⟨x, y, hb⟩
  · rw [e, hr'] at hb; cases hb
  · rw [e, hr'] at hb; injection hb with hb; injection hb with _ hb _; exact absurd hb (by decide)
set_option maxRecDepth 5000 in
theorem zput_pair {B : Nat} {w : World} {Y V : Nat} {A : List (List UInt8)} {LY LV : List Z.R} {K : Nat} (h : ZPair B w Y V A LY LV K) (hA : Hid (N.Small A)) (n : List (List UInt8)) (na : Option Addr) (nl nc : Nat) (hl : Hid (n.length = nl)) (hnc : nl ≤ nc) (hs : SlS w na n) (hm : Hid (N.Small n)) (t cl ttl : Nat) (d : List UInt8) (da : Option Addr) (dl dc : Nat) (hdl : Hid (d.length = dl)) (hsd : SlL w da d) (hnd : da = none → dc = 0) (hdc : dl ≤ dc) (ht : t < 65536) (httl : ttl < 4294967296) (hK : K + nl + 2 ≤ 1000000) :
    Calls Tryz.prog 36 #[.pointer (some ⟨Y, 0, none⟩), recV na nl nc t cl ttl da dl dc] w fun e w' => e = .returned (.tuple #[.bool (Z.putR A LY n t cl ttl d).1, .int .i64 ((Z.putR A LY n t cl ttl d).2.1 : Int)]) ∧ ZPair B w' Y V A (Z.putR A LY n t cl ttl d).2.2 LV (K + nl + 1) ∧ ZKp (fun i => i < B) w w' := by
  obtain ⟨ρ2, G2, C2, h2, th2, hB, hi2, hy⟩ := h
  refine (zput_live hy hA n na nl nc hl hnc hs hm t cl ttl d da dl dc hdl hsd hnd hdc ht httl hK).mono ?_
  rintro e w' ⟨he, hz, hk⟩
  refine ⟨he, ⟨ρ2, G2, C2, ?_, th2, Nat.le_trans hB hk.size, hi2, hz⟩, hk.weak fun i hi => Or.inl hi⟩
  exact (h2.keep (hk.keep V (Or.inr (Or.inl rfl)) h2.lt) (fun i hi => hk.keep i (Or.inr (Or.inr hi)) (h2.tree.kind i hi).lt) hk.sl hk.ss).mono (by omega)
end Go.Proofs.YtdldaphkiphpnaaGreat

/- ZoneOrder: two boxes with two records. -/
namespace Go.Proofs.YtdldaphkiphpnaaGreat
open Go.RowKit
/- a slice of numbers that came in -/
def SlU (w : World) (ao : Option Addr) (l : List Nat) : Prop := 0 < l.length → ∃ b o, ao = some ⟨b, o, none⟩ ∧ b < w.heap.size ∧ ∀ j, j < l.length → w.cell? ⟨b, o + j, none⟩ = some (.int .u32 ((l.getD j 0 : Nat) : Int))
set_option maxRecDepth 5000 in
theorem SlU.below {B : Nat} {w w' : World} {ao : Option Addr} {l : List Nat} (h : SlU w ao l) (hb : Below B w w') (hB : w.heap.size ≤ B) : SlU w' ao l := fun hn => by
  obtain ⟨b, o, e, hlt, hc⟩ := h hn
  refine ⟨b, o, e, Nat.lt_of_lt_of_le hlt hb.size, fun j hj => ?_⟩
  rw [← hc j hj]
  exact World.cell?_of_block (hb.block b (by omega))
set_option maxRecDepth 5000 in
theorem cell_al {W : World} {p : Addr} {v : Value} {o : Obj} (h : W.cell? p = some v) (hp : p.block < W.heap.size) : (W.alloc o).cell? p = some v := by
  rw [← h]; exact World.cell?_of_block (heap_alloc_old W _ hp)
set_option maxRecDepth 5000 in
theorem cell_al2 {W : World} {p : Addr} {v : Value} {o o' : Obj} (h : W.cell? p = some v) (hp : p.block < W.heap.size) : ((W.alloc o).alloc o').cell? p = some v := cell_al (cell_al h hp) (by rw [World.size_alloc]; omega)
set_option maxRecDepth 5000 in
theorem cell_bl {W W' : World} {p : Addr} {v : Value} (hb : Below W.heap.size W W') (h : W.cell? p = some v) (hp : p.block < W.heap.size) : W'.cell? p = some v := by
  rw [← h]; exact World.cell?_of_block (hb.block _ hp)
set_option maxRecDepth 5000 in
theorem cell_row {W : World} {p : Addr} {v : Value} {g : Nat} (h : W.cell? p = some v) (hne : g ≠ p.block) (v0 v1 v2 v3 v4 : Value) : (((((W.setCell ⟨g, 0, none⟩ v0).setCell ⟨g, 1, none⟩ v1).setCell ⟨g, 2, none⟩ v2).setCell ⟨g, 3, none⟩ v3).setCell ⟨g, 4, none⟩ v4).cell? p = some v := by
  rw [← h]
  refine World.cell?_of_block ?_
  rw [heap_setCell_other _ _ _ _ (fun e => hne e.symm), heap_setCell_other _ _ _ _ (fun e => hne e.symm), heap_setCell_other _ _ _ _ (fun e => hne e.symm), heap_setCell_other _ _ _ _ (fun e => hne e.symm), heap_setCell_other _ _ _ _ (fun e => hne e.symm)]
set_option maxRecDepth 5000 in
theorem bel1 (w : World) (o : Obj) : Below w.heap.size w (w.alloc o) := (Below.refl _ w).alloc (Nat.le_refl _) o
set_option maxRecDepth 5000 in
theorem bel2 (w : World) (o o' : Obj) : Below w.heap.size w ((w.alloc o).alloc o') := (bel1 w o).alloc (by rw [World.size_alloc]; omega) o'
/- the round's numbers, and boxes of noughts, behind a world -/
def Bx (b x y K1 K2 : Nat) (gs : List Nat) (W0 W : World) : Prop :=
  (W.cell? ⟨b, x, none⟩ = some (.int .u32 (K1 : Int)) ∧ W.cell? ⟨b, y, none⟩ = some (.int .u32 (K2 : Int))) ∧ b < W0.heap.size ∧ Below W0.heap.size W0 W ∧ (∀ g ∈ gs, RowAt W g 39 #[.slice none 0 0, .int .u16 0, .int .u16 0, .int .u32 0, .slice none 0 0] ∧ W0.heap.size ≤ g) ∧ gs.Nodup
set_option maxRecDepth 5000 in
theorem Bx.s {b x y K1 K2 : Nat} {gs : List Nat} {W0 W : World} (h : Bx b x y K1 K2 gs W0 W) : W.cell? ⟨b, x, none⟩ = some (.int .u32 (K1 : Int)) ∧ W.cell? ⟨b, y, none⟩ = some (.int .u32 (K2 : Int)) := h.1
set_option maxRecDepth 5000 in
theorem Bx.call {b x y K1 K2 : Nat} {gs : List Nat} {W0 W W' : World} (hb : Below W.heap.size W W') (h : Bx b x y K1 K2 gs W0 W) : Bx b x y K1 K2 gs W0 W' := by
  obtain ⟨⟨c1, c2⟩, hlt, hB, hr, hn⟩ := h
  have hlt' : b < W.heap.size := Nat.lt_of_lt_of_le hlt hB.size
  exact ⟨⟨cell_bl hb c1 hlt', cell_bl hb c2 hlt'⟩, hlt, hB.trans (hb.mono hB.size), fun g hg => ⟨(hr g hg).1.below hb (hr g hg).1.lt, (hr g hg).2⟩, hn⟩
set_option maxRecDepth 5000 in
theorem Bx.t1 {b x y K1 K2 : Nat} {gs : List Nat} {W0 W : World} (h : Bx b x y K1 K2 gs W0 W) : Bx b x y K1 K2 (W.heap.size :: gs) W0 (W.alloc (.cells #[.slice none 0 0, .int .u16 0, .int .u16 0, .int .u32 0, .slice none 0 0] 39)) := by
  obtain ⟨h1, h2, h3, h4, h5⟩ := h.call (bel1 W (.cells #[.slice none 0 0, .int .u16 0, .int .u16 0, .int .u32 0, .slice none 0 0] 39))
  obtain ⟨_, _, hB, hr, _⟩ := h
  refine ⟨h1, h2, h3, fun g hg => ?_, List.nodup_cons.2 ⟨fun hm => Nat.lt_irrefl _ (hr _ hm).1.lt, h5⟩⟩
  rcases List.mem_cons.1 hg with rfl | hg
  · exact ⟨RowAt.new W 39 #[.slice none 0 0, .int .u16 0, .int .u16 0, .int .u32 0, .slice none 0 0], hB.size⟩
  · exact h4 g hg
set_option maxRecDepth 5000 in
theorem Bx.t2 {b x y K1 K2 : Nat} {gs : List Nat} {W0 W : World} (h : Bx b x y K1 K2 gs W0 W) : Bx b x y K1 K2 ((W.heap.size + 1) :: W.heap.size :: gs) W0 ((W.alloc (.cells #[.slice none 0 0, .int .u16 0, .int .u16 0, .int .u32 0, .slice none 0 0] 39)).alloc (.cells #[.slice none 0 0, .int .u16 0, .int .u16 0, .int .u32 0, .slice none 0 0] 39)) := by
  have := Bx.t1 (Bx.t1 h)
  rw [World.size_alloc] at this
  exact this
set_option maxRecDepth 5000 in
theorem cell_set1 {W : World} {p : Addr} {v : Value} {g : Nat} (i : Nat) (u : Value) (h : W.cell? p = some v) (hne : g ≠ p.block) : (W.setCell ⟨g, i, none⟩ u).cell? p = some v := by
  rw [← h]
  exact World.cell?_of_block (heap_setCell_other _ _ _ _ (fun e => hne e.symm))
set_option maxRecDepth 5000 in
theorem Bx.s0 {b x y K1 K2 : Nat} {W : World} (c1 : W.cell? ⟨b, x, none⟩ = some (.int .u32 (K1 : Int))) (c2 : W.cell? ⟨b, y, none⟩ = some (.int .u32 (K2 : Int))) (hb : b < W.heap.size) : Bx b x y K1 K2 [] W W.drew :=
  ⟨⟨c1, c2⟩, hb, below_drewN (Below.refl _ W) 1, fun g hg => absurd hg (by simp), List.nodup_nil⟩
set_option maxRecDepth 5000 in
theorem Bx.dr {b x y K1 K2 : Nat} {gs : List Nat} {W0 W : World} (h : Bx b x y K1 K2 gs W0 W) : Bx b x y K1 K2 gs W0 W.drew :=
  ⟨h.1, h.2.1, below_drewN h.2.2.1 1, fun g hg => (h.2.2.2.1 g hg), h.2.2.2.2⟩
set_option maxRecDepth 5000 in
theorem Bx.s00 {b x y K1 K2 : Nat} {W : World} (h : Bx b x y K1 K2 [] W W.drew) : Bx b x y K1 K2 [] W W := ⟨h.1, h.2.1, Below.refl _ W, fun g hg => absurd hg (by simp), List.nodup_nil⟩
set_option maxRecDepth 5000 in
theorem Bx.s1 {b x y K1 K2 : Nat} {W : World} (h : Bx b x y K1 K2 [] W W.drew) : Bx b x y K1 K2 [W.heap.size] W (W.alloc (.cells #[.slice none 0 0, .int .u16 0, .int .u16 0, .int .u32 0, .slice none 0 0] 39)).drew := h.s00.t1.dr
set_option maxRecDepth 5000 in
theorem Bx.s2 {b x y K1 K2 : Nat} {W : World} (h : Bx b x y K1 K2 [] W W.drew) : Bx b x y K1 K2 [W.heap.size + 1, W.heap.size] W ((W.alloc (.cells #[.slice none 0 0, .int .u16 0, .int .u16 0, .int .u32 0, .slice none 0 0] 39)).alloc (.cells #[.slice none 0 0, .int .u16 0, .int .u16 0, .int .u32 0, .slice none 0 0] 39)).drew := h.s00.t2.dr
set_option maxRecDepth 5000 in
theorem Bx.set {b x y K1 K2 : Nat} {gs : List Nat} {W0 W : World} (h : Bx b x y K1 K2 gs W0 W) {g : Nat} (hg : W0.heap.size ≤ g) (v0 v1 v2 v3 v4 : Value) : (((((W.setCell ⟨g, 0, none⟩ v0).setCell ⟨g, 1, none⟩ v1).setCell ⟨g, 2, none⟩ v2).setCell ⟨g, 3, none⟩ v3).setCell ⟨g, 4, none⟩ v4).cell? ⟨b, x, none⟩ = some (.int .u32 (K1 : Int)) ∧ (((((W.setCell ⟨g, 0, none⟩ v0).setCell ⟨g, 1, none⟩ v1).setCell ⟨g, 2, none⟩ v2).setCell ⟨g, 3, none⟩ v3).setCell ⟨g, 4, none⟩ v4).cell? ⟨b, y, none⟩ = some (.int .u32 (K2 : Int)) := by
  obtain ⟨⟨c1, c2⟩, hlt, _⟩ := h
  have hne : g ≠ b := by omega
  exact ⟨cell_row c1 hne _ _ _ _ _, cell_row c2 hne _ _ _ _ _⟩
set_option maxRecDepth 5000 in
theorem Bx.set2 {b x y K1 K2 : Nat} {gs : List Nat} {W0 W : World} (h : Bx b x y K1 K2 gs W0 W) {g g' : Nat} (hg : W0.heap.size ≤ g) (hg' : W0.heap.size ≤ g') (v0 v1 v2 v3 v4 u0 u1 u2 u3 u4 : Value) : ((((((((((W.setCell ⟨g, 0, none⟩ v0).setCell ⟨g, 1, none⟩ v1).setCell ⟨g, 2, none⟩ v2).setCell ⟨g, 3, none⟩ v3).setCell ⟨g, 4, none⟩ v4).setCell ⟨g', 0, none⟩ u0).setCell ⟨g', 1, none⟩ u1).setCell ⟨g', 2, none⟩ u2).setCell ⟨g', 3, none⟩ u3).setCell ⟨g', 4, none⟩ u4).cell? ⟨b, x, none⟩ = some (.int .u32 (K1 : Int)) ∧ ((((((((((W.setCell ⟨g, 0, none⟩ v0).setCell ⟨g, 1, none⟩ v1).setCell ⟨g, 2, none⟩ v2).setCell ⟨g, 3, none⟩ v3).setCell ⟨g, 4, none⟩ v4).setCell ⟨g', 0, none⟩ u0).setCell ⟨g', 1, none⟩ u1).setCell ⟨g', 2, none⟩ u2).setCell ⟨g', 3, none⟩ u3).setCell ⟨g', 4, none⟩ u4).cell? ⟨b, y, none⟩ = some (.int .u32 (K2 : Int)) := by
  obtain ⟨c1, c2⟩ := h.set hg v0 v1 v2 v3 v4
  have hlt := h.2.1
  have hne : g' ≠ b := by omega
  exact ⟨cell_row c1 hne _ _ _ _ _, cell_row c2 hne _ _ _ _ _⟩
set_option maxRecDepth 5000 in
theorem Bx.row {b x y K1 K2 : Nat} {gs : List Nat} {W0 W : World} (h : Bx b x y K1 K2 gs W0 W) {g : Nat} (hg : g ∈ gs) : RowAt W g 39 #[.slice none 0 0, .int .u16 0, .int .u16 0, .int .u32 0, .slice none 0 0] := (h.2.2.2.1 g hg).1
set_option maxRecDepth 5000 in
theorem Bx.a2 {b x y K1 K2 g1 g2 : Nat} {gs : List Nat} {W0 W : World} (h : Bx b x y K1 K2 (g2 :: g1 :: gs) W0 W) : RowAt W g1 39 #[.slice none 0 0, .int .u16 0, .int .u16 0, .int .u32 0, .slice none 0 0] ∧ RowAt W g2 39 #[.slice none 0 0, .int .u16 0, .int .u16 0, .int .u32 0, .slice none 0 0] ∧ ¬ (g1 = g2) ∧ ¬ (g2 = g1) := by
  have hn := h.2.2.2.2
  have : ¬ (g2 = g1) := fun e => (List.nodup_cons.1 hn).1 (by rw [e]; exact List.mem_cons_self ..)
  exact ⟨h.row (by simp), h.row (by simp), fun e => this e.symm, this⟩
set_option maxRecDepth 5000 in
theorem Bx.a1 {b x y K1 K2 g1 : Nat} {W0 W : World} (h : Bx b x y K1 K2 [g1] W0 W) : (∀ ob : Obj, RowAt (W.alloc ob) g1 39 #[.slice none 0 0, .int .u16 0, .int .u16 0, .int .u32 0, .slice none 0 0]) ∧ ¬ (g1 = W.heap.size) ∧ ¬ (W.heap.size = g1) := by
  have hr := h.row (g := g1) (by simp)
  exact ⟨fun ob => hr.alloc _, Nat.ne_of_lt hr.lt, Nat.ne_of_gt hr.lt⟩
/- a record's slices -/
def Rc (W : World) (n : List (List UInt8)) (d : List UInt8) (na : Option Addr) (nc : Nat) (da : Option Addr) (dc : Nat) : Prop := SlS W na n ∧ n.length ≤ nc ∧ SlL W da d ∧ (da = none → dc = 0) ∧ d.length ≤ dc
set_option maxRecDepth 5000 in
theorem Rc.bel {W W' : World} {n : List (List UInt8)} {d : List UInt8} {na da : Option Addr} {nc dc : Nat} (h : Rc W n d na nc da dc) (hb : Below W.heap.size W W') : Rc W' n d na nc da dc := ⟨h.1.below hb (Nat.le_refl _), h.2.1, h.2.2.1.below hb (Nat.le_refl _), h.2.2.2⟩
set_option maxRecDepth 5000 in
theorem Rc.rec {W : World} {n : List (List UInt8)} {d : List UInt8} {na da : Option Addr} {nc dc : Nat} (h : Rc W n d na nc da dc) {g : Nat} {na' da' : Option Addr} {nl nc' dl dc' : Nat} {a b c : Int} (hr : RowAt W g 39 #[.slice na' nl nc', .int .u16 a, .int .u16 b, .int .u32 c, .slice da' dl dc']) (j : Nat) (v : Value) : Rc (W.setCell ⟨g, j, none⟩ v) n d na nc da dc := ⟨slS_rec hr j v h.1, h.2.1, slL_rec hr j v h.2.2.1, h.2.2.2⟩
def rcs (n : List (List UInt8)) (d : List UInt8) (t tl : Nat) (na : Option Addr) (nc : Nat) (da : Option Addr) (dc : Nat) : Array Value := #[.slice na n.length nc, .int .u16 (t : Int), .int .u16 1, .int .u32 (tl : Int), .slice da d.length dc]
/- what moves where a box of a record is written -/
def MvR (W W' : World) : Prop := W.heap.size = W'.heap.size ∧ (∀ n d na nc da dc, Rc W n d na nc da dc → Rc W' n d na nc da dc)
/- one box is filled -/
set_option maxRecDepth 5000 in
theorem fill {W : World} {g : Nat} (hr : RowAt W g 39 #[.slice none 0 0, .int .u16 0, .int .u16 0, .int .u32 0, .slice none 0 0]) (n : List (List UInt8)) (d : List UInt8) (t tl : Nat) (na : Option Addr) (nc : Nat) (da : Option Addr) (dc : Nat) {W0 : World} (hB : Below W0.heap.size W0 W) (hg : W0.heap.size ≤ g) :
    let W' := (((((W.setCell ⟨g, 0, none⟩ (.slice na n.length nc)).setCell ⟨g, 1, none⟩ (.int .u16 (t : Int))).setCell ⟨g, 2, none⟩ (.int .u16 1)).setCell ⟨g, 3, none⟩ (.int .u32 (tl : Int))).setCell ⟨g, 4, none⟩ (.slice da d.length dc))
    RowAt W' g 39 (rcs n d t tl na nc da dc) ∧ MvR W W' ∧ Below W0.heap.size W0 W' ∧ (∀ g' t' c', g' ≠ g → RowAt W g' t' c' → RowAt W' g' t' c') := by
  have r1 : RowAt _ g 39 #[.slice na n.length nc, .int .u16 0, .int .u16 0, .int .u32 0, .slice none 0 0] := hr.set 0 (.slice na n.length nc)
  have r2 : RowAt _ g 39 #[.slice na n.length nc, .int .u16 (t : Int), .int .u16 0, .int .u32 0, .slice none 0 0] := r1.set 1 (.int .u16 (t : Int))
  have r3 : RowAt _ g 39 #[.slice na n.length nc, .int .u16 (t : Int), .int .u16 1, .int .u32 0, .slice none 0 0] := r2.set 2 (.int .u16 1)
  have r4 : RowAt _ g 39 #[.slice na n.length nc, .int .u16 (t : Int), .int .u16 1, .int .u32 (tl : Int), .slice none 0 0] := r3.set 3 (.int .u32 (tl : Int))
  refine ⟨r4.set 4 _, ⟨by simp, fun n' d' na' nc' da' dc' h => (((((h.rec hr 0 _).rec r1 1 _).rec r2 2 _).rec r3 3 _).rec r4 4 _)⟩, ((((hB.setCell (p := ⟨g, 0, none⟩) hg _).setCell (p := ⟨g, 1, none⟩) hg _).setCell (p := ⟨g, 2, none⟩) hg _).setCell (p := ⟨g, 3, none⟩) hg _).setCell (p := ⟨g, 4, none⟩) hg _, fun g' t' c' hne h => ?_⟩
  show (_ : World).heap[g']? = _
  rw [heap_setCell_other _ _ _ _ hne, heap_setCell_other _ _ _ _ hne, heap_setCell_other _ _ _ _ hne, heap_setCell_other _ _ _ _ hne, heap_setCell_other _ _ _ _ hne]
  exact h
/- two boxes with two records -/
def Two (W0 : World) (n1 : List (List UInt8)) (d1 : List UInt8) (t1 tl1 : Nat) (n2 : List (List UInt8)) (d2 : List UInt8) (t2 tl2 : Nat) (g1 g2 : Nat) (W : World) : Prop :=
  ∃ na nc da dc na2 nc2 da2 dc2, g1 ≠ g2 ∧ RowAt W g1 39 (rcs n1 d1 t1 tl1 na nc da dc) ∧ RowAt W g2 39 (rcs n2 d2 t2 tl2 na2 nc2 da2 dc2) ∧ Rc W n1 d1 na nc da dc ∧ Rc W n2 d2 na2 nc2 da2 dc2 ∧ Below W0.heap.size W0 W ∧ W0.heap.size ≤ g1 ∧ W0.heap.size ≤ g2
set_option maxRecDepth 5000 in
theorem Two.mk {b x y K1 K2 : Nat} {gs : List Nat} {W0 W : World} (h : Bx b x y K1 K2 gs W0 W) {g1 g2 : Nat} (h1 : g1 ∈ gs) (h2 : g2 ∈ gs) (hne : ¬ (g1 = g2)) {n1 n2 : List (List UInt8)} {d1 d2 : List UInt8} {t1 tl1 t2 tl2 : Nat} {na na2 da da2 : Option Addr} {nc nc2 dc dc2 : Nat} (hr1 : Rc W n1 d1 na nc da dc) (hr2 : Rc W n2 d2 na2 nc2 da2 dc2) :
    Two W0 n1 d1 t1 tl1 n2 d2 t2 tl2 g1 g2 ((((((((((W.setCell ⟨g1, 0, none⟩ (.slice na n1.length nc)).setCell ⟨g1, 1, none⟩ (.int .u16 (t1 : Int))).setCell ⟨g1, 2, none⟩ (.int .u16 1)).setCell ⟨g1, 3, none⟩ (.int .u32 (tl1 : Int))).setCell ⟨g1, 4, none⟩ (.slice da d1.length dc)).setCell ⟨g2, 0, none⟩ (.slice na2 n2.length nc2)).setCell ⟨g2, 1, none⟩ (.int .u16 (t2 : Int))).setCell ⟨g2, 2, none⟩ (.int .u16 1)).setCell ⟨g2, 3, none⟩ (.int .u32 (tl2 : Int))).setCell ⟨g2, 4, none⟩ (.slice da2 d2.length dc2)) := by
  have hg1 := h.2.2.2.1 g1 h1
  have hg2 := h.2.2.2.1 g2 h2
  obtain ⟨a1, a2, a3, a4⟩ := fill hg1.1 n1 d1 t1 tl1 na nc da dc h.2.2.1 hg1.2
  obtain ⟨b1, b2, b3, b4⟩ := fill (a4 g2 _ _ (fun e => hne e.symm) hg2.1) n2 d2 t2 tl2 na2 nc2 da2 dc2 a3 hg2.2
  exact ⟨na, nc, da, dc, na2, nc2, da2, dc2, hne, b4 g1 _ _ hne a1, b1, b2.2 _ _ _ _ _ _ (a2.2 _ _ _ _ _ _ hr1), b2.2 _ _ _ _ _ _ (a2.2 _ _ _ _ _ _ hr2), b3, hg1.2, hg2.2⟩
set_option maxRecDepth 5000 in
theorem Two.c {b x y K1 K2 : Nat} {gs : List Nat} {W0 W : World} (h : Bx b x y K1 K2 gs W0 W) {n1 n2 : List (List UInt8)} {d1 d2 : List UInt8} {t1 tl1 t2 tl2 : Nat} {na na2 da da2 : Option Addr} {nc nc2 dc dc2 : Nat} (hr1 : Rc W n1 d1 na nc da dc) (hr2 : Rc W n2 d2 na2 nc2 da2 dc2) :
    Two W0 n1 d1 t1 tl1 n2 d2 t2 tl2 W.heap.size (W.heap.size + 1) ((W.alloc (.cells #[.slice na n1.length nc, .int .u16 (t1 : Int), .int .u16 1, .int .u32 (tl1 : Int), .slice da d1.length dc] 39)).alloc (.cells #[.slice na2 n2.length nc2, .int .u16 (t2 : Int), .int .u16 1, .int .u32 (tl2 : Int), .slice da2 d2.length dc2] 39)) := by
  have hB := h.2.2.1
  have hn : RowAt ((W.alloc (.cells #[.slice na n1.length nc, .int .u16 (t1 : Int), .int .u16 1, .int .u32 (tl1 : Int), .slice da d1.length dc] 39)).alloc (.cells #[.slice na2 n2.length nc2, .int .u16 (t2 : Int), .int .u16 1, .int .u32 (tl2 : Int), .slice da2 d2.length dc2] 39)) (W.heap.size + 1) 39 #[.slice na2 n2.length nc2, .int .u16 (t2 : Int), .int .u16 1, .int .u32 (tl2 : Int), .slice da2 d2.length dc2] := by
    have := RowAt.new (W.alloc (.cells #[.slice na n1.length nc, .int .u16 (t1 : Int), .int .u16 1, .int .u32 (tl1 : Int), .slice da d1.length dc] 39)) 39 #[.slice na2 n2.length nc2, .int .u16 (t2 : Int), .int .u16 1, .int .u32 (tl2 : Int), .slice da2 d2.length dc2]
    rw [World.size_alloc] at this
    exact this
  exact ⟨na, nc, da, dc, na2, nc2, da2, dc2, by omega, (RowAt.new W 39 #[.slice na n1.length nc, .int .u16 (t1 : Int), .int .u16 1, .int .u32 (tl1 : Int), .slice da d1.length dc]).alloc _, hn, hr1.bel (bel2 W _ _), hr2.bel (bel2 W _ _), hB.trans ((bel2 W _ _).mono hB.size), hB.size, Nat.le_succ_of_le hB.size⟩
set_option maxRecDepth 5000 in
theorem Two.c2 {b x y K1 K2 : Nat} {gs : List Nat} {W0 W : World} (h : Bx b x y K1 K2 gs W0 W) {n1 n2 : List (List UInt8)} {d1 d2 : List UInt8} {t1 tl1 t2 tl2 : Nat} {na na2 da da2 : Option Addr} {nc nc2 dc dc2 : Nat} (hr1 : Rc W n1 d1 na nc da dc) (hr2 : Rc W n2 d2 na2 nc2 da2 dc2) :
    Two W0 n1 d1 t1 tl1 n2 d2 t2 tl2 (W.heap.size + 1) W.heap.size ((W.alloc (.cells #[.slice na2 n2.length nc2, .int .u16 (t2 : Int), .int .u16 1, .int .u32 (tl2 : Int), .slice da2 d2.length dc2] 39)).alloc (.cells #[.slice na n1.length nc, .int .u16 (t1 : Int), .int .u16 1, .int .u32 (tl1 : Int), .slice da d1.length dc] 39)) := by
  have hB := h.2.2.1
  have hn : RowAt ((W.alloc (.cells #[.slice na2 n2.length nc2, .int .u16 (t2 : Int), .int .u16 1, .int .u32 (tl2 : Int), .slice da2 d2.length dc2] 39)).alloc (.cells #[.slice na n1.length nc, .int .u16 (t1 : Int), .int .u16 1, .int .u32 (tl1 : Int), .slice da d1.length dc] 39)) (W.heap.size + 1) 39 #[.slice na n1.length nc, .int .u16 (t1 : Int), .int .u16 1, .int .u32 (tl1 : Int), .slice da d1.length dc] := by
    have := RowAt.new (W.alloc (.cells #[.slice na2 n2.length nc2, .int .u16 (t2 : Int), .int .u16 1, .int .u32 (tl2 : Int), .slice da2 d2.length dc2] 39)) 39 #[.slice na n1.length nc, .int .u16 (t1 : Int), .int .u16 1, .int .u32 (tl1 : Int), .slice da d1.length dc]
    rw [World.size_alloc] at this
    exact this
  exact ⟨na, nc, da, dc, na2, nc2, da2, dc2, by omega, hn, (RowAt.new W 39 #[.slice na2 n2.length nc2, .int .u16 (t2 : Int), .int .u16 1, .int .u32 (tl2 : Int), .slice da2 d2.length dc2]).alloc _, hr1.bel (bel2 W _ _), hr2.bel (bel2 W _ _), hB.trans ((bel2 W _ _).mono hB.size), Nat.le_succ_of_le hB.size, hB.size⟩
set_option maxRecDepth 5000 in
theorem Two.b {b x y K1 K2 : Nat} {gs : List Nat} {W0 W : World} (h : Bx b x y K1 K2 gs W0 W) {n1 n2 : List (List UInt8)} {d1 d2 : List UInt8} {t1 tl1 t2 tl2 : Nat} {na na2 da da2 : Option Addr} {nc nc2 dc dc2 : Nat} (hr1 : Rc W n1 d1 na nc da dc) (hr2 : Rc W n2 d2 na2 nc2 da2 dc2) {g2 : Nat} (hg : g2 ∈ gs) :
    Two W0 n1 d1 t1 tl1 n2 d2 t2 tl2 W.heap.size g2 ((((((W.alloc (.cells #[.slice na n1.length nc, .int .u16 (t1 : Int), .int .u16 1, .int .u32 (tl1 : Int), .slice da d1.length dc] 39)).setCell ⟨g2, 0, none⟩ (.slice na2 n2.length nc2)).setCell ⟨g2, 1, none⟩ (.int .u16 (t2 : Int))).setCell ⟨g2, 2, none⟩ (.int .u16 1)).setCell ⟨g2, 3, none⟩ (.int .u32 (tl2 : Int))).setCell ⟨g2, 4, none⟩ (.slice da2 d2.length dc2)) := by
  have hB := h.2.2.1.trans ((bel1 W (.cells #[.slice na n1.length nc, .int .u16 (t1 : Int), .int .u16 1, .int .u32 (tl1 : Int), .slice da d1.length dc] 39)).mono h.2.2.1.size)
  obtain ⟨hg1, hg2⟩ := h.2.2.2.1 g2 hg
  obtain ⟨a1, a2, a3, a4⟩ := fill (hg1.alloc (.cells #[.slice na n1.length nc, .int .u16 (t1 : Int), .int .u16 1, .int .u32 (tl1 : Int), .slice da d1.length dc] 39)) n2 d2 t2 tl2 na2 nc2 da2 dc2 hB hg2
  have hne : W.heap.size ≠ g2 := Nat.ne_of_gt hg1.lt
  exact ⟨na, nc, da, dc, na2, nc2, da2, dc2, hne, a4 _ _ _ hne (RowAt.new W 39 #[.slice na n1.length nc, .int .u16 (t1 : Int), .int .u16 1, .int .u32 (tl1 : Int), .slice da d1.length dc]), a1, a2.2 _ _ _ _ _ _ (hr1.bel (bel1 W _)), a2.2 _ _ _ _ _ _ (hr2.bel (bel1 W _)), a3, h.2.2.1.size, hg2⟩
set_option maxRecDepth 5000 in
theorem Two.facts {W0 : World} {n1 n2 : List (List UInt8)} {d1 d2 : List UInt8} {t1 tl1 t2 tl2 g1 g2 : Nat} {W : World} (h : Two W0 n1 d1 t1 tl1 n2 d2 t2 tl2 g1 g2 W) : W.cell? ⟨g1, 3, none⟩ = some (.int .u32 (tl1 : Int)) ∧ W.frozen? ⟨g1, 3, none⟩ = false ∧ W.cell? ⟨g2, 3, none⟩ = some (.int .u32 (tl2 : Int)) ∧ W.frozen? ⟨g2, 3, none⟩ = false ∧ ¬ (g1 = g2) ∧ ¬ (g2 = g1) := by
  obtain ⟨na, nc, da, dc, na2, nc2, da2, dc2, hne, h1, h2, _⟩ := h
  exact ⟨h1.cell 3, h1.frozen 3, h2.cell 3, h2.frozen 3, hne, fun e => hne e.symm⟩
set_option maxRecDepth 5000 in
theorem Two.ttl {W0 : World} {n1 n2 : List (List UInt8)} {d1 d2 : List UInt8} {t1 tl1 t2 tl2 g1 g2 : Nat} {W : World} (h : Two W0 n1 d1 t1 tl1 n2 d2 t2 tl2 g1 g2 W) : Two W0 n1 d1 t1 30 n2 d2 t2 30 g1 g2 ((W.setCell ⟨g1, 3, none⟩ (.int .u32 30)).setCell ⟨g2, 3, none⟩ (.int .u32 30)) := by
  obtain ⟨na, nc, da, dc, na2, nc2, da2, dc2, hne, h1, h2, s1, s2, hB, hg1, hg2⟩ := h
  have r1 : RowAt (W.setCell ⟨g1, 3, none⟩ (.int .u32 30)) g1 39 (rcs n1 d1 t1 30 na nc da dc) := h1.set 3 (.int .u32 30)
  have r2 : RowAt (W.setCell ⟨g1, 3, none⟩ (.int .u32 30)) g2 39 (rcs n2 d2 t2 tl2 na2 nc2 da2 dc2) := by
    show (_ : World).heap[g2]? = _
    rw [heap_setCell_other _ _ _ _ (fun e => hne e.symm)]
    exact h2
  have r3 : RowAt ((W.setCell ⟨g1, 3, none⟩ (.int .u32 30)).setCell ⟨g2, 3, none⟩ (.int .u32 30)) g2 39 (rcs n2 d2 t2 30 na2 nc2 da2 dc2) := r2.set 3 (.int .u32 30)
  have r4 : RowAt ((W.setCell ⟨g1, 3, none⟩ (.int .u32 30)).setCell ⟨g2, 3, none⟩ (.int .u32 30)) g1 39 (rcs n1 d1 t1 30 na nc da dc) := by
    show (_ : World).heap[g1]? = _
    rw [heap_setCell_other _ _ _ _ hne]
    exact r1
  exact ⟨na, nc, da, dc, na2, nc2, da2, dc2, hne, r4, r3, (s1.rec h1 3 _).rec r2 3 _, (s2.rec h1 3 _).rec r2 3 _, (hB.setCell (p := ⟨g1, 3, none⟩) hg1 _).setCell (p := ⟨g2, 3, none⟩) hg2 _, hg1, hg2⟩
set_option maxRecDepth 5000 in
theorem ZPair.mono {B : Nat} {w : World} {Y V : Nat} {A : List (List UInt8)} {LY LV : List Z.R} {K K' : Nat} (h : ZPair B w Y V A LY LV K) (hk : K ≤ K') : ZPair B w Y V A LY LV K' := by
  obtain ⟨ρ2, G2, C2, h2, th2, hB, hi2, hy⟩ := h
  exact ⟨ρ2, G2, C2, h2.mono hk, th2, hB, hi2, hy.mono hk⟩
namespace Z
/- the zone behind one number more -/
def stepK (L : List R) (k : Nat) : List R := (putR exA L (owner (k % 256)) (typeK (k / 256 % 256)) 1 30 (dataK (typeK (k / 256 % 256)) (k / 65536 % 256))).2.2
def runK (l : List Nat) : List R := l.foldl stepK []
set_option maxRecDepth 5000 in
theorem runK_take (l : List Nat) (j : Nat) (h : j < l.length) : runK (l.take (j + 1)) = stepK (runK (l.take j)) (l.getD j 0) := by
  unfold runK
  rw [List.take_succ_eq_append_getElem h, List.foldl_append, List.getD_eq_getElem?_getD, List.getElem?_eq_getElem h]
  rfl
end Z
end Go.Proofs.YtdldaphkiphpnaaGreat
