/- Set. -/
import Derived.Test.YtdldaphkiphpnaaGreatZtp
import Derived.Test.YtdldaphkiphpnaaGreatCnI
import Derived.Deep.Cut
import Derived.Laws.ResultCell
import Derived.Deep.RegionWith
namespace Go.Proofs.YtdldaphkiphpnaaGreat
open Go.RowKit
set_option maxRecDepth 5000 in
theorem setAt_datas {L : List Z.R} {C : List (List UInt8) → Nat → Option Z.St} (h : Z.Of L C) {p : List (List UInt8)} {t : Nat} {S : Z.St} (hS : C p t = some S) : datas S.g ((Z.setAt L p t).map (·.c)) = (Z.setAt L p t).map (·.d) := by
  unfold datas
  rw [List.map_map]
  refine List.map_congr_left fun x hx => ?_
  obtain ⟨h1, rfl, rfl⟩ := Z.mem_setAt.1 hx
  show (S.g x.c).getD [] = x.d
  rw [(h.at_ x h1 S hS).2]; rfl
set_option maxRecDepth 5000 in
theorem infoAS : (Tryz.prog.info? 54).map (·.size) = some 4 := by kernel_rfl
set_option maxRecDepth 5000 in
theorem results_as {fn : Func} {p u : Tmp} (h : fn.results = #[.cell p 54, .tmp u]) (tmps : Array Value) (w : World) (g : Nat) (cs : Array Value) (hs : cs.size = 4) (hp : tmps.getD p undef = .pointer (some ⟨g, 0, none⟩)) (hg : RowAt w g 54 cs) :
    (results fn tmps).run Tryz.prog w = .ok (.tuple #[.agg cs, tmps.getD u undef]) w := by
  rw [results_cell_tmp h, hp]
  have hl := run_loadVar_row (P := Tryz.prog) w g 54 54 cs (0, 0) _ hg Tryz.underlying54 rfl (by rw [hs]; exact infoAS)
  simp [asAddr, hl, Result.andThen]
def asetZ : Value := .agg #[.slice none 0 0, .int .u16 0, .int .u32 0, .slice none 0 0]
def SetPost (w : World) (L : List Z.R) (C : List (List UInt8) → Nat → Option Z.St) (n : List (List UInt8)) (nl t : Nat) (e : Ending) (w' : World) : Prop :=
  Below w.heap.size w w' ∧ ((C (path n) t = none ∧ e = .returned (.tuple #[asetZ, .bool false])) ∨
    ∃ (S : Z.St) (na : Option Addr) (nc : Nat) (v : Value), C (path n) t = some S ∧ e = .returned (.tuple #[.agg #[.slice na nl nc, .int .u16 (t : Int), .int .u32 (S.ttl : Int), v], .bool true]) ∧ TyS w' na (N.lowN n) ∧ nl ≤ nc ∧ OwnL 37 1 EB w' w.heap.size v ((Z.setAt L (path n) t).map (·.d)))
set_option maxRecDepth 5000 in
theorem KB.setCell {w : World} {g : Nat} {et : TypeId} {c : Array Value} (h : RowAt w g et c) (he : et ≠ 5 ∧ et ≠ 9) (j : Nat) (v : Value) : KB w (w.setCell ⟨g, j, none⟩ v) := ⟨by simp, fun b cs t fr hb ht => by
  have hne : b ≠ g := fun e => by
    have h : w.heap[g]? = _ := h
    rw [e, h] at hb; injection hb with hb; injection hb with _ hb _
    rcases ht with rfl | rfl
    · exact he.1 hb
    · exact he.2 hb
  rw [heap_setCell_other _ _ _ _ hne]; exact hb⟩
/- what lies where Set looks and writes -/
structure SOld (W : World) (g b : Nat) (T : Int) (m : Nat) : Prop where
  row : RowAt W g 54 #[.slice none 0 0, .int .u16 0, .int .u32 0, .slice none 0 0]
  box : RowAt W b 91 #[.int .u32 T, .map (some m)]
set_option maxRecDepth 5000 in
theorem SOld.cells {W : World} {g b : Nat} {T : Int} {m : Nat} (h : SOld W g b T m) : W.cell? ⟨b, 0, none⟩ = some (.int .u32 T) ∧ W.cell? ⟨b, 1, none⟩ = some (.map (some m)) ∧ W.cell? ⟨g, 0, none⟩ = some (.slice none 0 0) ∧ W.cell? ⟨g, 1, none⟩ = some (.int .u16 0) ∧ W.cell? ⟨g, 2, none⟩ = some (.int .u32 0) ∧ W.cell? ⟨g, 3, none⟩ = some (.slice none 0 0) ∧
    W.frozen? ⟨g, 0, none⟩ = false ∧ W.frozen? ⟨g, 1, none⟩ = false ∧ W.frozen? ⟨g, 2, none⟩ = false ∧ W.frozen? ⟨g, 3, none⟩ = false :=
  ⟨h.box.cell 0, h.box.cell 1, h.row.cell 0, h.row.cell 1, h.row.cell 2, h.row.cell 3, h.row.frozen 0, h.row.frozen 1, h.row.frozen 2, h.row.frozen 3⟩
set_option maxRecDepth 5000 in
theorem SOld.below {W W' : World} {B g b : Nat} {T : Int} {m : Nat} (h : SOld W g b T m) (hb : Below B W W') (h1 : g < B) (h2 : b < B) : SOld W' g b T m := ⟨h.row.below hb h1, h.box.below hb h2⟩
/- behind the store -/
structure SNew (w : World) (g len t : Nat) (T : Int) (n : List (List UInt8)) (ds : List (List UInt8)) (wc : World) (na : Option Addr) (nc : Nat) (v : Value) : Prop where
  row : RowAt wc g 54 #[.slice na len nc, .int .u16 (t : Int), .int .u32 T, v]
  ty : TyS wc na (N.lowN n)
  le : len ≤ nc
  own : OwnL 37 1 EB wc w.heap.size v ds
  bel : Below w.heap.size w wc
set_option maxRecDepth 5000 in
theorem SNew.mk' {w wz : World} {g b len t : Nat} {T : Int} {m : Nat} {n ds : List (List UInt8)} {na : Option Addr} {nc base : Nat} {v : Value} (h : SOld wz g b T m) (hg : w.heap.size ≤ g) (hgb : g < base) (ty : TyS wz na (N.lowN n)) (le : len ≤ nc) (own : OwnL 37 1 EB wz base v ds) (bel : Below w.heap.size w wz) :
    SNew w g len t T n ds ((((wz.setCell ⟨g, 0, none⟩ (.slice na len nc)).setCell ⟨g, 1, none⟩ (.int .u16 (t : Int))).setCell ⟨g, 2, none⟩ (.int .u32 T)).setCell ⟨g, 3, none⟩ v) na nc v := by
  have r1 := h.row.set 0 (.slice na len nc)
  have r2 := r1.set 1 (.int .u16 (t : Int))
  have r3 := r2.set 2 (.int .u32 T)
  have k := (((KB.setCell h.row (by decide) 0 (.slice na len nc)).trans (KB.setCell r1 (by decide) 1 (.int .u16 (t : Int)))).trans (KB.setCell r2 (by decide) 2 (.int .u32 T))).trans (KB.setCell r3 (by decide) 3 v)
  refine ⟨r3.set 3 v, ty.kb k, le, (own.kept (fun _ _ h => h.kb k) fun q _ _ hq _ => ?_).low (by omega), (((bel.setCell (p := ⟨g, 0, none⟩) hg _).setCell (p := ⟨g, 1, none⟩) hg _).setCell (p := ⟨g, 2, none⟩) hg _).setCell (p := ⟨g, 3, none⟩) hg _⟩
  rw [heap_setCell_other _ _ _ _ (by show q ≠ g; omega), heap_setCell_other _ _ _ _ (by show q ≠ g; omega), heap_setCell_other _ _ _ _ (by show q ≠ g; omega), heap_setCell_other _ _ _ _ (by show q ≠ g; omega)]
set_option maxRecDepth 100000 in
set_option maxHeartbeats 4000000 in
theorem zset_any (w : World) (Zb : Nat) (A : List (List UInt8)) (L : List Z.R) (ρ : Nat → Role) (G : List (List UInt8) → Option Nd) (C : List (List UInt8) → Nat → Option Z.St) (K : Nat) (Zx : ZAt w Zb A L ρ G C K) (hK : K ≤ 1000000) (n : List (List UInt8)) (ao : Option Addr) (len cap : Nat) (hl : Hid (n.length = len)) (hs : SlS w ao n) (hm : Hid (N.Small n)) (t : Nat) (ht : t < 65536) :
    Calls Tryz.prog 23 #[.pointer (some ⟨Zb, 0, none⟩), .slice ao len cap, .int .u16 (t : Int)] w fun e w' => SetPost w L C n len t e w' := by
  obtain ⟨w1, hw1⟩ : ∃ w1, w1 = w.alloc (.cells #[.slice none 0 0, .int .u16 0, .int .u32 0, .slice none 0 0] 54) := ⟨_, rfl⟩
  have hb1 : Below w.heap.size w w1 := by rw [hw1]; exact (Below.refl _ w).alloc (Nat.le_refl _) _
  have hr1 : RowAt w1 w.heap.size 54 #[.slice none 0 0, .int .u16 0, .int .u32 0, .slice none 0 0] := by rw [hw1]; exact RowAt.new w _ _
  have hf := (Zx.bel hb1).find n ao len cap hl (hs.below hb1 (Nat.le_refl _)) hm
  have hs1 := hs.below hb1 (Nat.le_refl _)
  have HZ := hide Zx
  have HS1 := hide hs1
  have HB1 := hide hb1
  have HR1 := hide hr1
  have HW1 := hide hw1
  clear hs Zx hw1 hs1 hr1
  go_enter Tryz.func23, Tryz.ntmps23
  cases hC : C (path n) t with
  | none =>
    go_wp2_with (go_at_call 51; rw [← HW1.out]; refine hf.mono ?_; rintro e w2 ⟨x, rfl, hF⟩; have x0 : w2.cell? ⟨x.n, 0, none⟩ = some (.map (some x.s)) := hF.node.row.cell 0; have hlk := (hF.node.lookup t ht w2 rfl).1; rw [hC] at hlk; simp only [Option.map_none, Option.getD_none, Option.isSome_none] at hlk; have hr2 := HR1.out.below hF.bel HR1.out.lt; have hr3 := RowAt.alloc hr2 (.cells #[.int .u32 0, .map none] 91); have c0 := hr3.cell 0; have c1 := hr3.cell 1; have c2 := hr3.cell 2; have c3 := hr3.cell 3; have f0 := hr3.frozen 0; have f1 := hr3.frozen 1; have f2 := hr3.frozen 2; have f3 := hr3.frozen 3; have d0 := hr2.cell 0; have d1 := hr2.cell 1; have d2 := hr2.cell 2; have d3 := hr2.cell 3; have g0 := hr2.frozen 0; have g1 := hr2.frozen 1; have g2 := hr2.frozen 2; have g3 := hr2.frozen 3)
    have hr4 := (((hr3.set 0 (.slice none 0 0)).set 1 (.int .u16 0)).set 2 (.int .u32 0)).set 3 (.slice none 0 0)
    refine bodyPost_ret (v := .tuple #[asetZ, .bool false]) (results_as Tryz.results23 _ _ w.heap.size _ rfl rfl hr4) rfl ⟨?_, Or.inl ⟨hC, rfl⟩⟩
    have h2 : Below w.heap.size w w2 := hb1.trans (hF.bel.mono hb1.size)
    exact ((((h2.alloc h2.size _).setCell (p := ⟨w.heap.size, 0, none⟩) (Nat.le_refl _) _).setCell (p := ⟨w.heap.size, 1, none⟩) (Nat.le_refl _) _).setCell (p := ⟨w.heap.size, 2, none⟩) (Nat.le_refl _) _).setCell (p := ⟨w.heap.size, 3, none⟩) (Nat.le_refl _) _
  | some S =>
    go_wp2_with (go_at_call 51; rw [← HW1.out]; refine hf.mono ?_; rintro e w2 ⟨x, rfl, hF⟩; have x0 : w2.cell? ⟨x.n, 0, none⟩ = some (.map (some x.s)) := hF.node.row.cell 0; have hlk := (hF.node.lookup t ht w2 rfl).1; rw [hC] at hlk; simp only [Option.map_some, Option.getD_some, Option.isSome_some, setV] at hlk)
    obtain ⟨m, hmm⟩ : ∃ m, m = x.dm t := ⟨_, rfl⟩
    have hdm := hF.node.data t S hC
    rw [← hmm] at hdm ⊢
    obtain ⟨w3, hw3⟩ : ∃ w3, w3 = w2.alloc (.cells #[.int .u32 (S.ttl : Int), .map (some m)] 91) := ⟨_, rfl⟩
    have hb23 : Below w2.heap.size w2 w3 := by rw [hw3]; exact (Below.refl _ w2).alloc (Nat.le_refl _) _
    have hz12 := hF.bel.size
    have hz01 := hb1.size
    have hb02 : Below w.heap.size w w2 := hb1.trans (hF.bel.mono hz01)
    have hb03 : Below w.heap.size w w3 := hb02.trans (hb23.mono hb02.size)
    have hg0 : w.heap.size < w1.heap.size := HR1.out.lt
    have hz3 : w3.heap.size = w2.heap.size + 1 := by rw [hw3]; simp
    have hold : SOld w3 w.heap.size w2.heap.size (S.ttl : Int) m := ⟨(HR1.out.below hF.bel hg0).below hb23 (by omega), by rw [hw3]; exact RowAt.new w2 _ _⟩
    have hDM : DM w3 (some m) S.g K := DM.bel (mo := some m) hdm hb23
    have hL := HZ.out
    have hks := Z.setAt_rise hL.rise (path n) t
    have hlow : ∀ W, Below w3.heap.size w3 W → Calls Tryz.prog 41 #[.slice ao len cap] W fun e w' => ∃ v, e = .returned v ∧ OwnS w' W.heap.size v (N.lowN n) ∧ Below W.heap.size W w' := fun W hW => lower_any n ao len cap W hl (((HS1.out.below hF.bel (Nat.le_refl _)).below hb23 (Nat.le_refl _)).below hW (Nat.le_refl _)) hm
    have hlist : ∀ W, Below w3.heap.size w3 W → Calls Tryz.prog 52 #[.agg #[.int .u32 (S.ttl : Int), .map (some m)]] W fun e w' => ∃ v, e = .returned v ∧ OwnL 37 1 EB w' W.heap.size v ((Z.setAt L (path n) t).map (·.d)) ∧ Below W.heap.size W w' := fun W hW => by
      have := list_any W (S.ttl : Int) m S.g K (hDM.bel hW) hK ((Z.setAt L (path n) t).map (·.c)) hks (fun c => hL.of.mem_c hC c) (by rw [List.length_map]; have := hL.num; have : (Z.setAt L (path n) t).length ≤ L.length := List.length_filter_le _ _; omega) (fun c hc => by
        obtain ⟨y, hy, rfl⟩ := List.mem_map.1 hc
        have := hL.okk y (Z.mem_setAt.1 hy).1
        have h2 := cn_len this.2.2.1
        omega)
      rw [setAt_datas hL.of hC] at this
      exact this
    have HOLD := hide hold
    have HB03 := hide hb03
    have HW3 := hide hw3
    have HZ3 := hide hz3
    have HG0 := hide (show w.heap.size < w3.heap.size ∧ w2.heap.size < w3.heap.size by omega)
    obtain ⟨b8, hb8⟩ : ∃ b8, b8 = w2.heap.size := ⟨_, rfl⟩
    rw [← hw3]
    rw [← hb8] at HOLD HG0 ⊢
    obtain ⟨k0, k1, k2, k3, k4, k5, k6, k7, k8, k9⟩ := hold.cells
    rw [← hb8] at k0 k1
    have bD : Below w3.heap.size w3 w3.drew := below_drewN (Below.refl _ w3) 1
    clear hold hb03 hw3 hz3 hb23 hb02 hDM hL hks hdm hF hf hlk x0 hb8 hz12 hz01 hg0 hmm
    go_cut [7] from 24 (fun s7 wc => s7 = .bool true ∧ ∃ na nc v, SNew w w.heap.size len t (S.ttl : Int) n ((Z.setAt L (path n) t).map (·.d)) wc na nc v)
    case first =>
      go_region_with (first
        | (go_at_call 41; refine (hlow _ (by first | exact bD | exact bI)).mono ?_; rintro e wl ⟨vl, rfl, hOl, hBl⟩; obtain ⟨al, cl, rfl, hTl, _, hcl⟩ := hOl.ty; rw [N.lowN_len, hl.out] at hcl ⊢; have bL : Below w3.heap.size w3 wl := (by first | exact bD.trans hBl | exact bI.trans (hBl.mono bI.size)); have oL := HOLD.out.below bL HG0.out.1 HG0.out.2; obtain ⟨l0, l1, l2, l3, l4, l5, l6, l7, l8, l9⟩ := oL.cells)
        | (go_at_call 52; refine (hlist _ (by first | exact bD | exact bL)).mono ?_; rintro e wi ⟨vi, rfl, hOi, hBi⟩; obtain ⟨ai, ci, rfl, hni, hci⟩ := hOi.slice; rw [List.length_map] at hOi; have bI : Below w3.heap.size w3 wi := (by first | exact bD.trans hBi | exact bL.trans (hBi.mono bL.size)); have oI := HOLD.out.below bI HG0.out.1 HG0.out.2; obtain ⟨i0, i1, i2, i3, i4, i5, i6, i7, i8, i9⟩ := oI.cells)
        | fail)
      all_goals go_wp2_with fail
      all_goals go_meet
      all_goals first
        | exact ⟨rfl, al, cl, _, SNew.mk' (len := len) (base := wl.heap.size) (wz := wi) oI (Nat.le_refl _) (Nat.lt_of_lt_of_le HG0.out.1 bL.size) (hTl.kb (KB.of_below hBi)) hcl hOi (HB03.out.trans (bI.mono HB03.out.size))⟩
        | exact ⟨rfl, al, cl, _, SNew.mk' (len := len) (base := w3.heap.size) (wz := wl) oL (Nat.le_refl _) HG0.out.1 hTl hcl (hOi.bel (fun _ _ h => h.kb (KB.of_below hBl)) hBl) (HB03.out.trans (bL.mono HB03.out.size))⟩
    case rest =>
      obtain ⟨rfl, na, nc, v, hN⟩ := hcut
      go_wp2
      refine bodyPost_ret (v := .tuple #[.agg #[.slice na len nc, .int .u16 (t : Int), .int .u32 (S.ttl : Int), v], .bool true]) (results_as Tryz.results23 _ _ w.heap.size _ rfl rfl hN.row) rfl ⟨hN.bel, Or.inr ⟨S, na, nc, v, hC, rfl, hN.ty, hN.le, hN.own⟩⟩
end Go.Proofs.YtdldaphkiphpnaaGreat
