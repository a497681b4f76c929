/- put, at any place; lay's inside. -/
import Derived.Test.YtidocfajhhpfdaaDoorJo2
import Derived.Test.YtidocfajhhpfdaaDoorJpu
namespace Go.Proofs.YtidocfajhhpfdaaDoor
open Go.RowKit
/- what lay's inside has at hand -/
structure LyW (D bj bJ bn bf bb be : Nat) (Hj N F : J.H) (v : Value) (W : World) : Prop where
  cj : RowAt W bj 31 #[.pointer (some ⟨bJ, 0, none⟩)]
  jr : RowAt W bJ 69 (jrow D Hj false)
  cn : RowAt W bn 67 (hrow N)
  cf : RowAt W bf 67 (hrow F)
  cb : RowAt W bb 22 #[v]
  ce : RowAt W be 33 #[.int .i64 0]
set_option maxRecDepth 5000 in
theorem LyW.below {D bj bJ bn bf bb be : Nat} {Hj N F : J.H} {v : Value} {w w' : World} (h : LyW D bj bJ bn bf bb be Hj N F v w) (hb : Below w.heap.size w w') : LyW D bj bJ bn bf bb be Hj N F v w' :=
  ⟨h.cj.below hb h.cj.lt, h.jr.below hb h.jr.lt, h.cn.below hb h.cn.lt, h.cf.below hb h.cf.lt, h.cb.below hb h.cb.lt, h.ce.below hb h.ce.lt⟩
set_option maxRecDepth 5000 in
theorem mvrow {D S M g : Nat} {s : K.St} {t : TypeId} {c : Array Value} {w w' : World} (h : RowAt w g t c) (hd : DiskAt FF w D S M s) (hm : Mv D S M w w') (h1 : g ≠ D) (h2 : g ≠ S) : RowAt w' g t c := by
  obtain ⟨sv, uv, hk⟩ := hd
  exact hm.row h h1 h2 (hk.un.row_ne h)
set_option maxRecDepth 5000 in
theorem LyW.mv {D S M bj bJ bn bf bb be : Nat} {s : K.St} {Hj N F : J.H} {v : Value} {w w' : World} (h : LyW D bj bJ bn bf bb be Hj N F v w) (hd : DiskAt FF w D S M s) (hm : Mv D S M w w') (hS : bb ≠ S) : LyW D bj bJ bn bf bb be Hj N F v w' := by
  obtain ⟨sv, uv, hk⟩ := id hd
  exact ⟨mvrow h.cj hd hm (hk.row.ne h.cj (by decide)).symm (hk.sure.ne h.cj (by decide)).symm, mvrow h.jr hd hm (hk.row.ne h.jr (by decide)).symm (hk.sure.ne h.jr (by decide)).symm, mvrow h.cn hd hm (hk.row.ne h.cn (by decide)).symm (hk.sure.ne h.cn (by decide)).symm, mvrow h.cf hd hm (hk.row.ne h.cf (by decide)).symm (hk.sure.ne h.cf (by decide)).symm, mvrow h.cb hd hm (hk.row.ne h.cb (by decide)).symm hS, mvrow h.ce hd hm (hk.row.ne h.ce (by decide)).symm (hk.sure.ne h.ce (by decide)).symm⟩
set_option maxRecDepth 5000 in
theorem synced_pw {s : K.St} (h : Pw s) : Pw s.synced := by unfold K.St.synced; rw [h.spent]; exact h
set_option maxRecDepth 5000 in
theorem synced_n {s : K.St} (h : Pw s) : s.synced.n = s.n := by unfold K.St.synced; rw [h.spent]
set_option maxRecDepth 5000 in
theorem synced_sz {s : K.St} (h : Pw s) : s.synced.sz = s.sz := by unfold K.St.synced; rw [h.spent]
namespace J
/- what is written where b goes behind the first u bytes of the area that begins at P: the last sector's part, and b -/
def bef (s : K.St) (P u : Nat) (b : List UInt8) : List UInt8 := (s.rd (P + u / s.sz)).take (u % s.sz) ++ b
def laid (s : K.St) (P u : Nat) (b : List UInt8) (k : Nat) : K.St := puts s (P + u / s.sz) (fun x => pad s.sz (((bef s P u b).drop (x * s.sz)).take s.sz)) (List.range k)
end J
set_option maxRecDepth 5000 in
theorem laid_keep {s : K.St} (P u : Nat) (b : List UInt8) (k : Nat) (h : Pw s) : Pw (J.laid s P u b k) ∧ (J.laid s P u b k).sz = s.sz ∧ (J.laid s P u b k).n = s.n := puts_keep _ _ h _
set_option maxRecDepth 5000 in
theorem put_any (w : World) (D S M : Nat) (s : K.St) (h : DiskAt FF w D S M s) (hp : Pw s) (hn : 8 ≤ s.n) (ar : Nat) (har : ar < 2) (u : Nat) (g o C : Nat) (b : List UInt8) (cs : Array Value) (hb : RowAt w g 5 cs) (hbc : ∀ j, j < b.length → cs[o + j]? = some (.int .u8 (b.getD j 0).toNat)) (hbC : b.length ≤ C) (hroom : u + b.length ≤ J.arb s) :
    Calls Tryd.prog 61 #[stv D, .int .i64 (ar : Int), .int .i64 (u : Int), .slice (some ⟨g, o, none⟩) b.length C] w fun e w' => e = .returned (.tuple #[]) ∧
      ∃ k, (J.bef s (2 + ar * J.ars s) u b).length ≤ k * s.sz ∧ k * s.sz < (J.bef s (2 + ar * J.ars s) u b).length + s.sz ∧ DiskAt FF w' D S M (J.laid s (2 + ar * J.ars s) u b k) ∧ Mv D S M w w' := by
  obtain ⟨hb1, hb2, hb3, hb4⟩ := h.bds
  have hdm := Nat.div_add_mod' u s.sz
  by_cases hr : u % s.sz = 0
  · have e : u = u / s.sz * s.sz := by omega
    have eb : J.bef s (2 + ar * J.ars s) u b = b := by unfold J.bef; rw [hr]; rfl
    have := put_zero w D S M s h hp hn ar har (u / s.sz) g o C b cs hb hbc hbC (by omega)
    rw [← e] at this
    unfold J.laid
    rw [eb]
    exact this
  · have := put_mid w D S M s h hp hn ar har (u / s.sz) (u % s.sz) (by omega) (Nat.mod_lt _ (by omega)) g o C b cs hb hbc (by omega) _ rfl
    rw [hdm] at this
    exact this
set_option maxHeartbeats 4000000 in
set_option maxRecDepth 5000 in
theorem lay1_any (w : World) (ht : Tab w) (D S M bj bJ bn bf bb be : Nat) (s : K.St) (Hj N F : J.H) (hN : HOk N) (hF : F.a < 2) (g o C : Nat) (b : List UInt8) (cs : Array Value) (hb : RowAt w g 5 cs) (hbc : ∀ j, j < b.length → cs[o + j]? = some (.int .u8 (b.getD j 0).toNat)) (hbC : b.length ≤ C)
    (hw : LyW D bj bJ bn bf bb be Hj N F (.slice (some ⟨g, o, none⟩) b.length C) w) (hd : DiskAt FF w D S M s) (hp : Pw s) (hn : 8 ≤ s.n) (hroom : F.u + b.length ≤ J.arb s) (hS : bb ≠ S) (hT0 : 0 < D ∧ 0 < S ∧ 0 < M) :
    Calls Tryd.prog 58 #[.pointer (some ⟨bj, 0, none⟩), .pointer (some ⟨bn, 0, none⟩), .pointer (some ⟨bf, 0, none⟩), .pointer (some ⟨bb, 0, none⟩)] w fun e w' => e = .returned (.tuple #[]) ∧ ∃ k M', (J.bef s (2 + F.a * J.ars s) F.u b).length ≤ k * s.sz ∧ k * s.sz < (J.bef s (2 + F.a * J.ars s) F.u b).length + s.sz ∧ LyW D bj bJ bn bf bb be Hj N F (.slice (some ⟨g, o, none⟩) b.length C) w' ∧ DiskAt FF w' D S M' (((J.laid s (2 + F.a * J.ars s) F.u b k).synced.put (N.c % 2) (J.hb N s.sz)).synced) ∧ Mv D S M w w' ∧ w.heap.size ≤ M' := by
  have x0 : w.cell? ⟨bj, 0, none⟩ = some (.pointer (some ⟨bJ, 0, none⟩)) := hw.cj.cell 0
  have x1 : w.cell? ⟨bJ, 0, none⟩ = some (.pointer (some ⟨D, 0, none⟩)) := hw.jr.cell 0
  have x2 : w.cell? ⟨bJ, 5, none⟩ = some (.bool false) := hw.jr.cell 5
  have y1 : w.cell? ⟨bf, 1, none⟩ = some (.int .i64 (F.a : Int)) := hw.cf.cell 1
  have y2 : w.cell? ⟨bf, 2, none⟩ = some (.int .i64 (F.u : Int)) := hw.cf.cell 2
  have y3 : w.cell? ⟨bb, 0, none⟩ = some (.slice (some ⟨g, o, none⟩) b.length C) := hw.cb.cell 0
  have hpt : ∀ W, DiskAt FF W D S M s → RowAt W g 5 cs → Calls Tryd.prog 61 #[.agg #[.pointer (some ⟨D, 0, none⟩)], .int .i64 (F.a : Int), .int .i64 (F.u : Int), .slice (some ⟨g, o, none⟩) b.length C] W fun e w' => e = .returned (.tuple #[]) ∧ ∃ k, (J.bef s (2 + F.a * J.ars s) F.u b).length ≤ k * s.sz ∧ k * s.sz < (J.bef s (2 + F.a * J.ars s) F.u b).length + s.sz ∧ DiskAt FF w' D S M (J.laid s (2 + F.a * J.ars s) F.u b k) ∧ Mv D S M W w' := fun W h1 h2 => by
    exact put_any W D S M s h1 hp hn F.a hF F.u g o C b cs h2 hbc hbC hroom
  have HW := hide hw
  have HD := hide hd
  have HT := hide ht
  have HB := hide hb
  have HP := hide hp
  clear hw hd ht hb hp
  go_enter Tryd.func58, Tryd.ntmps58
  go_wp2
  go_region_held3 (fun w' => w'.cell? ⟨bj, 0, none⟩ = some (.pointer (some ⟨bJ, 0, none⟩)) ∧ w'.cell? ⟨bJ, 0, none⟩ = some (.pointer (some ⟨D, 0, none⟩)) ∧ w'.cell? ⟨bf, 1, none⟩ = some (.int .i64 (F.a : Int)) ∧ w'.cell? ⟨bf, 2, none⟩ = some (.int .i64 (F.u : Int)) ∧ w'.cell? ⟨bb, 0, none⟩ = some (.slice (some ⟨g, o, none⟩) b.length C)) (first | exact ⟨x0, x1, y1, y2, y3⟩ | exact cc2.out | fail) (first
    | (go_at_call 61; refine (hpt _ (by first | exact HD.out | exact DiskAt.drewN HD.out _) (by exact HB.out)).mono ?_; rintro e w2 ⟨rfl, k, hk1, hk2, D2, M2⟩; have M2a : Mv D S M w w2 := ⟨M2.os, M2.tape, M2.output, M2.size, M2.block⟩; have W2 := hide (HW.out.mv HD.out M2a hS); have DD2 := hide D2; have MM2 := hide M2a; have cc2 := hide (And.intro (W2.out.cj.cell 0) (And.intro (W2.out.jr.cell 0) (And.intro (W2.out.cf.cell 1) (And.intro (W2.out.cf.cell 2) (W2.out.cb.cell 0))))); clear D2 M2 M2a))
  obtain ⟨sP, hsP⟩ : ∃ sP, sP = J.laid s (2 + F.a * J.ars s) F.u b k := ⟨_, rfl⟩
  have hkp := laid_keep (2 + F.a * J.ars s) F.u b k HP.out
  rw [← hsP] at DD2 hkp
  have HSP := hide hsP
  have HKP := hide hkp
  have HK1 := hide hk1
  have HK2 := hide hk2
  clear hsP hkp hk1 hk2 x0 x1 x2 y1 y2 y3 cc2 hpt
  have c0 : w2.cell? ⟨bj, 0, none⟩ = some (.pointer (some ⟨bJ, 0, none⟩)) := W2.out.cj.cell 0
  have c1 : w2.cell? ⟨bJ, 0, none⟩ = some (.pointer (some ⟨D, 0, none⟩)) := W2.out.jr.cell 0
  have hsy := ssync_ok w2 D S M sP DD2.out HKP.out.1
  unfold stv at hsy
  go_wp2_with (go_at_call 34; refine hsy.mono ?_; rintro e w3 ⟨rfl, M3, D3, Mv3, z3⟩; have W3 := hide (W2.out.mv DD2.out Mv3 hS); have DD3 := hide D3; have MM3 := hide (MM2.out.trans Mv3 (Or.inl rfl)); have ZZ3 := hide z3; clear D3 Mv3 z3)
  have hz3 : w.heap.size ≤ M3 := Nat.le_trans MM2.out.size ZZ3.out
  have T3 := hide (HT.out.mv MM3.out hT0.1 hT0.2.1 hT0.2.2)
  have Ps : Hid (Pw sP.synced ∧ sP.synced.sz = s.sz ∧ sP.synced.n = s.n) := ⟨synced_pw HKP.out.1, by rw [synced_sz HKP.out.1, HKP.out.2.1], by rw [synced_n HKP.out.1, HKP.out.2.2]⟩
  obtain ⟨Nc, Na, Nu, Nb⟩ := N
  have e0 : w3.cell? ⟨bj, 0, none⟩ = some (.pointer (some ⟨bJ, 0, none⟩)) := W3.out.cj.cell 0
  have e1 : w3.cell? ⟨bJ, 0, none⟩ = some (.pointer (some ⟨D, 0, none⟩)) := W3.out.jr.cell 0
  have n0 : w3.cell? ⟨bn, 0, none⟩ = some (.int .u64 (Nc : Int)) := W3.out.cn.cell 0
  have n1 : w3.cell? ⟨bn, 1, none⟩ = some (.int .i64 (Na : Int)) := W3.out.cn.cell 1
  have n2 : w3.cell? ⟨bn, 2, none⟩ = some (.int .i64 (Nu : Int)) := W3.out.cn.cell 2
  have n3 : w3.cell? ⟨bn, 3, none⟩ = some (.int .i64 (Nb : Int)) := W3.out.cn.cell 3
  have hsl : ∀ W, Calls Tryd.prog 60 #[.agg #[.int .u64 (Nc : Int), .int .i64 (Na : Int), .int .i64 (Nu : Int), .int .i64 (Nb : Int)]] W fun e w' => e = .returned (.int .i64 ((Nc % 2 : Nat) : Int)) ∧ Below W.heap.size W w' := fun W => slot_any W ⟨Nc, Na, Nu, Nb⟩ hN
  have hph : ∀ W, Tab W → DiskAt FF W D S M3 sP.synced → Calls Tryd.prog 62 #[.agg #[.pointer (some ⟨D, 0, none⟩)], .int .i64 ((Nc % 2 : Nat) : Int), .agg #[.int .u64 (Nc : Int), .int .i64 (Na : Int), .int .i64 (Nu : Int), .int .i64 (Nb : Int)]] W fun e w' => e = .returned (.tuple #[]) ∧ DiskAt FF w' D S M3 (sP.synced.put (Nc % 2) (J.hb ⟨Nc, Na, Nu, Nb⟩ s.sz)) ∧ Mv D S M3 W w' := fun W h1 h2 => by
    have := putHead_ok W h1 D S M3 sP.synced h2 Ps.out.1 (Nc % 2) (by rw [Ps.out.2.2]; omega) ⟨Nc, Na, Nu, Nb⟩ hN
    rw [Ps.out.2.1] at this; exact this
  obtain ⟨sl, hsle⟩ : ∃ sl, sl = Nc % 2 := ⟨_, rfl⟩
  rw [← hsle] at hsl hph
  have HSL := hide hsle
  clear hsle c0 c1 hsy
  go_wp2
  go_region_held3 (fun w' => w'.cell? ⟨bj, 0, none⟩ = some (.pointer (some ⟨bJ, 0, none⟩)) ∧ w'.cell? ⟨bJ, 0, none⟩ = some (.pointer (some ⟨D, 0, none⟩)) ∧ w'.cell? ⟨bn, 0, none⟩ = some (.int .u64 (Nc : Int)) ∧ w'.cell? ⟨bn, 1, none⟩ = some (.int .i64 (Na : Int)) ∧ w'.cell? ⟨bn, 2, none⟩ = some (.int .i64 (Nu : Int)) ∧ w'.cell? ⟨bn, 3, none⟩ = some (.int .i64 (Nb : Int))) (first | exact ⟨e0, e1, n0, n1, n2, n3⟩ | exact cc4.out | exact cc5.out | fail) (first
    | (go_at_call 60; refine (hsl _).mono ?_; rintro e w4 ⟨rfl, b4⟩; have b4a := below_rx (w := w3) b4 rfl rfl rfl rfl; have W4 := hide (W3.out.below b4a); have D4 := hide (DD3.out.below b4a (Nat.le_refl _)); have MM4 := hide (MM3.out.belowB b4a MM3.out.size); have T4 := hide (T3.out.below b4a T3.out.1); have cc4 := hide (And.intro (W4.out.cj.cell 0) (And.intro (W4.out.jr.cell 0) (And.intro (W4.out.cn.cell 0) (And.intro (W4.out.cn.cell 1) (And.intro (W4.out.cn.cell 2) (W4.out.cn.cell 3)))))); clear b4 b4a)
    | (go_at_call 62; refine (hph _ (by exact T4.out) (by first | exact D4.out | exact DiskAt.drewN D4.out _)).mono ?_; rintro e w5 ⟨rfl, D5, M5⟩; have M5a : Mv D S M3 w4 w5 := ⟨M5.os, M5.tape, M5.output, M5.size, M5.block⟩; have W5 := hide (W4.out.mv D4.out M5a hS); have DD5 := hide D5; have MM5 := hide (MM4.out.trans M5a (Or.inr hz3)); have cc5 := hide (And.intro (W5.out.cj.cell 0) (And.intro (W5.out.jr.cell 0) (And.intro (W5.out.cn.cell 0) (And.intro (W5.out.cn.cell 1) (And.intro (W5.out.cn.cell 2) (W5.out.cn.cell 3)))))); clear D5 M5 M5a))
  all_goals (have g0 : w5.cell? ⟨bj, 0, none⟩ = some (.pointer (some ⟨bJ, 0, none⟩)) := W5.out.cj.cell 0; have g1 : w5.cell? ⟨bJ, 0, none⟩ = some (.pointer (some ⟨D, 0, none⟩)) := W5.out.jr.cell 0; have hsy2 := ssync_ok w5 D S M3 _ DD5.out (put_pw Ps.out.1 _ _); unfold stv at hsy2; clear cc4 cc5 e0 e1 n0 n1 n2 n3 hsl hph)
  all_goals go_wp2_with (go_at_call 34; refine hsy2.mono ?_; rintro e w6 ⟨rfl, M6, D6, Mv6, z6⟩; have W6 := hide (W5.out.mv DD5.out Mv6 hS); have DD6 := hide D6; have MM6 := hide (MM5.out.trans Mv6 (Or.inr hz3)); have ZZ6 := hide z6; clear D6 Mv6 z6)
  all_goals go_end0
  all_goals exact ⟨rfl, k, HK1.out, HK2.out, W6.out, M6, by rw [← HSP.out, ← HSL.out]; exact DD6.out, MM6.out, Nat.le_trans MM5.out.size ZZ6.out⟩
end Go.Proofs.YtidocfajhhpfdaaDoor

/- frames of records that are all empty; frames, as a row. -/
namespace Go.Proofs.YtidocfajhhpfdaaDoor
open Go.RowKit
set_option maxRecDepth 5000 in
theorem J.fsz_zero {L : List (List UInt8)} (h : J.fsz L = 0) (k : Nat) : L.getD k [] = [] := by
  by_cases hk : k < L.length
  · have h1 := J.fsz_take L (k + 1)
    rw [take_snoc L k hk, J.fsz_snoc, h] at h1
    by_cases e : L.getD k [] = []
    · exact e
    · rw [if_neg e] at h1; omega
  · simp [List.getD_eq_getElem?_getD, List.getElem?_eq_none (by omega : L.length ≤ k)]
set_option maxHeartbeats 2000000 in
set_option maxRecDepth 5000 in
theorem frames_zero (w : World) (ao : Option Addr) (c B : Nat) (L : List (List UInt8)) (hz : J.fsz L = 0) (hl2 : L.length ≤ 1000000000) (hs : SlBs w ao L) :
    Calls Tryd.prog 57 #[.int .i64 (B : Int), .slice ao L.length c] w fun e w' => e = .returned (.slice (some ⟨w.heap.size, 0, none⟩) 0 0) ∧ RowAt w' w.heap.size 5 #[] ∧ Below w.heap.size w w' := by
  have HS := hide hs
  have hfs := framesSize_any w ao c L (by omega) (by omega) hs
  have hmk := make_cap (J.fsz L) (by omega)
  have hE := hide (J.fsz_zero hz)
  obtain ⟨N, hN⟩ : ∃ N, N = J.fsz L := ⟨_, rfl⟩
  rw [← hN] at hfs hmk hz
  have HN := hide hz
  have R0 : Hid (RowAt (w.alloc (.cells (vb (List.replicate N 0)).toArray 5)) w.heap.size 5 (vb (List.replicate N 0)).toArray) := RowAt.new w _ _
  have B0 : Hid (Below w.heap.size w (w.alloc (.cells (vb (List.replicate N 0)).toArray 5))) := (Below.refl _ w).alloc (Nat.le_refl _) _
  clear hs hz hN
  generalize (Obj.cells (vb (List.replicate N 0)).toArray 5) = ob at hmk R0 B0
  go_enter Tryd.func57, Tryd.ntmps57
  go_wp2_with (go_at_call 56; refine hfs.mono ?_; rintro e w' ⟨rfl, hw⟩; rw [hw]; clear hw w')
  go_loopw [5, 14] (fun v i wr => ∃ k : Nat, k ≤ L.length ∧ i = .int .i64 (k : Int) ∧ v = .slice (some ⟨w.heap.size, 0, none⟩) 0 N ∧ wr = w.alloc ob) (fun v i wr => L.length - (intOf i).toNat)
  case atStart => exact ⟨0, by omega, rfl, rfl, rfl⟩
  case round =>
    obtain ⟨k, hk, rfl, rfl, hw⟩ := hrel
    rw [hw]
    clear hw
    by_cases hlt : k < L.length
    · obtain ⟨b, o, rfl, hb, hc⟩ := HS.out (by omega)
      obtain ⟨a, c2, c1, hx, hxn⟩ := hc k hlt
      replace c1 := (B0.out.cell (p := ⟨b, o + k, none⟩) hb).trans c1
      rw [hE.out k] at c1
      have hlt' : (k : Int) < (L.length : Int) := by omega
      clear hc hx hxn
      go_wp2
      go_roundw
      case rel => exact ⟨k + 1, by omega, by go_num, rfl, trivial⟩
      case measure => simp [intOf]; omega
    · have hlt' : ¬ (k : Int) < (L.length : Int) := by omega
      go_wp2
      go_ret
      have h0 := HN.out
      subst h0
      exact ⟨rfl, R0.out, B0.out⟩
set_option maxRecDepth 5000 in
theorem frames_row (w : World) (ht : Tab w) (ao : Option Addr) (c B : Nat) (L : List (List UInt8)) (hl : J.fsz L ≤ 1000000000) (hl2 : L.length ≤ 1000000000) (hB : B ≤ 1000000000000) (hs : SlBs w ao L) :
    Calls Tryd.prog 57 #[.int .i64 (B : Int), .slice ao L.length c] w fun e w' => ∃ g c', e = .returned (.slice (some ⟨g, 0, none⟩) (J.fsz L) c') ∧ J.fsz L ≤ c' ∧ (∃ cs, RowAt w' g 5 cs ∧ ∀ j, j < J.fsz L → cs[0 + j]? = some (.int .u8 ((J.enc (J.frl B L)).getD j 0).toNat)) ∧ Below w.heap.size w w' := by
  have hel := J.frl_len B L
  by_cases hz : J.fsz L = 0
  · refine (frames_zero w ao c B L hz hl2 hs).mono ?_
    rintro e w' ⟨rfl, h1, h2⟩
    exact ⟨_, 0, by rw [hz], by omega, ⟨_, h1, fun j hj => by omega⟩, h2⟩
  · refine (frames_any w ht ao c B L hl hl2 hB hs).mono ?_
    rintro e w' ⟨v, rfl, hO, hb⟩
    obtain ⟨g, c', hv, _, hc, _⟩ := hO.form (by omega)
    rw [hel] at hv hc
    rw [hv] at hO ⊢
    obtain ⟨g', o', cs, hga, hgr, hgc⟩ := hO.slu (by omega)
    obtain ⟨rfl, rfl⟩ : g = g' ∧ 0 = o' := by injection hga with hga; injection hga with h1 h2; exact ⟨h1, h2⟩
    exact ⟨g, c', rfl, hc, ⟨cs, hgr, fun j hj => hgc j (by omega)⟩, hb⟩
end Go.Proofs.YtidocfajhhpfdaaDoor
