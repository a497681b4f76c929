/- lay's inside, where the power may fail. -/
import Derived.Test.YtidocfajhhpfdaaDoorJpe
import Derived.Test.YtidocfajhhpfdaaDoorJly
namespace Go.Proofs.YtidocfajhhpfdaaDoor
open Go.RowKit
set_option maxRecDepth 5000 in
theorem synced_alive {s : K.St} (hc : s.can = true) (hd : s.dead = false) : s.synced.dead = false := by
  unfold K.St.synced K.St.spent
  rw [if_pos hc]; exact hd
set_option maxRecDepth 5000 in
theorem synced_same (s : K.St) : s.synced.sz = s.sz ∧ s.synced.n = s.n := ⟨spent_sz s, spent_n s⟩
set_option maxRecDepth 5000 in
theorem laid_same (s : K.St) (P u : Nat) (b : List UInt8) (k : Nat) : (J.laid s P u b k).sz = s.sz ∧ (J.laid s P u b k).n = s.n := puts_same _ _ s _
/- the disk as it stood when the power failed: some of the sectors were written, or all were, and were made sure, and the head was written or not -/
def J.Broke (s : K.St) (P u : Nat) (b : List UInt8) (N : J.H) (t : K.St) : Prop :=
  t.dead = false ∧ t.can = false ∧ ((∃ j, j * s.sz < (J.bef s P u b).length + s.sz ∧ t = J.laid s P u b j) ∨
    (∃ k, (J.bef s P u b).length ≤ k * s.sz ∧ k * s.sz < (J.bef s P u b).length + s.sz ∧ (t = (J.laid s P u b k).synced ∨ t = (J.laid s P u b k).synced.put (N.c % 2) (J.hb N s.sz))))
set_option maxHeartbeats 4000000 in
set_option maxRecDepth 5000 in
theorem lay1_two (w : World) (ht : Tab w) (D S M bj bJ bn bf bb be : Nat) (s : K.St) (Hj N F : J.H) (hN : HOk N) (hF : F.a < 2) (g o C : Nat) (b : List UInt8) (cs : Array Value) (hb : RowAt w g 5 cs) (hbc : ∀ j, j < b.length → cs[o + j]? = some (.int .u8 (b.getD j 0).toNat)) (hbC : b.length ≤ C)
    (hw : LyW D bj bJ bn bf bb be Hj N F (.slice (some ⟨g, o, none⟩) b.length C) w) (hd : DiskAt FF w D S M s) (hp : s.dead = false) (hn : 8 ≤ s.n) (hroom : F.u + b.length ≤ J.arb s) (hS : bb ≠ S) (hT0 : 0 < D ∧ 0 < S ∧ 0 < M) :
    Calls Tryd.prog 58 #[.pointer (some ⟨bj, 0, none⟩), .pointer (some ⟨bn, 0, none⟩), .pointer (some ⟨bf, 0, none⟩), .pointer (some ⟨bb, 0, none⟩)] w fun e w' => (e = .returned (.tuple #[]) ∧ ∃ k M', (J.bef s (2 + F.a * J.ars s) F.u b).length ≤ k * s.sz ∧ k * s.sz < (J.bef s (2 + F.a * J.ars s) F.u b).length + s.sz ∧ LyW D bj bJ bn bf bb be Hj N F (.slice (some ⟨g, o, none⟩) b.length C) w' ∧ DiskAt FF w' D S M' (((J.laid s (2 + F.a * J.ars s) F.u b k).synced.put (N.c % 2) (J.hb N s.sz)).synced) ∧ ((J.laid s (2 + F.a * J.ars s) F.u b k).can = true ∧ (J.laid s (2 + F.a * J.ars s) F.u b k).synced.can = true ∧ ((J.laid s (2 + F.a * J.ars s) F.u b k).synced.put (N.c % 2) (J.hb N s.sz)).can = true ∧ (((J.laid s (2 + F.a * J.ars s) F.u b k).synced.put (N.c % 2) (J.hb N s.sz)).synced).dead = false) ∧ Mv D S M w w' ∧ w.heap.size ≤ M') ∨
      (e = fell 82 ∧ ∃ t M', J.Broke s (2 + F.a * J.ars s) F.u b N t ∧ LyW D bj bJ bn bf bb be Hj N F (.slice (some ⟨g, o, none⟩) b.length C) w' ∧ DiskAt FF w' D S M' t.spent ∧ Mv D S M w w' ∧ (M' = M ∨ w.heap.size ≤ M')) := by
  have x0 : w.cell? ⟨bj, 0, none⟩ = some (.pointer (some ⟨bJ, 0, none⟩)) := hw.cj.cell 0
  have x1 : w.cell? ⟨bJ, 0, none⟩ = some (.pointer (some ⟨D, 0, none⟩)) := hw.jr.cell 0
  have x2 : w.cell? ⟨bJ, 5, none⟩ = some (.bool false) := hw.jr.cell 5
  have y1 : w.cell? ⟨bf, 1, none⟩ = some (.int .i64 (F.a : Int)) := hw.cf.cell 1
  have y2 : w.cell? ⟨bf, 2, none⟩ = some (.int .i64 (F.u : Int)) := hw.cf.cell 2
  have y3 : w.cell? ⟨bb, 0, none⟩ = some (.slice (some ⟨g, o, none⟩) b.length C) := hw.cb.cell 0
  have hpt : ∀ W, DiskAt FF W D S M s → RowAt W g 5 cs → Calls Tryd.prog 61 #[.agg #[.pointer (some ⟨D, 0, none⟩)], .int .i64 (F.a : Int), .int .i64 (F.u : Int), .slice (some ⟨g, o, none⟩) b.length C] W fun e w' => (e = .returned (.tuple #[]) ∧ ∃ k, (J.bef s (2 + F.a * J.ars s) F.u b).length ≤ k * s.sz ∧ k * s.sz < (J.bef s (2 + F.a * J.ars s) F.u b).length + s.sz ∧ DiskAt FF w' D S M (J.laid s (2 + F.a * J.ars s) F.u b k) ∧ (J.laid s (2 + F.a * J.ars s) F.u b k).dead = false ∧ Mv D S M W w') ∨
      (e = fell 82 ∧ ∃ j, j * s.sz < (J.bef s (2 + F.a * J.ars s) F.u b).length ∧ (J.laid s (2 + F.a * J.ars s) F.u b j).can = false ∧ (J.laid s (2 + F.a * J.ars s) F.u b j).dead = false ∧ DiskAt FF w' D S M (J.laid s (2 + F.a * J.ars s) F.u b j).spent ∧ Mv D S M W w') := fun W h1 h2 => by
    exact put_any2 W D S M s h1 hp hn F.a hF F.u g o C b cs h2 hbc hbC hroom
  have HW := hide hw
  have HD := hide hd
  have HT := hide ht
  have HB := hide hb
  have HP := hide hp
  clear hw hd ht hb hp
  go_enter Tryd.func58, Tryd.ntmps58
  go_wp2
  go_region_held2 (fun w' => w'.cell? ⟨bj, 0, none⟩ = some (.pointer (some ⟨bJ, 0, none⟩)) ∧ w'.cell? ⟨bJ, 0, none⟩ = some (.pointer (some ⟨D, 0, none⟩)) ∧ w'.cell? ⟨bf, 1, none⟩ = some (.int .i64 (F.a : Int)) ∧ w'.cell? ⟨bf, 2, none⟩ = some (.int .i64 (F.u : Int)) ∧ w'.cell? ⟨bb, 0, none⟩ = some (.slice (some ⟨g, o, none⟩) b.length C)) (first | exact ⟨x0, x1, y1, y2, y3⟩ | exact cc2.out | fail) (first
    | (go_at_call 61; refine (hpt _ (by first | exact HD.out | exact DiskAt.drewN HD.out _) (by exact HB.out)).mono ?_; rintro e w2 (⟨rfl, k, hk1, hk2, D2, dd2, M2⟩ | ⟨rfl, j, hj, hc, hdd, D2, M2⟩); rotate_left; (have M2b : Mv D S M w w2 := ⟨M2.os, M2.tape, M2.output, M2.size, M2.block⟩; unfold fell; exact ⟨rfl, Or.inr ⟨rfl, _, M, ⟨hdd, hc, Or.inl ⟨j, Nat.lt_of_lt_of_le hj (Nat.le_add_right _ _), rfl⟩⟩, HW.out.mv HD.out M2b hS, D2, M2b, Or.inl rfl⟩⟩); have M2a : Mv D S M w w2 := ⟨M2.os, M2.tape, M2.output, M2.size, M2.block⟩; have W2 := hide (HW.out.mv HD.out M2a hS); have DD2 := hide D2; have MM2 := hide M2a; have cc2 := hide (And.intro (W2.out.cj.cell 0) (And.intro (W2.out.jr.cell 0) (And.intro (W2.out.cf.cell 1) (And.intro (W2.out.cf.cell 2) (W2.out.cb.cell 0))))); clear D2 M2 M2a))
  obtain ⟨sP, hsP⟩ : ∃ sP, sP = J.laid s (2 + F.a * J.ars s) F.u b k := ⟨_, rfl⟩
  have hkp := laid_same s (2 + F.a * J.ars s) F.u b k
  rw [← hsP] at DD2 hkp dd2
  have HDD := hide dd2
  have HSP := hide hsP
  have HKP := hide hkp
  have HK1 := hide hk1
  have HK2 := hide hk2
  clear hsP hkp dd2 hk1 hk2 x0 x1 x2 y1 y2 y3 cc2 hpt
  have c0 : w2.cell? ⟨bj, 0, none⟩ = some (.pointer (some ⟨bJ, 0, none⟩)) := W2.out.cj.cell 0
  have c1 : w2.cell? ⟨bJ, 0, none⟩ = some (.pointer (some ⟨D, 0, none⟩)) := W2.out.jr.cell 0
  have hsy := ssync_two w2 D S M sP DD2.out HDD.out
  unfold stv at hsy
  go_wp2_with (go_at_call 34; refine hsy.mono ?_; rintro e w3 (⟨rfl, hc3, M3, D3, Mv3, z3⟩ | ⟨rfl, hc3, D3, Mv3⟩); rotate_left; (unfold fell; exact ⟨rfl, Or.inr ⟨rfl, _, M, ⟨HDD.out, hc3, Or.inl ⟨k, HK2.out, HSP.out⟩⟩, W2.out.mv DD2.out Mv3 hS, D3, MM2.out.trans Mv3 (Or.inl rfl), Or.inl rfl⟩⟩); have HC3 := hide hc3; clear hc3; have W3 := hide (W2.out.mv DD2.out Mv3 hS); have DD3 := hide D3; have MM3 := hide (MM2.out.trans Mv3 (Or.inl rfl)); have ZZ3 := hide z3; clear D3 Mv3 z3)
  have hz3 : w.heap.size ≤ M3 := Nat.le_trans MM2.out.size ZZ3.out
  have T3 := hide (HT.out.mv MM3.out hT0.1 hT0.2.1 hT0.2.2)
  have Ps : Hid (sP.synced.dead = false ∧ sP.synced.sz = s.sz ∧ sP.synced.n = s.n) := ⟨synced_alive HC3.out HDD.out, by rw [(synced_same sP).1, HKP.out.1], by rw [(synced_same sP).2, HKP.out.2]⟩
  obtain ⟨Nc, Na, Nu, Nb⟩ := N
  have e0 : w3.cell? ⟨bj, 0, none⟩ = some (.pointer (some ⟨bJ, 0, none⟩)) := W3.out.cj.cell 0
  have e1 : w3.cell? ⟨bJ, 0, none⟩ = some (.pointer (some ⟨D, 0, none⟩)) := W3.out.jr.cell 0
  have n0 : w3.cell? ⟨bn, 0, none⟩ = some (.int .u64 (Nc : Int)) := W3.out.cn.cell 0
  have n1 : w3.cell? ⟨bn, 1, none⟩ = some (.int .i64 (Na : Int)) := W3.out.cn.cell 1
  have n2 : w3.cell? ⟨bn, 2, none⟩ = some (.int .i64 (Nu : Int)) := W3.out.cn.cell 2
  have n3 : w3.cell? ⟨bn, 3, none⟩ = some (.int .i64 (Nb : Int)) := W3.out.cn.cell 3
  have hsl : ∀ W, Calls Tryd.prog 60 #[.agg #[.int .u64 (Nc : Int), .int .i64 (Na : Int), .int .i64 (Nu : Int), .int .i64 (Nb : Int)]] W fun e w' => e = .returned (.int .i64 ((Nc % 2 : Nat) : Int)) ∧ Below W.heap.size W w' := fun W => slot_any W ⟨Nc, Na, Nu, Nb⟩ hN
  have hph : ∀ W, Tab W → DiskAt FF W D S M3 sP.synced → Calls Tryd.prog 62 #[.agg #[.pointer (some ⟨D, 0, none⟩)], .int .i64 ((Nc % 2 : Nat) : Int), .agg #[.int .u64 (Nc : Int), .int .i64 (Na : Int), .int .i64 (Nu : Int), .int .i64 (Nb : Int)]] W fun e w' => (e = .returned (.tuple #[]) ∧ sP.synced.can = true ∧ DiskAt FF w' D S M3 (sP.synced.put (Nc % 2) (J.hb ⟨Nc, Na, Nu, Nb⟩ s.sz)) ∧ Mv D S M3 W w') ∨ (e = fell 82 ∧ sP.synced.can = false ∧ DiskAt FF w' D S M3 sP.synced.spent ∧ Mv D S M3 W w') := fun W h1 h2 => by
    have := putHead_two W h1 D S M3 sP.synced h2 Ps.out.1 (Nc % 2) (by rw [Ps.out.2.2]; omega) ⟨Nc, Na, Nu, Nb⟩ hN
    rw [Ps.out.2.1] at this; exact this
  obtain ⟨sl, hsle⟩ : ∃ sl, sl = Nc % 2 := ⟨_, rfl⟩
  rw [← hsle] at hsl hph
  have HSL := hide hsle
  clear hsle c0 c1 hsy
  go_wp2
  go_region_held2 (fun w' => w'.cell? ⟨bj, 0, none⟩ = some (.pointer (some ⟨bJ, 0, none⟩)) ∧ w'.cell? ⟨bJ, 0, none⟩ = some (.pointer (some ⟨D, 0, none⟩)) ∧ w'.cell? ⟨bn, 0, none⟩ = some (.int .u64 (Nc : Int)) ∧ w'.cell? ⟨bn, 1, none⟩ = some (.int .i64 (Na : Int)) ∧ w'.cell? ⟨bn, 2, none⟩ = some (.int .i64 (Nu : Int)) ∧ w'.cell? ⟨bn, 3, none⟩ = some (.int .i64 (Nb : Int))) (first | exact ⟨e0, e1, n0, n1, n2, n3⟩ | exact cc4.out | exact cc5.out | fail) (first
    | (go_at_call 60; refine (hsl _).mono ?_; rintro e w4 ⟨rfl, b4⟩; have b4a := below_rx (w := w3) b4 rfl rfl rfl rfl; have W4 := hide (W3.out.below b4a); have D4 := hide (DD3.out.below b4a (Nat.le_refl _)); have MM4 := hide (MM3.out.belowB b4a MM3.out.size); have T4 := hide (T3.out.below b4a T3.out.1); have cc4 := hide (And.intro (W4.out.cj.cell 0) (And.intro (W4.out.jr.cell 0) (And.intro (W4.out.cn.cell 0) (And.intro (W4.out.cn.cell 1) (And.intro (W4.out.cn.cell 2) (W4.out.cn.cell 3)))))); clear b4 b4a)
    | (go_at_call 62; refine (hph _ (by exact T4.out) (by first | exact D4.out | exact DiskAt.drewN D4.out _)).mono ?_; rintro e w5 (⟨rfl, hc5, D5, M5⟩ | ⟨rfl, hc5, D5, M5⟩); rotate_left; (have M5b : Mv D S M3 w4 w5 := ⟨M5.os, M5.tape, M5.output, M5.size, M5.block⟩; unfold fell; exact ⟨rfl, Or.inr ⟨rfl, _, M3, ⟨Ps.out.1, hc5, Or.inr ⟨k, HK1.out, HK2.out, Or.inl (by rw [← HSP.out])⟩⟩, W4.out.mv D4.out M5b hS, D5, MM4.out.trans M5b (Or.inr hz3), Or.inr hz3⟩⟩); have HC5 := hide hc5; clear hc5; have M5a : Mv D S M3 w4 w5 := ⟨M5.os, M5.tape, M5.output, M5.size, M5.block⟩; have W5 := hide (W4.out.mv D4.out M5a hS); have DD5 := hide D5; have MM5 := hide (MM4.out.trans M5a (Or.inr hz3)); have cc5 := hide (And.intro (W5.out.cj.cell 0) (And.intro (W5.out.jr.cell 0) (And.intro (W5.out.cn.cell 0) (And.intro (W5.out.cn.cell 1) (And.intro (W5.out.cn.cell 2) (W5.out.cn.cell 3)))))); clear D5 M5 M5a))
  all_goals (have g0 : w5.cell? ⟨bj, 0, none⟩ = some (.pointer (some ⟨bJ, 0, none⟩)) := W5.out.cj.cell 0; have g1 : w5.cell? ⟨bJ, 0, none⟩ = some (.pointer (some ⟨D, 0, none⟩)) := W5.out.jr.cell 0; have hsy2 := ssync_two w5 D S M3 _ DD5.out (put_alive HC5.out Ps.out.1 _ _); unfold stv at hsy2; clear cc4 cc5 e0 e1 n0 n1 n2 n3 hsl hph)
  all_goals go_wp2_with (go_at_call 34; refine hsy2.mono ?_; rintro e w6 (⟨rfl, hc6, M6, D6, Mv6, z6⟩ | ⟨rfl, hc6, D6, Mv6⟩); rotate_left; (unfold fell; exact ⟨rfl, Or.inr ⟨rfl, _, M3, ⟨put_alive HC5.out Ps.out.1 _ _, hc6, Or.inr ⟨k, HK1.out, HK2.out, Or.inr (by rw [← HSP.out, ← HSL.out])⟩⟩, W5.out.mv DD5.out Mv6 hS, D6, MM5.out.trans Mv6 (Or.inr hz3), Or.inr hz3⟩⟩); have HC6 := hide hc6; clear hc6; have W6 := hide (W5.out.mv DD5.out Mv6 hS); have DD6 := hide D6; have MM6 := hide (MM5.out.trans Mv6 (Or.inr hz3)); have ZZ6 := hide z6; clear D6 Mv6 z6)
  all_goals go_end0
  all_goals exact Or.inl ⟨rfl, k, HK1.out, HK2.out, W6.out, M6, by rw [← HSP.out, ← HSL.out]; exact DD6.out, by rw [← HSP.out, ← HSL.out]; exact ⟨HC3.out, HC5.out, HC6.out, synced_alive HC6.out (put_alive HC5.out Ps.out.1 _ _)⟩, MM6.out, Nat.le_trans MM5.out.size ZZ6.out⟩
end Go.Proofs.YtidocfajhhpfdaaDoor

/- lay, where the power may fail. -/
namespace Go.Proofs.YtidocfajhhpfdaaDoor
open Go.RowKit
set_option maxHeartbeats 4000000 in
set_option maxRecDepth 5000 in
theorem lay_two (w : World) (ht : Tab w) (D S M bJ : Nat) (s : K.St) (Hj F : J.H) (hF : F.a < 2) (hFc : F.c + 1 < 4611686018427387904) (ao : Option Addr) (c : Nat) (L : List (List UInt8)) (hFb : F.b + L.length ≤ 1048576) (hLs : SlBs w ao L)
    (hj : RowAt w bJ 69 (jrow D Hj false)) (hd : DiskAt FF w D S M s) (hp : s.dead = false) (hn : 8 ≤ s.n) (hroom : F.u + J.fsz L ≤ J.arb s) (hT0 : 0 < D ∧ 0 < S ∧ 0 < M) :
    Calls Tryd.prog 37 #[.pointer (some ⟨bJ, 0, none⟩), .slice ao L.length c, .agg (hrow F)] w fun e w' => (e = .returned (.int .i64 0) ∧ ∃ k M', ((J.bef s (2 + F.a * J.ars s) F.u (J.enc (J.frl F.b L))).length ≤ k * s.sz ∧ k * s.sz < (J.bef s (2 + F.a * J.ars s) F.u (J.enc (J.frl F.b L))).length + s.sz) ∧ RowAt w' bJ 69 (jrow D (nextH F L) false) ∧ DiskAt FF w' D S M' (((J.laid s (2 + F.a * J.ars s) F.u (J.enc (J.frl F.b L)) k).synced.put ((F.c + 1) % 2) (J.hb (nextH F L) s.sz)).synced) ∧ ((J.laid s (2 + F.a * J.ars s) F.u (J.enc (J.frl F.b L)) k).can = true ∧ (J.laid s (2 + F.a * J.ars s) F.u (J.enc (J.frl F.b L)) k).synced.can = true ∧ ((J.laid s (2 + F.a * J.ars s) F.u (J.enc (J.frl F.b L)) k).synced.put ((F.c + 1) % 2) (J.hb (nextH F L) s.sz)).can = true ∧ (((J.laid s (2 + F.a * J.ars s) F.u (J.enc (J.frl F.b L)) k).synced.put ((F.c + 1) % 2) (J.hb (nextH F L) s.sz)).synced).dead = false) ∧ Mv4 D S M bJ w w' ∧ w.heap.size ≤ M') ∨
      (e = .returned (.int .i64 82) ∧ ∃ t M', J.Broke s (2 + F.a * J.ars s) F.u (J.enc (J.frl F.b L)) (nextH F L) t ∧ RowAt w' bJ 69 (jrow D Hj true) ∧ DiskAt FF w' D S M' t.spent ∧ Mv4 D S M bJ w w' ∧ (M' = M ∨ w.heap.size ≤ M')) := by
  obtain ⟨hb1, hb2, hb3, hb4⟩ := hd.bds
  obtain ⟨hD, hS, hM⟩ := hd.lts
  have hjl := hj.lt
  have hpos := ht.1
  have harb : J.arb s ≤ 16777216 := by
    have : J.arb s ≤ 4096 * 4096 := Nat.mul_le_mul (by unfold J.ars; omega) hb2
    omega
  have hfs := framesSize_any w ao c L (by omega) (by omega) hLs
  have R0 : RowAt ((w.alloc (.cells #[.pointer (some ⟨bJ, 0, none⟩)] 31)).alloc (.cells (hrow F) 67)) w.heap.size 31 #[.pointer (some ⟨bJ, 0, none⟩)] := (RowAt.new w _ _).alloc _
  have R1 : RowAt ((w.alloc (.cells #[.pointer (some ⟨bJ, 0, none⟩)] 31)).alloc (.cells (hrow F) 67)) (w.heap.size + 1) 67 (hrow F) := by
    have := RowAt.new (w.alloc (.cells #[.pointer (some ⟨bJ, 0, none⟩)] 31)) 67 (hrow F)
    rwa [World.size_alloc] at this
  have B1 : Below w.heap.size w ((w.alloc (.cells #[.pointer (some ⟨bJ, 0, none⟩)] 31)).alloc (.cells (hrow F) 67)) := ((Below.refl _ w).alloc (Nat.le_refl _) _).alloc (by simp) _
  have hab : ∀ W, DiskAt FF W D S M s → Calls Tryd.prog 35 #[.agg #[.pointer (some ⟨D, 0, none⟩)]] W fun e w' => e = .returned (.int .i64 (J.arb s : Int)) ∧ Below W.heap.size W w' := fun W hW => areaBytes_any W D S M s hW hn
  have hfsa : ∀ W, SlBs W ao L → Calls Tryd.prog 56 #[.slice ao L.length c] W fun e w' => e = .returned (.int .i64 (J.fsz L : Int)) ∧ w' = W := fun W hW => framesSize_any W ao c L (by omega) (by omega) hW
  obtain ⟨Fc, Fa, Fu, Fb⟩ := F
  simp only at hF hFc hFb hroom
  unfold hrow at R0 R1 B1 ⊢
  simp only at R0 R1 B1 ⊢
  have HT := hide ht
  have HD := hide hd
  have HJ := hide hj
  have HLS := hide hLs
  have HP := hide hp
  have hroom' : decide ((J.arb s : Int) - (Fu : Int) < (J.fsz L : Int)) = false := by simp; omega
  have hmany : decide ((1048576 : Int) - (Fb : Int) < (L.length : Int)) = false := by simp; omega
  have hwm : IntKind.i64.wrap ((1048576 : Int) - (Fb : Int)) = (1048576 : Int) - (Fb : Int) := by rw [IntKind.wrap_i64]; omega
  have hwr : IntKind.i64.wrap ((J.arb s : Int) - (Fu : Int)) = (J.arb s : Int) - (Fu : Int) := by rw [IntKind.wrap_i64]; omega
  obtain ⟨Z, hZ⟩ : ∃ Z, Z = J.fsz L := ⟨_, rfl⟩
  obtain ⟨AB, hAB⟩ : ∃ AB, AB = J.arb s := ⟨_, rfl⟩
  rw [← hZ] at hfsa hroom' hroom
  rw [← hAB] at hab hroom' hroom harb hwr
  have HZ := hide hZ
  have HAB := hide hAB
  clear ht hd hj hLs hp hfs hZ hAB
  go_enter Tryd.func37, Tryd.ntmps37
  go_wp2
  generalize (w.alloc (.cells #[.pointer (some ⟨bJ, 0, none⟩)] 31)).alloc (.cells #[.int .u64 (Fc : Int), .int .i64 (Fa : Int), .int .i64 (Fu : Int), .int .i64 (Fb : Int)] 67) = w1 at R0 R1 B1 ⊢
  have J1 := HJ.out.below B1 hjl
  have x0 : w1.cell? ⟨w.heap.size, 0, none⟩ = some (.pointer (some ⟨bJ, 0, none⟩)) := R0.cell 0
  have x1 : w1.cell? ⟨bJ, 0, none⟩ = some (.pointer (some ⟨D, 0, none⟩)) := J1.cell 0
  have x2 : w1.cell? ⟨w.heap.size + 1, 2, none⟩ = some (.int .i64 (Fu : Int)) := R1.cell 2
  have x3 : w1.cell? ⟨w.heap.size + 1, 3, none⟩ = some (.int .i64 (Fb : Int)) := R1.cell 3
  have FA : Hid (RowAt w1 w.heap.size 31 #[.pointer (some ⟨bJ, 0, none⟩)] ∧ RowAt w1 (w.heap.size + 1) 67 #[.int .u64 (Fc : Int), .int .i64 (Fa : Int), .int .i64 (Fu : Int), .int .i64 (Fb : Int)] ∧ RowAt w1 bJ 69 (jrow D Hj false) ∧ Below w.heap.size w w1) := ⟨R0, R1, J1, B1⟩
  clear R0 R1 J1 B1
  go_region_held3 (fun w' => w'.cell? ⟨w.heap.size, 0, none⟩ = some (.pointer (some ⟨bJ, 0, none⟩)) ∧ w'.cell? ⟨bJ, 0, none⟩ = some (.pointer (some ⟨D, 0, none⟩)) ∧ w'.cell? ⟨w.heap.size + 1, 2, none⟩ = some (.int .i64 (Fu : Int)) ∧ w'.cell? ⟨w.heap.size + 1, 3, none⟩ = some (.int .i64 (Fb : Int))) (first | exact ⟨x0, x1, x2, x3⟩ | exact cc2.out | fail) (first
    | (go_at_call 56; refine (hfsa _ (by first | exact HLS.out.below FA.out.2.2.2 (Nat.le_refl _) | exact HLS.out.below FA.out.2.2.2.drew (Nat.le_refl _) | exact HLS.out.below (below_drewN FA.out.2.2.2 _) (Nat.le_refl _) | exact HLS.out.below FB.out.2.2.2 (Nat.le_refl _) | exact HLS.out.below FB.out.2.2.2.drew (Nat.le_refl _))).mono ?_; rintro e w' ⟨rfl, hw⟩; rw [hw]; clear hw w')
    | (go_at_call 35; refine (hab _ (by first | exact HD.out.below FA.out.2.2.2 (Nat.le_refl _) | exact DiskAt.drewN (HD.out.below FA.out.2.2.2 (Nat.le_refl _)) _)).mono ?_; rintro e w2 ⟨rfl, b2⟩; have b2a := below_rx (w := w1) b2 rfl rfl rfl rfl; have FB : Hid (RowAt w2 w.heap.size 31 #[.pointer (some ⟨bJ, 0, none⟩)] ∧ RowAt w2 (w.heap.size + 1) 67 #[.int .u64 (Fc : Int), .int .i64 (Fa : Int), .int .i64 (Fu : Int), .int .i64 (Fb : Int)] ∧ RowAt w2 bJ 69 (jrow D Hj false) ∧ Below w.heap.size w w2) := ⟨FA.out.1.below b2a FA.out.1.lt, FA.out.2.1.below b2a FA.out.2.1.lt, FA.out.2.2.1.below b2a FA.out.2.2.1.lt, FA.out.2.2.2.trans (b2a.mono FA.out.2.2.2.size)⟩; have cc2 := hide (And.intro (FB.out.1.cell 0) (And.intro (FB.out.2.2.1.cell 0) (And.intro (FB.out.2.1.cell 2) (FB.out.2.1.cell 3)))); clear b2 b2a))
  have hmf : ∀ (fn : Fn) (first cap : Array Value) (w : World), (Instr.makeFunc fn first cap).run Tryd.prog w = .ok (.func fn first cap) w := fun _ _ _ _ => rfl
  have T2 := hide (HT.out.below FB.out.2.2.2 hpos)
  have hfr := frames_row w2 T2.out ao c Fb L (by rw [← HZ.out]; omega) (by omega) (by omega) (HLS.out.below FB.out.2.2.2 (Nat.le_refl _))
  have hEl := hide (J.frl_len Fb L)
  obtain ⟨E, hE⟩ : ∃ E, E = J.enc (J.frl Fb L) := ⟨_, rfl⟩
  rw [← hE] at hfr hEl
  rw [← HZ.out] at hfr hEl
  have HEe := hide hE
  have y3 : w2.cell? ⟨w.heap.size + 1, 3, none⟩ = some (.int .i64 (Fb : Int)) := FB.out.2.1.cell 3
  clear hE x0 x1 x2 x3 cc2 hfsa hab
  go_wp2_with (first
    | (go_at_call 57; refine hfr.mono ?_; rintro e w3 ⟨g3, c3, rfl, hq2, ⟨cs, hgr, hgc⟩, b3⟩; have HGR := hide hgr; have HGC := hide hgc; have FC : Hid (RowAt w3 w.heap.size 31 #[.pointer (some ⟨bJ, 0, none⟩)] ∧ RowAt w3 (w.heap.size + 1) 67 #[.int .u64 (Fc : Int), .int .i64 (Fa : Int), .int .i64 (Fu : Int), .int .i64 (Fb : Int)] ∧ RowAt w3 bJ 69 (jrow D Hj false) ∧ Below w.heap.size w w3) := ⟨FB.out.1.below b3 FB.out.1.lt, FB.out.2.1.below b3 FB.out.2.1.lt, FB.out.2.2.1.below b3 FB.out.2.2.1.lt, FB.out.2.2.2.trans (b3.mono FB.out.2.2.2.size)⟩; have y0 : ∀ o : Obj, (w3.alloc o).cell? ⟨w.heap.size + 1, 0, none⟩ = some (.int .u64 (Fc : Int)) := (fun o => (FC.out.2.1.alloc o).cell 0); have y1 : ∀ o : Obj, (w3.alloc o).cell? ⟨w.heap.size + 1, 1, none⟩ = some (.int .i64 (Fa : Int)) := (fun o => (FC.out.2.1.alloc o).cell 1); have y2 : ∀ o : Obj, (w3.alloc o).cell? ⟨w.heap.size + 1, 2, none⟩ = some (.int .i64 (Fu : Int)) := (fun o => (FC.out.2.1.alloc o).cell 2); have y4 : ∀ o : Obj, (w3.alloc o).cell? ⟨w.heap.size + 1, 3, none⟩ = some (.int .i64 (Fb : Int)) := (fun o => (FC.out.2.1.alloc o).cell 3); clear b3 hgr hgc y3)
    | fail)
  obtain ⟨C1, hC1⟩ : ∃ C1 : Nat, (Fc : Int) + 1 = (C1 : Int) := ⟨Fc + 1, by omega⟩
  obtain ⟨U1, hU1⟩ : ∃ U1 : Nat, (Fu : Int) + (Z : Int) = (U1 : Int) := ⟨Fu + Z, by omega⟩
  obtain ⟨K, hK⟩ : ∃ K : Nat, (Fb : Int) + (L.length : Int) = (K : Int) := ⟨Fb + L.length, by omega⟩
  rw [hC1, hU1, hK]
  have HKe : Hid (K = Fb + L.length) := by show _ = _; omega
  have HC1 : Hid (C1 = Fc + 1) := by show _ = _; omega
  have HU1 : Hid (U1 = Fu + Z) := by show _ = _; omega
  have A5 : Hid (RowAt ((w3.alloc (.cells #[.slice (some ⟨g3, 0, none⟩) Z c3] 22)).alloc (.cells #[.int .u64 (C1 : Int), .int .i64 (Fa : Int), .int .i64 (U1 : Int), .int .i64 (K : Int)] 67)) w3.heap.size 22 #[.slice (some ⟨g3, 0, none⟩) Z c3] ∧ RowAt ((w3.alloc (.cells #[.slice (some ⟨g3, 0, none⟩) Z c3] 22)).alloc (.cells #[.int .u64 (C1 : Int), .int .i64 (Fa : Int), .int .i64 (U1 : Int), .int .i64 (K : Int)] 67)) (w3.heap.size + 1) 67 #[.int .u64 (C1 : Int), .int .i64 (Fa : Int), .int .i64 (U1 : Int), .int .i64 (K : Int)] ∧ Below w3.heap.size w3 ((w3.alloc (.cells #[.slice (some ⟨g3, 0, none⟩) Z c3] 22)).alloc (.cells #[.int .u64 (C1 : Int), .int .i64 (Fa : Int), .int .i64 (U1 : Int), .int .i64 (K : Int)] 67)) ∧ ((w3.alloc (.cells #[.slice (some ⟨g3, 0, none⟩) Z c3] 22)).alloc (.cells #[.int .u64 (C1 : Int), .int .i64 (Fa : Int), .int .i64 (U1 : Int), .int .i64 (K : Int)] 67)).heap.size = w3.heap.size + 2) := by
    refine ⟨(RowAt.new w3 _ _).alloc _, ?_, ((Below.refl _ w3).alloc (Nat.le_refl _) _).alloc (by simp) _, by simp⟩
    have := RowAt.new (w3.alloc (.cells #[.slice (some ⟨g3, 0, none⟩) Z c3] 22)) 67 #[.int .u64 (C1 : Int), .int .i64 (Fa : Int), .int .i64 (U1 : Int), .int .i64 (K : Int)]
    rwa [World.size_alloc] at this
  generalize ((w3.alloc (.cells #[.slice (some ⟨g3, 0, none⟩) Z c3] 22)).alloc (.cells #[.int .u64 (C1 : Int), .int .i64 (Fa : Int), .int .i64 (U1 : Int), .int .i64 (K : Int)] 67)) = w5 at A5 ⊢
  clear y0 y1 y2 y4 hC1 hU1 hK
  have zw3 : w.heap.size + 1 < w3.heap.size := FC.out.2.1.lt
  have b5e := (Below.refl w5.heap.size w5).alloc (Nat.le_refl _) (.cells #[.int .i64 0] 33)
  have b35 : Below w3.heap.size w3 (w5.alloc (.cells #[.int .i64 0] 33)) := A5.out.2.2.1.trans (b5e.mono A5.out.2.2.1.size)
  have bw5 : Below w.heap.size w (w5.alloc (.cells #[.int .i64 0] 33)) := FC.out.2.2.2.trans (b35.mono FC.out.2.2.2.size)
  have hl1 := lay1_two (w5.alloc (.cells #[.int .i64 0] 33)) (HT.out.below bw5 hpos) D S M w.heap.size bJ (w3.heap.size + 1) (w.heap.size + 1) w3.heap.size w5.heap.size s Hj ⟨C1, Fa, U1, K⟩ ⟨Fc, Fa, Fu, Fb⟩ ⟨by show C1 < _; rw [HC1.out]; exact hFc, hF, by show U1 < _; rw [HU1.out]; omega, by show K ≤ _; rw [HKe.out]; exact hFb⟩ hF g3 0 c3 E cs (HGR.out.below b35 HGR.out.lt) (by rw [hEl.out]; exact HGC.out) (by rw [hEl.out]; exact hq2)
    ⟨FC.out.1.below b35 FC.out.1.lt, FC.out.2.2.1.below b35 FC.out.2.2.1.lt, A5.out.2.1.alloc _, FC.out.2.1.below b35 FC.out.2.1.lt, by rw [hEl.out]; exact A5.out.1.alloc _, RowAt.new w5 _ _⟩ (HD.out.below bw5 (Nat.le_refl _)) HP.out hn (by rw [hEl.out, ← HAB.out]; exact hroom) (by omega) hT0
  have hat := attempt_any w5 58 #[.pointer (some ⟨w.heap.size, 0, none⟩), .pointer (some ⟨w3.heap.size + 1, 0, none⟩), .pointer (some ⟨w.heap.size + 1, 0, none⟩), .pointer (some ⟨w3.heap.size, 0, none⟩)] (enters_of Tryd.func58 (by kernel_rfl) rfl) _ (fun x w' => x = 82 ∧ ∃ t M', J.Broke s (2 + Fa * J.ars s) Fu E ⟨C1, Fa, U1, K⟩ t ∧ LyW D w.heap.size bJ (w3.heap.size + 1) (w.heap.size + 1) w3.heap.size w5.heap.size Hj ⟨C1, Fa, U1, K⟩ ⟨Fc, Fa, Fu, Fb⟩ (.slice (some ⟨g3, 0, none⟩) E.length c3) w' ∧ DiskAt FF w' D S M' t.spent ∧ Mv D S M (w5.alloc (.cells #[.int .i64 0] 33)) w' ∧ (M' = M ∨ (w5.alloc (.cells #[.int .i64 0] 33)).heap.size ≤ M')) (hl1.mono (fun e w' h => h.elim (fun h => Or.inl h) (fun h => Or.inr ⟨82, h.1, rfl, h.2⟩))) (fun w' ⟨k, M', _, _, h, _⟩ => h.ce) (fun x w' ⟨_, t, M', _, h, _⟩ => h.ce)
  refine hat.mono ?_
  rintro e w7 (⟨rfl, w6, ⟨k, M', hk1, hk2, W6, D6, hcan, M6, z6⟩, hw7⟩ | ⟨x, rfl, w6, ⟨rfl, t, M', hBr, W6, D6, M6, z6⟩, hw7⟩)
  rotate_left
  · have hnj := (W6.ce.ne W6.jr (by decide)).symm
    have hnc := (W6.ce.ne W6.cj (by decide)).symm
    have J7 : RowAt w7 bJ 69 (jrow D Hj false) := by rw [hw7]; exact (W6.jr.other _ _ hnj).other _ _ hnj
    have C7 : RowAt w7 w.heap.size 31 #[.pointer (some ⟨bJ, 0, none⟩)] := by rw [hw7]; exact (W6.cj.other _ _ hnc).other _ _ hnc
    have b7 : Below w5.heap.size w6 w7 := by rw [hw7]; exact ((Below.refl w5.heap.size w6).setCell (p := ⟨w5.heap.size, 0, none⟩) (Nat.le_refl _) _).setCell (p := ⟨w5.heap.size, 0, none⟩) (Nat.le_refl _) _
    have k7 : Rows w6 w7 := fun g' c' hg' => by rw [hw7]; exact (hg'.other _ _ (W6.ce.ne hg' (by decide)).symm).other _ _ (W6.ce.ne hg' (by decide)).symm
    have D7 : Hid (DiskAt FF w7 D S M' t.spent) := by
      obtain ⟨sv, uv, hk⟩ := D6
      have hM' : M' ≠ w5.heap.size := fun e => hk.un.row_ne W6.ce e.symm
      have := A5.out.2.2.2
      refine ⟨sv, uv, hk.keepA b7.size (b7.block _ (by omega)) (b7.block _ (by omega)) ?_ k7.any⟩
      rw [hw7, heap_setCell_other _ _ _ _ hM']; exact heap_setCell_other _ _ _ _ hM'
    have M7 : Hid (Mv D S M w w7) := ((Mv.of_below bw5).trans M6 (Or.inl rfl)).belowB b7 (by have := A5.out.2.2.2; omega)
    have Z7 : Hid (M' = M ∨ w.heap.size ≤ M') := z6.elim Or.inl (fun h => Or.inr (Nat.le_trans bw5.size h))
    have HBR := hide hBr
    have J7H := hide J7
    have x0 : w7.cell? ⟨w.heap.size, 0, none⟩ = some (.pointer (some ⟨bJ, 0, none⟩)) := C7.cell 0
    have x5 : w7.cell? ⟨bJ, 5, none⟩ = some (.bool false) := J7.cell 5
    have f5 := J7.frozen 5
    clear hat hl1 W6 D6 M6 z6 hw7 hnj hnc J7 C7 b7 k7 hBr
    go_wp2
    go_ret
    have J9 : RowAt (w7.setCell ⟨bJ, 5, none⟩ (.bool true)) bJ 69 (jrow D Hj true) := J7H.out.set 5 (.bool true)
    have h9 : ∀ g, g ≠ bJ → (w7.setCell ⟨bJ, 5, none⟩ (.bool true)).heap[g]? = w7.heap[g]? := fun g hg => heap_setCell_other _ _ _ _ hg
    have o9 : Below bJ w7 (w7.setCell ⟨bJ, 5, none⟩ (.bool true)) := (Below.refl bJ w7).setCell (p := ⟨bJ, 5, none⟩) (Nat.le_refl bJ) _
    generalize (w7.setCell ⟨bJ, 5, none⟩ (.bool true)) = w9 at J9 h9 o9 ⊢
    have eN : (⟨C1, Fa, U1, K⟩ : J.H) = nextH ⟨Fc, Fa, Fu, Fb⟩ L := by
      unfold nextH
      simp only
      rw [HC1.out, HU1.out, HKe.out, ← HZ.out]
    refine Or.inr ⟨rfl, t, M', by rw [← HEe.out, ← eN]; exact HBR.out, J9, ?_, ⟨o9.os.trans M7.out.os, o9.tape.trans M7.out.tape, o9.output.trans M7.out.output, Nat.le_trans M7.out.size o9.size, fun g hg h1 h2 h3 h4 => by rw [h9 g h4, M7.out.block g hg h1 h2 h3]⟩, Z7.out⟩
    obtain ⟨sv, uv, hk⟩ := D7.out
    have hD9 : D ≠ bJ := hk.row.ne J7H.out (by decide)
    have hS9 : S ≠ bJ := hk.sure.ne J7H.out (by decide)
    have hM9 : M' ≠ bJ := fun e => hk.un.row_ne J7H.out e.symm
    have := hk.keepA o9.size (h9 D hD9) (h9 S hS9) (h9 M' hM9) (fun g c _ hg => (h9 g (J7H.out.ne hg (by decide)).symm).trans hg)
    exact ⟨sv, uv, this⟩
  have HCAN := hide hcan
  clear hcan
  have hnj := (W6.ce.ne W6.jr (by decide)).symm
  have hnn := (W6.ce.ne W6.cn (by decide)).symm
  have hnc := (W6.ce.ne W6.cj (by decide)).symm
  have J7 : RowAt w7 bJ 69 (jrow D Hj false) := by rw [hw7]; exact W6.jr.other _ _ hnj
  have N7 : RowAt w7 (w3.heap.size + 1) 67 #[.int .u64 (C1 : Int), .int .i64 (Fa : Int), .int .i64 (U1 : Int), .int .i64 (K : Int)] := by rw [hw7]; exact W6.cn.other _ _ hnn
  have C7 : RowAt w7 w.heap.size 31 #[.pointer (some ⟨bJ, 0, none⟩)] := by rw [hw7]; exact W6.cj.other _ _ hnc
  have b7 : Below w5.heap.size w6 w7 := by rw [hw7]; exact (Below.refl w5.heap.size w6).setCell (p := ⟨w5.heap.size, 0, none⟩) (Nat.le_refl _) _
  have k7 : Rows w6 w7 := fun g' c' hg' => by rw [hw7]; exact hg'.other _ _ (W6.ce.ne hg' (by decide)).symm
  have D7 : Hid (DiskAt FF w7 D S M' (((J.laid s (2 + Fa * J.ars s) Fu E k).synced.put (C1 % 2) (J.hb ⟨C1, Fa, U1, K⟩ s.sz)).synced)) := by
    obtain ⟨sv, uv, hk⟩ := D6
    have hM' : M' ≠ w5.heap.size := fun e => hk.un.row_ne W6.ce e.symm
    have := A5.out.2.2.2
    refine ⟨sv, uv, hk.keepA b7.size (b7.block _ (by omega)) (b7.block _ (by omega)) ?_ k7.any⟩
    rw [hw7]; exact heap_setCell_other _ _ _ _ hM'
  have M7 : Hid (Mv D S M w w7) := ((Mv.of_below bw5).trans M6 (Or.inl rfl)).belowB b7 (by have := A5.out.2.2.2; omega)
  have Z7 : Hid (w.heap.size ≤ M') := Nat.le_trans bw5.size z6
  have HK1 := hide hk1
  have HK2 := hide hk2
  have J7H := hide J7
  have x0 : w7.cell? ⟨w.heap.size, 0, none⟩ = some (.pointer (some ⟨bJ, 0, none⟩)) := C7.cell 0
  have x5 : w7.cell? ⟨bJ, 5, none⟩ = some (.bool false) := J7.cell 5
  have f5 := J7.frozen 5
  have J8 := J7.set 5 (.bool false)
  have hjw : bJ ≠ w.heap.size := by omega
  have hjn : bJ ≠ w3.heap.size + 1 := by omega
  have u0 : (w7.setCell ⟨bJ, 5, none⟩ (.bool false)).cell? ⟨w.heap.size, 0, none⟩ = some (.pointer (some ⟨bJ, 0, none⟩)) := (C7.other _ _ (fun e => hjw e.symm)).cell 0
  have n0 : (w7.setCell ⟨bJ, 5, none⟩ (.bool false)).cell? ⟨w3.heap.size + 1, 0, none⟩ = some (.int .u64 (C1 : Int)) := (N7.other _ _ (fun e => hjn e.symm)).cell 0
  have n1 : (w7.setCell ⟨bJ, 5, none⟩ (.bool false)).cell? ⟨w3.heap.size + 1, 1, none⟩ = some (.int .i64 (Fa : Int)) := (N7.other _ _ (fun e => hjn e.symm)).cell 1
  have n2 : (w7.setCell ⟨bJ, 5, none⟩ (.bool false)).cell? ⟨w3.heap.size + 1, 2, none⟩ = some (.int .i64 (U1 : Int)) := (N7.other _ _ (fun e => hjn e.symm)).cell 2
  have n3 : (w7.setCell ⟨bJ, 5, none⟩ (.bool false)).cell? ⟨w3.heap.size + 1, 3, none⟩ = some (.int .i64 (K : Int)) := (N7.other _ _ (fun e => hjn e.symm)).cell 3
  have v1 : (w7.setCell ⟨bJ, 5, none⟩ (.bool false)).cell? ⟨bJ, 1, none⟩ = some (.int .u64 (Hj.c : Int)) := J8.cell 1
  have v2 : (w7.setCell ⟨bJ, 5, none⟩ (.bool false)).cell? ⟨bJ, 2, none⟩ = some (.int .i64 (Hj.a : Int)) := J8.cell 2
  have v3 : (w7.setCell ⟨bJ, 5, none⟩ (.bool false)).cell? ⟨bJ, 3, none⟩ = some (.int .i64 (Hj.u : Int)) := J8.cell 3
  have v4 : (w7.setCell ⟨bJ, 5, none⟩ (.bool false)).cell? ⟨bJ, 4, none⟩ = some (.int .i64 (Hj.b : Int)) := J8.cell 4
  have g1 := J8.frozen 1
  have g2 := J8.frozen 2
  have g3' := J8.frozen 3
  have g4 := J8.frozen 4
  clear hat hl1 W6 D6 M6 z6 hw7 hnj hnn hnc J7 N7 C7 b7 k7 J8 hk1 hk2
  go_wp2
  go_ret
  have J9 : RowAt (((((w7.setCell ⟨bJ, 5, none⟩ (.bool false)).setCell ⟨bJ, 1, none⟩ (.int .u64 (C1 : Int))).setCell ⟨bJ, 2, none⟩ (.int .i64 (Fa : Int))).setCell ⟨bJ, 3, none⟩ (.int .i64 (U1 : Int))).setCell ⟨bJ, 4, none⟩ (.int .i64 (K : Int))) bJ 69 (jrow D ⟨C1, Fa, U1, K⟩ false) := ((((J7H.out.set 5 (.bool false)).set 1 (.int .u64 (C1 : Int))).set 2 (.int .i64 (Fa : Int))).set 3 (.int .i64 (U1 : Int))).set 4 (.int .i64 (K : Int))
  have h9 : ∀ g, g ≠ bJ → (((((w7.setCell ⟨bJ, 5, none⟩ (.bool false)).setCell ⟨bJ, 1, none⟩ (.int .u64 (C1 : Int))).setCell ⟨bJ, 2, none⟩ (.int .i64 (Fa : Int))).setCell ⟨bJ, 3, none⟩ (.int .i64 (U1 : Int))).setCell ⟨bJ, 4, none⟩ (.int .i64 (K : Int))).heap[g]? = w7.heap[g]? := fun g hg => by
    rw [heap_setCell_other _ _ _ _ hg, heap_setCell_other _ _ _ _ hg, heap_setCell_other _ _ _ _ hg, heap_setCell_other _ _ _ _ hg, heap_setCell_other _ _ _ _ hg]
  have o9 : Below bJ w7 (((((w7.setCell ⟨bJ, 5, none⟩ (.bool false)).setCell ⟨bJ, 1, none⟩ (.int .u64 (C1 : Int))).setCell ⟨bJ, 2, none⟩ (.int .i64 (Fa : Int))).setCell ⟨bJ, 3, none⟩ (.int .i64 (U1 : Int))).setCell ⟨bJ, 4, none⟩ (.int .i64 (K : Int))) := (((((Below.refl bJ w7).setCell (p := ⟨bJ, 5, none⟩) (Nat.le_refl bJ) _).setCell (p := ⟨bJ, 1, none⟩) (Nat.le_refl bJ) _).setCell (p := ⟨bJ, 2, none⟩) (Nat.le_refl bJ) _).setCell (p := ⟨bJ, 3, none⟩) (Nat.le_refl bJ) _).setCell (p := ⟨bJ, 4, none⟩) (Nat.le_refl bJ) _
  generalize (((((w7.setCell ⟨bJ, 5, none⟩ (.bool false)).setCell ⟨bJ, 1, none⟩ (.int .u64 (C1 : Int))).setCell ⟨bJ, 2, none⟩ (.int .i64 (Fa : Int))).setCell ⟨bJ, 3, none⟩ (.int .i64 (U1 : Int))).setCell ⟨bJ, 4, none⟩ (.int .i64 (K : Int))) = w9 at J9 h9 o9 ⊢
  have eN : (⟨C1, Fa, U1, K⟩ : J.H) = nextH ⟨Fc, Fa, Fu, Fb⟩ L := by
    unfold nextH
    simp only
    rw [HC1.out, HU1.out, HKe.out, ← HZ.out]
  refine Or.inl ⟨rfl, k, M', ⟨by rw [← HEe.out]; exact HK1.out, by rw [← HEe.out]; exact HK2.out⟩, by rw [← eN]; exact J9, ?_, by rw [← HEe.out, ← HC1.out, ← eN]; exact HCAN.out, ⟨o9.os.trans M7.out.os, o9.tape.trans M7.out.tape, o9.output.trans M7.out.output, Nat.le_trans M7.out.size o9.size, fun g hg h1 h2 h3 h4 => by rw [h9 g h4, M7.out.block g hg h1 h2 h3]⟩, Z7.out⟩
  obtain ⟨sv, uv, hk⟩ := D7.out
  have hD9 : D ≠ bJ := hk.row.ne J7H.out (by decide)
  have hS9 : S ≠ bJ := hk.sure.ne J7H.out (by decide)
  have hM9 : M' ≠ bJ := fun e => hk.un.row_ne J7H.out e.symm
  have := hk.keepA o9.size (h9 D hD9) (h9 S hS9) (h9 M' hM9) (fun g c _ hg => (h9 g (J7H.out.ne hg (by decide)).symm).trans hg)
  rw [← HEe.out, ← HC1.out, ← eN]
  exact ⟨sv, uv, this⟩
end Go.Proofs.YtidocfajhhpfdaaDoor
