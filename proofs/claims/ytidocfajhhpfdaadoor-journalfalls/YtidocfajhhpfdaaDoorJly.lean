/- lay. -/
import Derived.Test.YtidocfajhhpfdaaDoorJfz
namespace Go.Proofs.YtidocfajhhpfdaaDoor
open Go.RowKit
/- all blocks but these are as they were -/
structure Mv4 (D S M B : Nat) (w w' : World) : Prop where
  os : w'.os = w.os
  tape : w'.tape = w.tape
  output : w'.output = w.output
  size : w.heap.size ≤ w'.heap.size
  block : ∀ g, g < w.heap.size → g ≠ D → g ≠ S → g ≠ M → g ≠ B → w'.heap[g]? = w.heap[g]?
def nextH (F : J.H) (L : List (List UInt8)) : J.H := ⟨F.c + 1, F.a, F.u + J.fsz L, F.b + L.length⟩
set_option maxHeartbeats 4000000 in
set_option maxRecDepth 5000 in
theorem lay_any (w : World) (ht : Tab w) (D S M bJ : Nat) (s : K.St) (Hj F : J.H) (hF : F.a < 2) (hFc : F.c + 1 < 4611686018427387904) (ao : Option Addr) (c : Nat) (L : List (List UInt8)) (hFb : F.b + L.length ≤ 1048576) (hLs : SlBs w ao L)
    (hj : RowAt w bJ 69 (jrow D Hj false)) (hd : DiskAt FF w D S M s) (hp : Pw s) (hn : 8 ≤ s.n) (hroom : F.u + J.fsz L ≤ J.arb s) (hT0 : 0 < D ∧ 0 < S ∧ 0 < M) :
    Calls Tryd.prog 37 #[.pointer (some ⟨bJ, 0, none⟩), .slice ao L.length c, .agg (hrow F)] w fun e w' => e = .returned (.int .i64 0) ∧ ∃ k M', ((J.bef s (2 + F.a * J.ars s) F.u (J.enc (J.frl F.b L))).length ≤ k * s.sz ∧ k * s.sz < (J.bef s (2 + F.a * J.ars s) F.u (J.enc (J.frl F.b L))).length + s.sz) ∧ RowAt w' bJ 69 (jrow D (nextH F L) false) ∧ DiskAt FF w' D S M' (((J.laid s (2 + F.a * J.ars s) F.u (J.enc (J.frl F.b L)) k).synced.put ((F.c + 1) % 2) (J.hb (nextH F L) s.sz)).synced) ∧ Mv4 D S M bJ w w' ∧ w.heap.size ≤ M' := by
  obtain ⟨hb1, hb2, hb3, hb4⟩ := hd.bds
  obtain ⟨hD, hS, hM⟩ := hd.lts
  have hjl := hj.lt
  have hpos := ht.1
  have harb : J.arb s ≤ 16777216 := by
    have : J.arb s ≤ 4096 * 4096 := Nat.mul_le_mul (by unfold J.ars; omega) hb2
    omega
  have hfs := framesSize_any w ao c L (by omega) (by omega) hLs
  have R0 : RowAt ((w.alloc (.cells #[.pointer (some ⟨bJ, 0, none⟩)] 31)).alloc (.cells (hrow F) 67)) w.heap.size 31 #[.pointer (some ⟨bJ, 0, none⟩)] := (RowAt.new w _ _).alloc _
  have R1 : RowAt ((w.alloc (.cells #[.pointer (some ⟨bJ, 0, none⟩)] 31)).alloc (.cells (hrow F) 67)) (w.heap.size + 1) 67 (hrow F) := by
    have := RowAt.new (w.alloc (.cells #[.pointer (some ⟨bJ, 0, none⟩)] 31)) 67 (hrow F)
    rwa [World.size_alloc] at this
  have B1 : Below w.heap.size w ((w.alloc (.cells #[.pointer (some ⟨bJ, 0, none⟩)] 31)).alloc (.cells (hrow F) 67)) := ((Below.refl _ w).alloc (Nat.le_refl _) _).alloc (by simp) _
  have hab : ∀ W, DiskAt FF W D S M s → Calls Tryd.prog 35 #[.agg #[.pointer (some ⟨D, 0, none⟩)]] W fun e w' => e = .returned (.int .i64 (J.arb s : Int)) ∧ Below W.heap.size W w' := fun W hW => areaBytes_any W D S M s hW hn
  have hfsa : ∀ W, SlBs W ao L → Calls Tryd.prog 56 #[.slice ao L.length c] W fun e w' => e = .returned (.int .i64 (J.fsz L : Int)) ∧ w' = W := fun W hW => framesSize_any W ao c L (by omega) (by omega) hW
  obtain ⟨Fc, Fa, Fu, Fb⟩ := F
  simp only at hF hFc hFb hroom
  unfold hrow at R0 R1 B1 ⊢
  simp only at R0 R1 B1 ⊢
  have HT := hide ht
  have HD := hide hd
  have HJ := hide hj
  have HLS := hide hLs
  have HP := hide hp
  have hroom' : decide ((J.arb s : Int) - (Fu : Int) < (J.fsz L : Int)) = false := by simp; omega
  have hmany : decide ((1048576 : Int) - (Fb : Int) < (L.length : Int)) = false := by simp; omega
  have hwm : IntKind.i64.wrap ((1048576 : Int) - (Fb : Int)) = (1048576 : Int) - (Fb : Int) := by rw [IntKind.wrap_i64]; omega
  have hwr : IntKind.i64.wrap ((J.arb s : Int) - (Fu : Int)) = (J.arb s : Int) - (Fu : Int) := by rw [IntKind.wrap_i64]; omega
  obtain ⟨Z, hZ⟩ : ∃ Z, Z = J.fsz L := ⟨_, rfl⟩
  obtain ⟨AB, hAB⟩ : ∃ AB, AB = J.arb s := ⟨_, rfl⟩
  rw [← hZ] at hfsa hroom' hroom
  rw [← hAB] at hab hroom' hroom harb hwr
  have HZ := hide hZ
  have HAB := hide hAB
  clear ht hd hj hLs hp hfs hZ hAB
  go_enter Tryd.func37, Tryd.ntmps37
  go_wp2
  generalize (w.alloc (.cells #[.pointer (some ⟨bJ, 0, none⟩)] 31)).alloc (.cells #[.int .u64 (Fc : Int), .int .i64 (Fa : Int), .int .i64 (Fu : Int), .int .i64 (Fb : Int)] 67) = w1 at R0 R1 B1 ⊢
  have J1 := HJ.out.below B1 hjl
  have x0 : w1.cell? ⟨w.heap.size, 0, none⟩ = some (.pointer (some ⟨bJ, 0, none⟩)) := R0.cell 0
  have x1 : w1.cell? ⟨bJ, 0, none⟩ = some (.pointer (some ⟨D, 0, none⟩)) := J1.cell 0
  have x2 : w1.cell? ⟨w.heap.size + 1, 2, none⟩ = some (.int .i64 (Fu : Int)) := R1.cell 2
  have x3 : w1.cell? ⟨w.heap.size + 1, 3, none⟩ = some (.int .i64 (Fb : Int)) := R1.cell 3
  have FA : Hid (RowAt w1 w.heap.size 31 #[.pointer (some ⟨bJ, 0, none⟩)] ∧ RowAt w1 (w.heap.size + 1) 67 #[.int .u64 (Fc : Int), .int .i64 (Fa : Int), .int .i64 (Fu : Int), .int .i64 (Fb : Int)] ∧ RowAt w1 bJ 69 (jrow D Hj false) ∧ Below w.heap.size w w1) := ⟨R0, R1, J1, B1⟩
  clear R0 R1 J1 B1
  go_region_held3 (fun w' => w'.cell? ⟨w.heap.size, 0, none⟩ = some (.pointer (some ⟨bJ, 0, none⟩)) ∧ w'.cell? ⟨bJ, 0, none⟩ = some (.pointer (some ⟨D, 0, none⟩)) ∧ w'.cell? ⟨w.heap.size + 1, 2, none⟩ = some (.int .i64 (Fu : Int)) ∧ w'.cell? ⟨w.heap.size + 1, 3, none⟩ = some (.int .i64 (Fb : Int))) (first | exact ⟨x0, x1, x2, x3⟩ | exact cc2.out | fail) (first
    | (go_at_call 56; refine (hfsa _ (by first | exact HLS.out.below FA.out.2.2.2 (Nat.le_refl _) | exact HLS.out.below FA.out.2.2.2.drew (Nat.le_refl _) | exact HLS.out.below (below_drewN FA.out.2.2.2 _) (Nat.le_refl _) | exact HLS.out.below FB.out.2.2.2 (Nat.le_refl _) | exact HLS.out.below FB.out.2.2.2.drew (Nat.le_refl _))).mono ?_; rintro e w' ⟨rfl, hw⟩; rw [hw]; clear hw w')
    | (go_at_call 35; refine (hab _ (by first | exact HD.out.below FA.out.2.2.2 (Nat.le_refl _) | exact DiskAt.drewN (HD.out.below FA.out.2.2.2 (Nat.le_refl _)) _)).mono ?_; rintro e w2 ⟨rfl, b2⟩; have b2a := below_rx (w := w1) b2 rfl rfl rfl rfl; have FB : Hid (RowAt w2 w.heap.size 31 #[.pointer (some ⟨bJ, 0, none⟩)] ∧ RowAt w2 (w.heap.size + 1) 67 #[.int .u64 (Fc : Int), .int .i64 (Fa : Int), .int .i64 (Fu : Int), .int .i64 (Fb : Int)] ∧ RowAt w2 bJ 69 (jrow D Hj false) ∧ Below w.heap.size w w2) := ⟨FA.out.1.below b2a FA.out.1.lt, FA.out.2.1.below b2a FA.out.2.1.lt, FA.out.2.2.1.below b2a FA.out.2.2.1.lt, FA.out.2.2.2.trans (b2a.mono FA.out.2.2.2.size)⟩; have cc2 := hide (And.intro (FB.out.1.cell 0) (And.intro (FB.out.2.2.1.cell 0) (And.intro (FB.out.2.1.cell 2) (FB.out.2.1.cell 3)))); clear b2 b2a))
  have hmf : ∀ (fn : Fn) (first cap : Array Value) (w : World), (Instr.makeFunc fn first cap).run Tryd.prog w = .ok (.func fn first cap) w := fun _ _ _ _ => rfl
  have T2 := hide (HT.out.below FB.out.2.2.2 hpos)
  have hfr := frames_row w2 T2.out ao c Fb L (by rw [← HZ.out]; omega) (by omega) (by omega) (HLS.out.below FB.out.2.2.2 (Nat.le_refl _))
  have hEl := hide (J.frl_len Fb L)
  obtain ⟨E, hE⟩ : ∃ E, E = J.enc (J.frl Fb L) := ⟨_, rfl⟩
  rw [← hE] at hfr hEl
  rw [← HZ.out] at hfr hEl
  have HEe := hide hE
  have y3 : w2.cell? ⟨w.heap.size + 1, 3, none⟩ = some (.int .i64 (Fb : Int)) := FB.out.2.1.cell 3
  clear hE x0 x1 x2 x3 cc2 hfsa hab
  go_wp2_with (first
    | (go_at_call 57; refine hfr.mono ?_; rintro e w3 ⟨g3, c3, rfl, hq2, ⟨cs, hgr, hgc⟩, b3⟩; have HGR := hide hgr; have HGC := hide hgc; have FC : Hid (RowAt w3 w.heap.size 31 #[.pointer (some ⟨bJ, 0, none⟩)] ∧ RowAt w3 (w.heap.size + 1) 67 #[.int .u64 (Fc : Int), .int .i64 (Fa : Int), .int .i64 (Fu : Int), .int .i64 (Fb : Int)] ∧ RowAt w3 bJ 69 (jrow D Hj false) ∧ Below w.heap.size w w3) := ⟨FB.out.1.below b3 FB.out.1.lt, FB.out.2.1.below b3 FB.out.2.1.lt, FB.out.2.2.1.below b3 FB.out.2.2.1.lt, FB.out.2.2.2.trans (b3.mono FB.out.2.2.2.size)⟩; have y0 : ∀ o : Obj, (w3.alloc o).cell? ⟨w.heap.size + 1, 0, none⟩ = some (.int .u64 (Fc : Int)) := (fun o => (FC.out.2.1.alloc o).cell 0); have y1 : ∀ o : Obj, (w3.alloc o).cell? ⟨w.heap.size + 1, 1, none⟩ = some (.int .i64 (Fa : Int)) := (fun o => (FC.out.2.1.alloc o).cell 1); have y2 : ∀ o : Obj, (w3.alloc o).cell? ⟨w.heap.size + 1, 2, none⟩ = some (.int .i64 (Fu : Int)) := (fun o => (FC.out.2.1.alloc o).cell 2); have y4 : ∀ o : Obj, (w3.alloc o).cell? ⟨w.heap.size + 1, 3, none⟩ = some (.int .i64 (Fb : Int)) := (fun o => (FC.out.2.1.alloc o).cell 3); clear b3 hgr hgc y3)
    | fail)
  obtain ⟨C1, hC1⟩ : ∃ C1 : Nat, (Fc : Int) + 1 = (C1 : Int) := ⟨Fc + 1, by omega⟩
  obtain ⟨U1, hU1⟩ : ∃ U1 : Nat, (Fu : Int) + (Z : Int) = (U1 : Int) := ⟨Fu + Z, by omega⟩
  obtain ⟨K, hK⟩ : ∃ K : Nat, (Fb : Int) + (L.length : Int) = (K : Int) := ⟨Fb + L.length, by omega⟩
  rw [hC1, hU1, hK]
  have HKe : Hid (K = Fb + L.length) := by show _ = _; omega
  have HC1 : Hid (C1 = Fc + 1) := by show _ = _; omega
  have HU1 : Hid (U1 = Fu + Z) := by show _ = _; omega
  have A5 : Hid (RowAt ((w3.alloc (.cells #[.slice (some ⟨g3, 0, none⟩) Z c3] 22)).alloc (.cells #[.int .u64 (C1 : Int), .int .i64 (Fa : Int), .int .i64 (U1 : Int), .int .i64 (K : Int)] 67)) w3.heap.size 22 #[.slice (some ⟨g3, 0, none⟩) Z c3] ∧ RowAt ((w3.alloc (.cells #[.slice (some ⟨g3, 0, none⟩) Z c3] 22)).alloc (.cells #[.int .u64 (C1 : Int), .int .i64 (Fa : Int), .int .i64 (U1 : Int), .int .i64 (K : Int)] 67)) (w3.heap.size + 1) 67 #[.int .u64 (C1 : Int), .int .i64 (Fa : Int), .int .i64 (U1 : Int), .int .i64 (K : Int)] ∧ Below w3.heap.size w3 ((w3.alloc (.cells #[.slice (some ⟨g3, 0, none⟩) Z c3] 22)).alloc (.cells #[.int .u64 (C1 : Int), .int .i64 (Fa : Int), .int .i64 (U1 : Int), .int .i64 (K : Int)] 67)) ∧ ((w3.alloc (.cells #[.slice (some ⟨g3, 0, none⟩) Z c3] 22)).alloc (.cells #[.int .u64 (C1 : Int), .int .i64 (Fa : Int), .int .i64 (U1 : Int), .int .i64 (K : Int)] 67)).heap.size = w3.heap.size + 2) := by
    refine ⟨(RowAt.new w3 _ _).alloc _, ?_, ((Below.refl _ w3).alloc (Nat.le_refl _) _).alloc (by simp) _, by simp⟩
    have := RowAt.new (w3.alloc (.cells #[.slice (some ⟨g3, 0, none⟩) Z c3] 22)) 67 #[.int .u64 (C1 : Int), .int .i64 (Fa : Int), .int .i64 (U1 : Int), .int .i64 (K : Int)]
    rwa [World.size_alloc] at this
  generalize ((w3.alloc (.cells #[.slice (some ⟨g3, 0, none⟩) Z c3] 22)).alloc (.cells #[.int .u64 (C1 : Int), .int .i64 (Fa : Int), .int .i64 (U1 : Int), .int .i64 (K : Int)] 67)) = w5 at A5 ⊢
  clear y0 y1 y2 y4 hC1 hU1 hK
  have zw3 : w.heap.size + 1 < w3.heap.size := FC.out.2.1.lt
  have b5e := (Below.refl w5.heap.size w5).alloc (Nat.le_refl _) (.cells #[.int .i64 0] 33)
  have b35 : Below w3.heap.size w3 (w5.alloc (.cells #[.int .i64 0] 33)) := A5.out.2.2.1.trans (b5e.mono A5.out.2.2.1.size)
  have bw5 : Below w.heap.size w (w5.alloc (.cells #[.int .i64 0] 33)) := FC.out.2.2.2.trans (b35.mono FC.out.2.2.2.size)
  have hl1 := lay1_any (w5.alloc (.cells #[.int .i64 0] 33)) (HT.out.below bw5 hpos) D S M w.heap.size bJ (w3.heap.size + 1) (w.heap.size + 1) w3.heap.size w5.heap.size s Hj ⟨C1, Fa, U1, K⟩ ⟨Fc, Fa, Fu, Fb⟩ ⟨by show C1 < _; rw [HC1.out]; exact hFc, hF, by show U1 < _; rw [HU1.out]; omega, by show K ≤ _; rw [HKe.out]; exact hFb⟩ hF g3 0 c3 E cs (HGR.out.below b35 HGR.out.lt) (by rw [hEl.out]; exact HGC.out) (by rw [hEl.out]; exact hq2)
    ⟨FC.out.1.below b35 FC.out.1.lt, FC.out.2.2.1.below b35 FC.out.2.2.1.lt, A5.out.2.1.alloc _, FC.out.2.1.below b35 FC.out.2.1.lt, by rw [hEl.out]; exact A5.out.1.alloc _, RowAt.new w5 _ _⟩ (HD.out.below bw5 (Nat.le_refl _)) HP.out hn (by rw [hEl.out, ← HAB.out]; exact hroom) (by omega) hT0
  have hat := attempt_ok w5 58 #[.pointer (some ⟨w.heap.size, 0, none⟩), .pointer (some ⟨w3.heap.size + 1, 0, none⟩), .pointer (some ⟨w.heap.size + 1, 0, none⟩), .pointer (some ⟨w3.heap.size, 0, none⟩)] (enters_of Tryd.func58 (by kernel_rfl) rfl) _ hl1 (fun w' ⟨k, M', _, _, h, _⟩ => h.ce)
  refine hat.mono ?_
  rintro e w7 ⟨rfl, w6, ⟨k, M', hk1, hk2, W6, D6, M6, z6⟩, hw7⟩
  have hnj := (W6.ce.ne W6.jr (by decide)).symm
  have hnn := (W6.ce.ne W6.cn (by decide)).symm
  have hnc := (W6.ce.ne W6.cj (by decide)).symm
  have J7 : RowAt w7 bJ 69 (jrow D Hj false) := by rw [hw7]; exact W6.jr.other _ _ hnj
  have N7 : RowAt w7 (w3.heap.size + 1) 67 #[.int .u64 (C1 : Int), .int .i64 (Fa : Int), .int .i64 (U1 : Int), .int .i64 (K : Int)] := by rw [hw7]; exact W6.cn.other _ _ hnn
  have C7 : RowAt w7 w.heap.size 31 #[.pointer (some ⟨bJ, 0, none⟩)] := by rw [hw7]; exact W6.cj.other _ _ hnc
  have b7 : Below w5.heap.size w6 w7 := by rw [hw7]; exact (Below.refl w5.heap.size w6).setCell (p := ⟨w5.heap.size, 0, none⟩) (Nat.le_refl _) _
  have k7 : Rows w6 w7 := fun g' c' hg' => by rw [hw7]; exact hg'.other _ _ (W6.ce.ne hg' (by decide)).symm
  have D7 : Hid (DiskAt FF w7 D S M' (((J.laid s (2 + Fa * J.ars s) Fu E k).synced.put (C1 % 2) (J.hb ⟨C1, Fa, U1, K⟩ s.sz)).synced)) := by
    obtain ⟨sv, uv, hk⟩ := D6
    have hM' : M' ≠ w5.heap.size := fun e => hk.un.row_ne W6.ce e.symm
    have := A5.out.2.2.2
    refine ⟨sv, uv, hk.keepA b7.size (b7.block _ (by omega)) (b7.block _ (by omega)) ?_ k7.any⟩
    rw [hw7]; exact heap_setCell_other _ _ _ _ hM'
  have M7 : Hid (Mv D S M w w7) := ((Mv.of_below bw5).trans M6 (Or.inl rfl)).belowB b7 (by have := A5.out.2.2.2; omega)
  have Z7 : Hid (w.heap.size ≤ M') := Nat.le_trans bw5.size z6
  have HK1 := hide hk1
  have HK2 := hide hk2
  have J7H := hide J7
  have x0 : w7.cell? ⟨w.heap.size, 0, none⟩ = some (.pointer (some ⟨bJ, 0, none⟩)) := C7.cell 0
  have x5 : w7.cell? ⟨bJ, 5, none⟩ = some (.bool false) := J7.cell 5
  have f5 := J7.frozen 5
  have J8 := J7.set 5 (.bool false)
  have hjw : bJ ≠ w.heap.size := by omega
  have hjn : bJ ≠ w3.heap.size + 1 := by omega
  have u0 : (w7.setCell ⟨bJ, 5, none⟩ (.bool false)).cell? ⟨w.heap.size, 0, none⟩ = some (.pointer (some ⟨bJ, 0, none⟩)) := (C7.other _ _ (fun e => hjw e.symm)).cell 0
  have n0 : (w7.setCell ⟨bJ, 5, none⟩ (.bool false)).cell? ⟨w3.heap.size + 1, 0, none⟩ = some (.int .u64 (C1 : Int)) := (N7.other _ _ (fun e => hjn e.symm)).cell 0
  have n1 : (w7.setCell ⟨bJ, 5, none⟩ (.bool false)).cell? ⟨w3.heap.size + 1, 1, none⟩ = some (.int .i64 (Fa : Int)) := (N7.other _ _ (fun e => hjn e.symm)).cell 1
  have n2 : (w7.setCell ⟨bJ, 5, none⟩ (.bool false)).cell? ⟨w3.heap.size + 1, 2, none⟩ = some (.int .i64 (U1 : Int)) := (N7.other _ _ (fun e => hjn e.symm)).cell 2
  have n3 : (w7.setCell ⟨bJ, 5, none⟩ (.bool false)).cell? ⟨w3.heap.size + 1, 3, none⟩ = some (.int .i64 (K : Int)) := (N7.other _ _ (fun e => hjn e.symm)).cell 3
  have v1 : (w7.setCell ⟨bJ, 5, none⟩ (.bool false)).cell? ⟨bJ, 1, none⟩ = some (.int .u64 (Hj.c : Int)) := J8.cell 1
  have v2 : (w7.setCell ⟨bJ, 5, none⟩ (.bool false)).cell? ⟨bJ, 2, none⟩ = some (.int .i64 (Hj.a : Int)) := J8.cell 2
  have v3 : (w7.setCell ⟨bJ, 5, none⟩ (.bool false)).cell? ⟨bJ, 3, none⟩ = some (.int .i64 (Hj.u : Int)) := J8.cell 3
  have v4 : (w7.setCell ⟨bJ, 5, none⟩ (.bool false)).cell? ⟨bJ, 4, none⟩ = some (.int .i64 (Hj.b : Int)) := J8.cell 4
  have g1 := J8.frozen 1
  have g2 := J8.frozen 2
  have g3' := J8.frozen 3
  have g4 := J8.frozen 4
  clear hat hl1 W6 D6 M6 z6 hw7 hnj hnn hnc J7 N7 C7 b7 k7 J8 hk1 hk2
  go_wp2
  go_ret
  have J9 : RowAt (((((w7.setCell ⟨bJ, 5, none⟩ (.bool false)).setCell ⟨bJ, 1, none⟩ (.int .u64 (C1 : Int))).setCell ⟨bJ, 2, none⟩ (.int .i64 (Fa : Int))).setCell ⟨bJ, 3, none⟩ (.int .i64 (U1 : Int))).setCell ⟨bJ, 4, none⟩ (.int .i64 (K : Int))) bJ 69 (jrow D ⟨C1, Fa, U1, K⟩ false) := ((((J7H.out.set 5 (.bool false)).set 1 (.int .u64 (C1 : Int))).set 2 (.int .i64 (Fa : Int))).set 3 (.int .i64 (U1 : Int))).set 4 (.int .i64 (K : Int))
  have h9 : ∀ g, g ≠ bJ → (((((w7.setCell ⟨bJ, 5, none⟩ (.bool false)).setCell ⟨bJ, 1, none⟩ (.int .u64 (C1 : Int))).setCell ⟨bJ, 2, none⟩ (.int .i64 (Fa : Int))).setCell ⟨bJ, 3, none⟩ (.int .i64 (U1 : Int))).setCell ⟨bJ, 4, none⟩ (.int .i64 (K : Int))).heap[g]? = w7.heap[g]? := fun g hg => by
    rw [heap_setCell_other _ _ _ _ hg, heap_setCell_other _ _ _ _ hg, heap_setCell_other _ _ _ _ hg, heap_setCell_other _ _ _ _ hg, heap_setCell_other _ _ _ _ hg]
  have o9 : Below bJ w7 (((((w7.setCell ⟨bJ, 5, none⟩ (.bool false)).setCell ⟨bJ, 1, none⟩ (.int .u64 (C1 : Int))).setCell ⟨bJ, 2, none⟩ (.int .i64 (Fa : Int))).setCell ⟨bJ, 3, none⟩ (.int .i64 (U1 : Int))).setCell ⟨bJ, 4, none⟩ (.int .i64 (K : Int))) := (((((Below.refl bJ w7).setCell (p := ⟨bJ, 5, none⟩) (Nat.le_refl bJ) _).setCell (p := ⟨bJ, 1, none⟩) (Nat.le_refl bJ) _).setCell (p := ⟨bJ, 2, none⟩) (Nat.le_refl bJ) _).setCell (p := ⟨bJ, 3, none⟩) (Nat.le_refl bJ) _).setCell (p := ⟨bJ, 4, none⟩) (Nat.le_refl bJ) _
  generalize (((((w7.setCell ⟨bJ, 5, none⟩ (.bool false)).setCell ⟨bJ, 1, none⟩ (.int .u64 (C1 : Int))).setCell ⟨bJ, 2, none⟩ (.int .i64 (Fa : Int))).setCell ⟨bJ, 3, none⟩ (.int .i64 (U1 : Int))).setCell ⟨bJ, 4, none⟩ (.int .i64 (K : Int))) = w9 at J9 h9 o9 ⊢
  have eN : (⟨C1, Fa, U1, K⟩ : J.H) = nextH ⟨Fc, Fa, Fu, Fb⟩ L := by
    unfold nextH
    simp only
    rw [HC1.out, HU1.out, HKe.out, ← HZ.out]
  refine ⟨rfl, k, M', ⟨by rw [← HEe.out]; exact HK1.out, by rw [← HEe.out]; exact HK2.out⟩, by rw [← eN]; exact J9, ?_, ⟨o9.os.trans M7.out.os, o9.tape.trans M7.out.tape, o9.output.trans M7.out.output, Nat.le_trans M7.out.size o9.size, fun g hg h1 h2 h3 h4 => by rw [h9 g h4, M7.out.block g hg h1 h2 h3]⟩, Z7.out⟩
  obtain ⟨sv, uv, hk⟩ := D7.out
  have hD9 : D ≠ bJ := hk.row.ne J7H.out (by decide)
  have hS9 : S ≠ bJ := hk.sure.ne J7H.out (by decide)
  have hM9 : M' ≠ bJ := fun e => hk.un.row_ne J7H.out e.symm
  have := hk.keepA o9.size (h9 D hD9) (h9 S hS9) (h9 M' hM9) (fun g c _ hg => (h9 g (J7H.out.ne hg (by decide)).symm).trans hg)
  rw [← HEe.out, ← HC1.out, ← eN]
  exact ⟨sv, uv, this⟩
set_option maxHeartbeats 4000000 in
set_option maxRecDepth 5000 in
theorem lay_full (w : World) (D S M bJ : Nat) (s : K.St) (Hj F : J.H) (ao : Option Addr) (c : Nat) (L : List (List UInt8)) (hFb : F.b + L.length ≤ 1048576) (hLs : SlBs w ao L) (hLz : J.fsz L ≤ 1000000000) (hj : RowAt w bJ 69 (jrow D Hj false)) (hd : DiskAt FF w D S M s) (hn : 8 ≤ s.n) (hFu : F.u ≤ J.arb s) (hroom : J.arb s < F.u + J.fsz L) :
    Calls Tryd.prog 37 #[.pointer (some ⟨bJ, 0, none⟩), .slice ao L.length c, .agg (hrow F)] w fun e w' => e = .returned (.int .i64 90) ∧ Below w.heap.size w w' := by
  obtain ⟨hb1, hb2, hb3, hb4⟩ := hd.bds
  obtain ⟨hD, hS, hM⟩ := hd.lts
  have hjl := hj.lt
  have harb : J.arb s ≤ 16777216 := by
    have : J.arb s ≤ 4096 * 4096 := Nat.mul_le_mul (by unfold J.ars; omega) hb2
    omega
  have hfs := framesSize_any w ao c L (by omega) (by omega) hLs
  have R0 : RowAt ((w.alloc (.cells #[.pointer (some ⟨bJ, 0, none⟩)] 31)).alloc (.cells (hrow F) 67)) w.heap.size 31 #[.pointer (some ⟨bJ, 0, none⟩)] := (RowAt.new w _ _).alloc _
  have R1 : RowAt ((w.alloc (.cells #[.pointer (some ⟨bJ, 0, none⟩)] 31)).alloc (.cells (hrow F) 67)) (w.heap.size + 1) 67 (hrow F) := by
    have := RowAt.new (w.alloc (.cells #[.pointer (some ⟨bJ, 0, none⟩)] 31)) 67 (hrow F)
    rwa [World.size_alloc] at this
  have B1 : Below w.heap.size w ((w.alloc (.cells #[.pointer (some ⟨bJ, 0, none⟩)] 31)).alloc (.cells (hrow F) 67)) := ((Below.refl _ w).alloc (Nat.le_refl _) _).alloc (by simp) _
  have hab : ∀ W, DiskAt FF W D S M s → Calls Tryd.prog 35 #[.agg #[.pointer (some ⟨D, 0, none⟩)]] W fun e w' => e = .returned (.int .i64 (J.arb s : Int)) ∧ Below W.heap.size W w' := fun W hW => areaBytes_any W D S M s hW hn
  have hfsa : ∀ W, SlBs W ao L → Calls Tryd.prog 56 #[.slice ao L.length c] W fun e w' => e = .returned (.int .i64 (J.fsz L : Int)) ∧ w' = W := fun W hW => framesSize_any W ao c L (by omega) (by omega) hW
  obtain ⟨Fc, Fa, Fu, Fb⟩ := F
  simp only at hFu hroom hFb
  unfold hrow at R0 R1 B1 ⊢
  simp only at R0 R1 B1 ⊢
  have HD := hide hd
  have HJ := hide hj
  have HLS := hide hLs
  have hroom' : decide ((J.arb s : Int) - (Fu : Int) < (J.fsz L : Int)) = true := by simp; omega
  have hmany : decide ((1048576 : Int) - (Fb : Int) < (L.length : Int)) = false := by simp; omega
  have hwm : IntKind.i64.wrap ((1048576 : Int) - (Fb : Int)) = (1048576 : Int) - (Fb : Int) := by rw [IntKind.wrap_i64]; omega
  have hwr : IntKind.i64.wrap ((J.arb s : Int) - (Fu : Int)) = (J.arb s : Int) - (Fu : Int) := by rw [IntKind.wrap_i64]; omega
  obtain ⟨Z, hZ⟩ : ∃ Z, Z = J.fsz L := ⟨_, rfl⟩
  obtain ⟨AB, hAB⟩ : ∃ AB, AB = J.arb s := ⟨_, rfl⟩
  rw [← hZ] at hfsa hroom' hroom hLz
  rw [← hAB] at hab hroom' hroom harb hFu hwr
  have HZ := hide hZ
  have HAB := hide hAB
  clear hd hj hLs hfs hZ hAB
  go_enter Tryd.func37, Tryd.ntmps37
  go_wp2
  generalize (w.alloc (.cells #[.pointer (some ⟨bJ, 0, none⟩)] 31)).alloc (.cells #[.int .u64 (Fc : Int), .int .i64 (Fa : Int), .int .i64 (Fu : Int), .int .i64 (Fb : Int)] 67) = w1 at R0 R1 B1 ⊢
  have J1 := HJ.out.below B1 hjl
  have x0 : w1.cell? ⟨w.heap.size, 0, none⟩ = some (.pointer (some ⟨bJ, 0, none⟩)) := R0.cell 0
  have x1 : w1.cell? ⟨bJ, 0, none⟩ = some (.pointer (some ⟨D, 0, none⟩)) := J1.cell 0
  have x2 : w1.cell? ⟨w.heap.size + 1, 2, none⟩ = some (.int .i64 (Fu : Int)) := R1.cell 2
  have x3 : w1.cell? ⟨w.heap.size + 1, 3, none⟩ = some (.int .i64 (Fb : Int)) := R1.cell 3
  have FA : Hid (RowAt w1 w.heap.size 31 #[.pointer (some ⟨bJ, 0, none⟩)] ∧ RowAt w1 (w.heap.size + 1) 67 #[.int .u64 (Fc : Int), .int .i64 (Fa : Int), .int .i64 (Fu : Int), .int .i64 (Fb : Int)] ∧ RowAt w1 bJ 69 (jrow D Hj false) ∧ Below w.heap.size w w1) := ⟨R0, R1, J1, B1⟩
  clear R0 R1 J1 B1
  go_region_held3 (fun w' => w'.cell? ⟨w.heap.size, 0, none⟩ = some (.pointer (some ⟨bJ, 0, none⟩)) ∧ w'.cell? ⟨bJ, 0, none⟩ = some (.pointer (some ⟨D, 0, none⟩)) ∧ w'.cell? ⟨w.heap.size + 1, 2, none⟩ = some (.int .i64 (Fu : Int)) ∧ w'.cell? ⟨w.heap.size + 1, 3, none⟩ = some (.int .i64 (Fb : Int))) (first | exact ⟨x0, x1, x2, x3⟩ | exact cc2.out | fail) (first
    | (go_at_call 56; refine (hfsa _ (by first | exact HLS.out.below FA.out.2.2.2 (Nat.le_refl _) | exact HLS.out.below FA.out.2.2.2.drew (Nat.le_refl _) | exact HLS.out.below (below_drewN FA.out.2.2.2 _) (Nat.le_refl _) | exact HLS.out.below FB.out.2.2.2 (Nat.le_refl _) | exact HLS.out.below FB.out.2.2.2.drew (Nat.le_refl _))).mono ?_; rintro e w' ⟨rfl, hw⟩; rw [hw]; clear hw w')
    | (go_at_call 35; refine (hab _ (by first | exact HD.out.below FA.out.2.2.2 (Nat.le_refl _) | exact DiskAt.drewN (HD.out.below FA.out.2.2.2 (Nat.le_refl _)) _)).mono ?_; rintro e w2 ⟨rfl, b2⟩; have b2a := below_rx (w := w1) b2 rfl rfl rfl rfl; have FB : Hid (RowAt w2 w.heap.size 31 #[.pointer (some ⟨bJ, 0, none⟩)] ∧ RowAt w2 (w.heap.size + 1) 67 #[.int .u64 (Fc : Int), .int .i64 (Fa : Int), .int .i64 (Fu : Int), .int .i64 (Fb : Int)] ∧ RowAt w2 bJ 69 (jrow D Hj false) ∧ Below w.heap.size w w2) := ⟨FA.out.1.below b2a FA.out.1.lt, FA.out.2.1.below b2a FA.out.2.1.lt, FA.out.2.2.1.below b2a FA.out.2.2.1.lt, FA.out.2.2.2.trans (b2a.mono FA.out.2.2.2.size)⟩; have cc2 := hide (And.intro (FB.out.1.cell 0) (And.intro (FB.out.2.2.1.cell 0) (And.intro (FB.out.2.1.cell 2) (FB.out.2.1.cell 3)))); clear b2 b2a))
  go_wp2
  go_ret
  exact ⟨rfl, FB.out.2.2.2⟩
set_option maxRecDepth 5000 in
theorem commits_any (w : World) (D bJ : Nat) (H : J.H) (t : Bool) (hj : RowAt w bJ 69 (jrow D H t)) : Calls Tryd.prog 18 #[.pointer (some ⟨bJ, 0, none⟩)] w fun e w' => e = .returned (.int .u64 (H.c : Int)) ∧ w' = w := by
  have x1 : w.cell? ⟨bJ, 1, none⟩ = some (.int .u64 (H.c : Int)) := hj.cell 1
  clear hj
  go_enter Tryd.func18, Tryd.ntmps18
  go_wp2
  go_ret
  exact ⟨rfl, rfl⟩
end Go.Proofs.YtidocfajhhpfdaaDoor
