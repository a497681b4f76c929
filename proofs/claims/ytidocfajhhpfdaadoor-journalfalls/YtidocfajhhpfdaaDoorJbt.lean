/- A journal in memory, on its disk; what keeps it. -/
import Derived.Test.YtidocfajhhpfdaaDoorJkn
namespace Go.Proofs.YtidocfajhhpfdaaDoor
open Go.RowKit
/- behind w0: a disk D, S, M, and a journal bJ on it, as the state says -/
structure JW (w0 : World) (D S bJ M : Nat) (s : K.St) (h : J.H) (L : List (List UInt8)) (W : World) : Prop where
  bl : Below w0.heap.size w0 W
  bD : w0.heap.size ≤ D
  bS : w0.heap.size ≤ S
  bM : w0.heap.size ≤ M
  bj : w0.heap.size ≤ bJ
  dk : DiskAt FF W D S M s
  is : J.Is s h L
  jr : RowAt W bJ 69 (jrow D h false)
set_option maxRecDepth 5000 in
theorem JW.tab {w0 W : World} {D S bJ M : Nat} {s : K.St} {h : J.H} {L : List (List UInt8)} (hw : JW w0 D S bJ M s h L W) (ht : Tab w0) : Tab W := ht.below hw.bl ht.1
set_option maxRecDepth 5000 in
theorem JW.pos {w0 W : World} {D S bJ M : Nat} {s : K.St} {h : J.H} {L : List (List UInt8)} (hw : JW w0 D S bJ M s h L W) (ht : Tab w0) : 0 < D ∧ 0 < S ∧ 0 < M := by
  have := ht.1; have := hw.bD; have := hw.bS; have := hw.bM; omega
set_option maxRecDepth 5000 in
theorem JW.below {w0 W W' : World} {D S bJ M : Nat} {s : K.St} {h : J.H} {L : List (List UInt8)} (hw : JW w0 D S bJ M s h L W) (hb : Below W.heap.size W W') : JW w0 D S bJ M s h L W' :=
  ⟨hw.bl.trans (hb.mono hw.bl.size), hw.bD, hw.bS, hw.bM, hw.bj, hw.dk.below hb (Nat.le_refl _), hw.is, hw.jr.below hb hw.jr.lt⟩
set_option maxRecDepth 5000 in
theorem JW.laid {w0 W W' : World} {D S bJ M M' : Nat} {s s' : K.St} {h h' : J.H} {L L' : List (List UInt8)} (hw : JW w0 D S bJ M s h L W) (hl : Laid W W' D S M bJ s h' L' M' s') : JW w0 D S bJ M' s' h' L' W' :=
  ⟨hl.mv.below hw.bl hw.bl.size hw.bD hw.bS hw.bM hw.bj, hw.bD, hw.bS, Nat.le_trans hw.bl.size hl.m, hw.bj, hl.dk, hl.is, hl.jr⟩
/- lists that were made behind the disk are kept -/
set_option maxRecDepth 5000 in
theorem Laid.keepBs {W W' : World} {D S bJ M M' B : Nat} {s s' : K.St} {h h' : J.H} {L' : List (List UInt8)} (hl : Laid W W' D S M bJ s h' L' M' s') (hd : DiskAt FF W D S M s) (hj : RowAt W bJ 69 (jrow D h false)) {v : Value} {R : List (List UInt8)} (hv : OwnBs W B v R) (hS : S < B) : OwnBs W' B v R := by
  obtain ⟨sv, uv, hk⟩ := hd
  refine hv.kept hl.mv.size (fun g o ho hb => ?_)
  have hlt : g < W.heap.size := (Array.getElem?_eq_some_iff.1 ho).1
  have hrow := hk.row
  have hsur := hk.sure
  unfold RowAt at hrow hsur hj
  refine hl.mv.block g hlt (fun e => ?_) (fun e => ?_) ?_ (fun e => ?_)
  · rw [e, hrow] at ho; injection ho with ho
    rcases hb with ⟨c, fr, hb⟩ | ⟨_, c, fr, hb⟩ <;> (rw [hb] at ho; injection ho with _ ho _; exact absurd ho (by decide))
  · rcases hb with ⟨c, fr, hb⟩ | ⟨hg, _⟩
    · rw [e, hsur] at ho; injection ho with ho; rw [hb] at ho; injection ho with _ ho _; exact absurd ho (by decide)
    · omega
  · rcases hb with ⟨c, fr, rfl⟩ | ⟨_, c, fr, rfl⟩
    · exact hk.un.row_ne ho
    · exact hk.un.row_ne ho
  · rw [e, hj] at ho; injection ho with ho
    rcases hb with ⟨c, fr, hb⟩ | ⟨_, c, fr, hb⟩ <;> (rw [hb] at ho; injection ho with _ ho _; exact absurd ho (by decide))
set_option maxRecDepth 5000 in
theorem OwnBs.bel {w w' : World} {B : Nat} {v : Value} {L : List (List UInt8)} (h : OwnBs w B v L) (hb : Below w.heap.size w w') : OwnBs w' B v L := h.kept hb.size (fun g _ ho _ => hb.block g (Array.getElem?_eq_some_iff.1 ho).1)
/- Open of a journal's disk: another journal on it -/
set_option maxRecDepth 5000 in
theorem JW.opened {w0 W W' : World} {D S bJ M M' : Nat} {s : K.St} {h : J.H} {L : List (List UInt8)} (hw : JW w0 D S bJ M s h L W) (hm : Mv D S M W W') (hM : W.heap.size ≤ M') (hd : DiskAt FF W' D S M' s.synced) (hj : RowAt W' W.heap.size 69 (jrow D h false)) : JW w0 D S W.heap.size M' s.synced h L W' :=
  ⟨hm.below hw.bl hw.bl.size hw.bD hw.bS hw.bM, hw.bD, hw.bS, Nat.le_trans hw.bl.size hM, hw.bl.size, hd, hw.is.synced, hj⟩
end Go.Proofs.YtidocfajhhpfdaaDoor

/- The law's batch and size. -/
namespace Go.Proofs.YtidocfajhhpfdaaDoor
open Go.RowKit
set_option maxRecDepth 5000 in
theorem u8_wrap (X : Int) : ∃ y : UInt8, IntKind.u8.wrap X = (y.toNat : Int) := by
  refine ⟨UInt8.ofNat (X % 256).toNat, ?_⟩
  rw [IntKind.wrap_u8]
  simp only [UInt8.toNat_ofNat']
  omega
set_option maxRecDepth 5000 in
theorem vb_set (l : List UInt8) (t : Nat) (y : UInt8) : (vb l).toArray.setIfInBounds t (.int .u8 (y.toNat : Int)) = (vb (l.set t y)).toArray := by
  rw [List.setIfInBounds_toArray]
  unfold vb
  rw [List.map_set]
set_option maxRecDepth 5000 in
theorem inb_row {w : World} {g : Nat} {l : List UInt8} (h : RowAt w g 5 (vb l).toArray) : InB w (some ⟨g, 0, none⟩) l := fun _ => ⟨g, 0, _, _, rfl, h, fun j hj => by rw [Nat.zero_add]; simp only [List.getElem?_toArray]; exact vb_get l j hj⟩
set_option maxRecDepth 5000 in
theorem OwnBs.own {w : World} {base : Nat} {v : Value} {L : List (List UInt8)} (h : OwnBs w base v L) : ∃ vs, vs.length = L.length ∧ w.ownsRow base 22 1 v L.length vs ∧ Each w (fun j => vs[j]?) L := by
  obtain ⟨vs, h1, h2⟩ := h
  refine ⟨vs, ?_, h1, h2⟩
  have := h1.1
  omega
set_option maxHeartbeats 4000000 in
set_option maxRecDepth 5000 in
theorem batch_any (w : World) (i : Int) (hi1 : 0 ≤ i) (hi2 : i ≤ 100000) (ao : Option Addr) (c : Nat) (ls : List UInt8) (hl : ls.length ≤ 1000) (hs : SlL w ao ls) :
    Calls Tryd.prog 16 #[.int .i64 i, .slice ao ls.length c] w fun e w' => ∃ v, e = .returned v ∧ ∃ R, OwnBs w' w.heap.size v R ∧ R.length = ls.length ∧ (∀ k, k < ls.length → (R.getD k []).length = (ls.getD k 0).toNat) ∧ Below w.heap.size w w' := by
  have HS := hide hs
  clear hs
  go_enter Tryd.func16, Tryd.ntmps16
  go_wp2
  go_loopw [5, 6] (fun v q wr => ∃ (k : Nat) (R : List (List UInt8)), k ≤ ls.length ∧ q = .int .i64 (k : Int) ∧ OwnBs wr w.heap.size v R ∧ R.length = k ∧ (∀ m, m < k → (R.getD m []).length = (ls.getD m 0).toNat) ∧ Below w.heap.size w wr) (fun v q wr => ls.length - (intOf q).toNat)
  case atStart => exact ⟨0, [], by omega, rfl, OwnBs.nil _ _, rfl, fun m hm => by omega, Below.refl _ _⟩
  case round =>
    obtain ⟨wA, rfl⟩ : ∃ wA, wA = wr := ⟨wr, rfl⟩
    obtain ⟨k, R, hk, rfl, hO, hRl, hRk, hBw⟩ := hrel
    by_cases hlt : k < ls.length
    · obtain ⟨b, o, rfl, hb, hc⟩ := HS.out (by omega)
      have c1 := (hBw.cell (p := ⟨b, o + k, none⟩) hb).trans (hc k hlt)
      have hlt' : (k : Int) < (ls.length : Int) := by omega
      obtain ⟨n, hn⟩ : ∃ n, n = (ls.getD k 0).toNat := ⟨_, rfl⟩
      rw [← hn] at c1
      have hn256 : n < 256 := by rw [hn]; exact (ls.getD k 0).toNat_lt
      have HN := hide hn
      have hmk := make_zeros n (by omega)
      have R0 : Hid (RowAt (wA.alloc (.cells (vb (List.replicate n 0)).toArray 5)) wA.heap.size 5 (vb (List.replicate n 0)).toArray) := RowAt.new wA _ _
      have B0 : Hid (Below wA.heap.size wA (wA.alloc (.cells (vb (List.replicate n 0)).toArray 5))) := (Below.refl _ wA).alloc (Nat.le_refl _) _
      generalize (Obj.cells (vb (List.replicate n 0)).toArray 5) = ob at hmk R0 B0
      have HO := hide hO
      have HRk := hide hRk
      have HBw := hide hBw
      clear hc hn hO hRk hBw
      go_wp2
      go_loopw [8] (fun q w2 => ∃ (t : Nat) (l : List UInt8), t ≤ n ∧ q = .int .i64 (t : Int) ∧ l.length = n ∧ RowAt w2 wA.heap.size 5 (vb l).toArray ∧ Below wA.heap.size wA w2) (fun q w2 => n - (intOf q).toNat)
      case atStart => exact ⟨0, List.replicate n 0, by omega, rfl, List.length_replicate, R0.out, B0.out⟩
      case round =>
        obtain ⟨t, l, ht, rfl, hll, hR, hB2⟩ := hrel
        have HR := hide hR
        have HB2 := hide hB2
        by_cases htn : t < n
        · have htn' : (t : Int) < (n : Int) := by omega
          obtain ⟨y, hy⟩ := u8_wrap (31 * i + 7 * (k : Int) + (t : Int))
          have x0 : wr.cell? ⟨wA.heap.size, t, none⟩ = some (.int .u8 (l.getD t 0).toNat) := by rw [hR.cell, List.getElem?_toArray]; exact vb_get l t (by omega)
          have f0 := hR.frozen t
          have R1 := hR.set t (.int .u8 (y.toNat : Int))
          rw [vb_set] at R1
          have HR1 := hide R1
          have B1 := hide (hB2.setCell (p := ⟨wA.heap.size, t, none⟩) (Nat.le_refl _) (.int .u8 (y.toNat : Int)))
          clear hR hB2 R1
          go_wp2
          go_roundw
          case rel => exact ⟨t + 1, l.set t y, by omega, by go_num, by rw [List.length_set]; exact hll, HR1.out, B1.out⟩
          case measure => simp [intOf]; omega
        · have htn' : ¬ (t : Int) < (n : Int) := by omega
          obtain ⟨vs, hvl, hV, hE⟩ := (HO.out.kept hB2.size (fun g _ ho _ => hB2.block g (Array.getElem?_eq_some_iff.1 ho).1)).own
          have I2 := hide (inb_row hR)
          have V2 := hide hV
          have E2 := hide hE
          have z2 : w.heap.size ≤ wr.heap.size := Nat.le_trans HBw.out.size hB2.size
          have BB2 := hide (HBw.out.trans (hB2.mono HBw.out.size))
          clear hR hB2 hV hE
          go_wp2_with (first
            | (at_builtin; refine wpList_append_one rfl (.tmp 38) (.tmp 40) rfl w.heap.size _ _ _ rfl (owns_alloc V2.out ((Below.refl _ _).alloc (Nat.le_refl _) _)) wr.heap.size (.slice (some ⟨wA.heap.size, 0, none⟩) n n) rfl rfl (by rw [(RowAt.new wr _ _).cell]; rfl) (by omega) (by simp; omega) ?_; intro v4 w4 O4 G4; have V3a := owns_alloc V2.out ((Below.refl wr.heap.size wr).alloc (Nat.le_refl _) (.cells #[.slice (some ⟨wA.heap.size, 0, none⟩) n n] 22)); have B3a := BB2.out.trans (((Below.refl wr.heap.size wr).alloc (Nat.le_refl _) (.cells #[.slice (some ⟨wA.heap.size, 0, none⟩) n n] 22)).mono z2); have B4 := hide (owns_below V3a G4 B3a (by simp; omega)); have k4 := (KB.of_below ((Below.refl wr.heap.size wr).alloc (Nat.le_refl _) (.cells #[.slice (some ⟨wA.heap.size, 0, none⟩) n n] 22))).trans (owns_kb V3a G4); have e1 := each_one w4 (some ⟨wA.heap.size, 0, none⟩) n l (I2.out.kb k4) (fun h => by cases h); have E4 := hide (each_app (E2.out.kb k4) hvl e1); have V4 := hide O4; clear O4 G4 k4 V3a B3a e1)
            | fail)
          go_roundw
          case rel =>
            refine ⟨k + 1, R ++ [l], by omega, by go_num, ⟨vs ++ [.slice (some ⟨wA.heap.size, 0, none⟩) n n], ?_, ?_⟩, by rw [List.length_append, hRl]; rfl, fun m hm => ?_, B4.out⟩
            · rw [List.length_append]; exact V4.out
            · have := E4.out; rw [hll] at this; exact this
            · by_cases h : m < k
              · have := HRk.out m h
                simp only [List.getD_eq_getElem?_getD] at this ⊢
                rw [List.getElem?_append_left (by omega)]; exact this
              · have : m = k := by omega
                subst this
                rw [← HN.out, ← hll]
                simp only [List.getD_eq_getElem?_getD]
                rw [List.getElem?_append_right (by omega), hRl]; simp
          case measure => simp [intOf]; omega
    · have hlt' : ¬ (k : Int) < (ls.length : Int) := by omega
      have ek : k = ls.length := by omega
      have HO := hide hO
      have HRk := hide hRk
      have HBw := hide hBw
      clear hO hRk hBw
      obtain ⟨a9, c9, hv9⟩ := HO.out.slice
      rw [hRl, ek] at hv9
      rw [hv9] at HO ⊢
      go_wp2
      go_ret
      exact ⟨_, rfl, R, HO.out, by rw [hRl, ek], by rw [← ek]; exact HRk.out, HBw.out⟩
end Go.Proofs.YtidocfajhhpfdaaDoor
