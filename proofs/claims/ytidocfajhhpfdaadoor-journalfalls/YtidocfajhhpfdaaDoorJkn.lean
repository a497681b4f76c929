/- signethelp.Blobs of the same lists. -/
import Derived.Test.YtidocfajhhpfdaaDoorJrm
import Derived.Test.YtidocfajhhpfdaaDoorJis
namespace Go.Proofs.YtidocfajhhpfdaaDoor
open Go.RowKit
set_option maxRecDepth 5000 in
theorem SlBs.drewN {w : World} {ao : Option Addr} {L : List (List UInt8)} (h : SlBs w ao L) (n : Nat) : SlBs (w.drewN n) ao L := h.below (below_drewN (Below.refl w.heap.size w) n) (Nat.le_refl _)
set_option maxRecDepth 5000 in
theorem OwnBs.sl {w : World} {base : Nat} {a : Option Addr} {n c : Nat} {L : List (List UInt8)} (h : OwnBs w base (.slice a n c) L) : SlBs w a L := fun hl => by
  obtain ⟨vs, h1, h2⟩ := h
  rcases h1.2 with ⟨e, e2⟩ | ⟨g, cap, cur, e, h3, h4, h5, h6, h7, h8⟩
  · omega
  · injection e with e1 _ _
    subst e1
    refine ⟨g, 0, rfl, (Array.getElem?_eq_some_iff.1 h4).1, fun j hj => ?_⟩
    obtain ⟨a, c', h9, h10, h11⟩ := h2 j hj
    refine ⟨a, c', ?_, h10.sl, h11⟩
    rw [Nat.zero_add, cell_of_row _ _ _ _ _ _ h4]
    have h12 : vs[j]? = _ := h9
    rw [← h8, Nat.mul_one, List.getElem?_take, if_pos hj] at h12
    simpa using h12
set_option maxHeartbeats 2000000 in
set_option maxRecDepth 5000 in
theorem blobs_same (w : World) (ao ao' : Option Addr) (c c' n n' : Nat) (L : List (List UInt8)) (hn : L.length = n) (hn' : L.length = n') (hl : n ≤ 1000000000) (hs : SlBs w ao L) (hs' : SlBs w ao' L) :
    Calls Tryd.prog 17 #[.slice ao n c, .slice ao' n' c'] w fun e w' => e = .returned (.bool true) ∧ ∃ m, w' = w.drewN m := by
  subst hn
  subst hn'
  have HS := hide hs
  have HS' := hide hs'
  clear hs hs'
  go_enter Tryd.func17, Tryd.ntmps17
  go_wp2
  go_loopw [5] (fun i wr => (∃ m, wr = w.drewN m) ∧ ∃ k : Nat, k ≤ L.length ∧ i = .int .i64 (k : Int)) (fun i wr => L.length - (intOf i).toNat)
  case atStart => exact ⟨⟨0, rfl⟩, 0, by omega, rfl⟩
  case round =>
    obtain ⟨⟨m, hm⟩, k, hk, rfl⟩ := hrel
    have S1 := HS.out.drewN m
    have S2 := HS'.out.drewN m
    rw [← hm] at S1 S2
    have HM := hide hm
    clear hm
    by_cases hlt : k < L.length
    · have hlt' : (k : Int) < (L.length : Int) := by omega
      obtain ⟨b1, o1, e1, hb1, hc1⟩ := S1 (by omega)
      obtain ⟨b2, o2, e2, hb2, hc2⟩ := S2 (by omega)
      obtain ⟨a1, d1, x1, y1, _⟩ := hc1 k hlt
      obtain ⟨a2, d2, x2, y2, _⟩ := hc2 k hlt
      subst e1
      subst e2
      have hby : ∀ W j, W = wr.drewN j → Calls Tryd.prog 36 #[.slice a1 (L.getD k []).length d1, .slice a2 (L.getD k []).length d2] W fun e w' => e = .returned (.bool true) ∧ w' = W := fun W j hW => by
        have := hBytes_any W a1 a2 _ _ d1 d2 (L.getD k []) (L.getD k []) rfl rfl (by rw [hW]; exact y1) (by rw [hW]; exact y2)
        rw [decide_eq_true rfl] at this; exact this
      generalize L.getD k [] = r at *
      clear hc1 hc2 y1 y2 S1 S2
      go_wp2
      go_region_held3 (fun w' => w'.cell? ⟨b1, o1 + k, none⟩ = some (.slice a1 r.length d1) ∧ w'.cell? ⟨b2, o2 + k, none⟩ = some (.slice a2 r.length d2)) (first | exact ⟨x1, x2⟩ | fail) (first
        | (go_at_call 36; refine (hby _ _ rfl).mono ?_; rintro e w' ⟨rfl, hw⟩; rw [hw]; clear hw w'))
      all_goals go_wp2
      all_goals go_roundw
      case rel => exact ⟨⟨m + 1, by rw [HM.out]; rfl⟩, k + 1, by omega, by go_num⟩
      case measure => simp [intOf]; omega
    · have hlt' : ¬ (k : Int) < (L.length : Int) := by omega
      go_wp2
      go_ret
      exact ⟨rfl, m, HM.out⟩
end Go.Proofs.YtidocfajhhpfdaaDoor

/- signetlaw12.known. -/
namespace Go.Proofs.YtidocfajhhpfdaaDoor
open Go.RowKit
def L2 : List (List UInt8) := [[97], [98, 99]]
set_option maxRecDepth 5000 in
theorem fsz2 : J.fsz L2 = 27 := by decide
set_option maxRecDepth 5000 in
theorem crc9 : J.crc [49, 50, 51, 52, 53, 54, 55, 56, 57] = 3421780262 := by decide +kernel
set_option maxRecDepth 5000 in
theorem new_rd (n z i : Nat) : (K.St.new n z).rd i = List.replicate z 0 := rfl
set_option maxRecDepth 5000 in
theorem new_pw (n z : Nat) : Pw (K.St.new n z) := ⟨rfl, rfl⟩
/- a new disk of n sectors, opened -/
def newS (n z : Nat) : K.St := ((K.St.new n z).put 0 (J.hb h0 z)).synced
set_option maxRecDepth 5000 in
theorem newS_n (n z : Nat) : (newS n z).n = n := by unfold newS; rw [synced_n (put_pw (new_pw n z) _ _), put_n (new_pw n z)]; rfl
set_option maxRecDepth 5000 in
theorem newS_sz (n z : Nat) : (newS n z).sz = z := by unfold newS; rw [synced_sz (put_pw (new_pw n z) _ _), put_sz (new_pw n z)]; rfl
set_option maxRecDepth 5000 in
theorem newS_is (n z : Nat) (hn : 8 ≤ n) : J.Is (newS n z) h0 [] := J.Is.synced (J.Is.begun (new_pw n z) hn (fun i _ => new_rd n z i))
set_option maxRecDepth 5000 in
theorem open_new (w : World) (ht : Tab w) (D S M n z : Nat) (hn : 8 ≤ n) (hd : DiskAt FF w D S M (K.St.new n z)) (hpos : 0 < D ∧ 0 < S ∧ 0 < M) :
    Calls Tryd.prog 14 #[.pointer (some ⟨D, 0, none⟩)] w fun e w' => ∃ v M', e = .returned (.tuple #[.pointer (some ⟨w.heap.size, 0, none⟩), v, .int .i64 0]) ∧ RowAt w' w.heap.size 69 (jrow D h0 false) ∧ DiskAt FF w' D S M' (newS n z) ∧ Mv D S M w w' ∧ w.heap.size ≤ M' ∧ OwnBs w' w.heap.size v [] := open_blank w ht D S M _ hd (new_pw n z) hn (fun i _ => new_rd n z i) hpos
set_option maxRecDepth 5000 in
theorem Mv4.below {D S M J B : Nat} {w0 w w' : World} (h : Mv4 D S M J w w') (hb : Below B w0 w) (hB : B ≤ w.heap.size) (hD : B ≤ D) (hS : B ≤ S) (hM : B ≤ M) (hJ : B ≤ J) : Below B w0 w' :=
  ⟨h.os.trans hb.os, h.tape.trans hb.tape, h.output.trans hb.output, Nat.le_trans hb.size h.size, fun g hg => by rw [h.block g (by omega) (by omega) (by omega) (by omega) (by omega), hb.block g hg]⟩
set_option maxRecDepth 5000 in
theorem lit2 (w : World) : SlBs (((w.alloc (.cells #[.int .u8 97] 5 (1, 2))).alloc (.cells #[.int .u8 98, .int .u8 99] 5 (2, 3))).alloc (.cells #[.slice (some ⟨w.heap.size, 0, none⟩) 1 1, .slice (some ⟨w.heap.size + 1, 0, none⟩) 2 2] 22)) (some ⟨w.heap.size + 2, 0, none⟩) L2 := fun _ => by
  have h1 : SlL (((w.alloc (.cells #[.int .u8 97] 5 (1, 2))).alloc (.cells #[.int .u8 98, .int .u8 99] 5 (2, 3))).alloc (.cells #[.slice (some ⟨w.heap.size, 0, none⟩) 1 1, .slice (some ⟨w.heap.size + 1, 0, none⟩) 2 2] 22)) (some ⟨w.heap.size, 0, none⟩) [97] := ((SlL.litm w [97] _ 5 (1, 2) rfl).alloc _).alloc _
  have h2 : SlL (((w.alloc (.cells #[.int .u8 97] 5 (1, 2))).alloc (.cells #[.int .u8 98, .int .u8 99] 5 (2, 3))).alloc (.cells #[.slice (some ⟨w.heap.size, 0, none⟩) 1 1, .slice (some ⟨w.heap.size + 1, 0, none⟩) 2 2] 22)) (some ⟨w.heap.size + 1, 0, none⟩) [98, 99] := by
    have := (SlL.litm (w.alloc (.cells #[.int .u8 97] 5 (1, 2))) [98, 99] #[.int .u8 98, .int .u8 99] 5 (2, 3) rfl).alloc (.cells #[.slice (some ⟨w.heap.size, 0, none⟩) 1 1, .slice (some ⟨w.heap.size + 1, 0, none⟩) 2 2] 22)
    rwa [World.size_alloc] at this
  have h3 := RowAt.new ((w.alloc (.cells #[.int .u8 97] 5 (1, 2))).alloc (.cells #[.int .u8 98, .int .u8 99] 5 (2, 3))) 22 #[.slice (some ⟨w.heap.size, 0, none⟩) 1 1, .slice (some ⟨w.heap.size + 1, 0, none⟩) 2 2]
  rw [World.size_alloc, World.size_alloc] at h3
  refine ⟨w.heap.size + 2, 0, rfl, h3.lt, fun j hj => ?_⟩
  have : j = 0 ∨ j = 1 := by have : j < 2 := hj; omega
  rcases this with rfl | rfl
  · exact ⟨_, _, h3.cell 0, h1, fun h => by cases h⟩
  · exact ⟨_, _, h3.cell 1, h2, fun h => by cases h⟩
set_option maxHeartbeats 4000000 in
set_option maxRecDepth 5000 in
theorem known_any (w : World) (ht : Tab w) : Calls Tryd.prog 9 #[] w fun e w' => e = .returned (.bool true) ∧ Below w.heap.size w w' := by
  have hn := new_at FF w (fun _ h => h.elim) 40 512 40 512 (by omega) (by omega) (by omega) (by omega) (by decide) (by decide)
  have hpos := ht.1
  have kc := run_conv
  have HT := hide ht
  clear ht
  go_enter Tryd.func9, Tryd.ntmps9
  go_wp2_with fail
  refine hn.mono ?_
  rintro e w1 ⟨rfl, hD, hB1, hs1⟩
  have D1 : Hid (DiskAt FF w1 (w.heap.size + 2) w.heap.size (w.heap.size + 1) (K.St.new 40 512)) := hD
  have B1 := hide hB1
  have T1 := hide (HT.out.below hB1 hpos)
  have S1 := hide hs1
  clear hD hB1 hs1 hn
  go_wp2_with fail
  refine (open_new w1 T1.out _ _ _ 40 512 (by omega) D1.out (by omega)).mono ?_
  rintro e w2 ⟨v2, M2, rfl, J2, D2, V2, z2', O2⟩
  obtain ⟨a2, c2, hv2⟩ := O2.slice
  rw [hv2]
  have J2H := hide J2
  have D2H := hide D2
  have V2H := hide V2
  have Z2H := hide z2'
  clear J2 D2 V2 z2' O2 hv2 D1
  have he1 : ∀ (g : Nat) (W : World), (binOp .eql 31 (.pointer (some ⟨g, 0, none⟩)) (.pointer none)).run Tryd.prog W = .ok (.bool false) W := fun _ _ => rfl
  go_wp2_with fail
  rw [show w2.heap.size + 1 + 1 = w2.heap.size + 2 from rfl]
  have L5 := hide (lit2 w2)
  have b5 : Hid (Below w2.heap.size w2 (((w2.alloc (.cells #[.int .u8 97] 5 (1, 2))).alloc (.cells #[.int .u8 98, .int .u8 99] 5 (2, 3))).alloc (.cells #[.slice (some ⟨w2.heap.size, 0, none⟩) 1 1, .slice (some ⟨w2.heap.size + 1, 0, none⟩) 2 2] 22)) ∧ (((w2.alloc (.cells #[.int .u8 97] 5 (1, 2))).alloc (.cells #[.int .u8 98, .int .u8 99] 5 (2, 3))).alloc (.cells #[.slice (some ⟨w2.heap.size, 0, none⟩) 1 1, .slice (some ⟨w2.heap.size + 1, 0, none⟩) 2 2] 22)).heap.size = w2.heap.size + 3) := ⟨(((Below.refl _ w2).alloc (Nat.le_refl _) _).alloc (by simp) _).alloc (by simp; omega) _, by simp⟩
  generalize (((w2.alloc (.cells #[.int .u8 97] 5 (1, 2))).alloc (.cells #[.int .u8 98, .int .u8 99] 5 (2, 3))).alloc (.cells #[.slice (some ⟨w2.heap.size, 0, none⟩) 1 1, .slice (some ⟨w2.heap.size + 1, 0, none⟩) 2 2] 22)) = w5 at L5 b5 ⊢
  have BW2 : Hid (Below w.heap.size w w2) := V2H.out.below B1.out B1.out.size (by omega) (Nat.le_refl _) (by omega)
  have BW5 : Hid (Below w.heap.size w w5) := BW2.out.trans (b5.out.1.mono BW2.out.size)
  have J5 := J2H.out.below b5.out.1 J2H.out.lt
  have D5 := hide (D2H.out.below b5.out.1 (Nat.le_refl _))
  have T5 := hide (HT.out.below BW5.out hpos)
  have hz1 : w.heap.size + 3 = w1.heap.size := S1.out.symm
  have hM2 := Z2H.out
  have hars : J.arb (newS 40 512) = 9728 := by unfold J.arb J.ars; rw [newS_n, newS_sz]
  refine (commit_is w5 T5.out (w.heap.size + 2) w.heap.size M2 w1.heap.size _ h0 [] (newS_is 40 512 (by omega)) D5.out J5 (by omega) (some ⟨w2.heap.size + 2, 0, none⟩) 2 L2 L5.out (by decide) (by decide) (by rw [fsz2]; omega)).mono ?_
  rintro e w6 (⟨_, rfl, M6, s6, L6⟩ | ⟨hbad, _, _⟩)
  case inr => rw [fsz2, hars] at hbad; exact absurd hbad (by decide)
  have D6H := hide L6.dk
  have I6 : Hid (J.Is s6 (nextH h0 L2) L2) := L6.is
  have V6 := L6.mv
  have z6 := L6.m
  have BW6 : Hid (Below w.heap.size w w6) := V6.below BW5.out BW5.out.size (by omega) (Nat.le_refl _) (by omega) (by omega)
  have T6 := hide (HT.out.below BW6.out hpos)
  have z6' := Nat.le_trans BW5.out.size z6
  clear L6 V6 z6 D5 J5 J2H D2H L5 b5 T5
  go_wp2_with fail
  refine (open_is w6 T6.out _ _ _ _ D6H.out _ _ I6.out (by omega)).mono ?_
  rintro e w7 ⟨v7, M7, rfl, J7, D7, V7, z7, O7⟩
  obtain ⟨a7, c7, hv7⟩ := O7.slice
  rw [hv7] at O7 ⊢
  have BW7 : Hid (Below w.heap.size w w7) := V7.below BW6.out BW6.out.size (by omega) (Nat.le_refl _) (by omega)
  have J7H := hide J7
  have O7H := hide O7
  clear J7 D7 V7 z7 O7 hv7 D6H
  go_wp2_with fail
  refine (new_at FF w7 (fun _ h => h.elim) 1 64 1 64 (by omega) (by omega) (by omega) (by omega) (by decide) (by decide)).mono ?_
  rintro e w8 ⟨rfl, D8, B8, s8⟩
  have D8H : Hid (DiskAt FF w8 (w7.heap.size + 2) w7.heap.size (w7.heap.size + 1) (K.St.new 1 64)) := D8
  have J8H := hide (J7H.out.below B8 J7H.out.lt)
  have O8H : Hid (OwnBs w8 w6.heap.size (.slice a7 L2.length c7) L2) := O7H.out.kept B8.size (fun g o ho _ => B8.block g (Array.getElem?_eq_some_iff.1 ho).1)
  have BW8 : Hid (Below w.heap.size w w8) := BW7.out.trans (B8.mono BW7.out.size)
  clear D8 B8 s8 J7H O7H
  go_wp2_with fail
  refine (opn_small w8 _ _ _ _ D8H.out (by decide)).mono ?_
  rintro e w' ⟨rfl, hw'⟩
  rw [hw']
  clear hw' w' D8H
  have hne1 : ∀ (g : Nat) (W : World), (binOp .neq 31 (.pointer (some ⟨g, 0, none⟩)) (.pointer none)).run Tryd.prog W = .ok (.bool true) W := fun _ _ => rfl
  go_wp2_with fail
  rw [show w8.heap.size + 1 + 1 = w8.heap.size + 2 from rfl]
  have L9 := hide (lit2 w8)
  have b9 : Hid (Below w8.heap.size w8 (((w8.alloc (.cells #[.int .u8 97] 5 (1, 2))).alloc (.cells #[.int .u8 98, .int .u8 99] 5 (2, 3))).alloc (.cells #[.slice (some ⟨w8.heap.size, 0, none⟩) 1 1, .slice (some ⟨w8.heap.size + 1, 0, none⟩) 2 2] 22))) := (((Below.refl _ w8).alloc (Nat.le_refl _) _).alloc (by simp) _).alloc (by simp; omega) _
  generalize (((w8.alloc (.cells #[.int .u8 97] 5 (1, 2))).alloc (.cells #[.int .u8 98, .int .u8 99] 5 (2, 3))).alloc (.cells #[.slice (some ⟨w8.heap.size, 0, none⟩) 1 1, .slice (some ⟨w8.heap.size + 1, 0, none⟩) 2 2] 22)) = w9 at L9 b9 ⊢
  have J9H := hide (J8H.out.below b9.out J8H.out.lt)
  have BW9 : Hid (Below w.heap.size w w9) := BW8.out.trans (b9.out.mono BW8.out.size)
  refine (blobs_same w9 a7 (some ⟨w8.heap.size + 2, 0, none⟩) c7 2 L2.length 2 L2 rfl rfl (by decide) (O8H.out.sl.below b9.out (Nat.le_refl _)) L9.out).mono ?_
  rintro e w10 ⟨rfl, m, hw10⟩
  have J10 : Hid (RowAt w10 w6.heap.size 69 (jrow (w.heap.size + 2) (nextH h0 L2) false)) := by rw [hw10]; exact J9H.out
  have BW10 : Hid (Below w.heap.size w w10) := by rw [hw10]; exact below_drewN BW9.out m
  clear hw10 L9 b9 J9H J8H O8H
  have hcm : Calls Tryd.prog 18 #[.pointer (some ⟨w6.heap.size, 0, none⟩)] w10 fun e w' => e = .returned (.int .u64 1) ∧ w' = w10 := commits_any w10 _ _ (nextH h0 L2) false J10.out
  have T10 := hide (HT.out.below BW10.out hpos)
  have hcr : ∀ W, Tab W → SlL W (some ⟨w10.heap.size, 0, none⟩) [49, 50, 51, 52, 53, 54, 55, 56, 57] → Calls Tryd.prog 10 #[.slice (some ⟨w10.heap.size, 0, none⟩) 9 9] W fun e w' => e = .returned (.int .u32 3421780262) ∧ w' = W := fun W h1 h2 => by
    have := crc_at W h1 (some ⟨w10.heap.size, 0, none⟩) 9 9 [49, 50, 51, 52, 53, 54, 55, 56, 57] rfl (by omega) h2
    rw [crc9] at this; exact this
  go_wp2_with (first
    | (go_at_call 18; refine hcm.mono ?_; rintro e w' ⟨rfl, hw⟩; rw [hw]; clear hw w')
    | (go_at_call 10; refine (hcr _ (by exact T10.out.below ((Below.refl w10.heap.size w10).alloc (Nat.le_refl _) _) T10.out.1) (by exact SlL.litm w10 [49, 50, 51, 52, 53, 54, 55, 56, 57] _ 5 (9, 10) rfl)).mono ?_; rintro e w' ⟨rfl, hw⟩; rw [hw]; clear hw w'))
  go_ret
  refine ⟨rfl, ?_⟩
  exact BW10.out.alloc BW10.out.size _
end Go.Proofs.YtidocfajhhpfdaaDoor
