/- signetref10.Open. -/
import Derived.Test.YtfkkaegebpckmaaGts
namespace Go.Proofs.Ytfkkaegebpckmaa
open Go.RowKit
/- eight numbers, of which the first j are there -/
def arrC (ts : Nat → Nat) (j : Nat) : Array Value := #[.int .u32 ((if 0 < j then ts 0 else 0 : Nat) : Int), .int .u32 ((if 1 < j then ts 1 else 0 : Nat) : Int), .int .u32 ((if 2 < j then ts 2 else 0 : Nat) : Int), .int .u32 ((if 3 < j then ts 3 else 0 : Nat) : Int), .int .u32 ((if 4 < j then ts 4 else 0 : Nat) : Int), .int .u32 ((if 5 < j then ts 5 else 0 : Nat) : Int), .int .u32 ((if 6 < j then ts 6 else 0 : Nat) : Int), .int .u32 ((if 7 < j then ts 7 else 0 : Nat) : Int)]
set_option maxRecDepth 5000 in
theorem arrC_set (ts : Nat → Nat) (j : Nat) (hj : j < 8) : (arrC ts j).setIfInBounds j (.int .u32 (ts j : Int)) = arrC ts (j + 1) := by
  match j, hj with
  | 0, _ => rfl
  | 1, _ => rfl
  | 2, _ => rfl
  | 3, _ => rfl
  | 4, _ => rfl
  | 5, _ => rfl
  | 6, _ => rfl
  | 7, _ => rfl
set_option maxRecDepth 5000 in
theorem arrC_cell (ts : Nat → Nat) (j i : Nat) (hi : i < 8) : ∃ z : Nat, (arrC ts j)[i]? = some (.int .u32 (z : Int)) := by
  match i, hi with
  | 0, _ => exact ⟨_, rfl⟩
  | 1, _ => exact ⟨_, rfl⟩
  | 2, _ => exact ⟨_, rfl⟩
  | 3, _ => exact ⟨_, rfl⟩
  | 4, _ => exact ⟨_, rfl⟩
  | 5, _ => exact ⟨_, rfl⟩
  | 6, _ => exact ⟨_, rfl⟩
  | 7, _ => exact ⟨_, rfl⟩
set_option maxRecDepth 5000 in
theorem row_setRow {w : World} {g g' : Nat} {t : TypeId} {c : Array Value} (h : RowAt w g t c) (hne : g ≠ g') (cs : Array Value) : RowAt (w.setRow g' cs) g t c := by
  unfold RowAt at *
  simp only [World.setRow, Array.getElem?_modify]
  rw [if_neg (fun e => hne e.symm)]
  exact h
set_option maxHeartbeats 8000000 in
set_option maxRecDepth 5000 in
theorem rcOpen_any (b : List UInt8) (ao : Option Addr) (len cap : Nat) (w : World) (hl : Hid (b.length = len)) (hs : SlL w ao b) (hm : len ≤ 1000000) (hcap : len ≤ cap) :
    Calls Try.prog 16 #[.slice ao len cap] w fun e w' => COpened b w.heap.size w e w' := by
  have HS := hide hs
  clear hs
  have HR0 := hide (RowAt.new w 28 zeroC)
  have HB0 : Hid (Below w.heap.size w (w.alloc (.cells zeroC 28))) := (Below.refl w.heap.size w).alloc (Nat.le_refl _) _
  go_enter Try.func16, Try.ntmps16
  go_wp2_with fail
  refine (rOpen_any b ao len cap _ hl (by exact HS.out.alloc _) (by omega) hcap).mono ?_
  rintro e w1 ⟨⟨n, v, hn, hz, rfl, hO⟩ | ⟨hn, rfl⟩ | ⟨n, hn, hz, rfl⟩, hb1⟩
  · have HR1 : Hid (RowAt w1 w.heap.size 28 zeroC) := HR0.out.below hb1 (by simp)
    have HB1 : Hid (Below w.heap.size w w1) := HB0.out.trans (hb1.mono (by simp))
    have hw1 : w.heap.size + 1 ≤ w1.heap.size := by have := hb1.size; rw [size_alloc] at this; exact this
    obtain ⟨a0, c0, hv0, _, _, _, _⟩ := hO.open
    subst hv0
    rw [size_alloc] at hO
    have HO1 := hide hO
    obtain ⟨_, _, hsb⟩ := N.opn_small b n hn
    have hpos : 1 ≤ N.size n := by unfold N.size; omega
    have hnl : n.length ≤ 255 := by have := N.size_ge n; omega
    obtain ⟨b1, o1, rfl, hb1w, hcb⟩ := HS.out (by omega)
    have HD := hide (C.dec_some hn hz)
    have HLR0 : Hid ((b.drop (N.size n)).length = len - N.size n) := by show _ = _; rw [List.length_drop, hl.out]
    have hnzl : N.size n ≤ len := by have := hl.out; omega
    have HBD := hide (rfl : b.drop (N.size n) = b.drop (N.size n))
    generalize N.size n = nz at HD HLR0 hz hnzl HBD hpos ⊢
    obtain ⟨la, hla⟩ : ∃ la, n.length = la := ⟨_, rfl⟩
    rw [hla] at hnl HO1 ⊢
    have HLA := hide hla
    have HCB := hide hcb
    clear hn hO hb1 hsb hla HR0 HB0 hcb
    by_cases h33 : len < nz + 33
    · have HN : Hid (C.dec b = none) := by rw [HD.out]; exact C.decR_short (by rw [HLR0.out]; omega)
      have h33i : (len : Int) < (nz : Int) + 33 := by omega
      clear HD HBD
      go_wp2_with (refine wpList_store_absR rfl 28 (.tmp 2) (.tmp 40) rfl w.heap.size zeroC rfl rfl 28 zeroC HR1.out (by exact infoCf) rfl (by kernel_rfl) w.heap.size (Nat.le_refl _) ?_; intro w2 hR2 hB2)
      exact bodyPost_ret (v := .tuple #[.agg zeroC, .int .i64 100]) (results_cf Try.results16 _ _ w.heap.size zeroC rfl rfl hR2) rfl (COpened.no HN.out (HB1.out.trans hB2))
    · have h33i : ¬ (len : Int) < (nz : Int) + 33 := by omega
      obtain ⟨P32, hP32⟩ : ∃ P32, P32 = nz + 32 := ⟨_, rfl⟩
      have x32 := (HB1.out.cell (p := ⟨b1, o1 + P32, none⟩) hb1w).trans (HCB.out P32 (by have := hl.out; omega))
      have hx := (b.getD P32 0).toNat_lt
      have hg32 : (b.drop nz).getD 32 0 = b.getD P32 0 := by rw [hP32]; simp [List.getD_eq_getElem?_getD, List.getElem?_drop]
      have hlen := @C.decR_len n (b.drop nz)
      have hok := @C.decR_ok n (b.drop nz)
      rw [HLR0.out, hg32] at hlen hok
      obtain ⟨s, hsE⟩ : ∃ s, (b.getD P32 0).toNat = s := ⟨_, rfl⟩
      have HSE := hide (hg32.trans (rfl : b.getD P32 0 = b.getD P32 0))
      have HSS := hide hsE
      rw [hsE] at hlen hok x32 hx
      have hi32 : (nz : Int) + 32 = (P32 : Int) := by omega
      have hP32l : P32 < len := by omega
      have HP32 := hide hP32
      clear hg32 hsE hP32
      by_cases hE : len - nz = 38 + s
      · have HOK := hide (HD.out.trans (hok hE))
        obtain ⟨E, hEE⟩ : ∃ E, E = nz + 33 + s := ⟨_, rfl⟩
        have HEE := hide hEE
        have hle1 : E + 5 ≤ len := by omega
        have hle2 : len ≤ E + 5 := by omega
        have hEn : nz + 33 ≤ E := by omega
        have hE2 : ((len : Int) != (nz : Int) + 33 + (s : Int) + 5) = false := bne_eq_false_iff_eq.2 (by omega)
        clear HD hlen hok hE hEE
        go_wp2
        clear hE2
        obtain ⟨ts, hts⟩ : ∃ ts : Nat → Nat, ts = fun k => D.gv ((b.drop (nz + 4 * k)).take 4) := ⟨_, rfl⟩
        have HTS := hide hts
        clear hts
        have HA2 : Hid (RowAt (w1.alloc (.cells #[.int .u32 0, .int .u32 0, .int .u32 0, .int .u32 0, .int .u32 0, .int .u32 0, .int .u32 0, .int .u32 0] 51)) w1.heap.size 51 (arrC ts 0)) := RowAt.new _ _ _
        have HB2 : Hid (Below w1.heap.size w1 (w1.alloc (.cells #[.int .u32 0, .int .u32 0, .int .u32 0, .int .u32 0, .int .u32 0, .int .u32 0, .int .u32 0, .int .u32 0] 51))) := (Below.refl _ _).alloc (Nat.le_refl _) _
        generalize w1.alloc (.cells #[.int .u32 0, .int .u32 0, .int .u32 0, .int .u32 0, .int .u32 0, .int .u32 0, .int .u32 0, .int .u32 0] 51) = W2 at HA2 HB2 ⊢
        go_loopw [8] (fun i wr => ∃ j : Nat, i = .int .i64 (j : Int) ∧ j ≤ 8 ∧ RowAt wr w1.heap.size 51 (arrC ts j) ∧ Below w1.heap.size w1 wr) (fun i _ => 8 - (intOf i).toNat)
        case atStart => exact ⟨0, rfl, by omega, HA2.out, HB2.out⟩
        case round =>
          obtain ⟨j, rfl, hj, hA, hB⟩ := hrel
          have HA := hide hA
          have HB := hide hB
          clear hA hB
          by_cases hlt : j < 8
          · obtain ⟨ao', hsl, hs'⟩ := slice_mid (k := nz + 4 * j) (m := 4) (x := (nz : Int) + 4 * (j : Int)) (y := (nz : Int) + 4 * (j : Int) + 4) (by omega) (by omega) (HS.out.below (HB1.out.trans (HB.out.mono (by omega))) (Nat.le_refl _)) hl.out (by omega) hcap
            have HS' := hide hs'
            have hl4 : Hid (((b.drop (nz + 4 * j)).take 4).length = 4) := by show _ = _; rw [List.length_take, List.length_drop, hl.out]; omega
            have HTJ : Hid (D.gv ((b.drop (nz + 4 * j)).take 4) = ts j) := by rw [HTS.out]; exact rfl
            obtain ⟨z, hz8⟩ := arrC_cell ts j j hlt
            have hc := (HA.out.cell j).trans hz8
            have hf := HA.out.frozen j
            have hset := arrC_set ts j hlt
            have HST := hide hset
            clear hset hs' hz8
            go_wp2_with (go_at_call 33; refine (get_any _ ao' 4 _ _ hl4 (by exact HS'.out) (by omega)).mono ?_; rintro e w2 ⟨rfl, rfl⟩; rw [HTJ.out])
            go_roundw
            case rel => exact ⟨j + 1, by go_num, by omega, by rw [← HST.out]; exact HA.out.set j _, HB.out.setCell (p := ⟨w1.heap.size, j, none⟩) (Nat.le_refl _) _⟩
            case measure => simp [intOf]; omega
          · obtain rfl : j = 8 := by omega
            have x32r := (HB.out.cell (p := ⟨b1, o1 + P32, none⟩) (by show b1 < _; omega)).trans x32
            have hAE : (nz : Int) + 33 + (s : Int) = (E : Int) := by have := HEE.out; omega
            clear x32
            go_wp2
            clear hAE x32r
            obtain ⟨P33, hP33⟩ : ∃ P33, P33 = nz + 33 := ⟨_, rfl⟩
            obtain ⟨E2, hE2⟩ : ∃ E2, E2 = E + 2 := ⟨_, rfl⟩
            obtain ⟨E3, hE3⟩ : ∃ E3, E3 = E + 3 := ⟨_, rfl⟩
            have hwP : IntKind.i64.wrap ((nz : Int) + 33) = (P33 : Int) := by rw [IntKind.wrap_i64]; omega
            have hwE2 : IntKind.i64.wrap ((E : Int) + 2) = (E2 : Int) := by rw [IntKind.wrap_i64]; omega
            have hwE3 : IntKind.i64.wrap ((E : Int) + 3) = (E3 : Int) := by rw [IntKind.wrap_i64]; omega
            obtain ⟨aS, hsl1, hss⟩ := cut_mid P33 s HS.out hl.out (by have := HEE.out; omega) hcap
            rw [show P33 + s = E by have := HEE.out; omega] at hsl1
            obtain ⟨ai, hsl2, hsi⟩ := cut_mid E 2 HS.out hl.out (by omega) hcap
            rw [show E + 2 = E2 by omega] at hsl2
            obtain ⟨az, hsl3, hsz⟩ := cut_tl E3 HS.out hl.out (by omega) hcap
            have xe2 := HCB.out E2 (by have := hl.out; omega)
            have hE2l : (E2 : Int) < (len : Int) := by omega
            have hE2p : (0 : Int) ≤ (E2 : Int) := by omega
            obtain ⟨y, hyE⟩ : ∃ y, (b.getD E2 0).toNat = y := ⟨_, rfl⟩
            have hy : y < 256 := by rw [← hyE]; exact UInt8.toNat_lt _
            rw [hyE] at xe2
            have XE2 := hide xe2
            have hwy : IntKind.i64.wrap (y : Int) = (y : Int) := by rw [IntKind.wrap_i64]; omega
            have hls : Hid (((b.drop P33).take s).length = s) := by show _ = _; rw [List.length_take, List.length_drop, hl.out]; have := HEE.out; omega
            have hli : Hid (((b.drop E).take 2).length = 2) := by show _ = _; rw [List.length_take, List.length_drop, hl.out]; omega
            have hlz : Hid ((b.drop E3).length = len - E3) := by show _ = _; rw [List.length_drop, hl.out]
            have hz2 : len - E3 ≤ 4 := by omega
            have hti : D.gv ((b.drop E).take 2) < 65536 := by have := D.gv_lt ((b.drop E).take 2); rw [hli.out] at this; exact this
            have htz : D.gv (b.drop E3) < 65536 := by
              have := D.gv_lt (b.drop E3)
              rw [hlz.out] at this
              have h2 : len - E3 = 2 := by omega
              rw [h2] at this
              exact this
            have HMK : Hid (C.mk n (b.drop nz) = ⟨n, ts 0, ts 1, ts 2, ts 3, ts 4, ts 5, ts 6, ts 7, (b.drop P33).take s, D.gv ((b.drop E).take 2), (y : Int), D.gv (b.drop E3)⟩) := by
              show _ = _
              have e1 : ((b.drop nz).getD 32 0).toNat = s := by rw [HSE.out]; exact HSS.out
              have e2 : (b.drop E3).take 2 = b.drop E3 := by rw [List.take_of_length_le]; rw [hlz.out]; omega
              unfold C.mk
              rw [e1, HTS.out, ← hyE]
              simp only [List.drop_drop]
              have f1 : nz + (33 + s) = E := by have := HEE.out; omega
              have f2 : nz + 33 = P33 := by omega
              have f3 : (b.drop E).getD 2 0 = b.getD E2 0 := by rw [hE2]; simp [List.getD_eq_getElem?_getD, List.getElem?_drop]
              have f4 : E + 3 = E3 := by omega
              rw [f1, f2, f3, f4, e2]
              rfl
            obtain ⟨t0, h0⟩ : ∃ t, ts 0 = t := ⟨_, rfl⟩
            obtain ⟨t1, h1⟩ : ∃ t, ts 1 = t := ⟨_, rfl⟩
            obtain ⟨t2, h2⟩ : ∃ t, ts 2 = t := ⟨_, rfl⟩
            obtain ⟨t3, h3⟩ : ∃ t, ts 3 = t := ⟨_, rfl⟩
            obtain ⟨t4, h4⟩ : ∃ t, ts 4 = t := ⟨_, rfl⟩
            obtain ⟨t5, h5⟩ : ∃ t, ts 5 = t := ⟨_, rfl⟩
            obtain ⟨t6, h6⟩ : ∃ t, ts 6 = t := ⟨_, rfl⟩
            obtain ⟨t7, h7⟩ : ∃ t, ts 7 = t := ⟨_, rfl⟩
            have HAR : Hid (RowAt wr w1.heap.size 51 #[.int .u32 (t0 : Int), .int .u32 (t1 : Int), .int .u32 (t2 : Int), .int .u32 (t3 : Int), .int .u32 (t4 : Int), .int .u32 (t5 : Int), .int .u32 (t6 : Int), .int .u32 (t7 : Int)]) := by rw [← h0, ← h1, ← h2, ← h3, ← h4, ← h5, ← h6, ← h7]; exact HA.out
            rw [h0, h1, h2, h3, h4, h5, h6, h7] at HMK
            have NS : Hid (∀ W, Below w.heap.size w W → SlL W (some aS) ((b.drop P33).take s)) := fun W hW => hss.below hW (Nat.le_refl _)
            have NI : Hid (∀ W, Below w.heap.size w W → Calls Try.prog 33 #[.slice (some ai) 2 (cap - E)] W fun e w' => e = .returned (.int .u32 (D.gv ((b.drop E).take 2) : Int)) ∧ w' = W) := fun W hW => get_any _ (some ai) 2 (cap - E) W hli (hsi.below hW (Nat.le_refl _)) (by omega)
            have NZ : Hid (∀ W, Below w.heap.size w W → Calls Try.prog 33 #[.slice (some az) (len - E3) (cap - E3)] W fun e w' => e = .returned (.int .u32 (D.gv (b.drop E3) : Int)) ∧ w' = W) := fun W hW => get_any _ (some az) (len - E3) (cap - E3) W hlz (hsz.below hW (Nat.le_refl _)) hz2
            clear h0 h1 h2 h3 h4 h5 h6 h7 HTS HA hss hsi hsz hlz hli xe2 HSE HSS HCB HP32 hyE hP33 hE2 hE3 hz2
            generalize D.gv ((b.drop E).take 2) = ti at NI HMK hti
            generalize D.gv (b.drop E3) = tz at NZ HMK htz
            generalize (b.drop P33).take s = sl at NS HMK hls
            generalize len - E3 = lz at hsl3 NZ
            generalize cap - E3 = kz at hsl3 NZ
            generalize cap - E = ki at hsl2 NI
            generalize cap - P33 = ks at hsl1
            have hwti : IntKind.u16.wrap (ti : Int) = (ti : Int) := by rw [IntKind.wrap_u16]; omega
            have hwtz : IntKind.u16.wrap (tz : Int) = (tz : Int) := by rw [IntKind.wrap_u16]; omega
            have hww : w.heap.size ≤ w1.heap.size := by omega
            have HRR := hide (HR1.out.below HB.out (by omega))
            have HO0 := hide (HO1.out.below HB.out)
            have hwr : w1.heap.size < wr.heap.size := HAR.out.lt
            refine wp_region_noPanic ?_
            refine wp_region_X (S := fun w' => w'.cell? ⟨w1.heap.size, 0, none⟩ = some (.int .u32 (t0 : Int)) ∧ w'.cell? ⟨w1.heap.size, 1, none⟩ = some (.int .u32 (t1 : Int)) ∧ w'.cell? ⟨w1.heap.size, 2, none⟩ = some (.int .u32 (t2 : Int)) ∧ w'.cell? ⟨w1.heap.size, 3, none⟩ = some (.int .u32 (t3 : Int)) ∧ w'.cell? ⟨w1.heap.size, 4, none⟩ = some (.int .u32 (t4 : Int)) ∧ w'.cell? ⟨w1.heap.size, 5, none⟩ = some (.int .u32 (t5 : Int)) ∧ w'.cell? ⟨w1.heap.size, 6, none⟩ = some (.int .u32 (t6 : Int)) ∧ w'.cell? ⟨w1.heap.size, 7, none⟩ = some (.int .u32 (t7 : Int)) ∧ w'.cell? ⟨b1, o1 + E2, none⟩ = some (.int .u8 (y : Int))) (jS := 1000) (by kernel_rfl) ?_
            have HARD : Hid (RowAt wr.drew w1.heap.size 51 #[.int .u32 (t0 : Int), .int .u32 (t1 : Int), .int .u32 (t2 : Int), .int .u32 (t3 : Int), .int .u32 (t4 : Int), .int .u32 (t5 : Int), .int .u32 (t6 : Int), .int .u32 (t7 : Int)]) := HAR.out
            have HBWD : Hid (Below w.heap.size w wr.drew) := below_drew (HB1.out.trans (HB.out.mono hww))
            have HRD : Hid (RowAt wr.drew w.heap.size 28 zeroC) := HRR.out
            have HOD : Hid (OwnS wr.drew (w.heap.size + 1) (.slice a0 la c0) n) := HO0.out
            have hwD : w1.heap.size < wr.drew.heap.size := hwr
            generalize wr.drew = WD at HARD HBWD HRD HOD hwD ⊢
            clear HAR HB HRR HO0 hwr HO1 HR1 HB2 HA2
            have SAD : Hid (WD.cell? ⟨w1.heap.size, 0, none⟩ = some (.int .u32 (t0 : Int)) ∧ WD.cell? ⟨w1.heap.size, 1, none⟩ = some (.int .u32 (t1 : Int)) ∧ WD.cell? ⟨w1.heap.size, 2, none⟩ = some (.int .u32 (t2 : Int)) ∧ WD.cell? ⟨w1.heap.size, 3, none⟩ = some (.int .u32 (t3 : Int)) ∧ WD.cell? ⟨w1.heap.size, 4, none⟩ = some (.int .u32 (t4 : Int)) ∧ WD.cell? ⟨w1.heap.size, 5, none⟩ = some (.int .u32 (t5 : Int)) ∧ WD.cell? ⟨w1.heap.size, 6, none⟩ = some (.int .u32 (t6 : Int)) ∧ WD.cell? ⟨w1.heap.size, 7, none⟩ = some (.int .u32 (t7 : Int)) ∧ WD.cell? ⟨b1, o1 + E2, none⟩ = some (.int .u8 (y : Int))) := ⟨HARD.out.cell 0, HARD.out.cell 1, HARD.out.cell 2, HARD.out.cell 3, HARD.out.cell 4, HARD.out.cell 5, HARD.out.cell 6, HARD.out.cell 7, (HBWD.out.cell (p := ⟨b1, o1 + E2, none⟩) hb1w).trans XE2.out⟩
            refine wpAnyX_take (i := 0) (v := ?v1) (gt0 _ _) (by kernel_rfl) (by kernel_rfl) (by kernel_rfl) (by kernel_rfl) (fun _ _ _ h => h) (Or.inl ⟨by rfl, ?hy1⟩) SAD.out ?rest1
            case hy1 => (intro wq hSw; obtain ⟨s0, s1, s2, s3, s4, s5, s6, s7, s8⟩ := hSw; go_simp; try (with_reducible rfl))
            case' rest1 => try simp only [Act.put, List.setIfInBounds_toArray, List.set_cons_zero, List.set_cons_succ]
            refine wpAnyX_take (i := 1) (v := ?v2) (gt1 _ _ _) (by kernel_rfl) (by kernel_rfl) (by kernel_rfl) (by kernel_rfl) (fun _ _ _ h => h) (Or.inl ⟨by rfl, ?hy2⟩) SAD.out ?rest2
            case hy2 => (intro wq hSw; obtain ⟨s0, s1, s2, s3, s4, s5, s6, s7, s8⟩ := hSw; go_simp; try (with_reducible rfl))
            case' rest2 => try simp only [Act.put, List.setIfInBounds_toArray, List.set_cons_zero, List.set_cons_succ]
            refine wpAnyX_take (i := 2) (v := ?v3) (gt2 _ _ _ _) (by kernel_rfl) (by kernel_rfl) (by kernel_rfl) (by kernel_rfl) (fun _ _ _ h => h) (Or.inl ⟨by rfl, ?hy3⟩) SAD.out ?rest3
            case hy3 => (intro wq hSw; obtain ⟨s0, s1, s2, s3, s4, s5, s6, s7, s8⟩ := hSw; go_simp; try (with_reducible rfl))
            case' rest3 => try simp only [Act.put, List.setIfInBounds_toArray, List.set_cons_zero, List.set_cons_succ]
            refine wpAnyX_take (i := 3) (v := ?v4) (gt3 _ _ _ _ _) (by kernel_rfl) (by kernel_rfl) (by kernel_rfl) (by kernel_rfl) (fun _ _ _ h => h) (Or.inl ⟨by rfl, ?hy4⟩) SAD.out ?rest4
            case hy4 => (intro wq hSw; obtain ⟨s0, s1, s2, s3, s4, s5, s6, s7, s8⟩ := hSw; go_simp; try (with_reducible rfl))
            case' rest4 => try simp only [Act.put, List.setIfInBounds_toArray, List.set_cons_zero, List.set_cons_succ]
            refine wpAnyX_take (i := 4) (v := ?v5) (gt4 _ _ _ _ _ _) (by kernel_rfl) (by kernel_rfl) (by kernel_rfl) (by kernel_rfl) (fun _ _ _ h => h) (Or.inl ⟨by rfl, ?hy5⟩) SAD.out ?rest5
            case hy5 => (intro wq hSw; obtain ⟨s0, s1, s2, s3, s4, s5, s6, s7, s8⟩ := hSw; go_simp; try (with_reducible rfl))
            case' rest5 => try simp only [Act.put, List.setIfInBounds_toArray, List.set_cons_zero, List.set_cons_succ]
            refine wpAnyX_take (i := 5) (v := ?v6) (gt5 _ _ _ _ _ _ _) (by kernel_rfl) (by kernel_rfl) (by kernel_rfl) (by kernel_rfl) (fun _ _ _ h => h) (Or.inl ⟨by rfl, ?hy6⟩) SAD.out ?rest6
            case hy6 => (intro wq hSw; obtain ⟨s0, s1, s2, s3, s4, s5, s6, s7, s8⟩ := hSw; go_simp; try (with_reducible rfl))
            case' rest6 => try simp only [Act.put, List.setIfInBounds_toArray, List.set_cons_zero, List.set_cons_succ]
            refine wpAnyX_take (i := 6) (v := ?v7) (gt6 _ _ _ _ _ _ _ _) (by kernel_rfl) (by kernel_rfl) (by kernel_rfl) (by kernel_rfl) (fun _ _ _ h => h) (Or.inl ⟨by rfl, ?hy7⟩) SAD.out ?rest7
            case hy7 => (intro wq hSw; obtain ⟨s0, s1, s2, s3, s4, s5, s6, s7, s8⟩ := hSw; go_simp; try (with_reducible rfl))
            case' rest7 => try simp only [Act.put, List.setIfInBounds_toArray, List.set_cons_zero, List.set_cons_succ]
            refine wpAnyX_take (i := 7) (v := ?v8) (gt7 _ _ _ _ _ _ _ _ _) (by kernel_rfl) (by kernel_rfl) (by kernel_rfl) (by kernel_rfl) (fun _ _ _ h => h) (Or.inl ⟨by rfl, ?hy8⟩) SAD.out ?rest8
            case hy8 => (intro wq hSw; obtain ⟨s0, s1, s2, s3, s4, s5, s6, s7, s8⟩ := hSw; go_simp; try (with_reducible rfl))
            case' rest8 => try simp only [Act.put, List.setIfInBounds_toArray, List.set_cons_zero, List.set_cons_succ]
            refine wpAnyX_take (i := 8) (v := ?v9) (gt8 _ _ _ _ _ _ _ _ _ _) (by kernel_rfl) (by kernel_rfl) (by kernel_rfl) (by kernel_rfl) (fun _ _ _ h => h) (Or.inl ⟨by rfl, ?hy9⟩) SAD.out ?rest9
            case hy9 => (intro wq hSw; obtain ⟨s0, s1, s2, s3, s4, s5, s6, s7, s8⟩ := hSw; go_simp; try (with_reducible rfl))
            case' rest9 => try simp only [Act.put, List.setIfInBounds_toArray, List.set_cons_zero, List.set_cons_succ]
            refine wpAnyX_take (i := 9) (v := ?v10) (gt9 _ _ _ _ _ _ _ _ _ _ _) (by kernel_rfl) (by kernel_rfl) (by kernel_rfl) (by kernel_rfl) (fun _ _ _ h => h) (Or.inl ⟨by rfl, ?hy10⟩) SAD.out ?rest10
            case hy10 => (intro wq hSw; obtain ⟨s0, s1, s2, s3, s4, s5, s6, s7, s8⟩ := hSw; go_simp; try (with_reducible rfl))
            case' rest10 => try simp only [Act.put, List.setIfInBounds_toArray, List.set_cons_zero, List.set_cons_succ]
            refine wpAnyX_take (i := 10) (v := ?v11) (gt10 _ _ _ _ _ _ _ _ _ _ _ _) (by kernel_rfl) (by kernel_rfl) (by kernel_rfl) (by kernel_rfl) (fun _ _ _ h => h) (Or.inl ⟨by rfl, ?hy11⟩) SAD.out ?rest11
            case hy11 => (intro wq hSw; obtain ⟨s0, s1, s2, s3, s4, s5, s6, s7, s8⟩ := hSw; go_simp; try (with_reducible rfl))
            case' rest11 => try simp only [Act.put, List.setIfInBounds_toArray, List.set_cons_zero, List.set_cons_succ]
            refine wpAnyX_take (i := 11) (v := ?v12) (gt11 _ _ _ _ _ _ _ _ _ _ _ _ _) (by kernel_rfl) (by kernel_rfl) (by kernel_rfl) (by kernel_rfl) (fun _ _ _ h => h) (Or.inl ⟨by rfl, ?hy12⟩) SAD.out ?rest12
            case hy12 => (intro wq hSw; obtain ⟨s0, s1, s2, s3, s4, s5, s6, s7, s8⟩ := hSw; go_simp; try (with_reducible rfl))
            case' rest12 => try simp only [Act.put, List.setIfInBounds_toArray, List.set_cons_zero, List.set_cons_succ]
            refine wpAnyX_take (i := 12) (v := ?v13) (gt12 _ _ _ _ _ _ _ _ _ _ _ _ _ _) (by kernel_rfl) (by kernel_rfl) (by kernel_rfl) (by kernel_rfl) (fun _ _ _ h => h) (Or.inl ⟨by rfl, ?hy13⟩) SAD.out ?rest13
            case hy13 => (intro wq hSw; obtain ⟨s0, s1, s2, s3, s4, s5, s6, s7, s8⟩ := hSw; go_simp; try (with_reducible rfl))
            case' rest13 => try simp only [Act.put, List.setIfInBounds_toArray, List.set_cons_zero, List.set_cons_succ]
            refine wpAnyX_take (i := 13) (v := ?v14) (gt13 _ _ _ _ _ _ _ _ _ _ _ _ _ _ _) (by kernel_rfl) (by kernel_rfl) (by kernel_rfl) (by kernel_rfl) (fun _ _ _ h => h) (Or.inl ⟨by rfl, ?hy14⟩) SAD.out ?rest14
            case hy14 => (intro wq hSw; obtain ⟨s0, s1, s2, s3, s4, s5, s6, s7, s8⟩ := hSw; go_simp; try (with_reducible rfl))
            case' rest14 => try simp only [Act.put, List.setIfInBounds_toArray, List.set_cons_zero, List.set_cons_succ]
            refine wpAnyX_take (i := 14) (v := ?v15) (gt14 _ _ _ _ _ _ _ _ _ _ _ _ _ _ _ _) (by kernel_rfl) (by kernel_rfl) (by kernel_rfl) (by kernel_rfl) (fun _ _ _ h => h) (Or.inl ⟨by rfl, ?hy15⟩) SAD.out ?rest15
            case hy15 => (intro wq hSw; obtain ⟨s0, s1, s2, s3, s4, s5, s6, s7, s8⟩ := hSw; go_simp; try (with_reducible rfl))
            case' rest15 => try simp only [Act.put, List.setIfInBounds_toArray, List.set_cons_zero, List.set_cons_succ]
            refine wpAnyX_take (i := 15) (v := ?v16) (gt15 _ _ _ _ _ _ _ _ _ _ _ _ _ _ _ _ _) (by kernel_rfl) (by kernel_rfl) (by kernel_rfl) (by kernel_rfl) (fun _ _ _ h => h) (Or.inl ⟨by rfl, ?hy16⟩) SAD.out ?rest16
            case hy16 => (intro wq hSw; obtain ⟨s0, s1, s2, s3, s4, s5, s6, s7, s8⟩ := hSw; go_simp; try (with_reducible rfl))
            case' rest16 => try simp only [Act.put, List.setIfInBounds_toArray, List.set_cons_zero, List.set_cons_succ]
            refine wpAnyX_take (i := 16) (v := ?v17) (gt16 _ _ _ _ _ _ _ _ _ _ _ _ _ _ _ _ _ _) (by kernel_rfl) (by kernel_rfl) (by kernel_rfl) (by kernel_rfl) (fun _ _ _ h => h) (Or.inl ⟨by rfl, ?hy17⟩) SAD.out ?rest17
            case hy17 => (intro wq hSw; obtain ⟨s0, s1, s2, s3, s4, s5, s6, s7, s8⟩ := hSw; go_simp; try (with_reducible rfl))
            case' rest17 => try simp only [Act.put, List.setIfInBounds_toArray, List.set_cons_zero, List.set_cons_succ]
            refine wpAnyX_take (i := 17) (v := ?v18) (gt17 _ _ _ _ _ _ _ _ _ _ _ _ _ _ _ _ _ _ _) (by kernel_rfl) (by kernel_rfl) (by kernel_rfl) (by kernel_rfl) (fun _ _ _ h => h) (Or.inl ⟨by rfl, ?hy18⟩) SAD.out ?rest18
            case hy18 => (intro wq hSw; obtain ⟨s0, s1, s2, s3, s4, s5, s6, s7, s8⟩ := hSw; go_simp; try (with_reducible rfl))
            case' rest18 => try simp only [Act.put, List.setIfInBounds_toArray, List.set_cons_zero, List.set_cons_succ]
            refine wpAnyX_take (i := 18) (v := ?v19) (gt18 _ _ _ _ _ _ _ _ _ _ _ _ _ _ _ _ _ _ _ _) (by kernel_rfl) (by kernel_rfl) (by kernel_rfl) (by kernel_rfl) (fun _ _ _ h => h) (Or.inl ⟨by rfl, ?hy19⟩) SAD.out ?rest19
            case hy19 => (intro wq hSw; obtain ⟨s0, s1, s2, s3, s4, s5, s6, s7, s8⟩ := hSw; go_simp; try (with_reducible rfl))
            case' rest19 => try simp only [Act.put, List.setIfInBounds_toArray, List.set_cons_zero, List.set_cons_succ]
            refine wpAnyX_take (i := 19) (v := ?v20) (gt19 _ _ _ _ _ _ _ _ _ _ _ _ _ _ _ _ _ _ _ _ _) (by kernel_rfl) (by kernel_rfl) (by kernel_rfl) (by kernel_rfl) (fun _ _ _ h => h) (Or.inl ⟨by rfl, ?hy20⟩) SAD.out ?rest20
            case hy20 => (intro wq hSw; obtain ⟨s0, s1, s2, s3, s4, s5, s6, s7, s8⟩ := hSw; go_simp; try (with_reducible rfl))
            case' rest20 => try simp only [Act.put, List.setIfInBounds_toArray, List.set_cons_zero, List.set_cons_succ]
            refine wpAnyX_take (i := 20) (v := ?v21) (gt20 _ _ _ _ _ _ _ _ _ _ _ _ _ _ _ _ _ _ _ _ _ _) (by kernel_rfl) (by kernel_rfl) (by kernel_rfl) (by kernel_rfl) (fun _ _ _ h => h) (Or.inl ⟨by rfl, ?hy21⟩) SAD.out ?rest21
            case hy21 => (intro wq hSw; obtain ⟨s0, s1, s2, s3, s4, s5, s6, s7, s8⟩ := hSw; go_simp; try (with_reducible rfl))
            case' rest21 => try simp only [Act.put, List.setIfInBounds_toArray, List.set_cons_zero, List.set_cons_succ]
            refine wpAnyX_take (i := 21) (v := ?v22) (gt21 _ _ _ _ _ _ _ _ _ _ _ _ _ _ _ _ _ _ _ _ _ _ _) (by kernel_rfl) (by kernel_rfl) (by kernel_rfl) (by kernel_rfl) (fun _ _ _ h => h) (Or.inl ⟨by rfl, ?hy22⟩) SAD.out ?rest22
            case hy22 => (intro wq hSw; obtain ⟨s0, s1, s2, s3, s4, s5, s6, s7, s8⟩ := hSw; go_simp; try (with_reducible rfl))
            case' rest22 => try simp only [Act.put, List.setIfInBounds_toArray, List.set_cons_zero, List.set_cons_succ]
            refine wpAnyX_take (i := 23) (v := ?v23) (gt23 _ _ _ _ _ _ _ _ _ _ _ _ _ _ _ _ _ _ _ _ _ _ _ _ _) (by kernel_rfl) (by kernel_rfl) (by kernel_rfl) (by kernel_rfl) (fun _ _ _ h => h) (Or.inl ⟨by rfl, ?hy23⟩) SAD.out ?rest23
            case hy23 => (intro wq hSw; obtain ⟨s0, s1, s2, s3, s4, s5, s6, s7, s8⟩ := hSw; go_simp; try (with_reducible rfl))
            case' rest23 => try simp only [Act.put, List.setIfInBounds_toArray, List.set_cons_zero, List.set_cons_succ]
            refine wpAnyX_take (i := 24) (v := ?v24) (gt24 _ _ _ _ _ _ _ _ _ _ _ _ _ _ _ _ _ _ _ _ _ _ _ _ _ _) (by kernel_rfl) (by kernel_rfl) (by kernel_rfl) (by kernel_rfl) (fun _ _ _ h => h) (Or.inl ⟨by rfl, ?hy24⟩) SAD.out ?rest24
            case hy24 => (intro wq hSw; obtain ⟨s0, s1, s2, s3, s4, s5, s6, s7, s8⟩ := hSw; go_simp; try (with_reducible rfl))
            case' rest24 => try simp only [Act.put, List.setIfInBounds_toArray, List.set_cons_zero, List.set_cons_succ]
            refine wpAnyX_take (i := 25) (v := ?v25) (gt25 _ _ _ _ _ _ _ _ _ _ _ _ _ _ _ _ _ _ _ _ _ _ _ _ _ _ _) (by kernel_rfl) (by kernel_rfl) (by kernel_rfl) (by kernel_rfl) (fun _ _ _ h => h) (Or.inl ⟨by rfl, ?hy25⟩) SAD.out ?rest25
            case hy25 => (intro wq hSw; obtain ⟨s0, s1, s2, s3, s4, s5, s6, s7, s8⟩ := hSw; go_simp; try (with_reducible rfl))
            case' rest25 => try simp only [Act.put, List.setIfInBounds_toArray, List.set_cons_zero, List.set_cons_succ]
            refine wpAnyX_take (i := 26) (v := ?v26) (gt26 _ _ _ _ _ _ _ _ _ _ _ _ _ _ _ _ _ _ _ _ _ _ _ _ _ _ _ _) (by kernel_rfl) (by kernel_rfl) (by kernel_rfl) (by kernel_rfl) (fun _ _ _ h => h) (Or.inl ⟨by rfl, ?hy26⟩) SAD.out ?rest26
            case hy26 => (intro wq hSw; obtain ⟨s0, s1, s2, s3, s4, s5, s6, s7, s8⟩ := hSw; go_simp; try (with_reducible rfl))
            case' rest26 => try simp only [Act.put, List.setIfInBounds_toArray, List.set_cons_zero, List.set_cons_succ]
            refine wpAnyX_take (i := 27) (v := ?v27) (gt27 _ _ _ _ _ _ _ _ _ _ _ _ _ _ _ _ _ _ _ _ _ _ _ _ _ _ _ _ _) (by kernel_rfl) (by kernel_rfl) (by kernel_rfl) (by kernel_rfl) (fun _ _ _ h => h) (Or.inl ⟨by rfl, ?hy27⟩) SAD.out ?rest27
            case hy27 => (intro wq hSw; obtain ⟨s0, s1, s2, s3, s4, s5, s6, s7, s8⟩ := hSw; go_simp; try (with_reducible rfl))
            case' rest27 => try simp only [Act.put, List.setIfInBounds_toArray, List.set_cons_zero, List.set_cons_succ]
            refine wpAnyX_take (i := 30) (v := ?v28) (gt30 _ _ _ _ _ _ _ _ _ _ _ _ _ _ _ _ _ _ _ _ _ _ _ _ _ _ _ _ _ _ _ _) (by kernel_rfl) (by kernel_rfl) (by kernel_rfl) (by kernel_rfl) (fun _ _ _ h => h) (Or.inl ⟨by rfl, ?hy28⟩) SAD.out ?rest28
            case hy28 => (intro wq hSw; obtain ⟨s0, s1, s2, s3, s4, s5, s6, s7, s8⟩ := hSw; go_simp; try (with_reducible rfl))
            case' rest28 => try simp only [Act.put, List.setIfInBounds_toArray, List.set_cons_zero, List.set_cons_succ]
            refine wpAnyX_take (i := 31) (v := ?v29) (gt31 _ _ _ _ _ _ _ _ _ _ _ _ _ _ _ _ _ _ _ _ _ _ _ _ _ _ _ _ _ _ _ _ _) (by kernel_rfl) (by kernel_rfl) (by kernel_rfl) (by kernel_rfl) (fun _ _ _ h => h) (Or.inl ⟨by rfl, ?hy29⟩) SAD.out ?rest29
            case hy29 => (intro wq hSw; obtain ⟨s0, s1, s2, s3, s4, s5, s6, s7, s8⟩ := hSw; go_simp; try (with_reducible rfl))
            case' rest29 => try simp only [Act.put, List.setIfInBounds_toArray, List.set_cons_zero, List.set_cons_succ]
            refine wpAnyX_take (i := 32) (v := ?v30) (gt32 _ _ _ _ _ _ _ _ _ _ _ _ _ _ _ _ _ _ _ _ _ _ _ _ _ _ _ _ _ _ _ _ _ _) (by kernel_rfl) (by kernel_rfl) (by kernel_rfl) (by kernel_rfl) (fun _ _ _ h => h) (Or.inl ⟨by rfl, ?hy30⟩) SAD.out ?rest30
            case hy30 => (intro wq hSw; obtain ⟨s0, s1, s2, s3, s4, s5, s6, s7, s8⟩ := hSw; go_simp; try (with_reducible rfl))
            case' rest30 => try simp only [Act.put, List.setIfInBounds_toArray, List.set_cons_zero, List.set_cons_succ]
            refine wpAnyX_take (i := 33) (v := ?v31) (gt33 _ _ _ _ _ _ _ _ _ _ _ _ _ _ _ _ _ _ _ _ _ _ _ _ _ _ _ _ _ _ _ _ _ _ _) (by kernel_rfl) (by kernel_rfl) (by kernel_rfl) (by kernel_rfl) (fun _ _ _ h => h) (Or.inl ⟨by rfl, ?hy31⟩) SAD.out ?rest31
            case hy31 => (intro wq hSw; obtain ⟨s0, s1, s2, s3, s4, s5, s6, s7, s8⟩ := hSw; go_simp; try (with_reducible rfl))
            case' rest31 => try simp only [Act.put, List.setIfInBounds_toArray, List.set_cons_zero, List.set_cons_succ]
            refine wpAnyX_take (i := 34) (v := ?v32) (gt34 _ _ _ _ _ _ _ _ _ _ _ _ _ _ _ _ _ _ _ _ _ _ _ _ _ _ _ _ _ _ _ _ _ _ _ _) (by kernel_rfl) (by kernel_rfl) (by kernel_rfl) (by kernel_rfl) (fun _ _ _ h => h) (Or.inl ⟨by rfl, ?hy32⟩) SAD.out ?rest32
            case hy32 => (intro wq hSw; obtain ⟨s0, s1, s2, s3, s4, s5, s6, s7, s8⟩ := hSw; go_simp; try (with_reducible rfl))
            case' rest32 => try simp only [Act.put, List.setIfInBounds_toArray, List.set_cons_zero, List.set_cons_succ]
            refine wpAnyX_take (i := 35) (v := ?v33) (gt35 _ _ _ _ _ _ _ _ _ _ _ _ _ _ _ _ _ _ _ _ _ _ _ _ _ _ _ _ _ _ _ _ _ _ _ _ _) (by kernel_rfl) (by kernel_rfl) (by kernel_rfl) (by kernel_rfl) (fun _ _ _ h => h) (Or.inl ⟨by rfl, ?hy33⟩) SAD.out ?rest33
            case hy33 => (intro wq hSw; obtain ⟨s0, s1, s2, s3, s4, s5, s6, s7, s8⟩ := hSw; go_simp; try (with_reducible rfl))
            case' rest33 => try simp only [Act.put, List.setIfInBounds_toArray, List.set_cons_zero, List.set_cons_succ]
            refine wpAnyX_take (i := 36) (v := ?v34) (gt36 _ _ _ _ _ _ _ _ _ _ _ _ _ _ _ _ _ _ _ _ _ _ _ _ _ _ _ _ _ _ _ _ _ _ _ _ _ _) (by kernel_rfl) (by kernel_rfl) (by kernel_rfl) (by kernel_rfl) (fun _ _ _ h => h) (Or.inl ⟨by rfl, ?hy34⟩) SAD.out ?rest34
            case hy34 => (intro wq hSw; obtain ⟨s0, s1, s2, s3, s4, s5, s6, s7, s8⟩ := hSw; go_simp; try (with_reducible rfl))
            case' rest34 => try simp only [Act.put, List.setIfInBounds_toArray, List.set_cons_zero, List.set_cons_succ]
            refine wpAnyX_take (i := 37) (v := ?v35) (gt37 _ _ _ _ _ _ _ _ _ _ _ _ _ _ _ _ _ _ _ _ _ _ _ _ _ _ _ _ _ _ _ _ _ _ _ _ _ _ _) (by kernel_rfl) (by kernel_rfl) (by kernel_rfl) (by kernel_rfl) (fun _ _ _ h => h) (Or.inl ⟨by rfl, ?hy35⟩) SAD.out ?rest35
            case hy35 => (intro wq hSw; obtain ⟨s0, s1, s2, s3, s4, s5, s6, s7, s8⟩ := hSw; go_simp; try (with_reducible rfl))
            case' rest35 => try simp only [Act.put, List.setIfInBounds_toArray, List.set_cons_zero, List.set_cons_succ]
            refine wpAnyX_take (i := 38) (v := ?v36) (gt38 _ _ _ _ _ _ _ _ _ _ _ _ _ _ _ _ _ _ _ _ _ _ _ _ _ _ _ _ _ _ _ _ _ _ _ _ _ _ _ _) (by kernel_rfl) (by kernel_rfl) (by kernel_rfl) (by kernel_rfl) (fun _ _ _ h => h) (Or.inl ⟨by rfl, ?hy36⟩) SAD.out ?rest36
            case hy36 => (intro wq hSw; obtain ⟨s0, s1, s2, s3, s4, s5, s6, s7, s8⟩ := hSw; go_simp; try (with_reducible rfl))
            case' rest36 => try simp only [Act.put, List.setIfInBounds_toArray, List.set_cons_zero, List.set_cons_succ]
            refine wpAnyX_take (i := 39) (v := ?v37) (gt39 _ _ _ _ _ _ _ _ _ _ _ _ _ _ _ _ _ _ _ _ _ _ _ _ _ _ _ _ _ _ _ _ _ _ _ _ _ _ _ _ _) (by kernel_rfl) (by kernel_rfl) (by kernel_rfl) (by kernel_rfl) (fun _ _ _ h => h) (Or.inl ⟨by rfl, ?hy37⟩) SAD.out ?rest37
            case hy37 => (intro wq hSw; obtain ⟨s0, s1, s2, s3, s4, s5, s6, s7, s8⟩ := hSw; go_simp; try (with_reducible rfl))
            case' rest37 => try simp only [Act.put, List.setIfInBounds_toArray, List.set_cons_zero, List.set_cons_succ]
            refine wpAnyX_ready (rs := [22]) (by kernel_rfl) (by simp) (AllX.cons (gt22 _ _ _ _ _ _ _ _ _ _ _ _ _ _ _ _ _ _ _ _ _ _ _ _) (fun K hKK => ?br22) AllX.nil)
            case' br22 =>
              refine step_append_B rfl (.const (.slice none 0 0)) (.tmp 89) rfl WD.heap.size (.slice none 0 0) [] rfl (OwnB.nil _ _) aS s ks sl rfl hls.out (NS.out _ HBWD.out) (by simp; omega) (Nat.le_refl _) ?_
              intro vs WE hOs hGs
              have hBs := grown_below (OwnB.nil WD WD.heap.size) hGs (Below.refl _ _) (Nat.le_refl _)
              rw [List.nil_append] at hOs
              obtain ⟨a9, c9, hv9, _, _, _, _⟩ := hOs.open
              rw [hls.out] at hv9
              subst hv9
              have HSE := hide (OwnB.lower (base' := w.heap.size + 1) hOs (by omega))
              have HARE := hide (HARD.out.below hBs hwD)
              have HBWE := hide (HBWD.out.trans (hBs.mono (by omega)))
              have HRE := hide (HRD.out.below hBs (by omega))
              have HOE := hide (HOD.out.below hBs)
              clear hOs hGs hBs
              have SAE : Hid (WE.cell? ⟨w1.heap.size, 0, none⟩ = some (.int .u32 (t0 : Int)) ∧ WE.cell? ⟨w1.heap.size, 1, none⟩ = some (.int .u32 (t1 : Int)) ∧ WE.cell? ⟨w1.heap.size, 2, none⟩ = some (.int .u32 (t2 : Int)) ∧ WE.cell? ⟨w1.heap.size, 3, none⟩ = some (.int .u32 (t3 : Int)) ∧ WE.cell? ⟨w1.heap.size, 4, none⟩ = some (.int .u32 (t4 : Int)) ∧ WE.cell? ⟨w1.heap.size, 5, none⟩ = some (.int .u32 (t5 : Int)) ∧ WE.cell? ⟨w1.heap.size, 6, none⟩ = some (.int .u32 (t6 : Int)) ∧ WE.cell? ⟨w1.heap.size, 7, none⟩ = some (.int .u32 (t7 : Int)) ∧ WE.cell? ⟨b1, o1 + E2, none⟩ = some (.int .u8 (y : Int))) := ⟨HARE.out.cell 0, HARE.out.cell 1, HARE.out.cell 2, HARE.out.cell 3, HARE.out.cell 4, HARE.out.cell 5, HARE.out.cell 6, HARE.out.cell 7, (HBWE.out.cell (p := ⟨b1, o1 + E2, none⟩) hb1w).trans XE2.out⟩
              refine hKK.out _ _ (Or.inr SAE.out) ?_
              clear hKK SAD HARD HBWD HRD HOD
              try simp only [Act.put, List.setIfInBounds_toArray, List.set_cons_zero, List.set_cons_succ]
            refine wpAnyX_ready (rs := [28]) (by kernel_rfl) (by simp) (AllX.cons (gt28 _ _ _ _ _ _ _ _ _ _ _ _ _ _ _ _ _ _ _ _ _ _ _ _ _ _ _ _ _ _) (fun K hKK => ?br28) AllX.nil)
            case' br28 =>
              refine step_fn 33 #[.tmp 95] _ rfl rfl #[.slice (some ai) 2 ki] (by go_simp) (NI.out _ HBWE.out) (by rintro e w' ⟨rfl, _⟩; exact ⟨_, rfl⟩) ?_
              rintro _ WF ⟨he, hF⟩
              cases he
              subst hF
              refine hKK.out _ _ (Or.inr SAE.out) ?_
              clear hKK
              try simp only [Act.put, List.setIfInBounds_toArray, List.set_cons_zero, List.set_cons_succ]
            refine wpAnyX_take (i := 29) (v := ?v38) (gt29 _ _ _ _ _ _ _ _ _ _ _ _ _ _ _ _ _ _ _ _ _ _ _ _ _ _ _ _ _ _ _) (by kernel_rfl) (by kernel_rfl) (by kernel_rfl) (by kernel_rfl) (fun _ _ _ h => h) (Or.inl ⟨by rfl, ?hy38⟩) SAE.out ?rest38
            case hy38 => (intro wq hSw; obtain ⟨s0, s1, s2, s3, s4, s5, s6, s7, s8⟩ := hSw; go_simp; try (with_reducible rfl))
            case' rest38 => try simp only [Act.put, List.setIfInBounds_toArray, List.set_cons_zero, List.set_cons_succ]
            refine wpAnyX_ready (rs := [40]) (by kernel_rfl) (by simp) (AllX.cons (gt40 _ _ _ _ _ _ _ _ _ _ _ _ _ _ _ _ _ _ _ _ _ _ _ _ _ _ _ _ _ _ _ _ _ _ _ _ _ _ _ _ _ _) (fun K hKK => ?br40) AllX.nil)
            case' br40 =>
              refine step_fn 33 #[.tmp 107] _ rfl rfl #[.slice (some az) lz kz] (by go_simp) (NZ.out _ HBWE.out) (by rintro e w' ⟨rfl, _⟩; exact ⟨_, rfl⟩) ?_
              rintro _ WG ⟨he, hF⟩
              cases he
              subst hF
              refine hKK.out _ _ (Or.inr SAE.out) ?_
              clear hKK
              try simp only [Act.put, List.setIfInBounds_toArray, List.set_cons_zero, List.set_cons_succ]
            refine wpAnyX_take (i := 41) (v := ?v39) (gt41 _ _ _ _ _ _ _ _ _ _ _ _ _ _ _ _ _ _ _ _ _ _ _ _ _ _ _ _ _ _ _ _ _ _ _ _ _ _ _ _ _ _ _) (by kernel_rfl) (by kernel_rfl) (by kernel_rfl) (by kernel_rfl) (fun _ _ _ h => h) (Or.inl ⟨by rfl, ?hy39⟩) SAE.out ?rest39
            case hy39 => (intro wq hSw; obtain ⟨s0, s1, s2, s3, s4, s5, s6, s7, s8⟩ := hSw; go_simp; try (with_reducible rfl))
            case' rest39 => try simp only [Act.put, List.setIfInBounds_toArray, List.set_cons_zero, List.set_cons_succ]
            refine wpAnyX_take (i := 42) (v := ?v40) (gt42 _ _ _ _ _ _ _ _ _ _ _ _ _ _ _ _ _ _ _ _ _ _ _ _ _ _ _ _ _ _ _ _ _ _ _ _ _ _ _ _ _ _ _ _) (by kernel_rfl) (by kernel_rfl) (by kernel_rfl) (by kernel_rfl) (fun _ _ _ h => h) (Or.inl ⟨by rfl, ?hy40⟩) SAE.out ?rest40
            case hy40 => (intro wq hSw; obtain ⟨s0, s1, s2, s3, s4, s5, s6, s7, s8⟩ := hSw; go_simp; try (with_reducible rfl))
            case' rest40 => try simp only [Act.put, List.setIfInBounds_toArray, List.set_cons_zero, List.set_cons_succ]
            refine wpAnyX_ready (rs := [43]) (by kernel_rfl) (by simp) (AllX.cons (gt43 _ _ _ _ _ _ _ _ _ _ _ _ _ _ _ _ _ _ _ _ _ _ _ _ _ _ _ _ _ _ _ _ _ _ _ _ _ _ _ _ _ _ _ _ _) (fun K hKK => ?br43) AllX.nil)
            case' br43 =>
              rw [if_pos (by rfl)]
              refine wp_store_row 28 (.tmp 2) (.tmp 110) rfl w.heap.size #[.slice a0 la c0, .int .u32 (t0 : Int), .int .u32 (t1 : Int), .int .u32 (t2 : Int), .int .u32 (t3 : Int), .int .u32 (t4 : Int), .int .u32 (t5 : Int), .int .u32 (t6 : Int), .int .u32 (t7 : Int), .slice a9 s c9, .int .u16 (ti : Int), .int .i64 (y : Int), .int .u16 (tz : Int)] rfl rfl 28 zeroC HRE.out (by exact infoCf) rfl (by kernel_rfl) ?_
              have HRX := hide (setRow_same HRE.out #[.slice a0 la c0, .int .u32 (t0 : Int), .int .u32 (t1 : Int), .int .u32 (t2 : Int), .int .u32 (t3 : Int), .int .u32 (t4 : Int), .int .u32 (t5 : Int), .int .u32 (t6 : Int), .int .u32 (t7 : Int), .slice a9 s c9, .int .u16 (ti : Int), .int .i64 (y : Int), .int .u16 (tz : Int)])
              have HBX := hide (below_setRow HBWE.out (Nat.le_refl w.heap.size) #[.slice a0 la c0, .int .u32 (t0 : Int), .int .u32 (t1 : Int), .int .u32 (t2 : Int), .int .u32 (t3 : Int), .int .u32 (t4 : Int), .int .u32 (t5 : Int), .int .u32 (t6 : Int), .int .u32 (t7 : Int), .slice a9 s c9, .int .u16 (ti : Int), .int .i64 (y : Int), .int .u16 (tz : Int)])
              have HX0 := hide (owns_setRow HOE.out (Nat.lt_succ_self w.heap.size) #[.slice a0 la c0, .int .u32 (t0 : Int), .int .u32 (t1 : Int), .int .u32 (t2 : Int), .int .u32 (t3 : Int), .int .u32 (t4 : Int), .int .u32 (t5 : Int), .int .u32 (t6 : Int), .int .u32 (t7 : Int), .slice a9 s c9, .int .u16 (ti : Int), .int .i64 (y : Int), .int .u16 (tz : Int)])
              have HX9 := hide (owns_setRow HSE.out (Nat.lt_succ_self w.heap.size) #[.slice a0 la c0, .int .u32 (t0 : Int), .int .u32 (t1 : Int), .int .u32 (t2 : Int), .int .u32 (t3 : Int), .int .u32 (t4 : Int), .int .u32 (t5 : Int), .int .u32 (t6 : Int), .int .u32 (t7 : Int), .slice a9 s c9, .int .u16 (ti : Int), .int .i64 (y : Int), .int .u16 (tz : Int)])
              have HARX := hide (row_setRow HARE.out (show w1.heap.size ≠ w.heap.size by omega) #[.slice a0 la c0, .int .u32 (t0 : Int), .int .u32 (t1 : Int), .int .u32 (t2 : Int), .int .u32 (t3 : Int), .int .u32 (t4 : Int), .int .u32 (t5 : Int), .int .u32 (t6 : Int), .int .u32 (t7 : Int), .slice a9 s c9, .int .u16 (ti : Int), .int .i64 (y : Int), .int .u16 (tz : Int)])
              generalize WG.setRow w.heap.size #[.slice a0 la c0, .int .u32 (t0 : Int), .int .u32 (t1 : Int), .int .u32 (t2 : Int), .int .u32 (t3 : Int), .int .u32 (t4 : Int), .int .u32 (t5 : Int), .int .u32 (t6 : Int), .int .u32 (t7 : Int), .slice a9 s c9, .int .u16 (ti : Int), .int .i64 (y : Int), .int .u16 (tz : Int)] = WX at HRX HBX HX0 HX9 HARX ⊢
              have SAX : Hid (WX.cell? ⟨w1.heap.size, 0, none⟩ = some (.int .u32 (t0 : Int)) ∧ WX.cell? ⟨w1.heap.size, 1, none⟩ = some (.int .u32 (t1 : Int)) ∧ WX.cell? ⟨w1.heap.size, 2, none⟩ = some (.int .u32 (t2 : Int)) ∧ WX.cell? ⟨w1.heap.size, 3, none⟩ = some (.int .u32 (t3 : Int)) ∧ WX.cell? ⟨w1.heap.size, 4, none⟩ = some (.int .u32 (t4 : Int)) ∧ WX.cell? ⟨w1.heap.size, 5, none⟩ = some (.int .u32 (t5 : Int)) ∧ WX.cell? ⟨w1.heap.size, 6, none⟩ = some (.int .u32 (t6 : Int)) ∧ WX.cell? ⟨w1.heap.size, 7, none⟩ = some (.int .u32 (t7 : Int)) ∧ WX.cell? ⟨b1, o1 + E2, none⟩ = some (.int .u8 (y : Int))) := ⟨HARX.out.cell 0, HARX.out.cell 1, HARX.out.cell 2, HARX.out.cell 3, HARX.out.cell 4, HARX.out.cell 5, HARX.out.cell 6, HARX.out.cell 7, (HBX.out.cell (p := ⟨b1, o1 + E2, none⟩) hb1w).trans XE2.out⟩
              refine hKK.out _ _ (Or.inr SAX.out) ?_
              clear hKK
              try simp only [Act.put]
            refine wpAnyX_take (i := 44) (v := ?v99) (gt44 _ _ _ _ _ _ _ _ _ _ _ _ _ _ _ _ _ _ _ _ _ _ _ _ _ _ _ _ _ _ _ _ _ _ _ _ _ _ _ _ _ _ _ _ _ _) (by kernel_rfl) (by kernel_rfl) (by kernel_rfl) (by kernel_rfl) (fun _ _ _ h => h) (Or.inl ⟨by rfl, ?hy99⟩) SAX.out ?rest99
            case hy99 => (intro wq hSw; obtain ⟨s0, s1, s2, s3, s4, s5, s6, s7, s8⟩ := hSw; go_simp; try (with_reducible rfl))
            case' rest99 => try simp only [Act.put]
            refine wpAnyX_done (by kernel_rfl) ?_ _
            refine NoPanic.normal ?_
            go_wp2
            refine bodyPost_ret (v := .tuple #[.agg #[.slice a0 la c0, .int .u32 (t0 : Int), .int .u32 (t1 : Int), .int .u32 (t2 : Int), .int .u32 (t3 : Int), .int .u32 (t4 : Int), .int .u32 (t5 : Int), .int .u32 (t6 : Int), .int .u32 (t7 : Int), .slice a9 s c9, .int .u16 (ti : Int), .int .i64 (y : Int), .int .u16 (tz : Int)], .int .i64 0]) (results_cf Try.results16 _ _ w.heap.size #[.slice a0 la c0, .int .u32 (t0 : Int), .int .u32 (t1 : Int), .int .u32 (t2 : Int), .int .u32 (t3 : Int), .int .u32 (t4 : Int), .int .u32 (t5 : Int), .int .u32 (t6 : Int), .int .u32 (t7 : Int), .slice a9 s c9, .int .u16 (ti : Int), .int .i64 (y : Int), .int .u16 (tz : Int)] rfl rfl HRX.out) rfl ?_
            exact ⟨⟨n, t0, t1, t2, t3, t4, t5, t6, t7, sl, ti, (y : Int), tz⟩, 0, a0, a9, la, c0, s, c9, rfl, Or.inl ⟨by rw [HOK.out, HMK.out], rfl⟩, HLA.out, hls.out, OwnS.sl HX0.out, OwnB.sll HX9.out, by omega, by omega, HBX.out⟩
      · have HN : Hid (C.dec b = none) := by rw [HD.out]; exact hlen hE
        have hE2 : ((len : Int) != (nz : Int) + 33 + (s : Int) + 5) = true := bne_iff_ne.2 (by omega)
        clear HD hlen hok hE
        go_wp2_with (refine wpList_store_absR rfl 28 (.tmp 2) (.tmp 40) rfl w.heap.size zeroC rfl rfl 28 zeroC HR1.out (by exact infoCf) rfl (by kernel_rfl) w.heap.size (Nat.le_refl _) ?_; intro w2 hR2 hB2)
        exact bodyPost_ret (v := .tuple #[.agg zeroC, .int .i64 100]) (results_cf Try.results16 _ _ w.heap.size zeroC rfl rfl hR2) rfl (COpened.no HN.out (HB1.out.trans hB2))
  · have HN := hide (C.dec_none hn)
    have HR1 : Hid (RowAt w1 w.heap.size 28 zeroC) := HR0.out.below hb1 (by simp)
    have HB1 : Hid (Below w.heap.size w w1) := HB0.out.trans (hb1.mono (by simp))
    clear hn hb1
    go_wp2_with (refine wpList_store_absR rfl 28 (.tmp 2) (.tmp 40) rfl w.heap.size zeroC rfl rfl 28 zeroC HR1.out (by exact infoCf) rfl (by kernel_rfl) w.heap.size (Nat.le_refl _) ?_; intro w2 hR2 hB2)
    exact bodyPost_ret (v := .tuple #[.agg zeroC, .int .i64 100]) (results_cf Try.results16 _ _ w.heap.size zeroC rfl rfl hR2) rfl (COpened.no HN.out (HB1.out.trans hB2))
  · have HN := hide (C.dec_great hn hz)
    have HR1 : Hid (RowAt w1 w.heap.size 28 zeroC) := HR0.out.below hb1 (by simp)
    have HB1 : Hid (Below w.heap.size w w1) := HB0.out.trans (hb1.mono (by simp))
    clear hn hb1 hz
    go_wp2_with (refine wpList_store_absR rfl 28 (.tmp 2) (.tmp 40) rfl w.heap.size zeroC rfl rfl 28 zeroC HR1.out (by exact infoCf) rfl (by kernel_rfl) w.heap.size (Nat.le_refl _) ?_; intro w2 hR2 hB2)
    exact bodyPost_ret (v := .tuple #[.agg zeroC, .int .i64 100]) (results_cf Try.results16 _ _ w.heap.size zeroC rfl rfl hR2) rfl (COpened.no HN.out (HB1.out.trans hB2))
end Go.Proofs.Ytfkkaegebpckmaa
