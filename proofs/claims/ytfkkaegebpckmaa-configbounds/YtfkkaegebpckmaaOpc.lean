/- config.Open. -/
import Derived.Test.YtfkkaegebpckmaaGts
namespace Go.Proofs.Ytfkkaegebpckmaa
open Go.RowKit
set_option maxHeartbeats 8000000 in
set_option maxRecDepth 5000 in
theorem cOpen_any (b : List UInt8) (ao : Option Addr) (len cap : Nat) (w : World) (hl : Hid (b.length = len)) (hs : SlL w ao b) (hm : len ≤ 1000000) (hcap : len ≤ cap) :
    Calls Try.prog 14 #[.slice ao len cap] w fun e w' => COpened b w.heap.size w e w' := by
  have HS := hide hs
  clear hs
  have HR0 := hide (RowAt.new w 28 zeroC)
  have HB0 : Hid (Below w.heap.size w (w.alloc (.cells zeroC 28))) := (Below.refl w.heap.size w).alloc (Nat.le_refl _) _
  go_enter Try.func14, Try.ntmps14
  go_wp2_with fail
  refine (open_any b ao len cap _ hl (by exact HS.out.alloc _) (by omega) hcap).mono ?_
  rintro e w1 ⟨⟨n, v, hn, hz, rfl, hO⟩ | ⟨hn, rfl⟩ | ⟨n, hn, hz, rfl⟩, hb1⟩
  · have HR1 : Hid (RowAt w1 w.heap.size 28 zeroC) := HR0.out.below hb1 (by simp)
    have HB1 : Hid (Below w.heap.size w w1) := HB0.out.trans (hb1.mono (by simp))
    have hw1 : w.heap.size + 1 ≤ w1.heap.size := by have := hb1.size; rw [size_alloc] at this; exact this
    obtain ⟨a0, c0, hv0, _, _, _, _⟩ := hO.open
    subst hv0
    rw [size_alloc] at hO
    have HO1 := hide hO
    obtain ⟨_, _, hsb⟩ := N.opn_small b n hn
    have hpos : 1 ≤ N.size n := by unfold N.size; omega
    have hnl : n.length ≤ 255 := by have := N.size_ge n; omega
    obtain ⟨b1, o1, rfl, _, _⟩ := HS.out (by omega)
    obtain ⟨ar, hslr, hsr⟩ := cut_tl (N.size n) HS.out hl.out (by have := hl.out; omega) hcap
    have HD := hide (C.dec_some hn hz)
    have hlr0 : (b.drop (N.size n)).length = len - N.size n := by rw [List.length_drop, hl.out]
    generalize b.drop (N.size n) = r at hsr HD hlr0
    have hlr1 : len - N.size n ≤ cap - N.size n := by omega
    generalize len - N.size n = lr at hslr hlr0 hlr1
    generalize cap - N.size n = cr at hslr hlr1
    generalize N.size n = nz at hslr
    obtain ⟨la, hla⟩ : ∃ la, n.length = la := ⟨_, rfl⟩
    rw [hla] at hnl HO1 ⊢
    have HLA := hide hla
    have HLR := hide hlr0
    have HSR := hide hsr
    clear hn hz hO hb1 hsb hpos hla hlr0 hsr HR0 HB0 HS
    by_cases h32 : lr ≤ 32
    · have HN : Hid (C.dec b = none) := by rw [HD.out]; exact C.decR_short (by rw [HLR.out]; exact h32)
      clear HD
      go_wp2_with (refine wpList_store_absR rfl 28 (.tmp 2) (.tmp 26) rfl w.heap.size zeroC rfl rfl 28 zeroC HR1.out (by exact infoCf) rfl (by kernel_rfl) w.heap.size (Nat.le_refl _) ?_; intro w2 hR2 hB2)
      exact bodyPost_ret (v := .tuple #[.agg zeroC, .int .i64 100]) (results_cf Try.results14 _ _ w.heap.size zeroC rfl rfl hR2) rfl (COpened.no HN.out (HB1.out.trans hB2))
    · have hlr32 : 32 < lr := by omega
      obtain ⟨br, or_, har, hbr, hcr⟩ := HSR.out (by have := HLR.out; omega)
      obtain rfl : ar = ⟨br, or_, none⟩ := by injection har
      clear har
      have x32 := (HB1.out.cell (p := ⟨br, or_ + 32, none⟩) hbr).trans (hcr 32 (by have := HLR.out; omega))
      have hx := (r.getD 32 0).toNat_lt
      obtain ⟨ab, hslb, hsb⟩ := cut_tl 33 HSR.out HLR.out (by omega) hlr1
      have hslb : ∀ W, (Instr.slice 25 (.slice (some ⟨br, or_, none⟩) lr cr) (some (.int .i64 33)) none none).run Try.prog W = .ok (.slice (some ab) (lr - 33) (cr - 33)) W := hslb
      have hlen := @C.decR_len n r
      have hok := @C.decR_ok n r
      rw [HLR.out] at hlen hok
      obtain ⟨s, hsE⟩ : ∃ s, (r.getD 32 0).toNat = s := ⟨_, rfl⟩
      have HSE := hide hsE
      rw [hsE] at hlen hok x32 hx
      clear hcr hsE
      by_cases hE : lr = 38 + s
      · subst hE
        have HOK := hide (HD.out.trans (hok rfl))
        clear hlen hok HD
        obtain ⟨bb, ob, hab, hbb, hcb⟩ := hsb (by rw [List.length_drop, HLR.out]; omega)
        obtain rfl : ab = ⟨bb, ob, none⟩ := by injection hab
        have hlb0 : (r.drop 33).length = 38 + s - 33 := by rw [List.length_drop, HLR.out]
        have hlbc : 38 + s - 33 ≤ cr - 33 := by omega
        obtain ⟨ah, hslh, hsh⟩ := cut_hd s hsb hlb0 (by omega) hlbc
        obtain ⟨att, hslt, hst⟩ := cut_tl s hsb hlb0 (by omega) hlbc
        have hlt0 : ((r.drop 33).drop s).length = 38 + s - 33 - s := by rw [List.length_drop, hlb0]
        obtain ⟨bt, ot, hat, hbt, hct⟩ := hst (by rw [hlt0]; omega)
        obtain rfl : att = ⟨bt, ot, none⟩ := by injection hat
        have x2 := hct 2 (by rw [hlt0]; omega)
        have hltc : 38 + s - 33 - s ≤ cr - 33 - s := by omega
        obtain ⟨au, hslu0, hsu⟩ := cut_tl 3 hst hlt0 (by omega) hltc
        have hslu : ∀ W, (Instr.slice 25 (.slice (some ⟨bt, ot, none⟩) (38 + s - 33 - s) (cr - 33 - s)) (some (.int .i64 3)) none none).run Try.prog W = .ok (.slice (some au) (38 + s - 33 - s - 3) (cr - 33 - s - 3)) W := hslu0
        clear hcb hct hab hat hslu0
        have N0 : Hid (∀ W, Below w.heap.size w W → Calls Try.prog 28 #[.slice (some ⟨br, or_, none⟩) (38 + s) cr] W fun e w' => e = .returned (.int .u32 (D.gv (r.take 4) : Int)) ∧ ∃ m, w' = W.drewN m) := fun W hW => number32_any r _ (38 + s) cr W HLR (HSR.out.below hW (Nat.le_refl _)) (by omega) hlr1
        obtain ⟨ad1, hq1, hs1⟩ := cut_tl 4 HSR.out HLR.out (by omega) hlr1
        have hsl1 : ∀ W, (Instr.slice 25 (.slice (some ⟨br, or_, none⟩) (38 + s) cr) (some (.int .i64 4)) none none).run Try.prog W = .ok (.slice (some ad1) (38 + s - 4) (cr - 4)) W := hq1
        have N1 : Hid (∀ W, Below w.heap.size w W → Calls Try.prog 28 #[.slice (some ad1) (38 + s - 4) (cr - 4)] W fun e w' => e = .returned (.int .u32 (D.gv ((r.drop 4).take 4) : Int)) ∧ ∃ m, w' = W.drewN m) := fun W hW => number32_any (r.drop 4) _ (38 + s - 4) (cr - 4) W (by show _ = _; rw [List.length_drop, HLR.out]) (hs1.below hW (Nat.le_refl _)) (by omega) (by omega)
        clear hq1 hs1
        generalize 38 + s - 4 = l1 at hsl1 N1
        generalize cr - 4 = k1 at hsl1 N1
        obtain ⟨ad2, hq2, hs2⟩ := cut_tl 8 HSR.out HLR.out (by omega) hlr1
        have hsl2 : ∀ W, (Instr.slice 25 (.slice (some ⟨br, or_, none⟩) (38 + s) cr) (some (.int .i64 8)) none none).run Try.prog W = .ok (.slice (some ad2) (38 + s - 8) (cr - 8)) W := hq2
        have N2 : Hid (∀ W, Below w.heap.size w W → Calls Try.prog 28 #[.slice (some ad2) (38 + s - 8) (cr - 8)] W fun e w' => e = .returned (.int .u32 (D.gv ((r.drop 8).take 4) : Int)) ∧ ∃ m, w' = W.drewN m) := fun W hW => number32_any (r.drop 8) _ (38 + s - 8) (cr - 8) W (by show _ = _; rw [List.length_drop, HLR.out]) (hs2.below hW (Nat.le_refl _)) (by omega) (by omega)
        clear hq2 hs2
        generalize 38 + s - 8 = l2 at hsl2 N2
        generalize cr - 8 = k2 at hsl2 N2
        obtain ⟨ad3, hq3, hs3⟩ := cut_tl 12 HSR.out HLR.out (by omega) hlr1
        have hsl3 : ∀ W, (Instr.slice 25 (.slice (some ⟨br, or_, none⟩) (38 + s) cr) (some (.int .i64 12)) none none).run Try.prog W = .ok (.slice (some ad3) (38 + s - 12) (cr - 12)) W := hq3
        have N3 : Hid (∀ W, Below w.heap.size w W → Calls Try.prog 28 #[.slice (some ad3) (38 + s - 12) (cr - 12)] W fun e w' => e = .returned (.int .u32 (D.gv ((r.drop 12).take 4) : Int)) ∧ ∃ m, w' = W.drewN m) := fun W hW => number32_any (r.drop 12) _ (38 + s - 12) (cr - 12) W (by show _ = _; rw [List.length_drop, HLR.out]) (hs3.below hW (Nat.le_refl _)) (by omega) (by omega)
        clear hq3 hs3
        generalize 38 + s - 12 = l3 at hsl3 N3
        generalize cr - 12 = k3 at hsl3 N3
        obtain ⟨ad4, hq4, hs4⟩ := cut_tl 16 HSR.out HLR.out (by omega) hlr1
        have hsl4 : ∀ W, (Instr.slice 25 (.slice (some ⟨br, or_, none⟩) (38 + s) cr) (some (.int .i64 16)) none none).run Try.prog W = .ok (.slice (some ad4) (38 + s - 16) (cr - 16)) W := hq4
        have N4 : Hid (∀ W, Below w.heap.size w W → Calls Try.prog 28 #[.slice (some ad4) (38 + s - 16) (cr - 16)] W fun e w' => e = .returned (.int .u32 (D.gv ((r.drop 16).take 4) : Int)) ∧ ∃ m, w' = W.drewN m) := fun W hW => number32_any (r.drop 16) _ (38 + s - 16) (cr - 16) W (by show _ = _; rw [List.length_drop, HLR.out]) (hs4.below hW (Nat.le_refl _)) (by omega) (by omega)
        clear hq4 hs4
        generalize 38 + s - 16 = l4 at hsl4 N4
        generalize cr - 16 = k4 at hsl4 N4
        obtain ⟨ad5, hq5, hs5⟩ := cut_tl 20 HSR.out HLR.out (by omega) hlr1
        have hsl5 : ∀ W, (Instr.slice 25 (.slice (some ⟨br, or_, none⟩) (38 + s) cr) (some (.int .i64 20)) none none).run Try.prog W = .ok (.slice (some ad5) (38 + s - 20) (cr - 20)) W := hq5
        have N5 : Hid (∀ W, Below w.heap.size w W → Calls Try.prog 28 #[.slice (some ad5) (38 + s - 20) (cr - 20)] W fun e w' => e = .returned (.int .u32 (D.gv ((r.drop 20).take 4) : Int)) ∧ ∃ m, w' = W.drewN m) := fun W hW => number32_any (r.drop 20) _ (38 + s - 20) (cr - 20) W (by show _ = _; rw [List.length_drop, HLR.out]) (hs5.below hW (Nat.le_refl _)) (by omega) (by omega)
        clear hq5 hs5
        generalize 38 + s - 20 = l5 at hsl5 N5
        generalize cr - 20 = k5 at hsl5 N5
        obtain ⟨ad6, hq6, hs6⟩ := cut_tl 24 HSR.out HLR.out (by omega) hlr1
        have hsl6 : ∀ W, (Instr.slice 25 (.slice (some ⟨br, or_, none⟩) (38 + s) cr) (some (.int .i64 24)) none none).run Try.prog W = .ok (.slice (some ad6) (38 + s - 24) (cr - 24)) W := hq6
        have N6 : Hid (∀ W, Below w.heap.size w W → Calls Try.prog 28 #[.slice (some ad6) (38 + s - 24) (cr - 24)] W fun e w' => e = .returned (.int .u32 (D.gv ((r.drop 24).take 4) : Int)) ∧ ∃ m, w' = W.drewN m) := fun W hW => number32_any (r.drop 24) _ (38 + s - 24) (cr - 24) W (by show _ = _; rw [List.length_drop, HLR.out]) (hs6.below hW (Nat.le_refl _)) (by omega) (by omega)
        clear hq6 hs6
        generalize 38 + s - 24 = l6 at hsl6 N6
        generalize cr - 24 = k6 at hsl6 N6
        obtain ⟨ad7, hq7, hs7⟩ := cut_tl 28 HSR.out HLR.out (by omega) hlr1
        have hsl7 : ∀ W, (Instr.slice 25 (.slice (some ⟨br, or_, none⟩) (38 + s) cr) (some (.int .i64 28)) none none).run Try.prog W = .ok (.slice (some ad7) (38 + s - 28) (cr - 28)) W := hq7
        have N7 : Hid (∀ W, Below w.heap.size w W → Calls Try.prog 28 #[.slice (some ad7) (38 + s - 28) (cr - 28)] W fun e w' => e = .returned (.int .u32 (D.gv ((r.drop 28).take 4) : Int)) ∧ ∃ m, w' = W.drewN m) := fun W hW => number32_any (r.drop 28) _ (38 + s - 28) (cr - 28) W (by show _ = _; rw [List.length_drop, HLR.out]) (hs7.below hW (Nat.le_refl _)) (by omega) (by omega)
        clear hq7 hs7
        generalize 38 + s - 28 = l7 at hsl7 N7
        generalize cr - 28 = k7 at hsl7 N7
        have NC : Hid (∀ W, Below w.heap.size w W → Calls Try.prog 29 #[.slice (some ah) s (cr - 33)] W fun e w' => ∃ v, e = .returned v ∧ OwnB w' W.heap.size v ((r.drop 33).take s) ∧ Below W.heap.size W w') := fun W hW => clone_any ((r.drop 33).take s) (some ah) s (cr - 33) W (by show _ = _; rw [List.length_take, hlb0]; omega) (hsh.below hW (Nat.le_refl _)) (by intro h; cases h) (by omega)
        have NT : Hid (∀ W, Below w.heap.size w W → Calls Try.prog 30 #[.slice (some ⟨bt, ot, none⟩) (38 + s - 33 - s) (cr - 33 - s)] W fun e w' => e = .returned (.int .u16 (D.gv (((r.drop 33).drop s).take 2) : Int)) ∧ ∃ m, w' = W.drewN m) := fun W hW => number16_any ((r.drop 33).drop s) _ _ _ W hlt0 (hst.below hW (Nat.le_refl _)) (by omega)
        have NU : Hid (∀ W, Below w.heap.size w W → Calls Try.prog 30 #[.slice (some au) (38 + s - 33 - s - 3) (cr - 33 - s - 3)] W fun e w' => e = .returned (.int .u16 (D.gv ((((r.drop 33).drop s).drop 3).take 2) : Int)) ∧ ∃ m, w' = W.drewN m) := fun W hW => number16_any (((r.drop 33).drop s).drop 3) _ _ _ W (by show _ = _; rw [List.length_drop, hlt0]) (hsu.below hW (Nat.le_refl _)) (by omega)
        have hE3 : (((38 + s - 33 : Nat) : Int) == (s : Int) + 5) = true := beq_iff_eq.2 (by omega)
        have hE2 : ((38 + s - 33 : Nat) : Int) = (s : Int) + 5 := by omega
        have hE5 : s ≤ 38 + s - 33 := by omega
        have hE6 : (2 : Int) < ((38 + s - 33 - s : Nat) : Int) := by omega
        obtain ⟨y, hyE⟩ : ∃ y, (((r.drop 33).drop s).getD 2 0).toNat = y := ⟨_, rfl⟩
        have hy : y < 256 := by rw [← hyE]; exact UInt8.toNat_lt _
        rw [hyE] at x2
        have HMK : Hid (C.mk n r = ⟨n, D.gv (r.take 4), D.gv ((r.drop 4).take 4), D.gv ((r.drop 8).take 4), D.gv ((r.drop 12).take 4), D.gv ((r.drop 16).take 4), D.gv ((r.drop 20).take 4), D.gv ((r.drop 24).take 4), D.gv ((r.drop 28).take 4), (r.drop 33).take s, D.gv (((r.drop 33).drop s).take 2), (y : Int), D.gv ((((r.drop 33).drop s).drop 3).take 2)⟩) := by
          show _ = _
          unfold C.mk
          rw [HSE.out, ← hyE]
          simp only [List.drop_drop]
        have HSL : Hid (((r.drop 33).take s).length = s) := by show _ = _; rw [List.length_take, hlb0]; omega
        clear hlb0 hlbc hsh hst hlt0 hltc hsu hsb HSR HLR hyE HSE
        generalize 38 + s - 33 - s - 3 = lu at hslu NU
        generalize cr - 33 - s - 3 = ku at hslu NU
        generalize 38 + s - 33 - s = lt at hslt hslu NT hE6
        generalize cr - 33 - s = kt at hslt hslu NT
        generalize 38 + s - 33 = lb at hslb hslh hslt hE2 hE3 hE5
        generalize cr - 33 = cb at hslb hslh hslt NC
        generalize D.gv (r.take 4) = t0 at N0 HMK
        generalize D.gv ((r.drop 4).take 4) = t1 at N1 HMK
        generalize D.gv ((r.drop 8).take 4) = t2 at N2 HMK
        generalize D.gv ((r.drop 12).take 4) = t3 at N3 HMK
        generalize D.gv ((r.drop 16).take 4) = t4 at N4 HMK
        generalize D.gv ((r.drop 20).take 4) = t5 at N5 HMK
        generalize D.gv ((r.drop 24).take 4) = t6 at N6 HMK
        generalize D.gv ((r.drop 28).take 4) = t7 at N7 HMK
        generalize D.gv (((r.drop 33).drop s).take 2) = ti at NT HMK
        generalize D.gv ((((r.drop 33).drop s).drop 3).take 2) = tz at NU HMK
        generalize (r.drop 33).take s = sl at NC HMK HSL
        have hwy : IntKind.i64.wrap (y : Int) = (y : Int) := by rw [IntKind.wrap_i64]; omega
        have hww : w.heap.size ≤ w1.heap.size := by omega
        have X2 := hide x2
        have B1 : Hid (Below w1.heap.size w1 w1.drew) := below_drew (Below.refl _ _)
        have SA1 : Hid (w1.drew.cell? ⟨bt, ot + 2, none⟩ = some (.int .u8 (y : Int))) := (HB1.out.cell (p := ⟨bt, ot + 2, none⟩) hbt).trans x2
        clear x2
        go_wp2
        refine wp_region_noPanic ?_
        refine wp_region_X (S := fun w' => w'.cell? ⟨bt, ot + 2, none⟩ = some (.int .u8 (y : Int))) (jS := 1000) (by kernel_rfl) ?_
        generalize w1.drew = W1 at B1 SA1 ⊢
        refine wpAnyX_take (i := 0) (v := ?v1) (gt0 _ _) (by kernel_rfl) (by kernel_rfl) (by kernel_rfl) (by kernel_rfl) (fun _ _ _ h => h) (Or.inl ⟨by rfl, ?hy1⟩) SA1.out ?rest1
        case hy1 => (intro wq hSw; go_simp; try (with_reducible rfl))
        case' rest1 => try simp only [Act.put, List.setIfInBounds_toArray, List.set_cons_zero, List.set_cons_succ]
        refine wpAnyX_take (i := 1) (v := ?v2) (gt1 _ _ _) (by kernel_rfl) (by kernel_rfl) (by kernel_rfl) (by kernel_rfl) (fun _ _ _ h => h) (Or.inl ⟨by rfl, ?hy2⟩) SA1.out ?rest2
        case hy2 => (intro wq hSw; go_simp; try (with_reducible rfl))
        case' rest2 => try simp only [Act.put, List.setIfInBounds_toArray, List.set_cons_zero, List.set_cons_succ]
        refine wpAnyX_take (i := 3) (v := ?v3) (gt3 _ _ _ _ _) (by kernel_rfl) (by kernel_rfl) (by kernel_rfl) (by kernel_rfl) (fun _ _ _ h => h) (Or.inl ⟨by rfl, ?hy3⟩) SA1.out ?rest3
        case hy3 => (intro wq hSw; go_simp; try (with_reducible rfl))
        case' rest3 => try simp only [Act.put, List.setIfInBounds_toArray, List.set_cons_zero, List.set_cons_succ]
        refine wpAnyX_take (i := 4) (v := ?v4) (gt4 _ _ _ _ _ _) (by kernel_rfl) (by kernel_rfl) (by kernel_rfl) (by kernel_rfl) (fun _ _ _ h => h) (Or.inl ⟨by rfl, ?hy4⟩) SA1.out ?rest4
        case hy4 => (intro wq hSw; go_simp; try (with_reducible rfl))
        case' rest4 => try simp only [Act.put, List.setIfInBounds_toArray, List.set_cons_zero, List.set_cons_succ]
        refine wpAnyX_take (i := 6) (v := ?v5) (gt6 _ _ _ _ _ _ _ _) (by kernel_rfl) (by kernel_rfl) (by kernel_rfl) (by kernel_rfl) (fun _ _ _ h => h) (Or.inl ⟨by rfl, ?hy5⟩) SA1.out ?rest5
        case hy5 => (intro wq hSw; go_simp; try (with_reducible rfl))
        case' rest5 => try simp only [Act.put, List.setIfInBounds_toArray, List.set_cons_zero, List.set_cons_succ]
        refine wpAnyX_take (i := 7) (v := ?v6) (gt7 _ _ _ _ _ _ _ _ _) (by kernel_rfl) (by kernel_rfl) (by kernel_rfl) (by kernel_rfl) (fun _ _ _ h => h) (Or.inl ⟨by rfl, ?hy6⟩) SA1.out ?rest6
        case hy6 => (intro wq hSw; go_simp; try (with_reducible rfl))
        case' rest6 => try simp only [Act.put, List.setIfInBounds_toArray, List.set_cons_zero, List.set_cons_succ]
        refine wpAnyX_take (i := 9) (v := ?v7) (gt9 _ _ _ _ _ _ _ _ _ _ _) (by kernel_rfl) (by kernel_rfl) (by kernel_rfl) (by kernel_rfl) (fun _ _ _ h => h) (Or.inl ⟨by rfl, ?hy7⟩) SA1.out ?rest7
        case hy7 => (intro wq hSw; go_simp; try (with_reducible rfl))
        case' rest7 => try simp only [Act.put, List.setIfInBounds_toArray, List.set_cons_zero, List.set_cons_succ]
        refine wpAnyX_take (i := 10) (v := ?v8) (gt10 _ _ _ _ _ _ _ _ _ _ _ _) (by kernel_rfl) (by kernel_rfl) (by kernel_rfl) (by kernel_rfl) (fun _ _ _ h => h) (Or.inl ⟨by rfl, ?hy8⟩) SA1.out ?rest8
        case hy8 => (intro wq hSw; go_simp; try (with_reducible rfl))
        case' rest8 => try simp only [Act.put, List.setIfInBounds_toArray, List.set_cons_zero, List.set_cons_succ]
        refine wpAnyX_take (i := 12) (v := ?v9) (gt12 _ _ _ _ _ _ _ _ _ _ _ _ _ _) (by kernel_rfl) (by kernel_rfl) (by kernel_rfl) (by kernel_rfl) (fun _ _ _ h => h) (Or.inl ⟨by rfl, ?hy9⟩) SA1.out ?rest9
        case hy9 => (intro wq hSw; go_simp; try (with_reducible rfl))
        case' rest9 => try simp only [Act.put, List.setIfInBounds_toArray, List.set_cons_zero, List.set_cons_succ]
        refine wpAnyX_take (i := 13) (v := ?v10) (gt13 _ _ _ _ _ _ _ _ _ _ _ _ _ _ _) (by kernel_rfl) (by kernel_rfl) (by kernel_rfl) (by kernel_rfl) (fun _ _ _ h => h) (Or.inl ⟨by rfl, ?hy10⟩) SA1.out ?rest10
        case hy10 => (intro wq hSw; go_simp; try (with_reducible rfl))
        case' rest10 => try simp only [Act.put, List.setIfInBounds_toArray, List.set_cons_zero, List.set_cons_succ]
        refine wpAnyX_take (i := 15) (v := ?v11) (gt15 _ _ _ _ _ _ _ _ _ _ _ _ _ _ _ _ _) (by kernel_rfl) (by kernel_rfl) (by kernel_rfl) (by kernel_rfl) (fun _ _ _ h => h) (Or.inl ⟨by rfl, ?hy11⟩) SA1.out ?rest11
        case hy11 => (intro wq hSw; go_simp; try (with_reducible rfl))
        case' rest11 => try simp only [Act.put, List.setIfInBounds_toArray, List.set_cons_zero, List.set_cons_succ]
        refine wpAnyX_take (i := 16) (v := ?v12) (gt16 _ _ _ _ _ _ _ _ _ _ _ _ _ _ _ _ _ _) (by kernel_rfl) (by kernel_rfl) (by kernel_rfl) (by kernel_rfl) (fun _ _ _ h => h) (Or.inl ⟨by rfl, ?hy12⟩) SA1.out ?rest12
        case hy12 => (intro wq hSw; go_simp; try (with_reducible rfl))
        case' rest12 => try simp only [Act.put, List.setIfInBounds_toArray, List.set_cons_zero, List.set_cons_succ]
        refine wpAnyX_take (i := 18) (v := ?v13) (gt18 _ _ _ _ _ _ _ _ _ _ _ _ _ _ _ _ _ _ _ _) (by kernel_rfl) (by kernel_rfl) (by kernel_rfl) (by kernel_rfl) (fun _ _ _ h => h) (Or.inl ⟨by rfl, ?hy13⟩) SA1.out ?rest13
        case hy13 => (intro wq hSw; go_simp; try (with_reducible rfl))
        case' rest13 => try simp only [Act.put, List.setIfInBounds_toArray, List.set_cons_zero, List.set_cons_succ]
        refine wpAnyX_take (i := 19) (v := ?v14) (gt19 _ _ _ _ _ _ _ _ _ _ _ _ _ _ _ _ _ _ _ _ _) (by kernel_rfl) (by kernel_rfl) (by kernel_rfl) (by kernel_rfl) (fun _ _ _ h => h) (Or.inl ⟨by rfl, ?hy14⟩) SA1.out ?rest14
        case hy14 => (intro wq hSw; go_simp; try (with_reducible rfl))
        case' rest14 => try simp only [Act.put, List.setIfInBounds_toArray, List.set_cons_zero, List.set_cons_succ]
        refine wpAnyX_take (i := 21) (v := ?v15) (gt21 _ _ _ _ _ _ _ _ _ _ _ _ _ _ _ _ _ _ _ _ _ _ _) (by kernel_rfl) (by kernel_rfl) (by kernel_rfl) (by kernel_rfl) (fun _ _ _ h => h) (Or.inl ⟨by rfl, ?hy15⟩) SA1.out ?rest15
        case hy15 => (intro wq hSw; go_simp; try (with_reducible rfl))
        case' rest15 => try simp only [Act.put, List.setIfInBounds_toArray, List.set_cons_zero, List.set_cons_succ]
        refine wpAnyX_take (i := 22) (v := ?v16) (gt22 _ _ _ _ _ _ _ _ _ _ _ _ _ _ _ _ _ _ _ _ _ _ _ _) (by kernel_rfl) (by kernel_rfl) (by kernel_rfl) (by kernel_rfl) (fun _ _ _ h => h) (Or.inl ⟨by rfl, ?hy16⟩) SA1.out ?rest16
        case hy16 => (intro wq hSw; go_simp; try (with_reducible rfl))
        case' rest16 => try simp only [Act.put, List.setIfInBounds_toArray, List.set_cons_zero, List.set_cons_succ]
        refine wpAnyX_take (i := 24) (v := ?v17) (gt24 _ _ _ _ _ _ _ _ _ _ _ _ _ _ _ _ _ _ _ _ _ _ _ _ _ _) (by kernel_rfl) (by kernel_rfl) (by kernel_rfl) (by kernel_rfl) (fun _ _ _ h => h) (Or.inl ⟨by rfl, ?hy17⟩) SA1.out ?rest17
        case hy17 => (intro wq hSw; go_simp; try (with_reducible rfl))
        case' rest17 => try simp only [Act.put, List.setIfInBounds_toArray, List.set_cons_zero, List.set_cons_succ]
        refine wpAnyX_take (i := 25) (v := ?v18) (gt25 _ _ _ _ _ _ _ _ _ _ _ _ _ _ _ _ _ _ _ _ _ _ _ _ _ _ _) (by kernel_rfl) (by kernel_rfl) (by kernel_rfl) (by kernel_rfl) (fun _ _ _ h => h) (Or.inl ⟨by rfl, ?hy18⟩) SA1.out ?rest18
        case hy18 => (intro wq hSw; go_simp; try (with_reducible rfl))
        case' rest18 => try simp only [Act.put, List.setIfInBounds_toArray, List.set_cons_zero, List.set_cons_succ]
        refine wpAnyX_take (i := 26) (v := ?v19) (gt26 _ _ _ _ _ _ _ _ _ _ _ _ _ _ _ _ _ _ _ _ _ _ _ _ _ _ _ _) (by kernel_rfl) (by kernel_rfl) (by kernel_rfl) (by kernel_rfl) (fun _ _ _ h => h) (Or.inl ⟨by rfl, ?hy19⟩) SA1.out ?rest19
        case hy19 => (intro wq hSw; go_simp; try (with_reducible rfl))
        case' rest19 => try simp only [Act.put, List.setIfInBounds_toArray, List.set_cons_zero, List.set_cons_succ]
        refine wpAnyX_take (i := 28) (v := ?v20) (gt28 _ _ _ _ _ _ _ _ _ _ _ _ _ _ _ _ _ _ _ _ _ _ _ _ _ _ _ _ _ _) (by kernel_rfl) (by kernel_rfl) (by kernel_rfl) (by kernel_rfl) (fun _ _ _ h => h) (Or.inl ⟨by rfl, ?hy20⟩) SA1.out ?rest20
        case hy20 => (intro wq hSw; go_simp; try (with_reducible rfl))
        case' rest20 => try simp only [Act.put, List.setIfInBounds_toArray, List.set_cons_zero, List.set_cons_succ]
        refine wpAnyX_take (i := 30) (v := ?v21) (gt30 _ _ _ _ _ _ _ _ _ _ _ _ _ _ _ _ _ _ _ _ _ _ _ _ _ _ _ _ _ _ _ _) (by kernel_rfl) (by kernel_rfl) (by kernel_rfl) (by kernel_rfl) (fun _ _ _ h => h) (Or.inl ⟨by rfl, ?hy21⟩) SA1.out ?rest21
        case hy21 => (intro wq hSw; go_simp; try (with_reducible rfl))
        case' rest21 => try simp only [Act.put, List.setIfInBounds_toArray, List.set_cons_zero, List.set_cons_succ]
        refine wpAnyX_take (i := 31) (v := ?v22) (gt31 _ _ _ _ _ _ _ _ _ _ _ _ _ _ _ _ _ _ _ _ _ _ _ _ _ _ _ _ _ _ _ _ _) (by kernel_rfl) (by kernel_rfl) (by kernel_rfl) (by kernel_rfl) (fun _ _ _ h => h) (Or.inl ⟨by rfl, ?hy22⟩) SA1.out ?rest22
        case hy22 => (intro wq hSw; go_simp; try (with_reducible rfl))
        case' rest22 => try simp only [Act.put, List.setIfInBounds_toArray, List.set_cons_zero, List.set_cons_succ]
        refine wpAnyX_take (i := 32) (v := ?v23) (gt32 _ _ _ _ _ _ _ _ _ _ _ _ _ _ _ _ _ _ _ _ _ _ _ _ _ _ _ _ _ _ _ _ _ _) (by kernel_rfl) (by kernel_rfl) (by kernel_rfl) (by kernel_rfl) (fun _ _ _ h => h) (Or.inl ⟨by rfl, ?hy23⟩) SA1.out ?rest23
        case hy23 => (intro wq hSw; go_simp; try (with_reducible rfl))
        case' rest23 => try simp only [Act.put, List.setIfInBounds_toArray, List.set_cons_zero, List.set_cons_succ]
        refine wpAnyX_take (i := 33) (v := ?v24) (gt33 _ _ _ _ _ _ _ _ _ _ _ _ _ _ _ _ _ _ _ _ _ _ _ _ _ _ _ _ _ _ _ _ _ _ _) (by kernel_rfl) (by kernel_rfl) (by kernel_rfl) (by kernel_rfl) (fun _ _ _ h => h) (Or.inl ⟨by rfl, ?hy24⟩) SA1.out ?rest24
        case hy24 => (intro wq hSw; go_simp; try (with_reducible rfl))
        case' rest24 => try simp only [Act.put, List.setIfInBounds_toArray, List.set_cons_zero, List.set_cons_succ]
        refine wpAnyX_take (i := 34) (v := ?v25) (gt34 _ _ _ _ _ _ _ _ _ _ _ _ _ _ _ _ _ _ _ _ _ _ _ _ _ _ _ _ _ _ _ _ _ _ _ _) (by kernel_rfl) (by kernel_rfl) (by kernel_rfl) (by kernel_rfl) (fun _ _ _ h => h) (Or.inl ⟨by rfl, ?hy25⟩) SA1.out ?rest25
        case hy25 => (intro wq hSw; go_simp; try (with_reducible rfl))
        case' rest25 => try simp only [Act.put, List.setIfInBounds_toArray, List.set_cons_zero, List.set_cons_succ]
        refine wpAnyX_take (i := 35) (v := ?v26) (gt35 _ _ _ _ _ _ _ _ _ _ _ _ _ _ _ _ _ _ _ _ _ _ _ _ _ _ _ _ _ _ _ _ _ _ _ _ _) (by kernel_rfl) (by kernel_rfl) (by kernel_rfl) (by kernel_rfl) (fun _ _ _ h => h) (Or.inl ⟨by rfl, ?hy26⟩) SA1.out ?rest26
        case hy26 => (intro wq hSw; go_simp; try (with_reducible rfl))
        case' rest26 => try simp only [Act.put, List.setIfInBounds_toArray, List.set_cons_zero, List.set_cons_succ]
        refine wpAnyX_ready (rs := [2]) (by kernel_rfl) (by simp) (AllX.cons (gt2 _ _ _ _) (fun K hKK => ?br2) AllX.nil)
        case' br2 =>
          refine step_fn 28 #[.tmp 43] _ rfl rfl #[.slice (some ⟨br, or_, none⟩) (38 + s) cr] (by go_simp) (N0.out _ (HB1.out.trans (B1.out.mono hww))) (by rintro e w' ⟨rfl, _⟩; exact ⟨_, rfl⟩) ?_
          rintro _ W2 ⟨he, hd⟩
          cases he
          have B2 := hide (B1.out.trans (drew_below _ hd))
          clear hd
          have SA2 : Hid (W2.cell? ⟨bt, ot + 2, none⟩ = some (.int .u8 (y : Int))) := ((HB1.out.trans (B2.out.mono hww)).cell (p := ⟨bt, ot + 2, none⟩) hbt).trans X2.out
          refine hKK.out _ _ (Or.inr SA2.out) ?_
          clear hKK SA1 B1
          try simp only [Act.put, List.setIfInBounds_toArray, List.set_cons_zero, List.set_cons_succ]
        refine wpAnyX_ready (rs := [5]) (by kernel_rfl) (by simp) (AllX.cons (gt5 _ _ _ _ _ _ _) (fun K hKK => ?br5) AllX.nil)
        case' br5 =>
          refine step_fn 28 #[.tmp 46] _ rfl rfl #[.slice (some ad1) l1 k1] (by go_simp) (N1.out _ (HB1.out.trans (B2.out.mono hww))) (by rintro e w' ⟨rfl, _⟩; exact ⟨_, rfl⟩) ?_
          rintro _ W3 ⟨he, hd⟩
          cases he
          have B3 := hide (B2.out.trans (drew_below _ hd))
          clear hd
          have SA3 : Hid (W3.cell? ⟨bt, ot + 2, none⟩ = some (.int .u8 (y : Int))) := ((HB1.out.trans (B3.out.mono hww)).cell (p := ⟨bt, ot + 2, none⟩) hbt).trans X2.out
          refine hKK.out _ _ (Or.inr SA3.out) ?_
          clear hKK SA2 B2
          try simp only [Act.put, List.setIfInBounds_toArray, List.set_cons_zero, List.set_cons_succ]
        refine wpAnyX_ready (rs := [8]) (by kernel_rfl) (by simp) (AllX.cons (gt8 _ _ _ _ _ _ _ _ _ _) (fun K hKK => ?br8) AllX.nil)
        case' br8 =>
          refine step_fn 28 #[.tmp 49] _ rfl rfl #[.slice (some ad2) l2 k2] (by go_simp) (N2.out _ (HB1.out.trans (B3.out.mono hww))) (by rintro e w' ⟨rfl, _⟩; exact ⟨_, rfl⟩) ?_
          rintro _ W4 ⟨he, hd⟩
          cases he
          have B4 := hide (B3.out.trans (drew_below _ hd))
          clear hd
          have SA4 : Hid (W4.cell? ⟨bt, ot + 2, none⟩ = some (.int .u8 (y : Int))) := ((HB1.out.trans (B4.out.mono hww)).cell (p := ⟨bt, ot + 2, none⟩) hbt).trans X2.out
          refine hKK.out _ _ (Or.inr SA4.out) ?_
          clear hKK SA3 B3
          try simp only [Act.put, List.setIfInBounds_toArray, List.set_cons_zero, List.set_cons_succ]
        refine wpAnyX_ready (rs := [11]) (by kernel_rfl) (by simp) (AllX.cons (gt11 _ _ _ _ _ _ _ _ _ _ _ _ _) (fun K hKK => ?br11) AllX.nil)
        case' br11 =>
          refine step_fn 28 #[.tmp 52] _ rfl rfl #[.slice (some ad3) l3 k3] (by go_simp) (N3.out _ (HB1.out.trans (B4.out.mono hww))) (by rintro e w' ⟨rfl, _⟩; exact ⟨_, rfl⟩) ?_
          rintro _ W5 ⟨he, hd⟩
          cases he
          have B5 := hide (B4.out.trans (drew_below _ hd))
          clear hd
          have SA5 : Hid (W5.cell? ⟨bt, ot + 2, none⟩ = some (.int .u8 (y : Int))) := ((HB1.out.trans (B5.out.mono hww)).cell (p := ⟨bt, ot + 2, none⟩) hbt).trans X2.out
          refine hKK.out _ _ (Or.inr SA5.out) ?_
          clear hKK SA4 B4
          try simp only [Act.put, List.setIfInBounds_toArray, List.set_cons_zero, List.set_cons_succ]
        refine wpAnyX_ready (rs := [14]) (by kernel_rfl) (by simp) (AllX.cons (gt14 _ _ _ _ _ _ _ _ _ _ _ _ _ _ _ _) (fun K hKK => ?br14) AllX.nil)
        case' br14 =>
          refine step_fn 28 #[.tmp 55] _ rfl rfl #[.slice (some ad4) l4 k4] (by go_simp) (N4.out _ (HB1.out.trans (B5.out.mono hww))) (by rintro e w' ⟨rfl, _⟩; exact ⟨_, rfl⟩) ?_
          rintro _ W6 ⟨he, hd⟩
          cases he
          have B6 := hide (B5.out.trans (drew_below _ hd))
          clear hd
          have SA6 : Hid (W6.cell? ⟨bt, ot + 2, none⟩ = some (.int .u8 (y : Int))) := ((HB1.out.trans (B6.out.mono hww)).cell (p := ⟨bt, ot + 2, none⟩) hbt).trans X2.out
          refine hKK.out _ _ (Or.inr SA6.out) ?_
          clear hKK SA5 B5
          try simp only [Act.put, List.setIfInBounds_toArray, List.set_cons_zero, List.set_cons_succ]
        refine wpAnyX_ready (rs := [17]) (by kernel_rfl) (by simp) (AllX.cons (gt17 _ _ _ _ _ _ _ _ _ _ _ _ _ _ _ _ _ _ _) (fun K hKK => ?br17) AllX.nil)
        case' br17 =>
          refine step_fn 28 #[.tmp 58] _ rfl rfl #[.slice (some ad5) l5 k5] (by go_simp) (N5.out _ (HB1.out.trans (B6.out.mono hww))) (by rintro e w' ⟨rfl, _⟩; exact ⟨_, rfl⟩) ?_
          rintro _ W7 ⟨he, hd⟩
          cases he
          have B7 := hide (B6.out.trans (drew_below _ hd))
          clear hd
          have SA7 : Hid (W7.cell? ⟨bt, ot + 2, none⟩ = some (.int .u8 (y : Int))) := ((HB1.out.trans (B7.out.mono hww)).cell (p := ⟨bt, ot + 2, none⟩) hbt).trans X2.out
          refine hKK.out _ _ (Or.inr SA7.out) ?_
          clear hKK SA6 B6
          try simp only [Act.put, List.setIfInBounds_toArray, List.set_cons_zero, List.set_cons_succ]
        refine wpAnyX_ready (rs := [20]) (by kernel_rfl) (by simp) (AllX.cons (gt20 _ _ _ _ _ _ _ _ _ _ _ _ _ _ _ _ _ _ _ _ _ _) (fun K hKK => ?br20) AllX.nil)
        case' br20 =>
          refine step_fn 28 #[.tmp 61] _ rfl rfl #[.slice (some ad6) l6 k6] (by go_simp) (N6.out _ (HB1.out.trans (B7.out.mono hww))) (by rintro e w' ⟨rfl, _⟩; exact ⟨_, rfl⟩) ?_
          rintro _ W8 ⟨he, hd⟩
          cases he
          have B8 := hide (B7.out.trans (drew_below _ hd))
          clear hd
          have SA8 : Hid (W8.cell? ⟨bt, ot + 2, none⟩ = some (.int .u8 (y : Int))) := ((HB1.out.trans (B8.out.mono hww)).cell (p := ⟨bt, ot + 2, none⟩) hbt).trans X2.out
          refine hKK.out _ _ (Or.inr SA8.out) ?_
          clear hKK SA7 B7
          try simp only [Act.put, List.setIfInBounds_toArray, List.set_cons_zero, List.set_cons_succ]
        refine wpAnyX_ready (rs := [23]) (by kernel_rfl) (by simp) (AllX.cons (gt23 _ _ _ _ _ _ _ _ _ _ _ _ _ _ _ _ _ _ _ _ _ _ _ _ _) (fun K hKK => ?br23) AllX.nil)
        case' br23 =>
          refine step_fn 28 #[.tmp 64] _ rfl rfl #[.slice (some ad7) l7 k7] (by go_simp) (N7.out _ (HB1.out.trans (B8.out.mono hww))) (by rintro e w' ⟨rfl, _⟩; exact ⟨_, rfl⟩) ?_
          rintro _ W9 ⟨he, hd⟩
          cases he
          have B9 := hide (B8.out.trans (drew_below _ hd))
          clear hd
          have SA9 : Hid (W9.cell? ⟨bt, ot + 2, none⟩ = some (.int .u8 (y : Int))) := ((HB1.out.trans (B9.out.mono hww)).cell (p := ⟨bt, ot + 2, none⟩) hbt).trans X2.out
          refine hKK.out _ _ (Or.inr SA9.out) ?_
          clear hKK SA8 B8
          try simp only [Act.put, List.setIfInBounds_toArray, List.set_cons_zero, List.set_cons_succ]
        refine wpAnyX_ready (rs := [27]) (by kernel_rfl) (by simp) (AllX.cons (gt27 _ _ _ _ _ _ _ _ _ _ _ _ _ _ _ _ _ _ _ _ _ _ _ _ _ _ _ _ _) (fun K hKK => ?br27) AllX.nil)
        case' br27 =>
          refine step_fn 29 #[.tmp 68] _ rfl rfl #[.slice (some ah) s cb] (by go_simp) (NC.out _ (HB1.out.trans (B9.out.mono hww))) (by rintro e w' ⟨v, rfl, _⟩; exact ⟨v, rfl⟩) ?_
          rintro _ W10 ⟨v10, he, hOc, hbc⟩
          cases he
          have B10 := hide (B9.out.trans (hbc.mono B9.out.size))
          obtain ⟨a9, c9, hv10, _, _, _, _⟩ := hOc.open
          rw [HSL.out] at hv10
          subst hv10
          have hz9 : w.heap.size < W9.heap.size := by have := B9.out.size; omega
          have HS9 := hide (OwnB.lower (base' := w.heap.size + 1) hOc (by omega))
          clear hOc hbc hz9
          have SA10 : Hid (W10.cell? ⟨bt, ot + 2, none⟩ = some (.int .u8 (y : Int))) := ((HB1.out.trans (B10.out.mono hww)).cell (p := ⟨bt, ot + 2, none⟩) hbt).trans X2.out
          refine hKK.out _ _ (Or.inr SA10.out) ?_
          clear hKK SA9 B9
          try simp only [Act.put, List.setIfInBounds_toArray, List.set_cons_zero, List.set_cons_succ]
        refine wpAnyX_ready (rs := [29]) (by kernel_rfl) (by simp) (AllX.cons (gt29 _ _ _ _ _ _ _ _ _ _ _ _ _ _ _ _ _ _ _ _ _ _ _ _ _ _ _ _ _ _ _) (fun K hKK => ?br29) AllX.nil)
        case' br29 =>
          refine step_fn 30 #[.tmp 70] _ rfl rfl #[.slice (some ⟨bt, ot, none⟩) lt kt] (by go_simp) (NT.out _ (HB1.out.trans (B10.out.mono hww))) (by rintro e w' ⟨rfl, _⟩; exact ⟨_, rfl⟩) ?_
          rintro _ W11 ⟨he, hd⟩
          cases he
          have B11 := hide (B10.out.trans (drew_below _ hd))
          replace HS9 := hide (HS9.out.below (drew_below _ hd))
          clear hd
          have SA11 : Hid (W11.cell? ⟨bt, ot + 2, none⟩ = some (.int .u8 (y : Int))) := ((HB1.out.trans (B11.out.mono hww)).cell (p := ⟨bt, ot + 2, none⟩) hbt).trans X2.out
          refine hKK.out _ _ (Or.inr SA11.out) ?_
          clear hKK SA10 B10
          try simp only [Act.put, List.setIfInBounds_toArray, List.set_cons_zero, List.set_cons_succ]
        refine wpAnyX_ready (rs := [36]) (by kernel_rfl) (by simp) (AllX.cons (gt36 _ _ _ _ _ _ _ _ _ _ _ _ _ _ _ _ _ _ _ _ _ _ _ _ _ _ _ _ _ _ _ _ _ _ _ _ _ _) (fun K hKK => ?br36) AllX.nil)
        case' br36 =>
          refine step_fn 30 #[.tmp 77] _ rfl rfl #[.slice (some au) lu ku] (by go_simp) (NU.out _ (HB1.out.trans (B11.out.mono hww))) (by rintro e w' ⟨rfl, _⟩; exact ⟨_, rfl⟩) ?_
          rintro _ W12 ⟨he, hd⟩
          cases he
          have B12 := hide (B11.out.trans (drew_below _ hd))
          replace HS9 := hide (HS9.out.below (drew_below _ hd))
          clear hd
          have SA12 : Hid (W12.cell? ⟨bt, ot + 2, none⟩ = some (.int .u8 (y : Int))) := ((HB1.out.trans (B12.out.mono hww)).cell (p := ⟨bt, ot + 2, none⟩) hbt).trans X2.out
          refine hKK.out _ _ (Or.inr SA12.out) ?_
          clear hKK SA11 B11
          try simp only [Act.put, List.setIfInBounds_toArray, List.set_cons_zero, List.set_cons_succ]
        refine wpAnyX_take (i := 37) (v := ?v27) (gt37 _ _ _ _ _ _ _ _ _ _ _ _ _ _ _ _ _ _ _ _ _ _ _ _ _ _ _ _ _ _ _ _ _ _ _ _ _ _ _) (by kernel_rfl) (by kernel_rfl) (by kernel_rfl) (by kernel_rfl) (fun _ _ _ h => h) (Or.inl ⟨by rfl, ?hy27⟩) SA12.out ?rest27
        case hy27 => (intro wq hSw; go_simp; try (with_reducible rfl))
        case' rest27 => try simp only [Act.put, List.setIfInBounds_toArray, List.set_cons_zero, List.set_cons_succ]
        refine wpAnyX_ready (rs := [38]) (by kernel_rfl) (by simp) (AllX.cons (gt38 _ _ _ _ _ _ _ _ _ _ _ _ _ _ _ _ _ _ _ _ _ _ _ _ _ _ _ _ _ _ _ _ _ _ _ _ _ _ _ _) (fun K hKK => ?br38) AllX.nil)
        case' br38 =>
          rw [if_pos (by rfl)]
          refine wp_store_row 28 (.tmp 2) (.tmp 79) rfl w.heap.size #[.slice a0 la c0, .int .u32 (t0 : Int), .int .u32 (t1 : Int), .int .u32 (t2 : Int), .int .u32 (t3 : Int), .int .u32 (t4 : Int), .int .u32 (t5 : Int), .int .u32 (t6 : Int), .int .u32 (t7 : Int), .slice a9 s c9, .int .u16 (ti : Int), .int .i64 (y : Int), .int .u16 (tz : Int)] rfl rfl 28 zeroC (HR1.out.below B12.out (by omega)) (by exact infoCf) rfl (by kernel_rfl) ?_
          have HRX := hide (setRow_same (HR1.out.below B12.out (by omega)) #[.slice a0 la c0, .int .u32 (t0 : Int), .int .u32 (t1 : Int), .int .u32 (t2 : Int), .int .u32 (t3 : Int), .int .u32 (t4 : Int), .int .u32 (t5 : Int), .int .u32 (t6 : Int), .int .u32 (t7 : Int), .slice a9 s c9, .int .u16 (ti : Int), .int .i64 (y : Int), .int .u16 (tz : Int)])
          have HBX := hide (below_setRow (HB1.out.trans (B12.out.mono hww)) (Nat.le_refl w.heap.size) #[.slice a0 la c0, .int .u32 (t0 : Int), .int .u32 (t1 : Int), .int .u32 (t2 : Int), .int .u32 (t3 : Int), .int .u32 (t4 : Int), .int .u32 (t5 : Int), .int .u32 (t6 : Int), .int .u32 (t7 : Int), .slice a9 s c9, .int .u16 (ti : Int), .int .i64 (y : Int), .int .u16 (tz : Int)])
          have HX0 := hide (owns_setRow (HO1.out.below B12.out) (Nat.lt_succ_self w.heap.size) #[.slice a0 la c0, .int .u32 (t0 : Int), .int .u32 (t1 : Int), .int .u32 (t2 : Int), .int .u32 (t3 : Int), .int .u32 (t4 : Int), .int .u32 (t5 : Int), .int .u32 (t6 : Int), .int .u32 (t7 : Int), .slice a9 s c9, .int .u16 (ti : Int), .int .i64 (y : Int), .int .u16 (tz : Int)])
          have HX9 := hide (owns_setRow HS9.out (Nat.lt_succ_self w.heap.size) #[.slice a0 la c0, .int .u32 (t0 : Int), .int .u32 (t1 : Int), .int .u32 (t2 : Int), .int .u32 (t3 : Int), .int .u32 (t4 : Int), .int .u32 (t5 : Int), .int .u32 (t6 : Int), .int .u32 (t7 : Int), .slice a9 s c9, .int .u16 (ti : Int), .int .i64 (y : Int), .int .u16 (tz : Int)])
          generalize W12.setRow w.heap.size #[.slice a0 la c0, .int .u32 (t0 : Int), .int .u32 (t1 : Int), .int .u32 (t2 : Int), .int .u32 (t3 : Int), .int .u32 (t4 : Int), .int .u32 (t5 : Int), .int .u32 (t6 : Int), .int .u32 (t7 : Int), .slice a9 s c9, .int .u16 (ti : Int), .int .i64 (y : Int), .int .u16 (tz : Int)] = WX at HRX HBX HX0 HX9 ⊢
          have SAX : Hid (WX.cell? ⟨bt, ot + 2, none⟩ = some (.int .u8 (y : Int))) := (HBX.out.cell (p := ⟨bt, ot + 2, none⟩) hbt).trans X2.out
          refine hKK.out _ _ (Or.inr SAX.out) ?_
          clear hKK
          try simp only [Act.put]
        refine wpAnyX_take (i := 39) (v := ?v28) (gt39 _ _ _ _ _ _ _ _ _ _ _ _ _ _ _ _ _ _ _ _ _ _ _ _ _ _ _ _ _ _ _ _ _ _ _ _ _ _ _ _ _) (by kernel_rfl) (by kernel_rfl) (by kernel_rfl) (by kernel_rfl) (fun _ _ _ h => h) (Or.inl ⟨by rfl, ?hy28⟩) SAX.out ?rest28
        case hy28 => (intro wq hSw; go_simp; try (with_reducible rfl))
        case' rest28 => try simp only [Act.put]
        refine wpAnyX_done (by kernel_rfl) ?_ _
        refine NoPanic.normal ?_
        go_wp2
        refine bodyPost_ret (v := .tuple #[.agg #[.slice a0 la c0, .int .u32 (t0 : Int), .int .u32 (t1 : Int), .int .u32 (t2 : Int), .int .u32 (t3 : Int), .int .u32 (t4 : Int), .int .u32 (t5 : Int), .int .u32 (t6 : Int), .int .u32 (t7 : Int), .slice a9 s c9, .int .u16 (ti : Int), .int .i64 (y : Int), .int .u16 (tz : Int)], .int .i64 0]) (results_cf Try.results14 _ _ w.heap.size #[.slice a0 la c0, .int .u32 (t0 : Int), .int .u32 (t1 : Int), .int .u32 (t2 : Int), .int .u32 (t3 : Int), .int .u32 (t4 : Int), .int .u32 (t5 : Int), .int .u32 (t6 : Int), .int .u32 (t7 : Int), .slice a9 s c9, .int .u16 (ti : Int), .int .i64 (y : Int), .int .u16 (tz : Int)] rfl rfl HRX.out) rfl ?_
        exact ⟨⟨n, t0, t1, t2, t3, t4, t5, t6, t7, sl, ti, (y : Int), tz⟩, 0, a0, a9, la, c0, s, c9, rfl, Or.inl ⟨by rw [HOK.out, HMK.out], rfl⟩, HLA.out, HSL.out, OwnS.sl HX0.out, OwnB.sll HX9.out, by omega, by omega, HBX.out⟩
      · have HN : Hid (C.dec b = none) := by rw [HD.out]; exact hlen hE
        have hE2 : ((lr - 33 : Nat) : Int) ≠ (s : Int) + 5 := by omega
        have hE3 : (((lr - 33 : Nat) : Int) == (s : Int) + 5) = false := beq_eq_false_iff_ne.2 hE2
        clear HD hlen hok hE
        generalize lr - 33 = lb at hslb hE2 hE3
        generalize cr - 33 = cb at hslb
        go_wp2_with (refine wpList_store_absR rfl 28 (.tmp 2) (.tmp 38) rfl w.heap.size zeroC rfl rfl 28 zeroC HR1.out (by exact infoCf) rfl (by kernel_rfl) w.heap.size (Nat.le_refl _) ?_; intro w2 hR2 hB2)
        exact bodyPost_ret (v := .tuple #[.agg zeroC, .int .i64 100]) (results_cf Try.results14 _ _ w.heap.size zeroC rfl rfl hR2) rfl (COpened.no HN.out (HB1.out.trans hB2))
  · have HN := hide (C.dec_none hn)
    have HR1 : Hid (RowAt w1 w.heap.size 28 zeroC) := HR0.out.below hb1 (by simp)
    have HB1 : Hid (Below w.heap.size w w1) := HB0.out.trans (hb1.mono (by simp))
    clear hn hb1
    go_wp2_with (refine wpList_store_absR rfl 28 (.tmp 2) (.tmp 19) rfl w.heap.size zeroC rfl rfl 28 zeroC HR1.out (by exact infoCf) rfl (by kernel_rfl) w.heap.size (Nat.le_refl _) ?_; intro w2 hR2 hB2)
    exact bodyPost_ret (v := .tuple #[.agg zeroC, .int .i64 100]) (results_cf Try.results14 _ _ w.heap.size zeroC rfl rfl hR2) rfl (COpened.no HN.out (HB1.out.trans hB2))
  · have HN := hide (C.dec_great hn hz)
    have HR1 : Hid (RowAt w1 w.heap.size 28 zeroC) := HR0.out.below hb1 (by simp)
    have HB1 : Hid (Below w.heap.size w w1) := HB0.out.trans (hb1.mono (by simp))
    clear hn hb1 hz
    go_wp2_with (refine wpList_store_absR rfl 28 (.tmp 2) (.tmp 19) rfl w.heap.size zeroC rfl rfl 28 zeroC HR1.out (by exact infoCf) rfl (by kernel_rfl) w.heap.size (Nat.le_refl _) ?_; intro w2 hR2 hB2)
    exact bodyPost_ret (v := .tuple #[.agg zeroC, .int .i64 100]) (results_cf Try.results14 _ _ w.heap.size zeroC rfl rfl hR2) rfl (COpened.no HN.out (HB1.out.trans hB2))
end Go.Proofs.Ytfkkaegebpckmaa
