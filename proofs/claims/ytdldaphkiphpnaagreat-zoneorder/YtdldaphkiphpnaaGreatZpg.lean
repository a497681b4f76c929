/- (*Zone).Put, at a name and data that may be. Made by gpu.py. -/
import Derived.Test.YtdldaphkiphpnaaGreatZpl2
import Derived.Deep.Cut
import Derived.Deep.RegionWith
import Derived.Deep.RegionHeld3
namespace Go.Proofs.YtdldaphkiphpnaaGreat
open Go.RowKit
def PutPost (w : World) (Zb : Nat) (A : List (List UInt8)) (L : List Z.R) (ρ : Nat → Role) (C : List (List UInt8) → Nat → Option Z.St) (K : Nat) (n : List (List UInt8)) (nl t ttl : Nat) (c d : List UInt8) (e : Ending) (w' : World) : Prop :=
  ∃ (b : Bool) (cd : Nat), e = .returned (.tuple #[.bool b, .int .i64 (cd : Int)]) ∧ ((b = false ∧ Below w.heap.size w w' ∧ ((cd = 0 ∧ (Z.got C (path n) t c).isSome ∧ ((C (path n) t).map fun S => S.ttl).getD 0 = ttl) ∨ (cd = 111 ∧ Z.got C (path n) t c = none ∧ 2000 ≤ L.length))) ∨
      (b = true ∧ cd = 0 ∧ ¬ ((Z.got C (path n) t c).isSome ∧ ((C (path n) t).map fun S => S.ttl).getD 0 = ttl) ∧ ¬ (Z.got C (path n) t c = none ∧ 2000 ≤ L.length) ∧ ∃ ρ' G', ZAt w' Zb A (Z.put L ⟨path n, t, c, ttl, d⟩) ρ' G' (Z.cput C (path n) t ttl c d) (K + nl + 1) ∧ More w ρ ρ' ∧ ZM Zb ρ w w'))
set_option maxRecDepth 100000 in
set_option maxHeartbeats 4000000 in
theorem zput_good (w : World) (Zb : Nat) (A : List (List UInt8)) (L : List Z.R) (ρ : Nat → Role) (G : List (List UInt8) → Option Nd) (C : List (List UInt8) → Nat → Option Z.St) (K : Nat) (Zx : ZAt w Zb A L ρ G C K) (hA : Hid (N.Small A)) (n : List (List UInt8)) (na : Option Addr) (nl nc : Nat) (hl : Hid (n.length = nl)) (hnc : nl ≤ nc) (hs : SlS w na n) (hm : Hid (N.Small n)) (t : Nat) (ttl : Nat) (d : List UInt8) (da : Option Addr) (dc : Nat) (hsd : SlL w da d) (hnd : da = none → dc = 0) (hdc : d.length ≤ dc) (ht : t < 65536) (c : List UInt8) (hgood : N.chk n = 0) (hwin : N.within n A = true) (hcn : cn t d = some c) (httl : ttl < 4294967296) (hnl : nl ≤ 128) (hK : K + nl + 2 ≤ 1000000) :
    Calls Tryz.prog 36 #[.pointer (some ⟨Zb, 0, none⟩), recV na nl nc t 1 ttl da d.length dc] w fun e w' => PutPost w Zb A L ρ C K n nl t ttl c d e w' := by
  obtain ⟨ck, hck⟩ : ∃ ck, N.chk n = ck := ⟨_, rfl⟩
  have hchk : ∀ W, SlS W na n → Calls Tryz.prog 61 #[.slice na nl nc] W fun e w' => e = .returned (.int .i64 0) ∧ w' = W := fun W hW => by rw [← hgood]; exact check_any n na nl nc W hl hW hm
  have hwith : ∀ (W : World) (aa : Option Addr) (ac : Nat), SlS W na n → SlS W aa A → Calls Tryz.prog 62 #[.slice na nl nc, .slice aa A.length ac] W fun e w' => e = .returned (.bool true) ∧ ∃ m, w' = W.drewN m := fun W aa ac h1 h2 => by
    rw [← hwin]
    exact within_any n A na aa nl A.length nc ac W hl rfl h1 h2 (by have := hm.out.1; have := hl.out; omega) (by have := hA.out.1; omega) hnc (Sane.small hm.out) (Sane.small hA.out)
  clear hck ck
  obtain ⟨aa, ac, hzr, hsA, hac⟩ := Zx.row
  have ha1 : A.length ≤ 1000000 := hA.out.1
  have hn1 : nl ≤ 1000000 := by rw [← hl.out]; exact hm.out.1
  obtain ⟨w1, hw1⟩ : ∃ w1, w1 = w.alloc (.cells #[.slice na nl nc, .int .u16 (t : Int), .int .u16 1, .int .u32 (ttl : Int), .slice da d.length dc] 39) := ⟨_, rfl⟩
  have hb1 : Below w.heap.size w w1 := by rw [hw1]; exact (Below.refl _ w).alloc (Nat.le_refl _) _
  have hR1 : RowAt w1 w.heap.size 39 #[.slice na nl nc, .int .u16 (t : Int), .int .u16 1, .int .u32 (ttl : Int), .slice da d.length dc] := by rw [hw1]; exact RowAt.new w _ _
  have hz1 : RowAt w1 Zb 83 #[.slice aa A.length ac, ptr (nodeN G []), .int .i64 (L.length : Int)] := hzr.below hb1 hzr.lt
  have x0 : w1.cell? ⟨w.heap.size, 0, none⟩ = some (.slice na nl nc) := hR1.cell 0
  have x1 : w1.cell? ⟨Zb, 0, none⟩ = some (.slice aa A.length ac) := hz1.cell 0
  have HZ := hide Zx
  have HW1 := hide hw1
  have HB1 := hide hb1
  have HR1 := hide hR1
  have HZ1 := hide hz1
  have HS := hide (hs.below hb1 (Nat.le_refl _))
  have HSA := hide (hsA.below hb1 (Nat.le_refl _))
  have HSD := hide (hsd.below hb1 (Nat.le_refl _))
  clear Zx hzr hw1 hb1 hR1 hz1 hs hsA hsd
  unfold recV
  go_enter Tryz.func36, Tryz.ntmps36
  go_wp2
  rw [← HW1.out]
  go_quiet (first
    | (go_at_call 61; exact Calls.quiet_of_same (hchk _ (by exact HS.out.below (below_drewN (Below.refl _ w1) _) (Nat.le_refl _))))
    | (go_at_call 62; exact Calls.quiet_of (hwith _ aa ac (by exact HS.out.below (below_drewN (Below.refl _ w1) _) (Nat.le_refl _)) (by exact HSA.out.below (below_drewN (Below.refl _ w1) _) (Nat.le_refl _))))
    | fail)
  have hbq : Below w1.heap.size w1 (w1.drewN nq) := below_drewN (Below.refl _ w1) _
  have y1 : (w1.drewN nq).cell? ⟨w.heap.size, 1, none⟩ = some (.int .u16 (t : Int)) := HR1.out.cell 1
  have y4 : (w1.drewN nq).cell? ⟨w.heap.size, 4, none⟩ = some (.slice da d.length dc) := HR1.out.cell 4
  have HBQ := hide hbq
  have HSDq := hide (HSD.out.below hbq (Nat.le_refl _))
  clear hbq
  go_wp2_with (first
    | (go_at_call 63; refine (Canon_any t d da d.length dc _ rfl (by exact HSDq.out) hdc hnd).mono ?_; rintro e w2 ⟨⟨x, v, ho, rfl, hx⟩ | ⟨ho, rfl⟩, hb2⟩; rotate_left; (· exact absurd (hcn.symm.trans ho) (by simp)); (obtain rfl : c = x := Option.some.inj (hcn.symm.trans ho)); obtain ⟨ca, cc, rfl, hcT, _, hcc⟩ := OwnB.ty hx; have z2 : w2.cell? ⟨w.heap.size, 2, none⟩ = some (.int .u16 1) := (HR1.out.below (HBQ.out.trans (hb2.mono HBQ.out.size)) HR1.out.lt).cell 2))
  obtain ⟨hclen, hd8, hcc0⟩ := cn_len hcn
  have HCL := hide hclen
  have HCC := hide hcc0
  clear hclen hcc0
  have hb12 : Below w1.heap.size w1 w2 := HBQ.out.trans (hb2.mono HBQ.out.size)
  have hb02 : Below w.heap.size w w2 := HB1.out.trans (hb12.mono HB1.out.size)
  have hR2 : RowAt w2 w.heap.size 39 #[.slice na nl nc, .int .u16 (t : Int), .int .u16 1, .int .u32 (ttl : Int), .slice da d.length dc] := HR1.out.below hb12 HR1.out.lt
  have hZ2 : RowAt w2 Zb 83 #[.slice aa A.length ac, ptr (nodeN G []), .int .i64 (L.length : Int)] := HZ1.out.below hb12 HZ1.out.lt
  have hT2 := HZ.out.tree.below_ hb02
  have hs2 := HS.out.below hb12 (Nat.le_refl _)
  have hsd2 := HSD.out.below hb12 (Nat.le_refl _)
  have hfind : ∀ W, Below w2.heap.size w2 W → Calls Tryz.prog 51 #[.pointer (some ⟨Zb, 0, none⟩), .slice na nl nc] W fun e w' => ∃ x : Nd, e = .returned (.pointer (some ⟨x.n, 0, none⟩)) ∧ Found W w' G C K (path n) x := fun W hW =>
    find_any W Zb _ _ ρ G C K (hT2.below_ hW) (hZ2.below hW hZ2.lt) n na nl nc hl (hs2.below hW (Nat.le_refl _)) hm
  have y0 : w2.drew.cell? ⟨w.heap.size, 0, none⟩ = some (.slice na nl nc) := hR2.cell 0
  have y1' : w2.drew.cell? ⟨w.heap.size, 1, none⟩ = some (.int .u16 (t : Int)) := hR2.cell 1
  have HR2 := hide hR2
  have HZ2 := hide hZ2
  have HT2 := hide hT2
  have HS2 := hide hs2
  have HSD2 := hide hsd2
  have HCT := hide hcT
  have HB02 := hide hb02
  have HB12 := hide hb12
  obtain ⟨T0, hT0⟩ : ∃ T0 : Nat, T0 = ((C (path n) t).map fun S => S.ttl).getD 0 := ⟨_, rfl⟩
  have HT0 := hide hT0
  have kp : ∀ (W : World) (g : Nat), g < w2.heap.size → Below w2.heap.size w2 W → ∀ j, W.cell? ⟨g, j, none⟩ = w2.cell? ⟨g, j, none⟩ := fun W g hg hW j => World.cell?_of_block (hW.block g hg)
  have hlt2 : w.heap.size < w2.heap.size := hR2.lt
  clear hT0 hR2 hZ2 hT2 hs2 hsd2 hcT hb02 hb12 hx y1 y4 x0 x1 z2
  have b0 : w2.cell? ⟨w.heap.size, 0, none⟩ = some (.slice na nl nc) := y0
  have b1 : w2.cell? ⟨w.heap.size, 1, none⟩ = some (.int .u16 (t : Int)) := y1'
  have a0 : (w2.alloc (.cells #[.int .u32 0, .map none] 91)).cell? ⟨w.heap.size, 0, none⟩ = some (.slice na nl nc) := (RowAt.alloc HR2.out _).cell 0
  have a1 : (w2.alloc (.cells #[.int .u32 0, .map none] 91)).cell? ⟨w.heap.size, 1, none⟩ = some (.int .u16 (t : Int)) := (RowAt.alloc HR2.out _).cell 1
  go_cut [8] from 39 (fun s8 wc => ∃ (sb : Nat) (mo : Option Nat), s8 = .pointer (some ⟨sb, 0, none⟩) ∧ PB w2 T0 K (Z.got C (path n) t) sb mo wc)
  case first =>
    go_region_with ((go_at_call 51; refine (hfind _ (by first | exact below_drewN (Below.refl _ w2) 1 | exact (below_drewN (Below.refl _ w2) 1).alloc (Nat.le_refl _) _)).mono ?_; rintro e w3 ⟨x, rfl, hF⟩; obtain ⟨mo, hmo⟩ : ∃ mo, ((C (path n) t).map fun S => setV S (x.dm t)).getD (.agg #[.int .u32 0, .map none]) = .agg #[.int .u32 (T0 : Int), .map mo] := (by rw [HT0.out]; cases C (path n) t; exact ⟨none, rfl⟩; exact ⟨_, rfl⟩); have hb3 : Below w2.heap.size w2 w3 := (by first | exact (below_drewN (Below.refl _ w2) 1).trans hF.bel | exact ((below_drewN (Below.refl _ w2) 1).alloc (Nat.le_refl _) _).trans (hF.bel.mono (by simp))); have hb3z := (hb3.alloc hb3.size (.cells #[.int .u32 0, .map none] 91)); have hlk := (hF.node.lookup t ht w3 rfl).2; have hlkz := (hF.node.lookup t ht (w3.alloc (.cells #[.int .u32 0, .map none] 91)) (Below.heap_alloc _ _ _ hF.node.sets.lt)).2; rw [hmo] at hlk hlkz; have q0 : w3.cell? ⟨x.n, 0, none⟩ = some (.map (some x.s)) := hF.node.row.cell 0; have q0z : (w3.alloc (.cells #[.int .u32 0, .map none] 91)).cell? ⟨x.n, 0, none⟩ = some (.map (some x.s)) := (hF.node.row.alloc _).cell 0; have r0 : w3.cell? ⟨w.heap.size, 0, none⟩ = some (.slice na nl nc) := (kp w3 _ hlt2 hb3 0).trans y0; have r1 : w3.cell? ⟨w.heap.size, 1, none⟩ = some (.int .u16 (t : Int)) := (kp w3 _ hlt2 hb3 1).trans y1'; have r0z : (w3.alloc (.cells #[.int .u32 0, .map none] 91)).cell? ⟨w.heap.size, 0, none⟩ = some (.slice na nl nc) := (kp _ _ hlt2 hb3z 0).trans y0; have r1z : (w3.alloc (.cells #[.int .u32 0, .map none] 91)).cell? ⟨w.heap.size, 1, none⟩ = some (.int .u16 (t : Int)) := (kp _ _ hlt2 hb3z 1).trans y1'; (try (have hbA : Below (w2.alloc (.cells #[.int .u32 0, .map none] 91)).heap.size (w2.alloc (.cells #[.int .u32 0, .map none] 91)).drew w3 := (by exact hF.bel); have RN : Hid (RowAt w3 w2.heap.size 91 #[.int .u32 0, .map none]) := RowAt.below (w := (w2.alloc (.cells #[.int .u32 0, .map none] 91)).drew) (RowAt.new w2 91 #[.int .u32 0, .map none]) hbA (by simp); have n0 : w3.cell? ⟨w2.heap.size, 0, none⟩ = some (.int .u32 0) := RN.out.cell 0; have n1 := RN.out.frozen 0; have n2 : w3.cell? ⟨w2.heap.size, 1, none⟩ = some (.map none) := RN.out.cell 1; have n3 := RN.out.frozen 1)); have HF := hide hF; have HB3 := hide hb3; have HMO := hide hmo; clear hF hb3 hb3z hmo))
    all_goals go_wp2_with fail
    all_goals go_meet
    all_goals (first
      | exact ⟨w3.heap.size, mo, rfl, HB3.out.alloc HB3.out.size _, RowAt.new w3 _ _, HB3.out.size, (HF.out.dm t T0 mo HMO.out).bel ((Below.refl _ w3).alloc (Nat.le_refl _) _)⟩
      | exact ⟨w2.heap.size, mo, rfl, (HB3.out.setCell (p := ⟨w2.heap.size, 0, none⟩) (Nat.le_refl _) _).setCell (p := ⟨w2.heap.size, 1, none⟩) (Nat.le_refl _) _, (RN.out.set 0 _).set 1 _, Nat.le_refl _, ((HF.out.dm t T0 mo HMO.out).box RN.out 0 _).box (RN.out.set 0 (.int .u32 (T0 : Int))) 1 _⟩
      | skip)
  case rest =>
    obtain ⟨sb, mo, rfl, hPB⟩ := hcut
    obtain ⟨wd, hwd⟩ : ∃ wd, wd = wc.alloc (.cells #[.int .u32 (T0 : Int), .map mo] 91) := ⟨_, rfl⟩
    have hb2d : Below w2.heap.size w2 wd := by rw [hwd]; exact hPB.bel.alloc hPB.bel.size _
    have hb0d : Below w.heap.size w wd := HB02.out.trans (hb2d.mono HB02.out.size)
    have k0 : wc.cell? ⟨sb, 0, none⟩ = some (.int .u32 (T0 : Int)) := hPB.box.cell 0
    have k1 : wc.cell? ⟨sb, 1, none⟩ = some (.map mo) := hPB.box.cell 1
    have hbxd : RowAt wd sb 91 #[.int .u32 (T0 : Int), .map mo] := by rw [hwd]; exact hPB.box.alloc _
    have k0d : wd.cell? ⟨sb, 0, none⟩ = some (.int .u32 (T0 : Int)) := hbxd.cell 0
    have hRd := HR2.out.below hb2d HR2.out.lt
    have hZd := HZ2.out.below hb2d HZ2.out.lt
    have r3d : wd.cell? ⟨w.heap.size, 3, none⟩ = some (.int .u32 (ttl : Int)) := hRd.cell 3
    have q2d : wd.cell? ⟨Zb, 2, none⟩ = some (.int .i64 (L.length : Int)) := hZd.cell 2
    have f2d : wd.frozen? ⟨Zb, 2, none⟩ = false := hZd.frozen 2
    have hscc := (HCT.out.kb (KB.of_below hPB.bel)).1
    have hhas := has_any wc (T0 : Int) mo (Z.got C (path n) t) K hPB.dm c ca c.length cc rfl hscc (by have := HCL.out; omega)
    rw [← hwd] at hhas
    have HPB := hide hPB
    have HWD := hide hwd
    have HB2D := hide hb2d
    have HB0D := hide hb0d
    have HRD := hide hRd
    have HZD := hide hZd
    clear hPB hwd hb2d hb0d hRd hZd hscc hbxd a0 a1 b0 b1 y0 y1'
    cases hgot : Z.got C (path n) t c with
    | some d0 =>
      rw [hgot] at hhas
      by_cases htt : T0 = ttl
      · have htb : ((T0 : Int) == (ttl : Int)) = true := by simp [htt]
        have HTT := hide htt
        clear htt
        go_wp2_with (go_at_call 64; refine hhas.mono ?_; rintro e wq ⟨he, hwq⟩; have he : e = .returned (.bool true) := he; rw [he, hwq]; clear he hwq wq)
        go_ret2
        unfold PutPost
        exact ⟨false, 0, rfl, Or.inl ⟨rfl, HB0D.out, Or.inl ⟨rfl, by rw [hgot]; rfl, by rw [← HT0.out]; exact HTT.out⟩⟩⟩
      · have htb : ((T0 : Int) == (ttl : Int)) = false := by simp; omega
        go_wp2_with (go_at_call 64; refine hhas.mono ?_; rintro e wq ⟨he, hwq⟩; have he : e = .returned (.bool true) := he; rw [he, hwq]; clear he hwq wq)
        have hmE : ZM Zb ρ w wd := ZM.of_below HB0D.out
        obtain ⟨we, hwe⟩ : ∃ we, we = wd := ⟨_, rfl⟩
        rw [← hwe] at hmE
        have hRe : RowAt we w.heap.size 39 #[.slice na nl nc, .int .u16 (t : Int), .int .u16 1, .int .u32 (ttl : Int), .slice da d.length dc] := by rw [hwe]; exact HRD.out
        have hZe : RowAt we Zb 83 #[.slice aa A.length ac, ptr (nodeN G []), .int .i64 ((L.length : Nat) : Int)] := by rw [hwe]; exact HZD.out
        have hTd := HZ.out.tree.below_ HB0D.out
        have hTe : TreeAt we ρ G C K := by rw [hwe]; exact hTd
        have hsn : SlS we na n := by rw [hwe]; exact HS2.out.below HB2D.out (Nat.le_refl _)
        have hsd' : SlL we da d := by rw [hwe]; exact HSD2.out.below HB2D.out (Nat.le_refl _)
        have hsc' : SlL we ca c := by rw [hwe]; exact (HCT.out.kb (KB.of_below HB2D.out)).1
        have hsa' : SlS we aa A := by rw [hwe]; exact ((HSA.out.below HB12.out (Nat.le_refl _)).below HB2D.out (Nat.le_refl _))
        have hgr := grow_any we.drew Zb _ _ ρ G C K (hTe.below_ (below_drewN (Below.refl _ we) 1)) hZe n na nl nc hl (hsn.below (below_drewN (Below.refl _ we) 1) (Nat.le_refl _)) hm (by omega)
        have e0 : we.drew.cell? ⟨w.heap.size, 0, none⟩ = some (.slice na nl nc) := hRe.cell 0
        have e1 : we.drew.cell? ⟨w.heap.size, 1, none⟩ = some (.int .u16 (t : Int)) := hRe.cell 1
        have e2 : we.drew.cell? ⟨w.heap.size, 2, none⟩ = some (.int .u16 1) := hRe.cell 2
        have e3 : we.drew.cell? ⟨w.heap.size, 3, none⟩ = some (.int .u32 (ttl : Int)) := hRe.cell 3
        have e4 : we.drew.cell? ⟨w.heap.size, 4, none⟩ = some (.slice da d.length dc) := hRe.cell 4
        have HRE := hide hRe
        have HZE := hide hZe
        have HTE := hide hTe
        have HSD3 := hide hsd'
        have HSC3 := hide hsc'
        have HSA3 := hide hsa'
        have HME := hide hmE
        have hrr : ρ w.heap.size = .none := Classical.byContradiction fun h => by have := (HZ.out.tree.kind _ h).lt; omega
        rw [← hwe]
        clear hwe hRe hZe hTe hTd hsn hsd' hsc' hsa' hmE k0 k0d r3d q2d f2d k1 hhas
        go_region_held3 (fun w' => w'.cell? ⟨w.heap.size, 0, none⟩ = some (.slice na nl nc) ∧ w'.cell? ⟨w.heap.size, 1, none⟩ = some (.int .u16 (t : Int)) ∧ w'.cell? ⟨w.heap.size, 2, none⟩ = some (.int .u16 1) ∧ w'.cell? ⟨w.heap.size, 3, none⟩ = some (.int .u32 (ttl : Int)) ∧ w'.cell? ⟨w.heap.size, 4, none⟩ = some (.slice da d.length dc)) (first | exact ⟨e0, e1, e2, e3, e4⟩ | exact ⟨g0, g1, g2, g3, g4⟩ | exact ⟨h0', h1', h2', h3', h4'⟩ | fail) (first | (go_at_call 65; refine hgr.mono ?_; rintro e w8 ⟨v, rfl, ρ1, G1, x1, rfl, hx1, hT1, hg1, hall⟩; have hR8 : RowAt w8 w.heap.size 39 #[.slice na nl nc, .int .u16 (t : Int), .int .u16 1, .int .u32 (ttl : Int), .slice da d.length dc] := (hg1.mv.block _ HRE.out.lt hrr).trans HRE.out; have g0 : w8.cell? ⟨w.heap.size, 0, none⟩ = some (.slice na nl nc) := hR8.cell 0; have g1 : w8.cell? ⟨w.heap.size, 1, none⟩ = some (.int .u16 (t : Int)) := hR8.cell 1; have g2 : w8.cell? ⟨w.heap.size, 2, none⟩ = some (.int .u16 1) := hR8.cell 2; have g3 : w8.cell? ⟨w.heap.size, 3, none⟩ = some (.int .u32 (ttl : Int)) := hR8.cell 3; have g4 : w8.cell? ⟨w.heap.size, 4, none⟩ = some (.slice da d.length dc) := hR8.cell 4; have hpu := nput_any w8 hT1 (by omega) hx1 t ht ttl 1 c d na nl nc da dc ca cc (hg1.mv.slL (HTE.out.below_ (below_drewN (Below.refl _ we) 1)).kind (HSD3.out.below (below_drewN (Below.refl _ we) 1) (Nat.le_refl _))) hnd hd8 (hg1.mv.slL (HTE.out.below_ (below_drewN (Below.refl _ we) 1)).kind (HSC3.out.below (below_drewN (Below.refl _ we) 1) (Nat.le_refl _))) (by have := HCL.out; omega); have HR8 := hide hR8; have HX1 := hide hx1; have HG1 := hide hg1; have HALL := hide hall; clear hR8 hx1 hT1 hg1 hall) | (go_at_call 66; unfold recV at hpu; refine hpu.mono ?_; rintro e w9 ⟨rfl, ρ2, x2, hT2, _, _, _, hg2⟩; have hrr1 : ρ1 w.heap.size = .none := (by rw [HG1.out.more _ HRE.out.lt]; exact hrr); have hR9 : RowAt w9 w.heap.size 39 #[.slice na nl nc, .int .u16 (t : Int), .int .u16 1, .int .u32 (ttl : Int), .slice da d.length dc] := (hg2.mv.block _ HR8.out.lt hrr1).trans HR8.out; have h0' : w9.cell? ⟨w.heap.size, 0, none⟩ = some (.slice na nl nc) := hR9.cell 0; have h1' : w9.cell? ⟨w.heap.size, 1, none⟩ = some (.int .u16 (t : Int)) := hR9.cell 1; have h2' : w9.cell? ⟨w.heap.size, 2, none⟩ = some (.int .u16 1) := hR9.cell 2; have h3' : w9.cell? ⟨w.heap.size, 3, none⟩ = some (.int .u32 (ttl : Int)) := hR9.cell 3; have h4' : w9.cell? ⟨w.heap.size, 4, none⟩ = some (.slice da d.length dc) := hR9.cell 4; have HT2' := hide hT2; have HG2 := hide hg2; clear hT2 hg2) | fail)
        go_wp2
        go_ret2
        unfold PutPost
        have hth := HZ.out.of.got_there ⟨path n, t, c, ttl, d⟩
        have hlen := Z.put_len L ⟨path n, t, c, ttl, d⟩
        have hth1 : Z.there L ⟨path n, t, c, ttl, d⟩ = true := by rw [← hth]; show (Z.got C (path n) t c).isSome = true; rw [hgot]; rfl
        rw [if_pos hth1] at hlen
        have hfin := HZ.out.put ⟨path n, t, c, ttl, d⟩ (path_low n) ⟨ht, httl, hcn, hd8, by show (path n).length ≤ 128; rw [path_len, hl.out]; exact hnl⟩ (by rw [hlen]; have := HZ.out.num; omega) (HME.out.trans (ZM.of_below (ρ := ρ) (below_drewN (Below.refl _ we) 1)) (More.refl _ _)) (HTE.out.below_ (below_drewN (Below.refl _ we) 1)).kind (by rw [hlen]; exact HZE.out) (HSA3.out.below (below_drewN (Below.refl _ we) 1) (Nat.le_refl _)) hac HG1.out HX1.out HALL.out HT2'.out HG2.out
        exact ⟨true, 0, rfl, Or.inr ⟨rfl, rfl, (fun h => htt (HT0.out.trans h.2)), (fun h => by have := h.1; rw [hgot] at this; cases this), ρ2, _, hfin⟩⟩
    | none =>
      rw [hgot] at hhas
      by_cases hfull : 2000 ≤ L.length
      · have hfb : (2000 : Int) ≤ (L.length : Int) := by omega
        go_wp2_with (go_at_call 64; refine hhas.mono ?_; rintro e wq ⟨he, hwq⟩; have he : e = .returned (.bool false) := he; rw [he, hwq]; clear he hwq wq)
        go_ret2
        unfold PutPost
        exact ⟨false, 111, rfl, Or.inl ⟨rfl, HB0D.out, Or.inr ⟨rfl, hgot, hfull⟩⟩⟩
      · have hfb : ¬ (2000 : Int) ≤ (L.length : Int) := by omega
        have hwl : IntKind.i64.wrap ((L.length : Int) + 1) = ((L.length + 1 : Nat) : Int) := by rw [IntKind.wrap_i64]; omega
        go_wp2_with (go_at_call 64; refine hhas.mono ?_; rintro e wq ⟨he, hwq⟩; have he : e = .returned (.bool false) := he; rw [he, hwq]; clear he hwq wq)
        have hmE : ZM Zb ρ w (wd.setCell ⟨Zb, 2, none⟩ (.int .i64 ((L.length : Int) + 1))) := (ZM.of_below HB0D.out).trans (ZM.count HZD.out) (More.refl _ _)
        obtain ⟨we, hwe⟩ : ∃ we, we = (wd.setCell ⟨Zb, 2, none⟩ (.int .i64 ((L.length : Int) + 1))) := ⟨_, rfl⟩
        rw [← hwe] at hmE
        have hRe : RowAt we w.heap.size 39 #[.slice na nl nc, .int .u16 (t : Int), .int .u16 1, .int .u32 (ttl : Int), .slice da d.length dc] := by rw [hwe]; exact HRD.out.other _ _ (by have := HZ.out.lt; show w.heap.size ≠ Zb; omega)
        have hZe : RowAt we Zb 83 #[.slice aa A.length ac, ptr (nodeN G []), .int .i64 (((L.length + 1) : Nat) : Int)] := by rw [hwe]; exact HZD.out.set 2 _
        have hTd := HZ.out.tree.below_ HB0D.out
        have hTe : TreeAt we ρ G C K := by rw [hwe]; exact hTd.keep (fun i hi => heap_setCell_other _ _ _ _ (fun e => hi (by rw [e]; exact HZ.out.zr))) (fun _ _ hs => slL_zm (ρ := ρ) (ZM.count HZD.out) hTd.kind HZD.out hs)
        have hsn : SlS we na n := by rw [hwe]; exact slS_zm (ρ := ρ) (ZM.count HZD.out) hTd.kind HZD.out (HS2.out.below HB2D.out (Nat.le_refl _))
        have hsd' : SlL we da d := by rw [hwe]; exact slL_zm (ρ := ρ) (ZM.count HZD.out) hTd.kind HZD.out (HSD2.out.below HB2D.out (Nat.le_refl _))
        have hsc' : SlL we ca c := by rw [hwe]; exact slL_zm (ρ := ρ) (ZM.count HZD.out) hTd.kind HZD.out (HCT.out.kb (KB.of_below HB2D.out)).1
        have hsa' : SlS we aa A := by rw [hwe]; exact slS_zm (ρ := ρ) (ZM.count HZD.out) hTd.kind HZD.out ((HSA.out.below HB12.out (Nat.le_refl _)).below HB2D.out (Nat.le_refl _))
        have hgr := grow_any we.drew Zb _ _ ρ G C K (hTe.below_ (below_drewN (Below.refl _ we) 1)) hZe n na nl nc hl (hsn.below (below_drewN (Below.refl _ we) 1) (Nat.le_refl _)) hm (by omega)
        have e0 : we.drew.cell? ⟨w.heap.size, 0, none⟩ = some (.slice na nl nc) := hRe.cell 0
        have e1 : we.drew.cell? ⟨w.heap.size, 1, none⟩ = some (.int .u16 (t : Int)) := hRe.cell 1
        have e2 : we.drew.cell? ⟨w.heap.size, 2, none⟩ = some (.int .u16 1) := hRe.cell 2
        have e3 : we.drew.cell? ⟨w.heap.size, 3, none⟩ = some (.int .u32 (ttl : Int)) := hRe.cell 3
        have e4 : we.drew.cell? ⟨w.heap.size, 4, none⟩ = some (.slice da d.length dc) := hRe.cell 4
        have HRE := hide hRe
        have HZE := hide hZe
        have HTE := hide hTe
        have HSD3 := hide hsd'
        have HSC3 := hide hsc'
        have HSA3 := hide hsa'
        have HME := hide hmE
        have hrr : ρ w.heap.size = .none := Classical.byContradiction fun h => by have := (HZ.out.tree.kind _ h).lt; omega
        rw [← hwe]
        clear hwe hRe hZe hTe hTd hsn hsd' hsc' hsa' hmE k0 k0d r3d q2d f2d k1 hhas
        go_region_held3 (fun w' => w'.cell? ⟨w.heap.size, 0, none⟩ = some (.slice na nl nc) ∧ w'.cell? ⟨w.heap.size, 1, none⟩ = some (.int .u16 (t : Int)) ∧ w'.cell? ⟨w.heap.size, 2, none⟩ = some (.int .u16 1) ∧ w'.cell? ⟨w.heap.size, 3, none⟩ = some (.int .u32 (ttl : Int)) ∧ w'.cell? ⟨w.heap.size, 4, none⟩ = some (.slice da d.length dc)) (first | exact ⟨e0, e1, e2, e3, e4⟩ | exact ⟨g0, g1, g2, g3, g4⟩ | exact ⟨h0', h1', h2', h3', h4'⟩ | fail) (first | (go_at_call 65; refine hgr.mono ?_; rintro e w8 ⟨v, rfl, ρ1, G1, x1, rfl, hx1, hT1, hg1, hall⟩; have hR8 : RowAt w8 w.heap.size 39 #[.slice na nl nc, .int .u16 (t : Int), .int .u16 1, .int .u32 (ttl : Int), .slice da d.length dc] := (hg1.mv.block _ HRE.out.lt hrr).trans HRE.out; have g0 : w8.cell? ⟨w.heap.size, 0, none⟩ = some (.slice na nl nc) := hR8.cell 0; have g1 : w8.cell? ⟨w.heap.size, 1, none⟩ = some (.int .u16 (t : Int)) := hR8.cell 1; have g2 : w8.cell? ⟨w.heap.size, 2, none⟩ = some (.int .u16 1) := hR8.cell 2; have g3 : w8.cell? ⟨w.heap.size, 3, none⟩ = some (.int .u32 (ttl : Int)) := hR8.cell 3; have g4 : w8.cell? ⟨w.heap.size, 4, none⟩ = some (.slice da d.length dc) := hR8.cell 4; have hpu := nput_any w8 hT1 (by omega) hx1 t ht ttl 1 c d na nl nc da dc ca cc (hg1.mv.slL (HTE.out.below_ (below_drewN (Below.refl _ we) 1)).kind (HSD3.out.below (below_drewN (Below.refl _ we) 1) (Nat.le_refl _))) hnd hd8 (hg1.mv.slL (HTE.out.below_ (below_drewN (Below.refl _ we) 1)).kind (HSC3.out.below (below_drewN (Below.refl _ we) 1) (Nat.le_refl _))) (by have := HCL.out; omega); have HR8 := hide hR8; have HX1 := hide hx1; have HG1 := hide hg1; have HALL := hide hall; clear hR8 hx1 hT1 hg1 hall) | (go_at_call 66; unfold recV at hpu; refine hpu.mono ?_; rintro e w9 ⟨rfl, ρ2, x2, hT2, _, _, _, hg2⟩; have hrr1 : ρ1 w.heap.size = .none := (by rw [HG1.out.more _ HRE.out.lt]; exact hrr); have hR9 : RowAt w9 w.heap.size 39 #[.slice na nl nc, .int .u16 (t : Int), .int .u16 1, .int .u32 (ttl : Int), .slice da d.length dc] := (hg2.mv.block _ HR8.out.lt hrr1).trans HR8.out; have h0' : w9.cell? ⟨w.heap.size, 0, none⟩ = some (.slice na nl nc) := hR9.cell 0; have h1' : w9.cell? ⟨w.heap.size, 1, none⟩ = some (.int .u16 (t : Int)) := hR9.cell 1; have h2' : w9.cell? ⟨w.heap.size, 2, none⟩ = some (.int .u16 1) := hR9.cell 2; have h3' : w9.cell? ⟨w.heap.size, 3, none⟩ = some (.int .u32 (ttl : Int)) := hR9.cell 3; have h4' : w9.cell? ⟨w.heap.size, 4, none⟩ = some (.slice da d.length dc) := hR9.cell 4; have HT2' := hide hT2; have HG2 := hide hg2; clear hT2 hg2) | fail)
        go_wp2
        go_ret2
        unfold PutPost
        have hth := HZ.out.of.got_there ⟨path n, t, c, ttl, d⟩
        have hlen := Z.put_len L ⟨path n, t, c, ttl, d⟩
        have hth1 : ¬ Z.there L ⟨path n, t, c, ttl, d⟩ = true := by rw [← hth]; show ¬ (Z.got C (path n) t c).isSome = true; rw [hgot]; simp
        rw [if_neg hth1] at hlen
        have hfin := HZ.out.put ⟨path n, t, c, ttl, d⟩ (path_low n) ⟨ht, httl, hcn, hd8, by show (path n).length ≤ 128; rw [path_len, hl.out]; exact hnl⟩ (by rw [hlen]; have := HZ.out.num; omega) (HME.out.trans (ZM.of_below (ρ := ρ) (below_drewN (Below.refl _ we) 1)) (More.refl _ _)) (HTE.out.below_ (below_drewN (Below.refl _ we) 1)).kind (by rw [hlen]; exact HZE.out) (HSA3.out.below (below_drewN (Below.refl _ we) 1) (Nat.le_refl _)) hac HG1.out HX1.out HALL.out HT2'.out HG2.out
        exact ⟨true, 0, rfl, Or.inr ⟨rfl, rfl, (fun h => by have := h.1; rw [hgot] at this; cases this), (fun h => hfull h.2), ρ2, _, hfin⟩⟩
end Go.Proofs.YtdldaphkiphpnaaGreat
