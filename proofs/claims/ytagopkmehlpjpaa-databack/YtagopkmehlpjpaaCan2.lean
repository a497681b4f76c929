/- rdata.takeCanon, takeTarget: one theorem for each kind of data, then for all. -/
import Derived.Test.YtagopkmehlpjpaaCan1
namespace Go.Proofs.Ytagopkmehlpjpaa
open Go.RowKit
set_option maxRecDepth 5000 in
theorem OwnB.slOf {w : World} {base : Nat} {ao : Option Addr} {c : Nat} {n : List UInt8} (h : OwnB w base (.slice ao n.length c) n) : SlL w ao n ∧ (ao = none → c = 0) := by
  obtain ⟨_, _, e, hs, hn, _⟩ := h.open
  cases e; exact ⟨hs, hn⟩
set_option maxRecDepth 5000 in
theorem OwnH.slOf {w : World} {base : Nat} {ao : Option Addr} {c : Nat} {n : List UInt16} (h : OwnH w base (.slice ao n.length c) n) : SlH w ao n ∧ (ao = none → c = 0) := by
  obtain ⟨_, _, e, hs, hn, _⟩ := h.open
  cases e; exact ⟨hs, hn⟩
set_option maxHeartbeats 400000 in
set_option maxRecDepth 5000 in
theorem canon_1 (B T : Nat) (l : List UInt8) (w : World) (hR : Rdr B T l w) :
    Calls Try.prog 41 #[.pointer (some ⟨T, 0, none⟩), .int .u16 1] w fun e w' => Got B T (D.by_ 4 l) (fun x v w' => OwnB w' w.heap.size v x) w e w' := by
  go_enter Try.func41, Try.ntmps41
  go_wp2_with fail
  refine (rbytes_any B T 4 l _ hR (by omega)).mono ?_
  rintro e w1 ⟨⟨x, r, v, ho, rfl, hx, hr⟩ | ⟨ho, rfl⟩, hm⟩
  · go_wp2
    go_ret
    exact ⟨Or.inl ⟨x, r, v, ho, rfl, hx, hr⟩, hm⟩
  · unfold fell50
    go_wp2
    exact ⟨rfl, Or.inr ⟨ho, rfl⟩, hm⟩
set_option maxHeartbeats 400000 in
set_option maxRecDepth 5000 in
theorem canon_28 (B T : Nat) (l : List UInt8) (w : World) (hR : Rdr B T l w) :
    Calls Try.prog 41 #[.pointer (some ⟨T, 0, none⟩), .int .u16 28] w fun e w' => Got B T (D.by_ 16 l) (fun x v w' => OwnB w' w.heap.size v x) w e w' := by
  go_enter Try.func41, Try.ntmps41
  go_wp2_with fail
  refine (rbytes_any B T 16 l _ hR (by omega)).mono ?_
  rintro e w1 ⟨⟨x, r, v, ho, rfl, hx, hr⟩ | ⟨ho, rfl⟩, hm⟩
  · go_wp2
    go_ret
    exact ⟨Or.inl ⟨x, r, v, ho, rfl, hx, hr⟩, hm⟩
  · unfold fell50
    go_wp2
    exact ⟨rfl, Or.inr ⟨ho, rfl⟩, hm⟩
set_option maxHeartbeats 400000 in
set_option maxRecDepth 5000 in
theorem canon_2 (B T : Nat) (l : List UInt8) (w : World) (hR : Rdr B T l w) :
    Calls Try.prog 41 #[.pointer (some ⟨T, 0, none⟩), .int .u16 2] w fun e w' => Got B T (D.small l) (fun x v w' => OwnB w' w.heap.size v x) w e w' := by
  go_enter Try.func41, Try.ntmps41
  go_wp2_with fail
  refine (smallName_any B T l _ hR).mono ?_
  rintro e w1 ⟨⟨x, r, v, ho, rfl, hx, hr⟩ | ⟨ho, rfl⟩, hm⟩
  · go_wp2
    go_ret
    exact ⟨Or.inl ⟨x, r, v, ho, rfl, hx, hr⟩, hm⟩
  · unfold fell50
    go_wp2
    exact ⟨rfl, Or.inr ⟨ho, rfl⟩, hm⟩
set_option maxHeartbeats 400000 in
set_option maxRecDepth 5000 in
theorem canon_5 (B T : Nat) (l : List UInt8) (w : World) (hR : Rdr B T l w) :
    Calls Try.prog 41 #[.pointer (some ⟨T, 0, none⟩), .int .u16 5] w fun e w' => Got B T (D.small l) (fun x v w' => OwnB w' w.heap.size v x) w e w' := by
  go_enter Try.func41, Try.ntmps41
  go_wp2_with fail
  refine (smallName_any B T l _ hR).mono ?_
  rintro e w1 ⟨⟨x, r, v, ho, rfl, hx, hr⟩ | ⟨ho, rfl⟩, hm⟩
  · go_wp2
    go_ret
    exact ⟨Or.inl ⟨x, r, v, ho, rfl, hx, hr⟩, hm⟩
  · unfold fell50
    go_wp2
    exact ⟨rfl, Or.inr ⟨ho, rfl⟩, hm⟩
set_option maxHeartbeats 400000 in
set_option maxRecDepth 5000 in
theorem canon_16 (B T : Nat) (l : List UInt8) (w : World) (hR : Rdr B T l w) :
    Calls Try.prog 41 #[.pointer (some ⟨T, 0, none⟩), .int .u16 16] w fun e w' => Got B T (D.txt l) (fun x v w' => OwnB w' w.heap.size v x) w e w' := by
  go_enter Try.func41, Try.ntmps41
  go_wp2_with fail
  refine (takeTexts_any B T l _ hR).mono ?_
  rintro e w1 ⟨⟨x, r, v, ho, rfl, hx, hr⟩ | ⟨ho, rfl⟩, hm⟩
  · go_wp2
    go_ret
    exact ⟨Or.inl ⟨x, r, v, ho, rfl, hx, hr⟩, hm⟩
  · unfold fell50
    go_wp2
    exact ⟨rfl, Or.inr ⟨ho, rfl⟩, hm⟩
set_option maxHeartbeats 400000 in
set_option maxRecDepth 5000 in
theorem canon_15 (B T : Nat) (l : List UInt8) (w : World) (hR : Rdr B T l w) :
    Calls Try.prog 41 #[.pointer (some ⟨T, 0, none⟩), .int .u16 15] w fun e w' => Got B T ((D.by_ 2 l).bind fun p => (D.small p.2).map fun q => (p.1 ++ q.1, q.2)) (fun x v w' => OwnB w' w.heap.size v x) w e w' := by
  go_enter Try.func41, Try.ntmps41
  go_wp2_with fail
  refine (rbytes_any B T 2 l _ hR (by omega)).mono ?_
  rintro e w1 ⟨⟨x, r, v, ho, rfl, hx, hr⟩ | ⟨ho, rfl⟩, hm⟩
  rotate_left
  · unfold fell50
    go_wp2
    exact ⟨rfl, Or.inr ⟨by rw [ho]; rfl, rfl⟩, hm⟩
  have X := hide hx
  have HO := hide ho
  have HM := hide hm
  have lx := (D.by_back ho).2
  clear hx ho hm
  go_wp2_with fail
  refine (smallName_any B T r _ hr).mono ?_
  rintro e w2 ⟨⟨x2, r2, v2, ho2, rfl, hx2, hr2⟩ | ⟨ho2, rfl⟩, hm2⟩
  rotate_left
  · unfold fell50
    go_wp2
    exact ⟨rfl, Or.inr ⟨by rw [HO.out]; simp [ho2], rfl⟩, HM.out.trans hm2⟩
  have X1 := hide (hr.ownB hm2 X.out)
  obtain ⟨a9, c9, rfl, hs9, hn9, _⟩ := hx2.open
  have S9 := hide hs9
  have N9 := hide hn9
  have M2 := hide (HM.out.trans hm2)
  have D2 := hide hr2
  have l2 : x2.length ≤ 100000 := by
    unfold D.small at ho2
    rw [Option.map_eq_some_iff] at ho2
    obtain ⟨⟨n, q⟩, h1, h2⟩ := ho2
    cases h2
    have := (D.nm_back h1).2.2.2
    show (N.wire (N.lowN n)).length ≤ 100000
    rw [N.wire_len, D.size_low]
    omega
  have z2 : w.heap.size ≤ w2.heap.size := M2.out.size
  have HO2 := hide ho2
  clear hs9 hn9 hx2 hm2 hr2 hr X HM ho2
  go_wp2_with (at_builtin; refine wpList_append_B rfl (.tmp 26) (.tmp 28) rfl w.heap.size _ x rfl (by exact X1.out) _ _ _ x2 rfl rfl (by exact S9.out) N9.out (by omega) z2 ?_; intro v6 w6 hO6 hG6; have hK6 := Kp.grown X1.out hG6 z2; clear hG6)
  go_ret
  exact ⟨Or.inl ⟨x ++ x2, r2, _, by rw [HO.out]; simp [HO2.out], rfl, hO6, D2.out.kp hK6 hR.base⟩, M2.out.kp hK6⟩
set_option maxHeartbeats 400000 in
set_option maxRecDepth 5000 in
theorem canon_43 (B T : Nat) (l : List UInt8) (w : World) (hR : Rdr B T l w) :
    Calls Try.prog 41 #[.pointer (some ⟨T, 0, none⟩), .int .u16 43] w fun e w' => Got B T ((D.by_ 5 l).map fun p => (p.1 ++ p.2, [])) (fun x v w' => OwnB w' w.heap.size v x) w e w' := by
  go_enter Try.func41, Try.ntmps41
  go_wp2_with fail
  refine (rbytes_any B T 5 l _ hR (by omega)).mono ?_
  rintro e w1 ⟨⟨x, r, v, ho, rfl, hx, hr⟩ | ⟨ho, rfl⟩, hm⟩
  rotate_left
  · unfold fell50
    go_wp2
    exact ⟨rfl, Or.inr ⟨by rw [ho]; rfl, rfl⟩, hm⟩
  have X := hide hx
  have HO := hide ho
  have HM := hide hm
  have lx := (D.by_back ho).2
  have lr := hr.len
  clear hx ho hm
  go_wp2_with fail
  refine (rothers_any B T r _ hr).mono ?_
  rintro e w2 ⟨v2, rfl, hx2, hr2, hm2⟩
  have X1 := hide (hr.ownB hm2 X.out)
  obtain ⟨a9, c9, rfl, hs9, hn9, _⟩ := hx2.open
  have S9 := hide hs9
  have N9 := hide hn9
  have M2 := hide (HM.out.trans hm2)
  have D2 := hide hr2
  have z2 : w.heap.size ≤ w2.heap.size := M2.out.size
  clear hs9 hn9 hx2 hm2 hr2 hr X HM
  go_wp2_with (at_builtin; refine wpList_append_B rfl (.tmp 43) (.tmp 45) rfl w.heap.size _ x rfl (by exact X1.out) _ _ _ r rfl rfl (by exact S9.out) N9.out (by omega) z2 ?_; intro v6 w6 hO6 hG6; have hK6 := Kp.grown X1.out hG6 z2; clear hG6)
  go_ret
  exact ⟨Or.inl ⟨x ++ r, [], _, by rw [HO.out]; rfl, rfl, hO6, D2.out.kp hK6 hR.base⟩, M2.out.kp hK6⟩
set_option maxHeartbeats 400000 in
set_option maxRecDepth 5000 in
theorem canon_51 (B T : Nat) (l : List UInt8) (w : World) (hR : Rdr B T l w) :
    Calls Try.prog 41 #[.pointer (some ⟨T, 0, none⟩), .int .u16 51] w fun e w' => Got B T ((D.by_ 4 l).bind fun p => (D.cnt p.2).map fun q => (p.1 ++ D.pc q.1, q.2)) (fun x v w' => OwnB w' w.heap.size v x) w e w' := by
  go_enter Try.func41, Try.ntmps41
  go_wp2_with fail
  refine (rbytes_any B T 4 l _ hR (by omega)).mono ?_
  rintro e w1 ⟨⟨x, r, v, ho, rfl, hx, hr⟩ | ⟨ho, rfl⟩, hm⟩
  rotate_left
  · unfold fell50
    go_wp2
    exact ⟨rfl, Or.inr ⟨by rw [ho]; rfl, rfl⟩, hm⟩
  have X := hide hx
  have HO := hide ho
  have HM := hide hm
  have lx := (D.by_back ho).2
  clear hx ho hm
  go_wp2_with fail
  refine (rcounted_any B T r _ hr).mono ?_
  rintro e w2 ⟨⟨x2, r2, v2, ho2, rfl, hx2, hr2⟩ | ⟨ho2, rfl⟩, hm2⟩
  rotate_left
  · unfold fell50
    go_wp2
    exact ⟨rfl, Or.inr ⟨by rw [HO.out]; simp [ho2], rfl⟩, HM.out.trans hm2⟩
  have X1 := hide (hr.ownB hm2 X.out)
  obtain ⟨a9, c9, rfl, hs9, hn9, _⟩ := hx2.open
  have HNE : Hid (0 < x2.length → ∀ b o, a9 = some ⟨b, o, none⟩ → some b ≠ v.ownBlock) := by
    intro hn b o' e e2
    have h1 := (X.out.blk e2).2
    have h2 := (hx2.blk (g := b) (by rw [e]; rfl)).1
    omega
  have S9 := hide hs9
  have N9 := hide hn9
  have M2 := hide (HM.out.trans hm2)
  have D2 := hide hr2
  have l2 := (D.cnt_back ho2).2
  have z2 : w.heap.size ≤ w2.heap.size := M2.out.size
  have HO2 := hide ho2
  clear hs9 hn9 hx2 hm2 hr2 hr X HM ho2
  go_wp2_with fail
  refine (appendCounted_any x2 a9 x2.length c9 w.heap.size v x _ (by exact X1.out) (by exact z2) (by omega) rfl (by exact S9.out) N9.out (by omega) (by exact HNE.out)).mono ?_
  rintro e w6 ⟨v6, rfl, hO6, hK6⟩
  go_wp2
  go_ret
  exact ⟨Or.inl ⟨x ++ D.pc x2, r2, _, by rw [HO.out]; simp [HO2.out], rfl, hO6, D2.out.kp hK6 hR.base⟩, M2.out.kp hK6⟩
set_option maxHeartbeats 400000 in
set_option maxRecDepth 5000 in
theorem canon_6 (B T : Nat) (l : List UInt8) (w : World) (hR : Rdr B T l w) :
    Calls Try.prog 41 #[.pointer (some ⟨T, 0, none⟩), .int .u16 6] w fun e w' => Got B T ((D.soa l).map fun p => (D.soaB p.1.low, p.2)) (fun x v w' => OwnB w' w.heap.size v x) w e w' := by
  go_enter Try.func41, Try.ntmps41
  go_wp2_with fail
  refine (takeSoa_any B T l _ hR).mono ?_
  rintro e w1 ⟨⟨s, r, v, ho, rfl, ⟨a1, c1, a2, c2, rfl, hO1, hO3⟩, hr⟩ | ⟨ho, rfl⟩, hm⟩
  rotate_left
  · unfold fell50
    go_wp2
    exact ⟨rfl, Or.inr ⟨by rw [ho]; rfl, rfl⟩, hm⟩
  have hk := (D.soa_back ho).2
  have S1 := hide (OwnS.sl hO1)
  have S2 := hide (OwnS.sl hO3)
  clear hO1 hO3
  have HO := hide ho
  clear ho
  go_wp2_with fail
  refine (smallSoa_any s a1 a2 s.main.length c1 s.box.length c2 _ rfl rfl (by exact S1.out) (by exact S2.out) hk).mono ?_
  rintro e w2 ⟨v2, rfl, hO2, hb2⟩
  go_wp2
  go_ret
  exact ⟨Or.inl ⟨_, r, _, by rw [HO.out]; rfl, rfl, hO2.lower hm.size, hr.below hb2⟩, hm.trans (Mv.of hb2)⟩
set_option maxHeartbeats 400000 in
set_option maxRecDepth 5000 in
theorem canon_46 (B T : Nat) (l : List UInt8) (w : World) (hR : Rdr B T l w) :
    Calls Try.prog 41 #[.pointer (some ⟨T, 0, none⟩), .int .u16 46] w fun e w' => Got B T ((D.sig l).map fun p => (D.sigB p.1.low, p.2)) (fun x v w' => OwnB w' w.heap.size v x) w e w' := by
  go_enter Try.func41, Try.ntmps41
  go_wp2_with fail
  refine (takeSig_any B T l _ hR).mono ?_
  rintro e w1 ⟨⟨s, r, v, ho, rfl, ⟨a1, c1, a2, c2, rfl, hO1, hO3⟩, hr⟩ | ⟨ho, rfl⟩, hm⟩
  rotate_left
  · unfold fell50
    go_wp2
    exact ⟨rfl, Or.inr ⟨by rw [ho]; rfl, rfl⟩, hm⟩
  obtain ⟨hl, hr0, hk⟩ := D.sig_back ho
  have hlen := hR.len
  have hsl : s.sig.length ≤ 8192 := by rw [hl] at hlen; simp only [D.sigB, List.length_append] at hlen; omega
  have S1 := hide (OwnS.sl hO1)
  have S2 := hide (OwnB.slOf hO3)
  clear hO1 hO3 hl hr0 hlen
  have HO := hide ho
  clear ho
  go_wp2_with fail
  refine (smallSig_any s a1 a2 s.signer.length c1 s.sig.length c2 _ rfl rfl (by exact S1.out) (by exact S2.out.1) S2.out.2 (by omega) hk).mono ?_
  rintro e w2 ⟨v2, rfl, hO2, hb2⟩
  go_wp2
  go_ret
  exact ⟨Or.inl ⟨_, r, _, by rw [HO.out]; rfl, rfl, hO2.lower hm.size, hr.below hb2⟩, hm.trans (Mv.of hb2)⟩
set_option maxHeartbeats 400000 in
set_option maxRecDepth 5000 in
theorem canon_48 (B T : Nat) (l : List UInt8) (w : World) (hR : Rdr B T l w) :
    Calls Try.prog 41 #[.pointer (some ⟨T, 0, none⟩), .int .u16 48] w fun e w' => Got B T ((D.key l).map fun p => (D.keyB p.1, p.2)) (fun x v w' => OwnB w' w.heap.size v x) w e w' := by
  go_enter Try.func41, Try.ntmps41
  go_wp2_with fail
  refine (takeKey_any B T l _ hR).mono ?_
  rintro e w1 ⟨⟨s, r, v, ho, rfl, ⟨a1, c1, rfl, hO1⟩, hr⟩ | ⟨ho, rfl⟩, hm⟩
  rotate_left
  · unfold fell50
    go_wp2
    exact ⟨rfl, Or.inr ⟨by rw [ho]; rfl, rfl⟩, hm⟩
  obtain ⟨hl, hr0, hk⟩ := D.key_back ho
  have hlen := hR.len
  have hsl : s.key.length ≤ 8192 := by rw [hl] at hlen; simp only [D.keyB, List.length_append] at hlen; omega
  have S1 := hide (OwnB.slOf hO1)
  clear hO1 hl hr0 hlen
  have HO := hide ho
  clear ho
  go_wp2_with fail
  refine (keyBytes_any s a1 s.key.length c1 _ hk rfl (by exact S1.out.1) S1.out.2 (by omega)).mono ?_
  rintro e w2 ⟨v2, rfl, hO2, hb2⟩
  go_wp2
  go_ret
  exact ⟨Or.inl ⟨_, r, _, by rw [HO.out]; rfl, rfl, hO2.lower hm.size, hr.below hb2⟩, hm.trans (Mv.of hb2)⟩
set_option maxHeartbeats 400000 in
set_option maxRecDepth 5000 in
theorem canon_50 (B T : Nat) (l : List UInt8) (w : World) (hR : Rdr B T l w) :
    Calls Try.prog 41 #[.pointer (some ⟨T, 0, none⟩), .int .u16 50] w fun e w' => Got B T ((D.chain l).map fun p => (D.chainB p.1, p.2)) (fun x v w' => OwnB w' w.heap.size v x) w e w' := by
  go_enter Try.func41, Try.ntmps41
  go_wp2_with fail
  refine (takeChain_any B T l _ hR).mono ?_
  rintro e w1 ⟨⟨s, r, v, ho, rfl, ⟨a1, c1, a2, c2, a3, c3, rfl, hO1, hO3, hO4⟩, hr⟩ | ⟨ho, rfl⟩, hm⟩
  rotate_left
  · unfold fell50
    go_wp2
    exact ⟨rfl, Or.inr ⟨by rw [ho]; rfl, rfl⟩, hm⟩
  obtain ⟨hl, hr0, k1, k2, k3, k4, k5, k6, k7⟩ := D.chain_back ho
  have hlen := hR.len
  obtain ⟨hbl, htl⟩ := D.chain_len ho
  have S1 := hide (OwnB.slOf hO1)
  have S2 := hide (OwnB.slOf hO3)
  have S3 := hide (OwnH.slOf hO4)
  clear hO1 hO3 hO4 hl hr0 k6
  have HO := hide ho
  clear ho
  go_wp2_with fail
  refine (chainBytes_any s a1 a2 a3 s.salt.length c1 s.next.length c2 s.types.length c3 _ rfl rfl rfl (by exact S1.out.1) (by exact S2.out.1) (by exact S3.out.1) S1.out.2 S2.out.2 S3.out.2 (by omega) (by omega) (by omega) k7 k1 k2 k3 (by omega)).mono ?_
  rintro e w2 ⟨v2, rfl, hO2, hb2⟩
  go_wp2
  go_ret
  exact ⟨Or.inl ⟨_, r, _, by rw [HO.out]; rfl, rfl, hO2.lower hm.size, hr.below hb2⟩, hm.trans (Mv.of hb2)⟩
set_option maxHeartbeats 400000 in
set_option maxRecDepth 5000 in
theorem canon_else (B T t : Nat) (l : List UInt8) (w : World) (hR : Rdr B T l w) (h1 : t ≠ 1) (h28 : t ≠ 28) (h2 : t ≠ 2) (h5 : t ≠ 5) (h15 : t ≠ 15) (h6 : t ≠ 6) (h16 : t ≠ 16) (h43 : t ≠ 43) (h46 : t ≠ 46) (h48 : t ≠ 48) (h50 : t ≠ 50) (h51 : t ≠ 51) :
    Calls Try.prog 41 #[.pointer (some ⟨T, 0, none⟩), .int .u16 (t : Int)] w fun e w' => Got B T (some (l, [])) (fun x v w' => OwnB w' w.heap.size v x) w e w' := by
  have b1 : ((t : Int) == 1) = false := beq_eq_false_iff_ne.2 (by omega)
  have b28 : ((t : Int) == 28) = false := beq_eq_false_iff_ne.2 (by omega)
  have b2 : ((t : Int) == 2) = false := beq_eq_false_iff_ne.2 (by omega)
  have b5 : ((t : Int) == 5) = false := beq_eq_false_iff_ne.2 (by omega)
  have b15 : ((t : Int) == 15) = false := beq_eq_false_iff_ne.2 (by omega)
  have b6 : ((t : Int) == 6) = false := beq_eq_false_iff_ne.2 (by omega)
  have b16 : ((t : Int) == 16) = false := beq_eq_false_iff_ne.2 (by omega)
  have b43 : ((t : Int) == 43) = false := beq_eq_false_iff_ne.2 (by omega)
  have b46 : ((t : Int) == 46) = false := beq_eq_false_iff_ne.2 (by omega)
  have b48 : ((t : Int) == 48) = false := beq_eq_false_iff_ne.2 (by omega)
  have b50 : ((t : Int) == 50) = false := beq_eq_false_iff_ne.2 (by omega)
  have b51 : ((t : Int) == 51) = false := beq_eq_false_iff_ne.2 (by omega)
  clear h1 h28 h2 h5 h15 h6 h16 h43 h46 h48 h50 h51
  go_enter Try.func41, Try.ntmps41
  go_wp2_with fail
  refine (rothers_any B T l _ hR).mono ?_
  rintro e w1 ⟨v, rfl, hx, hr, hm⟩
  go_wp2
  go_ret
  exact ⟨Or.inl ⟨l, [], v, rfl, rfl, hx, hr⟩, hm⟩
set_option maxRecDepth 5000 in
theorem takeCanon_any (B T t : Nat) (l : List UInt8) (w : World) (hR : Rdr B T l w) :
    Calls Try.prog 41 #[.pointer (some ⟨T, 0, none⟩), .int .u16 (t : Int)] w fun e w' => Got B T (D.can t l) (fun x v w' => OwnB w' w.heap.size v x) w e w' := by
  by_cases h1 : t = 1
  · subst h1; exact canon_1 B T l w hR
  by_cases h28 : t = 28
  · subst h28; exact canon_28 B T l w hR
  by_cases h2 : t = 2
  · subst h2; exact canon_2 B T l w hR
  by_cases h5 : t = 5
  · subst h5; exact canon_5 B T l w hR
  by_cases h15 : t = 15
  · subst h15; exact canon_15 B T l w hR
  by_cases h6 : t = 6
  · subst h6; exact canon_6 B T l w hR
  by_cases h16 : t = 16
  · subst h16; exact canon_16 B T l w hR
  by_cases h43 : t = 43
  · subst h43; exact canon_43 B T l w hR
  by_cases h46 : t = 46
  · subst h46; exact canon_46 B T l w hR
  by_cases h48 : t = 48
  · subst h48; exact canon_48 B T l w hR
  by_cases h50 : t = 50
  · subst h50; exact canon_50 B T l w hR
  by_cases h51 : t = 51
  · subst h51; exact canon_51 B T l w hR
  have e : D.can t l = some (l, []) := by simp [D.can, h1, h28, h2, h5, h15, h6, h16, h43, h46, h48, h50, h51]
  rw [e]
  exact canon_else B T t l w hR h1 h28 h2 h5 h15 h6 h16 h43 h46 h48 h50 h51
set_option maxRecDepth 5000 in
theorem takeTarget_any (B T t : Nat) (l : List UInt8) (w : World) (hR : Rdr B T l w) :
    Calls Try.prog 48 #[.pointer (some ⟨T, 0, none⟩), .int .u16 (t : Int)] w fun e w' => Got B T (D.tgt t l) (fun x v w' => OwnS w' w.heap.size v x) w e w' := by
  by_cases h25 : t = 2 ∨ t = 5
  · have e : D.tgt t l = D.nm l := by unfold D.tgt; rw [if_pos h25]
    rw [e]
    rcases h25 with rfl | rfl
    all_goals
      go_enter Try.func48, Try.ntmps48
      go_wp2_with fail
      refine (rname_any B T l _ hR).mono ?_
      rintro e w1 ⟨⟨x, r, v, ho, rfl, hx, hr⟩ | ⟨ho, rfl⟩, hm⟩
      · go_wp2
        go_ret
        exact ⟨Or.inl ⟨x, r, v, ho, rfl, hx, hr⟩, hm⟩
      · unfold fell50
        go_wp2
        exact ⟨rfl, Or.inr ⟨ho, rfl⟩, hm⟩
  · by_cases h15 : t = 15
    · have e : D.tgt t l = (D.by_ 2 l).bind fun p => D.nm p.2 := by unfold D.tgt; rw [if_neg h25, if_pos h15]
      rw [e]
      subst h15
      go_enter Try.func48, Try.ntmps48
      go_wp2_with fail
      refine (rbytes_any B T 2 l _ hR (by omega)).mono ?_
      rintro e w1 ⟨⟨x, r, v, ho, rfl, hx, hr⟩ | ⟨ho, rfl⟩, hm⟩
      rotate_left
      · unfold fell50
        go_wp2
        exact ⟨rfl, Or.inr ⟨by rw [ho]; rfl, rfl⟩, hm⟩
      have HO := hide ho
      clear ho hx
      go_wp2_with fail
      refine (rname_any B T r _ hr).mono ?_
      rintro e w2 ⟨⟨x2, r2, v2, ho2, rfl, hx2, hr2⟩ | ⟨ho2, rfl⟩, hm2⟩
      · go_wp2
        go_ret
        exact ⟨Or.inl ⟨x2, r2, v2, by rw [HO.out]; exact ho2, rfl, hx2.lower hm.size, hr2⟩, hm.trans hm2⟩
      · unfold fell50
        go_wp2
        exact ⟨rfl, Or.inr ⟨by rw [HO.out]; exact ho2, rfl⟩, hm.trans hm2⟩
    · have e : D.tgt t l = none := by unfold D.tgt; rw [if_neg h25, if_neg h15]
      rw [e]
      have b2 : ((t : Int) == 2) = false := beq_eq_false_iff_ne.2 (by omega)
      have b5 : ((t : Int) == 5) = false := beq_eq_false_iff_ne.2 (by omega)
      have b15 : ((t : Int) == 15) = false := beq_eq_false_iff_ne.2 (by omega)
      clear h25 h15
      go_enter Try.func48, Try.ntmps48
      go_wp2
      exact ⟨rfl, Or.inr ⟨rfl, rfl⟩, Mv.refl _ _⟩
end Go.Proofs.Ytagopkmehlpjpaa
