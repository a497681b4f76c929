/- takeCanon (texts of stage 5, at this seat). -/
import Derived.Test.YtdldaphkiphpnaaGreatTak
/- stage5/Can0 -/
/- Canonical forms, plain; rdata.smallName, smallSig, takeTexts. -/
namespace Go.Proofs.YtdldaphkiphpnaaGreat
open Go.RowKit
namespace D
def Soa.low (s : Soa) : Soa := ⟨N.lowN s.main, N.lowN s.box, s.a, s.b, s.c, s.d, s.e⟩
def Sig.low (s : Sig) : Sig := ⟨s.type, s.alg, s.labels, s.ttl, s.expire, s.begin_, s.tag, N.lowN s.signer, s.sig⟩
def small (l : List UInt8) : Option (List UInt8 × List UInt8) := (nm l).map fun p => (N.wire (N.lowN p.1), p.2)
def tok (l : List UInt8) : Bool :=
  match l with
  | [] => false
  | k :: r => if r.length < k.toNat then false else if r.length = k.toNat then true else tok (r.drop k.toNat)
termination_by l.length
decreasing_by simp only [List.length_drop, List.length_cons]; omega
def txt (l : List UInt8) : Option (List UInt8 × List UInt8) := if tok l then some (l, []) else none
def can (t : Nat) (l : List UInt8) : Option (List UInt8 × List UInt8) :=
  if t = 1 then by_ 4 l else if t = 28 then by_ 16 l else if t = 2 ∨ t = 5 then small l
  else if t = 15 then (by_ 2 l).bind fun p => (small p.2).map fun q => (p.1 ++ q.1, q.2)
  else if t = 6 then (soa l).map fun p => (soaB p.1.low, p.2)
  else if t = 16 then txt l
  else if t = 43 then (by_ 5 l).map fun p => (p.1 ++ p.2, [])
  else if t = 46 then (sig l).map fun p => (sigB p.1.low, p.2)
  else if t = 48 then (key l).map fun p => (keyB p.1, p.2)
  else if t = 50 then (chain l).map fun p => (chainB p.1, p.2)
  else if t = 51 then (by_ 4 l).bind fun p => (cnt p.2).map fun q => (p.1 ++ pc q.1, q.2)
  else some (l, [])
def tgt (t : Nat) (l : List UInt8) : Option (List (List UInt8) × List UInt8) :=
  if t = 2 ∨ t = 5 then nm l else if t = 15 then (by_ 2 l).bind fun p => nm p.2 else none
set_option maxRecDepth 5000 in
theorem size_low (n : List (List UInt8)) : N.size (N.lowN n) = N.size n := by
  unfold N.size N.lowN
  rw [List.map_map]
  congr 2
  apply List.map_congr_left
  intro l _
  simp [N.lowL_len]
set_option maxRecDepth 5000 in
theorem opn_len (k : Nat) : ∀ (b : List UInt8) (least : Nat) (m : List UInt16), b.length ≤ k → T.opn least b = some m → m.length ≤ 8 * b.length := by
  induction k with
  | zero =>
    intro b least m hb h
    obtain rfl : b = [] := List.eq_nil_of_length_eq_zero (by omega)
    rw [T.opn_nil] at h; cases h; simp
  | succ k ih =>
    intro b least m hb h
    match b with
    | [] => rw [T.opn_nil] at h; cases h; simp
    | [x] => rw [T.opn_one] at h; cases h
    | x :: n :: r =>
      rw [T.opn_two] at h
      split at h
      · cases h
      · rename_i hbad
        rw [Option.map_eq_some_iff] at h
        obtain ⟨m', h1, rfl⟩ := h
        have h2 := ih _ _ _ (by simp only [List.length_cons, List.length_drop] at hb ⊢; omega) h1
        have h3 : (T.typ x.toNat (r.take n.toNat)).length ≤ 8 * (r.take n.toNat).length := by
          unfold T.typ T.places
          rw [List.length_map]
          exact Nat.le_trans (List.length_filter_le _ _) (by simp)
        have h4 : ¬ r.length < n.toNat := fun e => hbad (Or.inr (Or.inr (Or.inr (Or.inl e))))
        rw [List.length_append]
        simp only [List.length_cons, List.length_drop, List.length_take] at h2 h3 ⊢
        omega
set_option maxRecDepth 5000 in
theorem chain_len {l r : List UInt8} {c : Chain} (h : chain l = some (c, r)) : (T.bmp c.types).length ≤ l.length ∧ c.types.length ≤ 8 * l.length := by
  obtain ⟨hl, _, _, _, _, _, _, _, k7⟩ := chain_back h
  have h1 : (T.bmp c.types).length ≤ l.length := by rw [hl]; simp only [chainB, List.length_append]; omega
  have h2 := opn_len _ _ 0 c.types (Nat.le_refl _) (T.opn_bmp _ _ _ (Nat.le_refl _) k7 (fun _ _ => Nat.zero_le _))
  exact ⟨h1, by omega⟩
set_option maxRecDepth 5000 in
theorem tok_none {l : List UInt8} (h : cnt l = none) : tok l = false := by
  match l with
  | [] => rw [tok]
  | k :: r =>
    unfold cnt n8 by_ at h
    simp only [Option.bind_some] at h
    split at h
    · rename_i h1; rw [tok, if_pos h1]
    · cases h
set_option maxRecDepth 5000 in
theorem tok_some {l x r : List UInt8} (h : cnt l = some (x, r)) : tok l = (decide (r = []) || tok r) ∧ l = pc x ++ r ∧ r.length < l.length := by
  obtain ⟨e, hx⟩ := cnt_back h
  refine ⟨?_, e, by rw [e]; simp [pc]; omega⟩
  rw [e]
  unfold pc
  rw [List.cons_append, tok, nat_u8 _ (by omega), if_neg (by rw [List.length_append]; omega)]
  cases r with
  | nil => simp
  | cons a r => rw [if_neg (by simp), List.drop_left]; simp
end D
set_option maxRecDepth 5000 in
theorem OwnS.sl {w : World} {base : Nat} {ao : Option Addr} {c : Nat} {n : List (List UInt8)} (h : OwnS w base (.slice ao n.length c) n) : SlS w ao n := by
  obtain ⟨_, _, e, hs, _⟩ := h.open
  cases e; exact hs
set_option maxRecDepth 5000 in
theorem good_small {n : List (List UInt8)} (h : D.Good n) : N.Small n := small_of (by have := h.2.2; omega)
set_option maxRecDepth 5000 in
theorem Rdr.kp {B T base : Nat} {l : List UInt8} {w w' : World} (h : Rdr B T l w) (hk : Kp base w w') (hB : B ≤ base) : Rdr B T l w' := by
  obtain ⟨ao, c, h1, h2, h3, h4, h5, h6, h7⟩ := h
  exact ⟨ao, c, hk.2 _ _ _ h1 (by decide), h2.below (hk.1.mono hB), h3, h4, h5, h6, Nat.le_trans h7 hk.1.size⟩
set_option maxRecDepth 5000 in
theorem Mv.kp {T : Nat} {w w1 w2 : World} (h : Mv T w w1) (hk : Kp w.heap.size w1 w2) : Mv T w w2 :=
  ⟨hk.1.os.trans h.os, hk.1.tape.trans h.tape, hk.1.output.trans h.output, Nat.le_trans h.size hk.1.size, fun k hk' hn => (hk.1.block k hk').trans (h.block k hk' hn)⟩
set_option maxRecDepth 5000 in
theorem OwnB.len {w : World} {base : Nat} {v : Value} {l : List UInt8} (h : OwnB w base v l) : lenOf v = l.length := by
  obtain ⟨ao, c, rfl, _⟩ := h.open
  rfl
set_option maxRecDepth 5000 in
theorem smallName_any (B T : Nat) (l : List UInt8) (w : World) (hR : Rdr B T l w) :
    Calls Tryz.prog 115 #[.pointer (some ⟨T, 0, none⟩)] w fun e w' => Got B T (D.small l) (fun x v w' => OwnB w' w.heap.size v x) w e w' := by
  go_enter Tryz.func115, Tryz.ntmps115
  go_wp2_with fail
  refine (rname_any B T l _ hR).mono ?_
  rintro e w1 ⟨⟨n, r, v, ho, rfl, hx, hr⟩ | ⟨ho, rfl⟩, hm⟩
  · obtain ⟨_, hg⟩ := D.nm_back ho
    obtain ⟨a1, c1, rfl, hs1, _⟩ := hx.open
    have S1 := hide hs1
    clear hs1
    go_wp2_with fail
    refine (lower_any n a1 n.length c1 _ rfl (by exact S1.out) (hide (good_small hg))).mono ?_
    rintro e w2 ⟨v2, rfl, hO2, hb2⟩
    obtain ⟨a2, c2, rfl, hs2, _⟩ := hO2.open
    have S2 := hide hs2
    clear hs2
    go_wp2_with fail
    refine (wire_any (N.lowN n) a2 (N.lowN n).length c2 _ rfl (by exact S2.out) (hide (small_of (by rw [D.size_low]; have := hg.2.2; omega)))).mono ?_
    rintro e w3 ⟨v3, rfl, hO3, hb3⟩
    have hb := hb2.trans (hb3.mono hb2.size)
    go_wp2
    go_ret
    exact ⟨Or.inl ⟨_, r, _, by unfold D.small; rw [ho]; rfl, rfl, hO3.lower (Nat.le_trans hm.size hb2.size), hr.below hb⟩, hm.trans (Mv.of hb)⟩
  · unfold fell50
    go_wp2
    exact ⟨rfl, Or.inr ⟨by unfold D.small; rw [ho]; rfl, rfl⟩, hm⟩
set_option maxHeartbeats 400000 in
set_option maxRecDepth 5000 in
theorem takeTexts_any (B T : Nat) (l : List UInt8) (w : World) (hR : Rdr B T l w) :
    Calls Tryz.prog 118 #[.pointer (some ⟨T, 0, none⟩)] w fun e w' => Got B T (D.txt l) (fun x v w' => OwnB w' w.heap.size v x) w e w' := by
  have hlen := hR.len
  go_enter Tryz.func118, Tryz.ntmps118
  go_wp2_with fail
  refine (rcounted_any B T l _ hR).mono ?_
  rintro e w1 ⟨⟨x, r, v, ho, rfl, hx, hr⟩ | ⟨ho, rfl⟩, hm⟩
  rotate_left
  · have ht := D.tok_none ho
    unfold fell50
    go_wp2
    exact ⟨rfl, Or.inr ⟨by unfold D.txt; rw [ht]; rfl, rfl⟩, hm⟩
  obtain ⟨ht, hl, hlt⟩ := D.tok_some ho
  obtain ⟨_, hx255⟩ := D.cnt_back ho
  obtain ⟨a1, c1, rfl, hs1, hn1, _⟩ := hx.open
  have S1 := hide hs1
  have N1 := hide hn1
  have HT := hide ht
  have HL := hide hl
  clear hs1 hn1 ht hl hx
  go_wp2_with fail
  refine (appendCounted_any x a1 x.length c1 w.heap.size (.slice none 0 0) [] _ (OwnB.nil _ _) (by exact hm.size) (by simp) rfl (by exact S1.out) N1.out (by omega) (by intro _ b o _ e; simp [Value.ownBlock] at e)).mono ?_
  rintro e w2 ⟨v2, rfl, hO2, hK2⟩
  have D2 := hide (hr.kp hK2 hR.base)
  have M2 := hide (hm.kp hK2)
  have O2 := hide hO2
  clear hO2 hK2 hr S1 hm
  go_wp2
  go_loopw [3] (fun v wr => ∃ (o r : List UInt8), OwnB wr w.heap.size v o ∧ Rdr B T r wr ∧ Mv T w wr ∧ Hid (o ++ r = l) ∧ Hid (D.tok l = (decide (r = []) || D.tok r))) (fun v _ => l.length - lenOf v)
  case atStart => exact ⟨_, r, O2.out, D2.out, M2.out, HL.out.symm, HT.out⟩
  case round =>
    clear O2 D2 M2 HL HT N1
    obtain ⟨o, r, hO, hr, hm, HL, HT⟩ := hrel
    have hll : o.length + r.length = l.length := by rw [← HL.out, List.length_append]
    have hlo := hO.len
    have HD := hide hr
    have HO := hide hO
    have HM := hide hm
    clear hr hO hm
    go_wp2_with fail
    refine (rdone_any B T r _ (by exact HD.out)).mono ?_
    rintro e w3 ⟨rfl, rfl⟩
    by_cases hr0 : r = []
    · subst hr0
      go_wp2
      go_ret
      exact ⟨Or.inl ⟨l, [], _, by unfold D.txt; rw [HT.out]; rfl, rfl, by have := HL.out; rw [List.append_nil] at this; rw [← this]; exact HO.out, HD.out⟩, HM.out⟩
    · have hd : decide (r = []) = false := decide_eq_false hr0
      rw [hd]
      rw [hd, Bool.false_or] at HT
      clear hd
      go_wp2_with fail
      refine (rcounted_any B T r _ (by exact HD.out)).mono ?_
      rintro e w4 ⟨⟨x4, r4, v4, ho4, rfl, hx4, hr4⟩ | ⟨ho4, rfl⟩, hm4⟩
      rotate_left
      · have ht := D.tok_none ho4
        rw [ht] at HT
        have hm5 := HM.out.trans hm4
        unfold fell50
        go_wp2
        exact ⟨rfl, Or.inr ⟨by unfold D.txt; rw [HT.out]; rfl, rfl⟩, hm5⟩
      obtain ⟨ht, hl, hlt⟩ := D.tok_some ho4
      obtain ⟨_, hx255⟩ := D.cnt_back ho4
      obtain ⟨a1, c1, rfl, hs1, hn1, _⟩ := hx4.open
      have O4 := hide (HD.out.ownB hm4 HO.out)
      have hz4 : w.heap.size ≤ w4.heap.size := Nat.le_trans HM.out.size hm4.size
      have HNE : Hid (0 < x4.length → ∀ b o, a1 = some ⟨b, o, none⟩ → some b ≠ u3.ownBlock) := by
        intro hn b o' e e2
        have h1 := (HO.out.blk e2).2
        have h2 := (hx4.blk (g := b) (by rw [e]; rfl)).1
        omega
      have S1 := hide hs1
      have N1 := hide hn1
      have HT4 := hide (HT.out.trans ht)
      have HL4 : Hid ((o ++ D.pc x4) ++ r4 = l) := by rw [List.append_assoc, ← hl]; exact HL.out
      have M4 := hide (HM.out.trans hm4)
      have D4 := hide hr4
      have hol : (o ++ D.pc x4).length = o.length + x4.length + 1 := by simp [D.pc]; omega
      have hlen4 : (o ++ D.pc x4).length + r4.length = l.length := by have := congrArg List.length HL4.out; rwa [List.length_append] at this
      clear hs1 hn1 ht hl hx4 hm4 HM HD HO hr4
      go_wp2_with fail
      refine (appendCounted_any x4 a1 x4.length c1 w.heap.size u3 o _ (by exact O4.out) (by exact hz4) (by omega) rfl (by exact S1.out) N1.out (by omega) (by exact HNE.out)).mono ?_
      rintro e w5 ⟨v5, rfl, hO5, hK5⟩
      have hlo5 := hO5.len
      have D5 := hide (D4.out.kp hK5 hR.base)
      have M5 := hide (M4.out.kp hK5)
      go_wp2
      go_roundw
      case rel => exact ⟨_, r4, hO5, D5.out, M5.out, HL4, HT4⟩
      case measure => omega
end Go.Proofs.YtdldaphkiphpnaaGreat

/- stage5/Can1 -/
/- rdata.smallSig, smallSoa. -/
namespace Go.Proofs.YtdldaphkiphpnaaGreat
open Go.RowKit
set_option maxRecDepth 5000 in
theorem setNew_below {w w1 : World} {g j : Nat} {v : Value} (h : Below w.heap.size w w1) (hg : w.heap.size ≤ g) : Below w.heap.size w (w1.setCell ⟨g, j, none⟩ v) := h.setCell hg v
set_option maxHeartbeats 800000 in
set_option maxRecDepth 5000 in
theorem smallSig_any (s : D.Sig) (a1 a2 : Option Addr) (n1 c1 n2 c2 : Nat) (w : World) (h1 : Hid (s.signer.length = n1)) (h2 : Hid (s.sig.length = n2)) (hs1 : SlS w a1 s.signer) (hs2 : SlL w a2 s.sig) (hnil : a2 = none → c2 = 0) (hz2 : n2 ≤ 100000) (hk : s.Ok) :
    Calls Tryz.prog 120 #[.agg #[.int .u16 (s.type : Int), .int .u8 (s.alg : Int), .int .u8 (s.labels : Int), .int .u32 (s.ttl : Int), .int .u32 (s.expire : Int), .int .u32 (s.begin_ : Int), .int .u16 (s.tag : Int), .slice a1 n1 c1, .slice a2 n2 c2]] w fun e w' => ∃ v', e = .returned v' ∧ OwnB w' w.heap.size v' (D.sigB s.low) ∧ Below w.heap.size w w' := by
  have S1 := hide hs1
  have S2 := hide hs2
  have NI := hide hnil
  clear hs1 hs2 hnil
  obtain ⟨type, alg, labels, ttl, expire, begin_, tag, signer, sig⟩ := s
  obtain ⟨k1, k2, k3, k4, k5, k6, k7, k8⟩ := hk
  simp only at h1 h2 S1 S2 k1 k2 k3 k4 k5 k6 k7 k8 ⊢
  have m1 := hide (good_small k8)
  have hz1 : N.size (N.lowN signer) ≤ 1000 := by rw [D.size_low]; have := k8.2.2; omega
  have R0 := hide (RowAt.new w 146 #[.int .u16 (type : Int), .int .u8 (alg : Int), .int .u8 (labels : Int), .int .u32 (ttl : Int), .int .u32 (expire : Int), .int .u32 (begin_ : Int), .int .u16 (tag : Int), .slice a1 n1 c1, .slice a2 n2 c2])
  have B0 := hide ((Below.refl w.heap.size w).alloc (Nat.le_refl _) (.cells #[.int .u16 (type : Int), .int .u8 (alg : Int), .int .u8 (labels : Int), .int .u32 (ttl : Int), .int .u32 (expire : Int), .int .u32 (begin_ : Int), .int .u16 (tag : Int), .slice a1 n1 c1, .slice a2 n2 c2] 146))
  clear k8
  go_enter Tryz.func120, Tryz.ntmps120
  go_wp2_with fail
  refine (lower_any signer a1 n1 c1 _ h1 (by exact S1.out.alloc _) m1).mono ?_
  rintro e w1 ⟨v1, rfl, hO1, hb1⟩
  have hrow := R0.out.below hb1 (by simp)
  obtain ⟨a3, c3, rfl, _, _, _⟩ := hO1.open
  have g0 : w1.cell? ⟨w.heap.size, 0, none⟩ = some (.int .u16 (type : Int)) := hrow.cell 0
  have g1 : w1.cell? ⟨w.heap.size, 1, none⟩ = some (.int .u8 (alg : Int)) := hrow.cell 1
  have g2 : w1.cell? ⟨w.heap.size, 2, none⟩ = some (.int .u8 (labels : Int)) := hrow.cell 2
  have g3 : w1.cell? ⟨w.heap.size, 3, none⟩ = some (.int .u32 (ttl : Int)) := hrow.cell 3
  have g4 : w1.cell? ⟨w.heap.size, 4, none⟩ = some (.int .u32 (expire : Int)) := hrow.cell 4
  have g5 : w1.cell? ⟨w.heap.size, 5, none⟩ = some (.int .u32 (begin_ : Int)) := hrow.cell 5
  have g6 : w1.cell? ⟨w.heap.size, 6, none⟩ = some (.int .u16 (tag : Int)) := hrow.cell 6
  have g7 : w1.cell? ⟨w.heap.size, 7, none⟩ = some (.slice a1 n1 c1) := hrow.cell 7
  have g8 : w1.cell? ⟨w.heap.size, 8, none⟩ = some (.slice a2 n2 c2) := hrow.cell 8
  have e7 := hrow.frozen 7
  have O1 := hide (own_set (OwnS.lower (base' := w.heap.size) hO1 (by simp)) hrow (by decide) 7 (.slice a3 (N.lowN signer).length c3))
  have B1 := hide (setNew_below (g := w.heap.size) (j := 7) (v := .slice a3 (N.lowN signer).length c3) (B0.out.trans (hb1.mono (by simp))) (Nat.le_refl _))
  clear hO1 hb1 R0 B0 hrow S1
  go_wp2_with fail
  refine (sigBytes_any ⟨type, alg, labels, ttl, expire, begin_, tag, N.lowN signer, sig⟩ a3 a2 (N.lowN signer).length c3 n2 c2 _ rfl h2 (by exact OwnS.sl O1.out) (by exact S2.out.below B1.out (Nat.le_refl _)) NI.out hz1 hz2 k1 k2 k3 k4 k5 k6 k7).mono ?_
  rintro e w2 ⟨v2, rfl, hO2, hb2⟩
  go_wp2
  go_ret
  have hz := B1.out.size
  exact ⟨_, rfl, hO2.lower hz, B1.out.trans (hb2.mono hz)⟩
set_option maxHeartbeats 1600000 in
set_option maxRecDepth 5000 in
theorem smallSoa_any (s : D.Soa) (a1 a2 : Option Addr) (n1 c1 n2 c2 : Nat) (w : World) (h1 : Hid (s.main.length = n1)) (h2 : Hid (s.box.length = n2)) (hs1 : SlS w a1 s.main) (hs2 : SlS w a2 s.box) (hk : s.Ok) :
    Calls Tryz.prog 116 #[.agg #[.slice a1 n1 c1, .slice a2 n2 c2, .int .u32 (s.a : Int), .int .u32 (s.b : Int), .int .u32 (s.c : Int), .int .u32 (s.d : Int), .int .u32 (s.e : Int)]] w fun e w' => ∃ v', e = .returned v' ∧ OwnB w' w.heap.size v' (D.soaB s.low) ∧ Below w.heap.size w w' := by
  have S1 := hide hs1
  have S2 := hide hs2
  clear hs1 hs2
  obtain ⟨main, box, a, b, c, d, e⟩ := s
  obtain ⟨k1, k2, k3, k4, k5, k6, k7⟩ := hk
  simp only at h1 h2 S1 S2 k1 k2 k3 k4 k5 k6 k7 ⊢
  have m1 := hide (good_small k1)
  have m2 := hide (good_small k2)
  have hz1 : N.size (N.lowN main) ≤ 1000 := by rw [D.size_low]; have := k1.2.2; omega
  have hz2 : N.size (N.lowN box) ≤ 1000 := by rw [D.size_low]; have := k2.2.2; omega
  have R0 := hide (RowAt.new w 142 #[.slice a1 n1 c1, .slice a2 n2 c2, .int .u32 (a : Int), .int .u32 (b : Int), .int .u32 (c : Int), .int .u32 (d : Int), .int .u32 (e : Int)])
  have B0 := hide ((Below.refl w.heap.size w).alloc (Nat.le_refl _) (.cells #[.slice a1 n1 c1, .slice a2 n2 c2, .int .u32 (a : Int), .int .u32 (b : Int), .int .u32 (c : Int), .int .u32 (d : Int), .int .u32 (e : Int)] 142))
  clear k1 k2
  go_enter Tryz.func116, Tryz.ntmps116
  go_wp2
  go_region_law (first
    | (refine step_call rfl 41 #[.slice a1 n1 c1] (by go_simp) (lower_any main a1 n1 c1 _ h1 (by exact S1.out.alloc _) m1) (by rintro e w' ⟨v, rfl, _⟩; exact ⟨v, rfl⟩) ?_; rintro v1 w1 ⟨_, he, hO1, hb1⟩; cases he; have R1 := hide (RowAt.below (by exact R0.out) hb1 (by simp <;> omega)); have p1 : w1.cell? ⟨w.heap.size, 1, none⟩ = some (.slice a2 n2 c2) := R1.out.cell 1; have O1 := hide (OwnS.lower (base' := w.heap.size) hO1 (by simp <;> omega)); have z1 : w.heap.size ≤ w1.heap.size := Nat.le_trans (by simp <;> omega) hb1.size; have B1 := hide ((below_allocs B0.out (Nat.le_refl _) (Or.inl rfl)).trans (hb1.mono (by simp <;> omega))); clear hO1 hb1)
    | (refine step_call rfl 41 #[.slice a2 n2 c2] (by go_simp) (lower_any box a2 n2 c2 _ h2 (by exact S2.out.below B1.out (Nat.le_refl _)) m2) (by rintro e w' ⟨v, rfl, _⟩; exact ⟨v, rfl⟩) ?_; rintro v2 w2 ⟨_, he, hO2, hb2⟩; cases he; have hrow := R1.out.below hb2 R1.out.lt; obtain ⟨a3, c3, rfl, _, _, _⟩ := O1.out.open; obtain ⟨a4, c4, rfl, _, _, _⟩ := hO2.open; have g0 : w2.cell? ⟨w.heap.size, 0, none⟩ = some (.slice a1 n1 c1) := hrow.cell 0; have g1 : w2.cell? ⟨w.heap.size, 1, none⟩ = some (.slice a2 n2 c2) := hrow.cell 1; have g2 : w2.cell? ⟨w.heap.size, 2, none⟩ = some (.int .u32 (a : Int)) := hrow.cell 2; have g3 : w2.cell? ⟨w.heap.size, 3, none⟩ = some (.int .u32 (b : Int)) := hrow.cell 3; have g4 : w2.cell? ⟨w.heap.size, 4, none⟩ = some (.int .u32 (c : Int)) := hrow.cell 4; have g5 : w2.cell? ⟨w.heap.size, 5, none⟩ = some (.int .u32 (d : Int)) := hrow.cell 5; have g6 : w2.cell? ⟨w.heap.size, 6, none⟩ = some (.int .u32 (e : Int)) := hrow.cell 6; have e0 := hrow.frozen 0; have e1 := hrow.frozen 1; have O3 := hide (O1.out.below hb2); have O4 := hide (OwnS.lower (base' := w.heap.size) hO2 z1); have R2 := hide hrow; have B2 := hide (B1.out.trans (hb2.mono z1)); clear hrow hO2 hb2 O1))
  all_goals
    have O5 := hide (own_set (own_set O3.out R2.out (by decide) 0 (.slice a3 (N.lowN main).length c3)) (R2.out.set 0 (.slice a3 (N.lowN main).length c3)) (by decide) 1 (.slice a4 (N.lowN box).length c4))
    have O6 := hide (own_set (own_set O4.out R2.out (by decide) 0 (.slice a3 (N.lowN main).length c3)) (R2.out.set 0 (.slice a3 (N.lowN main).length c3)) (by decide) 1 (.slice a4 (N.lowN box).length c4))
    have B5 := hide (setNew_below (g := w.heap.size) (j := 1) (v := .slice a4 (N.lowN box).length c4) (setNew_below (g := w.heap.size) (j := 0) (v := .slice a3 (N.lowN main).length c3) B2.out (Nat.le_refl _)) (Nat.le_refl _))
    clear O3 O4 B2 R2 R1 B1 R0 B0
    go_wp2_with fail
    refine (soaBytes_any ⟨N.lowN main, N.lowN box, a, b, c, d, e⟩ a3 a4 (N.lowN main).length c3 (N.lowN box).length c4 _ rfl rfl (by exact OwnS.sl O5.out) (by exact OwnS.sl O6.out) hz1 hz2 k3 k4 k5 k6 k7).mono ?_
    rintro e w3 ⟨v3, rfl, hO3, hb3⟩
    go_wp2
    go_ret
    have hz := B5.out.size
    exact ⟨_, rfl, hO3.lower hz, B5.out.trans (hb3.mono hz)⟩
end Go.Proofs.YtdldaphkiphpnaaGreat

/- stage5/Can2 -/
/- rdata.takeCanon, takeTarget: one theorem for each kind of data, then for all. -/
namespace Go.Proofs.YtdldaphkiphpnaaGreat
open Go.RowKit
set_option maxRecDepth 5000 in
theorem OwnB.slOf {w : World} {base : Nat} {ao : Option Addr} {c : Nat} {n : List UInt8} (h : OwnB w base (.slice ao n.length c) n) : SlL w ao n ∧ (ao = none → c = 0) := by
  obtain ⟨_, _, e, hs, hn, _⟩ := h.open
  cases e; exact ⟨hs, hn⟩
set_option maxRecDepth 5000 in
theorem OwnH.slOf {w : World} {base : Nat} {ao : Option Addr} {c : Nat} {n : List UInt16} (h : OwnH w base (.slice ao n.length c) n) : SlH w ao n ∧ (ao = none → c = 0) := by
  obtain ⟨_, _, e, hs, hn, _⟩ := h.open
  cases e; exact ⟨hs, hn⟩
set_option maxHeartbeats 400000 in
set_option maxRecDepth 5000 in
theorem canon_1 (B T : Nat) (l : List UInt8) (w : World) (hR : Rdr B T l w) :
    Calls Tryz.prog 90 #[.pointer (some ⟨T, 0, none⟩), .int .u16 1] w fun e w' => Got B T (D.by_ 4 l) (fun x v w' => OwnB w' w.heap.size v x) w e w' := by
  go_enter Tryz.func90, Tryz.ntmps90
  go_wp2_with fail
  refine (rbytes_any B T 4 l _ hR (by omega)).mono ?_
  rintro e w1 ⟨⟨x, r, v, ho, rfl, hx, hr⟩ | ⟨ho, rfl⟩, hm⟩
  · go_wp2
    go_ret
    exact ⟨Or.inl ⟨x, r, v, ho, rfl, hx, hr⟩, hm⟩
  · unfold fell50
    go_wp2
    exact ⟨rfl, Or.inr ⟨ho, rfl⟩, hm⟩
set_option maxHeartbeats 400000 in
set_option maxRecDepth 5000 in
theorem canon_28 (B T : Nat) (l : List UInt8) (w : World) (hR : Rdr B T l w) :
    Calls Tryz.prog 90 #[.pointer (some ⟨T, 0, none⟩), .int .u16 28] w fun e w' => Got B T (D.by_ 16 l) (fun x v w' => OwnB w' w.heap.size v x) w e w' := by
  go_enter Tryz.func90, Tryz.ntmps90
  go_wp2_with fail
  refine (rbytes_any B T 16 l _ hR (by omega)).mono ?_
  rintro e w1 ⟨⟨x, r, v, ho, rfl, hx, hr⟩ | ⟨ho, rfl⟩, hm⟩
  · go_wp2
    go_ret
    exact ⟨Or.inl ⟨x, r, v, ho, rfl, hx, hr⟩, hm⟩
  · unfold fell50
    go_wp2
    exact ⟨rfl, Or.inr ⟨ho, rfl⟩, hm⟩
set_option maxHeartbeats 400000 in
set_option maxRecDepth 5000 in
theorem canon_2 (B T : Nat) (l : List UInt8) (w : World) (hR : Rdr B T l w) :
    Calls Tryz.prog 90 #[.pointer (some ⟨T, 0, none⟩), .int .u16 2] w fun e w' => Got B T (D.small l) (fun x v w' => OwnB w' w.heap.size v x) w e w' := by
  go_enter Tryz.func90, Tryz.ntmps90
  go_wp2_with fail
  refine (smallName_any B T l _ hR).mono ?_
  rintro e w1 ⟨⟨x, r, v, ho, rfl, hx, hr⟩ | ⟨ho, rfl⟩, hm⟩
  · go_wp2
    go_ret
    exact ⟨Or.inl ⟨x, r, v, ho, rfl, hx, hr⟩, hm⟩
  · unfold fell50
    go_wp2
    exact ⟨rfl, Or.inr ⟨ho, rfl⟩, hm⟩
set_option maxHeartbeats 400000 in
set_option maxRecDepth 5000 in
theorem canon_5 (B T : Nat) (l : List UInt8) (w : World) (hR : Rdr B T l w) :
    Calls Tryz.prog 90 #[.pointer (some ⟨T, 0, none⟩), .int .u16 5] w fun e w' => Got B T (D.small l) (fun x v w' => OwnB w' w.heap.size v x) w e w' := by
  go_enter Tryz.func90, Tryz.ntmps90
  go_wp2_with fail
  refine (smallName_any B T l _ hR).mono ?_
  rintro e w1 ⟨⟨x, r, v, ho, rfl, hx, hr⟩ | ⟨ho, rfl⟩, hm⟩
  · go_wp2
    go_ret
    exact ⟨Or.inl ⟨x, r, v, ho, rfl, hx, hr⟩, hm⟩
  · unfold fell50
    go_wp2
    exact ⟨rfl, Or.inr ⟨ho, rfl⟩, hm⟩
set_option maxHeartbeats 400000 in
set_option maxRecDepth 5000 in
theorem canon_16 (B T : Nat) (l : List UInt8) (w : World) (hR : Rdr B T l w) :
    Calls Tryz.prog 90 #[.pointer (some ⟨T, 0, none⟩), .int .u16 16] w fun e w' => Got B T (D.txt l) (fun x v w' => OwnB w' w.heap.size v x) w e w' := by
  go_enter Tryz.func90, Tryz.ntmps90
  go_wp2_with fail
  refine (takeTexts_any B T l _ hR).mono ?_
  rintro e w1 ⟨⟨x, r, v, ho, rfl, hx, hr⟩ | ⟨ho, rfl⟩, hm⟩
  · go_wp2
    go_ret
    exact ⟨Or.inl ⟨x, r, v, ho, rfl, hx, hr⟩, hm⟩
  · unfold fell50
    go_wp2
    exact ⟨rfl, Or.inr ⟨ho, rfl⟩, hm⟩
set_option maxHeartbeats 400000 in
set_option maxRecDepth 5000 in
theorem canon_15 (B T : Nat) (l : List UInt8) (w : World) (hR : Rdr B T l w) :
    Calls Tryz.prog 90 #[.pointer (some ⟨T, 0, none⟩), .int .u16 15] w fun e w' => Got B T ((D.by_ 2 l).bind fun p => (D.small p.2).map fun q => (p.1 ++ q.1, q.2)) (fun x v w' => OwnB w' w.heap.size v x) w e w' := by
  go_enter Tryz.func90, Tryz.ntmps90
  go_wp2_with fail
  refine (rbytes_any B T 2 l _ hR (by omega)).mono ?_
  rintro e w1 ⟨⟨x, r, v, ho, rfl, hx, hr⟩ | ⟨ho, rfl⟩, hm⟩
  rotate_left
  · unfold fell50
    go_wp2
    exact ⟨rfl, Or.inr ⟨by rw [ho]; rfl, rfl⟩, hm⟩
  have X := hide hx
  have HO := hide ho
  have HM := hide hm
  have lx := (D.by_back ho).2
  clear hx ho hm
  go_wp2_with fail
  refine (smallName_any B T r _ hr).mono ?_
  rintro e w2 ⟨⟨x2, r2, v2, ho2, rfl, hx2, hr2⟩ | ⟨ho2, rfl⟩, hm2⟩
  rotate_left
  · unfold fell50
    go_wp2
    exact ⟨rfl, Or.inr ⟨by rw [HO.out]; simp [ho2], rfl⟩, HM.out.trans hm2⟩
  have X1 := hide (hr.ownB hm2 X.out)
  obtain ⟨a9, c9, rfl, hs9, hn9, _⟩ := hx2.open
  have S9 := hide hs9
  have N9 := hide hn9
  have M2 := hide (HM.out.trans hm2)
  have D2 := hide hr2
  have l2 : x2.length ≤ 100000 := by
    unfold D.small at ho2
    rw [Option.map_eq_some_iff] at ho2
    obtain ⟨⟨n, q⟩, h1, h2⟩ := ho2
    cases h2
    have := (D.nm_back h1).2.2.2
    show (N.wire (N.lowN n)).length ≤ 100000
    rw [N.wire_len, D.size_low]
    omega
  have z2 : w.heap.size ≤ w2.heap.size := M2.out.size
  have HO2 := hide ho2
  clear hs9 hn9 hx2 hm2 hr2 hr X HM ho2
  go_wp2_with (at_builtin; refine wpList_append_B rfl (.tmp 26) (.tmp 28) rfl w.heap.size _ x rfl (by exact X1.out) _ _ _ x2 rfl rfl (by exact S9.out) N9.out (by omega) z2 ?_; intro v6 w6 hO6 hG6; have hK6 := Kp.grown X1.out hG6 z2; clear hG6)
  go_ret
  exact ⟨Or.inl ⟨x ++ x2, r2, _, by rw [HO.out]; simp [HO2.out], rfl, hO6, D2.out.kp hK6 hR.base⟩, M2.out.kp hK6⟩
set_option maxHeartbeats 400000 in
set_option maxRecDepth 5000 in
theorem canon_43 (B T : Nat) (l : List UInt8) (w : World) (hR : Rdr B T l w) :
    Calls Tryz.prog 90 #[.pointer (some ⟨T, 0, none⟩), .int .u16 43] w fun e w' => Got B T ((D.by_ 5 l).map fun p => (p.1 ++ p.2, [])) (fun x v w' => OwnB w' w.heap.size v x) w e w' := by
  go_enter Tryz.func90, Tryz.ntmps90
  go_wp2_with fail
  refine (rbytes_any B T 5 l _ hR (by omega)).mono ?_
  rintro e w1 ⟨⟨x, r, v, ho, rfl, hx, hr⟩ | ⟨ho, rfl⟩, hm⟩
  rotate_left
  · unfold fell50
    go_wp2
    exact ⟨rfl, Or.inr ⟨by rw [ho]; rfl, rfl⟩, hm⟩
  have X := hide hx
  have HO := hide ho
  have HM := hide hm
  have lx := (D.by_back ho).2
  have lr := hr.len
  clear hx ho hm
  go_wp2_with fail
  refine (rothers_any B T r _ hr).mono ?_
  rintro e w2 ⟨v2, rfl, hx2, hr2, hm2⟩
  have X1 := hide (hr.ownB hm2 X.out)
  obtain ⟨a9, c9, rfl, hs9, hn9, _⟩ := hx2.open
  have S9 := hide hs9
  have N9 := hide hn9
  have M2 := hide (HM.out.trans hm2)
  have D2 := hide hr2
  have z2 : w.heap.size ≤ w2.heap.size := M2.out.size
  clear hs9 hn9 hx2 hm2 hr2 hr X HM
  go_wp2_with (at_builtin; refine wpList_append_B rfl (.tmp 43) (.tmp 45) rfl w.heap.size _ x rfl (by exact X1.out) _ _ _ r rfl rfl (by exact S9.out) N9.out (by omega) z2 ?_; intro v6 w6 hO6 hG6; have hK6 := Kp.grown X1.out hG6 z2; clear hG6)
  go_ret
  exact ⟨Or.inl ⟨x ++ r, [], _, by rw [HO.out]; rfl, rfl, hO6, D2.out.kp hK6 hR.base⟩, M2.out.kp hK6⟩
set_option maxHeartbeats 400000 in
set_option maxRecDepth 5000 in
theorem canon_51 (B T : Nat) (l : List UInt8) (w : World) (hR : Rdr B T l w) :
    Calls Tryz.prog 90 #[.pointer (some ⟨T, 0, none⟩), .int .u16 51] w fun e w' => Got B T ((D.by_ 4 l).bind fun p => (D.cnt p.2).map fun q => (p.1 ++ D.pc q.1, q.2)) (fun x v w' => OwnB w' w.heap.size v x) w e w' := by
  go_enter Tryz.func90, Tryz.ntmps90
  go_wp2_with fail
  refine (rbytes_any B T 4 l _ hR (by omega)).mono ?_
  rintro e w1 ⟨⟨x, r, v, ho, rfl, hx, hr⟩ | ⟨ho, rfl⟩, hm⟩
  rotate_left
  · unfold fell50
    go_wp2
    exact ⟨rfl, Or.inr ⟨by rw [ho]; rfl, rfl⟩, hm⟩
  have X := hide hx
  have HO := hide ho
  have HM := hide hm
  have lx := (D.by_back ho).2
  clear hx ho hm
  go_wp2_with fail
  refine (rcounted_any B T r _ hr).mono ?_
  rintro e w2 ⟨⟨x2, r2, v2, ho2, rfl, hx2, hr2⟩ | ⟨ho2, rfl⟩, hm2⟩
  rotate_left
  · unfold fell50
    go_wp2
    exact ⟨rfl, Or.inr ⟨by rw [HO.out]; simp [ho2], rfl⟩, HM.out.trans hm2⟩
  have X1 := hide (hr.ownB hm2 X.out)
  obtain ⟨a9, c9, rfl, hs9, hn9, _⟩ := hx2.open
  have HNE : Hid (0 < x2.length → ∀ b o, a9 = some ⟨b, o, none⟩ → some b ≠ v.ownBlock) := by
    intro hn b o' e e2
    have h1 := (X.out.blk e2).2
    have h2 := (hx2.blk (g := b) (by rw [e]; rfl)).1
    omega
  have S9 := hide hs9
  have N9 := hide hn9
  have M2 := hide (HM.out.trans hm2)
  have D2 := hide hr2
  have l2 := (D.cnt_back ho2).2
  have z2 : w.heap.size ≤ w2.heap.size := M2.out.size
  have HO2 := hide ho2
  clear hs9 hn9 hx2 hm2 hr2 hr X HM ho2
  go_wp2_with fail
  refine (appendCounted_any x2 a9 x2.length c9 w.heap.size v x _ (by exact X1.out) (by exact z2) (by omega) rfl (by exact S9.out) N9.out (by omega) (by exact HNE.out)).mono ?_
  rintro e w6 ⟨v6, rfl, hO6, hK6⟩
  go_wp2
  go_ret
  exact ⟨Or.inl ⟨x ++ D.pc x2, r2, _, by rw [HO.out]; simp [HO2.out], rfl, hO6, D2.out.kp hK6 hR.base⟩, M2.out.kp hK6⟩
set_option maxHeartbeats 400000 in
set_option maxRecDepth 5000 in
theorem canon_6 (B T : Nat) (l : List UInt8) (w : World) (hR : Rdr B T l w) :
    Calls Tryz.prog 90 #[.pointer (some ⟨T, 0, none⟩), .int .u16 6] w fun e w' => Got B T ((D.soa l).map fun p => (D.soaB p.1.low, p.2)) (fun x v w' => OwnB w' w.heap.size v x) w e w' := by
  go_enter Tryz.func90, Tryz.ntmps90
  go_wp2_with fail
  refine (takeSoa_any B T l _ hR).mono ?_
  rintro e w1 ⟨⟨s, r, v, ho, rfl, ⟨a1, c1, a2, c2, rfl, hO1, hO3⟩, hr⟩ | ⟨ho, rfl⟩, hm⟩
  rotate_left
  · unfold fell50
    go_wp2
    exact ⟨rfl, Or.inr ⟨by rw [ho]; rfl, rfl⟩, hm⟩
  have hk := (D.soa_back ho).2
  have S1 := hide (OwnS.sl hO1)
  have S2 := hide (OwnS.sl hO3)
  clear hO1 hO3
  have HO := hide ho
  clear ho
  go_wp2_with fail
  refine (smallSoa_any s a1 a2 s.main.length c1 s.box.length c2 _ rfl rfl (by exact S1.out) (by exact S2.out) hk).mono ?_
  rintro e w2 ⟨v2, rfl, hO2, hb2⟩
  go_wp2
  go_ret
  exact ⟨Or.inl ⟨_, r, _, by rw [HO.out]; rfl, rfl, hO2.lower hm.size, hr.below hb2⟩, hm.trans (Mv.of hb2)⟩
set_option maxHeartbeats 400000 in
set_option maxRecDepth 5000 in
theorem canon_46 (B T : Nat) (l : List UInt8) (w : World) (hR : Rdr B T l w) :
    Calls Tryz.prog 90 #[.pointer (some ⟨T, 0, none⟩), .int .u16 46] w fun e w' => Got B T ((D.sig l).map fun p => (D.sigB p.1.low, p.2)) (fun x v w' => OwnB w' w.heap.size v x) w e w' := by
  go_enter Tryz.func90, Tryz.ntmps90
  go_wp2_with fail
  refine (takeSig_any B T l _ hR).mono ?_
  rintro e w1 ⟨⟨s, r, v, ho, rfl, ⟨a1, c1, a2, c2, rfl, hO1, hO3⟩, hr⟩ | ⟨ho, rfl⟩, hm⟩
  rotate_left
  · unfold fell50
    go_wp2
    exact ⟨rfl, Or.inr ⟨by rw [ho]; rfl, rfl⟩, hm⟩
  obtain ⟨hl, hr0, hk⟩ := D.sig_back ho
  have hlen := hR.len
  have hsl : s.sig.length ≤ 8192 := by rw [hl] at hlen; simp only [D.sigB, List.length_append] at hlen; omega
  have S1 := hide (OwnS.sl hO1)
  have S2 := hide (OwnB.slOf hO3)
  clear hO1 hO3 hl hr0 hlen
  have HO := hide ho
  clear ho
  go_wp2_with fail
  refine (smallSig_any s a1 a2 s.signer.length c1 s.sig.length c2 _ rfl rfl (by exact S1.out) (by exact S2.out.1) S2.out.2 (by omega) hk).mono ?_
  rintro e w2 ⟨v2, rfl, hO2, hb2⟩
  go_wp2
  go_ret
  exact ⟨Or.inl ⟨_, r, _, by rw [HO.out]; rfl, rfl, hO2.lower hm.size, hr.below hb2⟩, hm.trans (Mv.of hb2)⟩
set_option maxHeartbeats 400000 in
set_option maxRecDepth 5000 in
theorem canon_48 (B T : Nat) (l : List UInt8) (w : World) (hR : Rdr B T l w) :
    Calls Tryz.prog 90 #[.pointer (some ⟨T, 0, none⟩), .int .u16 48] w fun e w' => Got B T ((D.key l).map fun p => (D.keyB p.1, p.2)) (fun x v w' => OwnB w' w.heap.size v x) w e w' := by
  go_enter Tryz.func90, Tryz.ntmps90
  go_wp2_with fail
  refine (takeKey_any B T l _ hR).mono ?_
  rintro e w1 ⟨⟨s, r, v, ho, rfl, ⟨a1, c1, rfl, hO1⟩, hr⟩ | ⟨ho, rfl⟩, hm⟩
  rotate_left
  · unfold fell50
    go_wp2
    exact ⟨rfl, Or.inr ⟨by rw [ho]; rfl, rfl⟩, hm⟩
  obtain ⟨hl, hr0, hk⟩ := D.key_back ho
  have hlen := hR.len
  have hsl : s.key.length ≤ 8192 := by rw [hl] at hlen; simp only [D.keyB, List.length_append] at hlen; omega
  have S1 := hide (OwnB.slOf hO1)
  clear hO1 hl hr0 hlen
  have HO := hide ho
  clear ho
  go_wp2_with fail
  refine (keyBytes_any s a1 s.key.length c1 _ hk rfl (by exact S1.out.1) S1.out.2 (by omega)).mono ?_
  rintro e w2 ⟨v2, rfl, hO2, hb2⟩
  go_wp2
  go_ret
  exact ⟨Or.inl ⟨_, r, _, by rw [HO.out]; rfl, rfl, hO2.lower hm.size, hr.below hb2⟩, hm.trans (Mv.of hb2)⟩
set_option maxHeartbeats 400000 in
set_option maxRecDepth 5000 in
theorem canon_50 (B T : Nat) (l : List UInt8) (w : World) (hR : Rdr B T l w) :
    Calls Tryz.prog 90 #[.pointer (some ⟨T, 0, none⟩), .int .u16 50] w fun e w' => Got B T ((D.chain l).map fun p => (D.chainB p.1, p.2)) (fun x v w' => OwnB w' w.heap.size v x) w e w' := by
  go_enter Tryz.func90, Tryz.ntmps90
  go_wp2_with fail
  refine (takeChain_any B T l _ hR).mono ?_
  rintro e w1 ⟨⟨s, r, v, ho, rfl, ⟨a1, c1, a2, c2, a3, c3, rfl, hO1, hO3, hO4⟩, hr⟩ | ⟨ho, rfl⟩, hm⟩
  rotate_left
  · unfold fell50
    go_wp2
    exact ⟨rfl, Or.inr ⟨by rw [ho]; rfl, rfl⟩, hm⟩
  obtain ⟨hl, hr0, k1, k2, k3, k4, k5, k6, k7⟩ := D.chain_back ho
  have hlen := hR.len
  obtain ⟨hbl, htl⟩ := D.chain_len ho
  have S1 := hide (OwnB.slOf hO1)
  have S2 := hide (OwnB.slOf hO3)
  have S3 := hide (OwnH.slOf hO4)
  clear hO1 hO3 hO4 hl hr0 k6
  have HO := hide ho
  clear ho
  go_wp2_with fail
  refine (chainBytes_any s a1 a2 a3 s.salt.length c1 s.next.length c2 s.types.length c3 _ rfl rfl rfl (by exact S1.out.1) (by exact S2.out.1) (by exact S3.out.1) S1.out.2 S2.out.2 S3.out.2 (by omega) (by omega) (by omega) k7 k1 k2 k3 (by omega)).mono ?_
  rintro e w2 ⟨v2, rfl, hO2, hb2⟩
  go_wp2
  go_ret
  exact ⟨Or.inl ⟨_, r, _, by rw [HO.out]; rfl, rfl, hO2.lower hm.size, hr.below hb2⟩, hm.trans (Mv.of hb2)⟩
set_option maxHeartbeats 400000 in
set_option maxRecDepth 5000 in
theorem canon_else (B T t : Nat) (l : List UInt8) (w : World) (hR : Rdr B T l w) (h1 : t ≠ 1) (h28 : t ≠ 28) (h2 : t ≠ 2) (h5 : t ≠ 5) (h15 : t ≠ 15) (h6 : t ≠ 6) (h16 : t ≠ 16) (h43 : t ≠ 43) (h46 : t ≠ 46) (h48 : t ≠ 48) (h50 : t ≠ 50) (h51 : t ≠ 51) :
    Calls Tryz.prog 90 #[.pointer (some ⟨T, 0, none⟩), .int .u16 (t : Int)] w fun e w' => Got B T (some (l, [])) (fun x v w' => OwnB w' w.heap.size v x) w e w' := by
  have b1 : ((t : Int) == 1) = false := beq_eq_false_iff_ne.2 (by omega)
  have b28 : ((t : Int) == 28) = false := beq_eq_false_iff_ne.2 (by omega)
  have b2 : ((t : Int) == 2) = false := beq_eq_false_iff_ne.2 (by omega)
  have b5 : ((t : Int) == 5) = false := beq_eq_false_iff_ne.2 (by omega)
  have b15 : ((t : Int) == 15) = false := beq_eq_false_iff_ne.2 (by omega)
  have b6 : ((t : Int) == 6) = false := beq_eq_false_iff_ne.2 (by omega)
  have b16 : ((t : Int) == 16) = false := beq_eq_false_iff_ne.2 (by omega)
  have b43 : ((t : Int) == 43) = false := beq_eq_false_iff_ne.2 (by omega)
  have b46 : ((t : Int) == 46) = false := beq_eq_false_iff_ne.2 (by omega)
  have b48 : ((t : Int) == 48) = false := beq_eq_false_iff_ne.2 (by omega)
  have b50 : ((t : Int) == 50) = false := beq_eq_false_iff_ne.2 (by omega)
  have b51 : ((t : Int) == 51) = false := beq_eq_false_iff_ne.2 (by omega)
  clear h1 h28 h2 h5 h15 h6 h16 h43 h46 h48 h50 h51
  go_enter Tryz.func90, Tryz.ntmps90
  go_wp2_with fail
  refine (rothers_any B T l _ hR).mono ?_
  rintro e w1 ⟨v, rfl, hx, hr, hm⟩
  go_wp2
  go_ret
  exact ⟨Or.inl ⟨l, [], v, rfl, rfl, hx, hr⟩, hm⟩
set_option maxRecDepth 5000 in
theorem takeCanon_any (B T t : Nat) (l : List UInt8) (w : World) (hR : Rdr B T l w) :
    Calls Tryz.prog 90 #[.pointer (some ⟨T, 0, none⟩), .int .u16 (t : Int)] w fun e w' => Got B T (D.can t l) (fun x v w' => OwnB w' w.heap.size v x) w e w' := by
  by_cases h1 : t = 1
  · subst h1; exact canon_1 B T l w hR
  by_cases h28 : t = 28
  · subst h28; exact canon_28 B T l w hR
  by_cases h2 : t = 2
  · subst h2; exact canon_2 B T l w hR
  by_cases h5 : t = 5
  · subst h5; exact canon_5 B T l w hR
  by_cases h15 : t = 15
  · subst h15; exact canon_15 B T l w hR
  by_cases h6 : t = 6
  · subst h6; exact canon_6 B T l w hR
  by_cases h16 : t = 16
  · subst h16; exact canon_16 B T l w hR
  by_cases h43 : t = 43
  · subst h43; exact canon_43 B T l w hR
  by_cases h46 : t = 46
  · subst h46; exact canon_46 B T l w hR
  by_cases h48 : t = 48
  · subst h48; exact canon_48 B T l w hR
  by_cases h50 : t = 50
  · subst h50; exact canon_50 B T l w hR
  by_cases h51 : t = 51
  · subst h51; exact canon_51 B T l w hR
  have e : D.can t l = some (l, []) := by simp [D.can, h1, h28, h2, h5, h15, h6, h16, h43, h46, h48, h50, h51]
  rw [e]
  exact canon_else B T t l w hR h1 h28 h2 h5 h15 h6 h16 h43 h46 h48 h50 h51
end Go.Proofs.YtdldaphkiphpnaaGreat

