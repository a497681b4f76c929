/- Canonical forms, plain; rdata.smallName, smallSig, takeTexts. -/
import Derived.Test.YtagopkmehlpjpaaTakG
import Derived.Test.YtagopkmehlpjpaaTakC
namespace Go.Proofs.Ytagopkmehlpjpaa
open Go.RowKit
namespace D
def Soa.low (s : Soa) : Soa := ⟨N.lowN s.main, N.lowN s.box, s.a, s.b, s.c, s.d, s.e⟩
def Sig.low (s : Sig) : Sig := ⟨s.type, s.alg, s.labels, s.ttl, s.expire, s.begin_, s.tag, N.lowN s.signer, s.sig⟩
def small (l : List UInt8) : Option (List UInt8 × List UInt8) := (nm l).map fun p => (N.wire (N.lowN p.1), p.2)
def tok (l : List UInt8) : Bool :=
  match l with
  | [] => false
  | k :: r => if r.length < k.toNat then false else if r.length = k.toNat then true else tok (r.drop k.toNat)
termination_by l.length
decreasing_by simp only [List.length_drop, List.length_cons]; omega
def txt (l : List UInt8) : Option (List UInt8 × List UInt8) := if tok l then some (l, []) else none
def can (t : Nat) (l : List UInt8) : Option (List UInt8 × List UInt8) :=
  if t = 1 then by_ 4 l else if t = 28 then by_ 16 l else if t = 2 ∨ t = 5 then small l
  else if t = 15 then (by_ 2 l).bind fun p => (small p.2).map fun q => (p.1 ++ q.1, q.2)
  else if t = 6 then (soa l).map fun p => (soaB p.1.low, p.2)
  else if t = 16 then txt l
  else if t = 43 then (by_ 5 l).map fun p => (p.1 ++ p.2, [])
  else if t = 46 then (sig l).map fun p => (sigB p.1.low, p.2)
  else if t = 48 then (key l).map fun p => (keyB p.1, p.2)
  else if t = 50 then (chain l).map fun p => (chainB p.1, p.2)
  else if t = 51 then (by_ 4 l).bind fun p => (cnt p.2).map fun q => (p.1 ++ pc q.1, q.2)
  else some (l, [])
def tgt (t : Nat) (l : List UInt8) : Option (List (List UInt8) × List UInt8) :=
  if t = 2 ∨ t = 5 then nm l else if t = 15 then (by_ 2 l).bind fun p => nm p.2 else none
set_option maxRecDepth 5000 in
theorem size_low (n : List (List UInt8)) : N.size (N.lowN n) = N.size n := by
  unfold N.size N.lowN
  rw [List.map_map]
  congr 2
  apply List.map_congr_left
  intro l _
  simp [N.lowL_len]
set_option maxRecDepth 5000 in
theorem opn_len (k : Nat) : ∀ (b : List UInt8) (least : Nat) (m : List UInt16), b.length ≤ k → T.opn least b = some m → m.length ≤ 8 * b.length := by
  induction k with
  | zero =>
    intro b least m hb h
    obtain rfl : b = [] := List.eq_nil_of_length_eq_zero (by omega)
    rw [T.opn_nil] at h; cases h; simp
  | succ k ih =>
    intro b least m hb h
    match b with
    | [] => rw [T.opn_nil] at h; cases h; simp
    | [x] => rw [T.opn_one] at h; cases h
    | x :: n :: r =>
      rw [T.opn_two] at h
      split at h
      · cases h
      · rename_i hbad
        rw [Option.map_eq_some_iff] at h
        obtain ⟨m', h1, rfl⟩ := h
        have h2 := ih _ _ _ (by simp only [List.length_cons, List.length_drop] at hb ⊢; omega) h1
        have h3 : (T.typ x.toNat (r.take n.toNat)).length ≤ 8 * (r.take n.toNat).length := by
          unfold T.typ T.places
          rw [List.length_map]
          exact Nat.le_trans (List.length_filter_le _ _) (by simp)
        have h4 : ¬ r.length < n.toNat := fun e => hbad (Or.inr (Or.inr (Or.inr (Or.inl e))))
        rw [List.length_append]
        simp only [List.length_cons, List.length_drop, List.length_take] at h2 h3 ⊢
        omega
set_option maxRecDepth 5000 in
theorem chain_len {l r : List UInt8} {c : Chain} (h : chain l = some (c, r)) : (T.bmp c.types).length ≤ l.length ∧ c.types.length ≤ 8 * l.length := by
  obtain ⟨hl, _, _, _, _, _, _, _, k7⟩ := chain_back h
  have h1 : (T.bmp c.types).length ≤ l.length := by rw [hl]; simp only [chainB, List.length_append]; omega
  have h2 := opn_len _ _ 0 c.types (Nat.le_refl _) (T.opn_bmp _ _ _ (Nat.le_refl _) k7 (fun _ _ => Nat.zero_le _))
  exact ⟨h1, by omega⟩
set_option maxRecDepth 5000 in
theorem tok_none {l : List UInt8} (h : cnt l = none) : tok l = false := by
  match l with
  | [] => rw [tok]
  | k :: r =>
    unfold cnt n8 by_ at h
    simp only [Option.bind_some] at h
    split at h
    · rename_i h1; rw [tok, if_pos h1]
    · cases h
set_option maxRecDepth 5000 in
theorem tok_some {l x r : List UInt8} (h : cnt l = some (x, r)) : tok l = (decide (r = []) || tok r) ∧ l = pc x ++ r ∧ r.length < l.length := by
  obtain ⟨e, hx⟩ := cnt_back h
  refine ⟨?_, e, by rw [e]; simp [pc]; omega⟩
  rw [e]
  unfold pc
  rw [List.cons_append, tok, nat_u8 _ (by omega), if_neg (by rw [List.length_append]; omega)]
  cases r with
  | nil => simp
  | cons a r => rw [if_neg (by simp), List.drop_left]; simp
end D
set_option maxRecDepth 5000 in
theorem OwnS.sl {w : World} {base : Nat} {ao : Option Addr} {c : Nat} {n : List (List UInt8)} (h : OwnS w base (.slice ao n.length c) n) : SlS w ao n := by
  obtain ⟨_, _, e, hs, _⟩ := h.open
  cases e; exact hs
set_option maxRecDepth 5000 in
theorem good_small {n : List (List UInt8)} (h : D.Good n) : N.Small n := small_of (by have := h.2.2; omega)
set_option maxRecDepth 5000 in
theorem Rdr.kp {B T base : Nat} {l : List UInt8} {w w' : World} (h : Rdr B T l w) (hk : Kp base w w') (hB : B ≤ base) : Rdr B T l w' := by
  obtain ⟨ao, c, h1, h2, h3, h4, h5, h6, h7⟩ := h
  exact ⟨ao, c, hk.2 _ _ _ h1 (by decide), h2.below (hk.1.mono hB), h3, h4, h5, h6, Nat.le_trans h7 hk.1.size⟩
set_option maxRecDepth 5000 in
theorem Mv.kp {T : Nat} {w w1 w2 : World} (h : Mv T w w1) (hk : Kp w.heap.size w1 w2) : Mv T w w2 :=
  ⟨hk.1.os.trans h.os, hk.1.tape.trans h.tape, hk.1.output.trans h.output, Nat.le_trans h.size hk.1.size, fun k hk' hn => (hk.1.block k hk').trans (h.block k hk' hn)⟩
set_option maxRecDepth 5000 in
theorem OwnB.len {w : World} {base : Nat} {v : Value} {l : List UInt8} (h : OwnB w base v l) : lenOf v = l.length := by
  obtain ⟨ao, c, rfl, _⟩ := h.open
  rfl
set_option maxRecDepth 5000 in
theorem smallName_any (B T : Nat) (l : List UInt8) (w : World) (hR : Rdr B T l w) :
    Calls Try.prog 69 #[.pointer (some ⟨T, 0, none⟩)] w fun e w' => Got B T (D.small l) (fun x v w' => OwnB w' w.heap.size v x) w e w' := by
  go_enter Try.func69, Try.ntmps69
  go_wp2_with fail
  refine (rname_any B T l _ hR).mono ?_
  rintro e w1 ⟨⟨n, r, v, ho, rfl, hx, hr⟩ | ⟨ho, rfl⟩, hm⟩
  · obtain ⟨_, hg⟩ := D.nm_back ho
    obtain ⟨a1, c1, rfl, hs1, _⟩ := hx.open
    have S1 := hide hs1
    clear hs1
    go_wp2_with fail
    refine (lower_any n a1 n.length c1 _ rfl (by exact S1.out) (hide (good_small hg))).mono ?_
    rintro e w2 ⟨v2, rfl, hO2, hb2⟩
    obtain ⟨a2, c2, rfl, hs2, _⟩ := hO2.open
    have S2 := hide hs2
    clear hs2
    go_wp2_with fail
    refine (wire_any (N.lowN n) a2 (N.lowN n).length c2 _ rfl (by exact S2.out) (hide (small_of (by rw [D.size_low]; have := hg.2.2; omega)))).mono ?_
    rintro e w3 ⟨v3, rfl, hO3, hb3⟩
    have hb := hb2.trans (hb3.mono hb2.size)
    go_wp2
    go_ret
    exact ⟨Or.inl ⟨_, r, _, by unfold D.small; rw [ho]; rfl, rfl, hO3.lower (Nat.le_trans hm.size hb2.size), hr.below hb⟩, hm.trans (Mv.of hb)⟩
  · unfold fell50
    go_wp2
    exact ⟨rfl, Or.inr ⟨by unfold D.small; rw [ho]; rfl, rfl⟩, hm⟩
set_option maxHeartbeats 400000 in
set_option maxRecDepth 5000 in
theorem takeTexts_any (B T : Nat) (l : List UInt8) (w : World) (hR : Rdr B T l w) :
    Calls Try.prog 71 #[.pointer (some ⟨T, 0, none⟩)] w fun e w' => Got B T (D.txt l) (fun x v w' => OwnB w' w.heap.size v x) w e w' := by
  have hlen := hR.len
  go_enter Try.func71, Try.ntmps71
  go_wp2_with fail
  refine (rcounted_any B T l _ hR).mono ?_
  rintro e w1 ⟨⟨x, r, v, ho, rfl, hx, hr⟩ | ⟨ho, rfl⟩, hm⟩
  rotate_left
  · have ht := D.tok_none ho
    unfold fell50
    go_wp2
    exact ⟨rfl, Or.inr ⟨by unfold D.txt; rw [ht]; rfl, rfl⟩, hm⟩
  obtain ⟨ht, hl, hlt⟩ := D.tok_some ho
  obtain ⟨_, hx255⟩ := D.cnt_back ho
  obtain ⟨a1, c1, rfl, hs1, hn1, _⟩ := hx.open
  have S1 := hide hs1
  have N1 := hide hn1
  have HT := hide ht
  have HL := hide hl
  clear hs1 hn1 ht hl hx
  go_wp2_with fail
  refine (appendCounted_any x a1 x.length c1 w.heap.size (.slice none 0 0) [] _ (OwnB.nil _ _) (by exact hm.size) (by simp) rfl (by exact S1.out) N1.out (by omega) (by intro _ b o _ e; simp [Value.ownBlock] at e)).mono ?_
  rintro e w2 ⟨v2, rfl, hO2, hK2⟩
  have D2 := hide (hr.kp hK2 hR.base)
  have M2 := hide (hm.kp hK2)
  have O2 := hide hO2
  clear hO2 hK2 hr S1 hm
  go_wp2
  go_loopw [3] (fun v wr => ∃ (o r : List UInt8), OwnB wr w.heap.size v o ∧ Rdr B T r wr ∧ Mv T w wr ∧ Hid (o ++ r = l) ∧ Hid (D.tok l = (decide (r = []) || D.tok r))) (fun v _ => l.length - lenOf v)
  case atStart => exact ⟨_, r, O2.out, D2.out, M2.out, HL.out.symm, HT.out⟩
  case round =>
    clear O2 D2 M2 HL HT N1
    obtain ⟨o, r, hO, hr, hm, HL, HT⟩ := hrel
    have hll : o.length + r.length = l.length := by rw [← HL.out, List.length_append]
    have hlo := hO.len
    have HD := hide hr
    have HO := hide hO
    have HM := hide hm
    clear hr hO hm
    go_wp2_with fail
    refine (rdone_any B T r _ (by exact HD.out)).mono ?_
    rintro e w3 ⟨rfl, rfl⟩
    by_cases hr0 : r = []
    · subst hr0
      go_wp2
      go_ret
      exact ⟨Or.inl ⟨l, [], _, by unfold D.txt; rw [HT.out]; rfl, rfl, by have := HL.out; rw [List.append_nil] at this; rw [← this]; exact HO.out, HD.out⟩, HM.out⟩
    · have hd : decide (r = []) = false := decide_eq_false hr0
      rw [hd]
      rw [hd, Bool.false_or] at HT
      clear hd
      go_wp2_with fail
      refine (rcounted_any B T r _ (by exact HD.out)).mono ?_
      rintro e w4 ⟨⟨x4, r4, v4, ho4, rfl, hx4, hr4⟩ | ⟨ho4, rfl⟩, hm4⟩
      rotate_left
      · have ht := D.tok_none ho4
        rw [ht] at HT
        have hm5 := HM.out.trans hm4
        unfold fell50
        go_wp2
        exact ⟨rfl, Or.inr ⟨by unfold D.txt; rw [HT.out]; rfl, rfl⟩, hm5⟩
      obtain ⟨ht, hl, hlt⟩ := D.tok_some ho4
      obtain ⟨_, hx255⟩ := D.cnt_back ho4
      obtain ⟨a1, c1, rfl, hs1, hn1, _⟩ := hx4.open
      have O4 := hide (HD.out.ownB hm4 HO.out)
      have hz4 : w.heap.size ≤ w4.heap.size := Nat.le_trans HM.out.size hm4.size
      have HNE : Hid (0 < x4.length → ∀ b o, a1 = some ⟨b, o, none⟩ → some b ≠ u3.ownBlock) := by
        intro hn b o' e e2
        have h1 := (HO.out.blk e2).2
        have h2 := (hx4.blk (g := b) (by rw [e]; rfl)).1
        omega
      have S1 := hide hs1
      have N1 := hide hn1
      have HT4 := hide (HT.out.trans ht)
      have HL4 : Hid ((o ++ D.pc x4) ++ r4 = l) := by rw [List.append_assoc, ← hl]; exact HL.out
      have M4 := hide (HM.out.trans hm4)
      have D4 := hide hr4
      have hol : (o ++ D.pc x4).length = o.length + x4.length + 1 := by simp [D.pc]; omega
      have hlen4 : (o ++ D.pc x4).length + r4.length = l.length := by have := congrArg List.length HL4.out; rwa [List.length_append] at this
      clear hs1 hn1 ht hl hx4 hm4 HM HD HO hr4
      go_wp2_with fail
      refine (appendCounted_any x4 a1 x4.length c1 w.heap.size u3 o _ (by exact O4.out) (by exact hz4) (by omega) rfl (by exact S1.out) N1.out (by omega) (by exact HNE.out)).mono ?_
      rintro e w5 ⟨v5, rfl, hO5, hK5⟩
      have hlo5 := hO5.len
      have D5 := hide (D4.out.kp hK5 hR.base)
      have M5 := hide (M4.out.kp hK5)
      go_wp2
      go_roundw
      case rel => exact ⟨_, r4, hO5, D5.out, M5.out, HL4, HT4⟩
      case measure => omega
end Go.Proofs.Ytagopkmehlpjpaa
