/- (*wire.reader).wholeName. -/
import Derived.Test.YtpgebiopckmgbabGreatRdw
namespace Go.Proofs.YtpgebiopckmgbabGreat
open Go.RowKit
set_option maxRecDepth 5000 in
theorem RdW.mv {B T P : Nat} {ao : Option Addr} {c : Nat} {b : List UInt8} {p : Nat} {w w' : World} (h : RdW B T ao c b p w) (hne : T ≠ P) (hP : B ≤ P) (hm : Mv P w w') : RdW B T ao c b p w' := by
  obtain ⟨h1, h2, h3, h4, h5, h6, h7, h8⟩ := h
  exact ⟨row_mv h1 hne hm, h2.below (hm.below hP h8), h3, h4, h5, h6, h7, Nat.le_trans h8 hm.size⟩
set_option maxRecDepth 5000 in
theorem RdW.kp {B T base : Nat} {ao : Option Addr} {c : Nat} {b : List UInt8} {p : Nat} {w w' : World} (h : RdW B T ao c b p w) (hk : Kp base w w') (hB : B ≤ base) : RdW B T ao c b p w' := by
  obtain ⟨h1, h2, h3, h4, h5, h6, h7, h8⟩ := h
  exact ⟨hk.2 _ _ _ h1 (by decide), h2.below (hk.1.mono hB), h3, h4, h5, h6, h7, Nat.le_trans h8 hk.1.size⟩
set_option maxRecDepth 5000 in
theorem Mv.kp {T : Nat} {w w1 w2 : World} (h : Mv T w w1) (hk : Kp w.heap.size w1 w2) : Mv T w w2 :=
  ⟨hk.1.os.trans h.os, hk.1.tape.trans h.tape, hk.1.output.trans h.output, Nat.le_trans h.size hk.1.size, fun k hk' hn => (hk.1.block k hk').trans (h.block k hk' hn)⟩
set_option maxRecDepth 5000 in
theorem Mv.part {T P : Nat} {w w1 w2 : World} (h : Mv T w w1) (hm : Mv P w1 w2) (hP : P = T ∨ w.heap.size ≤ P) : Mv T w w2 := by
  refine ⟨hm.os.trans h.os, hm.tape.trans h.tape, hm.output.trans h.output, Nat.le_trans h.size hm.size, fun k hk hn => ?_⟩
  refine (hm.block k (Nat.lt_of_lt_of_le hk h.size) (fun e => ?_)).trans (h.block k hk hn)
  cases e
  rcases hP with rfl | hP
  · exact hn rfl
  · omega
/- the two readers: P is the one that reads, at pp; behind a jump the first one stays at pe -/
def Two (B T E : Nat) (ao : Option Addr) (c : Nat) (b : List UInt8) (P pp pe : Nat) (w : World) : Prop :=
  RdW B P ao c b pp w ∧ ((P = T ∧ RdW B E ao c b 0 w) ∨ (P = E ∧ RdW B T ao c b pe w))
set_option maxRecDepth 5000 in
theorem Two.read {B T E : Nat} {ao : Option Addr} {c : Nat} {b : List UInt8} {P pp pe q : Nat} {w w' : World} (h : Two B T E ao c b P pp pe w) (hne : T ≠ E) (hB : B ≤ T) (hE : B ≤ E) (hm : Mv P w w') (hr : RdW B P ao c b q w') : Two B T E ao c b P q pe w' := by
  refine ⟨hr, ?_⟩
  rcases h.2 with ⟨rfl, h2⟩ | ⟨rfl, h2⟩
  · exact Or.inl ⟨rfl, h2.mv (fun e => hne e.symm) hB hm⟩
  · exact Or.inr ⟨rfl, h2.mv hne hE hm⟩
set_option maxRecDepth 5000 in
theorem Two.kp {B T E base : Nat} {ao : Option Addr} {c : Nat} {b : List UInt8} {P pp pe : Nat} {w w' : World} (h : Two B T E ao c b P pp pe w) (hk : Kp base w w') (hB : B ≤ base) : Two B T E ao c b P pp pe w' := by
  refine ⟨h.1.kp hk hB, ?_⟩
  rcases h.2 with ⟨rfl, h2⟩ | ⟨rfl, h2⟩
  · exact Or.inl ⟨rfl, h2.kp hk hB⟩
  · exact Or.inr ⟨rfl, h2.kp hk hB⟩
def posOf (part : Value) (wr : World) : Nat := match part with
  | .pointer (some a) => (intOf ((wr.cell? ⟨a.block, 1, none⟩).getD undef)).toNat
  | _ => 0
set_option maxRecDepth 5000 in
theorem posOf_at {B P : Nat} {ao : Option Addr} {c : Nat} {b : List UInt8} {pp : Nat} {w : World} (h : RdW B P ao c b pp w) : posOf (.pointer (some ⟨P, 0, none⟩)) w = pp := by
  have h1 : w.cell? ⟨P, 1, none⟩ = some (.int .i64 (pp : Int)) := by rw [h.1.cell 1]; rfl
  unfold posOf
  simp only [h1, Option.getD_some]
  simp [intOf]
def fin (T P pe q : Nat) : Nat := if P = T then q else pe
set_option maxRecDepth 5000 in
theorem Two.first {B T E : Nat} {ao : Option Addr} {c : Nat} {b : List UInt8} {P pp pe : Nat} {w : World} (h : Two B T E ao c b P pp pe w) (hne : T ≠ E) : RdW B T ao c b (fin T P pe pp) w := by
  unfold fin
  rcases h.2 with ⟨rfl, _⟩ | ⟨rfl, h2⟩
  · rw [if_pos rfl]; exact h.1
  · rw [if_neg (fun e => hne e.symm)]; exact h2
set_option maxRecDepth 5000 in
theorem Two.jump {B T E : Nat} {ao : Option Addr} {c : Nat} {b : List UInt8} {P pp pe : Nat} {w : World} (h : Two B T E ao c b P pp pe w) (hne : T ≠ E) (hE : B ≤ E) (q : Nat) (hq : q ≤ b.length) :
    Two B T E ao c b E q (fin T P pe pp) (w.setCell ⟨E, 1, none⟩ (.int .i64 (q : Int))) := by
  have h1 := h.first hne
  have hm : Mv E w (w.setCell ⟨E, 1, none⟩ (.int .i64 (q : Int))) := Mv.set E 1 _ _
  rcases h.2 with ⟨rfl, h2⟩ | ⟨rfl, _⟩
  · exact ⟨h2.set q hq, Or.inr ⟨rfl, h1.mv hne hE hm⟩⟩
  · exact ⟨h.1.set q hq, Or.inr ⟨rfl, h1.mv hne hE hm⟩⟩
set_option maxRecDepth 5000 in
theorem Two.rowE {B T E : Nat} {ao : Option Addr} {c : Nat} {b : List UInt8} {P pp pe : Nat} {w : World} (h : Two B T E ao c b P pp pe w) : ∃ q : Nat, RdW B E ao c b q w := by
  rcases h.2 with ⟨rfl, h2⟩ | ⟨rfl, _⟩
  · exact ⟨_, h2⟩
  · exact ⟨_, h.1⟩
set_option maxRecDepth 5000 in
theorem i64_small (n : Nat) (h : n < 65536) : IntKind.i64.wrap (n : Int) = (n : Int) := by
  rw [IntKind.wrap_i64]
  omega
set_option maxRecDepth 5000 in
theorem i64_and_nat (a b : Nat) (ha : a < 65536) (hb : b < 65536) : bits .and .i64 (a : Int) (b : Int) = ((a &&& b : Nat) : Int) := by
  have hx : a &&& b < 2 ^ 16 := Nat.and_lt_two_pow _ (by omega)
  have h1 : (BitVec.ofInt 64 (a : Int)).toNat = a := by
    rw [BitVec.ofInt_natCast, BitVec.toNat_ofNat]; exact Nat.mod_eq_of_lt (by omega)
  have h2 : (BitVec.ofInt 64 (b : Int)).toNat = b := by
    rw [BitVec.ofInt_natCast, BitVec.toNat_ofNat]; exact Nat.mod_eq_of_lt (by omega)
  show IntKind.i64.wrap ((BitVec.ofInt 64 (a : Int) &&& BitVec.ofInt 64 (b : Int)).toNat : Int) = _
  rw [BitVec.toNat_and, h1, h2, i64_small _ (by omega)]
set_option maxRecDepth 5000 in
theorem i64_or_nat (a b : Nat) (ha : a < 65536) (hb : b < 65536) : bits .or .i64 (a : Int) (b : Int) = ((a ||| b : Nat) : Int) := by
  have hx : a ||| b < 2 ^ 16 := Nat.or_lt_two_pow (by omega) (by omega)
  have h1 : (BitVec.ofInt 64 (a : Int)).toNat = a := by
    rw [BitVec.ofInt_natCast, BitVec.toNat_ofNat]; exact Nat.mod_eq_of_lt (by omega)
  have h2 : (BitVec.ofInt 64 (b : Int)).toNat = b := by
    rw [BitVec.ofInt_natCast, BitVec.toNat_ofNat]; exact Nat.mod_eq_of_lt (by omega)
  show IntKind.i64.wrap ((BitVec.ofInt 64 (a : Int) ||| BitVec.ofInt 64 (b : Int)).toNat : Int) = _
  rw [BitVec.toNat_or, h1, h2, i64_small _ (by omega)]
set_option maxRecDepth 5000 in
theorem and_63 (k : Nat) (h : k < 256) : bits .and .i64 (k : Int) 63 = ((k % 64 : Nat) : Int) := by
  have h1 := i64_and_nat k 63 (by omega) (by omega)
  have h2 : k &&& 63 = k % 64 := Nat.and_two_pow_sub_one_eq_mod k 6
  rw [h2] at h1
  exact h1
set_option maxRecDepth 5000 in
theorem or_64 (x y : Nat) (hx : x < 64) (hy : y < 256) : bits .or .i64 ((x : Int) * 256) (y : Int) = ((x * 256 + y : Nat) : Int) := by
  have h1 := i64_or_nat (x * 256) y (by omega) (by omega)
  rw [nat_join 8 (x * 256) y (by omega) (by omega), Int.natCast_mul] at h1
  exact h1
set_option maxRecDepth 5000 in
theorem body_more (acc : List (List UInt8)) (l : List UInt8) : N.body (acc ++ [l]) = N.body acc ++ [UInt8.ofNat l.length] ++ l := by simp [N.body]
set_option maxHeartbeats 3200000 in
set_option maxRecDepth 5000 in
theorem whn_any (B T : Nat) (ao : Option Addr) (c : Nat) (b : List UInt8) (p : Nat) (w : World) (hR : RdW B T ao c b p w) :
    Calls Tryz.prog 56 #[.pointer (some ⟨T, 0, none⟩)] w fun e w' => GotW B T ao c b (M.wq b p p []) (fun n v w' => OwnB w' w.heap.size v (N.wire n)) w e w' := by
  have HR := hide hR
  obtain ⟨hT, hs, hc, hnil, hBT, hl, hp, hB⟩ := hR
  have c0 : w.cell? ⟨T, 0, none⟩ = some (.slice ao b.length c) := by rw [hT.cell 0]; rfl
  have hlt := hT.lt
  have c1 : (w.alloc (.cells #[.slice ao b.length c, .int .i64 0] 63)).cell? ⟨T, 1, none⟩ = some (.int .i64 (p : Int)) := by rw [(hT.alloc _).cell 1]; rfl
  have RE : Hid (RdW B w.heap.size ao c b 0 (w.alloc (.cells #[.slice ao b.length c, .int .i64 0] 63))) := ⟨RowAt.new w 63 _, hs.below ((Below.refl B w).alloc hB _), hc, hnil, hB, hl, by omega, by simp; omega⟩
  have RT : Hid (RdW B T ao c b p (w.alloc (.cells #[.slice ao b.length c, .int .i64 0] 63))) := HR.out.below ((Below.refl _ w).alloc (Nat.le_refl _) _)
  have M0 : Hid (Mv T w (w.alloc (.cells #[.slice ao b.length c, .int .i64 0] 63))) := Mv.of ((Below.refl _ w).alloc (Nat.le_refl _) _)
  clear hs hT HR
  go_enter Tryz.func56, Tryz.ntmps56
  go_wp2
  go_quiet (fail)
  go_wp2
  go_loopw [2, 4, 5] (fun out part beg wr => ∃ (acc : List (List UInt8)) (begin P pp pe : Nat), beg = .int .i64 (begin : Int) ∧ part = .pointer (some ⟨P, 0, none⟩) ∧ begin ≤ b.length ∧ Two B T w.heap.size ao c b P pp pe wr ∧ OwnB wr w.heap.size out (N.body acc) ∧ Mv T w wr ∧ N.size acc ≤ 256 ∧ Hid (M.wq b p p [] = (M.wq b begin pp acc).map fun r => (r.1, fin T P pe r.2))) (fun _ part beg wr => (intOf beg).toNat * (b.length + 1) + (b.length - posOf part wr))
  case atStart => exact ⟨[], p, T, p, 0, rfl, rfl, hp, ⟨RT.out, Or.inl ⟨rfl, RE.out⟩⟩, OwnB.nil _ _, M0.out.trans (Mv.of (drew_below _ ⟨nq, rfl⟩)), by simp [N.size], by show _ = _; simp [fin]⟩
  case round =>
    obtain ⟨acc, begin, P, pp, pe, rfl, rfl, hbl, h2, hO, hM, hz, HW⟩ := hrel
    have H2 := hide h2
    have HO := hide hO
    have HM := hide hM
    have hPT : P = T ∨ w.heap.size ≤ P := by
      rcases h2.2 with ⟨h, _⟩ | ⟨h, _⟩
      · exact Or.inl h
      · exact Or.inr (by omega)
    have hpp := h2.1.2.2.2.2.2.2.1
    have HPOS := hide (posOf_at h2.1)
    clear h2 hO hM
    go_wp2_with fail
    refine (n8_any B P ao c b pp _ (by exact H2.out.1)).mono ?_
    rintro e w1 ⟨⟨x, q, v, ho, rfl, rfl, hr⟩ | ⟨ho, rfl⟩, hm⟩
    rotate_left
    · have hno : b.length ≤ pp := by
        unfold M.n8 at ho
        split at ho
        · assumption
        · cases ho
      have HN : Hid (M.wq b p p [] = none) := by show _ = _; rw [HW.out, M.wq, dif_pos hno]; rfl
      have HMM := hide (HM.out.part hm hPT)
      clear ho hno HM HO H2 HW hm
      unfold fell60
      go_wp2
      exact ⟨rfl, Or.inr ⟨HN.out, rfl⟩, HMM.out⟩
    have hyes : ¬ b.length ≤ pp := by
      intro h
      unfold M.n8 at ho
      rw [if_pos h] at ho; cases ho
    have hxq : x = M.by_ b pp ∧ q = pp + 1 := by
      unfold M.n8 at ho
      rw [if_neg hyes] at ho; cases ho; exact ⟨rfl, rfl⟩
    obtain ⟨rfl, rfl⟩ := hxq
    have hk : M.by_ b pp < 256 := (b.getD pp 0).toNat_lt
    have H3 := hide (H2.out.read (by omega) hBT hB hm hr)
    have O3 : Hid (OwnB w1 w.heap.size u2 (N.body acc)) := hide (own_mv (show World.ownsRow _ _ _ _ _ _ _ from HO.out) H2.out.1.1 (by decide) hm)
    have M3 := hide (HM.out.part hm hPT)
    have HE := hide (M.wq.eq_1 b begin pp acc)
    clear ho hm hr HM HO H2
    generalize hkk : M.by_ b pp = k at hk HE
    have HKK := hide hkk
    clear hkk
    rcases Nat.lt_or_ge k 64 with h64 | h64
    · have e1 : (k : Int) / 64 = 0 := by omega
      have HOK : Hid ((k : Int) = ((UInt8.ofNat k).toNat : Int)) := by show _ = _; rw [D.nat_u8 _ (by omega)]
      have HBL := hide (N.body_len acc)
      have z3 : w.heap.size ≤ w1.heap.size := M3.out.size
      go_wp2_with (at_builtin; refine wpList_append_B rfl (.tmp 27) (.tmp 30) rfl w.heap.size _ (N.body acc) rfl (by exact O3.out.alloc _) _ _ _ [UInt8.ofNat k] rfl rfl (by exact SlL.oneI _ _ _ _ HOK.out) (by intro h; cases h) (by have := HBL.out; omega) (by simp; omega) ?_; intro v4 w4 hO4 hG4; have K4 := hide (Kp.app O3.out hG4 z3); have O4 := hide hO4; clear hO4 hG4)
      have H4 := hide (H3.out.kp K4.out hB)
      have M4 := hide (M3.out.kp K4.out)
      clear H3 O3 M3 K4
      refine (take_any B P ao c b (pp + 1) k _ (by exact H4.out.1) (by omega)).mono ?_
      rintro e w5 ⟨⟨hle, a', rfl, hs5, hn5, hr5⟩ | ⟨hlt5, rfl⟩, hm5⟩
      rotate_left
      · have HN : Hid (M.wq b p p [] = none) := by
          show _ = _
          rw [HW.out, HE.out, dif_neg hyes, if_neg (by omega), if_neg (by omega), dif_pos (Or.inr (by omega))]; rfl
        have HMM := hide (M4.out.part hm5 hPT)
        clear hlt5 hm5 H4 M4 O4 HE HW HKK
        unfold fell60
        go_wp2
        exact ⟨rfl, Or.inr ⟨HN.out, rfl⟩, HMM.out⟩
      have hB5 : B ≤ w5.heap.size := Nat.le_trans H4.out.1.2.2.2.2.2.2.2 hm5.size
      have H5 := hide (H4.out.read (by omega) hBT hB hm5 hr5)
      have O5 : Hid (OwnB w5 w.heap.size v4 (N.body acc ++ [UInt8.ofNat k])) := hide (own_mv (show World.ownsRow _ _ _ _ _ _ _ from O4.out) H4.out.1.1 (by decide) hm5)
      have M5 := hide (M4.out.part hm5 hPT)
      have z5 : w.heap.size ≤ w5.heap.size := M5.out.size
      obtain ⟨L, hL⟩ : ∃ L, (b.drop (pp + 1)).take k = L := ⟨_, rfl⟩
      have HL : Hid (L.length = k) := by show _ = _; rw [← hL, List.length_take, List.length_drop]; omega
      have HLB : Hid (M.lab b pp = L) := by show _ = _; unfold M.lab; rw [HKK.out]; exact hL
      rw [hL] at hs5
      have S5 := hide (hs5.sl hB5)
      have N5 := hide hn5
      obtain ⟨Z, hZ'⟩ : ∃ Z, N.body acc ++ [UInt8.ofNat k] ++ L = Z := ⟨_, rfl⟩
      have hZ := hide hZ'
      have HZL : Hid (Z.length = N.size acc + k) := by
        show _ = _
        have h1 := HBL.out
        have h2 := HL.out
        rw [← hZ']; simp only [List.length_append, List.length_cons, List.length_nil]; omega
      have hzz : 255 < Z.length ∨ (¬ 255 < Z.length ∧ k = 0) ∨ (¬ 255 < Z.length ∧ k ≠ 0) := by omega
      clear hL hs5 hn5 hZ' hm5 hr5 H4 O4 M4
      rcases hzz with hgt | ⟨hgt, hk0⟩ | ⟨hgt, hk0⟩
      · have q1 : (255 : Int) < (Z.length : Int) := by omega
        have HN : Hid (M.wq b p p [] = none) := by
          show _ = _
          have h1 := HZL.out
          rw [HW.out, HE.out, dif_neg hyes]
          by_cases hk0 : k = 0
          · rw [if_pos hk0, if_pos (by omega)]; rfl
          · rw [if_neg hk0, if_neg (by omega), dif_neg (by omega), if_pos (by rw [M.size_more, HLB.out, HL.out]; omega)]; rfl
        go_wp2_with (at_builtin; refine wpList_append_B rfl (.tmp 31) (.tmp 34) rfl w.heap.size _ (N.body acc ++ [UInt8.ofNat k]) rfl (by exact O5.out) _ _ _ L rfl HL.out (by exact S5.out) N5.out (by have := HBL.out; simp only [List.length_append, List.length_cons, List.length_nil]; omega) z5 ?_; intro v6 w6 hO6 hG6; have K6 := hide (Kp.grown O5.out hG6 z5); rw [hZ.out] at hO6; obtain ⟨a6, c6, rfl, _⟩ := hO6.open; have O6 := hide hO6; clear hO6 hG6)
        have HMM := hide (M5.out.kp K6.out)
        exact ⟨rfl, Or.inr ⟨HN.out, rfl⟩, HMM.out⟩
      · have q1 : ¬ (255 : Int) < (Z.length : Int) := by omega
        have q2 : ((k : Int) == 0) = true := beq_iff_eq.2 (by omega)
        have HK0 := hide hk0
        clear hk0
        have HN : Hid (M.wq b p p [] = some (acc, fin T P pe (pp + 1))) := by
          show _ = _
          have h1 := HZL.out
          have h2 := HK0.out
          rw [HW.out, HE.out, dif_neg hyes, if_pos h2, if_neg (by omega)]; rfl
        go_wp2_with (at_builtin; refine wpList_append_B rfl (.tmp 31) (.tmp 34) rfl w.heap.size _ (N.body acc ++ [UInt8.ofNat k]) rfl (by exact O5.out) _ _ _ L rfl HL.out (by exact S5.out) N5.out (by have := HBL.out; simp only [List.length_append, List.length_cons, List.length_nil]; omega) z5 ?_; intro v6 w6 hO6 hG6; have K6 := hide (Kp.grown O5.out hG6 z5); rw [hZ.out] at hO6; obtain ⟨a6, c6, rfl, _⟩ := hO6.open; have O6 := hide hO6; clear hO6 hG6)
        go_ret
        have hw : Z = N.wire acc := by
          have h1 := HL.out
          have h3 := HK0.out
          have h2 : L = [] := List.eq_nil_of_length_eq_zero (by omega)
          rw [← hZ.out, h2, List.append_nil, h3]; rfl
        rw [hw] at O6 ⊢
        exact ⟨Or.inl ⟨acc, _, _, HN.out, rfl, O6.out, (by have h := (H5.out.kp K6.out hB).first (by omega); rwa [HK0.out] at h)⟩, M5.out.kp K6.out⟩
      · have q1 : ¬ (255 : Int) < (Z.length : Int) := by omega
        have q2 : ((k : Int) == 0) = false := beq_eq_false_iff_ne.2 (by omega)
        go_wp2_with (at_builtin; refine wpList_append_B rfl (.tmp 31) (.tmp 34) rfl w.heap.size _ (N.body acc ++ [UInt8.ofNat k]) rfl (by exact O5.out) _ _ _ L rfl HL.out (by exact S5.out) N5.out (by have := HBL.out; simp only [List.length_append, List.length_cons, List.length_nil]; omega) z5 ?_; intro v6 w6 hO6 hG6; have K6 := hide (Kp.grown O5.out hG6 z5); rw [hZ.out] at hO6; obtain ⟨a6, c6, rfl, _⟩ := hO6.open; have O6 := hide hO6; clear hO6 hG6)
        go_roundw
        case rel =>
          refine ⟨acc ++ [L], begin, P, pp + 1 + k, pe, rfl, rfl, hbl, H5.out.kp K6.out hB, ?_, M5.out.kp K6.out, ?_, ?_⟩
          · rw [body_more, HL.out, hZ.out]; exact O6.out
          · have h1 := HZL.out
            rw [M.size_more, HL.out]; omega
          · show _ = _
            have h1 := HZL.out
            rw [HW.out, HE.out, dif_neg hyes, if_neg hk0, if_neg (by omega), dif_neg (by omega), if_neg (by rw [M.size_more, HLB.out, HL.out]; omega), HLB.out]
        case measure =>
          have h1 := HPOS.out
          have h2 := posOf_at (H5.out.kp K6.out hB).1
          rw [h1, h2]
          omega
    · have e0 : ((k : Int) / 64 == 0) = false := beq_eq_false_iff_ne.2 (by omega)
      rcases Nat.lt_or_ge k 192 with h192 | h192
      · have e3 : ((k : Int) / 64 == 3) = false := beq_eq_false_iff_ne.2 (by omega)
        have HN : Hid (M.wq b p p [] = none) := by
          show _ = _
          rw [HW.out, HE.out, dif_neg hyes, if_neg (by omega), if_neg (by omega), dif_pos (Or.inl (by omega))]; rfl
        go_wp2
        exact ⟨rfl, Or.inr ⟨HN.out, rfl⟩, M3.out⟩
      · have e3 : ((k : Int) / 64 == 3) = true := beq_iff_eq.2 (by omega)
        have hand := and_63 k hk
        obtain ⟨u, hu⟩ : ∃ u, k % 64 = u := ⟨_, rfl⟩
        have hu2 : u < 64 := by omega
        rw [hu] at hand
        have HU := hide hu
        clear hu
        have hwr : wrap64 ((u : Int) * 256) = (u : Int) * 256 := by unfold wrap64; omega
        go_wp2_with fail
        refine (n8_any B P ao c b (pp + 1) _ (by exact H3.out.1)).mono ?_
        rintro e w4 ⟨⟨y, q, v, ho, rfl, rfl, hr⟩ | ⟨ho, rfl⟩, hm⟩
        rotate_left
        · have hno : b.length ≤ pp + 1 := by
            unfold M.n8 at ho
            split at ho
            · assumption
            · cases ho
          have HN : Hid (M.wq b p p [] = none) := by
            show _ = _
            rw [HW.out, HE.out, dif_neg hyes, if_neg (by omega), if_pos h192, if_pos (by omega)]; rfl
          have HMM := hide (M3.out.part hm hPT)
          clear ho hno hm
          unfold fell60
          go_wp2
          exact ⟨rfl, Or.inr ⟨HN.out, rfl⟩, HMM.out⟩
        have hyes2 : ¬ b.length ≤ pp + 1 := by
          intro h
          unfold M.n8 at ho
          rw [if_pos h] at ho; cases ho
        have hxq : y = M.by_ b (pp + 1) ∧ q = pp + 1 + 1 := by
          unfold M.n8 at ho
          rw [if_neg hyes2] at ho; cases ho; exact ⟨rfl, rfl⟩
        obtain ⟨hy, rfl⟩ := hxq
        have hy2 : y < 256 := by rw [hy]; exact (b.getD (pp + 1) 0).toNat_lt
        have HPL : Hid (M.plc b pp = u * 256 + y) := by show _ = _; unfold M.plc; rw [HKK.out, hy, HU.out]
        have hor := or_64 u y hu2 hy2
        have H4 := hide (H3.out.read (by omega) hBT hB hm hr)
        have O4 : Hid (OwnB w4 w.heap.size u2 (N.body acc)) := hide (own_mv (show World.ownsRow _ _ _ _ _ _ _ from O3.out) H3.out.1.1 (by decide) hm)
        have M4 := hide (M3.out.part hm hPT)
        clear ho hm hr H3 O3 M3 hy
        obtain ⟨pl, hpl⟩ : ∃ pl, u * 256 + y = pl := ⟨_, rfl⟩
        rw [hpl] at hor HPL
        clear hpl
        by_cases hge : begin ≤ pl
        · have q1 : (begin : Int) ≤ (pl : Int) := by omega
          have HN : Hid (M.wq b p p [] = none) := by
            show _ = _
            rw [HW.out, HE.out, dif_neg hyes, if_neg (by omega), if_pos h192, if_neg (by omega), dif_pos (by rw [HPL.out]; exact hge)]; rfl
          go_wp2
          exact ⟨rfl, Or.inr ⟨HN.out, rfl⟩, M4.out⟩
        · have q1 : ¬ (begin : Int) ≤ (pl : Int) := by omega
          obtain ⟨q0, hRE⟩ := H4.out.rowE
          have g1 : w4.cell? ⟨w.heap.size, 1, none⟩ = some (.int .i64 (q0 : Int)) := by rw [hRE.1.cell 1]; rfl
          have g2 := hRE.1.frozen 1
          have H5 := hide (H4.out.jump (by omega) hB pl (by omega))
          have O5 := hide (own_set (show World.ownsRow _ _ _ _ _ _ _ from O4.out) hRE.1 (by decide) 1 (.int .i64 (pl : Int)))
          have M5 := hide (M4.out.part (Mv.set w.heap.size 1 w4 (.int .i64 (pl : Int))) (Or.inr (Nat.le_refl _)))
          clear hRE H4 O4 M4
          go_wp2
          go_roundw
          case rel =>
            refine ⟨acc, pl, w.heap.size, pl, fin T P pe (pp + 1 + 1), rfl, rfl, by omega, H5.out, O5.out, M5.out, hz, ?_⟩
            show _ = _
            rw [HW.out, HE.out, dif_neg hyes, if_neg (by omega), if_pos h192, if_neg (by omega), dif_neg (by rw [HPL.out]; exact hge), HPL.out, Option.map_map]
            congr 1
            funext r
            have hf : fin T w.heap.size (fin T P pe (pp + 1 + 1)) r.2 = fin T P pe (pp + 1 + 1) := if_neg (by omega)
            show (r.1, fin T P pe (pp + 2)) = (r.1, fin T w.heap.size (fin T P pe (pp + 1 + 1)) r.2)
            rw [hf]
          case measure =>
            have h1 := HPOS.out
            have h2 := posOf_at H5.out.1
            rw [h1, h2]
            simp only [intOf, Int.toNat_natCast]
            have h3 : (pl + 1) * (b.length + 1) ≤ begin * (b.length + 1) := Nat.mul_le_mul_right _ (by omega)
            rw [Nat.add_mul] at h3
            omega
end Go.Proofs.YtpgebiopckmgbabGreat
