/- The law WireSame: the walk. -/
import Derived.Test.YtpgebiopckmgbabGreatSam
namespace Go.Proofs.YtpgebiopckmgbabGreat
open Go.RowKit
set_option maxRecDepth 5000 in
theorem right_good {n : List (List UInt8)} (h : Right n) : M.Good n := ⟨fun h0 => (h.2.1 _ h0).1 rfl, fun l hl => (h.2.1 l hl).2, h.2.2⟩
set_option maxRecDepth 3000 in
set_option maxHeartbeats 4000000 in
theorem same_walk (n : List (List UInt8)) (ao : Option Addr) (len cap k : Nat) (w : World) (hl : Hid (n.length = len)) (hs : SlS w ao n) (hm : len ≤ 9223372036854775807) (hk : k < 256) :
    Calls Tryz.prog 3 #[.slice ao len cap, .int .u8 (k : Int)] w fun e w' => e = .returned (.bool true) ∧ Below w.heap.size w w' := by
  have HS := hide hs
  clear hs
  go_enter Tryz.func3, Tryz.ntmps3
  go_wp2_with fail
  refine (known_any _).mono ?_
  rintro e wa ⟨rfl, hb1⟩
  have B1 := hide hb1
  clear hb1
  go_wp2_with fail
  refine (right_any n ao len cap _ hl (by exact HS.out.below B1.out (Nat.le_refl _)) hm).mono ?_
  rintro e w1 ⟨t, rfl, ht, rfl⟩
  cases t with
  | false =>
    go_wp2
    go_ret
    exact ⟨rfl, B1.out⟩
  | true =>
    have HG := hide (right_good (ht rfl))
    clear ht
    rcases Nat.eq_zero_or_pos len with h0 | h0
    · subst h0
      have q1 : (((0 : Nat) : Int) == 0) = true := by decide
      go_wp2
      go_ret
      exact ⟨rfl, B1.out⟩
    have q1 : ((len : Int) == 0) = false := by simp; omega
    have HNE : Hid (n ≠ []) := by
      intro e
      have := hl.out
      rw [e] at this; simp at this; omega
    have BX : Hid (Below w.heap.size w ((w1.alloc (.cells #[.slice ao len cap, .int .u16 1, .int .u16 1] 28)).alloc (.cells #[.int .u16 0, .bool false, .int .i64 0, .bool false, .bool false, .bool false, .bool false, .int .i64 0, .slice (some ⟨w1.heap.size, 0, none⟩) 1 1, .slice none 0 0, .slice none 0 0, .slice none 0 0, .bool false, .int .u16 0, .bool false] 32))) := (B1.out.alloc B1.out.size _).alloc (by simp; have := B1.out.size; omega) _
    have SX : Hid (SI n ao cap w1.heap.size (w1.heap.size + 1) w 0 ((w1.alloc (.cells #[.slice ao len cap, .int .u16 1, .int .u16 1] 28)).alloc (.cells #[.int .u16 0, .bool false, .int .i64 0, .bool false, .bool false, .bool false, .bool false, .int .i64 0, .slice (some ⟨w1.heap.size, 0, none⟩) 1 1, .slice none 0 0, .slice none 0 0, .slice none 0 0, .bool false, .int .u16 0, .bool false] 32)) (.slice none 0 0) []) := by
      refine ⟨?_, World.ownsRow_nil _ _ _ _, rfl, fun x hx => (by cases hx), ?_, BX.out, by have := B1.out.size; omega⟩
      · have h := RowAt.new (w1.alloc (.cells #[.slice ao len cap, .int .u16 1, .int .u16 1] 28)) 32 #[.int .u16 0, .bool false, .int .i64 0, .bool false, .bool false, .bool false, .bool false, .int .i64 0, .slice (some ⟨w1.heap.size, 0, none⟩) 1 1, .slice none 0 0, .slice none 0 0, .slice none 0 0, .bool false, .int .u16 0, .bool false]
        rw [World.size_alloc] at h; exact h
      · rw [hl.out]; exact (RowAt.new w1 28 #[.slice ao len cap, .int .u16 1, .int .u16 1]).alloc _
    have HWL : Hid ((N.wire n).length ≤ 255) := by
      have h1 := N.body_len n
      have h2 := HG.out.2.2
      show _ ≤ _
      simp [N.wire]; omega
    obtain ⟨P, HP⟩ : ∃ P, Hid ((M.pre n 0).length = P) := ⟨_, rfl⟩
    have hP : P ≤ 300 := by rw [← HP.out, M.pre_len]; have := HWL.out; omega
    go_wp2_with (refine wpList_load_row rfl 32 (.tmp 5) rfl (w1.heap.size + 1) rfl 32 #[.int .u16 0, .bool false, .int .i64 0, .bool false, .bool false, .bool false, .bool false, .int .i64 0, .slice (some ⟨w1.heap.size, 0, none⟩) 1 1, .slice none 0 0, .slice none 0 0, .slice none 0 0, .bool false, .int .u16 0, .bool false] (0, 0) _ (by exact SX.out.msg) Tryz.underlying32 rfl infoM ?_)
    refine (bytes_q 0 0 false false false false false 0 0 [((ao : Option Addr), (cap : Nat), (⟨n, 1, 1⟩ : M.Q))] (some ⟨w1.heap.size, 0, none⟩) 1 _ (by omega) (by omega) (by omega) (by omega) (by exact SX.out.slQ HS.out) (by simp) (fun x hx => by rw [List.mem_singleton.1 hx]; exact HG.out) (fun x hx => by rw [List.mem_singleton.1 hx]; exact ⟨show 1 < 65536 by decide, show 1 < 65536 by decide⟩) (hide (fun w' => flags_zero 0 [((ao : Option Addr), (cap : Nat), (⟨n, 1, 1⟩ : M.Q))] (some ⟨w1.heap.size, 0, none⟩) 1 (fun _ => none) (fun _ => []) (fun _ => 0) w'))).mono ?_
    rintro e w2 ⟨vb, rfl, hOb, hb2⟩
    have S2 := hide (SX.out.below hb2)
    rw [show (M.wqs ([((ao : Option Addr), (cap : Nat), (⟨n, 1, 1⟩ : M.Q))].map (·.2.2)) (fun _ => none) (hdr 0 0 [((ao : Option Addr), (cap : Nat), (⟨n, 1, 1⟩ : M.Q))].length 0 0 0)).2 = M.pre n 0 from congrArg Prod.snd (M.pre_wqs n 0)] at hOb
    obtain ⟨ab, cb, rfl, _⟩ := hOb.open
    rw [HP.out]
    clear hOb hb2 SX BX
    obtain ⟨kk, hkk⟩ : ∃ kk : Nat, (k : Int) % 5 = (kk : Int) := ⟨k % 5, by omega⟩
    have hk5 : kk < 5 := by omega
    go_wp2
    go_loopw [8] (fun u wx => ∃ (j : Nat) (va : Value) (L : List RX), u = .int .i64 (j : Int) ∧ j ≤ kk ∧ Hid (SI n ao cap w1.heap.size (w1.heap.size + 1) w j wx va L)) (fun u _ => kk - (intOf u).toNat)
    case atStart => exact ⟨0, _, _, rfl, by omega, S2⟩
    case round =>
      clear S2
      obtain ⟨j, va, L, rfl, hj, HI⟩ := hrel
      have hzr := HI.out.bel.size
      have hmlt := HI.out.msg.lt
      have HJL := hide HI.out.len
      have hLn : L.length ≤ 5 := by have := HJL.out; omega
      by_cases hjk : j < kk
      · have hd1 : decide ((j : Int) < (kk : Int)) = true := by simp; omega
        have y9 : wr.cell? ⟨w1.heap.size + 1, 9, none⟩ = some va := HI.out.msg.cell 9
        have hj8 : IntKind.u8.wrap (j : Int) = (j : Int) := by rw [IntKind.wrap_u8]; omega
        obtain ⟨va1, va2, rfl, _⟩ := HI.out.own.form
        have bA : Below wr.heap.size wr ((wr.alloc (.cells #[.int .u8 (j : Int)] 5)).alloc (.cells #[.slice ao len cap, .int .u16 99, .int .u16 1, .int .u32 0, .slice (some ⟨wr.heap.size, 0, none⟩) 1 1] 39)) := ((Below.refl _ _).alloc (Nat.le_refl _) _).alloc (by simp) _
        have OA : Hid (OwnRc ((wr.alloc (.cells #[.int .u8 (j : Int)] 5)).alloc (.cells #[.slice ao len cap, .int .u16 99, .int .u16 1, .int .u32 0, .slice (some ⟨wr.heap.size, 0, none⟩) 1 1] 39)) w.heap.size (.slice va1 L.length va2) L) := own_below (show World.ownsRow _ _ _ _ _ _ _ from HI.out.own) bA
        have SR : Hid (SlR ((wr.alloc (.cells #[.int .u8 (j : Int)] 5)).alloc (.cells #[.slice ao len cap, .int .u16 99, .int .u16 1, .int .u32 0, .slice (some ⟨wr.heap.size, 0, none⟩) 1 1] 39)) (some ⟨wr.heap.size + 1, 0, none⟩) [(⟨ao, cap, some ⟨wr.heap.size, 0, none⟩, 1, M.again n (UInt8.ofNat j)⟩ : RX)]) := by
          have r1 := RowAt.new (wr.alloc (.cells #[.int .u8 (j : Int)] 5)) 39 #[.slice ao len cap, .int .u16 99, .int .u16 1, .int .u32 0, .slice (some ⟨wr.heap.size, 0, none⟩) 1 1]
          rw [World.size_alloc] at r1
          have r0 := (RowAt.new wr 5 #[.int .u8 (j : Int)]).alloc (.cells #[.slice ao len cap, .int .u16 99, .int .u16 1, .int .u32 0, .slice (some ⟨wr.heap.size, 0, none⟩) 1 1] 39)
          refine fun _ => ⟨_, 0, rfl, by simp, fun i y hy => ?_⟩
          cases i with
          | zero =>
            cases hy
            have hln : (M.again n (UInt8.ofNat j)).name.length = len := hl.out
            refine ⟨?_, r1.cell 1, r1.cell 2, r1.cell 3, r1.cell 4, (HS.out.below HI.out.bel (Nat.le_refl _)).below bA (Nat.le_refl _), ?_, fun e => by cases e⟩
            · show _ = some (Value.slice ao (M.again n (UInt8.ofNat j)).name.length cap)
              rw [hln]; exact r1.cell 0
            · refine fun _ => ⟨_, 0, rfl, by simp; omega, fun i hi => ?_⟩
              obtain rfl : i = 0 := by simp [M.again] at hi; exact hi
              show _ = some (Value.int .u8 ((UInt8.ofNat j).toNat : Int))
              rw [show ((UInt8.ofNat j).toNat : Int) = (j : Int) by rw [UInt8.toNat_ofNat']; omega]
              exact r0.cell 0
          | succ i => cases hy
        have hzA : w.heap.size ≤ ((wr.alloc (.cells #[.int .u8 (j : Int)] 5)).alloc (.cells #[.slice ao len cap, .int .u16 99, .int .u16 1, .int .u32 0, .slice (some ⟨wr.heap.size, 0, none⟩) 1 1] 39)).heap.size := by simp; omega
        clear bA
        go_wp2_with (at_builtin; refine wpList_append_R rfl (.tmp 39) (.tmp 45) rfl w.heap.size _ L rfl (by exact OA.out) (some ⟨wr.heap.size + 1, 0, none⟩) 1 1 [(⟨ao, cap, some ⟨wr.heap.size, 0, none⟩, 1, M.again n (UInt8.ofNat j)⟩ : RX)] rfl rfl (by exact SR.out) (by intro h; cases h) (by omega) hzA ?_; intro v4 w4 hO4 hG4; have N4 := hide (HI.out.next (by omega) (⟨ao, cap, some ⟨wr.heap.size, 0, none⟩, 1, M.again n (UInt8.ofNat j)⟩ : RX) ⟨rfl, rfl, rfl⟩ hO4 hG4); have M4 := row_grownO ((HI.out.msg.alloc _).alloc _) (show World.ownsRow _ _ _ _ _ _ _ from OA.out) (by decide) hG4; obtain ⟨a4, c4, rfl, _⟩ := hO4.form; have z9 : w4.cell? ⟨w1.heap.size + 1, 9, none⟩ = some (.slice va1 L.length va2) := M4.cell 9; have g9 : w4.frozen? ⟨w1.heap.size + 1, 9, none⟩ = false := M4.frozen 9; clear hO4 hG4 M4)
        have e4 : (L ++ [(⟨ao, cap, some ⟨wr.heap.size, 0, none⟩, 1, M.again n (UInt8.ofNat j)⟩ : RX)]).length = L.length + 1 := by simp
        rw [e4] at N4
        exact ⟨⟨j + 1, _, _, by go_num, by omega, N4⟩, by simp [intOf]; omega⟩
      · have HJK : Hid (j = kk) := by show _ = _; omega
        have hd1 : decide ((j : Int) < (kk : Int)) = false := by simp; omega
        obtain ⟨va1, va2, rfl, _⟩ := HI.out.own.form
        have HSEC := hide (HI.out.secs HS.out HG.out (by omega))
        have HOUT := hide (HI.out.out HNE.out HWL.out (by omega))
        obtain ⟨out, HO⟩ : ∃ out, Hid (M.pre n j ++ (M.ones j).flatMap (fun x => [192, 12, 0, 99, 0, 1, 0, 0, 0, 0, 0, 1, x]) = out) := ⟨_, rfl⟩
        rw [HO.out] at HOUT
        have HLO : Hid (out.length = P + 13 * kk) := by
          show _ = _
          rw [← HO.out, List.length_append, M.flat_len, M.pre_len, ← HP.out, M.pre_len, ← HJK.out]
          simp [M.ones]
        have HGET : Hid (∀ i, i < kk → out.getD (P + 13 * i) 0 = 192 ∧ out.getD (P + 13 * i + 1) 0 = 12) := by
          intro i hi
          have h1 := M.flat_get (M.ones j) i (by simp [M.ones]; have := HJK.out; omega)
          have e1 : (M.pre n j).length = P := by rw [← HP.out, M.pre_len, M.pre_len]
          simp only [List.getD_eq_getElem?_getD] at h1 ⊢
          rw [← HO.out]
          rw [List.getElem?_append_right (by omega), List.getElem?_append_right (by omega), e1, show P + 13 * i - P = 13 * i by omega, show P + 13 * i + 1 - P = 13 * i + 1 by omega]
          exact h1
        go_wp2_with (refine wpList_load_row rfl 32 (.tmp 5) rfl (w1.heap.size + 1) rfl 32 #[.int .u16 0, .bool false, .int .i64 0, .bool false, .bool false, .bool false, .bool false, .int .i64 0, .slice (some ⟨w1.heap.size, 0, none⟩) 1 1, .slice va1 L.length va2, .slice none 0 0, .slice none 0 0, .bool false, .int .u16 0, .bool false] (0, 0) _ (by exact HI.out.msg) Tryz.underlying32 rfl infoM ?_)
        refine (bytes_r 0 0 false false false false false 0 0 [((ao : Option Addr), (cap : Nat), (⟨n, 1, 1⟩ : M.Q))] (some ⟨w1.heap.size, 0, none⟩) 1 (sA va1) (sL L) (sC va2) _ (by omega) (by omega) (by omega) (by omega) (by exact HI.out.slQ HS.out) (by simp) (fun x hx => by rw [List.mem_singleton.1 hx]; exact HG.out) (fun x hx => by rw [List.mem_singleton.1 hx]; exact ⟨show 1 < 65536 by decide, show 1 < 65536 by decide⟩) HSEC.out (hide (fun w' => flags_zero 0 [((ao : Option Addr), (cap : Nat), (⟨n, 1, 1⟩ : M.Q))] (some ⟨w1.heap.size, 0, none⟩) 1 (sA va1) (sL L) (sC va2) w')) _ (hide (M.pre_wqs n L.length)) out HOUT (by rw [HLO.out]; omega)).mono ?_
        rintro e w5 ⟨vc, rfl, hOc, hb5⟩
        obtain ⟨ac, cc, rfl, hslc, _⟩ := hOc.open
        have HSLC := hide hslc
        have B5 := hide (HI.out.bel.trans (hb5.mono HI.out.bel.size))
        clear hOc hslc hb5 HI HSEC HOUT hmlt
        obtain ⟨lc, HLC⟩ : ∃ lc, Hid (out.length = lc) := ⟨_, rfl⟩
        have hlc : lc = P + 13 * kk := by rw [← HLC.out, HLO.out]
        rw [HLC.out]
        go_wp2
        go_loopw [11] (fun u wx => ∃ i : Nat, u = .int .i64 (i : Int) ∧ i ≤ kk ∧ w5 = wx) (fun u _ => kk - (intOf u).toNat)
        case atStart => exact ⟨0, rfl, by omega, rfl⟩
        case round =>
          obtain ⟨i, rfl, hi, rfl⟩ := hrel
          by_cases hik : i < kk
          · have hd2 : decide ((i : Int) < (kk : Int)) = true := by simp; omega
            obtain ⟨gc, oc, rfl, _, hc⟩ := HSLC.out (by rw [HLO.out]; omega)
            obtain ⟨g1, g2⟩ := HGET.out i hik
            obtain ⟨p, HPP⟩ : ∃ p : Nat, Hid (p = P + 13 * i) := ⟨_, rfl⟩
            have hpi : (P : Int) + 13 * (i : Int) = (p : Int) := by have := HPP.out; omega
            have hpl : (p : Int) + 1 < (P : Int) + 13 * (kk : Int) := by have := HPP.out; omega
            have hpl2 : p + 1 < P + 13 * kk := by have := HPP.out; omega
            have d1 : w5.cell? ⟨gc, oc + p, none⟩ = some (.int .u8 192) := by
              have h1 := hc (P + 13 * i) (by rw [HLO.out]; omega)
              rw [g1] at h1
              rw [HPP.out]; exact h1
            have d2 : w5.cell? ⟨gc, oc + (p + 1), none⟩ = some (.int .u8 12) := by
              have h1 := hc (P + 13 * i + 1) (by rw [HLO.out]; omega)
              rw [g2] at h1
              rw [HPP.out]; exact h1
            clear hc g1 g2
            go_wp2
            exact ⟨⟨i + 1, by go_num, by omega, trivial⟩, by simp [intOf]; omega⟩
          · have hd2 : decide ((i : Int) < (kk : Int)) = false := by simp; omega
            go_wp2
            go_ret
            exact ⟨rfl, B5.out⟩
end Go.Proofs.YtpgebiopckmgbabGreat
