/- The law BaseLoose returns true, for every slice of bytes and any two numbers, and turns nothing that was there. -/
import Derived.Test.YtffggdjmhgialaaLooseA
namespace Go.Proofs.Ytffggdjmhgialaa
open Go.RowKit
theorem baseLoose_long (ao : Option Addr) (n cap : Nat) (x y : Int) (w : World) (hn : 200 < n) (hm : n ≤ 9223372036854775807) :
    Calls Try.prog 6 #[.slice ao n cap, .int .i64 x, .int .i64 y] w fun e w' => e = .returned (.bool true) ∧ Below w.heap.size w w' := by
  have hb : ((n : Int) == 0) = false := by simp; omega
  go_enter Try.func6, Try.ntmps6
  go_wp2_with (go_at_call 8; refine (known_any _).mono ?_; rintro e w1 ⟨rfl, hB1⟩)
  go_ret
  exact ⟨rfl, hB1⟩
theorem baseLoose_none (ao : Option Addr) (cap : Nat) (x y : Int) (w : World) :
    Calls Try.prog 6 #[.slice ao 0 cap, .int .i64 x, .int .i64 y] w fun e w' => e = .returned (.bool true) ∧ Below w.heap.size w w' := by
  go_enter Try.func6, Try.ntmps6
  go_wp2_with (go_at_call 8; refine (known_any _).mono ?_; rintro e w1 ⟨rfl, hB1⟩)
  go_ret
  exact ⟨rfl, hB1⟩
set_option maxRecDepth 3000 in
set_option maxHeartbeats 2000000 in
theorem baseLoose_walk (bs : List UInt8) (ao : Option Addr) (n cap : Nat) (x y : Int) (w : World) (hl : Hid (bs.length = n)) (hs : SlL w ao bs) (hn0 : 0 < n) (hn : n ≤ 200) :
    Calls Try.prog 6 #[.slice ao n cap, .int .i64 x, .int .i64 y] w fun e w' => e = .returned (.bool true) ∧ Below w.heap.size w w' := by
  have HS := hide hs
  clear hs
  obtain ⟨D, hD⟩ := is_all (k := 5) (by omega) bs
  obtain ⟨p, hp, hpl, hpv⟩ := hD.1
  have HD := hide hD
  obtain ⟨N, hN⟩ : ∃ N, N = D.length := ⟨_, rfl⟩
  rw [← hN] at hpl
  have hN1 : 5 * N = 8 * n + p := by have := hl.out; omega
  have hN0 : 0 < N := by omega
  have hN2 : N ≤ 1000 := by omega
  have HN := hide hN
  obtain ⟨D0, dl, hDD⟩ : ∃ D0 dl, D = D0 ++ [dl] := ⟨D.dropLast, D.getLast (fun e => by rw [e] at hN; simp at hN; omega), (List.dropLast_concat_getLast _).symm⟩
  have HDD := hide hDD
  have hD0 : D0.length = N - 1 := by rw [hN, hDD]; simp
  have HD0 := hide hD0
  have hdl32 : dl < 32 := hD.2 dl (by rw [hDD]; simp)
  have hdlp : dl % 2 ^ p = 0 := B.last_mod hp (by rw [← hDD, ← hN, hN1, hl.out]) (by rw [← hDD]; exact hD.1)
  have HDLP := hide hdlp
  have hTl : (B.txt D).length = N := by rw [B.txt_len, hN]
  have HTL := hide hTl
  clear hpv hpl hN hTl hD hDD hD0 hdlp
  have hb0 : ((n : Int) == 0) = false := by simp; omega
  have hbN : ((N : Int) == 0) = false := by simp; omega
  go_enter Try.func6, Try.ntmps6
  go_wp2_with (go_at_call 8; refine (known_any _).mono ?_; rintro e w1 ⟨rfl, hB1⟩; have hz1 := hB1.size; have hs1 := HS.out.below hB1 (Nat.le_refl _))
  refine (hex32_is bs D _ n cap _ hl (by exact hs1) (by omega) HD).mono ?_
  rintro e w2 ⟨rfl, hB2⟩
  have hb2 := hB1.trans (hB2.mono hz1)
  have hz2 := hb2.size
  obtain ⟨c, w3, hcv, hR3, hB3, hc⟩ := conv_bytes w2 (B.txt D)
  rw [HTL.out] at hcv hc
  have hb3 := hb2.trans (hB3.mono hz2)
  have hz3 := hb3.size
  have hg3 := hR3.lt
  generalize w2.heap.size = g at hcv hR3 hg3 hz2
  clear hB1 hB2 hs1 hb2 hB3 hz1
  go_wp2_with fail
  refine (place_any x N _ hN0 (by omega)).mono ?_
  rintro e w4 ⟨i, hi, rfl, rfl⟩
  clear hcv
  have hcell := hR3.cell i (by rw [HTL.out]; exact hi)
  have hfr := hR3.frozen i (by rw [HTL.out]; exact hi)
  obtain ⟨d, hd⟩ : ∃ d, d = D.getD i 0 := ⟨_, rfl⟩
  have hiD : i < D.length := by rw [← HN.out]; exact hi
  have hd32 : d < 32 := HD.out.2 d (by rw [hd]; simp [hiD])
  have hch : (B.txt D).getD i 0 = B.dch d := by rw [hd]; unfold B.txt; simp [hiD]
  rw [hch] at hcell
  have HCH := hide hch
  clear hd hch hiD
  have hcl := (B.dch d).toNat_lt
  by_cases h97 : 97 ≤ (B.dch d).toNat
  · obtain ⟨h118, hdv⟩ := B.dval_cap d hd32 h97
    obtain ⟨z, hz⟩ : ∃ z : UInt8, z.toNat = (B.dch d).toNat - 32 := ⟨UInt8.ofNat ((B.dch d).toNat - 32), by simp; omega⟩
    have hR4 := hR3.set i z (((B.dch d).toNat : Int) - 32) (by omega)
    have HLL : Hid (B.dv ((B.txt D).set i z) = D) := by
      show _ = _
      rw [B.dv_set _ _ _ (by rw [HTL.out]; exact hi) (by rw [hz, hdv, HCH.out, B.dval_dch d hd32]), B.dv_txt D (fun e he => HD.out.2 e he)]
    have HL4 : Hid (((B.txt D).set i z).length = N) := by show _ = _; rw [List.length_set]; exact HTL.out
    have hb4 : Below w.heap.size w (w4.setCell ⟨g, i, none⟩ (.int .u8 (((B.dch d).toNat : Int) - 32))) := hb3.setCell (by simp; omega) _
    generalize (B.txt D).set i z = L at hR4 HLL HL4
    have hst := run_str N c hR4.sl HL4.out
    clear hz hdv hR3 hb3 hg3 hz3
    go_wp2_with fail
    have hgw := hR4.lt
    have hzw := hb4.size
    refine (o32_good _ L bs n _ hl (by exact rfl) (by rw [show (ByteArray.mk L.toArray).size = N by rw [← HL4.out]; simp [ByteArray.size]]; omega) (by rw [show Hid (B.Good 5 32 L bs) = B.Good 5 32 L bs from rfl]; exact ⟨B.val_of_dv (by rw [HLL.out]; exact HD.out.2), by rw [HLL.out]; exact HD.out.1⟩)).mono ?_
    rintro e w5 ⟨a5, c5, rfl, hs5, hB5⟩
    have hb5 := hb4.trans (hB5.mono hzw)
    have hz5 := hb5.size
    have hR5 := hR4.below hB5 hgw
    have hsb5 := HS.out.below hb5 (Nat.le_refl _)
    clear hB5 hb4 hR4 hst hgw hzw
    go_wp2_with fail
    refine (bytes_same bs a5 ao n n c5 cap _ (by exact hs5) (by exact hsb5) hl hl).mono ?_
    rintro e w6 ⟨rfl, rfl⟩
    have hleft : 5 * (N : Int) - 8 * (n : Int) = (p : Int) := by omega
    by_cases hp0 : p = 0
    · subst hp0
      go_wp2
      go_ret
      exact ⟨rfl, hb5⟩
    · have hpb : ((p : Int) == 0) = false := by simp; omega
      go_wp2_with fail
      refine (hex32_is bs D _ n cap _ hl (by exact hsb5) (by omega) HD).mono ?_
      rintro e w7 ⟨rfl, hB7⟩
      have hb7 := hb5.trans (hB7.mono hz5)
      have hz7 := hb7.size
      have hR7 := hR5.below hB7 hR5.lt
      have hlt7 : ∀ W, (Instr.slice 9 (.string ⟨(B.txt D).toArray⟩) (some (.int .i64 ((N : Int) - 1))) none none).run Try.prog W = .ok (.string ⟨#[B.dch dl]⟩) W := fun W => by
        rw [HDD.out]; exact last_text D0 dl _ (by rw [HD0.out]; omega) W
      clear hB7 hb5 hR5 hz5 hsb5 hs5
      go_wp2_with fail
      go_loopw [12] (fun v wr => ∃ k : Nat, k ≤ dl ∧ v = .int .i64 (k : Int) ∧ wr = w7) (fun v _ => 32 - (intOf v).toNat)
      case atStart => exact ⟨0, by omega, rfl, rfl⟩
      case round =>
        obtain ⟨k, hk, rfl, rfl⟩ := hrel
        have hsk := slice32 .i64 k (by omega)
        by_cases hkd : k < dl
        · have hne := dch_ne k (by omega) dl hdl32 (by omega)
          have hne2 : (!([B.dch k] == [B.dch dl])) = true := by rw [hne]; rfl
          go_wp2
          go_roundw
          case rel => exact ⟨k + 1, by omega, by go_num, trivial⟩
          case measure => simp [intOf]; omega
        · obtain rfl : k = dl := by omega
          by_cases h31 : k < 31
          · go_wp2_with fail
            refine (place_any y p _ (by omega) (by omega)).mono ?_
            rintro e w8 ⟨t, ht, rfl, rfl⟩
            obtain ⟨hv1, hv2⟩ := B.turned k hdl32 p hp t ht HDLP.out
            have hxor := xor_pow k t hdl32 (by omega)
            obtain ⟨hp1, hp2⟩ := pow_bounds t (by omega)
            generalize k ^^^ 2 ^ t = v at hxor hv1 hv2
            have hsv := slice32 .i64 v hv1
            have hhd := run_headB ⟨g, 0, none⟩ N c (N - 1) (by omega) ((N : Int) - 1) (by omega)
            have HBAD : Hid (∀ b, ¬ B.Good 5 32 (L.take (N - 1) ++ [B.dch v]) b) := fun b => by
              rw [← HD0.out]
              exact bad_turn (bs := bs) hp (by rw [HD0.out, hl.out]; omega) hv1 hv2 (by rw [HLL.out]; exact HDD.out) b
            have hpre := SlL.take hR7.sl (N - 1)
            have hPl : (L.take (N - 1)).length = N - 1 := by rw [List.length_take, HL4.out]; omega
            generalize L.take (N - 1) = P1 at HBAD hpre hPl
            have HPL := hide hPl
            have HPRE := hide hpre
            have hadd := add_text P1 v (by rw [hPl]; omega)
            have HSZ : Hid ((ByteArray.mk (P1 ++ [B.dch v]).toArray).size ≤ 1000000) := by show _ ≤ _; simp [ByteArray.size]; omega
            have hw1 : IntKind.i64.wrap ((N : Int) - 1) = (N : Int) - 1 := by rw [IntKind.wrap_i64]; omega
            have hw2 : IntKind.i64.wrap ((v : Int) + 1) = (v : Int) + 1 := by rw [IntKind.wrap_i64]; omega
            clear hsk hlt7 hPl hpre hv2 hR7
            go_wp2_with fail
            go_region_held3 (fun w' => (convert 22 9 (.slice (some ⟨g, 0, none⟩) (N - 1) c)).run Try.prog w' = .ok (.string ⟨P1.toArray⟩) w')
              ((first
                | exact run_str (N - 1) c (W := w8.drew) HPRE.out HPL.out
                | exact run_str (N - 1) c (SlL.below (w := w8.drew) HPRE.out hB9 (Nat.le_refl _)) HPL.out))
              ((first
                | (go_at_call 11; refine (o32_bad _ (P1 ++ [B.dch v]) _ (by exact rfl) (by exact HSZ.out) HBAD).mono ?_; rintro e w9 ⟨rfl, hB9⟩; have hb9 : Below w.heap.size w w9 := hb7.drew.trans (hB9.mono hz7))))
            all_goals go_wp2
            all_goals go_ret
            all_goals exact ⟨rfl, hb9⟩
          · go_wp2_with fail
            refine (place_any y p _ (by omega) (by omega)).mono ?_
            rintro e w8 ⟨t, ht, rfl, rfl⟩
            obtain ⟨hv1, hv2⟩ := B.turned k hdl32 p hp t ht HDLP.out
            have hxor := xor_pow k t hdl32 (by omega)
            obtain ⟨hp1, hp2⟩ := pow_bounds t (by omega)
            generalize k ^^^ 2 ^ t = v at hxor hv1 hv2
            have hsv := slice32 .i64 v hv1
            have hhd := run_headB ⟨g, 0, none⟩ N c (N - 1) (by omega) ((N : Int) - 1) (by omega)
            have HBAD : Hid (∀ b, ¬ B.Good 5 32 (L.take (N - 1) ++ [B.dch v]) b) := fun b => by
              rw [← HD0.out]
              exact bad_turn (bs := bs) hp (by rw [HD0.out, hl.out]; omega) hv1 hv2 (by rw [HLL.out]; exact HDD.out) b
            have hpre := SlL.take hR7.sl (N - 1)
            have hPl : (L.take (N - 1)).length = N - 1 := by rw [List.length_take, HL4.out]; omega
            generalize L.take (N - 1) = P1 at HBAD hpre hPl
            have HPL := hide hPl
            have HPRE := hide hpre
            have hadd := add_text P1 v (by rw [hPl]; omega)
            have HSZ : Hid ((ByteArray.mk (P1 ++ [B.dch v]).toArray).size ≤ 1000000) := by show _ ≤ _; simp [ByteArray.size]; omega
            have hw1 : IntKind.i64.wrap ((N : Int) - 1) = (N : Int) - 1 := by rw [IntKind.wrap_i64]; omega
            have hw2 : IntKind.i64.wrap ((v : Int) + 1) = (v : Int) + 1 := by rw [IntKind.wrap_i64]; omega
            clear hsk hlt7 hPl hpre hv2 hR7
            go_wp2_with fail
            go_region_held3 (fun w' => (convert 22 9 (.slice (some ⟨g, 0, none⟩) (N - 1) c)).run Try.prog w' = .ok (.string ⟨P1.toArray⟩) w')
              ((first
                | exact run_str (N - 1) c (W := w8.drew) HPRE.out HPL.out
                | exact run_str (N - 1) c (SlL.below (w := w8.drew) HPRE.out hB9 (Nat.le_refl _)) HPL.out))
              ((first
                | (go_at_call 11; refine (o32_bad _ (P1 ++ [B.dch v]) _ (by exact rfl) (by exact HSZ.out) HBAD).mono ?_; rintro e w9 ⟨rfl, hB9⟩; have hb9 : Below w.heap.size w w9 := hb7.drew.trans (hB9.mono hz7))))
            all_goals go_wp2
            all_goals go_ret
            all_goals exact ⟨rfl, hb9⟩
  · have h96 : ((B.dch d).toNat : Int) < 97 := by omega
    have HLL : Hid (B.dv (B.txt D) = D) := B.dv_txt D (fun e he => HD.out.2 e he)
    have HL4 := HTL
    have hR4 := hR3
    have hb4 := hb3
    have hst := run_str N c hR4.sl HL4.out
    clear hR3 hb3
    generalize hLt : B.txt D = L at hR4 HLL HL4 hst
    have HLT := hide hLt
    clear hLt
    go_wp2_with fail
    have hgw := hR4.lt
    have hzw := hb4.size
    refine (o32_good _ L bs n _ hl (by exact rfl) (by rw [show (ByteArray.mk L.toArray).size = N by rw [← HL4.out]; simp [ByteArray.size]]; omega) (by rw [show Hid (B.Good 5 32 L bs) = B.Good 5 32 L bs from rfl]; exact ⟨B.val_of_dv (by rw [HLL.out]; exact HD.out.2), by rw [HLL.out]; exact HD.out.1⟩)).mono ?_
    rintro e w5 ⟨a5, c5, rfl, hs5, hB5⟩
    have hb5 := hb4.trans (hB5.mono hzw)
    have hz5 := hb5.size
    have hR5 := hR4.below hB5 hgw
    have hsb5 := HS.out.below hb5 (Nat.le_refl _)
    clear hB5 hb4 hR4 hst hgw hzw
    go_wp2_with fail
    refine (bytes_same bs a5 ao n n c5 cap _ (by exact hs5) (by exact hsb5) hl hl).mono ?_
    rintro e w6 ⟨rfl, rfl⟩
    have hleft : 5 * (N : Int) - 8 * (n : Int) = (p : Int) := by omega
    by_cases hp0 : p = 0
    · subst hp0
      go_wp2
      go_ret
      exact ⟨rfl, hb5⟩
    · have hpb : ((p : Int) == 0) = false := by simp; omega
      go_wp2_with fail
      refine (hex32_is bs D _ n cap _ hl (by exact hsb5) (by omega) HD).mono ?_
      rintro e w7 ⟨rfl, hB7⟩
      have hb7 := hb5.trans (hB7.mono hz5)
      have hz7 := hb7.size
      have hR7 := hR5.below hB7 hR5.lt
      have hlt7 : ∀ W, (Instr.slice 9 (.string ⟨(B.txt D).toArray⟩) (some (.int .i64 ((N : Int) - 1))) none none).run Try.prog W = .ok (.string ⟨#[B.dch dl]⟩) W := fun W => by
        rw [HDD.out]; exact last_text D0 dl _ (by rw [HD0.out]; omega) W
      clear hB7 hb5 hR5 hz5 hsb5 hs5
      go_wp2_with fail
      go_loopw [12] (fun v wr => ∃ k : Nat, k ≤ dl ∧ v = .int .i64 (k : Int) ∧ wr = w7) (fun v _ => 32 - (intOf v).toNat)
      case atStart => exact ⟨0, by omega, rfl, rfl⟩
      case round =>
        obtain ⟨k, hk, rfl, rfl⟩ := hrel
        have hsk := slice32 .i64 k (by omega)
        by_cases hkd : k < dl
        · have hne := dch_ne k (by omega) dl hdl32 (by omega)
          have hne2 : (!([B.dch k] == [B.dch dl])) = true := by rw [hne]; rfl
          go_wp2
          go_roundw
          case rel => exact ⟨k + 1, by omega, by go_num, trivial⟩
          case measure => simp [intOf]; omega
        · obtain rfl : k = dl := by omega
          by_cases h31 : k < 31
          · go_wp2_with fail
            refine (place_any y p _ (by omega) (by omega)).mono ?_
            rintro e w8 ⟨t, ht, rfl, rfl⟩
            obtain ⟨hv1, hv2⟩ := B.turned k hdl32 p hp t ht HDLP.out
            have hxor := xor_pow k t hdl32 (by omega)
            obtain ⟨hp1, hp2⟩ := pow_bounds t (by omega)
            generalize k ^^^ 2 ^ t = v at hxor hv1 hv2
            have hsv := slice32 .i64 v hv1
            have hhd := run_headB ⟨g, 0, none⟩ N c (N - 1) (by omega) ((N : Int) - 1) (by omega)
            have HBAD : Hid (∀ b, ¬ B.Good 5 32 (L.take (N - 1) ++ [B.dch v]) b) := fun b => by
              rw [← HD0.out]
              exact bad_turn (bs := bs) hp (by rw [HD0.out, hl.out]; omega) hv1 hv2 (by rw [HLL.out]; exact HDD.out) b
            have hpre := SlL.take hR7.sl (N - 1)
            have hPl : (L.take (N - 1)).length = N - 1 := by rw [List.length_take, HL4.out]; omega
            generalize L.take (N - 1) = P1 at HBAD hpre hPl
            have HPL := hide hPl
            have HPRE := hide hpre
            have hadd := add_text P1 v (by rw [hPl]; omega)
            have HSZ : Hid ((ByteArray.mk (P1 ++ [B.dch v]).toArray).size ≤ 1000000) := by show _ ≤ _; simp [ByteArray.size]; omega
            have hw1 : IntKind.i64.wrap ((N : Int) - 1) = (N : Int) - 1 := by rw [IntKind.wrap_i64]; omega
            have hw2 : IntKind.i64.wrap ((v : Int) + 1) = (v : Int) + 1 := by rw [IntKind.wrap_i64]; omega
            clear hsk hlt7 hPl hpre hv2 hR7
            go_wp2_with fail
            go_region_held3 (fun w' => (convert 22 9 (.slice (some ⟨g, 0, none⟩) (N - 1) c)).run Try.prog w' = .ok (.string ⟨P1.toArray⟩) w')
              ((first
                | exact run_str (N - 1) c (W := w8.drew) HPRE.out HPL.out
                | exact run_str (N - 1) c (SlL.below (w := w8.drew) HPRE.out hB9 (Nat.le_refl _)) HPL.out))
              ((first
                | (go_at_call 11; refine (o32_bad _ (P1 ++ [B.dch v]) _ (by exact rfl) (by exact HSZ.out) HBAD).mono ?_; rintro e w9 ⟨rfl, hB9⟩; have hb9 : Below w.heap.size w w9 := hb7.drew.trans (hB9.mono hz7))))
            all_goals go_wp2
            all_goals go_ret
            all_goals exact ⟨rfl, hb9⟩
          · go_wp2_with fail
            refine (place_any y p _ (by omega) (by omega)).mono ?_
            rintro e w8 ⟨t, ht, rfl, rfl⟩
            obtain ⟨hv1, hv2⟩ := B.turned k hdl32 p hp t ht HDLP.out
            have hxor := xor_pow k t hdl32 (by omega)
            obtain ⟨hp1, hp2⟩ := pow_bounds t (by omega)
            generalize k ^^^ 2 ^ t = v at hxor hv1 hv2
            have hsv := slice32 .i64 v hv1
            have hhd := run_headB ⟨g, 0, none⟩ N c (N - 1) (by omega) ((N : Int) - 1) (by omega)
            have HBAD : Hid (∀ b, ¬ B.Good 5 32 (L.take (N - 1) ++ [B.dch v]) b) := fun b => by
              rw [← HD0.out]
              exact bad_turn (bs := bs) hp (by rw [HD0.out, hl.out]; omega) hv1 hv2 (by rw [HLL.out]; exact HDD.out) b
            have hpre := SlL.take hR7.sl (N - 1)
            have hPl : (L.take (N - 1)).length = N - 1 := by rw [List.length_take, HL4.out]; omega
            generalize L.take (N - 1) = P1 at HBAD hpre hPl
            have HPL := hide hPl
            have HPRE := hide hpre
            have hadd := add_text P1 v (by rw [hPl]; omega)
            have HSZ : Hid ((ByteArray.mk (P1 ++ [B.dch v]).toArray).size ≤ 1000000) := by show _ ≤ _; simp [ByteArray.size]; omega
            have hw1 : IntKind.i64.wrap ((N : Int) - 1) = (N : Int) - 1 := by rw [IntKind.wrap_i64]; omega
            have hw2 : IntKind.i64.wrap ((v : Int) + 1) = (v : Int) + 1 := by rw [IntKind.wrap_i64]; omega
            clear hsk hlt7 hPl hpre hv2 hR7
            go_wp2_with fail
            go_region_held3 (fun w' => (convert 22 9 (.slice (some ⟨g, 0, none⟩) (N - 1) c)).run Try.prog w' = .ok (.string ⟨P1.toArray⟩) w')
              ((first
                | exact run_str (N - 1) c (W := w8.drew) HPRE.out HPL.out
                | exact run_str (N - 1) c (SlL.below (w := w8.drew) HPRE.out hB9 (Nat.le_refl _)) HPL.out))
              ((first
                | (go_at_call 11; refine (o32_bad _ (P1 ++ [B.dch v]) _ (by exact rfl) (by exact HSZ.out) HBAD).mono ?_; rintro e w9 ⟨rfl, hB9⟩; have hb9 : Below w.heap.size w w9 := hb7.drew.trans (hB9.mono hz7))))
            all_goals go_wp2
            all_goals go_ret
            all_goals exact ⟨rfl, hb9⟩
end Go.Proofs.Ytffggdjmhgialaa
