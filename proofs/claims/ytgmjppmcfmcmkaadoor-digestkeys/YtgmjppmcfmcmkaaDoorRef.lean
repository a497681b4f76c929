/- signetref1.Sum hands back the sum of the bytes of its slice, and turns nothing that was there. -/
import Derived.Test.YtgmjppmcfmcmkaaDoorRefA
import Derived.Deep.RegionHeld3
namespace Go.Proofs.YtgmjppmcfmcmkaaDoor
namespace H
open Go.RowKit
set_option maxRecDepth 5000 in
theorem quiet_of2 {P : Program} {f : FuncId} {args : Array Value} {w : World} {m x : Nat} {v : Value}
    (h : Calls P f args (w.drewN (m + x)) fun e w' => e = .returned v ∧ ∃ k, w' = (w.drewN (m + x)).drewN k) : Calls P f args (w.drewN (m + x)) fun e w'' => e = .returned v ∧ ∃ n, w'' = w.drewN (m + n) :=
  h.mono fun _ _ ⟨he, k, hk⟩ => ⟨he, x + k, by rw [hk, World.drewN_drewN, Nat.add_assoc]⟩
set_option maxRecDepth 5000 in
theorem rnd_a2 (q : Sha.St) (k w : BitVec 32) : (((q.h.toNat : Int) + bits .xor .u32 (bits .xor .u32 (Sha.rotr q.e 6).toNat (Sha.rotr q.e 11).toNat) (Sha.rotr q.e 25).toNat + bits .xor .u32 (bits .and .u32 q.e.toNat q.f.toNat) (bits .and .u32 (bits .xor .u32 (if IntKind.u32.signed = true then -1 else IntKind.u32.max) q.e.toNat) q.g.toNat) + k.toNat + w.toNat) % 4294967296
      + (bits .xor .u32 (bits .xor .u32 (Sha.rotr q.a 2).toNat (Sha.rotr q.a 13).toNat) (Sha.rotr q.a 22).toNat + bits .xor .u32 (bits .xor .u32 (bits .and .u32 q.a.toNat q.b.toNat) (bits .and .u32 q.a.toNat q.c.toNat)) (bits .and .u32 q.b.toNat q.c.toNat)) % 4294967296) % 4294967296 = ((Sha.rnd q k w).a.toNat : Int) := by
  rw [show (if IntKind.u32.signed = true then (-1 : Int) else IntKind.u32.max) = 4294967295 from rfl]
  simp only [w_xor, w_and, w_not, Sha.rnd, Sha.t1, Sha.e1, Sha.e0, Sha.ch, Sha.maj, ← w_add]
  omega
set_option maxRecDepth 5000 in
theorem rnd_e2 (q : Sha.St) (k w : BitVec 32) : ((q.d.toNat : Int) + ((q.h.toNat : Int) + bits .xor .u32 (bits .xor .u32 (Sha.rotr q.e 6).toNat (Sha.rotr q.e 11).toNat) (Sha.rotr q.e 25).toNat + bits .xor .u32 (bits .and .u32 q.e.toNat q.f.toNat) (bits .and .u32 (bits .xor .u32 (if IntKind.u32.signed = true then -1 else IntKind.u32.max) q.e.toNat) q.g.toNat) + k.toNat + w.toNat) % 4294967296) % 4294967296 = ((Sha.rnd q k w).e.toNat : Int) := by
  rw [show (if IntKind.u32.signed = true then (-1 : Int) else IntKind.u32.max) = 4294967295 from rfl]
  simp only [w_xor, w_and, w_not, Sha.rnd, Sha.t1, Sha.e1, Sha.ch, ← w_add]
  omega
set_option maxRecDepth 5000 in
theorem dig_int (s : Sha.St) (j : Nat) : Value.int .u8 (((Sha.word s (j / 4)).toNat : Int) / 2 ^ (24 - 8 * (j % 4)) % 256) = fb (Sha.digB s) j := by
  unfold fb Sha.digB
  rw [BitVec.toNat_setWidth, BitVec.toNat_ushiftRight, Nat.shiftRight_eq_div_pow]
  simp
set_option maxRecDepth 3000 in
set_option maxHeartbeats 16000000 in
theorem ref_any (bs : List (BitVec 8)) (ao : Option Addr) (n cap : Nat) (w : World) (hl : Hid (bs.length = n)) (hs : SlL w ao bs) (hnil : ao = none → cap = 0) (hn : n < 1000000000) :
    Calls Tryd.prog 24 #[.slice ao n cap] w fun e w' => e = .returned (.agg (rowB 32 (Sha.digB (Sha.run (Sha.padF bs) (Sha.nb n))))) ∧ Below w.heap.size w w' := by
  have HN : Hid (ao = none → cap = 0) := hnil
  have HS : Hid (SlL w ao bs) := hs
  have hnb : 64 * Sha.nb n < 2000000000 := by unfold Sha.nb; omega
  clear hnil hs
  go_enter Tryd.func24, Tryd.ntmps24
  go_wp2_with fail
  refine (table_any _).mono ?_
  rintro e w1 ⟨rfl, hB1⟩
  have hb1 : Below w.heap.size w w1 := (((Below.refl w.heap.size w).alloc (Nat.le_refl _) _).alloc (by simp) _).trans (hB1.mono (by simp; omega))
  have hr1 : ∃ c, RowAt w1 w.heap.size 42 c ∧ c.size = 32 := ⟨_, ((RowAt.new w 42 _).alloc _).below hB1 (by simp; omega), rfl⟩
  have hs1 : RowAt w1 (w.heap.size + 1) 52 (rowS Sha.st0) := by
    have h := (row_snd w (rowS Sha.st0) 52 (.cells (.replicate 32 (.int .u8 0)) 42))
    exact h.below hB1 (by simp)
  have hz1 : w.heap.size + 2 ≤ w1.heap.size := by have := hB1.size; simp at this; omega
  clear hB1
  go_wp2_with (refine wpList_store_abs rfl 61 (.tmp 4) (.tmp 26) rfl w1.heap.size (rowW 64 Sha.kt) rfl rfl 61 _ (RowAt.new w1 61 _) (by rw [rowW_size]; exact info44) (by rw [rowW_size]; rfl) (rowW_one _ _) w1.heap.size (Nat.le_refl _) ?_; intro w2 hR2 hO2 hz2 hB2)
  have hb2 : Below w.heap.size w w2 := (hb1.alloc (by omega) _).trans (hB2.mono (by omega))
  have hs2 : RowAt w2 (w.heap.size + 1) 52 (rowS Sha.st0) := hO2 _ _ _ (by omega) (hs1.alloc _)
  obtain ⟨c1, hr1, hc1⟩ := hr1
  have hr2 : RowAt w2 w.heap.size 42 c1 := hO2 _ _ _ (by omega) (hr1.alloc _)
  have hsl2 : SlL w2 ao bs := HS.out.below hb2 (Nat.le_refl _)
  have hz2' : w1.heap.size < w2.heap.size := by rw [hz2]; simp
  clear hO2 hz2 hB2 hs1 hr1 hb1
  refine (pad_any bs ao n cap _ hl (by exact hsl2) HN.out hn).mono ?_
  rintro e w3 ⟨gp, c, rfl, hp1, hp2, hp3, hp4, hpc, hB3⟩
  have hb3 : Below w.heap.size w w3 := hb2.trans (hB3.mono (by omega))
  have hs3 : RowAt w3 (w.heap.size + 1) 52 (rowS Sha.st0) := hs2.below hB3 (by omega)
  have hr3 : RowAt w3 w.heap.size 42 c1 := hr2.below hB3 (by omega)
  have hk3 : RowAt w3 w1.heap.size 61 (rowW 64 Sha.kt) := hR2.below hB3 (by omega)
  have hz3 := hB3.size
  have HP : Hid (∀ j, j < 64 * Sha.nb n → w3.cell? ⟨gp, j, none⟩ = some (.int .u8 (Sha.padF bs j).toNat)) := hpc
  have hpx : c ≤ 9223372036854775807 := hp2
  clear hs2 hr2 hR2 hB3 hb2 hsl2 hpc hp2
  go_wp2_with fail
  go_loopw [6] (fun v wr => ∃ k at' : Nat, v = .int .i64 (at' : Int) ∧ at' ≤ 64 * Sha.nb n ∧ 64 * k ≤ at' ∧ at' ≤ 64 * k ∧ RefInv w3 wr (w.heap.size + 1) (Sha.run (Sha.padF bs) k)) (fun v _ => 2000000000 - (intOf v).toNat)
  case atStart => exact ⟨0, 0, rfl, by omega, by omega, by omega, rfl, rfl, rfl, Nat.le_refl _, fun _ _ _ => rfl, hs3⟩
  case round =>
    clear hs3
    rename World => wo
    obtain ⟨k, at', rfl, g1, g2, g3, hI⟩ := hrel
    have hsz := hI.size
    by_cases hat : at' < 64 * Sha.nb n
    · have hat64 : at' + 64 ≤ 64 * Sha.nb n := by omega
      have hd0 : decide ((at' : Int) < 64 * (Sha.nb n : Int)) = true := by simp; omega
      generalize hsk : Sha.run (Sha.padF bs) k = s at hI
      have HSK := hide hsk
      clear hsk
      generalize hm : Sha.mw (Sha.padF bs) (64 * k) = M
      have HM := hide hm
      clear hm
      go_wp2_with fail
      go_loopw [8] (fun i wr => ∃ j : Nat, j ≤ 16 ∧ i = .int .i64 (j : Int) ∧ RefW w3 wr (w.heap.size + 1) s wo.heap.size j (Sha.ws M)) (fun i _ => 16 - (intOf i).toNat)
      case atStart => exact ⟨0, by omega, rfl, hI.alloc _, _, RowAt.new _ _ _, rfl, fun j hj => by omega⟩
      case round =>
        clear hI
        obtain ⟨j, hj, rfl, hW⟩ := hrel
        by_cases hj16 : j < 16
        · have c0 : wr.cell? ⟨gp, at' + 4 * j, none⟩ = some (.int .u8 (Sha.padF bs (at' + 4 * j)).toNat) := (hW.inv.cell (by omega) (by omega)).trans (HP.out _ (by omega))
          have c1' : wr.cell? ⟨gp, at' + 4 * j + 1, none⟩ = some (.int .u8 (Sha.padF bs (at' + 4 * j + 1)).toNat) := (hW.inv.cell (by omega) (by omega)).trans (HP.out _ (by omega))
          have c2 : wr.cell? ⟨gp, at' + 4 * j + 2, none⟩ = some (.int .u8 (Sha.padF bs (at' + 4 * j + 2)).toNat) := (hW.inv.cell (by omega) (by omega)).trans (HP.out _ (by omega))
          have c3 : wr.cell? ⟨gp, at' + 4 * j + 3, none⟩ = some (.int .u8 (Sha.padF bs (at' + 4 * j + 3)).toNat) := (hW.inv.cell (by omega) (by omega)).trans (HP.out _ (by omega))
          obtain ⟨v, hv⟩ := hW.some j (by omega)
          have hf := hW.frozen j
          clear hr3 hk3 hb3
          go_wp2
          as_aux_lemma =>
            go_region
            go_wp2
            go_roundw
            case rel =>
              refine ⟨j + 1, by omega, by go_num, ?_⟩
              rw [w_be]
              have hh := hW.step (by omega) (by omega) (by omega)
              have e1 : Sha.ws M j = Sha.be (Sha.padF bs (at' + 4 * j)) (Sha.padF bs (at' + 4 * j + 1)) (Sha.padF bs (at' + 4 * j + 2)) (Sha.padF bs (at' + 4 * j + 3)) := by
                rw [Sha.ws_lo _ _ hj16, ← HM.out, Sha.mw, show 64 * k = at' by omega]
              rw [e1] at hh
              exact hh.drew
            case measure => simp [intOf]; omega
        · have hd1 : decide ((j : Int) < 16) = false := by simp; omega
          go_wp2_with fail
          go_loopw [9] (fun i wr => ∃ j : Nat, 16 ≤ j ∧ j ≤ 64 ∧ i = .int .i64 (j : Int) ∧ RefW w3 wr (w.heap.size + 1) s wo.heap.size j (Sha.ws M)) (fun i _ => 64 - (intOf i).toNat)
          case atStart => exact ⟨16, by omega, by omega, rfl, by have e : j = 16 := by omega
                                                                 rw [e] at hW; exact hW⟩
          case round =>
            clear hW hj16 hj
            obtain ⟨j, hj0, hj, rfl, hW⟩ := hrel
            by_cases hlt : j < 64
            · as_aux_lemma =>
                have c2 : wr.cell? ⟨wo.heap.size, j - 2, none⟩ = some (.int .u32 (Sha.ws M (j - 2)).toNat) := hW.cell _ (by omega)
                have c7 : wr.cell? ⟨wo.heap.size, j - 7, none⟩ = some (.int .u32 (Sha.ws M (j - 7)).toNat) := hW.cell _ (by omega)
                have c15 : wr.cell? ⟨wo.heap.size, j - 15, none⟩ = some (.int .u32 (Sha.ws M (j - 15)).toNat) := hW.cell _ (by omega)
                have c16 : wr.cell? ⟨wo.heap.size, j - 16, none⟩ = some (.int .u32 (Sha.ws M (j - 16)).toNat) := hW.cell _ (by omega)
                obtain ⟨v, hv⟩ := hW.some j (by omega)
                have hf := hW.frozen j
                clear hr3 hk3 hb3
                go_wp2
                go_region
                go_wp2
                have hix16 := run_ixA Tryd.underlying61 size36 wo.heap.size (IntKind.i64.wrap ((j : Int) - 16)) (j - 16) (by rw [IntKind.wrap_i64]; omega) (by omega)
                have hix7 := run_ixA Tryd.underlying61 size36 wo.heap.size (IntKind.i64.wrap ((j : Int) - 7)) (j - 7) (by rw [IntKind.wrap_i64]; omega) (by omega)
                have hixj := run_ixA Tryd.underlying61 size36 wo.heap.size (j : Int) j rfl (by omega)
                clear c2 c15
                go_region_held3 (fun w' => w'.cell? ⟨wo.heap.size, j - 16, none⟩ = some (.int .u32 (Sha.ws M (j - 16)).toNat) ∧ w'.cell? ⟨wo.heap.size, j - 7, none⟩ = some (.int .u32 (Sha.ws M (j - 7)).toNat)) ((first | exact ⟨c16, c7⟩ | exact keep2 c16 c7 (by omega) (by omega))) ((go_at_call 40; refine (turn_any _ _ _ (by decide)).mono ?_; rintro e w' ⟨rfl, q, rfl⟩))
                go_wp2
                go_roundw
                case rel =>
                  refine ⟨j + 1, by omega, by omega, by go_num, ?_⟩
                  rw [w_shr3, w_shr10, w_xor, w_xor, w_xor, w_xor, w_add, w_add, w_add]
                  have hh := fun n => (hW.drewN n).step hlt (by omega) (by omega)
                  rw [Sha.ws_hi _ _ hj0] at hh
                  exact hh _
                case measure => simp [intOf]; omega
            · have hW6 : RefW w3 wr (w.heap.size + 1) s wo.heap.size 64 (Sha.ws M) := by
                have e : j = 64 := by omega
                rw [e] at hW; exact hW
              rename World => w5
              obtain ⟨hrow, s0, s1, s2, s3, s4, s5, s6, s7⟩ := hW6.inv.st.st
              clear hW hrow
              go_wp2
              go_quiet (fail)
              go_wp2
              have f0 := hW6.inv.st.frozen 0
              have f1 := hW6.inv.st.frozen 1
              have f2 := hW6.inv.st.frozen 2
              have f3 := hW6.inv.st.frozen 3
              have f4 := hW6.inv.st.frozen 4
              have f5 := hW6.inv.st.frozen 5
              have f6 := hW6.inv.st.frozen 6
              have f7 := hW6.inv.st.frozen 7
              go_loopw [12, 13, 14, 15, 16, 17, 18, 19, 20] (fun a b c d e f g h i wr => ∃ kk m : Nat, kk ≤ 64 ∧ i = .int .i64 kk ∧ wr = w5.drewN m ∧ ∃ q : Sha.St, Hid (q = Sha.rnds (Sha.ws M) s kk) ∧ a = .int .u32 q.a.toNat ∧ b = .int .u32 q.b.toNat ∧ c = .int .u32 q.c.toNat ∧ d = .int .u32 q.d.toNat ∧ e = .int .u32 q.e.toNat ∧ f = .int .u32 q.f.toNat ∧ g = .int .u32 q.g.toNat ∧ h = .int .u32 q.h.toNat) (fun _ _ _ _ _ _ _ _ i _ => 64 - (intOf i).toNat)
              case atStart => exact ⟨0, _, by omega, rfl, rfl, s, rfl, rfl, rfl, rfl, rfl, rfl, rfl, rfl, rfl⟩
              case round =>
                obtain ⟨kk, m, hkk, rfl, rfl, q, HQ, rfl, rfl, rfl, rfl, rfl, rfl, rfl, rfl⟩ := hrel
                by_cases hl4 : kk < 64
                · as_aux_lemma =>
                    have ck : w5.cell? ⟨w1.heap.size, kk, none⟩ = some (.int .u32 (Sha.kt kk).toNat) := ((hW6.inv.row hk3 (by omega)).cell kk).trans (rowW_get _ _ _ hl4)
                    have cw : w5.cell? ⟨wo.heap.size, kk, none⟩ = some (.int .u32 (Sha.ws M kk).toNat) := hW6.cell _ hl4
                    clear s0 s1 s2 s3 s4 s5 s6 s7 f0 f1 f2 f3 f4 f5 f6 f7 hW6 hr3 hk3 hb3
                    go_wp2
                    go_quiet ((go_at_call 40; refine quiet_of2 (turn_any _ _ _ ?_); decide))
                    go_wp2_with (go_at_call 40; refine (turn_any _ _ _ (by decide)).mono ?_; rintro e w' ⟨rfl, qq, rfl⟩)
                    go_roundw
                    case rel =>
                      refine ⟨kk + 1, _, by omega, by go_num, rfl, Sha.rnd q (Sha.kt kk) (Sha.ws M kk), by rw [HQ.out]; rfl, ?_, ?_, ?_, ?_, ?_, ?_, ?_, ?_⟩
                      · exact congrArg (Value.int .u32) (rnd_a2 q _ _)
                      · rfl
                      · rfl
                      · rfl
                      · exact congrArg (Value.int .u32) (rnd_e2 q _ _)
                      · rfl
                      · rfl
                      · rfl
                    case measure => simp [intOf]; omega
                · have hq : q = Sha.rnds (Sha.ws M) s 64 := by
                    have e : kk = 64 := by omega
                    rw [← e]; exact HQ.out
                  have HC : Hid (Sha.plus s q = Sha.run (Sha.padF bs) (k + 1)) := by
                    show _ = _
                    rw [hq, Sha.run, HSK.out, HM.out]; rfl
                  clear hq HQ
                  go_wp2
                  go_roundw
                  case rel =>
                    refine ⟨k + 1, at' + 64, by go_num, by omega, by omega, by omega, ?_⟩
                    rw [← HC.out]
                    exact (hW6.inv.drewN m).put q
                  case measure => simp [intOf]; omega
    · have hkn : Sha.nb n = k := by omega
      have HK := hide hkn
      clear hkn
      generalize hsk : Sha.run (Sha.padF bs) k = s at hI
      have HSK := hide hsk
      clear hsk
      go_wp2
      go_loopw [24] (fun i wr => ∃ j : Nat, j ≤ 32 ∧ i = .int .i64 (j : Int) ∧ RefInv w3 wr (w.heap.size + 1) s ∧ ∃ c, RowAt wr wo.heap.size 42 c ∧ c.size = 32 ∧ First j (fb (Sha.digB s)) c) (fun i _ => 32 - (intOf i).toNat)
      case atStart => exact ⟨0, by omega, rfl, hI.alloc _, _, RowAt.new _ _ _, rfl, fun j hj => by omega⟩
      case round =>
        clear hI
        obtain ⟨j, hj, rfl, hI, c, hR, hcs, hF⟩ := hrel
        by_cases hlt : j < 32
        · have cS : wr.cell? ⟨w.heap.size + 1, j / 4, none⟩ = some (.int .u32 (Sha.word s (j / 4)).toNat) := (hI.st.cell _).trans (rowS_get s _ (by omega))
          obtain ⟨v, hv⟩ := rowAt_some hR j (by omega)
          have hf := hR.frozen j
          clear hr3 hk3 hb3
          go_wp2
          go_roundw
          case rel =>
            refine ⟨j + 1, by omega, by go_num, hI.set _ _ (by simp; omega) (by omega), _, hR.set j _, by simp [hcs], ?_⟩
            rw [dig_int]
            exact hF.step (by omega)
          case measure => simp [intOf]; omega
        · have hF' : c = rowB 32 (Sha.digB s) := First.whole (by rw [show j = 32 by omega] at hF; exact hF) hcs
          subst hF'
          have hr6 := hI.row hr3 (by omega)
          have hB6 := hI.below hb3 (by omega) (by omega)
          clear hF hr3 hk3 hb3 hI
          go_wp2_with (first
            | (refine wpList_load_rowAt rfl 42 (.tmp 23) rfl wo.heap.size rfl 42 (rowB 32 (Sha.digB s)) _ hR Tryd.underlying42 rfl (by rw [rowB_size]; exact info24) ?_)
            | (refine wpList_store_rowAt rfl 42 (.tmp 2) (.tmp 258) rfl w.heap.size (rowB 32 (Sha.digB s)) rfl rfl 42 c1 hr6 (by rw [rowB_size]; exact info24) (by rw [rowB_size]; exact hc1) (rowB_one _ _) ?_))
          rw [HK.out, HSK.out]
          exact bodyPost_ret (v := .agg (rowB 32 (Sha.digB s))) (results_rowAt Tryd.results24 _ _ w.heap.size 42 _ _ rfl (setRow_same hr6 _) Tryd.underlying42 rfl (by rw [rowB_size]; exact info24)) rfl ⟨rfl, below_setRow hB6 (Nat.le_refl _) _⟩
end H
end Go.Proofs.YtgmjppmcfmcmkaaDoor
