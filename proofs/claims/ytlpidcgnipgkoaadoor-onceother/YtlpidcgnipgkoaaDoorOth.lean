/- The law OnceOther returns true, for every seed, leaf and two messages, and turns nothing that was there. -/
import Derived.Test.YtlpidcgnipgkoaaDoorSns
namespace Go.Proofs.YtlpidcgnipgkoaaDoor
open Go.RowKit
set_option maxRecDepth 5000 in
theorem wpList_neq_B {w : World} {ops : Array Oper} {rest : List Oper} {o : Oper} {a : Act} {Q : Exit → Act → World → Prop} (hgd : o.guard = none) (t yt : TypeId) (x y : Operand) (ho : o.op = .binOp .neq t x y yt)
    (n : Nat) (f : Nat → BitVec 8) (hu : Tryd.prog.underlying t = some (.array n 5)) (hm : Tryd.prog.eqGuardType Tryd.prog.depth t = false) (hx : a.eval x = .agg (rowB n f)) (hy : a.eval y = .agg (rowB n f))
    (h : wpList Tryd.prog ops Q rest (a.put o.dst (.bool false)) w) : wpList Tryd.prog ops Q (o :: rest) a w :=
  wpList_plain hgd fun _ hK => by
    unfold Oper.wp execOp
    simp only [ho, hx, hy, Sem.run_bind, run_eqGuard_agg _ _ _ _ _ _ _ hm, run_neq_struct, run_eqB_same hu, Result.andThen_ok, Sem.run_pure]
    exact hK _ _ h
set_option maxRecDepth 5000 in
theorem other_long (hKn : Kn) (f : Nat → BitVec 8) (leaf : Int) (aa ab : Option Addr) (na ca nb cb : Nat) (w : World) (hT : Tab w) (hn : 200 < na ∨ 200 < nb) (hm : na ≤ 9223372036854775807) (hm2 : nb ≤ 9223372036854775807) :
    Calls Tryd.prog 5 #[.agg (rowB 8 f), .int .u32 leaf, .slice aa na ca, .slice ab nb cb] w fun e w' => e = .returned (.bool true) ∧ Below w.heap.size w w' := by
  have hb0 : Below w.heap.size w (w.alloc (.cells (rowB 8 f) 22)) := (Below.refl _ _).alloc (Nat.le_refl _) _
  have hTa := hT.alloc (.cells (rowB 8 f) 22)
  by_cases h1 : 200 < na
  · go_enter Tryd.func5, Tryd.ntmps5
    go_wp2_with (go_at_call 7; refine (hKn _ (by exact hTa)).mono ?_; rintro e w1 ⟨rfl, hB1⟩)
    go_ret
    exact ⟨rfl, hb0.trans (hB1.mono (by simp))⟩
  · have h2 : 200 < nb := by omega
    have h3 : na ≤ 200 := by omega
    clear hn h1
    go_enter Tryd.func5, Tryd.ntmps5
    go_wp2_with (go_at_call 7; refine (hKn _ (by exact hTa)).mono ?_; rintro e w1 ⟨rfl, hB1⟩)
    go_ret
    exact ⟨rfl, hb0.trans (hB1.mono (by simp))⟩
set_option maxRecDepth 3000 in
set_option maxHeartbeats 2000000 in
theorem other_unlike (hKn : Kn) (f : Nat → BitVec 8) (leaf : Nat) (ma mb : List (BitVec 8)) (aa ab : Option Addr) (na ca nb cb : Nat) (w : World) (hla : Hid (ma.length = na)) (hsa : SlL w aa ma) (hca : na ≤ ca) (hlb : Hid (mb.length = nb)) (hsb : SlL w ab mb) (hnilb : ab = none → cb = 0) (hcb : nb ≤ cb) (hleaf : leaf < 4294967296) (hT : Tab w) (hn1 : na ≤ 200) (hn2 : nb ≤ 200) (hne : O.dig ma ≠ O.dig mb) :
    Calls Tryd.prog 5 #[.agg (rowB 8 f), .int .u32 (leaf : Int), .slice aa na ca, .slice ab nb cb] w fun e w' => e = .returned (.bool true) ∧ Below w.heap.size w w' := by
  have HNE := hide hne
  clear hne
  have hT0 := hT.1
  have hb0 : Below w.heap.size w (w.alloc (.cells (rowB 8 f) 22)) := (Below.refl _ _).alloc (Nat.le_refl _) _
  have hR0 := RowAt.new w 22 (rowB 8 f)
  have hTa := hT.alloc (.cells (rowB 8 f) 22)
  have HSA := hide hsa
  have HSB := hide hsb
  have HNB := hide hnilb
  have HT := hide hT
  obtain ⟨L, HL⟩ : ∃ L, Hid (O.sigL f leaf (O.dig ma) 32 = L) := ⟨_, rfl⟩
  obtain ⟨F, HF⟩ : ∃ F, Hid (O.opened (O.dig mb) L = F) := ⟨_, rfl⟩
  have hLl : L.length = 512 := by rw [← HL.out, O.sigL_len]
  have HLl := hide hLl
  have hd1 : decide (200 < (na : Int)) = false := by simp; omega
  have hd2 : decide (200 < (nb : Int)) = false := by simp; omega
  clear hsa hsb hnilb hT
  go_enter Tryd.func5, Tryd.ntmps5
  go_wp2_with (first
    | (go_at_call 7; refine (hKn _ (by exact hTa)).mono ?_; rintro e w1 ⟨rfl, hB1⟩; have hb1 := hb0.trans (hB1.mono (by simp)); have hR1 := hR0.below hB1 (by simp); have hT1 := HT.out.below hb1 hT0; have hs1 := HSA.out.below hb1 (Nat.le_refl _); have hz1 := hb1.size; clear hB1 hTa)
    | (refine wpList_load_rowAt rfl 22 (.tmp 4) rfl w.heap.size rfl 22 _ _ (by exact hR1) Tryd.underlying22 rfl (by rw [rowB_size]; exact info28) ?_))
  refine (sign_any f leaf ma aa na ca _ hla (by exact hs1) hca (by omega) hleaf (by exact hT1)).mono ?_
  rintro e w2 ⟨v2, rfl, hM2, hB2⟩
  rw [HL.out] at hM2
  obtain ⟨g, c, rfl, hg, hcg, hS2⟩ := hM2.at512 hLl
  have hb2 := hb1.trans (hB2.mono hz1)
  have hR2 := hR1.below hB2 hR1.lt
  have hz2 := hb2.size
  have hT2 := HT.out.below hb2 hT0
  have hs2 := HSB.out.below hb2 (Nat.le_refl _)
  clear hM2 hB2 hb1 hR1 hT1 hs1 hR0 hb0
  go_wp2_with fail
  refine (open_any mb L ab _ nb cb c _ hlb (by exact hs2) hcb (by omega) HLl (by exact hS2) (by exact hcg) (by exact hT2)).mono ?_
  rintro e w3 ⟨rfl, hB3⟩
  rw [HF.out]
  have hb3 := hb2.trans (hB3.mono hz2)
  have hR3 := hR2.below hB3 hR2.lt
  have hS3 := hS2.called hB3
  have hz3 := hb3.size
  have hw3 := hR3.lt
  clear hB3 hb2 hR2 hS2 hT2 hs2
  go_wp2_with (refine wpList_store_abs rfl 22 (.tmp 10) (.tmp 32) rfl w3.heap.size (rowB 8 F) rfl rfl 22 _ (RowAt.new w3 22 _) (by rw [rowB_size]; exact info28) (by rw [rowB_size]; rfl) (rowB_one _ _) w3.heap.size (Nat.le_refl _) ?_; intro w4 hR4 hO4 hz4 hB4; have hbb : Below w3.heap.size w3 w4 := ((Below.refl _ _).alloc (Nat.le_refl _) _).trans hB4; have hK4 : KT f F w.heap.size w3.heap.size (some ⟨g, 0, none⟩) L w w4 := ⟨⟨hb3.trans (hbb.mono hz3), hR3.below hbb hR3.lt, hR4⟩, hS3.called hbb⟩; clear hO4 hz4 hB4 hbb hb3 hR3 hR4 hS3)
  refine (ropen_any mb L ab _ nb cb c _ hlb (by exact HSB.out.below hK4.ks.below (Nat.le_refl _)) HNB.out (by omega) HLl (by exact hK4.sl) (by exact hcg)).mono ?_
  rintro e w5 ⟨rfl, hB5⟩
  rw [HF.out]
  have hK5 := hK4.called hB5
  have hz5 := hK5.ks.below.size
  have hlt5 := hK5.ks.snd.lt
  have hlt5' := hK5.ks.fst.lt
  clear hB5 hK4
  go_wp2_with (first
    | (refine wpList_store_abs rfl 22 (.tmp 12) (.tmp 38) rfl w5.heap.size (rowB 8 F) rfl rfl 22 _ (RowAt.new w5 22 _) (by rw [rowB_size]; exact info28) (by rw [rowB_size]; rfl) (rowB_one _ _) w5.heap.size (Nat.le_refl _) ?_; intro w6 hR6 hO6 hz6 hB6; have hbb : Below w5.heap.size w5 w6 := ((Below.refl _ _).alloc (Nat.le_refl _) _).trans hB6; have hK6 := hK5.called hbb; clear hO6 hz6 hB6 hbb)
    | (refine wpList_load_rowAt rfl 22 (.tmp 10) rfl w3.heap.size rfl 22 _ _ (by exact hK6.ks.snd) Tryd.underlying22 rfl (by rw [rowB_size]; exact info28) ?_)
    | (refine wpList_load_rowAt rfl 22 (.tmp 12) rfl w5.heap.size rfl 22 _ _ (by exact hR6) Tryd.underlying22 rfl (by rw [rowB_size]; exact info28) ?_)
    | (refine wpList_neq_B rfl 22 22 (.tmp 40) (.tmp 41) rfl 8 F Tryd.underlying22 guard28 rfl rfl ?_))
  obtain ⟨Da, HDa⟩ : ∃ D, Hid (O.dig ma = D) := ⟨_, rfl⟩
  obtain ⟨Db, HDb⟩ : ∃ D, Hid (O.dig mb = D) := ⟨_, rfl⟩
  have hnn : ((Da : Int) != (Db : Int)) = true := by
    have h1 := HDa.out
    have h2 := HDb.out
    have h3 := HNE.out
    rw [h1, h2] at h3
    simp; omega
  first
    | (go_region_with (first
      | (go_at_call_of 14 aa; refine (digest_any ma aa na ca _ hla (by exact HSA.out.below hK6.drew.ks.below (Nat.le_refl _)) hca (by omega) (by exact HT.out.below hK6.drew.ks.below hT0)).mono ?_; rintro e w7 ⟨rfl, hB7⟩; rw [HDa.out]; have hK7 := hK6.drew.called hB7; clear hB7)
      | (go_at_call_of 14 ab; refine (digest_any mb ab nb cb _ hlb (by exact HSB.out.below hK7.ks.below (Nat.le_refl _)) hcb (by omega) (by exact HT.out.below hK7.ks.below hT0)).mono ?_; rintro e w8 ⟨rfl, hB8⟩; rw [HDb.out]; have hK8 := hK7.called hB8; clear hB8)))
    | fail
  all_goals go_wp2
  all_goals go_ret
  all_goals exact ⟨rfl, hK8.ks.below⟩
set_option maxRecDepth 3000 in
set_option maxHeartbeats 2000000 in
theorem other_like (hKn : Kn) (f : Nat → BitVec 8) (leaf : Nat) (ma mb : List (BitVec 8)) (aa ab : Option Addr) (na ca nb cb : Nat) (w : World) (hla : Hid (ma.length = na)) (hsa : SlL w aa ma) (hca : na ≤ ca) (hlb : Hid (mb.length = nb)) (hsb : SlL w ab mb) (hnilb : ab = none → cb = 0) (hcb : nb ≤ cb) (hleaf : leaf < 4294967296) (hT : Tab w) (hn1 : na ≤ 200) (hn2 : nb ≤ 200) (he : O.dig ma = O.dig mb) :
    Calls Tryd.prog 5 #[.agg (rowB 8 f), .int .u32 (leaf : Int), .slice aa na ca, .slice ab nb cb] w fun e w' => e = .returned (.bool true) ∧ Below w.heap.size w w' := by
  have HE := hide he
  clear he
  have hT0 := hT.1
  have hb0 : Below w.heap.size w (w.alloc (.cells (rowB 8 f) 22)) := (Below.refl _ _).alloc (Nat.le_refl _) _
  have hR0 := RowAt.new w 22 (rowB 8 f)
  have hTa := hT.alloc (.cells (rowB 8 f) 22)
  have HSA := hide hsa
  have HSB := hide hsb
  have HNB := hide hnilb
  have HT := hide hT
  obtain ⟨L, HL⟩ : ∃ L, Hid (O.sigL f leaf (O.dig ma) 32 = L) := ⟨_, rfl⟩
  obtain ⟨F, HF⟩ : ∃ F, Hid (O.opened (O.dig mb) L = F) := ⟨_, rfl⟩
  have hLl : L.length = 512 := by rw [← HL.out, O.sigL_len]
  have HLl := hide hLl
  have hd1 : decide (200 < (na : Int)) = false := by simp; omega
  have hd2 : decide (200 < (nb : Int)) = false := by simp; omega
  clear hsa hsb hnilb hT
  go_enter Tryd.func5, Tryd.ntmps5
  go_wp2_with (first
    | (go_at_call 7; refine (hKn _ (by exact hTa)).mono ?_; rintro e w1 ⟨rfl, hB1⟩; have hb1 := hb0.trans (hB1.mono (by simp)); have hR1 := hR0.below hB1 (by simp); have hT1 := HT.out.below hb1 hT0; have hs1 := HSA.out.below hb1 (Nat.le_refl _); have hz1 := hb1.size; clear hB1 hTa)
    | (refine wpList_load_rowAt rfl 22 (.tmp 4) rfl w.heap.size rfl 22 _ _ (by exact hR1) Tryd.underlying22 rfl (by rw [rowB_size]; exact info28) ?_))
  refine (sign_any f leaf ma aa na ca _ hla (by exact hs1) hca (by omega) hleaf (by exact hT1)).mono ?_
  rintro e w2 ⟨v2, rfl, hM2, hB2⟩
  rw [HL.out] at hM2
  obtain ⟨g, c, rfl, hg, hcg, hS2⟩ := hM2.at512 hLl
  have hb2 := hb1.trans (hB2.mono hz1)
  have hR2 := hR1.below hB2 hR1.lt
  have hz2 := hb2.size
  have hT2 := HT.out.below hb2 hT0
  have hs2 := HSB.out.below hb2 (Nat.le_refl _)
  clear hM2 hB2 hb1 hR1 hT1 hs1 hR0 hb0
  go_wp2_with fail
  refine (open_any mb L ab _ nb cb c _ hlb (by exact hs2) hcb (by omega) HLl (by exact hS2) (by exact hcg) (by exact hT2)).mono ?_
  rintro e w3 ⟨rfl, hB3⟩
  rw [HF.out]
  have hb3 := hb2.trans (hB3.mono hz2)
  have hR3 := hR2.below hB3 hR2.lt
  have hS3 := hS2.called hB3
  have hz3 := hb3.size
  have hw3 := hR3.lt
  clear hB3 hb2 hR2 hS2 hT2 hs2
  go_wp2_with (refine wpList_store_abs rfl 22 (.tmp 10) (.tmp 32) rfl w3.heap.size (rowB 8 F) rfl rfl 22 _ (RowAt.new w3 22 _) (by rw [rowB_size]; exact info28) (by rw [rowB_size]; rfl) (rowB_one _ _) w3.heap.size (Nat.le_refl _) ?_; intro w4 hR4 hO4 hz4 hB4; have hbb : Below w3.heap.size w3 w4 := ((Below.refl _ _).alloc (Nat.le_refl _) _).trans hB4; have hK4 : KT f F w.heap.size w3.heap.size (some ⟨g, 0, none⟩) L w w4 := ⟨⟨hb3.trans (hbb.mono hz3), hR3.below hbb hR3.lt, hR4⟩, hS3.called hbb⟩; clear hO4 hz4 hB4 hbb hb3 hR3 hR4 hS3)
  refine (ropen_any mb L ab _ nb cb c _ hlb (by exact HSB.out.below hK4.ks.below (Nat.le_refl _)) HNB.out (by omega) HLl (by exact hK4.sl) (by exact hcg)).mono ?_
  rintro e w5 ⟨rfl, hB5⟩
  rw [HF.out]
  have hK5 := hK4.called hB5
  have hz5 := hK5.ks.below.size
  have hlt5 := hK5.ks.snd.lt
  have hlt5' := hK5.ks.fst.lt
  clear hB5 hK4
  go_wp2_with (first
    | (refine wpList_store_abs rfl 22 (.tmp 12) (.tmp 38) rfl w5.heap.size (rowB 8 F) rfl rfl 22 _ (RowAt.new w5 22 _) (by rw [rowB_size]; exact info28) (by rw [rowB_size]; rfl) (rowB_one _ _) w5.heap.size (Nat.le_refl _) ?_; intro w6 hR6 hO6 hz6 hB6; have hbb : Below w5.heap.size w5 w6 := ((Below.refl _ _).alloc (Nat.le_refl _) _).trans hB6; have hK6 := hK5.called hbb; clear hO6 hz6 hB6 hbb)
    | (refine wpList_load_rowAt rfl 22 (.tmp 10) rfl w3.heap.size rfl 22 _ _ (by exact hK6.ks.snd) Tryd.underlying22 rfl (by rw [rowB_size]; exact info28) ?_)
    | (refine wpList_load_rowAt rfl 22 (.tmp 12) rfl w5.heap.size rfl 22 _ _ (by exact hR6) Tryd.underlying22 rfl (by rw [rowB_size]; exact info28) ?_)
    | (refine wpList_neq_B rfl 22 22 (.tmp 40) (.tmp 41) rfl 8 F Tryd.underlying22 guard28 rfl rfl ?_))
  obtain ⟨D, HDa⟩ : ∃ D, Hid (O.dig ma = D) := ⟨_, rfl⟩
  have HDb : Hid (O.dig mb = D) := HE.out.symm.trans HDa.out
  have HPf : Hid (O.pub f leaf = F) := by show _ = _; rw [← HF.out, ← HL.out, ← HE.out, O.opened_sig]
  have heq := run_eq8 F
  go_region_held3 (fun w' => KT f F w.heap.size w3.heap.size (some ⟨g, 0, none⟩) L w w' ∧ w'.cell? ⟨w.heap.size, 0, none⟩ = some (.int .u8 (f 0).toNat) ∧ w'.cell? ⟨w.heap.size, 1, none⟩ = some (.int .u8 (f 1).toNat) ∧ w'.cell? ⟨w.heap.size, 2, none⟩ = some (.int .u8 (f 2).toNat) ∧ w'.cell? ⟨w.heap.size, 3, none⟩ = some (.int .u8 (f 3).toNat) ∧ w'.cell? ⟨w.heap.size, 4, none⟩ = some (.int .u8 (f 4).toNat) ∧ w'.cell? ⟨w.heap.size, 5, none⟩ = some (.int .u8 (f 5).toNat) ∧ w'.cell? ⟨w.heap.size, 6, none⟩ = some (.int .u8 (f 6).toNat) ∧ w'.cell? ⟨w.heap.size, 7, none⟩ = some (.int .u8 (f 7).toNat) ∧ w'.cell? ⟨w3.heap.size, 0, none⟩ = some (.int .u8 (F 0).toNat) ∧ w'.cell? ⟨w3.heap.size, 1, none⟩ = some (.int .u8 (F 1).toNat) ∧ w'.cell? ⟨w3.heap.size, 2, none⟩ = some (.int .u8 (F 2).toNat) ∧ w'.cell? ⟨w3.heap.size, 3, none⟩ = some (.int .u8 (F 3).toNat) ∧ w'.cell? ⟨w3.heap.size, 4, none⟩ = some (.int .u8 (F 4).toNat) ∧ w'.cell? ⟨w3.heap.size, 5, none⟩ = some (.int .u8 (F 5).toNat) ∧ w'.cell? ⟨w3.heap.size, 6, none⟩ = some (.int .u8 (F 6).toNat) ∧ w'.cell? ⟨w3.heap.size, 7, none⟩ = some (.int .u8 (F 7).toNat))
    (first | exact hK6.loads | exact hK6.drew.loads | exact hK7.loads | exact hK8.loads | exact hK9.loads | fail)
    (first
      | ((go_at_call_of 14 aa; refine (digest_any ma aa na ca _ hla (by exact HSA.out.below hK6.drew.ks.below (Nat.le_refl _)) hca (by omega) (by exact HT.out.below hK6.drew.ks.below hT0)).mono ?_; rintro e w7 ⟨rfl, hB7⟩; rw [HDa.out]; have hK7 := hK6.drew.called hB7; clear hB7))
      | ((go_at_call_of 14 ab; refine (digest_any mb ab nb cb _ hlb (by exact HSB.out.below hK7.ks.below (Nat.le_refl _)) hcb (by omega) (by exact HT.out.below hK7.ks.below hT0)).mono ?_; rintro e w8 ⟨rfl, hB8⟩; rw [HDb.out]; have hK8 := hK7.called hB8; clear hB8))
      | ((go_at_call 12; refine (public_lit f leaf _ hleaf (by exact HT.out.below hK8.ks.below hT0)).mono ?_; rintro e w9 ⟨rfl, hB9⟩; rw [HPf.out]; have hK9 := hK8.called hB9; clear hB9)))
  all_goals go_wp2
  all_goals go_ret
  all_goals exact ⟨rfl, hK9.ks.below⟩
end Go.Proofs.YtlpidcgnipgkoaaDoor
