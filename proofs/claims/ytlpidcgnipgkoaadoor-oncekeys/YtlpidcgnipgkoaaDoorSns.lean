/- The law OnceSigns returns true, for every seed, leaf and message, and turns nothing that was there. -/
import Derived.Test.YtlpidcgnipgkoaaDoorHlp
namespace Go.Proofs.YtlpidcgnipgkoaaDoor
open Go.RowKit
/- two rows of eight bytes and a slice that are kept -/
structure KT (F G : Nat → BitVec 8) (a b : Nat) (ao : Option Addr) (L : List (BitVec 8)) (w w' : World) : Prop where
  ks : KS F G a b w w'
  sl : SlL w' ao L
set_option maxRecDepth 5000 in
theorem KT.drew {F G : Nat → BitVec 8} {a b : Nat} {ao : Option Addr} {L : List (BitVec 8)} {w w' : World} (h : KT F G a b ao L w w') : KT F G a b ao L w w'.drew := ⟨h.ks.drew, h.sl.drew⟩
set_option maxRecDepth 5000 in
theorem KT.called {F G : Nat → BitVec 8} {a b : Nat} {ao : Option Addr} {L : List (BitVec 8)} {w w' w2 : World} (h : KT F G a b ao L w w') (hb : Below w'.heap.size w' w2) : KT F G a b ao L w w2 := ⟨h.ks.called hb, h.sl.called hb⟩
set_option maxRecDepth 5000 in
theorem KT.loads {F G : Nat → BitVec 8} {a b : Nat} {ao : Option Addr} {L : List (BitVec 8)} {w w' : World} (h : KT F G a b ao L w w') : KT F G a b ao L w w' ∧ w'.cell? ⟨a, 0, none⟩ = some (.int .u8 (F 0).toNat) ∧ w'.cell? ⟨a, 1, none⟩ = some (.int .u8 (F 1).toNat) ∧ w'.cell? ⟨a, 2, none⟩ = some (.int .u8 (F 2).toNat) ∧ w'.cell? ⟨a, 3, none⟩ = some (.int .u8 (F 3).toNat) ∧ w'.cell? ⟨a, 4, none⟩ = some (.int .u8 (F 4).toNat) ∧ w'.cell? ⟨a, 5, none⟩ = some (.int .u8 (F 5).toNat) ∧ w'.cell? ⟨a, 6, none⟩ = some (.int .u8 (F 6).toNat) ∧ w'.cell? ⟨a, 7, none⟩ = some (.int .u8 (F 7).toNat) ∧ w'.cell? ⟨b, 0, none⟩ = some (.int .u8 (G 0).toNat) ∧ w'.cell? ⟨b, 1, none⟩ = some (.int .u8 (G 1).toNat) ∧ w'.cell? ⟨b, 2, none⟩ = some (.int .u8 (G 2).toNat) ∧ w'.cell? ⟨b, 3, none⟩ = some (.int .u8 (G 3).toNat) ∧ w'.cell? ⟨b, 4, none⟩ = some (.int .u8 (G 4).toNat) ∧ w'.cell? ⟨b, 5, none⟩ = some (.int .u8 (G 5).toNat) ∧ w'.cell? ⟨b, 6, none⟩ = some (.int .u8 (G 6).toNat) ∧ w'.cell? ⟨b, 7, none⟩ = some (.int .u8 (G 7).toNat) := ⟨h, h.ks.loads.2⟩
def Kn : Prop := ∀ w, Tab w → Calls Tryd.prog 7 #[] w fun e w' => e = .returned (.bool true) ∧ Below w.heap.size w w'
set_option maxRecDepth 5000 in
theorem signs_long (hKn : Kn) (f : Nat → BitVec 8) (leaf : Int) (ao : Option Addr) (n cap : Nat) (w : World) (hT : Tab w) (hn : 500 < n) (hm : n ≤ 9223372036854775807) :
    Calls Tryd.prog 3 #[.agg (rowB 8 f), .int .u32 leaf, .slice ao n cap] w fun e w' => e = .returned (.bool true) ∧ Below w.heap.size w w' := by
  have hb0 : Below w.heap.size w (w.alloc (.cells (rowB 8 f) 22)) := (Below.refl _ _).alloc (Nat.le_refl _) _
  have hTa := hT.alloc (.cells (rowB 8 f) 22)
  go_enter Tryd.func3, Tryd.ntmps3
  go_wp2_with (go_at_call 7; refine (hKn _ (by exact hTa)).mono ?_; rintro e w1 ⟨rfl, hB1⟩)
  go_ret
  exact ⟨rfl, hb0.trans (hB1.mono (by simp))⟩
set_option maxRecDepth 3000 in
set_option maxHeartbeats 2000000 in
theorem signs_walk (hKn : Kn) (f : Nat → BitVec 8) (leaf : Nat) (m : List (BitVec 8)) (ao : Option Addr) (n cap : Nat) (w : World) (hl : Hid (m.length = n)) (hs : SlL w ao m) (hnil : ao = none → cap = 0) (hc : n ≤ cap) (hleaf : leaf < 4294967296) (hT : Tab w) (hn : n ≤ 500) :
    Calls Tryd.prog 3 #[.agg (rowB 8 f), .int .u32 (leaf : Int), .slice ao n cap] w fun e w' => e = .returned (.bool true) ∧ Below w.heap.size w w' := by
  have hT0 := hT.1
  have hb0 : Below w.heap.size w (w.alloc (.cells (rowB 8 f) 22)) := (Below.refl _ _).alloc (Nat.le_refl _) _
  have hR0 := RowAt.new w 22 (rowB 8 f)
  have hTa := hT.alloc (.cells (rowB 8 f) 22)
  have HS := hide hs
  have HN := hide hnil
  have HT := hide hT
  obtain ⟨L, HL⟩ : ∃ L, Hid (O.sigL f leaf (O.dig m) 32 = L) := ⟨_, rfl⟩
  obtain ⟨Pf, HPf⟩ : ∃ Pf, Hid (O.pub f leaf = Pf) := ⟨_, rfl⟩
  obtain ⟨D, HD⟩ : ∃ D, Hid (O.dig m = D) := ⟨_, rfl⟩
  have hLl : L.length = 512 := by rw [← HL.out, O.sigL_len]
  have HLl := hide hLl
  have HOP : Hid (O.opened (O.dig m) L = Pf) := by show _ = _; rw [← HL.out, O.opened_sig]; exact HPf.out
  clear hs hnil hT
  go_enter Tryd.func3, Tryd.ntmps3
  go_wp2_with (first
    | (go_at_call 7; refine (hKn _ (by exact hTa)).mono ?_; rintro e w1 ⟨rfl, hB1⟩; have hb1 := hb0.trans (hB1.mono (by simp)); have hR1 := hR0.below hB1 (by simp); have hT1 := HT.out.below hb1 hT0; have hs1 := HS.out.below hb1 (Nat.le_refl _); have hz1 := hb1.size; clear hB1 hTa)
    | (refine wpList_load_rowAt rfl 22 (.tmp 3) rfl w.heap.size rfl 22 _ _ (by exact hR1) Tryd.underlying22 rfl (by rw [rowB_size]; exact info28) ?_))
  refine (sign_any f leaf m ao n cap _ hl (by exact hs1) hc (by omega) hleaf (by exact hT1)).mono ?_
  rintro e w2 ⟨v2, rfl, hM2, hB2⟩
  rw [HL.out] at hM2
  obtain ⟨g, c, rfl, hg, hcg, hS2⟩ := hM2.at512 hLl
  have hb2 := hb1.trans (hB2.mono hz1)
  have hR2 := hR1.below hB2 hR1.lt
  have hz2 := hb2.size
  have hT2 := HT.out.below hb2 hT0
  have hs2 := HS.out.below hb2 (Nat.le_refl _)
  clear hM2 hB2 hb1 hR1 hT1 hs1 hR0 hb0
  go_wp2_with fail
  refine (open_any m L ao _ n cap c _ hl (by exact hs2) hc (by omega) HLl (by exact hS2) (by exact hcg) (by exact hT2)).mono ?_
  rintro e w3 ⟨rfl, hB3⟩
  rw [HOP.out]
  have hb3 := hb2.trans (hB3.mono hz2)
  have hR3 := hR2.below hB3 hR2.lt
  have hS3 := hS2.called hB3
  have hz3 := hb3.size
  have hw3 := hR3.lt
  clear hB3 hb2 hR2 hS2 hT2 hs2
  go_wp2_with (refine wpList_store_abs rfl 22 (.tmp 8) (.tmp 23) rfl w3.heap.size (rowB 8 Pf) rfl rfl 22 _ (RowAt.new w3 22 _) (by rw [rowB_size]; exact info28) (by rw [rowB_size]; rfl) (rowB_one _ _) w3.heap.size (Nat.le_refl _) ?_; intro w4 hR4 hO4 hz4 hB4; have hbb : Below w3.heap.size w3 w4 := ((Below.refl _ _).alloc (Nat.le_refl _) _).trans hB4; have hK4 : KT f Pf w.heap.size w3.heap.size (some ⟨g, 0, none⟩) L w w4 := ⟨⟨hb3.trans (hbb.mono hz3), hR3.below hbb hR3.lt, hR4⟩, hS3.called hbb⟩; clear hO4 hz4 hB4 hbb hb3 hR3 hR4 hS3)
  have heq := run_eq8 Pf
  clear hLl
  go_region_held3 (fun w' => KT f Pf w.heap.size w3.heap.size (some ⟨g, 0, none⟩) L w w' ∧ w'.cell? ⟨w.heap.size, 0, none⟩ = some (.int .u8 (f 0).toNat) ∧ w'.cell? ⟨w.heap.size, 1, none⟩ = some (.int .u8 (f 1).toNat) ∧ w'.cell? ⟨w.heap.size, 2, none⟩ = some (.int .u8 (f 2).toNat) ∧ w'.cell? ⟨w.heap.size, 3, none⟩ = some (.int .u8 (f 3).toNat) ∧ w'.cell? ⟨w.heap.size, 4, none⟩ = some (.int .u8 (f 4).toNat) ∧ w'.cell? ⟨w.heap.size, 5, none⟩ = some (.int .u8 (f 5).toNat) ∧ w'.cell? ⟨w.heap.size, 6, none⟩ = some (.int .u8 (f 6).toNat) ∧ w'.cell? ⟨w.heap.size, 7, none⟩ = some (.int .u8 (f 7).toNat) ∧ w'.cell? ⟨w3.heap.size, 0, none⟩ = some (.int .u8 (Pf 0).toNat) ∧ w'.cell? ⟨w3.heap.size, 1, none⟩ = some (.int .u8 (Pf 1).toNat) ∧ w'.cell? ⟨w3.heap.size, 2, none⟩ = some (.int .u8 (Pf 2).toNat) ∧ w'.cell? ⟨w3.heap.size, 3, none⟩ = some (.int .u8 (Pf 3).toNat) ∧ w'.cell? ⟨w3.heap.size, 4, none⟩ = some (.int .u8 (Pf 4).toNat) ∧ w'.cell? ⟨w3.heap.size, 5, none⟩ = some (.int .u8 (Pf 5).toNat) ∧ w'.cell? ⟨w3.heap.size, 6, none⟩ = some (.int .u8 (Pf 6).toNat) ∧ w'.cell? ⟨w3.heap.size, 7, none⟩ = some (.int .u8 (Pf 7).toNat))
    (first | exact hK4.loads | exact hK4.drew.loads | exact hK5.loads | exact hK6.loads | exact hK7.loads | exact hK8.loads | exact hK9.loads | fail)
    (first
      | ((go_at_call 11; refine (rsign_lit f leaf m ao n cap _ hl (by exact HS.out.below hK4.drew.ks.below (Nat.le_refl _)) HN.out (by omega) hleaf).mono ?_; rintro e w5 ⟨v5, rfl, hM5, hB5⟩; rw [HL.out] at hM5; obtain ⟨g5, c5, rfl, _, _, hS5⟩ := hM5.at512 HLl.out; have hK5 := hK4.drew.called hB5; clear hM5 hB5))
      | ((go_at_call 10; refine (bytes_same L _ _ 512 512 _ _ _ (by exact hK5.sl) (by exact hS5) HLl HLl).mono ?_; rintro e w' ⟨rfl, rfl⟩))
      | ((go_at_call 12; refine (public_lit f leaf _ hleaf (by exact HT.out.below hK5.ks.below hT0)).mono ?_; rintro e w6 ⟨rfl, hB6⟩; rw [HPf.out]; have hK6 := hK5.called hB6; clear hB6))
      | ((go_at_call 13; refine (rpublic_lit f leaf _ hleaf).mono ?_; rintro e w7 ⟨rfl, hB7⟩; rw [HPf.out]; have hK7 := hK6.called hB7; clear hB7))
      | ((go_at_call 14; refine (digest_any m ao n cap _ hl (by exact HS.out.below hK7.ks.below (Nat.le_refl _)) hc (by omega) (by exact HT.out.below hK7.ks.below hT0)).mono ?_; rintro e w8 ⟨rfl, hB8⟩; rw [HD.out]; have hK8 := hK7.called hB8; clear hB8))
      | ((go_at_call 15; refine (rdigest_any m ao n cap _ hl (by exact HS.out.below hK8.ks.below (Nat.le_refl _)) HN.out (by omega)).mono ?_; rintro e w9 ⟨rfl, hB9⟩; rw [HD.out]; have hK9 := hK8.called hB9; clear hB9)))
  all_goals go_wp2
  all_goals go_ret
  all_goals exact ⟨rfl, hK9.ks.below⟩
end Go.Proofs.YtlpidcgnipgkoaaDoor
