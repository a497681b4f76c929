/- tree.Verify. -/
import Derived.Test.YtpiehjfoojipiaaDoorTcl
namespace Go.Proofs.YtpiehjfoojipiaaDoor
open Go.RowKit
set_option maxRecDepth 5000 in
theorem climbed_lit (F : Nat → BitVec 8) (h p : Nat) (s : List (BitVec 8)) (ao : Option Addr) (n c : Nat) (w : World) (hp : p < 4294967296) (hl : Hid (s.length = n)) (hn1 : n ≤ 8 * h) (hn2 : 8 * h ≤ n) (hs : SlL w ao s) (hc : n ≤ c) (hT : Tab w) :
    Calls Tryd.prog 28 #[.agg #[.int .u8 (F 0).toNat, .int .u8 (F 1).toNat, .int .u8 (F 2).toNat, .int .u8 (F 3).toNat, .int .u8 (F 4).toNat, .int .u8 (F 5).toNat, .int .u8 (F 6).toNat, .int .u8 (F 7).toNat], .int .u32 (p : Int), .slice ao n c] w fun e w' => e = .returned (.agg (rowB 8 (T.clb h F p s))) ∧ Below w.heap.size w w' := by
  rw [lit8]; exact climbed_any F h p s ao n c w hp hl hn1 hn2 hs hc hT
structure VInv (w : World) (gX : Nat) (X : Nat → BitVec 8) (wr : World) : Prop where
  below : Below w.heap.size w wr
  row : RowAt wr gX 22 (rowB 8 X)
set_option maxRecDepth 5000 in
theorem VInv.drew {w : World} {gX : Nat} {X : Nat → BitVec 8} {wr : World} (h : VInv w gX X wr) : VInv w gX X wr.drew := ⟨h.below.drew, h.row⟩
set_option maxRecDepth 5000 in
theorem VInv.called {w : World} {gX : Nat} {X : Nat → BitVec 8} {wr w' : World} (h : VInv w gX X wr) (hb : Below wr.heap.size wr w') : VInv w gX X w' := ⟨h.below.trans (hb.mono h.below.size), h.row.below hb h.row.lt⟩
set_option maxRecDepth 5000 in
theorem VInv.allocd {w : World} {gX : Nat} {X : Nat → BitVec 8} {wr : World} (h : VInv w gX X wr) (o : Obj) : VInv w gX X (wr.alloc o) := h.called ((Below.refl _ _).alloc (Nat.le_refl _) _)
set_option maxRecDepth 5000 in
theorem VInv.stored {w : World} {gX : Nat} {X : Nat → BitVec 8} {wr : World} (h : VInv w gX X wr) (g : Nat) (c : Array Value) (h1 : w.heap.size ≤ g) (h2 : gX ≠ g) : VInv w gX X (wr.setRow g c) := ⟨below_setRow h.below h1 _, setRow_other h.row _ h2⟩
set_option maxRecDepth 5000 in
theorem VInv.loads {w : World} {gX : Nat} {X : Nat → BitVec 8} {w' : World} (h : VInv w gX X w') : VInv w gX X w' ∧ w'.cell? ⟨gX, 0, none⟩ = some (.int .u8 (X 0).toNat) ∧ w'.cell? ⟨gX, 1, none⟩ = some (.int .u8 (X 1).toNat) ∧ w'.cell? ⟨gX, 2, none⟩ = some (.int .u8 (X 2).toNat) ∧ w'.cell? ⟨gX, 3, none⟩ = some (.int .u8 (X 3).toNat) ∧ w'.cell? ⟨gX, 4, none⟩ = some (.int .u8 (X 4).toNat) ∧ w'.cell? ⟨gX, 5, none⟩ = some (.int .u8 (X 5).toNat) ∧ w'.cell? ⟨gX, 6, none⟩ = some (.int .u8 (X 6).toNat) ∧ w'.cell? ⟨gX, 7, none⟩ = some (.int .u8 (X 7).toNat) := ⟨h, cells8 h.row⟩
set_option maxRecDepth 3000 in
set_option maxHeartbeats 1000000 in
theorem verify_no (root m s : List (BitVec 8)) (h : Int) (ar am ag : Option Addr) (nr cr nm cm ns cs : Nat) (w : World) (hr : Hid (root.length = nr)) (hs : Hid (s.length = ns))
    (hno : ¬ (nr = 8 ∧ 0 ≤ h ∧ h ≤ 10 ∧ (ns : Int) = 516 + 8 * h)) :
    Calls Tryd.prog 17 #[.slice ar nr cr, .int .i64 h, .slice am nm cm, .slice ag ns cs] w fun e w' => e = .returned (.bool (T.ver root h m s)) ∧ w' = w := by
  have hv : T.ver root h m s = false := by
    unfold T.ver
    rw [decide_eq_false_iff_not]
    rintro ⟨h1, h2, h3, h4, _⟩
    rw [hr.out] at h1
    rw [hs.out] at h4
    exact hno ⟨h1, h2, h3, h4⟩
  rw [hv]
  by_cases h1 : nr = 8
  · have q1 : ((nr : Int) != 8) = false := by simp; omega
    by_cases h2 : 0 ≤ h ∧ h ≤ 10
    · have HC : Hid (∀ W : World, Calls Tryd.prog 22 #[.int .i64 h] W fun e w' => e = .returned (.bool true) ∧ w' = W) := fun W => by
        have := isHeight_any h W
        rwa [decide_eq_true h2] at this
      obtain ⟨H8, e8⟩ : ∃ H8 : Nat, 8 * h = (H8 : Int) := ⟨(8 * h).toNat, by omega⟩
      obtain ⟨SZ, eS⟩ : ∃ SZ : Nat, 516 + H8 = SZ := ⟨_, rfl⟩
      have hm1 : IntKind.i64.wrap (h * 8) = (H8 : Int) := by rw [IntKind.wrap_i64]; omega
      have hm2 : IntKind.i64.wrap (516 + (H8 : Int)) = (SZ : Int) := by rw [IntKind.wrap_i64]; omega
      have q3 : ((ns : Int) != (SZ : Int)) = true := by simp; omega
      clear e8 eS h1 hno
      go_enter Tryd.func17, Tryd.ntmps17
      go_wp2_with (go_at_call 22; refine (HC.out _).mono ?_; rintro e w' ⟨rfl, hw'⟩; rw [hw']; clear hw' w')
      go_ret
      exact ⟨rfl, rfl⟩
    · have HC : Hid (∀ W : World, Calls Tryd.prog 22 #[.int .i64 h] W fun e w' => e = .returned (.bool false) ∧ w' = W) := fun W => by
        have := isHeight_any h W
        rwa [decide_eq_false h2] at this
      clear h1 hno h2
      go_enter Tryd.func17, Tryd.ntmps17
      go_wp2_with (go_at_call 22; refine (HC.out _).mono ?_; rintro e w' ⟨rfl, hw'⟩; rw [hw']; clear hw' w')
      go_ret
      exact ⟨rfl, rfl⟩
  · have q1 : ((nr : Int) != 8) = true := by simp; omega
    clear h1 hno
    go_enter Tryd.func17, Tryd.ntmps17
    go_wp2
    go_ret
    exact ⟨rfl, rfl⟩
set_option maxRecDepth 3000 in
set_option maxHeartbeats 600000 in
theorem verify_yes (root m s : List (BitVec 8)) (h : Nat) (ar am : Option Addr) (g nr cr nm cm ns cs : Nat) (w : World) (hr : Hid (root.length = nr)) (hs : Hid (s.length = ns)) (hm : Hid (m.length = nm))
    (h8 : nr = 8) (hh : h ≤ 10) (hn : ns = 516 + 8 * h) (hcs : ns ≤ cs) (hsr : SlL w ar root) (hsm : SlL w am m) (hss : SlL w (some ⟨g, 0, none⟩) s) (hcm : nm ≤ cm) (hnm : nm < 1000000) (hT : Tab w) :
    Calls Tryd.prog 17 #[.slice ar nr cr, .int .i64 (h : Int), .slice am nm cm, .slice (some ⟨g, 0, none⟩) ns cs] w fun e w' => e = .returned (.bool (T.ver root (h : Int) m s)) ∧ Below w.heap.size w w' := by
  have hT0 := hT.1
  have HT := hide hT
  have HSR := hide hsr
  have HSM := hide hsm
  have HSS := hide hss
  have q1 : ((nr : Int) != 8) = false := by simp; omega
  have HC : Hid (∀ W : World, Calls Tryd.prog 22 #[.int .i64 (h : Int)] W fun e w' => e = .returned (.bool true) ∧ w' = W) := fun W => by
    have := isHeight_any (h : Int) W
    rwa [decide_eq_true (by omega)] at this
  obtain ⟨H8, e81, e82⟩ : ∃ H8 : Nat, H8 ≤ 8 * h ∧ 8 * h ≤ H8 := ⟨8 * h, Nat.le_refl _, Nat.le_refl _⟩
  obtain ⟨SZ, es1, es2⟩ : ∃ SZ : Nat, SZ ≤ 516 + H8 ∧ 516 + H8 ≤ SZ := ⟨516 + H8, Nat.le_refl _, Nat.le_refl _⟩
  have hm1 : IntKind.i64.wrap ((h : Int) * 8) = (H8 : Int) := by rw [IntKind.wrap_i64]; omega
  have hm2 : IntKind.i64.wrap (516 + (H8 : Int)) = (SZ : Int) := by rw [IntKind.wrap_i64]; omega
  have q3 : ((ns : Int) != (SZ : Int)) = false := by simp; omega
  have hnl := T.num_lt s
  obtain ⟨P, HP⟩ : ∃ P, Hid (T.num s = P) := ⟨_, hide rfl⟩
  rw [HP.out] at hnl
  have hpw := pow_le10 h hh
  have HLC : Hid (∀ W : World, Calls Tryd.prog 26 #[.int .i64 (h : Int)] W fun e w' => e = .returned (.int .u32 ((2 ^ h : Nat) : Int)) ∧ w' = W) := fun W => leafCount_any h W hh
  obtain ⟨N, HN⟩ : ∃ N, Hid (2 ^ h = N) := ⟨_, hide rfl⟩
  rw [HN.out] at hpw HLC
  have hns1 : ns ≤ 516 + 8 * h := by omega
  have hns2 : 516 + 8 * h ≤ ns := by omega
  have HV : Hid (T.ver root (h : Int) m s = (decide (P < N) && decide (O.lst (T.top h m s) = root))) := by
    show _ = _
    unfold T.ver
    rw [← Bool.decide_and, decide_eq_decide]
    have a1 := hr.out
    have a2 := hs.out
    rw [Int.toNat_natCast, HP.out, HN.out]
    constructor
    · rintro ⟨_, _, _, _, b1, b2⟩; exact ⟨b1, b2⟩
    · rintro ⟨b1, b2⟩; exact ⟨by omega, by omega, by omega, by omega, b1, b2⟩
  rw [HV.out]
  have HSS0 : Hid (SlL w (some ⟨g, 4, none⟩) ((s.drop 4).take 512)) := by
    have := hss.part 4 512 (by have := hs.out; omega)
    show SlL _ _ _
    simpa using this
  have HS4l : Hid (((s.drop 4).take 512).length = 512) := by
    show _ = _
    rw [List.length_take, List.length_drop]; have := hs.out; omega
  have HSE : Hid (SlL w (some ⟨g, 516, none⟩) (s.drop 516)) := by
    have := hss.rest 516 (by have := hs.out; omega)
    show SlL _ _ _
    simpa using this
  have HLE : Hid ((s.drop 516).length = ns - 516) := by
    show _ = _
    rw [List.length_drop]; have := hs.out; omega
  have i516 : (516 : Int) ≤ (ns : Int) := by omega
  clear hT hsr hsm hss hn h8
  by_cases hPN : N ≤ P
  · have q4 : decide (N ≤ P) = true := by simpa using hPN
    have q5 : decide (P < N) = false := by simp; omega
    rw [q5, Bool.false_and]
    go_enter Tryd.func17, Tryd.ntmps17
    go_wp2_with (first
      | (go_at_call 22; refine (HC.out _).mono ?_; rintro e w' ⟨rfl, hw'⟩; rw [hw']; clear hw' w')
      | (go_at_call 16; refine (leaf_any s g ns cs _ hs (by exact HSS.out) (by omega)).mono ?_; rintro e w1 ⟨rfl, hB1⟩; rw [HP.out]; have HB1 := hide hB1; clear hB1)
      | (go_at_call 26; refine (HLC.out _).mono ?_; rintro e w' ⟨rfl, hw'⟩; rw [hw']; clear hw' w'))
    go_ret
    exact ⟨rfl, HB1.out⟩
  · have q4 : decide (N ≤ P) = false := by simpa using hPN
    have q5 : decide (P < N) = true := by simp; omega
    rw [q5, Bool.true_and]
    go_enter Tryd.func17, Tryd.ntmps17
    go_wp2_with (first
      | (go_at_call 22; refine (HC.out _).mono ?_; rintro e w' ⟨rfl, hw'⟩; rw [hw']; clear hw' w')
      | (go_at_call 16; refine (leaf_any s g ns cs _ hs (by exact HSS.out) (by omega)).mono ?_; rintro e w1 ⟨rfl, hB1⟩; rw [HP.out]; have HB1 := hide hB1; clear hB1)
      | (go_at_call 26; refine (HLC.out _).mono ?_; rintro e w' ⟨rfl, hw'⟩; rw [hw']; clear hw' w'))
    obtain ⟨X, HX⟩ : ∃ X, Hid (O.opened (O.dig m) ((s.drop 4).take 512) = X) := ⟨_, hide rfl⟩
    obtain ⟨Y, HTP⟩ : ∃ Y, Hid (T.clb h X P (s.drop 516) = Y) := ⟨_, hide rfl⟩
    refine (open_any m ((s.drop 4).take 512) am _ nm cm (cs - 4) _ hm (by exact HSM.out.below HB1.out (Nat.le_refl _)) hcm (by omega) HS4l (by exact HSS0.out.below HB1.out (Nat.le_refl _)) (by omega) (by exact HT.out.below HB1.out hT0)).mono ?_
    rintro e w3 ⟨rfl, hB3⟩
    rw [HX.out]
    have HB3 := hide (HB1.out.trans (hB3.mono HB1.out.size))
    clear hB3
    go_wp2_with (refine wpList_store_abs rfl 22 (.tmp 11) (.tmp 44) rfl w3.heap.size (rowB 8 X) rfl rfl 22 _ (RowAt.new w3 22 _) (by rw [rowB_size]; exact info28) (by rw [rowB_size]; rfl) (rowB_one _ _) w3.heap.size (Nat.le_refl _) ?_; intro w4 hR4 hO4 hz4 hB4; have HV4 : Hid (VInv w w3.heap.size X w4) := ⟨HB3.out.trans ((((Below.refl _ _).alloc (Nat.le_refl _) _).trans hB4).mono HB3.out.size), hR4⟩; have hz4' : w3.heap.size < w4.heap.size := hR4.lt; clear hO4 hz4 hB4 hR4)
    have hzw := HB3.out.size
    by_cases hcc : cs = 516
    · have HSEX : Hid (∀ W, Below w.heap.size w W → SlL W (some ⟨g, 0, none⟩) (s.drop 516)) := fun W _ hq => by have := HLE.out; omega
      have HLE0 : Hid ((s.drop 516).length = 0) := by show _ = _; have := HLE.out; omega
      subst hcc
      go_region_held3 (fun w' => VInv w w3.heap.size X w' ∧ w'.cell? ⟨w3.heap.size, 0, none⟩ = some (.int .u8 (X 0).toNat) ∧ w'.cell? ⟨w3.heap.size, 1, none⟩ = some (.int .u8 (X 1).toNat) ∧ w'.cell? ⟨w3.heap.size, 2, none⟩ = some (.int .u8 (X 2).toNat) ∧ w'.cell? ⟨w3.heap.size, 3, none⟩ = some (.int .u8 (X 3).toNat) ∧ w'.cell? ⟨w3.heap.size, 4, none⟩ = some (.int .u8 (X 4).toNat) ∧ w'.cell? ⟨w3.heap.size, 5, none⟩ = some (.int .u8 (X 5).toNat) ∧ w'.cell? ⟨w3.heap.size, 6, none⟩ = some (.int .u8 (X 6).toNat) ∧ w'.cell? ⟨w3.heap.size, 7, none⟩ = some (.int .u8 (X 7).toNat))
        (first | exact HV4.out.loads | exact HV4.out.drew.loads | exact (HV4.out.drew.allocd _).loads | exact HV5.out.loads | exact (HV5.out.allocd _).loads | exact ((HV5.out.allocd _).stored w5.heap.size (rowB 8 Y) (by omega) (by omega)).loads | exact (HV5.out.stored w4.heap.size (rowB 8 Y) (by omega) (by omega)).loads | fail)
        (first
          | (go_at_call 28; refine (climbed_lit X h P (s.drop 516) _ 0 0 _ hnl HLE0 (by omega) (by omega) (by exact HSEX.out _ (VInv.below (And.left (by assumption)))) (by omega) (by exact HT.out.below (VInv.below (And.left (by assumption))) hT0)).mono ?_; rintro e w5 ⟨rfl, hB5⟩; rw [HTP.out]; have hI5 := VInv.called (And.left (by assumption)) hB5; have HV5 := hide hI5; have hz5 : w3.heap.size < w5.heap.size := hI5.row.lt; have hstB := run_store8 (RowAt.new w5 58 #[.int .u8 0, .int .u8 0, .int .u8 0, .int .u8 0, .int .u8 0, .int .u8 0, .int .u8 0, .int .u8 0]) rfl Y; try (have hRA := RowAt.below (RowAt.new w4 58 #[.int .u8 0, .int .u8 0, .int .u8 0, .int .u8 0, .int .u8 0, .int .u8 0, .int .u8 0, .int .u8 0]).drew hB5 (by simp); have hstA := run_store8 hRA rfl Y)))
      all_goals (first
        | (have hR6 := setRow_same hRA (rowB 8 Y); have HB6 := hide (HV5.out.stored w4.heap.size (rowB 8 Y) (by omega) (by omega)).below)
        | (have hR6 := setRow_same (RowAt.new w5 58 #[.int .u8 0, .int .u8 0, .int .u8 0, .int .u8 0, .int .u8 0, .int .u8 0, .int .u8 0, .int .u8 0]) (rowB 8 Y); have HB6 := hide ((HV5.out.allocd (.cells #[.int .u8 0, .int .u8 0, .int .u8 0, .int .u8 0, .int .u8 0, .int .u8 0, .int .u8 0, .int .u8 0] 58)).stored w5.heap.size (rowB 8 Y) (by omega) (by omega)).below))
      all_goals (generalize World.setRow _ _ _ = w6 at hR6 HB6 ⊢)
      all_goals (have HR6 := hide hR6)
      all_goals (try clear hRA hstA)
      all_goals (clear hR6 hstB hI5 hB5)
      all_goals go_wp2_with (go_at_call 29; refine (bequal_any (O.lst Y) root _ _ 8 nr _ _ _ (by exact HR6.out.sl8) (by exact HSR.out.below HB6.out (Nat.le_refl _)) (O.lst_len _) hr).mono ?_; rintro e w' ⟨rfl, hw'⟩; rw [hw']; clear hw' w')
      all_goals go_ret
      all_goals exact ⟨by unfold T.top; rw [HX.out, HP.out, HTP.out]; rfl, HB6.out⟩
    · have hcc' : ¬ (cs = 516) := hcc
      have HSEX : Hid (∀ W, Below w.heap.size w W → SlL W (some ⟨g, 516, none⟩) (s.drop 516)) := fun W hb => HSE.out.below hb (Nat.le_refl _)
      go_region_held3 (fun w' => VInv w w3.heap.size X w' ∧ w'.cell? ⟨w3.heap.size, 0, none⟩ = some (.int .u8 (X 0).toNat) ∧ w'.cell? ⟨w3.heap.size, 1, none⟩ = some (.int .u8 (X 1).toNat) ∧ w'.cell? ⟨w3.heap.size, 2, none⟩ = some (.int .u8 (X 2).toNat) ∧ w'.cell? ⟨w3.heap.size, 3, none⟩ = some (.int .u8 (X 3).toNat) ∧ w'.cell? ⟨w3.heap.size, 4, none⟩ = some (.int .u8 (X 4).toNat) ∧ w'.cell? ⟨w3.heap.size, 5, none⟩ = some (.int .u8 (X 5).toNat) ∧ w'.cell? ⟨w3.heap.size, 6, none⟩ = some (.int .u8 (X 6).toNat) ∧ w'.cell? ⟨w3.heap.size, 7, none⟩ = some (.int .u8 (X 7).toNat))
        (first | exact HV4.out.loads | exact HV4.out.drew.loads | exact (HV4.out.drew.allocd _).loads | exact HV5.out.loads | exact (HV5.out.allocd _).loads | exact ((HV5.out.allocd _).stored w5.heap.size (rowB 8 Y) (by omega) (by omega)).loads | exact (HV5.out.stored w4.heap.size (rowB 8 Y) (by omega) (by omega)).loads | fail)
        (first
          | (go_at_call 28; refine (climbed_lit X h P (s.drop 516) _ (ns - 516) _ _ hnl HLE (by omega) (by omega) (by exact HSEX.out _ (VInv.below (And.left (by assumption)))) (by omega) (by exact HT.out.below (VInv.below (And.left (by assumption))) hT0)).mono ?_; rintro e w5 ⟨rfl, hB5⟩; rw [HTP.out]; have hI5 := VInv.called (And.left (by assumption)) hB5; have HV5 := hide hI5; have hz5 : w3.heap.size < w5.heap.size := hI5.row.lt; have hstB := run_store8 (RowAt.new w5 58 #[.int .u8 0, .int .u8 0, .int .u8 0, .int .u8 0, .int .u8 0, .int .u8 0, .int .u8 0, .int .u8 0]) rfl Y; try (have hRA := RowAt.below (RowAt.new w4 58 #[.int .u8 0, .int .u8 0, .int .u8 0, .int .u8 0, .int .u8 0, .int .u8 0, .int .u8 0, .int .u8 0]).drew hB5 (by simp); have hstA := run_store8 hRA rfl Y)))
      all_goals (first
        | (have hR6 := setRow_same hRA (rowB 8 Y); have HB6 := hide (HV5.out.stored w4.heap.size (rowB 8 Y) (by omega) (by omega)).below)
        | (have hR6 := setRow_same (RowAt.new w5 58 #[.int .u8 0, .int .u8 0, .int .u8 0, .int .u8 0, .int .u8 0, .int .u8 0, .int .u8 0, .int .u8 0]) (rowB 8 Y); have HB6 := hide ((HV5.out.allocd (.cells #[.int .u8 0, .int .u8 0, .int .u8 0, .int .u8 0, .int .u8 0, .int .u8 0, .int .u8 0, .int .u8 0] 58)).stored w5.heap.size (rowB 8 Y) (by omega) (by omega)).below))
      all_goals (generalize World.setRow _ _ _ = w6 at hR6 HB6 ⊢)
      all_goals (have HR6 := hide hR6)
      all_goals (try clear hRA hstA)
      all_goals (clear hR6 hstB hI5 hB5)
      all_goals go_wp2_with (go_at_call 29; refine (bequal_any (O.lst Y) root _ _ 8 nr _ _ _ (by exact HR6.out.sl8) (by exact HSR.out.below HB6.out (Nat.le_refl _)) (O.lst_len _) hr).mono ?_; rintro e w' ⟨rfl, hw'⟩; rw [hw']; clear hw' w')
      all_goals go_ret
      all_goals exact ⟨by unfold T.top; rw [HX.out, HP.out, HTP.out]; rfl, HB6.out⟩
end Go.Proofs.YtpiehjfoojipiaaDoor
