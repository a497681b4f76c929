/- signetref3.Put at two bytes; signetref7.Ds. -/
import Derived.Test.YtgmjppmcfmcmkaaDoorDow
import Derived.Deep.RegionHeld3
namespace Go.Proofs.YtgmjppmcfmcmkaaDoor
open Go.RowKit
def p2 (n : Nat) : List UInt8 := [UInt8.ofNat (n / 256), UInt8.ofNat n]
set_option maxRecDepth 3000 in
set_option maxHeartbeats 1000000 in
theorem put2_any (n : Nat) (w : World) (hn : n < 65536) :
    Calls Tryd.prog 27 #[.slice none 0 0, .int .u32 (n : Int), .int .i64 2] w fun e w' => ∃ v, e = .returned v ∧ OwnB w' w.heap.size v (p2 n) ∧ Below w.heap.size w w' := by
  go_enter Tryd.func27, Tryd.ntmps27
  go_wp2
  go_loopw [0, 7] (fun v i wr => ∃ k : Nat, k ≤ 2 ∧ i = .int .i64 (1 - (k : Int)) ∧ OwnB wr w.heap.size v ((p2 n).take k) ∧ Below w.heap.size w wr) (fun _ i _ => (1 + intOf i).toNat)
  case atStart => exact ⟨0, by omega, rfl, OwnB.nil _ _, Below.refl _ _⟩
  case round =>
    obtain ⟨k, hk, rfl, hO, hB⟩ := hrel
    have hz := hB.size
    by_cases hlt : k < 2
    · have HLE : Hid (((p2 n).take k).length ≤ 4) := by show _ ≤ _; simp [p2]; omega
      rcases (show k = 0 ∨ k = 1 by omega) with rfl | rfl
      · obtain ⟨x, HX⟩ : ∃ x, Hid (UInt8.ofNat (n / 256) = x) := ⟨_, rfl⟩
        have hx : (n : Int) / 256 = (x.toNat : Int) := by rw [← HX.out, UInt8.toNat_ofNat']; omega
        go_wp2_with (at_builtin; refine wpList_append_B rfl (.tmp 14) (.tmp 20) rfl w.heap.size _ _ rfl (hO.alloc _) _ _ _ [x] rfl rfl (SlL.one _ x _) (by simp) (by have := HLE.out; omega) (by simp; omega) ?_; intro v1 w1 hO1 hG1; have hB1 := grown_below (hO.alloc _) hG1 (hB.alloc hz _) (by simp; omega); clear hG1)
        refine ⟨⟨1, by omega, rfl, ?_, hB1⟩, by simp [intOf]⟩
        have e : (p2 n).take 1 = (p2 n).take 0 ++ [x] := by rw [← HX.out]; rfl
        rw [e]; exact hO1
      · obtain ⟨x, HX⟩ : ∃ x, Hid (UInt8.ofNat n = x) := ⟨_, rfl⟩
        have hx : (n : Int) % 256 = (x.toNat : Int) := by rw [← HX.out, UInt8.toNat_ofNat']; omega
        go_wp2_with (at_builtin; refine wpList_append_B rfl (.tmp 14) (.tmp 20) rfl w.heap.size _ _ rfl (hO.alloc _) _ _ _ [x] rfl rfl (SlL.one _ x _) (by simp) (by have := HLE.out; omega) (by simp; omega) ?_; intro v1 w1 hO1 hG1; have hB1 := grown_below (hO.alloc _) hG1 (hB.alloc hz _) (by simp; omega); clear hG1)
        refine ⟨⟨2, by omega, rfl, ?_, hB1⟩, by simp [intOf]⟩
        have e : (p2 n).take 2 = (p2 n).take 1 ++ [x] := by rw [← HX.out]; rfl
        rw [e]; exact hO1
    · obtain rfl : k = 2 := by omega
      go_wp2
      go_ret
      exact ⟨_, rfl, hO, hB⟩
set_option maxRecDepth 5000 in
theorem step_call9 {ops : Array Oper} {o : Oper} {a : Act} {w : World} {K : Act → World → Prop} {Q : Exit → Act → World → Prop} {E : Prop} (f : FuncId) (args : Array Operand) (tys : Array TypeId) (_ho : o.op = .call { callee := .value (.func f), args := args, argTypes := tys }) (hgd : o.guard = none) (vals : Array Value)
    (hx : (execOp a.eval o).run Tryd.prog w = .ok (.enter f vals) w) {R : Ending → World → Prop} (hc : Calls Tryd.prog f vals w R) (hr : ∀ e w', R e w' → ∃ v, e = .returned v)
    (h : ∀ v w', R (.returned v) w' → K (a.put o.dst v) w') : if Region.wanted o (yielded ops a.tmps) = true then Oper.wp Tryd.prog o a w K Q else E := by
  have hw : Region.wanted o (yielded ops a.tmps) = true := by simp [Region.wanted, hgd]
  rw [if_pos hw]
  unfold Oper.wp
  rw [hx, Oper.upon_enter]
  refine hc.mono fun e w' he => ?_
  obtain ⟨v, rfl⟩ := hr e w' he
  exact h v w' he
/- what stands while a digest is put together: the sum's bytes lie at block g -/
structure DS (w : World) (g : Nat) (F : Nat → BitVec 8) (w' : World) : Prop where
  below : Below w.heap.size w w'
  row : H.RowAt w' g 42 (H.rowB 32 F)
set_option maxRecDepth 5000 in
theorem DS.drew {w w' : World} {g : Nat} {F : Nat → BitVec 8} (h : DS w g F w') : DS w g F w'.drew := ⟨h.below.drew, h.row.drew⟩
set_option maxRecDepth 5000 in
theorem DS.alloc {w w' : World} {g : Nat} {F : Nat → BitVec 8} (h : DS w g F w') (o : Obj) : DS w g F (w'.alloc o) := ⟨h.below.alloc h.below.size o, h.row.alloc o⟩
set_option maxRecDepth 5000 in
theorem DS.next {w w' w2 : World} {g : Nat} {F : Nat → BitVec 8} (h : DS w g F w') (hb : Below w'.heap.size w' w2) : DS w g F w2 := ⟨h.below.trans (hb.mono h.below.size), h.row.below hb h.row.lt⟩
set_option maxRecDepth 5000 in
theorem DS.grown {w w' w2 : World} {g : Nat} {F : Nat → BitVec 8} {v : Value} {l : List UInt8} (h : DS w g F w') (ho : OwnB w' w.heap.size v l) (hg : w'.grownBy w2 v.ownBlock) : DS w g F w2 := by
  refine ⟨grown_below ho hg h.below h.below.size, ?_⟩
  show w2.heap[g]? = _
  rw [hg.block g h.row.lt (fun q => ?_)]
  · exact h.row
  · have h0 : w'.ownsRow w.heap.size 5 1 v l.length (vb l) := ho
    rcases h0.2 with ⟨rfl, _⟩ | ⟨g', cap, cur, rfl, _, hg', _⟩
    · simp [Value.ownBlock] at q
    · have q' : g = g' := by simpa [Value.ownBlock] using q
      subst q'
      have hrow := h.row
      unfold H.RowAt at hrow
      rw [hrow] at hg'
      simp at hg'
set_option maxRecDepth 5000 in
theorem DS.sl {w w' : World} {g : Nat} {F : Nat → BitVec 8} (h : DS w g F w') : SlL w' (some ⟨g, 0, none⟩) (G.u8s 32 F) := row_sl h.row (Nat.le_refl _)
set_option maxRecDepth 5000 in
theorem OwnB.any {w : World} {base : Nat} {v : Value} {l : List UInt8} (h : OwnB w base v l) (w2 : World) (hw : w2 = w ∨ ∃ o, w2 = w.alloc o) : OwnB w2 base v l := by
  rcases hw with rfl | ⟨o, rfl⟩
  · exact h
  · exact h.alloc o
set_option maxRecDepth 5000 in
theorem lit1 (A : UInt8) (w : World) : SlL (w.alloc (.cells #[.int .u8 (A.toNat : Int), .int .u8 2] 5)) (some ⟨w.heap.size, 0, none⟩) [A, 2] := SlL.litm w [A, 2] _ 5 (0, 0) rfl
set_option maxRecDepth 5000 in
theorem SlL.after {w w2 : World} {ao : Option Addr} {l : List UInt8} (h : SlL w ao l) (hb : Below w.drew.heap.size w.drew w2) : SlL w2 ao l := SlL.below (w := w.drew) (by exact h) hb (Nat.le_refl _)
set_option maxRecDepth 3000 in
set_option maxHeartbeats 1000000 in
theorem rds_any (n : List (List UInt8)) (data : List UInt8) (ao bo : Option Addr) (len cap m c : Nat) (w : World) (hl : Hid (n.length = len)) (hm : Hid (data.length = m)) (hs : SlS w ao n) (hd : SlL w bo data) (hn : bo = none → c = 0) (hW : Hid (Wd n)) (h2 : m ≤ 60000) :
    Calls Tryd.prog 13 #[.slice ao len cap, .slice bo m c] w fun e w' => ∃ v, e = .returned v ∧ OwnB w' w.heap.size v (G.ds n data) ∧ Below w.heap.size w w' := by
  have HS := hide hs
  have HD := hide hd
  have HN := hide hn
  have hA : ∃ A : UInt8, Hid (data.getD 3 0 = A) ∧ (4 ≤ m → ∃ b o, bo = some ⟨b, o, none⟩ ∧ w.cell? ⟨b, o + 3, none⟩ = some (.int .u8 (A.toNat : Int))) ∧ (m < 4 → A = 0) := by
    refine ⟨_, rfl, fun h4 => ?_, fun h4 => ?_⟩
    · obtain ⟨b, o, e, _, hc⟩ := hd (by have := hm.out; omega)
      exact ⟨b, o, e, hc 3 (by have := hm.out; omega)⟩
    · have := hm.out; simp [List.getD_eq_getElem?_getD, List.getElem?_eq_none (show data.length ≤ 3 by omega)]
  obtain ⟨A, HA, hA4, hA0⟩ := hA
  have htl := G.tag_lt data
  obtain ⟨T, HTT⟩ : ∃ T, Hid (G.tag data = T) := ⟨_, rfl⟩
  rw [HTT.out] at htl
  clear hs hd hn
  have key : ∀ (K : Act → World → Prop), True := fun _ => trivial
  clear key
  go_enter Tryd.func13, Tryd.ntmps13
  rcases Nat.lt_or_ge m 4 with h4 | h4
  · obtain rfl := hA0 h4
    clear hA4 hA0
    go_wp2_with fail
    refine (rLower_any n ao len cap _ hl HS.out hW.out.1).mono ?_
    rintro e w1 ⟨v, rfl, hO, hB⟩
    obtain ⟨ao1, c1, rfl, hs1, _, _, _⟩ := hO.open
    have hz := hB.size
    have HL : Hid ((N.lowN n).length = len) := by show _ = _; rw [N.lowN_len]; exact hl.out
    have HS1 := hide hs1
    have e1 : (N.lowN n).length = len := HL.out
    rw [e1]
    clear hO hs1 e1
    go_wp2_with fail
    refine (rWire_any (N.lowN n) ao1 len c1 _ HL HS1.out (low_small hW.out.1)).mono ?_
    rintro e w2 ⟨v2, rfl, hO2, hB2⟩
    have hb2 : Below w.heap.size w w2 := hB.trans (hB2.mono hz)
    have hO2 := hO2.lower hz
    have hw1 := hW.out.2
    generalize hX : N.wire (N.lowN n) = X at hO2 hw1 ⊢
    have HX := hide hX
    have hz2 := hb2.size
    have HD2 := hide (HD.out.below hb2 (Nat.le_refl _))
    clear hB hB2 hX HS1
    go_wp2_with (at_builtin; refine wpList_append_B rfl (.tmp 15) (.tmp 16) rfl w.heap.size _ X rfl (by exact hO2) bo m c data rfl hm.out (by exact HD2.out) HN.out (by omega) hz2 ?_; intro v3 w3 hO3 hG3; have hb3 := grown_below hO2 hG3 hb2 hz2; clear hG3 hO2)
    obtain ⟨co, cc, rfl, hs3, hn3, hle3, _⟩ := hO3.open
    have hz3 := hb3.size
    have hLL : (X ++ data).length ≤ 1000000 + m := by rw [List.length_append, hm.out]; omega
    generalize hL2 : (X ++ data).length = L2 at hle3 hLL ⊢
    have HL2 := hide hL2
    have HS3 := hide hs3
    clear hO3 hL2 hs3 HD2
    go_wp2_with fail
    refine (rsum_any (X ++ data) co L2 cc _ HL2 HS3.out hn3 (by omega)).mono ?_
    rintro e w4 ⟨rfl, hB4⟩
    have hb4 : Below w.heap.size w w4 := hb3.trans (hB4.mono hz3)
    have hz4 := hb4.size
    obtain ⟨F, HF⟩ : ∃ F, Hid (G.sum (X ++ data) = F) := ⟨_, rfl⟩
    rw [HF.out]
    clear hB4 HS3 hb3
    go_wp2_with (refine H.wpList_store_abs rfl 42 (.tmp 6) (.tmp 18) rfl w4.heap.size _ rfl rfl 42 _ (H.RowAt.new w4 42 _) (by rw [H.rowB_size]; exact H.info24) (by rw [H.rowB_size]; rfl) (H.rowB_one _ _) w4.heap.size (Nat.le_refl _) ?_; intro w5 hR5 hO5 hz5 hB5)
    have I5 : DS w w4.heap.size F w5 := ⟨(hb4.alloc hz4 _).trans (hB5.mono hz4), hR5⟩
    generalize w4.heap.size = g at I5
    have hwT : IntKind.u32.wrap (T : Int) = (T : Int) := by rw [IntKind.wrap_u32]; omega
    clear hO5 hz5 hB5 hb4 hR5 hz4
    go_region_held3 (fun w' => DS w g F w') (first | assumption | exact I5 | exact DS.drew (by assumption) | exact DS.alloc (by assumption) _) (first
      | (refine step_call9 10 #[.tmp 19] _ rfl rfl #[.slice bo m c] (by go_simp) (rtag_any data bo m c _ hm (by exact HD.out.below (DS.below (g := g) (F := F) (by assumption)) (Nat.le_refl _)) h2) (by rintro e w' ⟨rfl, _⟩; exact ⟨_, rfl⟩) ?_; rintro v6 w6 ⟨he, hw⟩; cases he; rw [hw, HTT.out]; clear hw w6)
      | (refine step_call9 27 #[.const (.slice none 0 0), .tmp 21, .const (.int .i64 2)] _ rfl rfl #[.slice none 0 0, .int .u32 (T : Int), .int .i64 2] (by go_simp) (put2_any T _ htl) (by rintro e w' ⟨v, rfl, _⟩; exact ⟨v, rfl⟩) ?_; rintro v7 w7 ⟨_, he, hO7, hB7⟩; cases he; have I7 : DS w g F w7 := DS.next (by assumption) hB7; have HO7 := hide (OwnB.lower (base' := w.heap.size) hO7 (DS.below (g := g) (F := F) (by assumption)).size); have HB7 := hide hB7; clear hO7 hB7)
      | (refine step_append_B rfl (.tmp 22) (.tmp 24) rfl w.heap.size v7 (p2 T) (by simp [Act.eval]) (by exact HO7.out.alloc _) ⟨w7.heap.size, 0, none⟩ 2 2 [0, 2] (by simp [Act.eval]) rfl (by exact lit1 0 w7) (by simp [p2]) (by exact (DS.below (g := g) (F := F) (by assumption)).size) ?_; intro v8 w8 hO8 hG8; have I8 : DS w g F w8 := DS.grown (by assumption) (by exact HO7.out.alloc _) hG8; have HO8 := hide hO8; clear hG8 hO8)
      | (refine step_append_B rfl (.tmp 22) (.tmp 24) rfl w.heap.size v7 (p2 T) (by simp [Act.eval]) (by exact HO7.out) ⟨w5.heap.size, 0, none⟩ 2 2 [0, 2] (by simp [Act.eval]) rfl (by exact (lit1 0 w5).after HB7.out) (by simp [p2]) (by exact (DS.below (g := g) (F := F) (by assumption)).size) ?_; intro v8 w8 hO8 hG8; have I8 : DS w g F w8 := DS.grown (by assumption) (by exact HO7.out) hG8; have HO8 := hide hO8; clear hG8 hO8)
      | (refine step_append_B rfl (.tmp 25) (.tmp 26) rfl w.heap.size v8 (p2 T ++ [0, 2]) (by simp [Act.eval]) (by exact HO8.out) ⟨g, 0, none⟩ 32 32 (G.u8s 32 F) (by simp [Act.eval]) (G.u8s_len _ _) (by exact I8.sl) (by simp [p2]) (by exact I8.below.size) ?_; intro v9 w9 hO9 hG9; have I9 : DS w g F w9 := I8.grown HO8.out hG9; have HO9 := hide hO9; clear hG9 hO9))
    all_goals
      go_wp2
      go_ret
      refine ⟨_, rfl, ?_, I9.below⟩
      unfold G.ds
      rw [HTT.out, HA.out, HX.out, HF.out]
      exact HO9.out
  · obtain ⟨b0, o0, rfl, hc0⟩ := hA4 h4
    clear hA4 hA0
    go_wp2_with fail
    refine (rLower_any n ao len cap _ hl HS.out hW.out.1).mono ?_
    rintro e w1 ⟨v, rfl, hO, hB⟩
    obtain ⟨ao1, c1, rfl, hs1, _, _, _⟩ := hO.open
    have hz := hB.size
    have HL : Hid ((N.lowN n).length = len) := by show _ = _; rw [N.lowN_len]; exact hl.out
    have HS1 := hide hs1
    have e1 : (N.lowN n).length = len := HL.out
    rw [e1]
    clear hO hs1 e1
    go_wp2_with fail
    refine (rWire_any (N.lowN n) ao1 len c1 _ HL HS1.out (low_small hW.out.1)).mono ?_
    rintro e w2 ⟨v2, rfl, hO2, hB2⟩
    have hb2 : Below w.heap.size w w2 := hB.trans (hB2.mono hz)
    have hO2 := hO2.lower hz
    have hw1 := hW.out.2
    generalize hX : N.wire (N.lowN n) = X at hO2 hw1 ⊢
    have HX := hide hX
    have hz2 := hb2.size
    have HD2 := hide (HD.out.below hb2 (Nat.le_refl _))
    clear hB hB2 hX HS1
    go_wp2_with (at_builtin; refine wpList_append_B rfl (.tmp 15) (.tmp 16) rfl w.heap.size _ X rfl (by exact hO2) (some ⟨b0, o0, none⟩) m c data rfl hm.out (by exact HD2.out) HN.out (by omega) hz2 ?_; intro v3 w3 hO3 hG3; have hb3 := grown_below hO2 hG3 hb2 hz2; clear hG3 hO2)
    obtain ⟨co, cc, rfl, hs3, hn3, hle3, _⟩ := hO3.open
    have hz3 := hb3.size
    have hLL : (X ++ data).length ≤ 1000000 + m := by rw [List.length_append, hm.out]; omega
    generalize hL2 : (X ++ data).length = L2 at hle3 hLL ⊢
    have HL2 := hide hL2
    have HS3 := hide hs3
    clear hO3 hL2 hs3 HD2
    go_wp2_with fail
    refine (rsum_any (X ++ data) co L2 cc _ HL2 HS3.out hn3 (by omega)).mono ?_
    rintro e w4 ⟨rfl, hB4⟩
    have hb4 : Below w.heap.size w w4 := hb3.trans (hB4.mono hz3)
    have hz4 := hb4.size
    obtain ⟨F, HF⟩ : ∃ F, Hid (G.sum (X ++ data) = F) := ⟨_, rfl⟩
    rw [HF.out]
    clear hB4 HS3 hb3
    go_wp2_with (refine H.wpList_store_abs rfl 42 (.tmp 6) (.tmp 18) rfl w4.heap.size _ rfl rfl 42 _ (H.RowAt.new w4 42 _) (by rw [H.rowB_size]; exact H.info24) (by rw [H.rowB_size]; rfl) (H.rowB_one _ _) w4.heap.size (Nat.le_refl _) ?_; intro w5 hR5 hO5 hz5 hB5)
    have I5 : DS w w4.heap.size F w5 := ⟨(hb4.alloc hz4 _).trans (hB5.mono hz4), hR5⟩
    generalize w4.heap.size = g at I5
    have hwT : IntKind.u32.wrap (T : Int) = (T : Int) := by rw [IntKind.wrap_u32]; omega
    clear hO5 hz5 hB5 hb4 hR5 hz4
    go_region_held3 (fun w' => DS w g F w') (first | assumption | exact I5 | exact DS.drew (by assumption) | exact DS.alloc (by assumption) _) (first
      | (refine step_call9 10 #[.tmp 19] _ rfl rfl #[.slice (some ⟨b0, o0, none⟩) m c] (by go_simp) (rtag_any data (some ⟨b0, o0, none⟩) m c _ hm (by exact HD.out.below (DS.below (g := g) (F := F) (by assumption)) (Nat.le_refl _)) h2) (by rintro e w' ⟨rfl, _⟩; exact ⟨_, rfl⟩) ?_; rintro v6 w6 ⟨he, hw⟩; cases he; rw [hw, HTT.out]; clear hw w6)
      | (refine step_call9 27 #[.const (.slice none 0 0), .tmp 21, .const (.int .i64 2)] _ rfl rfl #[.slice none 0 0, .int .u32 (T : Int), .int .i64 2] (by go_simp) (put2_any T _ htl) (by rintro e w' ⟨v, rfl, _⟩; exact ⟨v, rfl⟩) ?_; rintro v7 w7 ⟨_, he, hO7, hB7⟩; cases he; have I7 : DS w g F w7 := DS.next (by assumption) hB7; have HO7 := hide (OwnB.lower (base' := w.heap.size) hO7 (DS.below (g := g) (F := F) (by assumption)).size); have HB7 := hide hB7; clear hO7 hB7)
      | (refine step_append_B rfl (.tmp 22) (.tmp 24) rfl w.heap.size v7 (p2 T) (by simp [Act.eval]) (by exact HO7.out.alloc _) ⟨w7.heap.size, 0, none⟩ 2 2 [A, 2] (by simp [Act.eval]) rfl (by exact lit1 A w7) (by simp [p2]) (by exact (DS.below (g := g) (F := F) (by assumption)).size) ?_; intro v8 w8 hO8 hG8; have I8 : DS w g F w8 := DS.grown (by assumption) (by exact HO7.out.alloc _) hG8; have HO8 := hide hO8; clear hG8 hO8)
      | (refine step_append_B rfl (.tmp 22) (.tmp 24) rfl w.heap.size v7 (p2 T) (by simp [Act.eval]) (by exact HO7.out) ⟨w5.heap.size, 0, none⟩ 2 2 [A, 2] (by simp [Act.eval]) rfl (by exact (lit1 A w5).after HB7.out) (by simp [p2]) (by exact (DS.below (g := g) (F := F) (by assumption)).size) ?_; intro v8 w8 hO8 hG8; have I8 : DS w g F w8 := DS.grown (by assumption) (by exact HO7.out) hG8; have HO8 := hide hO8; clear hG8 hO8)
      | (refine step_append_B rfl (.tmp 25) (.tmp 26) rfl w.heap.size v8 (p2 T ++ [A, 2]) (by simp [Act.eval]) (by exact HO8.out) ⟨g, 0, none⟩ 32 32 (G.u8s 32 F) (by simp [Act.eval]) (G.u8s_len _ _) (by exact I8.sl) (by simp [p2]) (by exact I8.below.size) ?_; intro v9 w9 hO9 hG9; have I9 : DS w g F w9 := I8.grown HO8.out hG9; have HO9 := hide hO9; clear hG9 hO9))
    all_goals
      go_wp2
      go_ret
      refine ⟨_, rfl, ?_, I9.below⟩
      unfold G.ds
      rw [HTT.out, HA.out, HX.out, HF.out]
      exact HO9.out
end Go.Proofs.YtgmjppmcfmcmkaaDoor
