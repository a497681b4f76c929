/- Open's inside, of any bytes. -/
import Derived.Test.YtidocfajhhpfdaaDoorJna
import Derived.Test.YtidocfajhhpfdaaDoorOrd
namespace Go.Proofs.YtidocfajhhpfdaaDoor
open Go.RowKit
set_option maxRecDepth 5000 in
theorem gt0 {α : Type} (x0 : α) (l : List α) : (List.toArray (x0 :: l))[0]? = some x0 := rfl
set_option maxRecDepth 5000 in
theorem gt1 {α : Type} (x0 x1 : α) (l : List α) : (List.toArray (x0 :: x1 :: l))[1]? = some x1 := rfl
set_option maxRecDepth 5000 in
theorem gt2 {α : Type} (x0 x1 x2 : α) (l : List α) : (List.toArray (x0 :: x1 :: x2 :: l))[2]? = some x2 := rfl
set_option maxRecDepth 5000 in
theorem gt3 {α : Type} (x0 x1 x2 x3 : α) (l : List α) : (List.toArray (x0 :: x1 :: x2 :: x3 :: l))[3]? = some x3 := rfl
set_option maxRecDepth 5000 in
theorem gt4 {α : Type} (x0 x1 x2 x3 x4 : α) (l : List α) : (List.toArray (x0 :: x1 :: x2 :: x3 :: x4 :: l))[4]? = some x4 := rfl
set_option maxRecDepth 5000 in
theorem gt5 {α : Type} (x0 x1 x2 x3 x4 x5 : α) (l : List α) : (List.toArray (x0 :: x1 :: x2 :: x3 :: x4 :: x5 :: l))[5]? = some x5 := rfl
set_option maxRecDepth 5000 in
theorem gt6 {α : Type} (x0 x1 x2 x3 x4 x5 x6 : α) (l : List α) : (List.toArray (x0 :: x1 :: x2 :: x3 :: x4 :: x5 :: x6 :: l))[6]? = some x6 := rfl
set_option maxRecDepth 5000 in
theorem gt7 {α : Type} (x0 x1 x2 x3 x4 x5 x6 x7 : α) (l : List α) : (List.toArray (x0 :: x1 :: x2 :: x3 :: x4 :: x5 :: x6 :: x7 :: l))[7]? = some x7 := rfl
set_option maxRecDepth 5000 in
theorem gt8 {α : Type} (x0 x1 x2 x3 x4 x5 x6 x7 x8 : α) (l : List α) : (List.toArray (x0 :: x1 :: x2 :: x3 :: x4 :: x5 :: x6 :: x7 :: x8 :: l))[8]? = some x8 := rfl
set_option maxRecDepth 5000 in
theorem gt9 {α : Type} (x0 x1 x2 x3 x4 x5 x6 x7 x8 x9 : α) (l : List α) : (List.toArray (x0 :: x1 :: x2 :: x3 :: x4 :: x5 :: x6 :: x7 :: x8 :: x9 :: l))[9]? = some x9 := rfl
set_option maxRecDepth 5000 in
theorem gt10 {α : Type} (x0 x1 x2 x3 x4 x5 x6 x7 x8 x9 x10 : α) (l : List α) : (List.toArray (x0 :: x1 :: x2 :: x3 :: x4 :: x5 :: x6 :: x7 :: x8 :: x9 :: x10 :: l))[10]? = some x10 := rfl
set_option maxRecDepth 5000 in
theorem gt11 {α : Type} (x0 x1 x2 x3 x4 x5 x6 x7 x8 x9 x10 x11 : α) (l : List α) : (List.toArray (x0 :: x1 :: x2 :: x3 :: x4 :: x5 :: x6 :: x7 :: x8 :: x9 :: x10 :: x11 :: l))[11]? = some x11 := rfl
set_option maxRecDepth 5000 in
theorem gt12 {α : Type} (x0 x1 x2 x3 x4 x5 x6 x7 x8 x9 x10 x11 x12 : α) (l : List α) : (List.toArray (x0 :: x1 :: x2 :: x3 :: x4 :: x5 :: x6 :: x7 :: x8 :: x9 :: x10 :: x11 :: x12 :: l))[12]? = some x12 := rfl
set_option maxRecDepth 5000 in
theorem gt13 {α : Type} (x0 x1 x2 x3 x4 x5 x6 x7 x8 x9 x10 x11 x12 x13 : α) (l : List α) : (List.toArray (x0 :: x1 :: x2 :: x3 :: x4 :: x5 :: x6 :: x7 :: x8 :: x9 :: x10 :: x11 :: x12 :: x13 :: l))[13]? = some x13 := rfl
set_option maxRecDepth 5000 in
theorem gt14 {α : Type} (x0 x1 x2 x3 x4 x5 x6 x7 x8 x9 x10 x11 x12 x13 x14 : α) (l : List α) : (List.toArray (x0 :: x1 :: x2 :: x3 :: x4 :: x5 :: x6 :: x7 :: x8 :: x9 :: x10 :: x11 :: x12 :: x13 :: x14 :: l))[14]? = some x14 := rfl
set_option maxRecDepth 5000 in
theorem gt15 {α : Type} (x0 x1 x2 x3 x4 x5 x6 x7 x8 x9 x10 x11 x12 x13 x14 x15 : α) (l : List α) : (List.toArray (x0 :: x1 :: x2 :: x3 :: x4 :: x5 :: x6 :: x7 :: x8 :: x9 :: x10 :: x11 :: x12 :: x13 :: x14 :: x15 :: l))[15]? = some x15 := rfl
set_option maxRecDepth 5000 in
theorem gt16 {α : Type} (x0 x1 x2 x3 x4 x5 x6 x7 x8 x9 x10 x11 x12 x13 x14 x15 x16 : α) (l : List α) : (List.toArray (x0 :: x1 :: x2 :: x3 :: x4 :: x5 :: x6 :: x7 :: x8 :: x9 :: x10 :: x11 :: x12 :: x13 :: x14 :: x15 :: x16 :: l))[16]? = some x16 := rfl
set_option maxRecDepth 5000 in
theorem gt17 {α : Type} (x0 x1 x2 x3 x4 x5 x6 x7 x8 x9 x10 x11 x12 x13 x14 x15 x16 x17 : α) (l : List α) : (List.toArray (x0 :: x1 :: x2 :: x3 :: x4 :: x5 :: x6 :: x7 :: x8 :: x9 :: x10 :: x11 :: x12 :: x13 :: x14 :: x15 :: x16 :: x17 :: l))[17]? = some x17 := rfl
set_option maxRecDepth 5000 in
theorem gt18 {α : Type} (x0 x1 x2 x3 x4 x5 x6 x7 x8 x9 x10 x11 x12 x13 x14 x15 x16 x17 x18 : α) (l : List α) : (List.toArray (x0 :: x1 :: x2 :: x3 :: x4 :: x5 :: x6 :: x7 :: x8 :: x9 :: x10 :: x11 :: x12 :: x13 :: x14 :: x15 :: x16 :: x17 :: x18 :: l))[18]? = some x18 := rfl
set_option maxRecDepth 5000 in
theorem gt19 {α : Type} (x0 x1 x2 x3 x4 x5 x6 x7 x8 x9 x10 x11 x12 x13 x14 x15 x16 x17 x18 x19 : α) (l : List α) : (List.toArray (x0 :: x1 :: x2 :: x3 :: x4 :: x5 :: x6 :: x7 :: x8 :: x9 :: x10 :: x11 :: x12 :: x13 :: x14 :: x15 :: x16 :: x17 :: x18 :: x19 :: l))[19]? = some x19 := rfl
set_option maxRecDepth 5000 in
theorem gt20 {α : Type} (x0 x1 x2 x3 x4 x5 x6 x7 x8 x9 x10 x11 x12 x13 x14 x15 x16 x17 x18 x19 x20 : α) (l : List α) : (List.toArray (x0 :: x1 :: x2 :: x3 :: x4 :: x5 :: x6 :: x7 :: x8 :: x9 :: x10 :: x11 :: x12 :: x13 :: x14 :: x15 :: x16 :: x17 :: x18 :: x19 :: x20 :: l))[20]? = some x20 := rfl
set_option maxRecDepth 5000 in
theorem gt21 {α : Type} (x0 x1 x2 x3 x4 x5 x6 x7 x8 x9 x10 x11 x12 x13 x14 x15 x16 x17 x18 x19 x20 x21 : α) (l : List α) : (List.toArray (x0 :: x1 :: x2 :: x3 :: x4 :: x5 :: x6 :: x7 :: x8 :: x9 :: x10 :: x11 :: x12 :: x13 :: x14 :: x15 :: x16 :: x17 :: x18 :: x19 :: x20 :: x21 :: l))[21]? = some x21 := rfl
set_option maxRecDepth 5000 in
theorem step_two {ops : Array Oper} {o : Oper} {a : Act} {w : World} {K : Act → World → Prop} {Q : Exit → Act → World → Prop} {E : Prop} (f : FuncId) (args : Array Operand) (tys : Array TypeId) (_ho : o.op = .call { callee := .value (.func f), args := args, argTypes := tys }) (hgd : o.guard = none) (vals : Array Value)
    (hx : (execOp a.eval o).run Tryd.prog w = .ok (.enter f vals) w) {R : Ending → World → Prop} (hc : Calls Tryd.prog f vals w R) (hr : ∀ e w', R e w' → (∃ v, e = .returned v ∧ K (a.put o.dst v) w') ∨ (∃ x, e = fell x ∧ Q (.panic [{ v := .iface 33 (.int .i64 x), recovered := false }]) a w')) :
    if Region.wanted o (yielded ops a.tmps) = true then Oper.wp Tryd.prog o a w K Q else E := by
  have hw : Region.wanted o (yielded ops a.tmps) = true := by simp [Region.wanted, hgd]
  rw [if_pos hw]
  unfold Oper.wp
  rw [hx, Oper.upon_enter]
  refine hc.mono fun e w' he => ?_
  rcases hr e w' he with ⟨v, rfl, h⟩ | ⟨x, rfl, h⟩
  · exact h
  · exact h
set_option maxHeartbeats 4000000 in
set_option maxRecDepth 5000 in
theorem opn1_any (w0 w : World) (ht : Tab w) (D S M bj bJ bl be : Nat) (s s1 : K.St) (hB0 : Mv D S M w0 w) (hD : D < w0.heap.size) (hS : S < w0.heap.size) (hM : M < w0.heap.size) (h1 : w0.heap.size ≤ bj) (h2 : w0.heap.size ≤ bJ) (h3 : w0.heap.size ≤ bl) (h4 : w0.heap.size ≤ be)
    (hw : OpW D bj bJ bl be ⟨0, 0, 0, 0⟩ (.slice none 0 0) w) (hd : DiskAt FF w D S M s) (hT0 : 0 < w0.heap.size ∧ 0 < D ∧ 0 < S ∧ 0 < M)
    (hnew : ∀ W, Tab W → DiskAt FF W D S M s → Calls Tryd.prog 31 #[.agg #[.pointer (some ⟨D, 0, none⟩)]] W fun e w' => ((∃ h, HOw h ∧ h.u ≤ J.arb s1 ∧ e = .returned (.agg (hrow h))) ∨ e = fell 91) ∧ DiskAt FF w' D S M s1 ∧ Mv D S M W w')
    (hp : Pw s1) (hn : 8 ≤ s1.n) :
    Calls Tryd.prog 30 #[.pointer (some ⟨bj, 0, none⟩), .pointer (some ⟨bl, 0, none⟩)] w fun e w' => (e = .returned (.tuple #[]) ∧ ∃ h v M' L, OpW D bj bJ bl be h v w' ∧ DiskAt FF w' D S M' s1.synced ∧ Mv D S M w0 w' ∧ w0.heap.size ≤ M' ∧ OwnBs w' w0.heap.size v L) ∨ (e = fell 91 ∧ RowAt w' be 33 #[.int .i64 0] ∧ Mv D S M w0 w') := by
  have b0 : Below w.heap.size w w.drew := (Below.refl _ _).drew
  have W1 := hide (hw.below b0)
  have D1 := hide (hd.below b0 (Nat.le_refl _))
  have T1 := hide (ht.below b0 ht.1)
  have MM1 := hide (hB0.belowB b0 hB0.size)
  have HP := hide hp
  clear hw hd ht hB0 b0 hp
  go_enter Tryd.func30, Tryd.ntmps30
  go_wp2
  refine wp_region_X (S := fun w' => w'.cell? ⟨bj, 0, none⟩ = some (.pointer (some ⟨bJ, 0, none⟩)) ∧ w'.cell? ⟨bJ, 0, none⟩ = some (.pointer (some ⟨D, 0, none⟩))) (jS := 1000) (by kernel_rfl) ?_
  generalize w.drew = w1 at W1 D1 T1 MM1 ⊢
  have SA : Hid (w1.cell? ⟨bj, 0, none⟩ = some (.pointer (some ⟨bJ, 0, none⟩)) ∧ w1.cell? ⟨bJ, 0, none⟩ = some (.pointer (some ⟨D, 0, none⟩))) := ⟨W1.out.cj.cell 0, W1.out.jr.cell 0⟩
  refine wpAnyX_take (i := 0) (v := ?v1) (gt0 _ _) (by kernel_rfl) (by kernel_rfl) (by kernel_rfl) (by kernel_rfl) (fun _ _ _ h => h) (Or.inl ⟨by rfl, ?hy1⟩) SA.out ?rest1
  case hy1 => (intro wq hSw; obtain ⟨s0, s1⟩ := hSw; go_simp; try (with_reducible rfl))
  case' rest1 => try simp only [Act.put, List.setIfInBounds_toArray, List.set_cons_zero, List.set_cons_succ]
  refine wpAnyX_take (i := 1) (v := ?v2) (gt1 _ _ _) (by kernel_rfl) (by kernel_rfl) (by kernel_rfl) (by kernel_rfl) (fun _ _ _ h => h) (Or.inl ⟨by rfl, ?hy2⟩) SA.out ?rest2
  case hy2 => (intro wq hSw; obtain ⟨s0, s1⟩ := hSw; go_simp; try (with_reducible rfl))
  case' rest2 => try simp only [Act.put, List.setIfInBounds_toArray, List.set_cons_zero, List.set_cons_succ]
  refine wpAnyX_take (i := 2) (v := ?v3) (gt2 _ _ _ _) (by kernel_rfl) (by kernel_rfl) (by kernel_rfl) (by kernel_rfl) (fun _ _ _ h => h) (Or.inl ⟨by rfl, ?hy3⟩) SA.out ?rest3
  case hy3 => (intro wq hSw; obtain ⟨s0, s1⟩ := hSw; go_simp; try (with_reducible rfl))
  case' rest3 => try simp only [Act.put, List.setIfInBounds_toArray, List.set_cons_zero, List.set_cons_succ]
  refine wpAnyX_take (i := 3) (v := ?v4) (gt3 _ _ _ _ _) (by kernel_rfl) (by kernel_rfl) (by kernel_rfl) (by kernel_rfl) (fun _ _ _ h => h) (Or.inl ⟨by rfl, ?hy4⟩) SA.out ?rest4
  case hy4 => (intro wq hSw; obtain ⟨s0, s1⟩ := hSw; go_simp; try (with_reducible rfl))
  case' rest4 => try simp only [Act.put, List.setIfInBounds_toArray, List.set_cons_zero, List.set_cons_succ]
  refine wpAnyX_take (i := 4) (v := ?v5) (gt4 _ _ _ _ _ _) (by kernel_rfl) (by kernel_rfl) (by kernel_rfl) (by kernel_rfl) (fun _ _ _ h => h) (Or.inl ⟨by rfl, ?hy5⟩) SA.out ?rest5
  case hy5 => (intro wq hSw; obtain ⟨s0, s1⟩ := hSw; go_simp; try (with_reducible rfl))
  case' rest5 => try simp only [Act.put, List.setIfInBounds_toArray, List.set_cons_zero, List.set_cons_succ]
  refine wpAnyX_ready (rs := [5]) (by kernel_rfl) (by simp) (AllX.cons (gt5 _ _ _ _ _ _ _) (fun K hKK => ?br) AllX.nil)
  case br =>
    refine step_two 31 #[.tmp 6] _ rfl rfl #[.agg #[.pointer (some ⟨D, 0, none⟩)]] (by go_simp) (hnew w1 T1.out D1.out) ?_
    rintro e w2 ⟨⟨⟨Hc, Ha, Hu, Hb⟩, hOw, hHu, rfl⟩ | rfl, D2, M2⟩
    rotate_left
    · refine Or.inr ⟨91, rfl, ?_⟩
      have E9 := hide (W1.out.mv M2 hD hS hM h1 h2 h3 h4).ce
      have M9 := hide (MM1.out.trans M2 (Or.inl rfl))
      clear D2 M2 hKK
      exact ⟨rfl, Or.inr ⟨rfl, E9.out, M9.out⟩⟩
    refine Or.inl ⟨_, rfl, ?_⟩
    have HOK := hide hOw
    have HHu : Hu ≤ J.arb s1 := hHu
    clear hOw hHu
    unfold hrow
    simp only
    have W2 := hide (W1.out.mv M2 hD hS hM h1 h2 h3 h4)
    have DD2 := hide D2
    have MM2 := hide (MM1.out.trans M2 (Or.inl rfl))
    have SB : Hid (w2.cell? ⟨bj, 0, none⟩ = some (.pointer (some ⟨bJ, 0, none⟩)) ∧ w2.cell? ⟨bJ, 0, none⟩ = some (.pointer (some ⟨D, 0, none⟩))) := ⟨W2.out.cj.cell 0, W2.out.jr.cell 0⟩
    refine hKK.out _ _ (Or.inr SB.out) ?_
    clear hKK
    try simp only [Act.put, List.setIfInBounds_toArray, List.set_cons_zero, List.set_cons_succ]
    refine wpAnyX_take (i := 6) (v := ?v6) (gt6 _ _ _ _ _ _ _ _) (by kernel_rfl) (by kernel_rfl) (by kernel_rfl) (by kernel_rfl) (fun _ _ _ h => h) (Or.inl ⟨by rfl, ?hy6⟩) SB.out ?rest6
    case hy6 => (intro wq hSw; obtain ⟨s0, s1⟩ := hSw; go_simp; try (with_reducible rfl))
    case' rest6 => try simp only [Act.put, List.setIfInBounds_toArray, List.set_cons_zero, List.set_cons_succ]
    refine wpAnyX_take (i := 7) (v := ?v7) (gt7 _ _ _ _ _ _ _ _ _) (by kernel_rfl) (by kernel_rfl) (by kernel_rfl) (by kernel_rfl) (fun _ _ _ h => h) (Or.inl ⟨by rfl, ?hy7⟩) SB.out ?rest7
    case hy7 => (intro wq hSw; obtain ⟨s0, s1⟩ := hSw; go_simp; try (with_reducible rfl))
    case' rest7 => try simp only [Act.put, List.setIfInBounds_toArray, List.set_cons_zero, List.set_cons_succ]
    have q1 : w2.cell? ⟨bJ, 1, none⟩ = some (.int .u64 0) := W2.out.jr.cell 1
    have q2 : w2.cell? ⟨bJ, 2, none⟩ = some (.int .i64 0) := W2.out.jr.cell 2
    have q3 : w2.cell? ⟨bJ, 3, none⟩ = some (.int .i64 0) := W2.out.jr.cell 3
    have q4 : w2.cell? ⟨bJ, 4, none⟩ = some (.int .i64 0) := W2.out.jr.cell 4
    have f1 := W2.out.jr.frozen 1
    have f2 := W2.out.jr.frozen 2
    have f3 := W2.out.jr.frozen 3
    have f4 := W2.out.jr.frozen 4
    clear D2 M2 D1 SA
    refine wpAnyX_ready (rs := [8]) (by kernel_rfl) (by simp) (AllX.cons (gt8 _ _ _ _ _ _ _ _ _ _) (fun K hKK => ?br) AllX.nil)
    case br =>
      go_simp
      have hne := (W2.out.jr.ne W2.out.cj (by decide)).symm
      have hnl := (W2.out.jr.ne W2.out.cl (by decide)).symm
      have hnx := (W2.out.jr.ne W2.out.ce (by decide)).symm
      have W3 : Hid (OpW D bj bJ bl be ⟨Hc, Ha, Hu, Hb⟩ (.slice none 0 0) ((((w2.setCell ⟨bJ, 1, none⟩ (.int .u64 (Hc : Int))).setCell ⟨bJ, 2, none⟩ (.int .i64 (Ha : Int))).setCell ⟨bJ, 3, none⟩ (.int .i64 (Hu : Int))).setCell ⟨bJ, 4, none⟩ (.int .i64 (Hb : Int)))) := ⟨(((W2.out.cj.other _ _ hne).other _ _ hne).other _ _ hne).other _ _ hne, (((W2.out.jr.set 1 (.int .u64 (Hc : Int))).set 2 (.int .i64 (Ha : Int))).set 3 (.int .i64 (Hu : Int))).set 4 (.int .i64 (Hb : Int)), (((W2.out.cl.other _ _ hnl).other _ _ hnl).other _ _ hnl).other _ _ hnl, (((W2.out.ce.other _ _ hnx).other _ _ hnx).other _ _ hnx).other _ _ hnx⟩
      have b3 : Below bJ w2 ((((w2.setCell ⟨bJ, 1, none⟩ (.int .u64 (Hc : Int))).setCell ⟨bJ, 2, none⟩ (.int .i64 (Ha : Int))).setCell ⟨bJ, 3, none⟩ (.int .i64 (Hu : Int))).setCell ⟨bJ, 4, none⟩ (.int .i64 (Hb : Int))) := ((((Below.refl bJ w2).setCell (p := ⟨bJ, 1, none⟩) (Nat.le_refl bJ) _).setCell (p := ⟨bJ, 2, none⟩) (Nat.le_refl bJ) _).setCell (p := ⟨bJ, 3, none⟩) (Nat.le_refl bJ) _).setCell (p := ⟨bJ, 4, none⟩) (Nat.le_refl bJ) _
      have k3 : Rows w2 ((((w2.setCell ⟨bJ, 1, none⟩ (.int .u64 (Hc : Int))).setCell ⟨bJ, 2, none⟩ (.int .i64 (Ha : Int))).setCell ⟨bJ, 3, none⟩ (.int .i64 (Hu : Int))).setCell ⟨bJ, 4, none⟩ (.int .i64 (Hb : Int))) := fun g' c' hg' => by
        have hn' := (W2.out.jr.ne hg' (by decide)).symm
        exact (((hg'.other _ _ hn').other _ _ hn').other _ _ hn').other _ _ hn'
      have D3 := hide (DD2.out.keptB b3 k3 (by omega) (by omega) (by omega))
      have MM3 := hide (MM2.out.belowB b3 h2)
      clear W2 DD2 MM2 q1 q2 q3 q4 f1 f2 f3 f4 k3 b3 hne hnl hnx hnew SB
      generalize ((((w2.setCell ⟨bJ, 1, none⟩ (.int .u64 (Hc : Int))).setCell ⟨bJ, 2, none⟩ (.int .i64 (Ha : Int))).setCell ⟨bJ, 3, none⟩ (.int .i64 (Hu : Int))).setCell ⟨bJ, 4, none⟩ (.int .i64 (Hb : Int))) = w3 at W3 D3 MM3 ⊢
      have T3 := hide (T1.out.mvw MM1.out MM3.out hT0)
      have z3 : w0.heap.size ≤ w3.heap.size := MM3.out.size
      refine hKK.out _ _ (Or.inr ⟨W3.out.cj.cell 0, W3.out.jr.cell 0⟩) ?_
      clear hKK
      try simp only [Act.put, List.setIfInBounds_toArray, List.set_cons_zero, List.set_cons_succ]
      refine wpAnyX_done (by kernel_rfl) ?_ _
      have b4 : Below w3.heap.size w3 w3.drew := (Below.refl _ _).drew
      have W4 := hide (W3.out.below b4)
      have D4 := hide (D3.out.below b4 (Nat.le_refl _))
      have T4 := hide (T3.out.below b4 T3.out.1)
      have MM4 := hide (MM3.out.belowB b4 z3)
      obtain ⟨bb, hbb⟩ : ∃ bb, bb = (J.cat s1 (2 + Ha * J.ars s1) (J.ars s1)).take Hu := ⟨_, rfl⟩
      have HUL : Hid (bb.length = Hu) := by
        obtain ⟨e1, e2, e3, e4⟩ := D3.out.bds
        have hA2 : 2 + 2 * J.ars s1 ≤ s1.n := by unfold J.ars; omega
        have ha2 : Ha < 2 := HOK.out.a
        have hA3 : Ha * J.ars s1 ≤ 1 * J.ars s1 := Nat.mul_le_mul_right _ (by omega)
        have := J.cat_len s1 (2 + Ha * J.ars s1) (J.ars s1) (fun i hi => D3.out.rdlen _ (by omega))
        show _ = _
        rw [hbb, List.length_take, this]; unfold J.arb at HHu; omega
      have hu9 : Hu ≤ 1000000000 := by
        have h7 : J.arb s1 ≤ 4096 * 4096 := (by obtain ⟨_, e2, _, e4⟩ := D3.out.bds; exact Nat.mul_le_mul (by unfold J.ars; omega) e2)
        omega
      have hsb : ∀ W, DiskAt FF W D S M s1 → Calls Tryd.prog 33 #[.agg #[.pointer (some ⟨D, 0, none⟩)], .int .i64 (Ha : Int), .int .i64 (Hu : Int)] W fun e w' => ∃ ao c, e = .returned (.slice ao Hu c) ∧ Hu ≤ c ∧ (ao = none → Hu = 0 ∧ c = 0) ∧ (∀ ad, ao = some ad → ∃ g, ad = ⟨g, 0, none⟩) ∧ SlL w' ao bb ∧ Below W.heap.size W w' := fun W hW => by
        have := sbytes_ok W D S M s1 hW HP.out.1 hn Ha HOK.out.a Hu HHu
        rw [← hbb] at this; exact this
      have hHb : Hb ≤ 1048576 := HOK.out.b
      clear b4 W3 D3 T3 hbb HOK
      go_wp2
      refine wp_region_X (S := fun w' => w'.cell? ⟨bj, 0, none⟩ = some (.pointer (some ⟨bJ, 0, none⟩)) ∧ w'.cell? ⟨bJ, 0, none⟩ = some (.pointer (some ⟨D, 0, none⟩)) ∧ w'.cell? ⟨bJ, 2, none⟩ = some (.int .i64 (Ha : Int)) ∧ w'.cell? ⟨bJ, 3, none⟩ = some (.int .i64 (Hu : Int)) ∧ w'.cell? ⟨bJ, 4, none⟩ = some (.int .i64 (Hb : Int))) (jS := 1000) (by kernel_rfl) ?_
      have z4 : w0.heap.size ≤ w3.drew.heap.size := z3
      generalize w3.drew = w4 at W4 D4 T4 MM4 z4 ⊢
      have cc4 := hide (And.intro (W4.out.cj.cell 0) (And.intro (W4.out.jr.cell 0) (And.intro (W4.out.jr.cell 2) (And.intro (W4.out.jr.cell 3) (W4.out.jr.cell 4)))))
      refine wpAnyX_take (i := 0) (v := ?v8) (gt0 _ _) (by kernel_rfl) (by kernel_rfl) (by kernel_rfl) (by kernel_rfl) (fun _ _ _ h => h) (Or.inl ⟨by rfl, ?hy8⟩) cc4.out ?rest8
      case hy8 => (intro wq hSw; obtain ⟨s0, s1, s2, s3, s4⟩ := hSw; go_simp; try (with_reducible rfl))
      case' rest8 => try simp only [Act.put, List.setIfInBounds_toArray, List.set_cons_zero, List.set_cons_succ]
      refine wpAnyX_take (i := 1) (v := ?v9) (gt1 _ _ _) (by kernel_rfl) (by kernel_rfl) (by kernel_rfl) (by kernel_rfl) (fun _ _ _ h => h) (Or.inl ⟨by rfl, ?hy9⟩) cc4.out ?rest9
      case hy9 => (intro wq hSw; obtain ⟨s0, s1, s2, s3, s4⟩ := hSw; go_simp; try (with_reducible rfl))
      case' rest9 => try simp only [Act.put, List.setIfInBounds_toArray, List.set_cons_zero, List.set_cons_succ]
      refine wpAnyX_take (i := 2) (v := ?v10) (gt2 _ _ _ _) (by kernel_rfl) (by kernel_rfl) (by kernel_rfl) (by kernel_rfl) (fun _ _ _ h => h) (Or.inl ⟨by rfl, ?hy10⟩) cc4.out ?rest10
      case hy10 => (intro wq hSw; obtain ⟨s0, s1, s2, s3, s4⟩ := hSw; go_simp; try (with_reducible rfl))
      case' rest10 => try simp only [Act.put, List.setIfInBounds_toArray, List.set_cons_zero, List.set_cons_succ]
      refine wpAnyX_take (i := 3) (v := ?v11) (gt3 _ _ _ _ _) (by kernel_rfl) (by kernel_rfl) (by kernel_rfl) (by kernel_rfl) (fun _ _ _ h => h) (Or.inl ⟨by rfl, ?hy11⟩) cc4.out ?rest11
      case hy11 => (intro wq hSw; obtain ⟨s0, s1, s2, s3, s4⟩ := hSw; go_simp; try (with_reducible rfl))
      case' rest11 => try simp only [Act.put, List.setIfInBounds_toArray, List.set_cons_zero, List.set_cons_succ]
      refine wpAnyX_take (i := 4) (v := ?v12) (gt4 _ _ _ _ _ _) (by kernel_rfl) (by kernel_rfl) (by kernel_rfl) (by kernel_rfl) (fun _ _ _ h => h) (Or.inl ⟨by rfl, ?hy12⟩) cc4.out ?rest12
      case hy12 => (intro wq hSw; obtain ⟨s0, s1, s2, s3, s4⟩ := hSw; go_simp; try (with_reducible rfl))
      case' rest12 => try simp only [Act.put, List.setIfInBounds_toArray, List.set_cons_zero, List.set_cons_succ]
      refine wpAnyX_take (i := 5) (v := ?v13) (gt5 _ _ _ _ _ _ _) (by kernel_rfl) (by kernel_rfl) (by kernel_rfl) (by kernel_rfl) (fun _ _ _ h => h) (Or.inl ⟨by rfl, ?hy13⟩) cc4.out ?rest13
      case hy13 => (intro wq hSw; obtain ⟨s0, s1, s2, s3, s4⟩ := hSw; go_simp; try (with_reducible rfl))
      case' rest13 => try simp only [Act.put, List.setIfInBounds_toArray, List.set_cons_zero, List.set_cons_succ]
      refine wpAnyX_take (i := 6) (v := ?v14) (gt6 _ _ _ _ _ _ _ _) (by kernel_rfl) (by kernel_rfl) (by kernel_rfl) (by kernel_rfl) (fun _ _ _ h => h) (Or.inl ⟨by rfl, ?hy14⟩) cc4.out ?rest14
      case hy14 => (intro wq hSw; obtain ⟨s0, s1, s2, s3, s4⟩ := hSw; go_simp; try (with_reducible rfl))
      case' rest14 => try simp only [Act.put, List.setIfInBounds_toArray, List.set_cons_zero, List.set_cons_succ]
      refine wpAnyX_take (i := 7) (v := ?v15) (gt7 _ _ _ _ _ _ _ _ _) (by kernel_rfl) (by kernel_rfl) (by kernel_rfl) (by kernel_rfl) (fun _ _ _ h => h) (Or.inl ⟨by rfl, ?hy15⟩) cc4.out ?rest15
      case hy15 => (intro wq hSw; obtain ⟨s0, s1, s2, s3, s4⟩ := hSw; go_simp; try (with_reducible rfl))
      case' rest15 => try simp only [Act.put, List.setIfInBounds_toArray, List.set_cons_zero, List.set_cons_succ]
      refine wpAnyX_take (i := 8) (v := ?v16) (gt8 _ _ _ _ _ _ _ _ _ _) (by kernel_rfl) (by kernel_rfl) (by kernel_rfl) (by kernel_rfl) (fun _ _ _ h => h) (Or.inl ⟨by rfl, ?hy16⟩) cc4.out ?rest16
      case hy16 => (intro wq hSw; obtain ⟨s0, s1, s2, s3, s4⟩ := hSw; go_simp; try (with_reducible rfl))
      case' rest16 => try simp only [Act.put, List.setIfInBounds_toArray, List.set_cons_zero, List.set_cons_succ]
      refine wpAnyX_take (i := 9) (v := ?v17) (gt9 _ _ _ _ _ _ _ _ _ _ _) (by kernel_rfl) (by kernel_rfl) (by kernel_rfl) (by kernel_rfl) (fun _ _ _ h => h) (Or.inl ⟨by rfl, ?hy17⟩) cc4.out ?rest17
      case hy17 => (intro wq hSw; obtain ⟨s0, s1, s2, s3, s4⟩ := hSw; go_simp; try (with_reducible rfl))
      case' rest17 => try simp only [Act.put, List.setIfInBounds_toArray, List.set_cons_zero, List.set_cons_succ]
      refine wpAnyX_take (i := 10) (v := ?v18) (gt10 _ _ _ _ _ _ _ _ _ _ _ _) (by kernel_rfl) (by kernel_rfl) (by kernel_rfl) (by kernel_rfl) (fun _ _ _ h => h) (Or.inl ⟨by rfl, ?hy18⟩) cc4.out ?rest18
      case hy18 => (intro wq hSw; obtain ⟨s0, s1, s2, s3, s4⟩ := hSw; go_simp; try (with_reducible rfl))
      case' rest18 => try simp only [Act.put, List.setIfInBounds_toArray, List.set_cons_zero, List.set_cons_succ]
      refine wpAnyX_take (i := 11) (v := ?v19) (gt11 _ _ _ _ _ _ _ _ _ _ _ _ _) (by kernel_rfl) (by kernel_rfl) (by kernel_rfl) (by kernel_rfl) (fun _ _ _ h => h) (Or.inl ⟨by rfl, ?hy19⟩) cc4.out ?rest19
      case hy19 => (intro wq hSw; obtain ⟨s0, s1, s2, s3, s4⟩ := hSw; go_simp; try (with_reducible rfl))
      case' rest19 => try simp only [Act.put, List.setIfInBounds_toArray, List.set_cons_zero, List.set_cons_succ]
      refine wpAnyX_take (i := 12) (v := ?v20) (gt12 _ _ _ _ _ _ _ _ _ _ _ _ _ _) (by kernel_rfl) (by kernel_rfl) (by kernel_rfl) (by kernel_rfl) (fun _ _ _ h => h) (Or.inl ⟨by rfl, ?hy20⟩) cc4.out ?rest20
      case hy20 => (intro wq hSw; obtain ⟨s0, s1, s2, s3, s4⟩ := hSw; go_simp; try (with_reducible rfl))
      case' rest20 => try simp only [Act.put, List.setIfInBounds_toArray, List.set_cons_zero, List.set_cons_succ]
      refine wpAnyX_take (i := 13) (v := ?v21) (gt13 _ _ _ _ _ _ _ _ _ _ _ _ _ _ _) (by kernel_rfl) (by kernel_rfl) (by kernel_rfl) (by kernel_rfl) (fun _ _ _ h => h) (Or.inl ⟨by rfl, ?hy21⟩) cc4.out ?rest21
      case hy21 => (intro wq hSw; obtain ⟨s0, s1, s2, s3, s4⟩ := hSw; go_simp; try (with_reducible rfl))
      case' rest21 => try simp only [Act.put, List.setIfInBounds_toArray, List.set_cons_zero, List.set_cons_succ]
      refine wpAnyX_take (i := 15) (v := ?v22) (gt15 _ _ _ _ _ _ _ _ _ _ _ _ _ _ _ _ _) (by kernel_rfl) (by kernel_rfl) (by kernel_rfl) (by kernel_rfl) (fun _ _ _ h => h) (Or.inl ⟨by rfl, ?hy22⟩) cc4.out ?rest22
      case hy22 => (intro wq hSw; obtain ⟨s0, s1, s2, s3, s4⟩ := hSw; go_simp; try (with_reducible rfl))
      case' rest22 => try simp only [Act.put, List.setIfInBounds_toArray, List.set_cons_zero, List.set_cons_succ]
      refine wpAnyX_take (i := 16) (v := ?v23) (gt16 _ _ _ _ _ _ _ _ _ _ _ _ _ _ _ _ _ _) (by kernel_rfl) (by kernel_rfl) (by kernel_rfl) (by kernel_rfl) (fun _ _ _ h => h) (Or.inl ⟨by rfl, ?hy23⟩) cc4.out ?rest23
      case hy23 => (intro wq hSw; obtain ⟨s0, s1, s2, s3, s4⟩ := hSw; go_simp; try (with_reducible rfl))
      case' rest23 => try simp only [Act.put, List.setIfInBounds_toArray, List.set_cons_zero, List.set_cons_succ]
      refine wpAnyX_take (i := 17) (v := ?v24) (gt17 _ _ _ _ _ _ _ _ _ _ _ _ _ _ _ _ _ _ _) (by kernel_rfl) (by kernel_rfl) (by kernel_rfl) (by kernel_rfl) (fun _ _ _ h => h) (Or.inl ⟨by rfl, ?hy24⟩) cc4.out ?rest24
      case hy24 => (intro wq hSw; obtain ⟨s0, s1, s2, s3, s4⟩ := hSw; go_simp; try (with_reducible rfl))
      case' rest24 => try simp only [Act.put, List.setIfInBounds_toArray, List.set_cons_zero, List.set_cons_succ]
      refine wpAnyX_take (i := 18) (v := ?v25) (gt18 _ _ _ _ _ _ _ _ _ _ _ _ _ _ _ _ _ _ _ _) (by kernel_rfl) (by kernel_rfl) (by kernel_rfl) (by kernel_rfl) (fun _ _ _ h => h) (Or.inl ⟨by rfl, ?hy25⟩) cc4.out ?rest25
      case hy25 => (intro wq hSw; obtain ⟨s0, s1, s2, s3, s4⟩ := hSw; go_simp; try (with_reducible rfl))
      case' rest25 => try simp only [Act.put, List.setIfInBounds_toArray, List.set_cons_zero, List.set_cons_succ]
      refine wpAnyX_take (i := 19) (v := ?v26) (gt19 _ _ _ _ _ _ _ _ _ _ _ _ _ _ _ _ _ _ _ _ _) (by kernel_rfl) (by kernel_rfl) (by kernel_rfl) (by kernel_rfl) (fun _ _ _ h => h) (Or.inl ⟨by rfl, ?hy26⟩) cc4.out ?rest26
      case hy26 => (intro wq hSw; obtain ⟨s0, s1, s2, s3, s4⟩ := hSw; go_simp; try (with_reducible rfl))
      case' rest26 => try simp only [Act.put, List.setIfInBounds_toArray, List.set_cons_zero, List.set_cons_succ]
      refine wpAnyX_ready (rs := [14]) (by kernel_rfl) (by simp) (AllX.cons (gt14 _ _ _ _ _ _ _ _ _ _ _ _ _ _ _ _) (fun K hKK => ?br) AllX.nil)
      case br =>
        refine step_two 33 #[.tmp 13, .tmp 18, .tmp 23] _ rfl rfl #[.agg #[.pointer (some ⟨D, 0, none⟩)], .int .i64 (Ha : Int), .int .i64 (Hu : Int)] (by go_simp) (hsb w4 D4.out) ?_
        rintro e w5 ⟨ao, ca, rfl, ha1, ha2, ha3, ha4, b5⟩
        refine Or.inl ⟨_, rfl, ?_⟩
        have W5 := hide (W4.out.below b5)
        have D5 := hide (D4.out.below b5 (Nat.le_refl _))
        have MM5 := hide (MM4.out.belowB b5 z4)
        have T5 := hide (T4.out.below b5 T4.out.1)
        have z5 : w0.heap.size ≤ w5.heap.size := MM5.out.size
        have HA1 := hide ha1
        have HA2 := hide ha2
        have HA3 := hide ha3
        have HA4 := hide ha4
        have cc5 := hide (And.intro (W5.out.cj.cell 0) (And.intro (W5.out.jr.cell 0) (And.intro (W5.out.jr.cell 2) (And.intro (W5.out.jr.cell 3) (W5.out.jr.cell 4)))))
        clear ha1 ha2 ha3 ha4 b5 W4 D4 MM4 T4 cc4
        refine hKK.out _ _ (Or.inr cc5.out) ?_
        clear hKK
        try simp only [Act.put, List.setIfInBounds_toArray, List.set_cons_zero, List.set_cons_succ]
        refine wpAnyX_ready (rs := [20]) (by kernel_rfl) (by simp) (AllX.cons (gt20 _ _ _ _ _ _ _ _ _ _ _ _ _ _ _ _ _ _ _ _ _ _) (fun K hKK => ?br) AllX.nil)
        case br =>
          refine step_two 32 #[.tmp 24, .tmp 29] _ rfl rfl #[.slice ao Hu ca, .int .i64 (Hb : Int)] (by go_simp) (openFrames_any w5 T5.out ao Hu ca Hb bb HUL.out hHb hu9 HA1.out HA4.out HA2.out HA3.out) ?_
          rintro e w6 ⟨⟨v6, rfl, LL, O6, hLL⟩ | rfl, b6⟩
          rotate_left
          · refine Or.inr ⟨91, rfl, ?_⟩
            have E9 := hide (W5.out.below b6).ce
            have M9 := hide (MM5.out.belowB b6 z5)
            clear b6 hKK
            exact ⟨rfl, Or.inr ⟨rfl, E9.out, M9.out⟩⟩
          refine Or.inl ⟨_, rfl, ?_⟩
          have W6 := hide (W5.out.below b6)
          have D6 := hide (D5.out.below b6 (Nat.le_refl _))
          have MM6 := hide (MM5.out.belowB b6 z5)
          obtain ⟨a6, n6, hv6⟩ := O6.slice
          rw [hv6] at O6 ⊢
          have HO6 := hide O6
          have cc6 := hide (And.intro (W6.out.cj.cell 0) (And.intro (W6.out.jr.cell 0) (And.intro (W6.out.jr.cell 2) (And.intro (W6.out.jr.cell 3) (W6.out.jr.cell 4)))))
          clear O6 hv6 hLL b6 W5 D5 MM5 T5 cc5
          refine hKK.out _ _ (Or.inr cc6.out) ?_
          clear hKK
          try simp only [Act.put, List.setIfInBounds_toArray, List.set_cons_zero, List.set_cons_succ]
          have l0 : w6.cell? ⟨bl, 0, none⟩ = some (.slice none 0 0) := W6.out.cl.cell 0
          have lf := W6.out.cl.frozen 0
          refine wpAnyX_ready (rs := [21]) (by kernel_rfl) (by simp) (AllX.cons (gt21 _ _ _ _ _ _ _ _ _ _ _ _ _ _ _ _ _ _ _ _ _ _ _) (fun K hKK => ?br) AllX.nil)
          case br =>
            go_simp
            have hn5 := (W6.out.jr.ne W6.out.cl (by decide))
            have hn6 := (W6.out.cj.ne W6.out.cl (by decide))
            have W7 : Hid (OpW D bj bJ bl be ⟨Hc, Ha, Hu, Hb⟩ (.slice a6 LL.length n6) (w6.setCell ⟨bl, 0, none⟩ (.slice a6 LL.length n6))) := ⟨W6.out.cj.other _ _ hn6, W6.out.jr.other _ _ hn5, W6.out.cl.set 0 (.slice a6 LL.length n6), W6.out.ce.other _ _ (W6.out.cl.ne W6.out.ce (by decide)).symm⟩
            have b7 : Below bl w6 (w6.setCell ⟨bl, 0, none⟩ (.slice a6 LL.length n6)) := (Below.refl bl w6).setCell (p := ⟨bl, 0, none⟩) (Nat.le_refl bl) _
            have k7 : Rows w6 (w6.setCell ⟨bl, 0, none⟩ (.slice a6 LL.length n6)) := fun g' c' hg' => hg'.other _ _ (W6.out.cl.ne hg' (by decide)).symm
            have D7 := hide (D6.out.keptB b7 k7 (by omega) (by omega) (by omega))
            have MM7 := hide (MM6.out.belowB b7 h3)
            have O7 : Hid (OwnBs (w6.setCell ⟨bl, 0, none⟩ (.slice a6 LL.length n6)) w5.heap.size (.slice a6 LL.length n6) LL) := HO6.out.kept (by simp) (fun g o ho hb => heap_setCell_other _ _ _ _ (fun e => by
                have h9 := W6.out.cl
                unfold RowAt at h9
                rw [show g = bl from e, h9] at ho
                injection ho with ho
                rcases hb with ⟨c, fr, hb⟩ | ⟨_, c, fr, hb⟩
                · rw [hb] at ho; injection ho with _ ho _; exact absurd ho (by decide)
                · rw [hb] at ho; injection ho with _ ho _; exact absurd ho (by decide)))
            clear W6 D6 MM6 HO6 l0 lf hn5 hn6 b7 k7 cc6
            generalize w6.setCell ⟨bl, 0, none⟩ (.slice a6 LL.length n6) = w7 at W7 D7 MM7 O7 ⊢
            refine hKK.out _ _ (Or.inr ⟨W7.out.cj.cell 0, W7.out.jr.cell 0, W7.out.jr.cell 2, W7.out.jr.cell 3, W7.out.jr.cell 4⟩) ?_
            clear hKK
            try simp only [Act.put, List.setIfInBounds_toArray, List.set_cons_zero, List.set_cons_succ]
            refine wpAnyX_done (by kernel_rfl) ?_ _
            have d0 : w7.cell? ⟨bj, 0, none⟩ = some (.pointer (some ⟨bJ, 0, none⟩)) := W7.out.cj.cell 0
            have d1 : w7.cell? ⟨bJ, 0, none⟩ = some (.pointer (some ⟨D, 0, none⟩)) := W7.out.jr.cell 0
            have hsy := ssync_ok w7 D S M s1 D7.out HP.out
            unfold stv at hsy
            go_wp2_with (go_at_call 34; refine hsy.mono ?_; rintro e w8 ⟨rfl, M', D8, M8, z8⟩; have DD8 := hide D8; have MM8 := hide M8; have ZZ8 := hide z8; clear D8 M8 z8)
            go_end0
            refine Or.inl ⟨rfl, _, _, M', LL, W7.out.mv MM8.out hD hS hM h1 h2 h3 h4, DD8.out, MM7.out.trans MM8.out (Or.inl rfl), Nat.le_trans MM7.out.size ZZ8.out, ?_⟩
            refine (O7.out.kept MM8.out.size (fun g o ho hb => ?_)).low z5
            have hlt : g < w7.heap.size := (Array.getElem?_eq_some_iff.1 ho).1
            obtain ⟨sv, uv, hkk⟩ := D7.out
            rcases hb with ⟨c, fr, rfl⟩ | ⟨hbg, c, fr, rfl⟩
            · refine MM8.out.block g hlt (fun e => ?_) (fun e => ?_) (hkk.un.row_ne ho)
              · have := hkk.row; unfold RowAt at this; rw [e, this] at ho; injection ho with ho; injection ho with _ ho _; exact absurd ho (by decide)
              · have := hkk.sure; unfold RowAt at this; rw [e, this] at ho; injection ho with ho; injection ho with _ ho _; exact absurd ho (by decide)
            · exact MM8.out.block g hlt (by omega) (by omega) (by omega)
end Go.Proofs.YtidocfajhhpfdaaDoor

/- attempt, where something may fall; Open of any bytes. -/
namespace Go.Proofs.YtidocfajhhpfdaaDoor
open Go.RowKit
set_option maxRecDepth 5000 in
theorem run_assert (x : Int) (W : World) : (Instr.typeAssert (.iface 33 (.int .i64 x)) 20 33 true).run Tryd.prog W = .ok (.tuple #[.int .i64 x, .bool true]) W := by
  simp [Instr.typeAssert, run_underlying Tryd.underlying33, go_sem, Result.andThen]
set_option maxRecDepth 5000 in
theorem attempt1_fell (A : Nat) (ve : Value) (x : Int) (w : World) (hq : w.cell? ⟨A, 0, none⟩ = some ve) (fq : w.frozen? ⟨A, 0, none⟩ = false) (hq2 : (w.setCell ⟨A, 0, none⟩ (.int .i64 91)).cell? ⟨A, 0, none⟩ = some (.int .i64 91)) (fq2 : (w.setCell ⟨A, 0, none⟩ (.int .i64 91)).frozen? ⟨A, 0, none⟩ = false) :
    CallsD Tryd.prog 44 #[.pointer (some ⟨A, 0, none⟩)] (.panicking [{ v := .iface 33 (.int .i64 x), recovered := false }]) w fun e u' w' =>
      e = .returned (.tuple #[]) ∧ u' = .panicking [{ v := .iface 33 (.int .i64 x), recovered := true }] ∧ w' = (w.setCell ⟨A, 0, none⟩ (.int .i64 91)).setCell ⟨A, 0, none⟩ (.int .i64 x) := by
  refine callsD_of_wpS Tryd.func44 rfl fun c₀ cs hu => ?_
  apply wpS_seq
  apply wpS_region
  simp [wpOpsS, go_sem, recoverD, hu, Tryd.ntmps44, Exit.thenS]
  apply wpS_seq
  apply wpS_region
  simp [wpOpsS, go_sem, Exit.thenS]
  refine wpS_cond (t := true) (by simp [Act.eval]) ?_
  simp only [if_true]
  have hta := run_assert x
  apply wpS_seq
  apply wpS_region
  simp [wpOpsS, go_sem, Exit.thenS, hq, fq]
  apply wpS_seq
  apply wpS_region
  simp [wpOpsS, go_sem, Exit.thenS, hta]
  apply wpS_seq
  apply wpS_region
  simp [wpOpsS, go_sem, Exit.thenS]
  refine wpS_cond (t := true) (by simp [Act.eval]) ?_
  simp only [if_true]
  apply wpS_region
  simp [wpOpsS, go_sem, hq2, fq2, bodyPostS, results, Tryd.results44]
set_option maxHeartbeats 1000000 in
set_option maxRecDepth 5000 in
theorem attempt_any (w : World) (k : Nat) (caps : Array Value) (ek : ∀ args w, (callFunc k args).run Tryd.prog w = .ok (.enter k args) w) (R : World → Prop) (F : Int → World → Prop)
    (hf : Calls Tryd.prog k caps (w.alloc (.cells #[.int .i64 0] 33)) fun e w' => (e = .returned (.tuple #[]) ∧ R w') ∨ ∃ x, e = fell x ∧ F x w') (hR : ∀ w', R w' → RowAt w' w.heap.size 33 #[.int .i64 0]) (hF : ∀ x w', F x w' → RowAt w' w.heap.size 33 #[.int .i64 0]) :
    Calls Tryd.prog 29 #[.func (.func k) #[] caps] w fun e w' => (e = .returned (.int .i64 0) ∧ ∃ w1, R w1 ∧ w' = w1.setCell ⟨w.heap.size, 0, none⟩ (.int .i64 0)) ∨ ∃ x, e = .returned (.int .i64 x) ∧ ∃ w1, F x w1 ∧ w' = (w1.setCell ⟨w.heap.size, 0, none⟩ (.int .i64 91)).setCell ⟨w.heap.size, 0, none⟩ (.int .i64 x) := by
  have hmf : ∀ (fn : Fn) (first cap : Array Value) (w : World), (Instr.makeFunc fn first cap).run Tryd.prog w = .ok (.func fn first cap) w := fun _ _ _ _ => rfl
  go_enter_defers Tryd.func29, Tryd.ntmps29
  go_wp2_with fail
  refine hf.mono ?_
  rintro e w1 (⟨rfl, h1⟩ | ⟨x, rfl, h1⟩)
  rotate_left
  · have RW := hide (hF x w1 h1)
    have HF1 := hide h1
    clear h1 hf hR hF
    unfold fell
    go_wp2
    refine leaves_cons (f := 44) (args := #[.pointer (some ⟨w.heap.size, 0, none⟩)]) (by simp) (by simp [go_sem]) ?_
    refine (attempt1_fell w.heap.size _ x _ (RW.out.cell 0) (RW.out.frozen 0) ((RW.out.set 0 (.int .i64 91)).cell 0) ((RW.out.set 0 (.int .i64 91)).frozen 0)).mono ?_
    rintro e u' w'' ⟨rfl, rfl, hw⟩
    have q0 : w''.cell? ⟨w.heap.size, 0, none⟩ = some (.int .i64 x) := by rw [hw]; exact ((RW.out.set 0 (.int .i64 91)).set 0 (.int .i64 x)).cell 0
    have hw' := hide hw
    clear hw
    simp [Leaves, settle, results, Tryd.results29, go_sem, q0]
    exact Or.inr ⟨w1, HF1.out, hw'.out⟩
  have RW := hide (hR w1 h1)
  have HR1 := hide h1
  have x0 : w1.cell? ⟨w.heap.size, 0, none⟩ = some (.int .i64 0) := RW.out.cell 0
  have f0 := RW.out.frozen 0
  clear h1 hf hR hF
  go_wp2
  refine leaves_cons (f := 44) (args := #[.pointer (some ⟨w.heap.size, 0, none⟩)]) (by simp) (by simp [go_sem]) ?_
  refine (attempt1_idle w.heap.size _).mono ?_
  rintro e u' w'' ⟨rfl, rfl, hw⟩
  have q0 : w''.cell? ⟨w.heap.size, 0, none⟩ = some (.int .i64 0) := by rw [hw]; exact (RW.out.set 0 _).cell 0
  have hw' := hide hw
  clear hw
  simp [Leaves, settle, results, Tryd.results29, go_sem, q0]
  exact Or.inl ⟨w1, HR1.out, hw'.out⟩
set_option maxHeartbeats 4000000 in
set_option maxRecDepth 5000 in
theorem opn_any (w : World) (ht : Tab w) (D S M : Nat) (s s1 : K.St) (hd : DiskAt FF w D S M s) (hs8 : 8 ≤ s.n) (hpos : 0 < D ∧ 0 < S ∧ 0 < M)
    (hnew : ∀ W, Tab W → DiskAt FF W D S M s → Calls Tryd.prog 31 #[.agg #[.pointer (some ⟨D, 0, none⟩)]] W fun e w' => ((∃ h, HOw h ∧ h.u ≤ J.arb s1 ∧ e = .returned (.agg (hrow h))) ∨ e = fell 91) ∧ DiskAt FF w' D S M s1 ∧ Mv D S M W w')
    (hp : Pw s1) (hn : 8 ≤ s1.n) :
    Calls Tryd.prog 14 #[.pointer (some ⟨D, 0, none⟩)] w fun e w' => ((∃ a n c, e = .returned (.tuple #[.pointer (some ⟨w.heap.size, 0, none⟩), .slice a n c, .int .i64 0])) ∨ e = .returned (.tuple #[.pointer none, .slice none 0 0, .int .i64 91])) ∧ Mv D S M w w' := by
  obtain ⟨hD, hS, hM⟩ := hd.lts
  have hse := sectors_any w D S M s hd
  have he : ∀ W : World, (binOp .eql 29 (.pointer (some ⟨D, 0, none⟩)) (.pointer none)).run Tryd.prog W = .ok (.bool false) W := fun _ => rfl
  have h8 : ¬ (s.n : Int) < 8 := by omega
  have hmf : ∀ (fn : Fn) (first cap : Array Value) (w : World), (Instr.makeFunc fn first cap).run Tryd.prog w = .ok (.func fn first cap) w := fun _ _ _ _ => rfl
  go_enter Tryd.func14, Tryd.ntmps14
  go_wp2_with (go_at_call 28; refine hse.mono ?_; rintro e w' ⟨rfl, hw⟩; rw [hw]; clear hw w')
  have A1 : Hid (RowAt (((w.alloc (.cells #[.pointer (some ⟨D, 0, none⟩), .int .u64 0, .int .i64 0, .int .i64 0, .int .i64 0, .bool false] 69)).alloc (.cells #[.pointer (some ⟨w.heap.size, 0, none⟩)] 31)).alloc (.cells #[.slice none 0 0] 32)) w.heap.size 69 (jrow D ⟨0, 0, 0, 0⟩ false) ∧ RowAt (((w.alloc (.cells #[.pointer (some ⟨D, 0, none⟩), .int .u64 0, .int .i64 0, .int .i64 0, .int .i64 0, .bool false] 69)).alloc (.cells #[.pointer (some ⟨w.heap.size, 0, none⟩)] 31)).alloc (.cells #[.slice none 0 0] 32)) (w.heap.size + 1) 31 #[.pointer (some ⟨w.heap.size, 0, none⟩)] ∧ RowAt (((w.alloc (.cells #[.pointer (some ⟨D, 0, none⟩), .int .u64 0, .int .i64 0, .int .i64 0, .int .i64 0, .bool false] 69)).alloc (.cells #[.pointer (some ⟨w.heap.size, 0, none⟩)] 31)).alloc (.cells #[.slice none 0 0] 32)) (w.heap.size + 2) 32 #[.slice none 0 0] ∧ Below w.heap.size w (((w.alloc (.cells #[.pointer (some ⟨D, 0, none⟩), .int .u64 0, .int .i64 0, .int .i64 0, .int .i64 0, .bool false] 69)).alloc (.cells #[.pointer (some ⟨w.heap.size, 0, none⟩)] 31)).alloc (.cells #[.slice none 0 0] 32)) ∧ (((w.alloc (.cells #[.pointer (some ⟨D, 0, none⟩), .int .u64 0, .int .i64 0, .int .i64 0, .int .i64 0, .bool false] 69)).alloc (.cells #[.pointer (some ⟨w.heap.size, 0, none⟩)] 31)).alloc (.cells #[.slice none 0 0] 32)).heap.size = w.heap.size + 3) := by
    refine ⟨((RowAt.new w _ _).alloc _).alloc _, ?_, ?_, (((Below.refl _ w).alloc (Nat.le_refl _) _).alloc (by simp) _).alloc (by simp; omega) _, by simp⟩
    · have := (RowAt.new (w.alloc (.cells #[.pointer (some ⟨D, 0, none⟩), .int .u64 0, .int .i64 0, .int .i64 0, .int .i64 0, .bool false] 69)) 31 #[.pointer (some ⟨w.heap.size, 0, none⟩)]).alloc (.cells #[.slice none 0 0] 32)
      rwa [World.size_alloc] at this
    · have := RowAt.new ((w.alloc (.cells #[.pointer (some ⟨D, 0, none⟩), .int .u64 0, .int .i64 0, .int .i64 0, .int .i64 0, .bool false] 69)).alloc (.cells #[.pointer (some ⟨w.heap.size, 0, none⟩)] 31)) 32 #[.slice none 0 0]
      rwa [World.size_alloc, World.size_alloc] at this
  generalize (((w.alloc (.cells #[.pointer (some ⟨D, 0, none⟩), .int .u64 0, .int .i64 0, .int .i64 0, .int .i64 0, .bool false] 69)).alloc (.cells #[.pointer (some ⟨w.heap.size, 0, none⟩)] 31)).alloc (.cells #[.slice none 0 0] 32)) = w3 at A1 ⊢
  rw [show w.heap.size + 1 + 1 = w.heap.size + 2 from rfl]
  have hb4 : Below w.heap.size w (w3.alloc (.cells #[.int .i64 0] 33)) := A1.out.2.2.2.1.alloc A1.out.2.2.2.1.size _
  have ho1 := opn1_any w (w3.alloc (.cells #[.int .i64 0] 33)) (ht.below hb4 ht.1) D S M (w.heap.size + 1) w.heap.size (w.heap.size + 2) w3.heap.size s s1 (Mv.of_below hb4) hD hS hM (by omega) (Nat.le_refl _) (by omega) (by rw [A1.out.2.2.2.2]; omega) ⟨A1.out.2.1.alloc _, A1.out.1.alloc _, A1.out.2.2.1.alloc _, RowAt.new w3 _ _⟩ (hd.below hb4 (Nat.le_refl _)) ⟨ht.1, hpos⟩ hnew hp hn
  have hat := attempt_any w3 30 #[.pointer (some ⟨w.heap.size + 1, 0, none⟩), .pointer (some ⟨w.heap.size + 2, 0, none⟩)] (enters_of Tryd.func30 (by kernel_rfl) rfl) (fun w' => ∃ h v M' L, OpW D (w.heap.size + 1) w.heap.size (w.heap.size + 2) w3.heap.size h v w' ∧ DiskAt FF w' D S M' s1.synced ∧ Mv D S M w w' ∧ w.heap.size ≤ M' ∧ OwnBs w' w.heap.size v L) (fun x w' => x = 91 ∧ RowAt w' w3.heap.size 33 #[.int .i64 0] ∧ Mv D S M w w') (ho1.mono (fun e w' h => h.elim (fun h => Or.inl h) (fun h => Or.inr ⟨91, h.1, rfl, h.2.1, h.2.2⟩))) (fun w' ⟨h, v, M', L, hh, _⟩ => hh.ce) (fun x w' h => h.2.1)
  refine hat.mono ?_
  rintro e w5 (⟨rfl, w4, ⟨h, v, M', LL, O4, D4, M4, z4, B4⟩, hw5⟩ | ⟨x, rfl, w4, ⟨rfl, E4, M4⟩, hw5⟩)
  rotate_left
  · have b5 : Below w3.heap.size w4 w5 := by rw [hw5]; exact ((Below.refl w3.heap.size w4).setCell (p := ⟨w3.heap.size, 0, none⟩) (Nat.le_refl _) _).setCell (p := ⟨w3.heap.size, 0, none⟩) (Nat.le_refl _) _
    have MM := hide (M4.belowB b5 A1.out.2.2.2.1.size)
    clear hat ho1 hnew hw5 b5 E4 M4
    go_wp2
    go_ret3
    exact ⟨Or.inr rfl, MM.out⟩
  have hn1 := (O4.ce.ne O4.cj (by decide)).symm
  have hn3 := (O4.ce.ne O4.cl (by decide)).symm
  have b5 : Below w3.heap.size w4 w5 := by rw [hw5]; exact (Below.refl w3.heap.size w4).setCell (p := ⟨w3.heap.size, 0, none⟩) (Nat.le_refl _) _
  have x1 : w5.cell? ⟨w.heap.size + 1, 0, none⟩ = some (.pointer (some ⟨w.heap.size, 0, none⟩)) := by rw [hw5]; exact (O4.cj.other _ _ hn1).cell 0
  have x2 : w5.cell? ⟨w.heap.size + 2, 0, none⟩ = some v := by rw [hw5]; exact (O4.cl.other _ _ hn3).cell 0
  have MM := hide (M4.belowB b5 A1.out.2.2.2.1.size)
  obtain ⟨av, nv, hv⟩ := B4.slice
  rw [hv] at x2
  clear O4 D4 M4 B4 z4 b5 hw5 hn1 hn3 hat ho1 hnew hv
  go_wp2
  go_region_held3 (fun w' => w'.cell? ⟨w.heap.size + 1, 0, none⟩ = some (.pointer (some ⟨w.heap.size, 0, none⟩)) ∧ w'.cell? ⟨w.heap.size + 2, 0, none⟩ = some (.slice av LL.length nv)) (first | exact ⟨x1, x2⟩ | fail) (first | fail)
  all_goals go_wp2
  all_goals go_ret3
  all_goals exact ⟨Or.inl ⟨_, _, _, rfl⟩, MM.out.drew⟩
set_option maxRecDepth 5000 in
theorem open_odd (w : World) (ht : Tab w) (D S M : Nat) (s : K.St) (hd : DiskAt FF w D S M s) (hp : Pw s) (hn : 8 ≤ s.n) (hpos : 0 < D ∧ 0 < S ∧ 0 < M) :
    Calls Tryd.prog 14 #[.pointer (some ⟨D, 0, none⟩)] w fun e w' => ((∃ a n c, e = .returned (.tuple #[.pointer (some ⟨w.heap.size, 0, none⟩), .slice a n c, .int .i64 0])) ∨ e = .returned (.tuple #[.pointer none, .slice none 0 0, .int .i64 91])) ∧ Mv D S M w w' := by
  by_cases hz : ∀ i, i < s.n → s.rd i = List.replicate s.sz 0
  · refine opn_any w ht D S M s (s.put 0 (J.hb h0 s.sz)) hd hn hpos (fun W hT hW => ?_) (put_pw hp _ _) (by rw [put_n hp]; exact hn)
    refine (newest_new W hT D S M s hW hp hn hz).mono ?_
    rintro e w' ⟨rfl, h1, h2⟩
    exact ⟨Or.inl ⟨h0, ⟨by decide, by decide, by decide, by decide⟩, Nat.zero_le _, rfl⟩, h1, h2⟩
  · refine opn_any w ht D S M s s hd hn hpos (fun W hT hW => ?_) hp hn
    refine (newest_odd W hT D S M s hW hp hn hz).mono ?_
    rintro e w' ⟨h1, h2⟩
    exact ⟨h1, hW.below h2 (Nat.le_refl _), Mv.of_below h2⟩
end Go.Proofs.YtidocfajhhpfdaaDoor
