/- The law ConfigChecks. -/
import Derived.Test.YtfkkaegebpckmaaKno
import Derived.Test.YtfkkaegebpckmaaRch
namespace Go.Proofs.Ytfkkaegebpckmaa
open Go.RowKit
/- a call that is asked for, in a region that draws -/
set_option maxRecDepth 5000 in
theorem step_fng {ops : Array Oper} {o : Oper} {a : Act} {w : World} {K : Act → World → Prop} {Q : Exit → Act → World → Prop} {E : Prop} (hw : Region.wanted o (yielded ops a.tmps) = true) (f : FuncId) (vals : Array Value)
    (hx : (execOp a.eval o).run Try.prog w = .ok (.enter f vals) w) {R : Ending → World → Prop} (hc : Calls Try.prog f vals w R) (hr : ∀ e w', R e w' → ∃ v, e = .returned v)
    (h : ∀ v w', R (.returned v) w' → K (a.put o.dst v) w') : if Region.wanted o (yielded ops a.tmps) = true then Oper.wp Try.prog o a w K Q else E := by
  rw [if_pos hw]
  unfold Oper.wp
  rw [hx, Oper.upon_enter]
  refine hc.mono fun e w' he => ?_
  obtain ⟨v, rfl⟩ := hr e w' he
  exact h v w' he
set_option maxRecDepth 5000 in
theorem CfAt.all {w : World} {g : Nat} {x : C.Cf} {a0 a9 : Option Addr} {la c0 ls c9 : Nat} (h : CfAt w g x a0 a9 la c0 ls c9) : w.cell? ⟨g, 0, none⟩ = some (.slice a0 la c0) ∧ w.cell? ⟨g, 1, none⟩ = some (.int .u32 (x.k : Int)) ∧ w.cell? ⟨g, 2, none⟩ = some (.int .u32 (x.p : Int)) ∧ w.cell? ⟨g, 3, none⟩ = some (.int .u32 (x.d : Int)) ∧ w.cell? ⟨g, 4, none⟩ = some (.int .u32 (x.e : Int)) ∧ w.cell? ⟨g, 5, none⟩ = some (.int .u32 (x.v : Int)) ∧ w.cell? ⟨g, 6, none⟩ = some (.int .u32 (x.l : Int)) ∧ w.cell? ⟨g, 7, none⟩ = some (.int .u32 (x.g : Int)) ∧ w.cell? ⟨g, 8, none⟩ = some (.int .u32 (x.m : Int)) ∧ w.cell? ⟨g, 9, none⟩ = some (.slice a9 ls c9) ∧ w.cell? ⟨g, 10, none⟩ = some (.int .u16 (x.it : Int)) ∧ w.cell? ⟨g, 11, none⟩ = some (.int .i64 x.h) ∧ w.cell? ⟨g, 12, none⟩ = some (.int .u16 (x.sz : Int)) := h.cells
set_option maxHeartbeats 4000000 in
set_option maxRecDepth 5000 in
theorem checks_walk (x : C.Cf) (a0 a9 : Option Addr) (la c0 ls c9 : Nat) (w : World) (hla : Hid (x.apex.length = la)) (hls : Hid (x.salt.length = ls)) (hs : SlS w a0 x.apex) (hm : la ≤ 9223372036854775807) (hm9 : ls ≤ 9223372036854775807) :
    Calls Try.prog 3 #[.agg #[.slice a0 la c0, .int .u32 (x.k : Int), .int .u32 (x.p : Int), .int .u32 (x.d : Int), .int .u32 (x.e : Int), .int .u32 (x.v : Int), .int .u32 (x.l : Int), .int .u32 (x.g : Int), .int .u32 (x.m : Int), .slice a9 ls c9, .int .u16 (x.it : Int), .int .i64 x.h, .int .u16 (x.sz : Int)]] w fun e w' => e = .returned (.bool true) ∧ Below w.heap.size w w' := by
  have HS := hide hs
  clear hs
  have A0 := hide (CfAt.new w x a0 a9 la c0 ls c9)
  have B0 : Hid (Below w.heap.size w (w.alloc (.cells #[.slice a0 la c0, .int .u32 (x.k : Int), .int .u32 (x.p : Int), .int .u32 (x.d : Int), .int .u32 (x.e : Int), .int .u32 (x.v : Int), .int .u32 (x.l : Int), .int .u32 (x.g : Int), .int .u32 (x.m : Int), .slice a9 ls c9, .int .u16 (x.it : Int), .int .i64 x.h, .int .u16 (x.sz : Int)] 28))) := (Below.refl w.heap.size w).alloc (Nat.le_refl _) _
  go_enter Try.func3, Try.ntmps3
  go_wp2_with (go_at_call 7; refine (known_any _).mono ?_; rintro e w1 ⟨rfl, hb1⟩; have A1 := hide (A0.out.below hb1 A0.out.lt); have B1 : Hid (Below w.heap.size w w1) := B0.out.trans (hb1.mono (by simp)); clear hb1)
  clear A0 B0
  have AD : Hid (CfAt w1.drew w.heap.size x a0 a9 la c0 ls c9) := A1.out
  have BD : Hid (Below w.heap.size w w1.drew) := below_drew B1.out
  refine wp_region_X (S := fun w' => w'.cell? ⟨w.heap.size, 0, none⟩ = some (.slice a0 la c0) ∧ w'.cell? ⟨w.heap.size, 1, none⟩ = some (.int .u32 (x.k : Int)) ∧ w'.cell? ⟨w.heap.size, 2, none⟩ = some (.int .u32 (x.p : Int)) ∧ w'.cell? ⟨w.heap.size, 3, none⟩ = some (.int .u32 (x.d : Int)) ∧ w'.cell? ⟨w.heap.size, 4, none⟩ = some (.int .u32 (x.e : Int)) ∧ w'.cell? ⟨w.heap.size, 5, none⟩ = some (.int .u32 (x.v : Int)) ∧ w'.cell? ⟨w.heap.size, 6, none⟩ = some (.int .u32 (x.l : Int)) ∧ w'.cell? ⟨w.heap.size, 7, none⟩ = some (.int .u32 (x.g : Int)) ∧ w'.cell? ⟨w.heap.size, 8, none⟩ = some (.int .u32 (x.m : Int)) ∧ w'.cell? ⟨w.heap.size, 9, none⟩ = some (.slice a9 ls c9) ∧ w'.cell? ⟨w.heap.size, 10, none⟩ = some (.int .u16 (x.it : Int)) ∧ w'.cell? ⟨w.heap.size, 11, none⟩ = some (.int .i64 x.h) ∧ w'.cell? ⟨w.heap.size, 12, none⟩ = some (.int .u16 (x.sz : Int))) (jS := 1000) (by kernel_rfl) ?_
  generalize w1.drew = W1 at AD BD ⊢
  have SA : Hid (W1.cell? ⟨w.heap.size, 0, none⟩ = some (.slice a0 la c0) ∧ W1.cell? ⟨w.heap.size, 1, none⟩ = some (.int .u32 (x.k : Int)) ∧ W1.cell? ⟨w.heap.size, 2, none⟩ = some (.int .u32 (x.p : Int)) ∧ W1.cell? ⟨w.heap.size, 3, none⟩ = some (.int .u32 (x.d : Int)) ∧ W1.cell? ⟨w.heap.size, 4, none⟩ = some (.int .u32 (x.e : Int)) ∧ W1.cell? ⟨w.heap.size, 5, none⟩ = some (.int .u32 (x.v : Int)) ∧ W1.cell? ⟨w.heap.size, 6, none⟩ = some (.int .u32 (x.l : Int)) ∧ W1.cell? ⟨w.heap.size, 7, none⟩ = some (.int .u32 (x.g : Int)) ∧ W1.cell? ⟨w.heap.size, 8, none⟩ = some (.int .u32 (x.m : Int)) ∧ W1.cell? ⟨w.heap.size, 9, none⟩ = some (.slice a9 ls c9) ∧ W1.cell? ⟨w.heap.size, 10, none⟩ = some (.int .u16 (x.it : Int)) ∧ W1.cell? ⟨w.heap.size, 11, none⟩ = some (.int .i64 x.h) ∧ W1.cell? ⟨w.heap.size, 12, none⟩ = some (.int .u16 (x.sz : Int))) := AD.out.all
  clear A1 B1
  refine wpAnyX_take (i := 0) (v := ?v1) (gt0 _ _) (by kernel_rfl) (by kernel_rfl) (by kernel_rfl) (by kernel_rfl) (fun _ _ _ h => h) (Or.inl ⟨by rfl, ?hy1⟩) SA.out ?rest1
  case hy1 => (intro wq hSw; obtain ⟨s0, s1, s2, s3, s4, s5, s6, s7, s8, s9, s10, s11, s12⟩ := hSw; go_simp; try (with_reducible rfl))
  case' rest1 => try simp only [Act.put, List.setIfInBounds_toArray, List.set_cons_zero, List.set_cons_succ]
  refine wpAnyX_ready (rs := [1]) (by kernel_rfl) (by simp) (AllX.cons (gt1 _ _ _) (fun K hKK => ?br1) AllX.nil)
  case' br1 =>
    refine step_fng (by rfl) 8 #[.agg #[.slice a0 la c0, .int .u32 (x.k : Int), .int .u32 (x.p : Int), .int .u32 (x.d : Int), .int .u32 (x.e : Int), .int .u32 (x.v : Int), .int .u32 (x.l : Int), .int .u32 (x.g : Int), .int .u32 (x.m : Int), .slice a9 ls c9, .int .u16 (x.it : Int), .int .i64 x.h, .int .u16 (x.sz : Int)]] (by go_simp) (light_c x a0 a9 la c0 ls c9 W1 hla (HS.out.below BD.out (Nat.le_refl _)) hm hm9) (by rintro e w' ⟨t, rfl, _⟩; exact ⟨_, rfl⟩) ?_
    rintro _ W2 ⟨t, he, ht, hb2⟩
    cases he
    have A2 := hide (AD.out.below hb2 AD.out.lt)
    have B2 := hide (BD.out.trans (hb2.mono BD.out.size))
    have SB : Hid (W2.cell? ⟨w.heap.size, 0, none⟩ = some (.slice a0 la c0) ∧ W2.cell? ⟨w.heap.size, 1, none⟩ = some (.int .u32 (x.k : Int)) ∧ W2.cell? ⟨w.heap.size, 2, none⟩ = some (.int .u32 (x.p : Int)) ∧ W2.cell? ⟨w.heap.size, 3, none⟩ = some (.int .u32 (x.d : Int)) ∧ W2.cell? ⟨w.heap.size, 4, none⟩ = some (.int .u32 (x.e : Int)) ∧ W2.cell? ⟨w.heap.size, 5, none⟩ = some (.int .u32 (x.v : Int)) ∧ W2.cell? ⟨w.heap.size, 6, none⟩ = some (.int .u32 (x.l : Int)) ∧ W2.cell? ⟨w.heap.size, 7, none⟩ = some (.int .u32 (x.g : Int)) ∧ W2.cell? ⟨w.heap.size, 8, none⟩ = some (.int .u32 (x.m : Int)) ∧ W2.cell? ⟨w.heap.size, 9, none⟩ = some (.slice a9 ls c9) ∧ W2.cell? ⟨w.heap.size, 10, none⟩ = some (.int .u16 (x.it : Int)) ∧ W2.cell? ⟨w.heap.size, 11, none⟩ = some (.int .i64 x.h) ∧ W2.cell? ⟨w.heap.size, 12, none⟩ = some (.int .u16 (x.sz : Int))) := A2.out.all
    have HT := hide ht
    refine hKK.out _ _ (Or.inr SB.out) ?_
    clear hKK ht hb2 SA AD BD
    try simp only [Act.put, List.setIfInBounds_toArray, List.set_cons_zero, List.set_cons_succ]
  cases t
  · refine wpAnyX_take (i := 2) (v := ?v2) (gt2 _ _ _ _) (by kernel_rfl) (by kernel_rfl) (by kernel_rfl) (by kernel_rfl) (fun _ _ _ h => h) (Or.inl ⟨by rfl, ?hy2⟩) SB.out ?rest2
    case hy2 => (intro wq hSw; obtain ⟨s0, s1, s2, s3, s4, s5, s6, s7, s8, s9, s10, s11, s12⟩ := hSw; go_simp; try (with_reducible rfl))
    case' rest2 => try simp only [Act.put, List.setIfInBounds_toArray, List.set_cons_zero, List.set_cons_succ]
    refine wpAnyX_take (i := 3) (v := ?v3) (gt3 _ _ _ _ _) (by kernel_rfl) (by kernel_rfl) (by kernel_rfl) (by kernel_rfl) (fun _ _ _ h => h) (Or.inl ⟨by rfl, ?hy3⟩) SB.out ?rest3
    case hy3 => (intro wq hSw; obtain ⟨s0, s1, s2, s3, s4, s5, s6, s7, s8, s9, s10, s11, s12⟩ := hSw; go_simp; try (with_reducible rfl))
    case' rest3 => try simp only [Act.put, List.setIfInBounds_toArray, List.set_cons_zero, List.set_cons_succ]
    refine wpAnyX_take (i := 4) (v := undef) (gt4 _ _ _ _ _ _) (by kernel_rfl) (by kernel_rfl) (by kernel_rfl) (by kernel_rfl) (fun _ _ _ h => h) (Or.inr ⟨by rfl, rfl⟩) SB.out ?rest4
    case' rest4 => try simp only [Act.put, List.setIfInBounds_toArray, List.set_cons_zero, List.set_cons_succ]
    refine wpAnyX_take (i := 5) (v := undef) (gt5 _ _ _ _ _ _ _) (by kernel_rfl) (by kernel_rfl) (by kernel_rfl) (by kernel_rfl) (fun _ _ _ h => h) (Or.inr ⟨by rfl, rfl⟩) SB.out ?rest5
    case' rest5 => try simp only [Act.put, List.setIfInBounds_toArray, List.set_cons_zero, List.set_cons_succ]
    refine wpAnyX_take (i := 6) (v := undef) (gt6 _ _ _ _ _ _ _ _) (by kernel_rfl) (by kernel_rfl) (by kernel_rfl) (by kernel_rfl) (fun _ _ _ h => h) (Or.inr ⟨by rfl, rfl⟩) SB.out ?rest6
    case' rest6 => try simp only [Act.put, List.setIfInBounds_toArray, List.set_cons_zero, List.set_cons_succ]
    refine wpAnyX_take (i := 7) (v := undef) (gt7 _ _ _ _ _ _ _ _ _) (by kernel_rfl) (by kernel_rfl) (by kernel_rfl) (by kernel_rfl) (fun _ _ _ h => h) (Or.inr ⟨by rfl, rfl⟩) SB.out ?rest7
    case' rest7 => try simp only [Act.put, List.setIfInBounds_toArray, List.set_cons_zero, List.set_cons_succ]
    refine wpAnyX_take (i := 8) (v := undef) (gt8 _ _ _ _ _ _ _ _ _ _) (by kernel_rfl) (by kernel_rfl) (by kernel_rfl) (by kernel_rfl) (fun _ _ _ h => h) (Or.inr ⟨by rfl, rfl⟩) SB.out ?rest8
    case' rest8 => try simp only [Act.put, List.setIfInBounds_toArray, List.set_cons_zero, List.set_cons_succ]
    refine wpAnyX_take (i := 9) (v := ?v9) (gt9 _ _ _ _ _ _ _ _ _ _ _) (by kernel_rfl) (by kernel_rfl) (by kernel_rfl) (by kernel_rfl) (fun _ _ _ h => h) (Or.inl ⟨by rfl, ?hy9⟩) SB.out ?rest9
    case hy9 => (intro wq hSw; obtain ⟨s0, s1, s2, s3, s4, s5, s6, s7, s8, s9, s10, s11, s12⟩ := hSw; go_simp; try (with_reducible rfl))
    case' rest9 => try simp only [Act.put, List.setIfInBounds_toArray, List.set_cons_zero, List.set_cons_succ]
    refine wpAnyX_take (i := 10) (v := ?v10) (gt10 _ _ _ _ _ _ _ _ _ _ _ _) (by kernel_rfl) (by kernel_rfl) (by kernel_rfl) (by kernel_rfl) (fun _ _ _ h => h) (Or.inl ⟨by rfl, ?hy10⟩) SB.out ?rest10
    case hy10 => (intro wq hSw; obtain ⟨s0, s1, s2, s3, s4, s5, s6, s7, s8, s9, s10, s11, s12⟩ := hSw; go_simp; try (with_reducible rfl))
    case' rest10 => try simp only [Act.put, List.setIfInBounds_toArray, List.set_cons_zero, List.set_cons_succ]
    refine wpAnyX_done (by kernel_rfl) ?_ _
    go_wp2
    go_ret
    exact ⟨rfl, B2.out⟩
  · have HL := hide (HT.out (by trivial))
    have hsm : Hid (N.Small x.apex) := HL.out.1.small
    refine wpAnyX_take (i := 2) (v := ?v11) (gt2 _ _ _ _) (by kernel_rfl) (by kernel_rfl) (by kernel_rfl) (by kernel_rfl) (fun _ _ _ h => h) (Or.inl ⟨by rfl, ?hy11⟩) SB.out ?rest11
    case hy11 => (intro wq hSw; obtain ⟨s0, s1, s2, s3, s4, s5, s6, s7, s8, s9, s10, s11, s12⟩ := hSw; go_simp; try (with_reducible rfl))
    case' rest11 => try simp only [Act.put, List.setIfInBounds_toArray, List.set_cons_zero, List.set_cons_succ]
    refine wpAnyX_take (i := 3) (v := ?v12) (gt3 _ _ _ _ _) (by kernel_rfl) (by kernel_rfl) (by kernel_rfl) (by kernel_rfl) (fun _ _ _ h => h) (Or.inl ⟨by rfl, ?hy12⟩) SB.out ?rest12
    case hy12 => (intro wq hSw; obtain ⟨s0, s1, s2, s3, s4, s5, s6, s7, s8, s9, s10, s11, s12⟩ := hSw; go_simp; try (with_reducible rfl))
    case' rest12 => try simp only [Act.put, List.setIfInBounds_toArray, List.set_cons_zero, List.set_cons_succ]
    refine wpAnyX_take (i := 4) (v := ?v13) (gt4 _ _ _ _ _ _) (by kernel_rfl) (by kernel_rfl) (by kernel_rfl) (by kernel_rfl) (fun _ _ _ h => h) (Or.inl ⟨by rfl, ?hy13⟩) SB.out ?rest13
    case hy13 => (intro wq hSw; obtain ⟨s0, s1, s2, s3, s4, s5, s6, s7, s8, s9, s10, s11, s12⟩ := hSw; go_simp; try (with_reducible rfl))
    case' rest13 => try simp only [Act.put, List.setIfInBounds_toArray, List.set_cons_zero, List.set_cons_succ]
    refine wpAnyX_take (i := 6) (v := ?v14) (gt6 _ _ _ _ _ _ _ _) (by kernel_rfl) (by kernel_rfl) (by kernel_rfl) (by kernel_rfl) (fun _ _ _ h => h) (Or.inl ⟨by rfl, ?hy14⟩) SB.out ?rest14
    case hy14 => (intro wq hSw; obtain ⟨s0, s1, s2, s3, s4, s5, s6, s7, s8, s9, s10, s11, s12⟩ := hSw; go_simp; try (with_reducible rfl))
    case' rest14 => try simp only [Act.put, List.setIfInBounds_toArray, List.set_cons_zero, List.set_cons_succ]
    refine wpAnyX_ready (rs := [5]) (by kernel_rfl) (by simp) (AllX.cons (gt5 _ _ _ _ _ _ _) (fun K hKK => ?br5) AllX.nil)
    case' br5 =>
      refine step_fng (by rfl) 9 #[.agg #[.slice a0 la c0, .int .u32 (x.k : Int), .int .u32 (x.p : Int), .int .u32 (x.d : Int), .int .u32 (x.e : Int), .int .u32 (x.v : Int), .int .u32 (x.l : Int), .int .u32 (x.g : Int), .int .u32 (x.m : Int), .slice a9 ls c9, .int .u16 (x.it : Int), .int .i64 x.h, .int .u16 (x.sz : Int)]] (by go_simp) (cCheck_any x a0 a9 la c0 ls c9 W2 hla hls (HS.out.below B2.out (Nat.le_refl _)) hsm hm9) (by rintro e w' ⟨c, rfl, _⟩; exact ⟨_, rfl⟩) ?_
      rintro _ W3 ⟨c, he, hc, hb3⟩
      cases he
      have A3 := hide (A2.out.below hb3 A2.out.lt)
      have B3 := hide (B2.out.trans (hb3.mono B2.out.size))
      have SC : Hid (W3.cell? ⟨w.heap.size, 0, none⟩ = some (.slice a0 la c0) ∧ W3.cell? ⟨w.heap.size, 1, none⟩ = some (.int .u32 (x.k : Int)) ∧ W3.cell? ⟨w.heap.size, 2, none⟩ = some (.int .u32 (x.p : Int)) ∧ W3.cell? ⟨w.heap.size, 3, none⟩ = some (.int .u32 (x.d : Int)) ∧ W3.cell? ⟨w.heap.size, 4, none⟩ = some (.int .u32 (x.e : Int)) ∧ W3.cell? ⟨w.heap.size, 5, none⟩ = some (.int .u32 (x.v : Int)) ∧ W3.cell? ⟨w.heap.size, 6, none⟩ = some (.int .u32 (x.l : Int)) ∧ W3.cell? ⟨w.heap.size, 7, none⟩ = some (.int .u32 (x.g : Int)) ∧ W3.cell? ⟨w.heap.size, 8, none⟩ = some (.int .u32 (x.m : Int)) ∧ W3.cell? ⟨w.heap.size, 9, none⟩ = some (.slice a9 ls c9) ∧ W3.cell? ⟨w.heap.size, 10, none⟩ = some (.int .u16 (x.it : Int)) ∧ W3.cell? ⟨w.heap.size, 11, none⟩ = some (.int .i64 x.h) ∧ W3.cell? ⟨w.heap.size, 12, none⟩ = some (.int .u16 (x.sz : Int))) := A3.out.all
      have HC := hide hc
      refine hKK.out _ _ (Or.inr SC.out) ?_
      clear hKK hc hb3 SB A2 B2
      try simp only [Act.put, List.setIfInBounds_toArray, List.set_cons_zero, List.set_cons_succ]
    refine wpAnyX_ready (rs := [7]) (by kernel_rfl) (by simp) (AllX.cons (gt7 _ _ _ _ _ _ _ _ _) (fun K hKK => ?br7) AllX.nil)
    case' br7 =>
      refine step_fng (by rfl) 10 #[.agg #[.slice a0 la c0, .int .u32 (x.k : Int), .int .u32 (x.p : Int), .int .u32 (x.d : Int), .int .u32 (x.e : Int), .int .u32 (x.v : Int), .int .u32 (x.l : Int), .int .u32 (x.g : Int), .int .u32 (x.m : Int), .slice a9 ls c9, .int .u16 (x.it : Int), .int .i64 x.h, .int .u16 (x.sz : Int)]] (by go_simp) (rcCheck_any x a0 a9 la c0 ls c9 W3 hla hls (HS.out.below B3.out (Nat.le_refl _)) hsm hm9) (by rintro e w' ⟨c, rfl, _⟩; exact ⟨_, rfl⟩) ?_
      rintro _ W4 ⟨c', he, hc', hb4⟩
      cases he
      obtain ⟨cc, hcc⟩ : c = c' ∧ True := ⟨by rcases HC.out with ⟨h1, h2⟩ | ⟨h1, h2⟩ <;> rcases hc' with ⟨h3, h4⟩ | ⟨h3, h4⟩ <;> first | exact h1.trans h3.symm | exact absurd h2 h4 | exact absurd h4 h2, trivial⟩
      subst cc
      have A4 := hide (A3.out.below hb4 A3.out.lt)
      have B4 := hide (B3.out.trans (hb4.mono B3.out.size))
      have SD : Hid (W4.cell? ⟨w.heap.size, 0, none⟩ = some (.slice a0 la c0) ∧ W4.cell? ⟨w.heap.size, 1, none⟩ = some (.int .u32 (x.k : Int)) ∧ W4.cell? ⟨w.heap.size, 2, none⟩ = some (.int .u32 (x.p : Int)) ∧ W4.cell? ⟨w.heap.size, 3, none⟩ = some (.int .u32 (x.d : Int)) ∧ W4.cell? ⟨w.heap.size, 4, none⟩ = some (.int .u32 (x.e : Int)) ∧ W4.cell? ⟨w.heap.size, 5, none⟩ = some (.int .u32 (x.v : Int)) ∧ W4.cell? ⟨w.heap.size, 6, none⟩ = some (.int .u32 (x.l : Int)) ∧ W4.cell? ⟨w.heap.size, 7, none⟩ = some (.int .u32 (x.g : Int)) ∧ W4.cell? ⟨w.heap.size, 8, none⟩ = some (.int .u32 (x.m : Int)) ∧ W4.cell? ⟨w.heap.size, 9, none⟩ = some (.slice a9 ls c9) ∧ W4.cell? ⟨w.heap.size, 10, none⟩ = some (.int .u16 (x.it : Int)) ∧ W4.cell? ⟨w.heap.size, 11, none⟩ = some (.int .i64 x.h) ∧ W4.cell? ⟨w.heap.size, 12, none⟩ = some (.int .u16 (x.sz : Int))) := A4.out.all
      refine hKK.out _ _ (Or.inr SD.out) ?_
      clear hKK hc' hb4 SC A3 B3 HC
      try simp only [Act.put, List.setIfInBounds_toArray, List.set_cons_zero, List.set_cons_succ]
    refine wpAnyX_take (i := 8) (v := ?v15) (gt8 _ _ _ _ _ _ _ _ _ _) (by kernel_rfl) (by kernel_rfl) (by kernel_rfl) (by kernel_rfl) (fun _ _ _ h => h) (Or.inl ⟨by rfl, ?hy15⟩) SD.out ?rest15
    case hy15 => (intro wq hSw; obtain ⟨s0, s1, s2, s3, s4, s5, s6, s7, s8, s9, s10, s11, s12⟩ := hSw; go_simp; try (with_reducible rfl))
    case' rest15 => try simp only [Act.put, List.setIfInBounds_toArray, List.set_cons_zero, List.set_cons_succ]
    refine wpAnyX_take (i := 9) (v := ?v16) (gt9 _ _ _ _ _ _ _ _ _ _ _) (by kernel_rfl) (by kernel_rfl) (by kernel_rfl) (by kernel_rfl) (fun _ _ _ h => h) (Or.inl ⟨by rfl, ?hy16⟩) SD.out ?rest16
    case hy16 => (intro wq hSw; obtain ⟨s0, s1, s2, s3, s4, s5, s6, s7, s8, s9, s10, s11, s12⟩ := hSw; go_simp; try (with_reducible rfl))
    case' rest16 => try simp only [Act.put, List.setIfInBounds_toArray, List.set_cons_zero, List.set_cons_succ]
    refine wpAnyX_take (i := 10) (v := ?v17) (gt10 _ _ _ _ _ _ _ _ _ _ _ _) (by kernel_rfl) (by kernel_rfl) (by kernel_rfl) (by kernel_rfl) (fun _ _ _ h => h) (Or.inl ⟨by rfl, ?hy17⟩) SD.out ?rest17
    case hy17 => (intro wq hSw; obtain ⟨s0, s1, s2, s3, s4, s5, s6, s7, s8, s9, s10, s11, s12⟩ := hSw; go_simp; try (with_reducible rfl))
    case' rest17 => try simp only [Act.put, List.setIfInBounds_toArray, List.set_cons_zero, List.set_cons_succ]
    refine wpAnyX_done (by kernel_rfl) ?_ _
    go_wp2
    go_ret
    exact ⟨by first | rfl | simp, B4.out⟩
end Go.Proofs.Ytfkkaegebpckmaa
