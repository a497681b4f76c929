/- put, behind a part of a sector. -/
import Derived.Test.YtidocfajhhpfdaaDoorJpt
namespace Go.Proofs.YtidocfajhhpfdaaDoor
open Go.RowKit Go.Shelf
attribute [local go_sem] Oper.semAt_some
set_option maxRecDepth 5000 in
theorem run_append_B {w : World} {base : Nat} {v : Value} {l : List UInt8} (ty : TypeId) (hown : OwnB w base v l) (ad : Addr) (m c : Nat) (l2 : List UInt8) (hm : l2.length = m) (hsrc : SlL w (some ad) l2) (hbound : l.length + m ≤ 1099511627776) (hbase : base ≤ w.heap.size) :
    ∃ v' w', (Builtin.append_ #[22, 22] ty #[v, .slice (some ad) m c]).run Tryd.prog w = .ok v' w' ∧ OwnB w' base v' (l ++ l2) ∧ w.grownBy w' v.ownBlock := by
  obtain ⟨i0, hi, hz0, hz1, hz2⟩ := info_parts infoB
  subst hm
  obtain ⟨v', w', h1, h2, h3, _⟩ := run_append_own (P := Tryd.prog) w base 22 ty 5 i0 (.int .u8 0) 1 1 Tryd.underlying22 hi hz0 hz1 hz2 rfl (by decide) v l.length (vb l) hown ad l2.length c (vb l2) (by rw [vb_len, Nat.mul_one]) (by
    intro j u hu
    have hj : j < l2.length := by have := (List.getElem?_eq_some_iff.1 hu).1; rwa [vb_len] at this
    obtain ⟨b, o', e, _, hc⟩ := hsrc (by omega)
    cases e
    rw [Addr.add_mid, hc j hj, ← vb_get l2 j hj, hu]) (vb_one l2) (by unfold maxLen; omega) (by omega) hbase
  exact ⟨v', w', h1, by unfold OwnB; rw [List.length_append, vb_app]; exact h2, h3⟩
set_option maxRecDepth 5000 in
theorem step_append_B {ops : Array Oper} {o : Oper} {a : Act} {w : World} {K : Act → World → Prop} {Q : Exit → Act → World → Prop} {E : Prop} (hgd : o.guard = none) (s x : Operand)
    (ho : o.op = .call { callee := .builtin .append, args := #[s, x], argTypes := #[22, 22] }) (base : Nat) (v : Value) (l : List UInt8) (hs : a.eval s = v) (hown : OwnB w base v l)
    (ad : Addr) (m c : Nat) (l2 : List UInt8) (hx : a.eval x = .slice (some ad) m c) (hm : l2.length = m) (hsrc : SlL w (some ad) l2) (hbound : l.length + m ≤ 1099511627776) (hbase : base ≤ w.heap.size)
    (h : ∀ v' w', OwnB w' base v' (l ++ l2) → w.grownBy w' v.ownBlock → K (a.put o.dst v') w') : if Region.wanted o (yielded ops a.tmps) = true then Oper.wp Tryd.prog o a w K Q else E := by
  have hw : Region.wanted o (yielded ops a.tmps) = true := by simp [Region.wanted, hgd]
  rw [if_pos hw]
  obtain ⟨v', w', hr, h2, h3⟩ := run_append_B o.type hown ad m c l2 hm hsrc hbound hbase
  unfold Oper.wp execOp
  simp only [ho, resolve, invoke, builtin, Sem.run_bind, Sem.run_pure, Result.andThen_ok, List.map_toArray, List.map_cons, List.map_nil, hs, hx, hr]
  exact h v' w' h2 h3
set_option maxRecDepth 5000 in
theorem own_cut {w : World} {g Z r : Nat} {l : List UInt8} (base : Nat) (R : RowAt w g 5 (vb l).toArray) (hl : l.length = Z) (hb : base ≤ g) (hr : r ≤ Z) (hm : Z ≤ 1000000) : OwnB w base (.slice (some ⟨g, 0, none⟩) r Z) (l.take r) := by
  have e : (l.take r).length = r := by simp; omega
  show w.ownsRow base 5 1 _ (l.take r).length (vb (l.take r))
  rw [e]
  refine ⟨by rw [vb_len, e, Nat.mul_one], Or.inr ⟨g, Z, _, rfl, hb, R, hr, by unfold maxLen; omega, by simp [vb]; omega, ?_⟩⟩
  simp [vb, List.map_take]
set_option maxRecDepth 5000 in
theorem OwnB.row {w : World} {base : Nat} {v : Value} {l : List UInt8} (h : OwnB w base v l) (hl : 0 < l.length) : ∃ g o cap cs, v = .slice (some ⟨g, o, none⟩) l.length cap ∧ base ≤ g ∧ l.length ≤ cap ∧ RowAt w g 5 cs ∧ ∀ j, j < l.length → cs[o + j]? = some (.int .u8 (l.getD j 0).toNat) := by
  have h0 : w.ownsRow base 5 1 v l.length (vb l) := h
  rcases h0.2 with ⟨_, h'⟩ | ⟨g, cap, cur, rfl, hb, hg, hc, hm, _, _⟩
  · omega
  · exact ⟨g, 0, cap, cur, rfl, hb, hc, hg, fun j hj => by rw [Nat.zero_add, ← RowAt.cell hg j, World.ownsRow.cellAt h0 j (by omega), vb_get l j hj]⟩
set_option maxRecDepth 100000 in
set_option maxHeartbeats 4000000 in
theorem put_mid (w : World) (D S M : Nat) (s : K.St) (h : DiskAt FF w D S M s) (hp : Pw s) (hn : 8 ≤ s.n) (ar : Nat) (har : ar < 2) (q r : Nat) (hr0 : 0 < r) (hrz : r < s.sz) (g0 o0 C0 : Nat) (b0 : List UInt8) (cs0 : Array Value) (hb0 : RowAt w g0 5 cs0) (hbc0 : ∀ j, j < b0.length → cs0[o0 + j]? = some (.int .u8 (b0.getD j 0).toNat)) (hroom : q * s.sz + r + b0.length ≤ J.arb s) (b : List UInt8) (hbe : b = (s.rd (2 + ar * J.ars s + q)).take r ++ b0) :
    Calls Tryd.prog 61 #[stv D, .int .i64 (ar : Int), .int .i64 ((q * s.sz + r : Nat) : Int), .slice (some ⟨g0, o0, none⟩) b0.length C0] w fun e w' => e = .returned (.tuple #[]) ∧
      ∃ k, b.length ≤ k * s.sz ∧ k * s.sz < b.length + s.sz ∧ DiskAt FF w' D S M (J.puts s (2 + ar * J.ars s + q) (fun x => J.pad s.sz ((b.drop (x * s.sz)).take s.sz)) (List.range k)) ∧ Mv D S M w w' := by
  obtain ⟨hb1, hb2, hb3, hb4⟩ := h.bds
  obtain ⟨hD, hS, hM⟩ := h.lts
  have hst : ∀ W, DiskAt FF W D S M s → Calls Tryd.prog 52 #[.agg #[.pointer (some ⟨D, 0, none⟩)], .int .i64 (ar : Int)] W fun e w' => e = .returned (.int .i64 ((2 + ar * J.ars s : Nat) : Int)) ∧ Below W.heap.size W w' := fun W hW => areaStart_any W D S M s hW hn ar har
  have hsi : ∀ W, DiskAt FF W D S M s → Calls Tryd.prog 55 #[.pointer (some ⟨D, 0, none⟩)] W fun e w' => e = .returned (.int .i64 (s.sz : Int)) ∧ w' = W := fun W hW => size_any W D S M s hW
  unfold stv
  have hmx : Tryd.prog.follows .mixedOrders = true := by kernel_rfl
  obtain ⟨P, hP⟩ : ∃ P, P = 2 + ar * J.ars s := ⟨_, rfl⟩
  have hPn : P + J.ars s ≤ s.n := by
    have h1 : ar * J.ars s ≤ 1 * J.ars s := Nat.mul_le_mul_right _ (by omega)
    have h2 : 2 + 2 * J.ars s ≤ s.n := by unfold J.ars; omega
    omega
  have hqa : q ≤ J.ars s := by
    have : q * s.sz ≤ J.ars s * s.sz := by unfold J.arb at hroom; omega
    exact Nat.le_of_mul_le_mul_right this (by omega)
  have hqa1 : q < J.ars s := by
    have : q * s.sz < J.ars s * s.sz := by unfold J.arb at hroom; omega
    exact Nat.lt_of_mul_lt_mul_right this
  have hrdl := h.rdlen (P + q) (by omega)
  have hblen : b.length = r + b0.length := by rw [hbe, ← hP]; simp; omega
  have hrd : ∀ W, DiskAt FF W D S M s → Calls Tryd.prog 45 #[.agg #[.pointer (some ⟨D, 0, none⟩)], .int .i64 ((P + q : Nat) : Int)] W fun e w' =>
    ∃ g, e = .returned (.slice (some ⟨g, 0, none⟩) s.sz s.sz) ∧ W.heap.size ≤ g ∧ RowAt w' g 5 (vb (s.rd (P + q))).toArray ∧ Below W.heap.size W w' := fun W hW => sread_ok W D S M s hW hp.1 (P + q) (by omega)
  have hquo : ((q * s.sz + r : Nat) : Int).tdiv (s.sz : Int) = (q : Int) := by rw [Int.tdiv_eq_ediv_of_nonneg (by omega), ← Int.natCast_ediv, Nat.mul_comm, Nat.mul_add_div (by omega), Nat.div_eq_of_lt hrz]; rfl
  have hrem : ((q * s.sz + r : Nat) : Int).tmod (s.sz : Int) = (r : Int) := by rw [Int.tmod_eq_emod_of_nonneg (by omega), ← Int.natCast_emod, Nat.mul_comm, Nat.mul_add_mod, Nat.mod_eq_of_lt hrz]
  rw [← hP] at hbe
  have HAB : Hid (J.arb s ≤ 4096 * 4096) := by
    show _ ≤ _
    unfold J.arb
    exact Nat.mul_le_mul (by unfold J.ars; omega) hb2
  have HBE := hide hbe
  have HBL := hide hblen
  have HRDL := hide hrdl
  have hdw : IntKind.i64.wrap (q : Int) = (q : Int) := by have : J.ars s ≤ 4096 := (by unfold J.ars; omega); rw [IntKind.wrap_i64]; omega
  have hqz : q * s.sz + r ≤ 4096 * 4096 + 4096 := Nat.add_le_add (Nat.mul_le_mul (by omega) hb2) (by omega)
  clear hbe hrdl hblen
  rw [← hP] at hst
  have HP := hide hP
  clear hP
  obtain ⟨Z, hZ⟩ : ∃ Z, Z = s.sz := ⟨_, rfl⟩
  rw [← hZ] at hquo hrem hqz hsi hb1 hb2 hroom hrz hrd HRDL
  have hq2 : Hid (q * s.sz + r = q * Z + r) := by show _ = _; rw [hZ]
  rw [hq2.out]
  obtain ⟨A, hA⟩ : ∃ A, A = q * Z + r := ⟨_, rfl⟩
  rw [← hA] at hquo hrem hqz hroom ⊢
  clear hq2
  have hz2 : ¬ (Z = 0) := by omega
  have HZ := hide hZ
  have HA := hide hA
  clear hZ hA
  refine (callsIn_wide (n := 6)).1 ?_
  refine callsIn_of_wp_marks Tryd.func61 rfl trivial ?_ rfl
  simp only [Tryd.ntmps61, List.size_toArray, List.length_cons, List.length_nil, Nat.reduceAdd, Nat.reduceSub, Array.replicate_succ, Array.replicate_zero, List.push_toArray, List.append_toArray, List.nil_append, List.cons_append]
  have R0 : RowAt (w.alloc (.cells #[.pointer (some ⟨D, 0, none⟩)] 65)) w.heap.size 65 #[.pointer (some ⟨D, 0, none⟩)] := RowAt.new w _ _
  have B0 := (Below.refl w.heap.size w).alloc (Nat.le_refl _) (.cells #[.pointer (some ⟨D, 0, none⟩)] 65)
  have D0 := h.below B0 (Nat.le_refl _)
  gi_wp2_with (refine ⟨trivial, ?_⟩; gi_at_call 55; refine (callsIn_wide.2 (hsi _ D0)).mono ?_; rintro e w' ⟨rfl, rfl⟩)
  have R0a := R0.alloc (.cells #[.int .i64 (Z : Int)] 3)
  have R1a : RowAt ((w.alloc (.cells #[.pointer (some ⟨D, 0, none⟩)] 65)).alloc (.cells #[.int .i64 (Z : Int)] 3)) (w.heap.size + 1) 3 #[.int .i64 (Z : Int)] := by
    have := RowAt.new (w.alloc (.cells #[.pointer (some ⟨D, 0, none⟩)] 65)) 3 #[.int .i64 (Z : Int)]
    rwa [World.size_alloc] at this
  have B1 := B0.alloc (by simp) (.cells #[.int .i64 (Z : Int)] 3)
  clear R0 B0 D0
  generalize (w.alloc (.cells #[.pointer (some ⟨D, 0, none⟩)] 65)).alloc (.cells #[.int .i64 (Z : Int)] 3) = w1 at R0a R1a B1 ⊢
  have x0 : w1.cell? ⟨w.heap.size, 0, none⟩ = some (.pointer (some ⟨D, 0, none⟩)) := R0a.cell 0
  have x1 : w1.cell? ⟨w.heap.size + 1, 0, none⟩ = some (.int .i64 (Z : Int)) := R1a.cell 0
  have D1 := hide (h.below B1 (Nat.le_refl _))
  have F1 : Hid (RowAt w1 w.heap.size 65 #[.pointer (some ⟨D, 0, none⟩)] ∧ RowAt w1 (w.heap.size + 1) 3 #[.int .i64 (Z : Int)] ∧ Below w.heap.size w w1) := ⟨R0a, R1a, B1⟩
  clear R0a R1a B1
  refine wpIn_wide.2 ?_
  go_region_held3 (fun w' => w'.cell? ⟨w.heap.size, 0, none⟩ = some (.pointer (some ⟨D, 0, none⟩)) ∧ w'.cell? ⟨w.heap.size + 1, 0, none⟩ = some (.int .i64 (Z : Int))) (first | exact ⟨x0, x1⟩ | exact ⟨y0, y1⟩ | exact ⟨(F1.out.1.alloc _).cell 0, (F1.out.2.1.alloc _).cell 0⟩ | exact ⟨(F2.out.1.alloc _).cell 0, (F2.out.2.1.alloc _).cell 0⟩ | exact ⟨(F2.out.1.other _ _ (RN.out.ne F2.out.1 (by decide)).symm).cell 0, (F2.out.2.1.other _ _ (by have := F1.out.2.1.lt; simp; omega)).cell 0⟩ | fail) (first
    | (go_at_call 52; refine (hst _ (by first | exact D1.out | exact D1.out.drewN _ | exact D1.out.alloc _ | exact (D1.out.alloc _).drewN _)).mono ?_; rintro e w2 ⟨rfl, b2⟩; have b2' : Below w1.heap.size w1 w2 := (by first | exact below_rx b2 rfl rfl rfl rfl | exact (((Below.refl w1.heap.size w1).alloc (Nat.le_refl _) _)).trans ((below_rx (w := w1.alloc _) b2 rfl rfl rfl rfl).mono (Nat.le_of_lt (by simp)))); have F2 : Hid (RowAt w2 w.heap.size 65 #[.pointer (some ⟨D, 0, none⟩)] ∧ RowAt w2 (w.heap.size + 1) 3 #[.int .i64 (Z : Int)] ∧ Below w.heap.size w w2) := ⟨F1.out.1.below b2' F1.out.1.lt, F1.out.2.1.below b2' F1.out.2.1.lt, F1.out.2.2.trans (b2'.mono F1.out.2.2.size)⟩; have y0 : w2.cell? ⟨w.heap.size, 0, none⟩ = some (.pointer (some ⟨D, 0, none⟩)) := F2.out.1.cell 0; have y1 : w2.cell? ⟨w.heap.size + 1, 0, none⟩ = some (.int .i64 (Z : Int)) := F2.out.2.1.cell 0; (try (have RN := hide ((RowAt.new w1 3 #[.int .i64 0]).below (below_rx (w := w1.alloc (.cells #[.int .i64 0] 3)) b2 rfl rfl rfl rfl) (by simp)); have n0 : w2.cell? ⟨w1.heap.size, 0, none⟩ = some (.int .i64 0) := RN.out.cell 0; have n1 := RN.out.frozen 0)); clear b2'))
  all_goals (have hPq : IntKind.i64.wrap ((P : Int) + (q : Int)) = ((P + q : Nat) : Int) := by rw [IntKind.wrap_i64]; omega)
  all_goals rw [hPq]
  all_goals (first
    | (have F3 : Hid (RowAt (w2.setCell ⟨w1.heap.size, 0, none⟩ (.int .i64 ((P + q : Nat) : Int))) w.heap.size 65 #[.pointer (some ⟨D, 0, none⟩)] ∧ RowAt (w2.setCell ⟨w1.heap.size, 0, none⟩ (.int .i64 ((P + q : Nat) : Int))) (w.heap.size + 1) 3 #[.int .i64 (Z : Int)] ∧ RowAt (w2.setCell ⟨w1.heap.size, 0, none⟩ (.int .i64 ((P + q : Nat) : Int))) w1.heap.size 3 #[.int .i64 ((P + q : Nat) : Int)] ∧ Below w.heap.size w (w2.setCell ⟨w1.heap.size, 0, none⟩ (.int .i64 ((P + q : Nat) : Int))) ∧ w.heap.size + 1 < w1.heap.size) := ⟨F2.out.1.other _ _ (RN.out.ne F2.out.1 (by decide)).symm, F2.out.2.1.other _ _ (by have := F1.out.2.1.lt; simp; omega), RN.out.set 0 _, F2.out.2.2.setCell F1.out.2.2.size _, F1.out.2.1.lt⟩
       generalize w2.setCell ⟨w1.heap.size, 0, none⟩ (.int .i64 ((P + q : Nat) : Int)) = w3 at F3 ⊢
       clear n0 n1 RN x0 x1 D1 F1
       generalize w1.heap.size = gp at F3 ⊢)
    | (have F3 : Hid (RowAt (w2.alloc (.cells #[.int .i64 ((P + q : Nat) : Int)] 3)) w.heap.size 65 #[.pointer (some ⟨D, 0, none⟩)] ∧ RowAt (w2.alloc (.cells #[.int .i64 ((P + q : Nat) : Int)] 3)) (w.heap.size + 1) 3 #[.int .i64 (Z : Int)] ∧ RowAt (w2.alloc (.cells #[.int .i64 ((P + q : Nat) : Int)] 3)) w2.heap.size 3 #[.int .i64 ((P + q : Nat) : Int)] ∧ Below w.heap.size w (w2.alloc (.cells #[.int .i64 ((P + q : Nat) : Int)] 3)) ∧ w.heap.size + 1 < w2.heap.size) := ⟨F2.out.1.alloc _, F2.out.2.1.alloc _, RowAt.new w2 _ _, F2.out.2.2.alloc F2.out.2.2.size _, F2.out.2.1.lt⟩
       generalize w2.alloc (.cells #[.int .i64 ((P + q : Nat) : Int)] 3) = w3 at F3 ⊢
       generalize w2.heap.size = gp at F3 ⊢))
  all_goals (clear y0 y1 F2; have v0 : w3.cell? ⟨w.heap.size, 0, none⟩ = some (.pointer (some ⟨D, 0, none⟩)) := F3.out.1.cell 0; have v1 : w3.cell? ⟨w.heap.size + 1, 0, none⟩ = some (.int .i64 (Z : Int)) := F3.out.2.1.cell 0; have v2 : w3.cell? ⟨gp, 0, none⟩ = some (.int .i64 ((P + q : Nat) : Int)) := F3.out.2.2.1.cell 0)
  all_goals (have hZ1 : 0 < Z := by omega)
  all_goals (have D3 := hide (h.below F3.out.2.2.2.1 (Nat.le_refl _)))
  all_goals gi_wp2
  all_goals refine wpIn_wide.2 ?_
  all_goals go_region_held3 (fun w' => w'.cell? ⟨w.heap.size, 0, none⟩ = some (.pointer (some ⟨D, 0, none⟩)) ∧ w'.cell? ⟨w.heap.size + 1, 0, none⟩ = some (.int .i64 (Z : Int)) ∧ w'.cell? ⟨gp, 0, none⟩ = some (.int .i64 ((P + q : Nat) : Int))) (first | exact ⟨v0, v1, v2⟩ | exact ⟨u0, u1, u2⟩ | exact ⟨s0, s1, s2⟩ | fail) (first
    | (go_at_call 45; refine (hrd _ (by first | exact D3.out | exact D3.out.drewN _)).mono ?_; rintro e w4 ⟨g2, rfl, hg2, R2, b2⟩; have b2' : Below w3.heap.size w3 w4 := below_rx b2 rfl rfl rfl rfl; have F4 : Hid (RowAt w4 w.heap.size 65 #[.pointer (some ⟨D, 0, none⟩)] ∧ RowAt w4 (w.heap.size + 1) 3 #[.int .i64 (Z : Int)] ∧ RowAt w4 gp 3 #[.int .i64 ((P + q : Nat) : Int)] ∧ Below w.heap.size w w4 ∧ w.heap.size + 1 < gp) := ⟨F3.out.1.below b2' F3.out.1.lt, F3.out.2.1.below b2' F3.out.2.1.lt, F3.out.2.2.1.below b2' F3.out.2.2.1.lt, F3.out.2.2.2.1.trans (b2'.mono F3.out.2.2.2.1.size), F3.out.2.2.2.2⟩; have O4 := hide (own_cut w3.heap.size R2 HRDL.out hg2 (Nat.le_of_lt hrz) (by omega)); have S4 : Hid (SlL w4 (some ⟨g0, o0, none⟩) b0) := (fun _ => ⟨g0, o0, rfl, (hb0.below F4.out.2.2.2.1 hb0.lt).lt, fun j hj => by rw [(hb0.below F4.out.2.2.2.1 hb0.lt).cell]; exact hbc0 j hj⟩); have z4 : w3.heap.size ≤ w4.heap.size := b2'.size; have s4 := sl_pre g2 0 Z Z r (Nat.le_of_lt hrz); have u0 : w4.cell? ⟨w.heap.size, 0, none⟩ = some (.pointer (some ⟨D, 0, none⟩)) := F4.out.1.cell 0; have u1 : w4.cell? ⟨w.heap.size + 1, 0, none⟩ = some (.int .i64 (Z : Int)) := F4.out.2.1.cell 0; have u2 : w4.cell? ⟨gp, 0, none⟩ = some (.int .i64 ((P + q : Nat) : Int)) := F4.out.2.2.1.cell 0; clear b2' b2 R2 hg2)
    | (refine step_append_B rfl (.tmp 32) (.tmp 33) rfl w3.heap.size (.slice (some ⟨g2, 0, none⟩) r Z) ((s.rd (P + q)).take r) (by simp [Act.eval]) (by exact O4.out) ⟨g0, o0, none⟩ b0.length C0 b0 (by simp [Act.eval]) rfl (by exact S4.out) (by have := HRDL.out; have := HAB.out; simp; omega) (by exact z4) ?_; intro v5 w5 hO5 hG5; have b5' := grown_below O4.out hG5 (Below.refl w3.heap.size _) z4; have b5 : Below w3.heap.size w4 w5 := below_rx b5' rfl rfl rfl rfl; have hO6 : OwnB w5 w3.heap.size v5 b := (by rw [HBE.out]; exact hO5); obtain ⟨g, o, C, cs, rfl, hg5, hbC, hb, hbc⟩ := hO6.row (by have := HBL.out; omega); have HBB : Hid (b.length ≤ C ∧ RowAt w5 g 5 cs ∧ ∀ j, j < b.length → cs[o + j]? = some (.int .u8 (b.getD j 0).toNat)) := ⟨hbC, hb, hbc⟩; have FA : Hid (RowAt w5 w.heap.size 65 #[.pointer (some ⟨D, 0, none⟩)] ∧ RowAt w5 (w.heap.size + 1) 3 #[.int .i64 (Z : Int)] ∧ RowAt w5 gp 3 #[.int .i64 ((P + q : Nat) : Int)] ∧ Below w.heap.size w w5 ∧ w.heap.size + 1 < gp) := ⟨F4.out.1.below b5 F3.out.1.lt, F4.out.2.1.below b5 F3.out.2.1.lt, F4.out.2.2.1.below b5 F3.out.2.2.1.lt, F4.out.2.2.2.1.trans (b5.mono F3.out.2.2.2.1.size), F3.out.2.2.2.2⟩; have s0 : w5.cell? ⟨w.heap.size, 0, none⟩ = some (.pointer (some ⟨D, 0, none⟩)) := FA.out.1.cell 0; have s1 : w5.cell? ⟨w.heap.size + 1, 0, none⟩ = some (.int .i64 (Z : Int)) := FA.out.2.1.cell 0; have s2 : w5.cell? ⟨gp, 0, none⟩ = some (.int .i64 ((P + q : Nat) : Int)) := FA.out.2.2.1.cell 0; clear hO5 hG5 b5' b5 hO6 hg5 hbC hb hbc)
    | fail)
  all_goals (clear v0 v1 v2 u0 u1 u2 s0 s2 s4 D3 F4 O4 S4 z4)
  all_goals (generalize w5 = wA at FA HBB s1 ⊢; have hzA : True := trivial)
  all_goals gi_wp2_with (refine ⟨trivial, ?_⟩; gi_at_call 70; refine (callsIn_wide.2 (chunk_any _ _ _ _ _ hZ1)).mono ?_; rintro e w' ⟨rfl, rfl⟩)
  all_goals (
    have G5 : Hid (RowAt ((wA.alloc (.cells #[.slice (some ⟨g, o, none⟩) b.length C] 22)).alloc (.cells #[.int .i64 (Z : Int)] 3)) wA.heap.size 22 #[.slice (some ⟨g, o, none⟩) b.length C] ∧ RowAt ((wA.alloc (.cells #[.slice (some ⟨g, o, none⟩) b.length C] 22)).alloc (.cells #[.int .i64 (Z : Int)] 3)) (wA.heap.size + 1) 3 #[.int .i64 (Z : Int)] ∧ Below wA.heap.size wA ((wA.alloc (.cells #[.slice (some ⟨g, o, none⟩) b.length C] 22)).alloc (.cells #[.int .i64 (Z : Int)] 3)) ∧ ((wA.alloc (.cells #[.slice (some ⟨g, o, none⟩) b.length C] 22)).alloc (.cells #[.int .i64 (Z : Int)] 3)).heap.size = wA.heap.size + 2) := by
      refine ⟨(RowAt.new wA _ _).alloc _, ?_, ((Below.refl _ wA).alloc (Nat.le_refl _) _).alloc (by simp) _, by simp⟩
      have := RowAt.new (wA.alloc (.cells #[.slice (some ⟨g, o, none⟩) b.length C] 22)) 3 #[.int .i64 (Z : Int)]
      rwa [World.size_alloc] at this
    generalize (wA.alloc (.cells #[.slice (some ⟨g, o, none⟩) b.length C] 22)).alloc (.cells #[.int .i64 (Z : Int)] 3) = wB at G5 ⊢)
  · have hN : ∀ k, k < (b.length + Z - 1) / Z → k * Z < b.length := fun k hk => by
      have := (Nat.le_div_iff_mul_le hZ1).1 (Nat.succ_le_of_lt hk)
      rw [Nat.succ_mul] at this; omega
    have hN2 : ∀ k, k * Z < b.length → k < (b.length + Z - 1) / Z := fun k hk => by
      apply Nat.lt_of_succ_le
      rw [Nat.le_div_iff_mul_le hZ1, Nat.succ_mul]; omega
    have hz5 : w.heap.size + 1 < wB.heap.size := by have := G5.out.2.2.2; have := FA.out.2.1.lt; omega
    have hroom2 : ∀ k, k * Z < b.length → P + q + k < s.n := fun k hk => by
      have h1 : (q + k) * Z < J.ars s * Z := by
        rw [Nat.add_mul]
        have e1 : J.arb s = J.ars s * Z := by unfold J.arb; rw [HZ.out]
        have e2 := HA.out
        have e3 := HBL.out
        omega
      have := Nat.lt_of_mul_lt_mul_right h1
      omega
    have own : OwnFrom wB.heap.size (fun pre W => PutI w wB.heap.size D S M s Z gp P q g o b cs pre W) := PutI.own (by omega) hM
    refine wpIn_rangeFunc_ownG (α := Nat) rfl (by omega) (gf := 77) (lb := #[.pointer (some ⟨wA.heap.size, 0, none⟩), .pointer (some ⟨wA.heap.size + 1, 0, none⟩)]) rfl trivial (enters_of Tryd.func77 (by kernel_rfl) rfl) (encs := chv g o b.length Z) (Kp := KpB wA.heap.size (wA.heap.size + 1)) (S := fun xs => ∃ k, (k * Z < b.length + Z ∧ b.length ≤ k * Z) ∧ xs = List.range k) (Sp := fun _ => True) (N := (b.length + Z - 1) / Z) (w0 := wB) ?seq1 (fun h1 h2 => ⟨h2.1.trans h1.1, h2.2.trans h1.2⟩) ?keep1 (Below.refl _ _) (fun _ => rfl)
      (fun pre W => PutI w wB.heap.size D S M s Z gp P q g o b cs pre W) (fun _ _ _ => False) own (fun _ _ _ _ _ hs _ _ => hs) ?init1
      (fun x => { tmps := #[.agg #[.pointer (some ⟨D, 0, none⟩)], .int .i64 (ar : Int), .int .i64 (A : Int), .slice (some ⟨g, o, none⟩) b.length C, .pointer (some ⟨w.heap.size, 0, none⟩), undef, undef, undef, .pointer (some ⟨w.heap.size + 1, 0, none⟩), .pointer (some ⟨gp, 0, none⟩), .slice (some ⟨g, o + x * Z, none⟩) (min Z (b.length - x * Z)) (min Z (b.length - x * Z)), undef, .pointer (some ⟨w.heap.size, 0, none⟩), .pointer (some ⟨D, 0, none⟩), .int .i64 (Z : Int), .agg #[.pointer (some ⟨D, 0, none⟩)], .int .i64 (ar : Int), .int .i64 (P : Int), .int .i64 (A : Int), .int .i64 (Z : Int), .int .i64 (q : Int), .int .i64 ((P : Int) + (q : Int)), .int .i64 (A : Int), .int .i64 (Z : Int), .int .i64 (r : Int), .bool true, .agg #[.pointer (some ⟨D, 0, none⟩)], .int .i64 ((P + q : Nat) : Int), .slice (some ⟨g2, 0, none⟩) Z Z, .int .i64 (A : Int), .int .i64 (Z : Int), .int .i64 (r : Int), .slice (some ⟨g2, 0, none⟩) r Z, .slice (some ⟨g0, o0, none⟩) b0.length C0, .slice (some ⟨g, o, none⟩) b.length C, .slice (some ⟨g, o, none⟩) b.length C, .int .i64 (Z : Int), .func (.func 77) #[] #[.pointer (some ⟨wA.heap.size, 0, none⟩), .pointer (some ⟨wA.heap.size + 1, 0, none⟩)], .slice (some ⟨g, o + x * Z, none⟩) (min Z (b.length - x * Z)) (min Z (b.length - x * Z)), undef, undef, undef, undef, undef, undef, undef, undef, undef, undef, undef, undef, undef], defers := [] }) ?assign1 ?body1 ?done1 ?stop1
    case seq1 =>
      intro l Jv Jx W hW hJ hJx hY h0
      refine (chunk1_in l wA.heap.size (wA.heap.size + 1) g o b.length C Z hZ1 hb2 (by have e1 : J.arb s ≤ 4096 * 4096 := (by unfold J.arb; exact Nat.mul_le_mul (by unfold J.ars; omega) (by rw [← HZ.out]; exact hb2)); have e3 := HBL.out; omega) HBB.out.1 Jv Jx (fun pre A hA => hJ pre A _ none hA ⟨rfl, rfl, rfl, Nat.le_refl _, fun _ _ _ => rfl⟩ (by intro r h; cases h)) (fun pre x W1 h1 h2 => hY pre x W1 h1 (hN2 _ h2)) W (G5.out.1.below hW G5.out.1.lt) (G5.out.2.1.below hW G5.out.2.1.lt) h0).mono ?_
      rintro e W' ⟨he, ⟨k, hk, hj⟩ | ⟨pre, _, hj⟩⟩
      · exact ⟨he, .inl ⟨_, ⟨k, hk, rfl⟩, hj⟩⟩
      · exact ⟨he, .inr ⟨_, trivial, hj⟩⟩
    case keep1 =>
      intro W l oo oo' hl _ _ _
      have := G5.out.2.2.2
      exact ⟨World.putObj_heap_other (by omega), World.putObj_heap_other (by omega)⟩
    case init1 =>
      have hb5 : Below w.heap.size w wB := FA.out.2.2.2.1.trans (G5.out.2.2.1.mono FA.out.2.2.2.1.size)
      exact ⟨FA.out.1.below G5.out.2.2.1 FA.out.1.lt, FA.out.2.1.below G5.out.2.2.1 FA.out.2.1.lt, FA.out.2.2.1.below G5.out.2.2.1 FA.out.2.2.1.lt, h.below hb5 (Nat.le_refl _), HBB.out.2.1.below G5.out.2.2.1 HBB.out.2.1.lt, Mv.of_below hb5, Nat.le_refl _⟩
    case assign1 =>
      intro l x W K hK
      unfold chv
      gi_wp2
      exact hK
    case body1 =>
      intro l pre x W hI hlen
      have hk := hN _ hlen
      have hpl := hroom2 _ hk
      obtain ⟨pl, hple⟩ : ∃ pl, pl = P + q + pre.length := ⟨_, rfl⟩
      have hpk := puts_keep (fun x => J.pad Z ((b.drop (x * Z)).take Z)) pre hp (P + q)
      have hrow := hI.pl
      rw [← hple] at hrow hpl
      have HPL := hide hple
      have HI := hide hI
      have HPK := hide hpk
      have x0 : W.cell? ⟨w.heap.size, 0, none⟩ = some (.pointer (some ⟨D, 0, none⟩)) := hI.st.cell 0
      have x1 : W.cell? ⟨w.heap.size + 1, 0, none⟩ = some (.int .i64 (Z : Int)) := hI.sz.cell 0
      have hmk := make_zeros Z (by omega)
      have hcl : ((b.drop (x * Z)).take Z).length = min Z (b.length - x * Z) := by simp
      have hsl : SlL W (some ⟨g, o + x * Z, none⟩) ((b.drop (x * Z)).take Z) := SlL.sub (fun _ => ⟨g, o, rfl, hI.by_.lt, fun j hj => by rw [hI.by_.cell]; exact HBB.out.2.2 j hj⟩) (x * Z) Z
      have HSL := hide hsl
      have HCL := hide hcl
      have HRW := hide hrow
      have hwr : ∀ W6, DiskAt FF W6 D S M (J.puts s (P + q) (fun x => J.pad Z ((b.drop (x * Z)).take Z)) pre) → SlU W6 (some ⟨W.heap.size, 0, none⟩) (J.pad Z ((b.drop (x * Z)).take Z)) → Calls Tryd.prog 26 #[.pointer (some ⟨D, 0, none⟩), .int .i64 (pl : Int), .slice (some ⟨W.heap.size, 0, none⟩) Z Z] W6 fun e w' => e = .returned (.int .i64 0) ∧ DiskAt FF w' D S M ((J.puts s (P + q) (fun x => J.pad Z ((b.drop (x * Z)).take Z)) pre).put pl (J.pad Z ((b.drop (x * Z)).take Z))) ∧ Mv D S M W6 w' := fun W6 h6 s6 => by
        have e1 : (J.puts s (P + q) (fun x => J.pad Z ((b.drop (x * Z)).take Z)) pre).sz = Z := by rw [HPK.out.2.1, HZ.out]
        have := putW W6 D S M _ h6 HPK.out.1 pl (by rw [HPK.out.2.2]; exact hpl) (some ⟨W.heap.size, 0, none⟩) Z _ (by rw [e1]; exact J.pad_len _ _ (by rw [hcl]; exact Nat.min_le_left _ _)) s6
        rw [e1] at this; exact this
      have hWz : w.heap.size ≤ W.heap.size := hI.mv.size
      have hgpW : gp < W.heap.size := hrow.lt
      have hw7 : IntKind.i64.wrap ((pl : Int) + 1) = ((pl + 1 : Nat) : Int) := by rw [IntKind.wrap_i64]; omega
      generalize hxo : o + x * Z = ox at HSL
      generalize hxm : min Z (b.length - x * Z) = mx at HCL
      have hmZ : mx ≤ Z := by rw [← hxm]; exact Nat.min_le_left _ _
      have HXO := hide hxo
      have HXM := hide hxm
      clear hI hpk hrow hple hsl hcl hst hsi hrd
      dsimp only
      clear HXO HXM hxo hxm
      have hgp1 : w.heap.size + 1 < gp := FA.out.2.2.2.2
      obtain ⟨w6, hrun, R6, b6⟩ := run_copy_pad (W.alloc (.cells (vb (List.replicate Z 0)).toArray 5)) 3 W.heap.size Z (RowAt.new W _ _) ⟨g, ox, none⟩ mx mx _ HCL.out hmZ (HSL.out.alloc _)
      have b6' := ((Below.refl W.heap.size W).alloc (Nat.le_refl _) (.cells (vb (List.replicate Z 0)).toArray 5)).trans b6
      have ST6 := hide (HI.out.st.below b6' HI.out.st.lt)
      have SZ6 := hide (HI.out.sz.below b6' HI.out.sz.lt)
      have PL6 := hide (HRW.out.below b6' HRW.out.lt)
      have DK6 := hide (HI.out.dk.below b6' (Nat.le_refl _))
      have BY6 := hide (HI.out.by_.below b6' HI.out.by_.lt)
      have BB6 := hide b6'
      have S6 := hide (SlU.row R6)
      have y0 : w6.cell? ⟨w.heap.size, 0, none⟩ = some (.pointer (some ⟨D, 0, none⟩)) := ST6.out.cell 0
      have y1 : w6.cell? ⟨gp, 0, none⟩ = some (.int .i64 (pl : Int)) := PL6.out.cell 0
      clear R6 b6 b6'
      gi_wp2_with (first
        | (refine ⟨trivial, ?_⟩; gi_at_call 26; refine (CallsIn.inRound l (callsIn_wide.2 (hwr _ DK6.out S6.out))).mono ?_; rintro e w7 ⟨rfl, D7, M7⟩; have DK7 := hide D7; have MM7 := hide M7; have ST7 := hide (M7.row ST6.out (by omega) (by omega) (by omega)); have SZ7 := hide (M7.row SZ6.out (by omega) (by omega) (by omega)); have PL7 := hide (M7.row PL6.out (by omega) (by omega) (by omega)); have z1 : w7.cell? ⟨gp, 0, none⟩ = some (.int .i64 (pl : Int)) := PL7.out.cell 0; have f1 := PL7.out.frozen 0; clear D7 M7)
        | (refine ⟨trivial, ?_⟩; gi_at_call 53; refine (CallsIn.inRound l (callsIn_wide.2 (must_ok _))).mono ?_; rintro e w' ⟨rfl, hw⟩; rw [hw]; clear hw w')
        | fail)
      have hgw3 : gp < wA.heap.size := FA.out.2.2.1.lt
      have hn5 := G5.out.2.2.2
      have hWbig := HI.out.big
      have hz67 : w6.heap.size ≤ w7.heap.size := MM7.out.size
      have hz6 : W.heap.size ≤ w6.heap.size := BB6.out.size
      have hblk : ∀ k, k < W.heap.size → w.heap.size ≤ k → k ≠ gp → (w7.setCell ⟨gp, 0, none⟩ (.int .i64 ((pl : Int) + 1))).heap[k]? = W.heap[k]? := fun k h1 h2 h3 => by
        rw [heap_setCell_other _ _ _ _ h3, MM7.out.block k (by omega) (by omega) (by omega) (by omega), BB6.out.block k h1]
      have hb8 : Below gp w7 (w7.setCell ⟨gp, 0, none⟩ (.int .i64 ((pl : Int) + 1))) := (Below.refl gp w7).setCell (p := ⟨gp, 0, none⟩) (Nat.le_refl gp) _
      have hk8 : Rows w7 (w7.setCell ⟨gp, 0, none⟩ (.int .i64 ((pl : Int) + 1))) := fun g' c' hg' => hg'.other _ _ (PL7.out.ne hg' (by decide)).symm
      refine ⟨⟨by simp; omega, fun k oo hk5 hk1 hk2 => ?_⟩, ⟨hblk _ (by omega) (by omega) (by omega), hblk _ (by omega) (by omega) (by omega)⟩, ⟨ST7.out.other _ _ (by simp; omega), SZ7.out.other _ _ (by simp; omega), ?_, ?_, ?_, ?_, by simp; omega⟩⟩
      · have hkW : k < W.heap.size := (Array.getElem?_eq_some_iff.1 hk1).1
        rw [hblk k hkW (by omega) (fun e => ?_)]
        · exact hk1
        · have := HRW.out
          unfold RowAt at this
          rw [e, this] at hk1
          injection hk1 with hk1
          rw [← hk1] at hk2
          cases hk2
      · have h9 := PL7.out.set 0 (.int .i64 ((pl : Int) + 1))
        have e9 : ((P + q + (pre ++ [x]).length : Nat) : Int) = (pl : Int) + 1 := by rw [HPL.out]; simp; omega
        rw [e9]; exact h9
      · rw [J.puts_snoc, ← HPL.out]
        exact DK7.out.keptB hb8 hk8 (by omega) (by omega) (by omega)
      · obtain ⟨sv, uv, hkk⟩ := DK6.out
        exact hk8 _ _ (MM7.out.rows hkk _ _ BY6.out)
      · exact (((HI.out.mv.belowB BB6.out hWz).trans MM7.out (Or.inl rfl)).belowB hb8 (by omega))
    case done1 =>
      rintro Dd xs W hDd ⟨k, hk, rfl⟩ hI hK
      gi_wp2
      refine ⟨by simp, .inl ⟨_, _, rfl, run_takeDeferred hK, ?_⟩⟩
      have hI2 : PutI w wB.heap.size D S M s Z gp P q g o b cs (List.range k) (W.putObj Dd (.deferred none)) := own.putObj _ hI hDd hK rfl
      refine ⟨_, results_none rfl _ _ _, rfl, k, by rw [← HZ.out]; exact hk.2, by rw [← HZ.out]; exact hk.1, ?_, hI2.mv⟩
      have := hI2.dk
      rw [HP.out] at this
      rw [← HZ.out]
      exact this
    case stop1 =>
      rintro Dd c pre W _ _ h _
      exact h.elim
  · have hN : ∀ k, k < (b.length + Z - 1) / Z → k * Z < b.length := fun k hk => by
      have := (Nat.le_div_iff_mul_le hZ1).1 (Nat.succ_le_of_lt hk)
      rw [Nat.succ_mul] at this; omega
    have hN2 : ∀ k, k * Z < b.length → k < (b.length + Z - 1) / Z := fun k hk => by
      apply Nat.lt_of_succ_le
      rw [Nat.le_div_iff_mul_le hZ1, Nat.succ_mul]; omega
    have hz5 : w.heap.size + 1 < wB.heap.size := by have := G5.out.2.2.2; have := FA.out.2.1.lt; omega
    have hroom2 : ∀ k, k * Z < b.length → P + q + k < s.n := fun k hk => by
      have h1 : (q + k) * Z < J.ars s * Z := by
        rw [Nat.add_mul]
        have e1 : J.arb s = J.ars s * Z := by unfold J.arb; rw [HZ.out]
        have e2 := HA.out
        have e3 := HBL.out
        omega
      have := Nat.lt_of_mul_lt_mul_right h1
      omega
    have own : OwnFrom wB.heap.size (fun pre W => PutI w wB.heap.size D S M s Z gp P q g o b cs pre W) := PutI.own (by omega) hM
    refine wpIn_rangeFunc_ownG (α := Nat) rfl (by omega) (gf := 77) (lb := #[.pointer (some ⟨wA.heap.size, 0, none⟩), .pointer (some ⟨wA.heap.size + 1, 0, none⟩)]) rfl trivial (enters_of Tryd.func77 (by kernel_rfl) rfl) (encs := chv g o b.length Z) (Kp := KpB wA.heap.size (wA.heap.size + 1)) (S := fun xs => ∃ k, (k * Z < b.length + Z ∧ b.length ≤ k * Z) ∧ xs = List.range k) (Sp := fun _ => True) (N := (b.length + Z - 1) / Z) (w0 := wB) ?seq2 (fun h1 h2 => ⟨h2.1.trans h1.1, h2.2.trans h1.2⟩) ?keep2 (Below.refl _ _) (fun _ => rfl)
      (fun pre W => PutI w wB.heap.size D S M s Z gp P q g o b cs pre W) (fun _ _ _ => False) own (fun _ _ _ _ _ hs _ _ => hs) ?init2
      (fun x => { tmps := #[.agg #[.pointer (some ⟨D, 0, none⟩)], .int .i64 (ar : Int), .int .i64 (A : Int), .slice (some ⟨g, o, none⟩) b.length C, .pointer (some ⟨w.heap.size, 0, none⟩), undef, undef, undef, .pointer (some ⟨w.heap.size + 1, 0, none⟩), .pointer (some ⟨gp, 0, none⟩), .slice (some ⟨g, o + x * Z, none⟩) (min Z (b.length - x * Z)) (min Z (b.length - x * Z)), undef, .pointer (some ⟨w.heap.size, 0, none⟩), .pointer (some ⟨D, 0, none⟩), .int .i64 (Z : Int), .agg #[.pointer (some ⟨D, 0, none⟩)], .int .i64 (ar : Int), .int .i64 (P : Int), .int .i64 (A : Int), .int .i64 (Z : Int), .int .i64 (q : Int), .int .i64 ((P : Int) + (q : Int)), .int .i64 (A : Int), .int .i64 (Z : Int), .int .i64 (r : Int), .bool true, .agg #[.pointer (some ⟨D, 0, none⟩)], .int .i64 ((P + q : Nat) : Int), .slice (some ⟨g2, 0, none⟩) Z Z, .int .i64 (A : Int), .int .i64 (Z : Int), .int .i64 (r : Int), .slice (some ⟨g2, 0, none⟩) r Z, .slice (some ⟨g0, o0, none⟩) b0.length C0, .slice (some ⟨g, o, none⟩) b.length C, .slice (some ⟨g, o, none⟩) b.length C, .int .i64 (Z : Int), .func (.func 77) #[] #[.pointer (some ⟨wA.heap.size, 0, none⟩), .pointer (some ⟨wA.heap.size + 1, 0, none⟩)], .slice (some ⟨g, o + x * Z, none⟩) (min Z (b.length - x * Z)) (min Z (b.length - x * Z)), undef, undef, undef, undef, undef, undef, undef, undef, undef, undef, undef, undef, undef], defers := [] }) ?assign2 ?body2 ?done2 ?stop2
    case seq2 =>
      intro l Jv Jx W hW hJ hJx hY h0
      refine (chunk1_in l wA.heap.size (wA.heap.size + 1) g o b.length C Z hZ1 hb2 (by have e1 : J.arb s ≤ 4096 * 4096 := (by unfold J.arb; exact Nat.mul_le_mul (by unfold J.ars; omega) (by rw [← HZ.out]; exact hb2)); have e3 := HBL.out; omega) HBB.out.1 Jv Jx (fun pre A hA => hJ pre A _ none hA ⟨rfl, rfl, rfl, Nat.le_refl _, fun _ _ _ => rfl⟩ (by intro r h; cases h)) (fun pre x W1 h1 h2 => hY pre x W1 h1 (hN2 _ h2)) W (G5.out.1.below hW G5.out.1.lt) (G5.out.2.1.below hW G5.out.2.1.lt) h0).mono ?_
      rintro e W' ⟨he, ⟨k, hk, hj⟩ | ⟨pre, _, hj⟩⟩
      · exact ⟨he, .inl ⟨_, ⟨k, hk, rfl⟩, hj⟩⟩
      · exact ⟨he, .inr ⟨_, trivial, hj⟩⟩
    case keep2 =>
      intro W l oo oo' hl _ _ _
      have := G5.out.2.2.2
      exact ⟨World.putObj_heap_other (by omega), World.putObj_heap_other (by omega)⟩
    case init2 =>
      have hb5 : Below w.heap.size w wB := FA.out.2.2.2.1.trans (G5.out.2.2.1.mono FA.out.2.2.2.1.size)
      exact ⟨FA.out.1.below G5.out.2.2.1 FA.out.1.lt, FA.out.2.1.below G5.out.2.2.1 FA.out.2.1.lt, FA.out.2.2.1.below G5.out.2.2.1 FA.out.2.2.1.lt, h.below hb5 (Nat.le_refl _), HBB.out.2.1.below G5.out.2.2.1 HBB.out.2.1.lt, Mv.of_below hb5, Nat.le_refl _⟩
    case assign2 =>
      intro l x W K hK
      unfold chv
      gi_wp2
      exact hK
    case body2 =>
      intro l pre x W hI hlen
      have hk := hN _ hlen
      have hpl := hroom2 _ hk
      obtain ⟨pl, hple⟩ : ∃ pl, pl = P + q + pre.length := ⟨_, rfl⟩
      have hpk := puts_keep (fun x => J.pad Z ((b.drop (x * Z)).take Z)) pre hp (P + q)
      have hrow := hI.pl
      rw [← hple] at hrow hpl
      have HPL := hide hple
      have HI := hide hI
      have HPK := hide hpk
      have x0 : W.cell? ⟨w.heap.size, 0, none⟩ = some (.pointer (some ⟨D, 0, none⟩)) := hI.st.cell 0
      have x1 : W.cell? ⟨w.heap.size + 1, 0, none⟩ = some (.int .i64 (Z : Int)) := hI.sz.cell 0
      have hmk := make_zeros Z (by omega)
      have hcl : ((b.drop (x * Z)).take Z).length = min Z (b.length - x * Z) := by simp
      have hsl : SlL W (some ⟨g, o + x * Z, none⟩) ((b.drop (x * Z)).take Z) := SlL.sub (fun _ => ⟨g, o, rfl, hI.by_.lt, fun j hj => by rw [hI.by_.cell]; exact HBB.out.2.2 j hj⟩) (x * Z) Z
      have HSL := hide hsl
      have HCL := hide hcl
      have HRW := hide hrow
      have hwr : ∀ W6, DiskAt FF W6 D S M (J.puts s (P + q) (fun x => J.pad Z ((b.drop (x * Z)).take Z)) pre) → SlU W6 (some ⟨W.heap.size, 0, none⟩) (J.pad Z ((b.drop (x * Z)).take Z)) → Calls Tryd.prog 26 #[.pointer (some ⟨D, 0, none⟩), .int .i64 (pl : Int), .slice (some ⟨W.heap.size, 0, none⟩) Z Z] W6 fun e w' => e = .returned (.int .i64 0) ∧ DiskAt FF w' D S M ((J.puts s (P + q) (fun x => J.pad Z ((b.drop (x * Z)).take Z)) pre).put pl (J.pad Z ((b.drop (x * Z)).take Z))) ∧ Mv D S M W6 w' := fun W6 h6 s6 => by
        have e1 : (J.puts s (P + q) (fun x => J.pad Z ((b.drop (x * Z)).take Z)) pre).sz = Z := by rw [HPK.out.2.1, HZ.out]
        have := putW W6 D S M _ h6 HPK.out.1 pl (by rw [HPK.out.2.2]; exact hpl) (some ⟨W.heap.size, 0, none⟩) Z _ (by rw [e1]; exact J.pad_len _ _ (by rw [hcl]; exact Nat.min_le_left _ _)) s6
        rw [e1] at this; exact this
      have hWz : w.heap.size ≤ W.heap.size := hI.mv.size
      have hgpW : gp < W.heap.size := hrow.lt
      have hw7 : IntKind.i64.wrap ((pl : Int) + 1) = ((pl + 1 : Nat) : Int) := by rw [IntKind.wrap_i64]; omega
      generalize hxo : o + x * Z = ox at HSL
      generalize hxm : min Z (b.length - x * Z) = mx at HCL
      have hmZ : mx ≤ Z := by rw [← hxm]; exact Nat.min_le_left _ _
      have HXO := hide hxo
      have HXM := hide hxm
      clear hI hpk hrow hple hsl hcl hst hsi hrd
      dsimp only
      clear HXO HXM hxo hxm
      have hgp1 : w.heap.size + 1 < gp := FA.out.2.2.2.2
      obtain ⟨w6, hrun, R6, b6⟩ := run_copy_pad (W.alloc (.cells (vb (List.replicate Z 0)).toArray 5)) 3 W.heap.size Z (RowAt.new W _ _) ⟨g, ox, none⟩ mx mx _ HCL.out hmZ (HSL.out.alloc _)
      have b6' := ((Below.refl W.heap.size W).alloc (Nat.le_refl _) (.cells (vb (List.replicate Z 0)).toArray 5)).trans b6
      have ST6 := hide (HI.out.st.below b6' HI.out.st.lt)
      have SZ6 := hide (HI.out.sz.below b6' HI.out.sz.lt)
      have PL6 := hide (HRW.out.below b6' HRW.out.lt)
      have DK6 := hide (HI.out.dk.below b6' (Nat.le_refl _))
      have BY6 := hide (HI.out.by_.below b6' HI.out.by_.lt)
      have BB6 := hide b6'
      have S6 := hide (SlU.row R6)
      have y0 : w6.cell? ⟨w.heap.size, 0, none⟩ = some (.pointer (some ⟨D, 0, none⟩)) := ST6.out.cell 0
      have y1 : w6.cell? ⟨gp, 0, none⟩ = some (.int .i64 (pl : Int)) := PL6.out.cell 0
      clear R6 b6 b6'
      gi_wp2_with (first
        | (refine ⟨trivial, ?_⟩; gi_at_call 26; refine (CallsIn.inRound l (callsIn_wide.2 (hwr _ DK6.out S6.out))).mono ?_; rintro e w7 ⟨rfl, D7, M7⟩; have DK7 := hide D7; have MM7 := hide M7; have ST7 := hide (M7.row ST6.out (by omega) (by omega) (by omega)); have SZ7 := hide (M7.row SZ6.out (by omega) (by omega) (by omega)); have PL7 := hide (M7.row PL6.out (by omega) (by omega) (by omega)); have z1 : w7.cell? ⟨gp, 0, none⟩ = some (.int .i64 (pl : Int)) := PL7.out.cell 0; have f1 := PL7.out.frozen 0; clear D7 M7)
        | (refine ⟨trivial, ?_⟩; gi_at_call 53; refine (CallsIn.inRound l (callsIn_wide.2 (must_ok _))).mono ?_; rintro e w' ⟨rfl, hw⟩; rw [hw]; clear hw w')
        | fail)
      have hgw3 : gp < wA.heap.size := FA.out.2.2.1.lt
      have hn5 := G5.out.2.2.2
      have hWbig := HI.out.big
      have hz67 : w6.heap.size ≤ w7.heap.size := MM7.out.size
      have hz6 : W.heap.size ≤ w6.heap.size := BB6.out.size
      have hblk : ∀ k, k < W.heap.size → w.heap.size ≤ k → k ≠ gp → (w7.setCell ⟨gp, 0, none⟩ (.int .i64 ((pl : Int) + 1))).heap[k]? = W.heap[k]? := fun k h1 h2 h3 => by
        rw [heap_setCell_other _ _ _ _ h3, MM7.out.block k (by omega) (by omega) (by omega) (by omega), BB6.out.block k h1]
      have hb8 : Below gp w7 (w7.setCell ⟨gp, 0, none⟩ (.int .i64 ((pl : Int) + 1))) := (Below.refl gp w7).setCell (p := ⟨gp, 0, none⟩) (Nat.le_refl gp) _
      have hk8 : Rows w7 (w7.setCell ⟨gp, 0, none⟩ (.int .i64 ((pl : Int) + 1))) := fun g' c' hg' => hg'.other _ _ (PL7.out.ne hg' (by decide)).symm
      refine ⟨⟨by simp; omega, fun k oo hk5 hk1 hk2 => ?_⟩, ⟨hblk _ (by omega) (by omega) (by omega), hblk _ (by omega) (by omega) (by omega)⟩, ⟨ST7.out.other _ _ (by simp; omega), SZ7.out.other _ _ (by simp; omega), ?_, ?_, ?_, ?_, by simp; omega⟩⟩
      · have hkW : k < W.heap.size := (Array.getElem?_eq_some_iff.1 hk1).1
        rw [hblk k hkW (by omega) (fun e => ?_)]
        · exact hk1
        · have := HRW.out
          unfold RowAt at this
          rw [e, this] at hk1
          injection hk1 with hk1
          rw [← hk1] at hk2
          cases hk2
      · have h9 := PL7.out.set 0 (.int .i64 ((pl : Int) + 1))
        have e9 : ((P + q + (pre ++ [x]).length : Nat) : Int) = (pl : Int) + 1 := by rw [HPL.out]; simp; omega
        rw [e9]; exact h9
      · rw [J.puts_snoc, ← HPL.out]
        exact DK7.out.keptB hb8 hk8 (by omega) (by omega) (by omega)
      · obtain ⟨sv, uv, hkk⟩ := DK6.out
        exact hk8 _ _ (MM7.out.rows hkk _ _ BY6.out)
      · exact (((HI.out.mv.belowB BB6.out hWz).trans MM7.out (Or.inl rfl)).belowB hb8 (by omega))
    case done2 =>
      rintro Dd xs W hDd ⟨k, hk, rfl⟩ hI hK
      gi_wp2
      refine ⟨by simp, .inl ⟨_, _, rfl, run_takeDeferred hK, ?_⟩⟩
      have hI2 : PutI w wB.heap.size D S M s Z gp P q g o b cs (List.range k) (W.putObj Dd (.deferred none)) := own.putObj _ hI hDd hK rfl
      refine ⟨_, results_none rfl _ _ _, rfl, k, by rw [← HZ.out]; exact hk.2, by rw [← HZ.out]; exact hk.1, ?_, hI2.mv⟩
      have := hI2.dk
      rw [HP.out] at this
      rw [← HZ.out]
      exact this
    case stop2 =>
      rintro Dd c pre W _ _ h _
      exact h.elim
end Go.Proofs.YtidocfajhhpfdaaDoor
