/- put, where it begins at a sector's begin and the power may fail. -/
import Derived.Test.YtidocfajhhpfdaaDoorJcp
import Derived.Test.YtidocfajhhpfdaaDoorJox
import Derived.Test.YtidocfajhhpfdaaDoorJpu
namespace Go.Proofs.YtidocfajhhpfdaaDoor
open Go.RowKit Go.Shelf
attribute [local go_sem] Oper.semAt_some
set_option maxRecDepth 5000 in
theorem must_bad (w : World) : Calls Tryd.prog 53 #[.int .i64 82] w fun e w' => e = fell 82 ∧ w' = w := by
  go_enter Tryd.func53, Tryd.ntmps53
  go_wp2
  exact ⟨rfl, rfl, rfl⟩
set_option maxRecDepth 5000 in
theorem puts_same (f : Nat → List UInt8) : ∀ (xs : List Nat) (s : K.St) (p : Nat), (J.puts s p f xs).sz = s.sz ∧ (J.puts s p f xs).n = s.n
  | [], _, _ => ⟨rfl, rfl⟩
  | x :: xs, s, p => by
    have e : J.puts s p f (x :: xs) = J.puts (s.put p (f x)) (p + 1) f xs := rfl
    rw [e]
    obtain ⟨h1, h2⟩ := puts_same f xs (s.put p (f x)) (p + 1)
    exact ⟨h1.trans (spent_sz s), h2.trans (spent_n s)⟩
set_option maxRecDepth 5000 in
theorem put_alive {s : K.St} (hc : s.can = true) (hd : s.dead = false) (i : Nat) (l : List UInt8) : (s.put i l).dead = false := by
  unfold K.St.put K.St.spent
  rw [if_pos hc]; exact hd
set_option maxRecDepth 5000 in
theorem dm_own {w : World} {D S M N : Nat} (hN : w.heap.size ≤ N) (hM : M < w.heap.size) (s : K.St) : OwnFrom N (fun (_ : Unit) W => DiskAt FF W D S M s ∧ Mv D S M w W) := by
  rintro _ A B row ⟨⟨sv, uv, hk⟩, hm⟩ hg hr
  refine ⟨⟨sv, uv, hk.keepA hg.size ((row_own hk.row hg hr).trans hk.row.symm) ((row_own hk.sure hg hr).trans hk.sure.symm) (hg.block M hk.un.lt (fun e => by have := (hr M e.symm).1; omega)) (fun g c _ hc => row_own hc hg hr)⟩, ?_⟩
  refine ⟨hg.os.trans hm.os, hg.tape.trans hm.tape, hg.output.trans hm.output, Nat.le_trans hm.size hg.size, fun k hk h1 h2 h3 => ?_⟩
  rw [hg.block k (Nat.lt_of_lt_of_le hk hm.size) (fun e => by have := (hr k e.symm).1; omega)]
  exact hm.block k hk h1 h2 h3
set_option maxRecDepth 100000 in
set_option maxHeartbeats 4000000 in
theorem put_zero2 (w : World) (D S M : Nat) (s : K.St) (h : DiskAt FF w D S M s) (hdead : s.dead = false) (hn : 8 ≤ s.n) (ar : Nat) (har : ar < 2) (q : Nat) (g o C : Nat) (b : List UInt8) (cs : Array Value) (hb : RowAt w g 5 cs) (hbc : ∀ j, j < b.length → cs[o + j]? = some (.int .u8 (b.getD j 0).toNat)) (hbC : b.length ≤ C) (hroom : q * s.sz + b.length ≤ J.arb s) :
    Calls Tryd.prog 61 #[stv D, .int .i64 (ar : Int), .int .i64 ((q * s.sz : Nat) : Int), .slice (some ⟨g, o, none⟩) b.length C] w fun e w' => (e = .returned (.tuple #[]) ∧
      ∃ k, b.length ≤ k * s.sz ∧ k * s.sz < b.length + s.sz ∧ DiskAt FF w' D S M (J.puts s (2 + ar * J.ars s + q) (fun x => J.pad s.sz ((b.drop (x * s.sz)).take s.sz)) (List.range k)) ∧ (J.puts s (2 + ar * J.ars s + q) (fun x => J.pad s.sz ((b.drop (x * s.sz)).take s.sz)) (List.range k)).dead = false ∧ Mv D S M w w') ∨
      (e = fell 82 ∧ ∃ j, j * s.sz < b.length ∧ (J.puts s (2 + ar * J.ars s + q) (fun x => J.pad s.sz ((b.drop (x * s.sz)).take s.sz)) (List.range j)).can = false ∧ (J.puts s (2 + ar * J.ars s + q) (fun x => J.pad s.sz ((b.drop (x * s.sz)).take s.sz)) (List.range j)).dead = false ∧ DiskAt FF w' D S M (J.puts s (2 + ar * J.ars s + q) (fun x => J.pad s.sz ((b.drop (x * s.sz)).take s.sz)) (List.range j)).spent ∧ Mv D S M w w') := by
  obtain ⟨hb1, hb2, hb3, hb4⟩ := h.bds
  obtain ⟨hD, hS, hM⟩ := h.lts
  have hst : ∀ W, DiskAt FF W D S M s → Calls Tryd.prog 52 #[.agg #[.pointer (some ⟨D, 0, none⟩)], .int .i64 (ar : Int)] W fun e w' => e = .returned (.int .i64 ((2 + ar * J.ars s : Nat) : Int)) ∧ Below W.heap.size W w' := fun W hW => areaStart_any W D S M s hW hn ar har
  have hsi : ∀ W, DiskAt FF W D S M s → Calls Tryd.prog 55 #[.pointer (some ⟨D, 0, none⟩)] W fun e w' => e = .returned (.int .i64 (s.sz : Int)) ∧ w' = W := fun W hW => size_any W D S M s hW
  unfold stv
  have hmx : Tryd.prog.follows .mixedOrders = true := by kernel_rfl
  obtain ⟨P, hP⟩ : ∃ P, P = 2 + ar * J.ars s := ⟨_, rfl⟩
  have hPn : P + J.ars s ≤ s.n := by
    have h1 : ar * J.ars s ≤ 1 * J.ars s := Nat.mul_le_mul_right _ (by omega)
    have h2 : 2 + 2 * J.ars s ≤ s.n := by unfold J.ars; omega
    omega
  have hqa : q ≤ J.ars s := by
    have : q * s.sz ≤ J.ars s * s.sz := by unfold J.arb at hroom; omega
    exact Nat.le_of_mul_le_mul_right this (by omega)
  have hquo : ((q * s.sz : Nat) : Int).tdiv (s.sz : Int) = (q : Int) := by rw [Int.tdiv_eq_ediv_of_nonneg (by omega), ← Int.natCast_ediv, Nat.mul_div_cancel _ (by omega)]
  have hrem : ((q * s.sz : Nat) : Int).tmod (s.sz : Int) = 0 := by rw [Int.tmod_eq_emod_of_nonneg (by omega), ← Int.natCast_emod, Nat.mul_mod_left]; rfl
  have hdw : IntKind.i64.wrap (q : Int) = (q : Int) := by have : J.ars s ≤ 4096 := (by unfold J.ars; omega); rw [IntKind.wrap_i64]; omega
  have hqz : q * s.sz ≤ 4096 * 4096 := Nat.mul_le_mul (by omega) hb2
  rw [← hP] at hst
  have HP := hide hP
  clear hP
  obtain ⟨Z, hZ⟩ : ∃ Z, Z = s.sz := ⟨_, rfl⟩
  rw [← hZ] at hquo hrem hqz hsi hb1 hb2 hroom
  have hq2 : Hid (q * s.sz = q * Z) := by show _ = _; rw [hZ]
  rw [hq2.out]
  obtain ⟨A, hA⟩ : ∃ A, A = q * Z := ⟨_, rfl⟩
  rw [← hA] at hquo hrem hqz hroom ⊢
  clear hq2
  have hz2 : ¬ (Z = 0) := by omega
  have HZ := hide hZ
  have HA := hide hA
  clear hZ hA
  refine (callsIn_wide (n := 6)).1 ?_
  refine calls_of_wpF Tryd.func61 rfl ?_
  simp only [Tryd.ntmps61, List.size_toArray, List.length_cons, List.length_nil, Nat.reduceAdd, Nat.reduceSub, Array.replicate_succ, Array.replicate_zero, List.push_toArray, List.append_toArray, List.nil_append, List.cons_append]
  have R0 : RowAt (w.alloc (.cells #[.pointer (some ⟨D, 0, none⟩)] 65)) w.heap.size 65 #[.pointer (some ⟨D, 0, none⟩)] := RowAt.new w _ _
  have B0 := (Below.refl w.heap.size w).alloc (Nat.le_refl _) (.cells #[.pointer (some ⟨D, 0, none⟩)] 65)
  have D0 := h.below B0 (Nat.le_refl _)
  refine wpF_seq (n := 6) ?_
  gi_wp2
  refine wpF_seq (n := 6) ?_
  gi_wp2_with (refine ⟨trivial, ?_⟩; gi_at_call 55; refine (callsIn_wide.2 (hsi _ D0)).mono ?_; rintro e w' ⟨rfl, rfl⟩)
  have R0a := R0.alloc (.cells #[.int .i64 (Z : Int)] 3)
  have R1a : RowAt ((w.alloc (.cells #[.pointer (some ⟨D, 0, none⟩)] 65)).alloc (.cells #[.int .i64 (Z : Int)] 3)) (w.heap.size + 1) 3 #[.int .i64 (Z : Int)] := by
    have := RowAt.new (w.alloc (.cells #[.pointer (some ⟨D, 0, none⟩)] 65)) 3 #[.int .i64 (Z : Int)]
    rwa [World.size_alloc] at this
  have B1 := B0.alloc (by simp) (.cells #[.int .i64 (Z : Int)] 3)
  clear R0 B0 D0
  generalize (w.alloc (.cells #[.pointer (some ⟨D, 0, none⟩)] 65)).alloc (.cells #[.int .i64 (Z : Int)] 3) = w1 at R0a R1a B1 ⊢
  have x0 : w1.cell? ⟨w.heap.size, 0, none⟩ = some (.pointer (some ⟨D, 0, none⟩)) := R0a.cell 0
  have x1 : w1.cell? ⟨w.heap.size + 1, 0, none⟩ = some (.int .i64 (Z : Int)) := R1a.cell 0
  have D1 := hide (h.below B1 (Nat.le_refl _))
  have F1 : Hid (RowAt w1 w.heap.size 65 #[.pointer (some ⟨D, 0, none⟩)] ∧ RowAt w1 (w.heap.size + 1) 3 #[.int .i64 (Z : Int)] ∧ Below w.heap.size w w1) := ⟨R0a, R1a, B1⟩
  clear R0a R1a B1
  refine wpF_seq (n := 6) ?_
  refine wpIn_wide.2 ?_
  go_region_held3 (fun w' => w'.cell? ⟨w.heap.size, 0, none⟩ = some (.pointer (some ⟨D, 0, none⟩)) ∧ w'.cell? ⟨w.heap.size + 1, 0, none⟩ = some (.int .i64 (Z : Int))) (first | exact ⟨x0, x1⟩ | exact ⟨y0, y1⟩ | exact ⟨(F1.out.1.alloc _).cell 0, (F1.out.2.1.alloc _).cell 0⟩ | exact ⟨(F2.out.1.alloc _).cell 0, (F2.out.2.1.alloc _).cell 0⟩ | exact ⟨(F2.out.1.other _ _ (RN.out.ne F2.out.1 (by decide)).symm).cell 0, (F2.out.2.1.other _ _ (by have := F1.out.2.1.lt; simp; omega)).cell 0⟩ | fail) (first
    | (go_at_call 52; refine (hst _ (by first | exact D1.out | exact D1.out.drewN _ | exact D1.out.alloc _ | exact (D1.out.alloc _).drewN _)).mono ?_; rintro e w2 ⟨rfl, b2⟩; have b2' : Below w1.heap.size w1 w2 := (by first | exact below_rx b2 rfl rfl rfl rfl | exact (((Below.refl w1.heap.size w1).alloc (Nat.le_refl _) _)).trans ((below_rx (w := w1.alloc _) b2 rfl rfl rfl rfl).mono (Nat.le_of_lt (by simp)))); have F2 : Hid (RowAt w2 w.heap.size 65 #[.pointer (some ⟨D, 0, none⟩)] ∧ RowAt w2 (w.heap.size + 1) 3 #[.int .i64 (Z : Int)] ∧ Below w.heap.size w w2) := ⟨F1.out.1.below b2' F1.out.1.lt, F1.out.2.1.below b2' F1.out.2.1.lt, F1.out.2.2.trans (b2'.mono F1.out.2.2.size)⟩; have y0 : w2.cell? ⟨w.heap.size, 0, none⟩ = some (.pointer (some ⟨D, 0, none⟩)) := F2.out.1.cell 0; have y1 : w2.cell? ⟨w.heap.size + 1, 0, none⟩ = some (.int .i64 (Z : Int)) := F2.out.2.1.cell 0; (try (have RN := hide ((RowAt.new w1 3 #[.int .i64 0]).below (below_rx (w := w1.alloc (.cells #[.int .i64 0] 3)) b2 rfl rfl rfl rfl) (by simp)); have n0 : w2.cell? ⟨w1.heap.size, 0, none⟩ = some (.int .i64 0) := RN.out.cell 0; have n1 := RN.out.frozen 0)); clear b2'))
  all_goals (have hPq : IntKind.i64.wrap ((P : Int) + (q : Int)) = ((P + q : Nat) : Int) := by rw [IntKind.wrap_i64]; omega)
  all_goals rw [hPq]
  all_goals (first
    | (have F3 : Hid (RowAt (w2.setCell ⟨w1.heap.size, 0, none⟩ (.int .i64 ((P + q : Nat) : Int))) w.heap.size 65 #[.pointer (some ⟨D, 0, none⟩)] ∧ RowAt (w2.setCell ⟨w1.heap.size, 0, none⟩ (.int .i64 ((P + q : Nat) : Int))) (w.heap.size + 1) 3 #[.int .i64 (Z : Int)] ∧ RowAt (w2.setCell ⟨w1.heap.size, 0, none⟩ (.int .i64 ((P + q : Nat) : Int))) w1.heap.size 3 #[.int .i64 ((P + q : Nat) : Int)] ∧ Below w.heap.size w (w2.setCell ⟨w1.heap.size, 0, none⟩ (.int .i64 ((P + q : Nat) : Int))) ∧ w.heap.size + 1 < w1.heap.size) := ⟨F2.out.1.other _ _ (RN.out.ne F2.out.1 (by decide)).symm, F2.out.2.1.other _ _ (by have := F1.out.2.1.lt; simp; omega), RN.out.set 0 _, F2.out.2.2.setCell F1.out.2.2.size _, F1.out.2.1.lt⟩
       generalize w2.setCell ⟨w1.heap.size, 0, none⟩ (.int .i64 ((P + q : Nat) : Int)) = w3 at F3 ⊢
       clear n0 n1 RN x0 x1 D1 F1
       generalize w1.heap.size = gp at F3 ⊢)
    | (have F3 : Hid (RowAt (w2.alloc (.cells #[.int .i64 ((P + q : Nat) : Int)] 3)) w.heap.size 65 #[.pointer (some ⟨D, 0, none⟩)] ∧ RowAt (w2.alloc (.cells #[.int .i64 ((P + q : Nat) : Int)] 3)) (w.heap.size + 1) 3 #[.int .i64 (Z : Int)] ∧ RowAt (w2.alloc (.cells #[.int .i64 ((P + q : Nat) : Int)] 3)) w2.heap.size 3 #[.int .i64 ((P + q : Nat) : Int)] ∧ Below w.heap.size w (w2.alloc (.cells #[.int .i64 ((P + q : Nat) : Int)] 3)) ∧ w.heap.size + 1 < w2.heap.size) := ⟨F2.out.1.alloc _, F2.out.2.1.alloc _, RowAt.new w2 _ _, F2.out.2.2.alloc F2.out.2.2.size _, F2.out.2.1.lt⟩
       generalize w2.alloc (.cells #[.int .i64 ((P + q : Nat) : Int)] 3) = w3 at F3 ⊢
       generalize w2.heap.size = gp at F3 ⊢))
  all_goals (clear y0 y1 F2; have v1 : w3.cell? ⟨w.heap.size + 1, 0, none⟩ = some (.int .i64 (Z : Int)) := F3.out.2.1.cell 0)
  all_goals (have hZ1 : 0 < Z := by omega)
  all_goals refine wpF_seq (n := 6) ?_
  all_goals gi_wp2
  all_goals refine wpF_seq (n := 6) ?_
  all_goals gi_wp2_with (refine ⟨trivial, ?_⟩; gi_at_call 70; refine (callsIn_wide.2 (chunk_any _ _ _ _ _ hZ1)).mono ?_; rintro e w' ⟨rfl, rfl⟩)
  all_goals (
    have G5 : Hid (RowAt ((w3.alloc (.cells #[.slice (some ⟨g, o, none⟩) b.length C] 22)).alloc (.cells #[.int .i64 (Z : Int)] 3)) w3.heap.size 22 #[.slice (some ⟨g, o, none⟩) b.length C] ∧ RowAt ((w3.alloc (.cells #[.slice (some ⟨g, o, none⟩) b.length C] 22)).alloc (.cells #[.int .i64 (Z : Int)] 3)) (w3.heap.size + 1) 3 #[.int .i64 (Z : Int)] ∧ Below w3.heap.size w3 ((w3.alloc (.cells #[.slice (some ⟨g, o, none⟩) b.length C] 22)).alloc (.cells #[.int .i64 (Z : Int)] 3)) ∧ ((w3.alloc (.cells #[.slice (some ⟨g, o, none⟩) b.length C] 22)).alloc (.cells #[.int .i64 (Z : Int)] 3)).heap.size = w3.heap.size + 2) := by
      refine ⟨(RowAt.new w3 _ _).alloc _, ?_, ((Below.refl _ w3).alloc (Nat.le_refl _) _).alloc (by simp) _, by simp⟩
      have := RowAt.new (w3.alloc (.cells #[.slice (some ⟨g, o, none⟩) b.length C] 22)) 3 #[.int .i64 (Z : Int)]
      rwa [World.size_alloc] at this
    generalize (w3.alloc (.cells #[.slice (some ⟨g, o, none⟩) b.length C] 22)).alloc (.cells #[.int .i64 (Z : Int)] 3) = w5 at G5 ⊢)
  all_goals (
    have hz5 : w.heap.size + 1 < w5.heap.size := by have := G5.out.2.2.2; have := F3.out.2.1.lt; omega
    have hroom2 : ∀ k, k * Z < b.length → P + q + k < s.n := fun k hk => by
      have h1 : (q + k) * Z < J.ars s * Z := by
        rw [Nat.add_mul]
        have e1 : J.arb s = J.ars s * Z := by unfold J.arb; rw [HZ.out]
        have e2 := HA.out
        omega
      have := Nat.lt_of_mul_lt_mul_right h1
      omega
    have own0 : OwnFrom w5.heap.size (fun pre W => PutI w w5.heap.size D S M s Z gp P q g o b cs pre W) := PutI.own (by omega) hM
    have own : OwnFrom w5.heap.size (fun pre W => PutI w w5.heap.size D S M s Z gp P q g o b cs pre W ∧ (J.puts s (P + q) (fun x => J.pad Z ((b.drop (x * Z)).take Z)) pre).dead = false) := own0.and (fun _ _ _ _ h _ _ => h)
    refine wpF_block ?_
    refine wpF_range (n := 5) Tryd.func61 (gf := 77) (lb := #[.pointer (some ⟨w3.heap.size, 0, none⟩), .pointer (some ⟨w3.heap.size + 1, 0, none⟩)]) rfl (enters_of Tryd.func77 (by kernel_rfl) rfl) (encs := chv g o b.length Z) (Kp := KpB w3.heap.size (w3.heap.size + 1)) (S := fun xs => ∃ k, (k * Z < b.length + Z ∧ b.length ≤ k * Z) ∧ xs = List.range k) (ok := fun pre => pre.length * Z < b.length ∧ pre = List.range pre.length) (w0 := w5) ?seq1 (fun h1 h2 => ⟨h2.1.trans h1.1, h2.2.trans h1.2⟩) ?keep1 (Below.refl _ _) (fun _ => rfl)
      (fun pre W => PutI w w5.heap.size D S M s Z gp P q g o b cs pre W ∧ (J.puts s (P + q) (fun x => J.pad Z ((b.drop (x * Z)).take Z)) pre).dead = false)
      (fun ch W => ch = [{ v := .iface 33 (.int .i64 82), recovered := false }] ∧ (∃ j, j * Z < b.length ∧ (J.puts s (P + q) (fun x => J.pad Z ((b.drop (x * Z)).take Z)) (List.range j)).can = false ∧ (J.puts s (P + q) (fun x => J.pad Z ((b.drop (x * Z)).take Z)) (List.range j)).dead = false ∧ DiskAt FF W D S M (J.puts s (P + q) (fun x => J.pad Z ((b.drop (x * Z)).take Z)) (List.range j)).spent) ∧ Mv D S M w W) own ?init1
      (fun x => { tmps := #[.agg #[.pointer (some ⟨D, 0, none⟩)], .int .i64 (ar : Int), .int .i64 (A : Int), .slice (some ⟨g, o, none⟩) b.length C, .pointer (some ⟨w.heap.size, 0, none⟩), undef, undef, undef, .pointer (some ⟨w.heap.size + 1, 0, none⟩), .pointer (some ⟨gp, 0, none⟩), .slice (some ⟨g, o + x * Z, none⟩) (min Z (b.length - x * Z)) (min Z (b.length - x * Z)), undef, .pointer (some ⟨w.heap.size, 0, none⟩), .pointer (some ⟨D, 0, none⟩), .int .i64 (Z : Int), .agg #[.pointer (some ⟨D, 0, none⟩)], .int .i64 (ar : Int), .int .i64 (P : Int), .int .i64 (A : Int), .int .i64 (Z : Int), .int .i64 (q : Int), .int .i64 ((P : Int) + (q : Int)), .int .i64 (A : Int), .int .i64 (Z : Int), .int .i64 0, .bool false, undef, undef, undef, undef, undef, undef, undef, undef, undef, .slice (some ⟨g, o, none⟩) b.length C, .int .i64 (Z : Int), .func (.func 77) #[] #[.pointer (some ⟨w3.heap.size, 0, none⟩), .pointer (some ⟨w3.heap.size + 1, 0, none⟩)], .slice (some ⟨g, o + x * Z, none⟩) (min Z (b.length - x * Z)) (min Z (b.length - x * Z)), undef, undef, undef, undef, undef, undef, undef, undef, undef, undef, undef, undef, undef], defers := [] }) ?assign1 ?body1 ?done1 ?fell1
    case seq1 =>
      intro l Jv Jd W hW hJ hY h0
      refine (chunk1_two l w3.heap.size (w3.heap.size + 1) g o b.length C Z hZ1 hb2 (by have e1 : J.arb s ≤ 4096 * 4096 := (by unfold J.arb; exact Nat.mul_le_mul (by unfold J.ars; omega) (by rw [← HZ.out]; exact hb2)); omega) hbC Jv Jd hJ (fun pre x W1 h1 h2 h3 => hY pre x W1 h1 ⟨h2, h3⟩) W (G5.out.1.below hW G5.out.1.lt) (G5.out.2.1.below hW G5.out.2.1.lt) h0).mono ?_
      rintro e W' (⟨he, k, hk, hj⟩ | h)
      · exact Or.inl ⟨he, _, ⟨k, hk, rfl⟩, hj⟩
      · exact Or.inr h
    case keep1 =>
      intro W l oo oo' hl _ _
      have := G5.out.2.2.2
      exact ⟨World.putObj_heap_other (by omega), World.putObj_heap_other (by omega)⟩
    case init1 =>
      have hb5 : Below w.heap.size w w5 := F3.out.2.2.2.1.trans (G5.out.2.2.1.mono F3.out.2.2.2.1.size)
      have hI0 : PutI w w5.heap.size D S M s Z gp P q g o b cs [] w5 := ⟨F3.out.1.below G5.out.2.2.1 F3.out.1.lt, F3.out.2.1.below G5.out.2.2.1 F3.out.2.1.lt, F3.out.2.2.1.below G5.out.2.2.1 F3.out.2.2.1.lt, h.below hb5 (Nat.le_refl _), hb.below hb5 hb.lt, Mv.of_below hb5, Nat.le_refl _⟩
      exact ⟨hI0, hdead⟩
    case assign1 =>
      intro l x W K hK
      unfold chv
      gi_wp2
      exact hK
    case body1 =>
      rintro l pre x W ⟨hI, hdd⟩ ⟨hk, hpre⟩
      have hpl := hroom2 _ hk
      obtain ⟨pl, hple⟩ : ∃ pl, pl = P + q + pre.length := ⟨_, rfl⟩
      have hpk := puts_same (fun x => J.pad Z ((b.drop (x * Z)).take Z)) pre s (P + q)
      have hrow := hI.pl
      rw [← hple] at hrow hpl
      have HPL := hide hple
      have HI := hide hI
      have HPK := hide hpk
      have x0 : W.cell? ⟨w.heap.size, 0, none⟩ = some (.pointer (some ⟨D, 0, none⟩)) := hI.st.cell 0
      have x1 : W.cell? ⟨w.heap.size + 1, 0, none⟩ = some (.int .i64 (Z : Int)) := hI.sz.cell 0
      have hmk := make_zeros Z (by omega)
      have hcl : ((b.drop (x * Z)).take Z).length = min Z (b.length - x * Z) := by simp
      have hsl : SlL W (some ⟨g, o + x * Z, none⟩) ((b.drop (x * Z)).take Z) := SlL.sub (fun _ => ⟨g, o, rfl, hI.by_.lt, fun j hj => by rw [hI.by_.cell]; exact hbc j hj⟩) (x * Z) Z
      have HSL := hide hsl
      have HCL := hide hcl
      have HRW := hide hrow
      cases hcan : (J.puts s (P + q) (fun x => J.pad Z ((b.drop (x * Z)).take Z)) pre).can
      · have hwr : ∀ W6, DiskAt FF W6 D S M (J.puts s (P + q) (fun x => J.pad Z ((b.drop (x * Z)).take Z)) pre) → Calls Tryd.prog 26 #[.pointer (some ⟨D, 0, none⟩), .int .i64 (pl : Int), .slice (some ⟨W.heap.size, 0, none⟩) Z Z] W6 fun e w' => e = .returned (.int .i64 82) ∧ DiskAt FF w' D S M (J.puts s (P + q) (fun x => J.pad Z ((b.drop (x * Z)).take Z)) pre).spent ∧ Mv D S M W6 w' := fun W6 h6 => by
          exact write_cut W6 D S M _ h6 hdd (pl : Int) (by simp only [HPK.out.2]; simp; omega) (some ⟨W.heap.size, 0, none⟩) Z Z (by rw [HPK.out.1, HZ.out]) hcan
        have hWz : w.heap.size ≤ W.heap.size := hI.mv.size
        have hgpW : gp < W.heap.size := hrow.lt
        have hw7 : IntKind.i64.wrap ((pl : Int) + 1) = ((pl + 1 : Nat) : Int) := by rw [IntKind.wrap_i64]; omega
        generalize hxo : o + x * Z = ox at HSL
        generalize hxm : min Z (b.length - x * Z) = mx at HCL
        have hmZ : mx ≤ Z := by rw [← hxm]; exact Nat.min_le_left _ _
        have HXO := hide hxo
        have HXM := hide hxm
        clear hI hpk hrow hple hsl hcl hst hsi
        dsimp only
        clear HXO HXM hxo hxm
        have hgp1 : w.heap.size + 1 < gp := F3.out.2.2.2.2
        obtain ⟨w6, hrun, R6, b6⟩ := run_copy_pad (W.alloc (.cells (vb (List.replicate Z 0)).toArray 5)) 3 W.heap.size Z (RowAt.new W _ _) ⟨g, ox, none⟩ mx mx _ HCL.out hmZ (HSL.out.alloc _)
        have b6' := ((Below.refl W.heap.size W).alloc (Nat.le_refl _) (.cells (vb (List.replicate Z 0)).toArray 5)).trans b6
        have ST6 := hide (HI.out.st.below b6' HI.out.st.lt)
        have SZ6 := hide (HI.out.sz.below b6' HI.out.sz.lt)
        have PL6 := hide (HRW.out.below b6' HRW.out.lt)
        have DK6 := hide (HI.out.dk.below b6' (Nat.le_refl _))
        have BY6 := hide (HI.out.by_.below b6' HI.out.by_.lt)
        have BB6 := hide b6'
        have S6 := hide (SlU.row R6)
        have y0 : w6.cell? ⟨w.heap.size, 0, none⟩ = some (.pointer (some ⟨D, 0, none⟩)) := ST6.out.cell 0
        have y1 : w6.cell? ⟨gp, 0, none⟩ = some (.int .i64 (pl : Int)) := PL6.out.cell 0
        clear R6 b6 b6'
        gi_wp2_with (first
          | (refine ⟨trivial, ?_⟩; gi_at_call 26; refine (CallsIn.inRound l (callsIn_wide.2 (hwr _ DK6.out))).mono ?_; rintro e w7 ⟨rfl, D7, M7⟩; have DK7 := hide D7; have MM7 := hide M7; clear D7 M7)
          | (refine ⟨trivial, ?_⟩; gi_at_call 53; refine (CallsIn.inRound l (callsIn_wide.2 (must_bad _))).mono ?_; rintro e w' ⟨rfl, hw⟩; rw [hw]; clear hw w'; unfold fell)
          | fail)
        have hgw3 : gp < w3.heap.size := F3.out.2.2.1.lt
        have hn5 := G5.out.2.2.2
        have hWbig := HI.out.big
        have hz67 : w6.heap.size ≤ w7.heap.size := MM7.out.size
        have hz6 : W.heap.size ≤ w6.heap.size := BB6.out.size
        refine ⟨rfl, ⟨by omega, fun k oo hk5 hk1 hk2 => ?_⟩, rfl, ⟨pre.length, hk, by rw [← hpre]; exact hcan, by rw [← hpre]; exact hdd, by rw [← hpre]; exact DK7.out⟩, (HI.out.mv.belowB BB6.out hWz).trans MM7.out (Or.inl rfl)⟩
        have hkW : k < W.heap.size := (Array.getElem?_eq_some_iff.1 hk1).1
        rw [MM7.out.block k (by omega) (by omega) (by omega) (by omega), BB6.out.block k hkW]
        exact hk1

      · have hwr : ∀ W6, DiskAt FF W6 D S M (J.puts s (P + q) (fun x => J.pad Z ((b.drop (x * Z)).take Z)) pre) → SlU W6 (some ⟨W.heap.size, 0, none⟩) (J.pad Z ((b.drop (x * Z)).take Z)) → Calls Tryd.prog 26 #[.pointer (some ⟨D, 0, none⟩), .int .i64 (pl : Int), .slice (some ⟨W.heap.size, 0, none⟩) Z Z] W6 fun e w' => e = .returned (.int .i64 0) ∧ DiskAt FF w' D S M ((J.puts s (P + q) (fun x => J.pad Z ((b.drop (x * Z)).take Z)) pre).put pl (J.pad Z ((b.drop (x * Z)).take Z))) ∧ Mv D S M W6 w' := fun W6 h6 s6 => by
          have e1 : (J.puts s (P + q) (fun x => J.pad Z ((b.drop (x * Z)).take Z)) pre).sz = Z := by rw [HPK.out.1, HZ.out]
          have e2 : (J.pad Z ((b.drop (x * Z)).take Z)).length = Z := J.pad_len _ _ (by rw [hcl]; exact Nat.min_le_left _ _)
          have := write_ok W6 D S M _ h6 hdd pl (by rw [HPK.out.2]; exact hpl) (some ⟨W.heap.size, 0, none⟩) Z _ (by rw [e1]; exact e2) s6 hcan
          rw [e2] at this; exact this
        have hWz : w.heap.size ≤ W.heap.size := hI.mv.size
        have hgpW : gp < W.heap.size := hrow.lt
        have hw7 : IntKind.i64.wrap ((pl : Int) + 1) = ((pl + 1 : Nat) : Int) := by rw [IntKind.wrap_i64]; omega
        generalize hxo : o + x * Z = ox at HSL
        generalize hxm : min Z (b.length - x * Z) = mx at HCL
        have hmZ : mx ≤ Z := by rw [← hxm]; exact Nat.min_le_left _ _
        have HXO := hide hxo
        have HXM := hide hxm
        clear hI hpk hrow hple hsl hcl hst hsi
        dsimp only
        clear HXO HXM hxo hxm
        have hgp1 : w.heap.size + 1 < gp := F3.out.2.2.2.2
        obtain ⟨w6, hrun, R6, b6⟩ := run_copy_pad (W.alloc (.cells (vb (List.replicate Z 0)).toArray 5)) 3 W.heap.size Z (RowAt.new W _ _) ⟨g, ox, none⟩ mx mx _ HCL.out hmZ (HSL.out.alloc _)
        have b6' := ((Below.refl W.heap.size W).alloc (Nat.le_refl _) (.cells (vb (List.replicate Z 0)).toArray 5)).trans b6
        have ST6 := hide (HI.out.st.below b6' HI.out.st.lt)
        have SZ6 := hide (HI.out.sz.below b6' HI.out.sz.lt)
        have PL6 := hide (HRW.out.below b6' HRW.out.lt)
        have DK6 := hide (HI.out.dk.below b6' (Nat.le_refl _))
        have BY6 := hide (HI.out.by_.below b6' HI.out.by_.lt)
        have BB6 := hide b6'
        have S6 := hide (SlU.row R6)
        have y0 : w6.cell? ⟨w.heap.size, 0, none⟩ = some (.pointer (some ⟨D, 0, none⟩)) := ST6.out.cell 0
        have y1 : w6.cell? ⟨gp, 0, none⟩ = some (.int .i64 (pl : Int)) := PL6.out.cell 0
        clear R6 b6 b6'
        gi_wp2_with (first
          | (refine ⟨trivial, ?_⟩; gi_at_call 26; refine (CallsIn.inRound l (callsIn_wide.2 (hwr _ DK6.out S6.out))).mono ?_; rintro e w7 ⟨rfl, D7, M7⟩; have DK7 := hide D7; have MM7 := hide M7; have ST7 := hide (M7.row ST6.out (by omega) (by omega) (by omega)); have SZ7 := hide (M7.row SZ6.out (by omega) (by omega) (by omega)); have PL7 := hide (M7.row PL6.out (by omega) (by omega) (by omega)); have z1 : w7.cell? ⟨gp, 0, none⟩ = some (.int .i64 (pl : Int)) := PL7.out.cell 0; have f1 := PL7.out.frozen 0; clear D7 M7)
          | (refine ⟨trivial, ?_⟩; gi_at_call 53; refine (CallsIn.inRound l (callsIn_wide.2 (must_ok _))).mono ?_; rintro e w' ⟨rfl, hw⟩; rw [hw]; clear hw w')
          | fail)
        have hgw3 : gp < w3.heap.size := F3.out.2.2.1.lt
        have hn5 := G5.out.2.2.2
        have hWbig := HI.out.big
        have hz67 : w6.heap.size ≤ w7.heap.size := MM7.out.size
        have hz6 : W.heap.size ≤ w6.heap.size := BB6.out.size
        have hblk : ∀ k, k < W.heap.size → w.heap.size ≤ k → k ≠ gp → (w7.setCell ⟨gp, 0, none⟩ (.int .i64 ((pl : Int) + 1))).heap[k]? = W.heap[k]? := fun k h1 h2 h3 => by
          rw [heap_setCell_other _ _ _ _ h3, MM7.out.block k (by omega) (by omega) (by omega) (by omega), BB6.out.block k h1]
        have hb8 : Below gp w7 (w7.setCell ⟨gp, 0, none⟩ (.int .i64 ((pl : Int) + 1))) := (Below.refl gp w7).setCell (p := ⟨gp, 0, none⟩) (Nat.le_refl gp) _
        have hk8 : Rows w7 (w7.setCell ⟨gp, 0, none⟩ (.int .i64 ((pl : Int) + 1))) := fun g' c' hg' => hg'.other _ _ (PL7.out.ne hg' (by decide)).symm
        refine ⟨⟨by simp; omega, fun k oo hk5 hk1 hk2 => ?_⟩, ⟨hblk _ (by omega) (by omega) (by omega), hblk _ (by omega) (by omega) (by omega)⟩, ⟨⟨ST7.out.other _ _ (by simp; omega), SZ7.out.other _ _ (by simp; omega), ?_, ?_, ?_, ?_, by simp; omega⟩, ?_⟩⟩
        · have hkW : k < W.heap.size := (Array.getElem?_eq_some_iff.1 hk1).1
          rw [hblk k hkW (by omega) (fun e => ?_)]
          · exact hk1
          · have := HRW.out
            unfold RowAt at this
            rw [e, this] at hk1
            injection hk1 with hk1
            rw [← hk1] at hk2
            cases hk2
        · have h9 := PL7.out.set 0 (.int .i64 ((pl : Int) + 1))
          have e9 : ((P + q + (pre ++ [x]).length : Nat) : Int) = (pl : Int) + 1 := by rw [HPL.out]; simp; omega
          rw [e9]; exact h9
        · rw [J.puts_snoc, ← HPL.out]
          exact DK7.out.keptB hb8 hk8 (by omega) (by omega) (by omega)
        · obtain ⟨sv, uv, hkk⟩ := DK6.out
          exact hk8 _ _ (MM7.out.rows hkk _ _ BY6.out)
        · exact (((HI.out.mv.belowB BB6.out hWz).trans MM7.out (Or.inl rfl)).belowB hb8 (by omega))
        · rw [J.puts_snoc]; exact put_alive hcan hdd _ _

    case done1 =>
      rintro Dd xs W hDd ⟨k, hk, rfl⟩ ⟨hI, hdd⟩ hK
      refine ⟨by simp, .inl ⟨_, _, rfl, run_takeDeferred hK, ?_⟩⟩
      have hI2 : PutI w w5.heap.size D S M s Z gp P q g o b cs (List.range k) (W.putObj Dd (.deferred none)) := own0.putObj _ hI hDd hK rfl
      refine ⟨_, results_none rfl _ _ _, Or.inl ⟨rfl, k, by rw [← HZ.out]; exact hk.2, by rw [← HZ.out]; exact hk.1, ?_, ?_, hI2.mv⟩⟩
      · have := hI2.dk
        rw [HP.out] at this
        rw [← HZ.out]
        exact this
      · rw [HP.out] at hdd
        rw [← HZ.out]
        exact hdd
    case fell1 =>
      rintro Dd ch W hDd ⟨rfl, ⟨j, hj1, hj2, hj3, hj4⟩, hmv⟩ hK
      refine ⟨by simp, .inl ⟨_, _, rfl, run_takeDeferred hK, ?_⟩⟩
      obtain ⟨hd2, hm2⟩ := (dm_own (N := w5.heap.size) (D := D) (S := S) (M := M) (w := w) (by omega) hM (J.puts s (P + q) (fun x => J.pad Z ((b.drop (x * Z)).take Z)) (List.range j)).spent).putObj (.deferred none) (s := ()) ⟨hj4, hmv⟩ hDd hK rfl
      rw [HP.out] at hj2 hj3 hd2
      rw [← HZ.out]
      exact Or.inr ⟨rfl, j, hj1, hj2, hj3, hd2, hm2⟩)
end Go.Proofs.YtidocfajhhpfdaaDoor

/- put, behind a part of a sector, where the power may fail. -/
namespace Go.Proofs.YtidocfajhhpfdaaDoor
open Go.RowKit Go.Shelf
attribute [local go_sem] Oper.semAt_some
set_option maxRecDepth 100000 in
set_option maxHeartbeats 4000000 in
theorem put_mid2 (w : World) (D S M : Nat) (s : K.St) (h : DiskAt FF w D S M s) (hdead : s.dead = false) (hn : 8 ≤ s.n) (ar : Nat) (har : ar < 2) (q r : Nat) (hr0 : 0 < r) (hrz : r < s.sz) (g0 o0 C0 : Nat) (b0 : List UInt8) (cs0 : Array Value) (hb0 : RowAt w g0 5 cs0) (hbc0 : ∀ j, j < b0.length → cs0[o0 + j]? = some (.int .u8 (b0.getD j 0).toNat)) (hroom : q * s.sz + r + b0.length ≤ J.arb s) (b : List UInt8) (hbe : b = (s.rd (2 + ar * J.ars s + q)).take r ++ b0) :
    Calls Tryd.prog 61 #[stv D, .int .i64 (ar : Int), .int .i64 ((q * s.sz + r : Nat) : Int), .slice (some ⟨g0, o0, none⟩) b0.length C0] w fun e w' => (e = .returned (.tuple #[]) ∧
      ∃ k, b.length ≤ k * s.sz ∧ k * s.sz < b.length + s.sz ∧ DiskAt FF w' D S M (J.puts s (2 + ar * J.ars s + q) (fun x => J.pad s.sz ((b.drop (x * s.sz)).take s.sz)) (List.range k)) ∧ (J.puts s (2 + ar * J.ars s + q) (fun x => J.pad s.sz ((b.drop (x * s.sz)).take s.sz)) (List.range k)).dead = false ∧ Mv D S M w w') ∨
      (e = fell 82 ∧ ∃ j, j * s.sz < b.length ∧ (J.puts s (2 + ar * J.ars s + q) (fun x => J.pad s.sz ((b.drop (x * s.sz)).take s.sz)) (List.range j)).can = false ∧ (J.puts s (2 + ar * J.ars s + q) (fun x => J.pad s.sz ((b.drop (x * s.sz)).take s.sz)) (List.range j)).dead = false ∧ DiskAt FF w' D S M (J.puts s (2 + ar * J.ars s + q) (fun x => J.pad s.sz ((b.drop (x * s.sz)).take s.sz)) (List.range j)).spent ∧ Mv D S M w w') := by
  obtain ⟨hb1, hb2, hb3, hb4⟩ := h.bds
  obtain ⟨hD, hS, hM⟩ := h.lts
  have hst : ∀ W, DiskAt FF W D S M s → Calls Tryd.prog 52 #[.agg #[.pointer (some ⟨D, 0, none⟩)], .int .i64 (ar : Int)] W fun e w' => e = .returned (.int .i64 ((2 + ar * J.ars s : Nat) : Int)) ∧ Below W.heap.size W w' := fun W hW => areaStart_any W D S M s hW hn ar har
  have hsi : ∀ W, DiskAt FF W D S M s → Calls Tryd.prog 55 #[.pointer (some ⟨D, 0, none⟩)] W fun e w' => e = .returned (.int .i64 (s.sz : Int)) ∧ w' = W := fun W hW => size_any W D S M s hW
  unfold stv
  have hmx : Tryd.prog.follows .mixedOrders = true := by kernel_rfl
  obtain ⟨P, hP⟩ : ∃ P, P = 2 + ar * J.ars s := ⟨_, rfl⟩
  have hPn : P + J.ars s ≤ s.n := by
    have h1 : ar * J.ars s ≤ 1 * J.ars s := Nat.mul_le_mul_right _ (by omega)
    have h2 : 2 + 2 * J.ars s ≤ s.n := by unfold J.ars; omega
    omega
  have hqa : q ≤ J.ars s := by
    have : q * s.sz ≤ J.ars s * s.sz := by unfold J.arb at hroom; omega
    exact Nat.le_of_mul_le_mul_right this (by omega)
  have hqa1 : q < J.ars s := by
    have : q * s.sz < J.ars s * s.sz := by unfold J.arb at hroom; omega
    exact Nat.lt_of_mul_lt_mul_right this
  have hrdl := h.rdlen (P + q) (by omega)
  have hblen : b.length = r + b0.length := by rw [hbe, ← hP]; simp; omega
  have hrd : ∀ W, DiskAt FF W D S M s → Calls Tryd.prog 45 #[.agg #[.pointer (some ⟨D, 0, none⟩)], .int .i64 ((P + q : Nat) : Int)] W fun e w' =>
    ∃ g, e = .returned (.slice (some ⟨g, 0, none⟩) s.sz s.sz) ∧ W.heap.size ≤ g ∧ RowAt w' g 5 (vb (s.rd (P + q))).toArray ∧ Below W.heap.size W w' := fun W hW => sread_ok W D S M s hW hdead (P + q) (by omega)
  have hquo : ((q * s.sz + r : Nat) : Int).tdiv (s.sz : Int) = (q : Int) := by rw [Int.tdiv_eq_ediv_of_nonneg (by omega), ← Int.natCast_ediv, Nat.mul_comm, Nat.mul_add_div (by omega), Nat.div_eq_of_lt hrz]; rfl
  have hrem : ((q * s.sz + r : Nat) : Int).tmod (s.sz : Int) = (r : Int) := by rw [Int.tmod_eq_emod_of_nonneg (by omega), ← Int.natCast_emod, Nat.mul_comm, Nat.mul_add_mod, Nat.mod_eq_of_lt hrz]
  rw [← hP] at hbe
  have HAB : Hid (J.arb s ≤ 4096 * 4096) := by
    show _ ≤ _
    unfold J.arb
    exact Nat.mul_le_mul (by unfold J.ars; omega) hb2
  have HBE := hide hbe
  have HBL := hide hblen
  have HRDL := hide hrdl
  have hdw : IntKind.i64.wrap (q : Int) = (q : Int) := by have : J.ars s ≤ 4096 := (by unfold J.ars; omega); rw [IntKind.wrap_i64]; omega
  have hqz : q * s.sz + r ≤ 4096 * 4096 + 4096 := Nat.add_le_add (Nat.mul_le_mul (by omega) hb2) (by omega)
  clear hbe hrdl hblen
  rw [← hP] at hst
  have HP := hide hP
  clear hP
  obtain ⟨Z, hZ⟩ : ∃ Z, Z = s.sz := ⟨_, rfl⟩
  rw [← hZ] at hquo hrem hqz hsi hb1 hb2 hroom hrz hrd HRDL
  have hq2 : Hid (q * s.sz + r = q * Z + r) := by show _ = _; rw [hZ]
  rw [hq2.out]
  obtain ⟨A, hA⟩ : ∃ A, A = q * Z + r := ⟨_, rfl⟩
  rw [← hA] at hquo hrem hqz hroom ⊢
  clear hq2
  have hz2 : ¬ (Z = 0) := by omega
  have HZ := hide hZ
  have HA := hide hA
  clear hZ hA
  refine (callsIn_wide (n := 6)).1 ?_
  refine calls_of_wpF Tryd.func61 rfl ?_
  simp only [Tryd.ntmps61, List.size_toArray, List.length_cons, List.length_nil, Nat.reduceAdd, Nat.reduceSub, Array.replicate_succ, Array.replicate_zero, List.push_toArray, List.append_toArray, List.nil_append, List.cons_append]
  have R0 : RowAt (w.alloc (.cells #[.pointer (some ⟨D, 0, none⟩)] 65)) w.heap.size 65 #[.pointer (some ⟨D, 0, none⟩)] := RowAt.new w _ _
  have B0 := (Below.refl w.heap.size w).alloc (Nat.le_refl _) (.cells #[.pointer (some ⟨D, 0, none⟩)] 65)
  have D0 := h.below B0 (Nat.le_refl _)
  refine wpF_seq (n := 6) ?_
  gi_wp2
  refine wpF_seq (n := 6) ?_
  gi_wp2_with (refine ⟨trivial, ?_⟩; gi_at_call 55; refine (callsIn_wide.2 (hsi _ D0)).mono ?_; rintro e w' ⟨rfl, rfl⟩)
  have R0a := R0.alloc (.cells #[.int .i64 (Z : Int)] 3)
  have R1a : RowAt ((w.alloc (.cells #[.pointer (some ⟨D, 0, none⟩)] 65)).alloc (.cells #[.int .i64 (Z : Int)] 3)) (w.heap.size + 1) 3 #[.int .i64 (Z : Int)] := by
    have := RowAt.new (w.alloc (.cells #[.pointer (some ⟨D, 0, none⟩)] 65)) 3 #[.int .i64 (Z : Int)]
    rwa [World.size_alloc] at this
  have B1 := B0.alloc (by simp) (.cells #[.int .i64 (Z : Int)] 3)
  clear R0 B0 D0
  generalize (w.alloc (.cells #[.pointer (some ⟨D, 0, none⟩)] 65)).alloc (.cells #[.int .i64 (Z : Int)] 3) = w1 at R0a R1a B1 ⊢
  have x0 : w1.cell? ⟨w.heap.size, 0, none⟩ = some (.pointer (some ⟨D, 0, none⟩)) := R0a.cell 0
  have x1 : w1.cell? ⟨w.heap.size + 1, 0, none⟩ = some (.int .i64 (Z : Int)) := R1a.cell 0
  have D1 := hide (h.below B1 (Nat.le_refl _))
  have F1 : Hid (RowAt w1 w.heap.size 65 #[.pointer (some ⟨D, 0, none⟩)] ∧ RowAt w1 (w.heap.size + 1) 3 #[.int .i64 (Z : Int)] ∧ Below w.heap.size w w1) := ⟨R0a, R1a, B1⟩
  clear R0a R1a B1
  refine wpF_seq (n := 6) ?_
  refine wpIn_wide.2 ?_
  go_region_held3 (fun w' => w'.cell? ⟨w.heap.size, 0, none⟩ = some (.pointer (some ⟨D, 0, none⟩)) ∧ w'.cell? ⟨w.heap.size + 1, 0, none⟩ = some (.int .i64 (Z : Int))) (first | exact ⟨x0, x1⟩ | exact ⟨y0, y1⟩ | exact ⟨(F1.out.1.alloc _).cell 0, (F1.out.2.1.alloc _).cell 0⟩ | exact ⟨(F2.out.1.alloc _).cell 0, (F2.out.2.1.alloc _).cell 0⟩ | exact ⟨(F2.out.1.other _ _ (RN.out.ne F2.out.1 (by decide)).symm).cell 0, (F2.out.2.1.other _ _ (by have := F1.out.2.1.lt; simp; omega)).cell 0⟩ | fail) (first
    | (go_at_call 52; refine (hst _ (by first | exact D1.out | exact D1.out.drewN _ | exact D1.out.alloc _ | exact (D1.out.alloc _).drewN _)).mono ?_; rintro e w2 ⟨rfl, b2⟩; have b2' : Below w1.heap.size w1 w2 := (by first | exact below_rx b2 rfl rfl rfl rfl | exact (((Below.refl w1.heap.size w1).alloc (Nat.le_refl _) _)).trans ((below_rx (w := w1.alloc _) b2 rfl rfl rfl rfl).mono (Nat.le_of_lt (by simp)))); have F2 : Hid (RowAt w2 w.heap.size 65 #[.pointer (some ⟨D, 0, none⟩)] ∧ RowAt w2 (w.heap.size + 1) 3 #[.int .i64 (Z : Int)] ∧ Below w.heap.size w w2) := ⟨F1.out.1.below b2' F1.out.1.lt, F1.out.2.1.below b2' F1.out.2.1.lt, F1.out.2.2.trans (b2'.mono F1.out.2.2.size)⟩; have y0 : w2.cell? ⟨w.heap.size, 0, none⟩ = some (.pointer (some ⟨D, 0, none⟩)) := F2.out.1.cell 0; have y1 : w2.cell? ⟨w.heap.size + 1, 0, none⟩ = some (.int .i64 (Z : Int)) := F2.out.2.1.cell 0; (try (have RN := hide ((RowAt.new w1 3 #[.int .i64 0]).below (below_rx (w := w1.alloc (.cells #[.int .i64 0] 3)) b2 rfl rfl rfl rfl) (by simp)); have n0 : w2.cell? ⟨w1.heap.size, 0, none⟩ = some (.int .i64 0) := RN.out.cell 0; have n1 := RN.out.frozen 0)); clear b2'))
  all_goals (have hPq : IntKind.i64.wrap ((P : Int) + (q : Int)) = ((P + q : Nat) : Int) := by rw [IntKind.wrap_i64]; omega)
  all_goals rw [hPq]
  all_goals (first
    | (have F3 : Hid (RowAt (w2.setCell ⟨w1.heap.size, 0, none⟩ (.int .i64 ((P + q : Nat) : Int))) w.heap.size 65 #[.pointer (some ⟨D, 0, none⟩)] ∧ RowAt (w2.setCell ⟨w1.heap.size, 0, none⟩ (.int .i64 ((P + q : Nat) : Int))) (w.heap.size + 1) 3 #[.int .i64 (Z : Int)] ∧ RowAt (w2.setCell ⟨w1.heap.size, 0, none⟩ (.int .i64 ((P + q : Nat) : Int))) w1.heap.size 3 #[.int .i64 ((P + q : Nat) : Int)] ∧ Below w.heap.size w (w2.setCell ⟨w1.heap.size, 0, none⟩ (.int .i64 ((P + q : Nat) : Int))) ∧ w.heap.size + 1 < w1.heap.size) := ⟨F2.out.1.other _ _ (RN.out.ne F2.out.1 (by decide)).symm, F2.out.2.1.other _ _ (by have := F1.out.2.1.lt; simp; omega), RN.out.set 0 _, F2.out.2.2.setCell F1.out.2.2.size _, F1.out.2.1.lt⟩
       generalize w2.setCell ⟨w1.heap.size, 0, none⟩ (.int .i64 ((P + q : Nat) : Int)) = w3 at F3 ⊢
       clear n0 n1 RN x0 x1 D1 F1
       generalize w1.heap.size = gp at F3 ⊢)
    | (have F3 : Hid (RowAt (w2.alloc (.cells #[.int .i64 ((P + q : Nat) : Int)] 3)) w.heap.size 65 #[.pointer (some ⟨D, 0, none⟩)] ∧ RowAt (w2.alloc (.cells #[.int .i64 ((P + q : Nat) : Int)] 3)) (w.heap.size + 1) 3 #[.int .i64 (Z : Int)] ∧ RowAt (w2.alloc (.cells #[.int .i64 ((P + q : Nat) : Int)] 3)) w2.heap.size 3 #[.int .i64 ((P + q : Nat) : Int)] ∧ Below w.heap.size w (w2.alloc (.cells #[.int .i64 ((P + q : Nat) : Int)] 3)) ∧ w.heap.size + 1 < w2.heap.size) := ⟨F2.out.1.alloc _, F2.out.2.1.alloc _, RowAt.new w2 _ _, F2.out.2.2.alloc F2.out.2.2.size _, F2.out.2.1.lt⟩
       generalize w2.alloc (.cells #[.int .i64 ((P + q : Nat) : Int)] 3) = w3 at F3 ⊢
       generalize w2.heap.size = gp at F3 ⊢))
  all_goals (clear y0 y1 F2; have v0 : w3.cell? ⟨w.heap.size, 0, none⟩ = some (.pointer (some ⟨D, 0, none⟩)) := F3.out.1.cell 0; have v1 : w3.cell? ⟨w.heap.size + 1, 0, none⟩ = some (.int .i64 (Z : Int)) := F3.out.2.1.cell 0; have v2 : w3.cell? ⟨gp, 0, none⟩ = some (.int .i64 ((P + q : Nat) : Int)) := F3.out.2.2.1.cell 0)
  all_goals (have hZ1 : 0 < Z := by omega)
  all_goals (have D3 := hide (h.below F3.out.2.2.2.1 (Nat.le_refl _)))
  all_goals refine wpF_seq (n := 6) ?_
  all_goals gi_wp2
  all_goals refine wpIn_wide.2 ?_
  all_goals go_region_held3 (fun w' => w'.cell? ⟨w.heap.size, 0, none⟩ = some (.pointer (some ⟨D, 0, none⟩)) ∧ w'.cell? ⟨w.heap.size + 1, 0, none⟩ = some (.int .i64 (Z : Int)) ∧ w'.cell? ⟨gp, 0, none⟩ = some (.int .i64 ((P + q : Nat) : Int))) (first | exact ⟨v0, v1, v2⟩ | exact ⟨u0, u1, u2⟩ | exact ⟨s0, s1, s2⟩ | fail) (first
    | (go_at_call 45; refine (hrd _ (by first | exact D3.out | exact D3.out.drewN _)).mono ?_; rintro e w4 ⟨g2, rfl, hg2, R2, b2⟩; have b2' : Below w3.heap.size w3 w4 := below_rx b2 rfl rfl rfl rfl; have F4 : Hid (RowAt w4 w.heap.size 65 #[.pointer (some ⟨D, 0, none⟩)] ∧ RowAt w4 (w.heap.size + 1) 3 #[.int .i64 (Z : Int)] ∧ RowAt w4 gp 3 #[.int .i64 ((P + q : Nat) : Int)] ∧ Below w.heap.size w w4 ∧ w.heap.size + 1 < gp) := ⟨F3.out.1.below b2' F3.out.1.lt, F3.out.2.1.below b2' F3.out.2.1.lt, F3.out.2.2.1.below b2' F3.out.2.2.1.lt, F3.out.2.2.2.1.trans (b2'.mono F3.out.2.2.2.1.size), F3.out.2.2.2.2⟩; have O4 := hide (own_cut w3.heap.size R2 HRDL.out hg2 (Nat.le_of_lt hrz) (by omega)); have S4 : Hid (SlL w4 (some ⟨g0, o0, none⟩) b0) := (fun _ => ⟨g0, o0, rfl, (hb0.below F4.out.2.2.2.1 hb0.lt).lt, fun j hj => by rw [(hb0.below F4.out.2.2.2.1 hb0.lt).cell]; exact hbc0 j hj⟩); have z4 : w3.heap.size ≤ w4.heap.size := b2'.size; have s4 := sl_pre g2 0 Z Z r (Nat.le_of_lt hrz); have u0 : w4.cell? ⟨w.heap.size, 0, none⟩ = some (.pointer (some ⟨D, 0, none⟩)) := F4.out.1.cell 0; have u1 : w4.cell? ⟨w.heap.size + 1, 0, none⟩ = some (.int .i64 (Z : Int)) := F4.out.2.1.cell 0; have u2 : w4.cell? ⟨gp, 0, none⟩ = some (.int .i64 ((P + q : Nat) : Int)) := F4.out.2.2.1.cell 0; clear b2' b2 R2 hg2)
    | (refine step_append_B rfl (.tmp 32) (.tmp 33) rfl w3.heap.size (.slice (some ⟨g2, 0, none⟩) r Z) ((s.rd (P + q)).take r) (by simp [Act.eval]) (by exact O4.out) ⟨g0, o0, none⟩ b0.length C0 b0 (by simp [Act.eval]) rfl (by exact S4.out) (by have := HRDL.out; have := HAB.out; simp; omega) (by exact z4) ?_; intro v5 w5 hO5 hG5; have b5' := grown_below O4.out hG5 (Below.refl w3.heap.size _) z4; have b5 : Below w3.heap.size w4 w5 := below_rx b5' rfl rfl rfl rfl; have hO6 : OwnB w5 w3.heap.size v5 b := (by rw [HBE.out]; exact hO5); obtain ⟨g, o, C, cs, rfl, hg5, hbC, hb, hbc⟩ := hO6.row (by have := HBL.out; omega); have HBB : Hid (b.length ≤ C ∧ RowAt w5 g 5 cs ∧ ∀ j, j < b.length → cs[o + j]? = some (.int .u8 (b.getD j 0).toNat)) := ⟨hbC, hb, hbc⟩; have FA : Hid (RowAt w5 w.heap.size 65 #[.pointer (some ⟨D, 0, none⟩)] ∧ RowAt w5 (w.heap.size + 1) 3 #[.int .i64 (Z : Int)] ∧ RowAt w5 gp 3 #[.int .i64 ((P + q : Nat) : Int)] ∧ Below w.heap.size w w5 ∧ w.heap.size + 1 < gp) := ⟨F4.out.1.below b5 F3.out.1.lt, F4.out.2.1.below b5 F3.out.2.1.lt, F4.out.2.2.1.below b5 F3.out.2.2.1.lt, F4.out.2.2.2.1.trans (b5.mono F3.out.2.2.2.1.size), F3.out.2.2.2.2⟩; have s0 : w5.cell? ⟨w.heap.size, 0, none⟩ = some (.pointer (some ⟨D, 0, none⟩)) := FA.out.1.cell 0; have s1 : w5.cell? ⟨w.heap.size + 1, 0, none⟩ = some (.int .i64 (Z : Int)) := FA.out.2.1.cell 0; have s2 : w5.cell? ⟨gp, 0, none⟩ = some (.int .i64 ((P + q : Nat) : Int)) := FA.out.2.2.1.cell 0; clear hO5 hG5 b5' b5 hO6 hg5 hbC hb hbc)
    | fail)
  all_goals (clear v0 v1 v2 u0 u1 u2 s0 s2 s4 D3 F4 O4 S4 z4)
  all_goals (generalize w5 = wA at FA HBB s1 ⊢; have hzA : True := trivial)
  all_goals refine wpF_seq (n := 6) ?_
  all_goals gi_wp2_with (refine ⟨trivial, ?_⟩; gi_at_call 70; refine (callsIn_wide.2 (chunk_any _ _ _ _ _ hZ1)).mono ?_; rintro e w' ⟨rfl, rfl⟩)
  all_goals (
    have G5 : Hid (RowAt ((wA.alloc (.cells #[.slice (some ⟨g, o, none⟩) b.length C] 22)).alloc (.cells #[.int .i64 (Z : Int)] 3)) wA.heap.size 22 #[.slice (some ⟨g, o, none⟩) b.length C] ∧ RowAt ((wA.alloc (.cells #[.slice (some ⟨g, o, none⟩) b.length C] 22)).alloc (.cells #[.int .i64 (Z : Int)] 3)) (wA.heap.size + 1) 3 #[.int .i64 (Z : Int)] ∧ Below wA.heap.size wA ((wA.alloc (.cells #[.slice (some ⟨g, o, none⟩) b.length C] 22)).alloc (.cells #[.int .i64 (Z : Int)] 3)) ∧ ((wA.alloc (.cells #[.slice (some ⟨g, o, none⟩) b.length C] 22)).alloc (.cells #[.int .i64 (Z : Int)] 3)).heap.size = wA.heap.size + 2) := by
      refine ⟨(RowAt.new wA _ _).alloc _, ?_, ((Below.refl _ wA).alloc (Nat.le_refl _) _).alloc (by simp) _, by simp⟩
      have := RowAt.new (wA.alloc (.cells #[.slice (some ⟨g, o, none⟩) b.length C] 22)) 3 #[.int .i64 (Z : Int)]
      rwa [World.size_alloc] at this
    generalize (wA.alloc (.cells #[.slice (some ⟨g, o, none⟩) b.length C] 22)).alloc (.cells #[.int .i64 (Z : Int)] 3) = wB at G5 ⊢)
  all_goals (
    have hz5 : w.heap.size + 1 < wB.heap.size := by have := G5.out.2.2.2; have := FA.out.2.1.lt; omega
    have hroom2 : ∀ k, k * Z < b.length → P + q + k < s.n := fun k hk => by
      have h1 : (q + k) * Z < J.ars s * Z := by
        rw [Nat.add_mul]
        have e1 : J.arb s = J.ars s * Z := by unfold J.arb; rw [HZ.out]
        have e2 := HA.out
        have e3 := HBL.out
        omega
      have := Nat.lt_of_mul_lt_mul_right h1
      omega
    have own0 : OwnFrom wB.heap.size (fun pre W => PutI w wB.heap.size D S M s Z gp P q g o b cs pre W) := PutI.own (by omega) hM
    have own : OwnFrom wB.heap.size (fun pre W => PutI w wB.heap.size D S M s Z gp P q g o b cs pre W ∧ (J.puts s (P + q) (fun x => J.pad Z ((b.drop (x * Z)).take Z)) pre).dead = false) := own0.and (fun _ _ _ _ h _ _ => h)
    refine wpF_block ?_
    refine wpF_range (n := 5) Tryd.func61 (gf := 77) (lb := #[.pointer (some ⟨wA.heap.size, 0, none⟩), .pointer (some ⟨wA.heap.size + 1, 0, none⟩)]) rfl (enters_of Tryd.func77 (by kernel_rfl) rfl) (encs := chv g o b.length Z) (Kp := KpB wA.heap.size (wA.heap.size + 1)) (S := fun xs => ∃ k, (k * Z < b.length + Z ∧ b.length ≤ k * Z) ∧ xs = List.range k) (ok := fun pre => pre.length * Z < b.length ∧ pre = List.range pre.length) (w0 := wB) ?seq1 (fun h1 h2 => ⟨h2.1.trans h1.1, h2.2.trans h1.2⟩) ?keep1 (Below.refl _ _) (fun _ => rfl)
      (fun pre W => PutI w wB.heap.size D S M s Z gp P q g o b cs pre W ∧ (J.puts s (P + q) (fun x => J.pad Z ((b.drop (x * Z)).take Z)) pre).dead = false)
      (fun ch W => ch = [{ v := .iface 33 (.int .i64 82), recovered := false }] ∧ (∃ j, j * Z < b.length ∧ (J.puts s (P + q) (fun x => J.pad Z ((b.drop (x * Z)).take Z)) (List.range j)).can = false ∧ (J.puts s (P + q) (fun x => J.pad Z ((b.drop (x * Z)).take Z)) (List.range j)).dead = false ∧ DiskAt FF W D S M (J.puts s (P + q) (fun x => J.pad Z ((b.drop (x * Z)).take Z)) (List.range j)).spent) ∧ Mv D S M w W) own ?init1
      (fun x => { tmps := #[.agg #[.pointer (some ⟨D, 0, none⟩)], .int .i64 (ar : Int), .int .i64 (A : Int), .slice (some ⟨g, o, none⟩) b.length C, .pointer (some ⟨w.heap.size, 0, none⟩), undef, undef, undef, .pointer (some ⟨w.heap.size + 1, 0, none⟩), .pointer (some ⟨gp, 0, none⟩), .slice (some ⟨g, o + x * Z, none⟩) (min Z (b.length - x * Z)) (min Z (b.length - x * Z)), undef, .pointer (some ⟨w.heap.size, 0, none⟩), .pointer (some ⟨D, 0, none⟩), .int .i64 (Z : Int), .agg #[.pointer (some ⟨D, 0, none⟩)], .int .i64 (ar : Int), .int .i64 (P : Int), .int .i64 (A : Int), .int .i64 (Z : Int), .int .i64 (q : Int), .int .i64 ((P : Int) + (q : Int)), .int .i64 (A : Int), .int .i64 (Z : Int), .int .i64 (r : Int), .bool true, .agg #[.pointer (some ⟨D, 0, none⟩)], .int .i64 ((P + q : Nat) : Int), .slice (some ⟨g2, 0, none⟩) Z Z, .int .i64 (A : Int), .int .i64 (Z : Int), .int .i64 (r : Int), .slice (some ⟨g2, 0, none⟩) r Z, .slice (some ⟨g0, o0, none⟩) b0.length C0, .slice (some ⟨g, o, none⟩) b.length C, .slice (some ⟨g, o, none⟩) b.length C, .int .i64 (Z : Int), .func (.func 77) #[] #[.pointer (some ⟨wA.heap.size, 0, none⟩), .pointer (some ⟨wA.heap.size + 1, 0, none⟩)], .slice (some ⟨g, o + x * Z, none⟩) (min Z (b.length - x * Z)) (min Z (b.length - x * Z)), undef, undef, undef, undef, undef, undef, undef, undef, undef, undef, undef, undef, undef], defers := [] }) ?assign1 ?body1 ?done1 ?fell1
    case seq1 =>
      intro l Jv Jd W hW hJ hY h0
      refine (chunk1_two l wA.heap.size (wA.heap.size + 1) g o b.length C Z hZ1 hb2 (by have e1 : J.arb s ≤ 4096 * 4096 := (by unfold J.arb; exact Nat.mul_le_mul (by unfold J.ars; omega) (by rw [← HZ.out]; exact hb2)); have e3 := HBL.out; omega) HBB.out.1 Jv Jd hJ (fun pre x W1 h1 h2 h3 => hY pre x W1 h1 ⟨h2, h3⟩) W (G5.out.1.below hW G5.out.1.lt) (G5.out.2.1.below hW G5.out.2.1.lt) h0).mono ?_
      rintro e W' (⟨he, k, hk, hj⟩ | h)
      · exact Or.inl ⟨he, _, ⟨k, hk, rfl⟩, hj⟩
      · exact Or.inr h
    case keep1 =>
      intro W l oo oo' hl _ _
      have := G5.out.2.2.2
      exact ⟨World.putObj_heap_other (by omega), World.putObj_heap_other (by omega)⟩
    case init1 =>
      have hb5 : Below w.heap.size w wB := FA.out.2.2.2.1.trans (G5.out.2.2.1.mono FA.out.2.2.2.1.size)
      have hI0 : PutI w wB.heap.size D S M s Z gp P q g o b cs [] wB := ⟨FA.out.1.below G5.out.2.2.1 FA.out.1.lt, FA.out.2.1.below G5.out.2.2.1 FA.out.2.1.lt, FA.out.2.2.1.below G5.out.2.2.1 FA.out.2.2.1.lt, h.below hb5 (Nat.le_refl _), HBB.out.2.1.below G5.out.2.2.1 HBB.out.2.1.lt, Mv.of_below hb5, Nat.le_refl _⟩
      exact ⟨hI0, hdead⟩
    case assign1 =>
      intro l x W K hK
      unfold chv
      gi_wp2
      exact hK
    case body1 =>
      rintro l pre x W ⟨hI, hdd⟩ ⟨hk, hpre⟩
      have hpl := hroom2 _ hk
      obtain ⟨pl, hple⟩ : ∃ pl, pl = P + q + pre.length := ⟨_, rfl⟩
      have hpk := puts_same (fun x => J.pad Z ((b.drop (x * Z)).take Z)) pre s (P + q)
      have hrow := hI.pl
      rw [← hple] at hrow hpl
      have HPL := hide hple
      have HI := hide hI
      have HPK := hide hpk
      have x0 : W.cell? ⟨w.heap.size, 0, none⟩ = some (.pointer (some ⟨D, 0, none⟩)) := hI.st.cell 0
      have x1 : W.cell? ⟨w.heap.size + 1, 0, none⟩ = some (.int .i64 (Z : Int)) := hI.sz.cell 0
      have hmk := make_zeros Z (by omega)
      have hcl : ((b.drop (x * Z)).take Z).length = min Z (b.length - x * Z) := by simp
      have hsl : SlL W (some ⟨g, o + x * Z, none⟩) ((b.drop (x * Z)).take Z) := SlL.sub (fun _ => ⟨g, o, rfl, hI.by_.lt, fun j hj => by rw [hI.by_.cell]; exact HBB.out.2.2 j hj⟩) (x * Z) Z
      have HSL := hide hsl
      have HCL := hide hcl
      have HRW := hide hrow
      cases hcan : (J.puts s (P + q) (fun x => J.pad Z ((b.drop (x * Z)).take Z)) pre).can
      · have hwr : ∀ W6, DiskAt FF W6 D S M (J.puts s (P + q) (fun x => J.pad Z ((b.drop (x * Z)).take Z)) pre) → Calls Tryd.prog 26 #[.pointer (some ⟨D, 0, none⟩), .int .i64 (pl : Int), .slice (some ⟨W.heap.size, 0, none⟩) Z Z] W6 fun e w' => e = .returned (.int .i64 82) ∧ DiskAt FF w' D S M (J.puts s (P + q) (fun x => J.pad Z ((b.drop (x * Z)).take Z)) pre).spent ∧ Mv D S M W6 w' := fun W6 h6 => by
          exact write_cut W6 D S M _ h6 hdd (pl : Int) (by simp only [HPK.out.2]; simp; omega) (some ⟨W.heap.size, 0, none⟩) Z Z (by rw [HPK.out.1, HZ.out]) hcan
        have hWz : w.heap.size ≤ W.heap.size := hI.mv.size
        have hgpW : gp < W.heap.size := hrow.lt
        have hw7 : IntKind.i64.wrap ((pl : Int) + 1) = ((pl + 1 : Nat) : Int) := by rw [IntKind.wrap_i64]; omega
        generalize hxo : o + x * Z = ox at HSL
        generalize hxm : min Z (b.length - x * Z) = mx at HCL
        have hmZ : mx ≤ Z := by rw [← hxm]; exact Nat.min_le_left _ _
        have HXO := hide hxo
        have HXM := hide hxm
        clear hI hpk hrow hple hsl hcl hst hsi hrd
        dsimp only
        clear HXO HXM hxo hxm
        have hgp1 : w.heap.size + 1 < gp := FA.out.2.2.2.2
        obtain ⟨w6, hrun, R6, b6⟩ := run_copy_pad (W.alloc (.cells (vb (List.replicate Z 0)).toArray 5)) 3 W.heap.size Z (RowAt.new W _ _) ⟨g, ox, none⟩ mx mx _ HCL.out hmZ (HSL.out.alloc _)
        have b6' := ((Below.refl W.heap.size W).alloc (Nat.le_refl _) (.cells (vb (List.replicate Z 0)).toArray 5)).trans b6
        have ST6 := hide (HI.out.st.below b6' HI.out.st.lt)
        have SZ6 := hide (HI.out.sz.below b6' HI.out.sz.lt)
        have PL6 := hide (HRW.out.below b6' HRW.out.lt)
        have DK6 := hide (HI.out.dk.below b6' (Nat.le_refl _))
        have BY6 := hide (HI.out.by_.below b6' HI.out.by_.lt)
        have BB6 := hide b6'
        have S6 := hide (SlU.row R6)
        have y0 : w6.cell? ⟨w.heap.size, 0, none⟩ = some (.pointer (some ⟨D, 0, none⟩)) := ST6.out.cell 0
        have y1 : w6.cell? ⟨gp, 0, none⟩ = some (.int .i64 (pl : Int)) := PL6.out.cell 0
        clear R6 b6 b6'
        gi_wp2_with (first
          | (refine ⟨trivial, ?_⟩; gi_at_call 26; refine (CallsIn.inRound l (callsIn_wide.2 (hwr _ DK6.out))).mono ?_; rintro e w7 ⟨rfl, D7, M7⟩; have DK7 := hide D7; have MM7 := hide M7; clear D7 M7)
          | (refine ⟨trivial, ?_⟩; gi_at_call 53; refine (CallsIn.inRound l (callsIn_wide.2 (must_bad _))).mono ?_; rintro e w' ⟨rfl, hw⟩; rw [hw]; clear hw w'; unfold fell)
          | fail)
        have hgw3 : gp < wA.heap.size := FA.out.2.2.1.lt
        have hn5 := G5.out.2.2.2
        have hWbig := HI.out.big
        have hz67 : w6.heap.size ≤ w7.heap.size := MM7.out.size
        have hz6 : W.heap.size ≤ w6.heap.size := BB6.out.size
        refine ⟨rfl, ⟨by omega, fun k oo hk5 hk1 hk2 => ?_⟩, rfl, ⟨pre.length, hk, by rw [← hpre]; exact hcan, by rw [← hpre]; exact hdd, by rw [← hpre]; exact DK7.out⟩, (HI.out.mv.belowB BB6.out hWz).trans MM7.out (Or.inl rfl)⟩
        have hkW : k < W.heap.size := (Array.getElem?_eq_some_iff.1 hk1).1
        rw [MM7.out.block k (by omega) (by omega) (by omega) (by omega), BB6.out.block k hkW]
        exact hk1

      · have hwr : ∀ W6, DiskAt FF W6 D S M (J.puts s (P + q) (fun x => J.pad Z ((b.drop (x * Z)).take Z)) pre) → SlU W6 (some ⟨W.heap.size, 0, none⟩) (J.pad Z ((b.drop (x * Z)).take Z)) → Calls Tryd.prog 26 #[.pointer (some ⟨D, 0, none⟩), .int .i64 (pl : Int), .slice (some ⟨W.heap.size, 0, none⟩) Z Z] W6 fun e w' => e = .returned (.int .i64 0) ∧ DiskAt FF w' D S M ((J.puts s (P + q) (fun x => J.pad Z ((b.drop (x * Z)).take Z)) pre).put pl (J.pad Z ((b.drop (x * Z)).take Z))) ∧ Mv D S M W6 w' := fun W6 h6 s6 => by
          have e1 : (J.puts s (P + q) (fun x => J.pad Z ((b.drop (x * Z)).take Z)) pre).sz = Z := by rw [HPK.out.1, HZ.out]
          have e2 : (J.pad Z ((b.drop (x * Z)).take Z)).length = Z := J.pad_len _ _ (by rw [hcl]; exact Nat.min_le_left _ _)
          have := write_ok W6 D S M _ h6 hdd pl (by rw [HPK.out.2]; exact hpl) (some ⟨W.heap.size, 0, none⟩) Z _ (by rw [e1]; exact e2) s6 hcan
          rw [e2] at this; exact this
        have hWz : w.heap.size ≤ W.heap.size := hI.mv.size
        have hgpW : gp < W.heap.size := hrow.lt
        have hw7 : IntKind.i64.wrap ((pl : Int) + 1) = ((pl + 1 : Nat) : Int) := by rw [IntKind.wrap_i64]; omega
        generalize hxo : o + x * Z = ox at HSL
        generalize hxm : min Z (b.length - x * Z) = mx at HCL
        have hmZ : mx ≤ Z := by rw [← hxm]; exact Nat.min_le_left _ _
        have HXO := hide hxo
        have HXM := hide hxm
        clear hI hpk hrow hple hsl hcl hst hsi hrd
        dsimp only
        clear HXO HXM hxo hxm
        have hgp1 : w.heap.size + 1 < gp := FA.out.2.2.2.2
        obtain ⟨w6, hrun, R6, b6⟩ := run_copy_pad (W.alloc (.cells (vb (List.replicate Z 0)).toArray 5)) 3 W.heap.size Z (RowAt.new W _ _) ⟨g, ox, none⟩ mx mx _ HCL.out hmZ (HSL.out.alloc _)
        have b6' := ((Below.refl W.heap.size W).alloc (Nat.le_refl _) (.cells (vb (List.replicate Z 0)).toArray 5)).trans b6
        have ST6 := hide (HI.out.st.below b6' HI.out.st.lt)
        have SZ6 := hide (HI.out.sz.below b6' HI.out.sz.lt)
        have PL6 := hide (HRW.out.below b6' HRW.out.lt)
        have DK6 := hide (HI.out.dk.below b6' (Nat.le_refl _))
        have BY6 := hide (HI.out.by_.below b6' HI.out.by_.lt)
        have BB6 := hide b6'
        have S6 := hide (SlU.row R6)
        have y0 : w6.cell? ⟨w.heap.size, 0, none⟩ = some (.pointer (some ⟨D, 0, none⟩)) := ST6.out.cell 0
        have y1 : w6.cell? ⟨gp, 0, none⟩ = some (.int .i64 (pl : Int)) := PL6.out.cell 0
        clear R6 b6 b6'
        gi_wp2_with (first
          | (refine ⟨trivial, ?_⟩; gi_at_call 26; refine (CallsIn.inRound l (callsIn_wide.2 (hwr _ DK6.out S6.out))).mono ?_; rintro e w7 ⟨rfl, D7, M7⟩; have DK7 := hide D7; have MM7 := hide M7; have ST7 := hide (M7.row ST6.out (by omega) (by omega) (by omega)); have SZ7 := hide (M7.row SZ6.out (by omega) (by omega) (by omega)); have PL7 := hide (M7.row PL6.out (by omega) (by omega) (by omega)); have z1 : w7.cell? ⟨gp, 0, none⟩ = some (.int .i64 (pl : Int)) := PL7.out.cell 0; have f1 := PL7.out.frozen 0; clear D7 M7)
          | (refine ⟨trivial, ?_⟩; gi_at_call 53; refine (CallsIn.inRound l (callsIn_wide.2 (must_ok _))).mono ?_; rintro e w' ⟨rfl, hw⟩; rw [hw]; clear hw w')
          | fail)
        have hgw3 : gp < wA.heap.size := FA.out.2.2.1.lt
        have hn5 := G5.out.2.2.2
        have hWbig := HI.out.big
        have hz67 : w6.heap.size ≤ w7.heap.size := MM7.out.size
        have hz6 : W.heap.size ≤ w6.heap.size := BB6.out.size
        have hblk : ∀ k, k < W.heap.size → w.heap.size ≤ k → k ≠ gp → (w7.setCell ⟨gp, 0, none⟩ (.int .i64 ((pl : Int) + 1))).heap[k]? = W.heap[k]? := fun k h1 h2 h3 => by
          rw [heap_setCell_other _ _ _ _ h3, MM7.out.block k (by omega) (by omega) (by omega) (by omega), BB6.out.block k h1]
        have hb8 : Below gp w7 (w7.setCell ⟨gp, 0, none⟩ (.int .i64 ((pl : Int) + 1))) := (Below.refl gp w7).setCell (p := ⟨gp, 0, none⟩) (Nat.le_refl gp) _
        have hk8 : Rows w7 (w7.setCell ⟨gp, 0, none⟩ (.int .i64 ((pl : Int) + 1))) := fun g' c' hg' => hg'.other _ _ (PL7.out.ne hg' (by decide)).symm
        refine ⟨⟨by simp; omega, fun k oo hk5 hk1 hk2 => ?_⟩, ⟨hblk _ (by omega) (by omega) (by omega), hblk _ (by omega) (by omega) (by omega)⟩, ⟨⟨ST7.out.other _ _ (by simp; omega), SZ7.out.other _ _ (by simp; omega), ?_, ?_, ?_, ?_, by simp; omega⟩, ?_⟩⟩
        · have hkW : k < W.heap.size := (Array.getElem?_eq_some_iff.1 hk1).1
          rw [hblk k hkW (by omega) (fun e => ?_)]
          · exact hk1
          · have := HRW.out
            unfold RowAt at this
            rw [e, this] at hk1
            injection hk1 with hk1
            rw [← hk1] at hk2
            cases hk2
        · have h9 := PL7.out.set 0 (.int .i64 ((pl : Int) + 1))
          have e9 : ((P + q + (pre ++ [x]).length : Nat) : Int) = (pl : Int) + 1 := by rw [HPL.out]; simp; omega
          rw [e9]; exact h9
        · rw [J.puts_snoc, ← HPL.out]
          exact DK7.out.keptB hb8 hk8 (by omega) (by omega) (by omega)
        · obtain ⟨sv, uv, hkk⟩ := DK6.out
          exact hk8 _ _ (MM7.out.rows hkk _ _ BY6.out)
        · exact (((HI.out.mv.belowB BB6.out hWz).trans MM7.out (Or.inl rfl)).belowB hb8 (by omega))
        · rw [J.puts_snoc]; exact put_alive hcan hdd _ _

    case done1 =>
      rintro Dd xs W hDd ⟨k, hk, rfl⟩ ⟨hI, hdd⟩ hK
      refine ⟨by simp, .inl ⟨_, _, rfl, run_takeDeferred hK, ?_⟩⟩
      have hI2 : PutI w wB.heap.size D S M s Z gp P q g o b cs (List.range k) (W.putObj Dd (.deferred none)) := own0.putObj _ hI hDd hK rfl
      refine ⟨_, results_none rfl _ _ _, Or.inl ⟨rfl, k, by rw [← HZ.out]; exact hk.2, by rw [← HZ.out]; exact hk.1, ?_, ?_, hI2.mv⟩⟩
      · have := hI2.dk
        rw [HP.out] at this
        rw [← HZ.out]
        exact this
      · rw [HP.out] at hdd
        rw [← HZ.out]
        exact hdd
    case fell1 =>
      rintro Dd ch W hDd ⟨rfl, ⟨j, hj1, hj2, hj3, hj4⟩, hmv⟩ hK
      refine ⟨by simp, .inl ⟨_, _, rfl, run_takeDeferred hK, ?_⟩⟩
      obtain ⟨hd2, hm2⟩ := (dm_own (N := wB.heap.size) (D := D) (S := S) (M := M) (w := w) (by omega) hM (J.puts s (P + q) (fun x => J.pad Z ((b.drop (x * Z)).take Z)) (List.range j)).spent).putObj (.deferred none) (s := ()) ⟨hj4, hmv⟩ hDd hK rfl
      rw [HP.out] at hj2 hj3 hd2
      rw [← HZ.out]
      exact Or.inr ⟨rfl, j, hj1, hj2, hj3, hd2, hm2⟩)
end Go.Proofs.YtidocfajhhpfdaaDoor
