/- put, where it begins at a sector's begin. -/
import Derived.Test.YtidocfajhhpfdaaDoorJck
import Derived.Test.YtidocfajhhpfdaaDoorJnw
namespace Go.Proofs.YtidocfajhhpfdaaDoor
open Go.RowKit Go.Shelf
attribute [local go_sem] Oper.semAt_some
namespace J
/- a sector's bytes: l, and noughts -/
def pad (Z : Nat) (l : List UInt8) : List UInt8 := l ++ List.replicate (Z - l.length) 0
set_option maxRecDepth 5000 in
theorem pad_len (Z : Nat) (l : List UInt8) (h : l.length ≤ Z) : (pad Z l).length = Z := by simp [pad]; omega
/- pieces of f written one behind another, from place p on -/
def puts (s : K.St) (p : Nat) (f : Nat → List UInt8) (xs : List Nat) : K.St := (xs.foldl (fun (t : K.St × Nat) x => (t.1.put t.2 (f x), t.2 + 1)) (s, p)).1
set_option maxRecDepth 5000 in
theorem puts_at (s : K.St) (p : Nat) (f : Nat → List UInt8) : ∀ xs : List Nat, xs.foldl (fun (t : K.St × Nat) x => (t.1.put t.2 (f x), t.2 + 1)) (s, p) = (puts s p f xs, p + xs.length) := by
  intro xs
  apply Prod.ext
  · rfl
  · show (xs.foldl _ (s, p)).2 = _
    suffices h : ∀ (xs : List Nat) (t : K.St × Nat), (xs.foldl (fun (t : K.St × Nat) x => (t.1.put t.2 (f x), t.2 + 1)) t).2 = t.2 + xs.length from h xs (s, p)
    intro xs
    induction xs with
    | nil => intro t; rfl
    | cons x xs ih => intro t; rw [List.foldl_cons, ih]; simp; omega
set_option maxRecDepth 5000 in
theorem puts_snoc (s : K.St) (p : Nat) (f : Nat → List UInt8) (xs : List Nat) (x : Nat) : puts s p f (xs ++ [x]) = (puts s p f xs).put (p + xs.length) (f x) := by
  show (((xs ++ [x]).foldl _ (s, p))).1 = _
  rw [List.foldl_append, puts_at s p f xs]; rfl
end J
set_option maxRecDepth 5000 in
theorem put_pw {s : K.St} (h : Pw s) (i : Nat) (l : List UInt8) : Pw (s.put i l) := by
  unfold K.St.put; rw [h.spent]; exact h
set_option maxRecDepth 5000 in
theorem put_sz {s : K.St} (h : Pw s) (i : Nat) (l : List UInt8) : (s.put i l).sz = s.sz := by unfold K.St.put; rw [h.spent]
set_option maxRecDepth 5000 in
theorem put_n {s : K.St} (h : Pw s) (i : Nat) (l : List UInt8) : (s.put i l).n = s.n := by unfold K.St.put; rw [h.spent]
set_option maxRecDepth 5000 in
theorem puts_keep (f : Nat → List UInt8) : ∀ (xs : List Nat) {s : K.St} (_ : Pw s) (p : Nat), Pw (J.puts s p f xs) ∧ (J.puts s p f xs).sz = s.sz ∧ (J.puts s p f xs).n = s.n
  | [], _, h, _ => ⟨h, rfl, rfl⟩
  | x :: xs, s, h, p => by
    have e : J.puts s p f (x :: xs) = J.puts (s.put p (f x)) (p + 1) f xs := rfl
    rw [e]
    obtain ⟨h1, h2, h3⟩ := puts_keep f xs (put_pw h p (f x)) (p + 1)
    exact ⟨h1, by rw [h2, put_sz h], by rw [h3, put_n h]⟩
set_option maxRecDepth 5000 in
theorem below_rx {B : Nat} {w W w' : World} (h : Below B W w') (e1 : W.os = w.os) (e2 : W.tape = w.tape) (e3 : W.output = w.output) (e4 : W.heap = w.heap) : Below B w w' := ⟨h.os.trans e1, h.tape.trans e2, h.output.trans e3, by rw [← e4]; exact h.size, fun g hg => by rw [← e4]; exact h.block g hg⟩
set_option maxRecDepth 5000 in
theorem run_quo (A Z q : Nat) (h0 : 0 < Z) (h1 : A / Z = q) (h2 : q ≤ 1000000000) (W : World) : (binOp .quo 3 (.int .i64 (A : Int)) (.int .i64 (Z : Int))).run Tryd.prog W = .ok (.int .i64 (q : Int)) W := by
  have hz2 : ¬ (Z = 0) := by omega
  have hd1 : (A : Int).tdiv (Z : Int) = (q : Int) := by rw [Int.tdiv_eq_ediv_of_nonneg (by omega), ← Int.natCast_ediv, h1]
  have hdw : IntKind.i64.wrap (q : Int) = (q : Int) := by rw [IntKind.wrap_i64]; omega
  simp [binOp, go_sem, hz2, hd1, hdw]
set_option maxRecDepth 5000 in
theorem run_rem (A Z r : Nat) (h0 : 0 < Z) (h1 : A % Z = r) (W : World) : (binOp .rem 3 (.int .i64 (A : Int)) (.int .i64 (Z : Int))).run Tryd.prog W = .ok (.int .i64 (r : Int)) W := by
  have hz2 : ¬ (Z = 0) := by omega
  have hd1 : (A : Int).tmod (Z : Int) = (r : Int) := by rw [Int.tmod_eq_emod_of_nonneg (by omega), ← Int.natCast_emod, h1]
  simp [binOp, go_sem, hz2, hd1]
set_option maxRecDepth 5000 in
theorem run_copy_pad (W : World) (ty : TypeId) (g Z : Nat) (hr : RowAt W g 5 (vb (List.replicate Z 0)).toArray) (ad : Addr) (m c : Nat) (l : List UInt8) (hm : l.length = m) (hmZ : m ≤ Z) (hs : SlL W (some ad) l) :
    ∃ w', (Builtin.copy_ #[22, 22] ty #[.slice (some ⟨g, 0, none⟩) Z Z, .slice (some ad) m c]).run Tryd.prog W = .ok (goInt m) w' ∧ RowAt w' g 5 (vb (J.pad Z l)).toArray ∧ Below g W w' := by
  have hrun := run_copy_row (P := Tryd.prog) W 22 22 ty 5 g 0 Z Z ad m c _ 5 (vb l) Tryd.underlying22 size5 hr (by rw [vb_len, hm]; exact (Nat.min_eq_left hmZ).symm) (fun j u hu => by
    have hj : j < l.length := by have := (List.getElem?_eq_some_iff.1 hu).1; rwa [vb_len] at this
    obtain ⟨b, o', e, _, hc⟩ := hs (by omega)
    cases e
    rw [Addr.add_mid, hc j hj, ← vb_get l j hj, hu]) (by simp [vb]; omega) (vb_one l)
  rw [vb_len, hm] at hrun
  refine ⟨_, hrun, ?_, below_setRow (Below.refl _ _) (Nat.le_refl _) _⟩
  have e : ((vb (List.replicate Z 0)).toArray.toList.take 0 ++ vb l ++ (vb (List.replicate Z 0)).toArray.toList.drop (0 + m)).toArray = (vb (J.pad Z l)).toArray := by
    congr 1
    rw [J.pad, vb_app, hm]
    simp [vb]
  rw [e]
  exact setRow_same hr _
set_option maxRecDepth 5000 in
theorem wpListIn_copy_pad {F : Fence} {n : Nat} (W : World) {ops : Array Oper} {rest : List Oper} {o : Oper} {a : Act} {Q : Exit → Act → World → Prop} (hg : o.guard = none) (d s : Operand)
    (hop : o.op = .call { callee := .builtin .copy, args := #[d, s], argTypes := #[22, 22] }) (g Z : Nat) (hd : a.eval d = .slice (some ⟨g, 0, none⟩) Z Z) (hr : RowAt W g 5 (vb (List.replicate Z 0)).toArray) (ad : Addr) (m c : Nat) (hs : a.eval s = .slice (some ad) m c) (l : List UInt8) (hm : l.length = m) (hmZ : m ≤ Z) (hsl : SlL W (some ad) l)
    (hK : ∀ w', RowAt w' g 5 (vb (J.pad Z l)).toArray → Below g W w' → wpListIn F n Tryd.prog ops Q rest (a.put o.dst (goInt m)) w') : wpListIn F n Tryd.prog ops Q (o :: rest) a W := by
  refine wpListIn_plain hg fun K hK' => ?_
  obtain ⟨w', hrun, r1, r2⟩ := run_copy_pad W o.type g Z hr ad m c l hm hmZ hsl
  unfold Oper.wpIn
  refine ⟨?_, ?_⟩
  · simp [Oper.about, hop, resolve, Target.leads, Sem.run_pure]
  · rw [Oper.semAt_plain F _ _ (by rw [hop]; intro c hc'; cases hc')]
    simp [execOp, hop, resolve, invoke, builtin, hd, hs, hrun, Result.andThen]
    exact hK' _ _ (hK w' r1 r2)
/- what is known between two rounds -/
structure PutI (w : World) (n5 D S M : Nat) (s : K.St) (Z gp P q g o : Nat) (b : List UInt8) (cs : Array Value) (pre : List Nat) (W : World) : Prop where
  st : RowAt W w.heap.size 65 #[.pointer (some ⟨D, 0, none⟩)]
  sz : RowAt W (w.heap.size + 1) 3 #[.int .i64 (Z : Int)]
  pl : RowAt W gp 3 #[.int .i64 ((P + q + pre.length : Nat) : Int)]
  dk : DiskAt FF W D S M (J.puts s (P + q) (fun x => J.pad Z ((b.drop (x * Z)).take Z)) pre)
  by_ : RowAt W g 5 cs
  mv : Mv D S M w W
  big : n5 ≤ W.heap.size
set_option maxRecDepth 5000 in
theorem row_own {A B : World} {row : Option Nat} {N g : Nat} {t : TypeId} {c : Array Value} (h : RowAt A g t c) (hg : A.grownBy B row) (hr : ∀ r, row = some r → N ≤ r ∧ ∃ o : Obj, A.heap[r]? = some o ∧ o.isCells = false) : RowAt B g t c := by
  have e : B.heap[g]? = A.heap[g]? := hg.block g h.lt (fun e => by
    obtain ⟨_, o, h1, h2⟩ := hr g e.symm
    unfold RowAt at h
    rw [h] at h1
    injection h1 with h1
    rw [← h1] at h2
    cases h2)
  exact e.trans h
set_option maxRecDepth 5000 in
theorem PutI.own {w : World} {n5 D S M N : Nat} {s : K.St} {Z gp P q g o : Nat} {b : List UInt8} {cs : Array Value} (hN : w.heap.size ≤ N) (hM : M < w.heap.size) : OwnFrom N (fun pre W => PutI w n5 D S M s Z gp P q g o b cs pre W) := by
  intro pre A B row hI hg hr
  refine ⟨row_own hI.st hg hr, row_own hI.sz hg hr, row_own hI.pl hg hr, ?_, row_own hI.by_ hg hr, ?_, Nat.le_trans hI.big hg.size⟩
  · obtain ⟨sv, uv, hk⟩ := hI.dk
    exact ⟨sv, uv, hk.keepA hg.size ((row_own hk.row hg hr).trans hk.row.symm) ((row_own hk.sure hg hr).trans hk.sure.symm) (hg.block M hk.un.lt (fun e => by have := (hr M e.symm).1; omega)) (fun g c _ hc => row_own hc hg hr)⟩
  · refine ⟨hg.os.trans hI.mv.os, hg.tape.trans hI.mv.tape, hg.output.trans hI.mv.output, Nat.le_trans hI.mv.size hg.size, fun k hk h1 h2 h3 => ?_⟩
    rw [hg.block k (Nat.lt_of_lt_of_le hk hI.mv.size) (fun e => by have := (hr k e.symm).1; omega)]
    exact hI.mv.block k hk h1 h2 h3
set_option maxRecDepth 100000 in
set_option maxHeartbeats 4000000 in
theorem put_zero (w : World) (D S M : Nat) (s : K.St) (h : DiskAt FF w D S M s) (hp : Pw s) (hn : 8 ≤ s.n) (ar : Nat) (har : ar < 2) (q : Nat) (g o C : Nat) (b : List UInt8) (cs : Array Value) (hb : RowAt w g 5 cs) (hbc : ∀ j, j < b.length → cs[o + j]? = some (.int .u8 (b.getD j 0).toNat)) (hbC : b.length ≤ C) (hroom : q * s.sz + b.length ≤ J.arb s) :
    Calls Tryd.prog 61 #[stv D, .int .i64 (ar : Int), .int .i64 ((q * s.sz : Nat) : Int), .slice (some ⟨g, o, none⟩) b.length C] w fun e w' => e = .returned (.tuple #[]) ∧
      ∃ k, b.length ≤ k * s.sz ∧ k * s.sz < b.length + s.sz ∧ DiskAt FF w' D S M (J.puts s (2 + ar * J.ars s + q) (fun x => J.pad s.sz ((b.drop (x * s.sz)).take s.sz)) (List.range k)) ∧ Mv D S M w w' := by
  obtain ⟨hb1, hb2, hb3, hb4⟩ := h.bds
  obtain ⟨hD, hS, hM⟩ := h.lts
  have hst : ∀ W, DiskAt FF W D S M s → Calls Tryd.prog 52 #[.agg #[.pointer (some ⟨D, 0, none⟩)], .int .i64 (ar : Int)] W fun e w' => e = .returned (.int .i64 ((2 + ar * J.ars s : Nat) : Int)) ∧ Below W.heap.size W w' := fun W hW => areaStart_any W D S M s hW hn ar har
  have hsi : ∀ W, DiskAt FF W D S M s → Calls Tryd.prog 55 #[.pointer (some ⟨D, 0, none⟩)] W fun e w' => e = .returned (.int .i64 (s.sz : Int)) ∧ w' = W := fun W hW => size_any W D S M s hW
  unfold stv
  have hmx : Tryd.prog.follows .mixedOrders = true := by kernel_rfl
  obtain ⟨P, hP⟩ : ∃ P, P = 2 + ar * J.ars s := ⟨_, rfl⟩
  have hPn : P + J.ars s ≤ s.n := by
    have h1 : ar * J.ars s ≤ 1 * J.ars s := Nat.mul_le_mul_right _ (by omega)
    have h2 : 2 + 2 * J.ars s ≤ s.n := by unfold J.ars; omega
    omega
  have hqa : q ≤ J.ars s := by
    have : q * s.sz ≤ J.ars s * s.sz := by unfold J.arb at hroom; omega
    exact Nat.le_of_mul_le_mul_right this (by omega)
  have hquo : ((q * s.sz : Nat) : Int).tdiv (s.sz : Int) = (q : Int) := by rw [Int.tdiv_eq_ediv_of_nonneg (by omega), ← Int.natCast_ediv, Nat.mul_div_cancel _ (by omega)]
  have hrem : ((q * s.sz : Nat) : Int).tmod (s.sz : Int) = 0 := by rw [Int.tmod_eq_emod_of_nonneg (by omega), ← Int.natCast_emod, Nat.mul_mod_left]; rfl
  have hdw : IntKind.i64.wrap (q : Int) = (q : Int) := by have : J.ars s ≤ 4096 := (by unfold J.ars; omega); rw [IntKind.wrap_i64]; omega
  have hqz : q * s.sz ≤ 4096 * 4096 := Nat.mul_le_mul (by omega) hb2
  rw [← hP] at hst
  have HP := hide hP
  clear hP
  obtain ⟨Z, hZ⟩ : ∃ Z, Z = s.sz := ⟨_, rfl⟩
  rw [← hZ] at hquo hrem hqz hsi hb1 hb2 hroom
  have hq2 : Hid (q * s.sz = q * Z) := by show _ = _; rw [hZ]
  rw [hq2.out]
  obtain ⟨A, hA⟩ : ∃ A, A = q * Z := ⟨_, rfl⟩
  rw [← hA] at hquo hrem hqz hroom ⊢
  clear hq2
  have hz2 : ¬ (Z = 0) := by omega
  have HZ := hide hZ
  have HA := hide hA
  clear hZ hA
  refine (callsIn_wide (n := 6)).1 ?_
  refine callsIn_of_wp_marks Tryd.func61 rfl trivial ?_ rfl
  simp only [Tryd.ntmps61, List.size_toArray, List.length_cons, List.length_nil, Nat.reduceAdd, Nat.reduceSub, Array.replicate_succ, Array.replicate_zero, List.push_toArray, List.append_toArray, List.nil_append, List.cons_append]
  have R0 : RowAt (w.alloc (.cells #[.pointer (some ⟨D, 0, none⟩)] 65)) w.heap.size 65 #[.pointer (some ⟨D, 0, none⟩)] := RowAt.new w _ _
  have B0 := (Below.refl w.heap.size w).alloc (Nat.le_refl _) (.cells #[.pointer (some ⟨D, 0, none⟩)] 65)
  have D0 := h.below B0 (Nat.le_refl _)
  gi_wp2_with (refine ⟨trivial, ?_⟩; gi_at_call 55; refine (callsIn_wide.2 (hsi _ D0)).mono ?_; rintro e w' ⟨rfl, rfl⟩)
  have R0a := R0.alloc (.cells #[.int .i64 (Z : Int)] 3)
  have R1a : RowAt ((w.alloc (.cells #[.pointer (some ⟨D, 0, none⟩)] 65)).alloc (.cells #[.int .i64 (Z : Int)] 3)) (w.heap.size + 1) 3 #[.int .i64 (Z : Int)] := by
    have := RowAt.new (w.alloc (.cells #[.pointer (some ⟨D, 0, none⟩)] 65)) 3 #[.int .i64 (Z : Int)]
    rwa [World.size_alloc] at this
  have B1 := B0.alloc (by simp) (.cells #[.int .i64 (Z : Int)] 3)
  clear R0 B0 D0
  generalize (w.alloc (.cells #[.pointer (some ⟨D, 0, none⟩)] 65)).alloc (.cells #[.int .i64 (Z : Int)] 3) = w1 at R0a R1a B1 ⊢
  have x0 : w1.cell? ⟨w.heap.size, 0, none⟩ = some (.pointer (some ⟨D, 0, none⟩)) := R0a.cell 0
  have x1 : w1.cell? ⟨w.heap.size + 1, 0, none⟩ = some (.int .i64 (Z : Int)) := R1a.cell 0
  have D1 := hide (h.below B1 (Nat.le_refl _))
  have F1 : Hid (RowAt w1 w.heap.size 65 #[.pointer (some ⟨D, 0, none⟩)] ∧ RowAt w1 (w.heap.size + 1) 3 #[.int .i64 (Z : Int)] ∧ Below w.heap.size w w1) := ⟨R0a, R1a, B1⟩
  clear R0a R1a B1
  refine wpIn_wide.2 ?_
  go_region_held3 (fun w' => w'.cell? ⟨w.heap.size, 0, none⟩ = some (.pointer (some ⟨D, 0, none⟩)) ∧ w'.cell? ⟨w.heap.size + 1, 0, none⟩ = some (.int .i64 (Z : Int))) (first | exact ⟨x0, x1⟩ | exact ⟨y0, y1⟩ | exact ⟨(F1.out.1.alloc _).cell 0, (F1.out.2.1.alloc _).cell 0⟩ | exact ⟨(F2.out.1.alloc _).cell 0, (F2.out.2.1.alloc _).cell 0⟩ | exact ⟨(F2.out.1.other _ _ (RN.out.ne F2.out.1 (by decide)).symm).cell 0, (F2.out.2.1.other _ _ (by have := F1.out.2.1.lt; simp; omega)).cell 0⟩ | fail) (first
    | (go_at_call 52; refine (hst _ (by first | exact D1.out | exact D1.out.drewN _ | exact D1.out.alloc _ | exact (D1.out.alloc _).drewN _)).mono ?_; rintro e w2 ⟨rfl, b2⟩; have b2' : Below w1.heap.size w1 w2 := (by first | exact below_rx b2 rfl rfl rfl rfl | exact (((Below.refl w1.heap.size w1).alloc (Nat.le_refl _) _)).trans ((below_rx (w := w1.alloc _) b2 rfl rfl rfl rfl).mono (Nat.le_of_lt (by simp)))); have F2 : Hid (RowAt w2 w.heap.size 65 #[.pointer (some ⟨D, 0, none⟩)] ∧ RowAt w2 (w.heap.size + 1) 3 #[.int .i64 (Z : Int)] ∧ Below w.heap.size w w2) := ⟨F1.out.1.below b2' F1.out.1.lt, F1.out.2.1.below b2' F1.out.2.1.lt, F1.out.2.2.trans (b2'.mono F1.out.2.2.size)⟩; have y0 : w2.cell? ⟨w.heap.size, 0, none⟩ = some (.pointer (some ⟨D, 0, none⟩)) := F2.out.1.cell 0; have y1 : w2.cell? ⟨w.heap.size + 1, 0, none⟩ = some (.int .i64 (Z : Int)) := F2.out.2.1.cell 0; (try (have RN := hide ((RowAt.new w1 3 #[.int .i64 0]).below (below_rx (w := w1.alloc (.cells #[.int .i64 0] 3)) b2 rfl rfl rfl rfl) (by simp)); have n0 : w2.cell? ⟨w1.heap.size, 0, none⟩ = some (.int .i64 0) := RN.out.cell 0; have n1 := RN.out.frozen 0)); clear b2'))
  all_goals (have hPq : IntKind.i64.wrap ((P : Int) + (q : Int)) = ((P + q : Nat) : Int) := by rw [IntKind.wrap_i64]; omega)
  all_goals rw [hPq]
  all_goals (first
    | (have F3 : Hid (RowAt (w2.setCell ⟨w1.heap.size, 0, none⟩ (.int .i64 ((P + q : Nat) : Int))) w.heap.size 65 #[.pointer (some ⟨D, 0, none⟩)] ∧ RowAt (w2.setCell ⟨w1.heap.size, 0, none⟩ (.int .i64 ((P + q : Nat) : Int))) (w.heap.size + 1) 3 #[.int .i64 (Z : Int)] ∧ RowAt (w2.setCell ⟨w1.heap.size, 0, none⟩ (.int .i64 ((P + q : Nat) : Int))) w1.heap.size 3 #[.int .i64 ((P + q : Nat) : Int)] ∧ Below w.heap.size w (w2.setCell ⟨w1.heap.size, 0, none⟩ (.int .i64 ((P + q : Nat) : Int))) ∧ w.heap.size + 1 < w1.heap.size) := ⟨F2.out.1.other _ _ (RN.out.ne F2.out.1 (by decide)).symm, F2.out.2.1.other _ _ (by have := F1.out.2.1.lt; simp; omega), RN.out.set 0 _, F2.out.2.2.setCell F1.out.2.2.size _, F1.out.2.1.lt⟩
       generalize w2.setCell ⟨w1.heap.size, 0, none⟩ (.int .i64 ((P + q : Nat) : Int)) = w3 at F3 ⊢
       clear n0 n1 RN x0 x1 D1 F1
       generalize w1.heap.size = gp at F3 ⊢)
    | (have F3 : Hid (RowAt (w2.alloc (.cells #[.int .i64 ((P + q : Nat) : Int)] 3)) w.heap.size 65 #[.pointer (some ⟨D, 0, none⟩)] ∧ RowAt (w2.alloc (.cells #[.int .i64 ((P + q : Nat) : Int)] 3)) (w.heap.size + 1) 3 #[.int .i64 (Z : Int)] ∧ RowAt (w2.alloc (.cells #[.int .i64 ((P + q : Nat) : Int)] 3)) w2.heap.size 3 #[.int .i64 ((P + q : Nat) : Int)] ∧ Below w.heap.size w (w2.alloc (.cells #[.int .i64 ((P + q : Nat) : Int)] 3)) ∧ w.heap.size + 1 < w2.heap.size) := ⟨F2.out.1.alloc _, F2.out.2.1.alloc _, RowAt.new w2 _ _, F2.out.2.2.alloc F2.out.2.2.size _, F2.out.2.1.lt⟩
       generalize w2.alloc (.cells #[.int .i64 ((P + q : Nat) : Int)] 3) = w3 at F3 ⊢
       generalize w2.heap.size = gp at F3 ⊢))
  all_goals (clear y0 y1 F2; have v1 : w3.cell? ⟨w.heap.size + 1, 0, none⟩ = some (.int .i64 (Z : Int)) := F3.out.2.1.cell 0)
  all_goals (have hZ1 : 0 < Z := by omega)
  all_goals gi_wp2_with (refine ⟨trivial, ?_⟩; gi_at_call 70; refine (callsIn_wide.2 (chunk_any _ _ _ _ _ hZ1)).mono ?_; rintro e w' ⟨rfl, rfl⟩)
  all_goals (
    have G5 : Hid (RowAt ((w3.alloc (.cells #[.slice (some ⟨g, o, none⟩) b.length C] 22)).alloc (.cells #[.int .i64 (Z : Int)] 3)) w3.heap.size 22 #[.slice (some ⟨g, o, none⟩) b.length C] ∧ RowAt ((w3.alloc (.cells #[.slice (some ⟨g, o, none⟩) b.length C] 22)).alloc (.cells #[.int .i64 (Z : Int)] 3)) (w3.heap.size + 1) 3 #[.int .i64 (Z : Int)] ∧ Below w3.heap.size w3 ((w3.alloc (.cells #[.slice (some ⟨g, o, none⟩) b.length C] 22)).alloc (.cells #[.int .i64 (Z : Int)] 3)) ∧ ((w3.alloc (.cells #[.slice (some ⟨g, o, none⟩) b.length C] 22)).alloc (.cells #[.int .i64 (Z : Int)] 3)).heap.size = w3.heap.size + 2) := by
      refine ⟨(RowAt.new w3 _ _).alloc _, ?_, ((Below.refl _ w3).alloc (Nat.le_refl _) _).alloc (by simp) _, by simp⟩
      have := RowAt.new (w3.alloc (.cells #[.slice (some ⟨g, o, none⟩) b.length C] 22)) 3 #[.int .i64 (Z : Int)]
      rwa [World.size_alloc] at this
    generalize (w3.alloc (.cells #[.slice (some ⟨g, o, none⟩) b.length C] 22)).alloc (.cells #[.int .i64 (Z : Int)] 3) = w5 at G5 ⊢)
  · have hN : ∀ k, k < (b.length + Z - 1) / Z → k * Z < b.length := fun k hk => by
      have := (Nat.le_div_iff_mul_le hZ1).1 (Nat.succ_le_of_lt hk)
      rw [Nat.succ_mul] at this; omega
    have hN2 : ∀ k, k * Z < b.length → k < (b.length + Z - 1) / Z := fun k hk => by
      apply Nat.lt_of_succ_le
      rw [Nat.le_div_iff_mul_le hZ1, Nat.succ_mul]; omega
    have hz5 : w.heap.size + 1 < w5.heap.size := by have := G5.out.2.2.2; have := F3.out.2.1.lt; omega
    have hroom2 : ∀ k, k * Z < b.length → P + q + k < s.n := fun k hk => by
      have h1 : (q + k) * Z < J.ars s * Z := by
        rw [Nat.add_mul]
        have e1 : J.arb s = J.ars s * Z := by unfold J.arb; rw [HZ.out]
        have e2 := HA.out
        omega
      have := Nat.lt_of_mul_lt_mul_right h1
      omega
    have own : OwnFrom w5.heap.size (fun pre W => PutI w w5.heap.size D S M s Z gp P q g o b cs pre W) := PutI.own (by omega) hM
    refine wpIn_rangeFunc_ownG (α := Nat) rfl (by omega) (gf := 77) (lb := #[.pointer (some ⟨w3.heap.size, 0, none⟩), .pointer (some ⟨w3.heap.size + 1, 0, none⟩)]) rfl trivial (enters_of Tryd.func77 (by kernel_rfl) rfl) (encs := chv g o b.length Z) (Kp := KpB w3.heap.size (w3.heap.size + 1)) (S := fun xs => ∃ k, (k * Z < b.length + Z ∧ b.length ≤ k * Z) ∧ xs = List.range k) (Sp := fun _ => True) (N := (b.length + Z - 1) / Z) (w0 := w5) ?seq1 (fun h1 h2 => ⟨h2.1.trans h1.1, h2.2.trans h1.2⟩) ?keep1 (Below.refl _ _) (fun _ => rfl)
      (fun pre W => PutI w w5.heap.size D S M s Z gp P q g o b cs pre W) (fun _ _ _ => False) own (fun _ _ _ _ _ hs _ _ => hs) ?init1
      (fun x => { tmps := #[.agg #[.pointer (some ⟨D, 0, none⟩)], .int .i64 (ar : Int), .int .i64 (A : Int), .slice (some ⟨g, o, none⟩) b.length C, .pointer (some ⟨w.heap.size, 0, none⟩), undef, undef, undef, .pointer (some ⟨w.heap.size + 1, 0, none⟩), .pointer (some ⟨gp, 0, none⟩), .slice (some ⟨g, o + x * Z, none⟩) (min Z (b.length - x * Z)) (min Z (b.length - x * Z)), undef, .pointer (some ⟨w.heap.size, 0, none⟩), .pointer (some ⟨D, 0, none⟩), .int .i64 (Z : Int), .agg #[.pointer (some ⟨D, 0, none⟩)], .int .i64 (ar : Int), .int .i64 (P : Int), .int .i64 (A : Int), .int .i64 (Z : Int), .int .i64 (q : Int), .int .i64 ((P : Int) + (q : Int)), .int .i64 (A : Int), .int .i64 (Z : Int), .int .i64 0, .bool false, undef, undef, undef, undef, undef, undef, undef, undef, undef, .slice (some ⟨g, o, none⟩) b.length C, .int .i64 (Z : Int), .func (.func 77) #[] #[.pointer (some ⟨w3.heap.size, 0, none⟩), .pointer (some ⟨w3.heap.size + 1, 0, none⟩)], .slice (some ⟨g, o + x * Z, none⟩) (min Z (b.length - x * Z)) (min Z (b.length - x * Z)), undef, undef, undef, undef, undef, undef, undef, undef, undef, undef, undef, undef, undef], defers := [] }) ?assign1 ?body1 ?done1 ?stop1
    case seq1 =>
      intro l Jv Jx W hW hJ hJx hY h0
      refine (chunk1_in l w3.heap.size (w3.heap.size + 1) g o b.length C Z hZ1 hb2 (by have e1 : J.arb s ≤ 4096 * 4096 := (by unfold J.arb; exact Nat.mul_le_mul (by unfold J.ars; omega) (by rw [← HZ.out]; exact hb2)); omega) hbC Jv Jx (fun pre A hA => hJ pre A _ none hA ⟨rfl, rfl, rfl, Nat.le_refl _, fun _ _ _ => rfl⟩ (by intro r h; cases h)) (fun pre x W1 h1 h2 => hY pre x W1 h1 (hN2 _ h2)) W (G5.out.1.below hW G5.out.1.lt) (G5.out.2.1.below hW G5.out.2.1.lt) h0).mono ?_
      rintro e W' ⟨he, ⟨k, hk, hj⟩ | ⟨pre, _, hj⟩⟩
      · exact ⟨he, .inl ⟨_, ⟨k, hk, rfl⟩, hj⟩⟩
      · exact ⟨he, .inr ⟨_, trivial, hj⟩⟩
    case keep1 =>
      intro W l oo oo' hl _ _ _
      have := G5.out.2.2.2
      exact ⟨World.putObj_heap_other (by omega), World.putObj_heap_other (by omega)⟩
    case init1 =>
      have hb5 : Below w.heap.size w w5 := F3.out.2.2.2.1.trans (G5.out.2.2.1.mono F3.out.2.2.2.1.size)
      exact ⟨F3.out.1.below G5.out.2.2.1 F3.out.1.lt, F3.out.2.1.below G5.out.2.2.1 F3.out.2.1.lt, F3.out.2.2.1.below G5.out.2.2.1 F3.out.2.2.1.lt, h.below hb5 (Nat.le_refl _), hb.below hb5 hb.lt, Mv.of_below hb5, Nat.le_refl _⟩
    case assign1 =>
      intro l x W K hK
      unfold chv
      gi_wp2
      exact hK
    case body1 =>
      intro l pre x W hI hlen
      have hk := hN _ hlen
      have hpl := hroom2 _ hk
      obtain ⟨pl, hple⟩ : ∃ pl, pl = P + q + pre.length := ⟨_, rfl⟩
      have hpk := puts_keep (fun x => J.pad Z ((b.drop (x * Z)).take Z)) pre hp (P + q)
      have hrow := hI.pl
      rw [← hple] at hrow hpl
      have HPL := hide hple
      have HI := hide hI
      have HPK := hide hpk
      have x0 : W.cell? ⟨w.heap.size, 0, none⟩ = some (.pointer (some ⟨D, 0, none⟩)) := hI.st.cell 0
      have x1 : W.cell? ⟨w.heap.size + 1, 0, none⟩ = some (.int .i64 (Z : Int)) := hI.sz.cell 0
      have hmk := make_zeros Z (by omega)
      have hcl : ((b.drop (x * Z)).take Z).length = min Z (b.length - x * Z) := by simp
      have hsl : SlL W (some ⟨g, o + x * Z, none⟩) ((b.drop (x * Z)).take Z) := SlL.sub (fun _ => ⟨g, o, rfl, hI.by_.lt, fun j hj => by rw [hI.by_.cell]; exact hbc j hj⟩) (x * Z) Z
      have HSL := hide hsl
      have HCL := hide hcl
      have HRW := hide hrow
      have hwr : ∀ W6, DiskAt FF W6 D S M (J.puts s (P + q) (fun x => J.pad Z ((b.drop (x * Z)).take Z)) pre) → SlU W6 (some ⟨W.heap.size, 0, none⟩) (J.pad Z ((b.drop (x * Z)).take Z)) → Calls Tryd.prog 26 #[.pointer (some ⟨D, 0, none⟩), .int .i64 (pl : Int), .slice (some ⟨W.heap.size, 0, none⟩) Z Z] W6 fun e w' => e = .returned (.int .i64 0) ∧ DiskAt FF w' D S M ((J.puts s (P + q) (fun x => J.pad Z ((b.drop (x * Z)).take Z)) pre).put pl (J.pad Z ((b.drop (x * Z)).take Z))) ∧ Mv D S M W6 w' := fun W6 h6 s6 => by
        have e1 : (J.puts s (P + q) (fun x => J.pad Z ((b.drop (x * Z)).take Z)) pre).sz = Z := by rw [HPK.out.2.1, HZ.out]
        have := putW W6 D S M _ h6 HPK.out.1 pl (by rw [HPK.out.2.2]; exact hpl) (some ⟨W.heap.size, 0, none⟩) Z _ (by rw [e1]; exact J.pad_len _ _ (by rw [hcl]; exact Nat.min_le_left _ _)) s6
        rw [e1] at this; exact this
      have hWz : w.heap.size ≤ W.heap.size := hI.mv.size
      have hgpW : gp < W.heap.size := hrow.lt
      have hw7 : IntKind.i64.wrap ((pl : Int) + 1) = ((pl + 1 : Nat) : Int) := by rw [IntKind.wrap_i64]; omega
      generalize hxo : o + x * Z = ox at HSL
      generalize hxm : min Z (b.length - x * Z) = mx at HCL
      have hmZ : mx ≤ Z := by rw [← hxm]; exact Nat.min_le_left _ _
      have HXO := hide hxo
      have HXM := hide hxm
      clear hI hpk hrow hple hsl hcl hst hsi
      dsimp only
      clear HXO HXM hxo hxm
      have hgp1 : w.heap.size + 1 < gp := F3.out.2.2.2.2
      obtain ⟨w6, hrun, R6, b6⟩ := run_copy_pad (W.alloc (.cells (vb (List.replicate Z 0)).toArray 5)) 3 W.heap.size Z (RowAt.new W _ _) ⟨g, ox, none⟩ mx mx _ HCL.out hmZ (HSL.out.alloc _)
      have b6' := ((Below.refl W.heap.size W).alloc (Nat.le_refl _) (.cells (vb (List.replicate Z 0)).toArray 5)).trans b6
      have ST6 := hide (HI.out.st.below b6' HI.out.st.lt)
      have SZ6 := hide (HI.out.sz.below b6' HI.out.sz.lt)
      have PL6 := hide (HRW.out.below b6' HRW.out.lt)
      have DK6 := hide (HI.out.dk.below b6' (Nat.le_refl _))
      have BY6 := hide (HI.out.by_.below b6' HI.out.by_.lt)
      have BB6 := hide b6'
      have S6 := hide (SlU.row R6)
      have y0 : w6.cell? ⟨w.heap.size, 0, none⟩ = some (.pointer (some ⟨D, 0, none⟩)) := ST6.out.cell 0
      have y1 : w6.cell? ⟨gp, 0, none⟩ = some (.int .i64 (pl : Int)) := PL6.out.cell 0
      clear R6 b6 b6'
      gi_wp2_with (first
        | (refine ⟨trivial, ?_⟩; gi_at_call 26; refine (CallsIn.inRound l (callsIn_wide.2 (hwr _ DK6.out S6.out))).mono ?_; rintro e w7 ⟨rfl, D7, M7⟩; have DK7 := hide D7; have MM7 := hide M7; have ST7 := hide (M7.row ST6.out (by omega) (by omega) (by omega)); have SZ7 := hide (M7.row SZ6.out (by omega) (by omega) (by omega)); have PL7 := hide (M7.row PL6.out (by omega) (by omega) (by omega)); have z1 : w7.cell? ⟨gp, 0, none⟩ = some (.int .i64 (pl : Int)) := PL7.out.cell 0; have f1 := PL7.out.frozen 0; clear D7 M7)
        | (refine ⟨trivial, ?_⟩; gi_at_call 53; refine (CallsIn.inRound l (callsIn_wide.2 (must_ok _))).mono ?_; rintro e w' ⟨rfl, hw⟩; rw [hw]; clear hw w')
        | fail)
      have hgw3 : gp < w3.heap.size := F3.out.2.2.1.lt
      have hn5 := G5.out.2.2.2
      have hWbig := HI.out.big
      have hz67 : w6.heap.size ≤ w7.heap.size := MM7.out.size
      have hz6 : W.heap.size ≤ w6.heap.size := BB6.out.size
      have hblk : ∀ k, k < W.heap.size → w.heap.size ≤ k → k ≠ gp → (w7.setCell ⟨gp, 0, none⟩ (.int .i64 ((pl : Int) + 1))).heap[k]? = W.heap[k]? := fun k h1 h2 h3 => by
        rw [heap_setCell_other _ _ _ _ h3, MM7.out.block k (by omega) (by omega) (by omega) (by omega), BB6.out.block k h1]
      have hb8 : Below gp w7 (w7.setCell ⟨gp, 0, none⟩ (.int .i64 ((pl : Int) + 1))) := (Below.refl gp w7).setCell (p := ⟨gp, 0, none⟩) (Nat.le_refl gp) _
      have hk8 : Rows w7 (w7.setCell ⟨gp, 0, none⟩ (.int .i64 ((pl : Int) + 1))) := fun g' c' hg' => hg'.other _ _ (PL7.out.ne hg' (by decide)).symm
      refine ⟨⟨by simp; omega, fun k oo hk5 hk1 hk2 => ?_⟩, ⟨hblk _ (by omega) (by omega) (by omega), hblk _ (by omega) (by omega) (by omega)⟩, ⟨ST7.out.other _ _ (by simp; omega), SZ7.out.other _ _ (by simp; omega), ?_, ?_, ?_, ?_, by simp; omega⟩⟩
      · have hkW : k < W.heap.size := (Array.getElem?_eq_some_iff.1 hk1).1
        rw [hblk k hkW (by omega) (fun e => ?_)]
        · exact hk1
        · have := HRW.out
          unfold RowAt at this
          rw [e, this] at hk1
          injection hk1 with hk1
          rw [← hk1] at hk2
          cases hk2
      · have h9 := PL7.out.set 0 (.int .i64 ((pl : Int) + 1))
        have e9 : ((P + q + (pre ++ [x]).length : Nat) : Int) = (pl : Int) + 1 := by rw [HPL.out]; simp; omega
        rw [e9]; exact h9
      · rw [J.puts_snoc, ← HPL.out]
        exact DK7.out.keptB hb8 hk8 (by omega) (by omega) (by omega)
      · obtain ⟨sv, uv, hkk⟩ := DK6.out
        exact hk8 _ _ (MM7.out.rows hkk _ _ BY6.out)
      · exact (((HI.out.mv.belowB BB6.out hWz).trans MM7.out (Or.inl rfl)).belowB hb8 (by omega))
    case done1 =>
      rintro Dd xs W hDd ⟨k, hk, rfl⟩ hI hK
      gi_wp2
      refine ⟨by simp, .inl ⟨_, _, rfl, run_takeDeferred hK, ?_⟩⟩
      have hI2 : PutI w w5.heap.size D S M s Z gp P q g o b cs (List.range k) (W.putObj Dd (.deferred none)) := own.putObj _ hI hDd hK rfl
      refine ⟨_, results_none rfl _ _ _, rfl, k, by rw [← HZ.out]; exact hk.2, by rw [← HZ.out]; exact hk.1, ?_, hI2.mv⟩
      have := hI2.dk
      rw [HP.out] at this
      rw [← HZ.out]
      exact this
    case stop1 =>
      rintro Dd c pre W _ _ h _
      exact h.elim
  · have hN : ∀ k, k < (b.length + Z - 1) / Z → k * Z < b.length := fun k hk => by
      have := (Nat.le_div_iff_mul_le hZ1).1 (Nat.succ_le_of_lt hk)
      rw [Nat.succ_mul] at this; omega
    have hN2 : ∀ k, k * Z < b.length → k < (b.length + Z - 1) / Z := fun k hk => by
      apply Nat.lt_of_succ_le
      rw [Nat.le_div_iff_mul_le hZ1, Nat.succ_mul]; omega
    have hz5 : w.heap.size + 1 < w5.heap.size := by have := G5.out.2.2.2; have := F3.out.2.1.lt; omega
    have hroom2 : ∀ k, k * Z < b.length → P + q + k < s.n := fun k hk => by
      have h1 : (q + k) * Z < J.ars s * Z := by
        rw [Nat.add_mul]
        have e1 : J.arb s = J.ars s * Z := by unfold J.arb; rw [HZ.out]
        have e2 := HA.out
        omega
      have := Nat.lt_of_mul_lt_mul_right h1
      omega
    have own : OwnFrom w5.heap.size (fun pre W => PutI w w5.heap.size D S M s Z gp P q g o b cs pre W) := PutI.own (by omega) hM
    refine wpIn_rangeFunc_ownG (α := Nat) rfl (by omega) (gf := 77) (lb := #[.pointer (some ⟨w3.heap.size, 0, none⟩), .pointer (some ⟨w3.heap.size + 1, 0, none⟩)]) rfl trivial (enters_of Tryd.func77 (by kernel_rfl) rfl) (encs := chv g o b.length Z) (Kp := KpB w3.heap.size (w3.heap.size + 1)) (S := fun xs => ∃ k, (k * Z < b.length + Z ∧ b.length ≤ k * Z) ∧ xs = List.range k) (Sp := fun _ => True) (N := (b.length + Z - 1) / Z) (w0 := w5) ?seq2 (fun h1 h2 => ⟨h2.1.trans h1.1, h2.2.trans h1.2⟩) ?keep2 (Below.refl _ _) (fun _ => rfl)
      (fun pre W => PutI w w5.heap.size D S M s Z gp P q g o b cs pre W) (fun _ _ _ => False) own (fun _ _ _ _ _ hs _ _ => hs) ?init2
      (fun x => { tmps := #[.agg #[.pointer (some ⟨D, 0, none⟩)], .int .i64 (ar : Int), .int .i64 (A : Int), .slice (some ⟨g, o, none⟩) b.length C, .pointer (some ⟨w.heap.size, 0, none⟩), undef, undef, undef, .pointer (some ⟨w.heap.size + 1, 0, none⟩), .pointer (some ⟨gp, 0, none⟩), .slice (some ⟨g, o + x * Z, none⟩) (min Z (b.length - x * Z)) (min Z (b.length - x * Z)), undef, .pointer (some ⟨w.heap.size, 0, none⟩), .pointer (some ⟨D, 0, none⟩), .int .i64 (Z : Int), .agg #[.pointer (some ⟨D, 0, none⟩)], .int .i64 (ar : Int), .int .i64 (P : Int), .int .i64 (A : Int), .int .i64 (Z : Int), .int .i64 (q : Int), .int .i64 ((P : Int) + (q : Int)), .int .i64 (A : Int), .int .i64 (Z : Int), .int .i64 0, .bool false, undef, undef, undef, undef, undef, undef, undef, undef, undef, .slice (some ⟨g, o, none⟩) b.length C, .int .i64 (Z : Int), .func (.func 77) #[] #[.pointer (some ⟨w3.heap.size, 0, none⟩), .pointer (some ⟨w3.heap.size + 1, 0, none⟩)], .slice (some ⟨g, o + x * Z, none⟩) (min Z (b.length - x * Z)) (min Z (b.length - x * Z)), undef, undef, undef, undef, undef, undef, undef, undef, undef, undef, undef, undef, undef], defers := [] }) ?assign2 ?body2 ?done2 ?stop2
    case seq2 =>
      intro l Jv Jx W hW hJ hJx hY h0
      refine (chunk1_in l w3.heap.size (w3.heap.size + 1) g o b.length C Z hZ1 hb2 (by have e1 : J.arb s ≤ 4096 * 4096 := (by unfold J.arb; exact Nat.mul_le_mul (by unfold J.ars; omega) (by rw [← HZ.out]; exact hb2)); omega) hbC Jv Jx (fun pre A hA => hJ pre A _ none hA ⟨rfl, rfl, rfl, Nat.le_refl _, fun _ _ _ => rfl⟩ (by intro r h; cases h)) (fun pre x W1 h1 h2 => hY pre x W1 h1 (hN2 _ h2)) W (G5.out.1.below hW G5.out.1.lt) (G5.out.2.1.below hW G5.out.2.1.lt) h0).mono ?_
      rintro e W' ⟨he, ⟨k, hk, hj⟩ | ⟨pre, _, hj⟩⟩
      · exact ⟨he, .inl ⟨_, ⟨k, hk, rfl⟩, hj⟩⟩
      · exact ⟨he, .inr ⟨_, trivial, hj⟩⟩
    case keep2 =>
      intro W l oo oo' hl _ _ _
      have := G5.out.2.2.2
      exact ⟨World.putObj_heap_other (by omega), World.putObj_heap_other (by omega)⟩
    case init2 =>
      have hb5 : Below w.heap.size w w5 := F3.out.2.2.2.1.trans (G5.out.2.2.1.mono F3.out.2.2.2.1.size)
      exact ⟨F3.out.1.below G5.out.2.2.1 F3.out.1.lt, F3.out.2.1.below G5.out.2.2.1 F3.out.2.1.lt, F3.out.2.2.1.below G5.out.2.2.1 F3.out.2.2.1.lt, h.below hb5 (Nat.le_refl _), hb.below hb5 hb.lt, Mv.of_below hb5, Nat.le_refl _⟩
    case assign2 =>
      intro l x W K hK
      unfold chv
      gi_wp2
      exact hK
    case body2 =>
      intro l pre x W hI hlen
      have hk := hN _ hlen
      have hpl := hroom2 _ hk
      obtain ⟨pl, hple⟩ : ∃ pl, pl = P + q + pre.length := ⟨_, rfl⟩
      have hpk := puts_keep (fun x => J.pad Z ((b.drop (x * Z)).take Z)) pre hp (P + q)
      have hrow := hI.pl
      rw [← hple] at hrow hpl
      have HPL := hide hple
      have HI := hide hI
      have HPK := hide hpk
      have x0 : W.cell? ⟨w.heap.size, 0, none⟩ = some (.pointer (some ⟨D, 0, none⟩)) := hI.st.cell 0
      have x1 : W.cell? ⟨w.heap.size + 1, 0, none⟩ = some (.int .i64 (Z : Int)) := hI.sz.cell 0
      have hmk := make_zeros Z (by omega)
      have hcl : ((b.drop (x * Z)).take Z).length = min Z (b.length - x * Z) := by simp
      have hsl : SlL W (some ⟨g, o + x * Z, none⟩) ((b.drop (x * Z)).take Z) := SlL.sub (fun _ => ⟨g, o, rfl, hI.by_.lt, fun j hj => by rw [hI.by_.cell]; exact hbc j hj⟩) (x * Z) Z
      have HSL := hide hsl
      have HCL := hide hcl
      have HRW := hide hrow
      have hwr : ∀ W6, DiskAt FF W6 D S M (J.puts s (P + q) (fun x => J.pad Z ((b.drop (x * Z)).take Z)) pre) → SlU W6 (some ⟨W.heap.size, 0, none⟩) (J.pad Z ((b.drop (x * Z)).take Z)) → Calls Tryd.prog 26 #[.pointer (some ⟨D, 0, none⟩), .int .i64 (pl : Int), .slice (some ⟨W.heap.size, 0, none⟩) Z Z] W6 fun e w' => e = .returned (.int .i64 0) ∧ DiskAt FF w' D S M ((J.puts s (P + q) (fun x => J.pad Z ((b.drop (x * Z)).take Z)) pre).put pl (J.pad Z ((b.drop (x * Z)).take Z))) ∧ Mv D S M W6 w' := fun W6 h6 s6 => by
        have e1 : (J.puts s (P + q) (fun x => J.pad Z ((b.drop (x * Z)).take Z)) pre).sz = Z := by rw [HPK.out.2.1, HZ.out]
        have := putW W6 D S M _ h6 HPK.out.1 pl (by rw [HPK.out.2.2]; exact hpl) (some ⟨W.heap.size, 0, none⟩) Z _ (by rw [e1]; exact J.pad_len _ _ (by rw [hcl]; exact Nat.min_le_left _ _)) s6
        rw [e1] at this; exact this
      have hWz : w.heap.size ≤ W.heap.size := hI.mv.size
      have hgpW : gp < W.heap.size := hrow.lt
      have hw7 : IntKind.i64.wrap ((pl : Int) + 1) = ((pl + 1 : Nat) : Int) := by rw [IntKind.wrap_i64]; omega
      generalize hxo : o + x * Z = ox at HSL
      generalize hxm : min Z (b.length - x * Z) = mx at HCL
      have hmZ : mx ≤ Z := by rw [← hxm]; exact Nat.min_le_left _ _
      have HXO := hide hxo
      have HXM := hide hxm
      clear hI hpk hrow hple hsl hcl hst hsi
      dsimp only
      clear HXO HXM hxo hxm
      have hgp1 : w.heap.size + 1 < gp := F3.out.2.2.2.2
      obtain ⟨w6, hrun, R6, b6⟩ := run_copy_pad (W.alloc (.cells (vb (List.replicate Z 0)).toArray 5)) 3 W.heap.size Z (RowAt.new W _ _) ⟨g, ox, none⟩ mx mx _ HCL.out hmZ (HSL.out.alloc _)
      have b6' := ((Below.refl W.heap.size W).alloc (Nat.le_refl _) (.cells (vb (List.replicate Z 0)).toArray 5)).trans b6
      have ST6 := hide (HI.out.st.below b6' HI.out.st.lt)
      have SZ6 := hide (HI.out.sz.below b6' HI.out.sz.lt)
      have PL6 := hide (HRW.out.below b6' HRW.out.lt)
      have DK6 := hide (HI.out.dk.below b6' (Nat.le_refl _))
      have BY6 := hide (HI.out.by_.below b6' HI.out.by_.lt)
      have BB6 := hide b6'
      have S6 := hide (SlU.row R6)
      have y0 : w6.cell? ⟨w.heap.size, 0, none⟩ = some (.pointer (some ⟨D, 0, none⟩)) := ST6.out.cell 0
      have y1 : w6.cell? ⟨gp, 0, none⟩ = some (.int .i64 (pl : Int)) := PL6.out.cell 0
      clear R6 b6 b6'
      gi_wp2_with (first
        | (refine ⟨trivial, ?_⟩; gi_at_call 26; refine (CallsIn.inRound l (callsIn_wide.2 (hwr _ DK6.out S6.out))).mono ?_; rintro e w7 ⟨rfl, D7, M7⟩; have DK7 := hide D7; have MM7 := hide M7; have ST7 := hide (M7.row ST6.out (by omega) (by omega) (by omega)); have SZ7 := hide (M7.row SZ6.out (by omega) (by omega) (by omega)); have PL7 := hide (M7.row PL6.out (by omega) (by omega) (by omega)); have z1 : w7.cell? ⟨gp, 0, none⟩ = some (.int .i64 (pl : Int)) := PL7.out.cell 0; have f1 := PL7.out.frozen 0; clear D7 M7)
        | (refine ⟨trivial, ?_⟩; gi_at_call 53; refine (CallsIn.inRound l (callsIn_wide.2 (must_ok _))).mono ?_; rintro e w' ⟨rfl, hw⟩; rw [hw]; clear hw w')
        | fail)
      have hgw3 : gp < w3.heap.size := F3.out.2.2.1.lt
      have hn5 := G5.out.2.2.2
      have hWbig := HI.out.big
      have hz67 : w6.heap.size ≤ w7.heap.size := MM7.out.size
      have hz6 : W.heap.size ≤ w6.heap.size := BB6.out.size
      have hblk : ∀ k, k < W.heap.size → w.heap.size ≤ k → k ≠ gp → (w7.setCell ⟨gp, 0, none⟩ (.int .i64 ((pl : Int) + 1))).heap[k]? = W.heap[k]? := fun k h1 h2 h3 => by
        rw [heap_setCell_other _ _ _ _ h3, MM7.out.block k (by omega) (by omega) (by omega) (by omega), BB6.out.block k h1]
      have hb8 : Below gp w7 (w7.setCell ⟨gp, 0, none⟩ (.int .i64 ((pl : Int) + 1))) := (Below.refl gp w7).setCell (p := ⟨gp, 0, none⟩) (Nat.le_refl gp) _
      have hk8 : Rows w7 (w7.setCell ⟨gp, 0, none⟩ (.int .i64 ((pl : Int) + 1))) := fun g' c' hg' => hg'.other _ _ (PL7.out.ne hg' (by decide)).symm
      refine ⟨⟨by simp; omega, fun k oo hk5 hk1 hk2 => ?_⟩, ⟨hblk _ (by omega) (by omega) (by omega), hblk _ (by omega) (by omega) (by omega)⟩, ⟨ST7.out.other _ _ (by simp; omega), SZ7.out.other _ _ (by simp; omega), ?_, ?_, ?_, ?_, by simp; omega⟩⟩
      · have hkW : k < W.heap.size := (Array.getElem?_eq_some_iff.1 hk1).1
        rw [hblk k hkW (by omega) (fun e => ?_)]
        · exact hk1
        · have := HRW.out
          unfold RowAt at this
          rw [e, this] at hk1
          injection hk1 with hk1
          rw [← hk1] at hk2
          cases hk2
      · have h9 := PL7.out.set 0 (.int .i64 ((pl : Int) + 1))
        have e9 : ((P + q + (pre ++ [x]).length : Nat) : Int) = (pl : Int) + 1 := by rw [HPL.out]; simp; omega
        rw [e9]; exact h9
      · rw [J.puts_snoc, ← HPL.out]
        exact DK7.out.keptB hb8 hk8 (by omega) (by omega) (by omega)
      · obtain ⟨sv, uv, hkk⟩ := DK6.out
        exact hk8 _ _ (MM7.out.rows hkk _ _ BY6.out)
      · exact (((HI.out.mv.belowB BB6.out hWz).trans MM7.out (Or.inl rfl)).belowB hb8 (by omega))
    case done2 =>
      rintro Dd xs W hDd ⟨k, hk, rfl⟩ hI hK
      gi_wp2
      refine ⟨by simp, .inl ⟨_, _, rfl, run_takeDeferred hK, ?_⟩⟩
      have hI2 : PutI w w5.heap.size D S M s Z gp P q g o b cs (List.range k) (W.putObj Dd (.deferred none)) := own.putObj _ hI hDd hK rfl
      refine ⟨_, results_none rfl _ _ _, rfl, k, by rw [← HZ.out]; exact hk.2, by rw [← HZ.out]; exact hk.1, ?_, hI2.mv⟩
      have := hI2.dk
      rw [HP.out] at this
      rw [← HZ.out]
      exact this
    case stop2 =>
      rintro Dd c pre W _ _ h _
      exact h.elim
end Go.Proofs.YtidocfajhhpfdaaDoor
