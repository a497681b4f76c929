/- Rows of bytes held against one another; signethelp's Place, Bytes of any bytes; hashes of names that are the same. -/
import Derived.Test.YtgmjppmcfmcmkaaDoorRow
import Derived.ChangeKeysEq
namespace Go.Proofs.YtgmjppmcfmcmkaaDoor
open Go.RowKit
namespace H
set_option maxRecDepth 5000 in
theorem run_part5 (n : Nat) (f : Nat → BitVec 8) (j : Nat) (hj : j < n) (w : World) : (part 5 (rowB n f) j).run Tryd.prog w = .ok (.int .u8 (f j).toNat) w := by
  have h := rowB_get n f j hj
  have ha : (isAgg 5).run Tryd.prog w = .ok false w := by simp [isAgg, run_underlying Tryd.underlying5]
  simp [part, ha, h]
set_option maxRecDepth 5000 in
theorem cells5 : Tryd.prog.cellsOf 5 = 1 := by kernel_rfl
set_option maxRecDepth 5000 in
theorem eqItems_B (n : Nat) (f g : Nat → BitVec 8) (d : Nat) : ∀ (is : List Nat) (w : World), (∀ j ∈ is, j < n) → (Op.eqItems (d + 1) 5 1 (rowB n f) (rowB n g) is).run Tryd.prog w = .ok (decide (∀ j ∈ is, f j = g j)) w
  | [], w, _ => by simp [Op.eqItems]
  | j :: is, w, h => by
    have hj := h j (by simp)
    have ih := eqItems_B n f g d is w (fun k hk => h k (by simp [hk]))
    simp only [Op.eqItems, Sem.run_bind, Nat.mul_one, run_part5 n f j hj, run_part5 n g j hj, Result.andThen_ok, run_equalIn_int w d 5 .u8 .u8 _ _ Tryd.underlying5]
    by_cases e : f j = g j
    · simp [e, ih]
    · have e' : ((f j).toNat : Int) ≠ ((g j).toNat : Int) := fun h => e (BitVec.eq_of_toNat_eq (by omega))
      have : (((f j).toNat : Int) == ((g j).toNat : Int)) = false := by simpa using e'
      simp [this, e]
set_option maxRecDepth 5000 in
theorem run_eqB {t : TypeId} {n : Nat} (hu : Tryd.prog.underlying t = some (.array n 5)) (f g : Nat → BitVec 8) (w : World) : (Op.equalIn 10000 t (.agg (rowB n f)) (.agg (rowB n g))).run Tryd.prog w = .ok (decide (∀ j ∈ List.range n, f j = g j)) w := by
  obtain ⟨i0, hi, _⟩ := info_parts info5
  rw [run_equalIn_array w 9999 _ _ hu hi, cells5]
  exact eqItems_B n f g 9998 _ w (fun j hj => by simpa using hj)
set_option maxRecDepth 5000 in
theorem run_eqB_same {t : TypeId} {n : Nat} (hu : Tryd.prog.underlying t = some (.array n 5)) (f : Nat → BitVec 8) (w : World) : (Op.equalIn 10000 t (.agg (rowB n f)) (.agg (rowB n f))).run Tryd.prog w = .ok true w := by
  rw [run_eqB hu]; simp
set_option maxRecDepth 5000 in
theorem wpList_eql_B {w : World} {ops : Array Oper} {rest : List Oper} {o : Oper} {a : Act} {Q : Exit → Act → World → Prop} (hgd : o.guard = none) (t yt : TypeId) (x y : Operand) (ho : o.op = .binOp .eql t x y yt)
    (n : Nat) (f : Nat → BitVec 8) (hu : Tryd.prog.underlying t = some (.array n 5)) (hm : Tryd.prog.eqGuardType Tryd.prog.depth t = false) (hx : a.eval x = .agg (rowB n f)) (hy : a.eval y = .agg (rowB n f))
    (h : wpList Tryd.prog ops Q rest (a.put o.dst (.bool true)) w) : wpList Tryd.prog ops Q (o :: rest) a w :=
  wpList_plain hgd fun _ hK => by
    unfold Oper.wp execOp
    simp only [ho, hx, hy, Sem.run_bind, run_eqGuard_agg _ _ _ _ _ _ _ hm, run_eql_struct, run_eqB_same hu, Result.andThen_ok, Sem.run_pure]
    exact hK _ _ h
set_option maxRecDepth 5000 in
theorem wpList_eql_Bg {w : World} {ops : Array Oper} {rest : List Oper} {o : Oper} {a : Act} {Q : Exit → Act → World → Prop} (hgd : Region.wanted o (yielded ops a.tmps) = true) (t yt : TypeId) (x y : Operand) (ho : o.op = .binOp .eql t x y yt)
    (n : Nat) (f : Nat → BitVec 8) (hu : Tryd.prog.underlying t = some (.array n 5)) (hm : Tryd.prog.eqGuardType Tryd.prog.depth t = false) (hx : a.eval x = .agg (rowB n f)) (hy : a.eval y = .agg (rowB n f))
    (h : wpList Tryd.prog ops Q rest (a.put o.dst (.bool true)) w) : wpList Tryd.prog ops Q (o :: rest) a w :=
  wpList_step fun _ hK => by
    rw [if_pos hgd]
    unfold Oper.wp execOp
    simp only [ho, hx, hy, Sem.run_bind, run_eqGuard_agg _ _ _ _ _ _ _ hm, run_eql_struct, run_eqB_same hu, Result.andThen_ok, Sem.run_pure]
    exact hK _ _ h

end H
set_option maxRecDepth 5000 in
theorem guard33 : Tryd.prog.eqGuardType Tryd.prog.depth 33 = false := by kernel_rfl
set_option maxRecDepth 5000 in
theorem place_any (k : Int) (n : Nat) (w : World) (h0 : 0 < n) (hn : n < 1000000) : Calls Tryd.prog 14 #[.int .i64 k, .int .i64 (n : Int)] w fun e w' => ∃ r : Nat, r < n ∧ e = .returned (.int .i64 (r : Int)) ∧ w' = w := by
  have e1 : Int.tmod k (n : Int) < (n : Int) := Int.tmod_lt_of_pos k (by omega)
  have e2 : -(n : Int) < Int.tmod k (n : Int) := by
    have h3 := Int.natAbs_tmod k (n : Int)
    have h4 : k.natAbs % (n : Int).natAbs < n := by rw [Int.natAbs_natCast]; exact Nat.mod_lt _ h0
    omega
  have hnz : ¬ ((n : Int) = 0) := by omega
  have hn1 : ¬ ((n : Int) = -1) := by omega
  obtain ⟨t, ht⟩ : ∃ t, Int.tmod k (n : Int) = t := ⟨_, rfl⟩
  rw [ht] at e1 e2
  have hw : IntKind.i64.wrap t = t := by rw [IntKind.wrap_i64]; omega
  by_cases h1 : t < 0
  · have q : decide (t < 0) = true := by simpa using h1
    obtain ⟨r, hr⟩ : ∃ r : Nat, t + (n : Int) = (r : Int) := ⟨(t + n).toNat, by omega⟩
    have hr2 : r < n := by omega
    have hw2 : IntKind.i64.wrap (t + (n : Int)) = (r : Int) := by rw [IntKind.wrap_i64]; omega
    clear hr
    go_enter Tryd.func14, Tryd.ntmps14
    go_wp2
    go_ret
    exact ⟨r, hr2, rfl, rfl⟩
  · have q : decide (t < 0) = false := by simpa using h1
    obtain ⟨r, rfl⟩ : ∃ r : Nat, t = (r : Int) := ⟨t.toNat, by omega⟩
    go_enter Tryd.func14, Tryd.ntmps14
    go_wp2
    go_ret
    exact ⟨r, by omega, rfl, rfl⟩
set_option maxRecDepth 5000 in
theorem bytes_any (l m : List UInt8) (ao ao' : Option Addr) (n n' c c' : Nat) (w : World) (hs : SlL w ao l) (hs' : SlL w ao' m) (hl : Hid (l.length = n)) (hl' : Hid (m.length = n')) :
    Calls Tryd.prog 11 #[.slice ao n c, .slice ao' n' c'] w fun e w' => e = .returned (.bool (l == m)) ∧ w' = w := by
  have h1 := run_str n c hs hl.out
  have h2 := run_str n' c' hs' hl'.out
  clear hs hs'
  go_enter Tryd.func11, Tryd.ntmps11
  go_wp2
  go_ret
  exact ⟨rfl, rfl⟩
set_option maxRecDepth 5000 in
theorem hsh_low {n n' : List (List UInt8)} (h : N.lowN n = N.lowN n') (salt : List UInt8) : ∀ k, G.hsh n salt k = G.hsh n' salt k
  | 0 => by simp only [G.hsh, h]
  | k + 1 => by simp only [G.hsh, hsh_low h salt k]
set_option maxRecDepth 5000 in
theorem Dig.len {n : List (List UInt8)} {salt : List UInt8} {i : Int} {D : List Nat} (h : Dig n salt i D) : (B.txt D).length = 32 := by
  obtain ⟨⟨p, hp, hl, _⟩, _⟩ := h
  rw [G.u8s_len] at hl
  rw [B.txt_len]; omega
set_option maxRecDepth 5000 in
theorem Dig.same {n : List (List UInt8)} {salt : List UInt8} {i : Int} {D E : List Nat} (h : Dig n salt i D) (h' : Dig n salt i E) : D = E := B.Rel.digits h.1 h'.1 h.2 h'.2
set_option maxRecDepth 5000 in
theorem h3_aux : ∀ (l : List (List UInt8)), (∀ x ∈ l, x.length ≤ 300) → (l.map (fun l => l.length + 1)).sum ≤ l.length * 301
  | [], _ => by simp
  | x :: l, hx => by
    have h4 := hx x (by simp)
    have h5 := h3_aux l (fun y hy => hx y (by simp [hy]))
    simp only [List.map_cons, List.sum_cons, List.length_cons]; omega
set_option maxRecDepth 5000 in
theorem Light.wd {n : List (List UInt8)} (h : Light n) : Wd n := by
  refine ⟨h.small, ?_⟩
  rw [N.wire_len]
  have h6 := h3_aux (N.lowN n) (fun x hx => by
    simp only [N.lowN, List.mem_map] at hx
    obtain ⟨y, hy, rfl⟩ := hx
    simpa [N.lowL] using h.2 y hy)
  rw [N.lowN_len] at h6
  have := h.1
  unfold N.size; omega
end Go.Proofs.YtgmjppmcfmcmkaaDoor
