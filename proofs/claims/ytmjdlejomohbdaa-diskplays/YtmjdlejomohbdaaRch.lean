/- The model grows: lists that are made, one behind another; what each step leaves of the others. -/
import Derived.Test.YtmjdlejomohbdaaOrdj
namespace Go.Proofs.Ytmjdlejomohbdaa
open Go.RowKit
set_option maxRecDepth 5000 in
theorem owns_stay {w w' : World} {base : Nat} {e : TypeId} {v : Value} {n : Nat} {xs : List Value} {row : Option Nat} (h : w.ownsRow base e 1 v n xs) (hg : w.grownBy w' row) (hr : ∀ b, row = some b → v.ownBlock ≠ some b) : w'.ownsRow base e 1 v n xs := by
  refine ⟨h.1, ?_⟩
  rcases h.2 with h1 | ⟨g, cap, cur, e1, h1, h2, h3⟩
  · exact Or.inl h1
  · exact Or.inr ⟨g, cap, cur, e1, h1, (hg.block g (Array.getElem?_eq_some_iff.1 h2).1 (fun e2 => hr g e2.symm (by rw [e1]; rfl))).trans h2, h3⟩
set_option maxRecDepth 5000 in
theorem row_stay {w w' : World} {g : Nat} {t : TypeId} {c : Array Value} {row : Option Nat} (h : RowAt w g t c) (hg : w.grownBy w' row) (hr : row ≠ some g) : RowAt w' g t c := (hg.block g h.lt (fun e => hr e.symm)).trans h
/- an append of one: in its place, or new -/
set_option maxRecDepth 5000 in
theorem app_who (w : World) (base : Nat) (t ty e : TypeId) (i : TypeInfo) (z : Value) (bytes : Nat) (ht : Try.prog.underlying t = some (.slice e)) (hi : Try.prog.info? e = some i) (hz : i.zero = some z) (hsize : i.size = 1) (hby : i.bytes = bytes) (hzs : z.cells.size = 1) (hbb : bytes ≤ 100)
    (v : Value) (n : Nat) (xs : List Value) (hown : w.ownsRow base e 1 v n xs) (hn : n ≤ 1000) (h : Nat) (c : Nat) (u : Value) (hu : w.cell? ⟨h, 0, none⟩ = some u) (h1 : u.oneCell' = true) (hbase : base ≤ w.heap.size) :
    ∃ v' w', (Builtin.append_ #[t, t] ty #[v, .slice (some ⟨h, 0, none⟩) 1 c]).run Try.prog w = .ok v' w' ∧ w'.ownsRow base e 1 v' (n + 1) (xs ++ [u]) ∧ w.grownBy w' v.ownBlock ∧ (v'.ownBlock = v.ownBlock ∨ v'.ownBlock = some w.heap.size) := by
  have hnews : ∀ j u', [u][j]? = some u' → w.cell? ((⟨h, 0, none⟩ : Addr).add j) = some u' := by
    intro j u' hj
    cases j with
    | zero => simp at hj; subst hj; exact hu
    | succ j => simp at hj
  obtain ⟨v', w', hr, h2, h3, _⟩ := run_append_own (P := Try.prog) w base t ty e i z 1 bytes ht hi hz hsize hby hzs (by omega) v n xs hown ⟨h, 0, none⟩ 1 c [u] rfl hnews (by simpa using h1) (by unfold maxLen; omega) (by have := Nat.mul_le_mul (show n + 1 ≤ 1001 by omega) hbb; omega) hbase
  refine ⟨v', w', hr, h2, h3, ?_⟩
  rcases hown.2 with ⟨rfl, rfl⟩ | ⟨g, cap, cur, rfl, hbg, hg, hnc, hcm, hcs, htake⟩
  · have hr2 := run_append_nil (P := Try.prog) w t ty e i z ht hi hz ⟨h, 0, none⟩ 1 c [u] (by rw [hsize]; rfl) hnews (by omega) (by omega) (by rw [hby]; omega)
    rw [hr] at hr2
    injection hr2 with e1 _
    rw [e1]; exact Or.inr rfl
  · by_cases hroom : n + 1 ≤ cap
    · have hfit : n * i.size + [u].length ≤ cur.size := by rw [hcs, hsize]; simp; omega
      have hr2 := run_append_room (P := Try.prog) w t ty e i ht hi g n cap cur hg ⟨h, 0, none⟩ 1 c [u] (by rw [hsize]; rfl) hnews (by simpa using h1) hroom hfit
      rw [hr] at hr2
      injection hr2 with e1 _
      rw [e1]; exact Or.inl rfl
    · have holds : ∀ j u, xs[j]? = some u → w.cell? ((⟨g, 0, none⟩ : Addr).add j) = some u := hown.cells (g := g) rfl
      have hr2 := run_append_grow (P := Try.prog) w t ty e i z ht hi hz ⟨g, 0, none⟩ n cap xs (by rw [hsize]; exact hown.1) holds ⟨h, 0, none⟩ 1 c [u] (by rw [hsize]; rfl) hnews (by omega) (by omega) (growslice_fits (by omega) (by rw [hby]; have := Nat.mul_le_mul (show n + 1 ≤ 1001 by omega) hbb; omega))
      rw [hr] at hr2
      injection hr2 with e1 _
      rw [e1]; exact Or.inr rfl
set_option maxRecDepth 5000 in
theorem infoBl : (Try.prog.info? 4).map (fun i => (i.zero, i.size, i.bytes)) = some (some (.bool false), 1, 1) := by kernel_rfl
set_option maxRecDepth 5000 in
theorem x_append (a : Act) (o : Oper) (x y : Operand) (t : TypeId) (v : Value) (h c : Nat) (ho : o.op = .call { callee := .builtin .append, args := #[x, y], argTypes := #[t, t] }) (hx : a.eval x = v) (hy : a.eval y = .slice (some ⟨h, 0, none⟩) 1 c) (W W' : World) (v' : Value) (hr : (Builtin.append_ #[t, t] o.type #[v, .slice (some ⟨h, 0, none⟩) 1 c]).run Try.prog W = .ok v' W') : (execOp a.eval o).run Try.prog W = .ok (.value v') W' := by
  unfold execOp
  simp only [ho, resolve, invoke, builtin, Sem.run_bind, Sem.run_pure, Result.andThen_ok, List.map_toArray, List.map_cons, List.map_nil, hx, hy, hr]
def zer (Z : Nat) : Array Value := (vb (List.replicate Z 0)).toArray
/- a list of lists that is being made longer: how far it is -/
def Ch (base N1 k Z s1 s2 s3 : Nat) (lv : Value) (Ls : List Value) : Nat → Act → World → Prop
  | 0, _, w => w.ownsRow base 32 1 lv k Ls
  | 1, a, w => w.ownsRow base 32 1 lv k Ls ∧ ∃ g, a.eval (.tmp s1) = .slice (some ⟨g, 0, none⟩) Z Z ∧ N1 ≤ g ∧ RowAt w g 5 (zer Z)
  | 2, a, w => w.ownsRow base 32 1 lv k Ls ∧ ∃ g h, a.eval (.tmp s2) = .slice (some ⟨h, 0, none⟩) 1 1 ∧ N1 ≤ g ∧ N1 ≤ h ∧ RowAt w g 5 (zer Z) ∧ RowAt w h 32 #[.slice (some ⟨g, 0, none⟩) Z Z]
  | _, a, w => ∃ g v', a.eval (.tmp s3) = v' ∧ N1 ≤ g ∧ RowAt w g 5 (zer Z) ∧ w.ownsRow base 32 1 v' (k + 1) (Ls ++ [.slice (some ⟨g, 0, none⟩) Z Z]) ∧ (v'.ownBlock = lv.ownBlock ∨ ∃ b, v'.ownBlock = some b ∧ N1 ≤ b)
set_option maxRecDepth 5000 in
theorem Ch.stay {base N1 k Z s1 s2 s3 : Nat} {lv : Value} {Ls : List Value} {i : Nat} {a a' : Act} {w w' : World} {row : Option Nat} (h : Ch base N1 k Z s1 s2 s3 lv Ls i a w) (e1 : a'.eval (.tmp s1) = a.eval (.tmp s1)) (e2 : a'.eval (.tmp s2) = a.eval (.tmp s2)) (e3 : a'.eval (.tmp s3) = a.eval (.tmp s3)) (hg : w.grownBy w' row) (hr : ∀ b, row = some b → b < N1 ∧ lv.ownBlock ≠ some b) : Ch base N1 k Z s1 s2 s3 lv Ls i a' w' := by
  match i, h with
  | 0, h => exact owns_stay h hg (fun b hb => (hr b hb).2)
  | 1, ⟨h0, g, h1, h2, h3⟩ => exact ⟨owns_stay h0 hg (fun b hb => (hr b hb).2), g, e1.trans h1, h2, row_stay h3 hg (fun e => by have := (hr g e).1; omega)⟩
  | 2, ⟨h0, g, h', h1, h2, h3, h4, h5⟩ => exact ⟨owns_stay h0 hg (fun b hb => (hr b hb).2), g, h', e2.trans h1, h2, h3, row_stay h4 hg (fun e => by have := (hr g e).1; omega), row_stay h5 hg (fun e => by have := (hr h' e).1; omega)⟩
  | n + 3, ⟨g, v', h1, h2, h3, h4, h5⟩ => exact ⟨g, v', e3.trans h1, h2, row_stay h3 hg (fun e => by have := (hr g e).1; omega), owns_stay h4 hg (fun b hb e => by
      have hb' := hr b hb
      rcases h5 with h5 | ⟨b', h5, h6⟩
      · rw [h5] at e; exact hb'.2 e
      · rw [h5] at e; injection e with e; omega), h5⟩
def Cc (base N1 k s1 s2 : Nat) (fv : Value) (Fs : List Value) : Nat → Act → World → Prop
  | 0, _, w => w.ownsRow base 4 1 fv k Fs
  | 1, a, w => w.ownsRow base 4 1 fv k Fs ∧ ∃ h, a.eval (.tmp s1) = .slice (some ⟨h, 0, none⟩) 1 1 ∧ N1 ≤ h ∧ RowAt w h 4 #[.bool false]
  | _, a, w => ∃ v', a.eval (.tmp s2) = v' ∧ w.ownsRow base 4 1 v' (k + 1) (Fs ++ [.bool false])
set_option maxRecDepth 5000 in
theorem Cc.stay {base N1 k s1 s2 : Nat} {fv : Value} {Fs : List Value} {i : Nat} (hi : i < 2) {a a' : Act} {w w' : World} {row : Option Nat} (h : Cc base N1 k s1 s2 fv Fs i a w) (e1 : a'.eval (.tmp s1) = a.eval (.tmp s1)) (hg : w.grownBy w' row) (hr : ∀ b, row = some b → b < N1 ∧ fv.ownBlock ≠ some b) : Cc base N1 k s1 s2 fv Fs i a' w' := by
  match i, h, hi with
  | 0, h, _ => exact owns_stay h hg (fun b hb => (hr b hb).2)
  | 1, ⟨h0, h', h1, h2, h3⟩, _ => exact ⟨owns_stay h0 hg (fun b hb => (hr b hb).2), h', e1.trans h1, h2, row_stay h3 hg (fun e => by have := (hr h' e).1; omega)⟩
/- what all steps keep -/
structure Bs (MM N1 Z : Nat) (lv sv fv : Value) (a1 : Act) (w1 : World) (a : Act) (w : World) : Prop where
  z : a.tmps.size = 386
  d : a.defers = []
  keep : ∀ q, (q < 47 ∨ 79 < q) → a.eval (.tmp q) = a1.eval (.tmp q)
  e47 : a.eval (.tmp 47) = .pointer (some ⟨MM, 0, none⟩)
  e48 : a.eval (.tmp 48) = .pointer (some ⟨MM, 0, none⟩)
  e49 : a.eval (.tmp 49) = .pointer (some ⟨MM, 0, none⟩)
  e53 : a.eval (.tmp 53) = lv
  e62 : a.eval (.tmp 62) = sv
  e71 : a.eval (.tmp 71) = fv
  e55 : a.eval (.tmp 55) = .int .i64 (Z : Int)
  e64 : a.eval (.tmp 64) = .int .i64 (Z : Int)
  row : RowAt w MM 31 #[lv, sv, fv, .bool false, .bool false, .int .i64 0]
  os : w.os = w1.os
  tape : w.tape = w1.tape
  output : w.output = w1.output
  size : N1 ≤ w.heap.size
  block : ∀ g, g < N1 → lv.ownBlock ≠ some g → sv.ownBlock ≠ some g → fv.ownBlock ≠ some g → w.heap[g]? = w1.heap[g]?
set_option maxRecDepth 5000 in
theorem Bs.step {MM N1 Z : Nat} {lv sv fv : Value} {a1 : Act} {w1 : World} {a : Act} {w w' : World} {row : Option Nat} (h : Bs MM N1 Z lv sv fv a1 w1 a w) (dd : Nat) (v : Value) (hd : dd ∈ [56, 57, 58, 65, 66, 67, 72, 73]) (hg : w.grownBy w' row) (hr : ∀ b, row = some b → b ≠ MM ∧ (lv.ownBlock = some b ∨ sv.ownBlock = some b ∨ fv.ownBlock = some b)) : Bs MM N1 Z lv sv fv a1 w1 (a.put (some dd) v) w' := by
  have hne : ∀ q, q ∉ [56, 57, 58, 65, 66, 67, 72, 73] → (a.put (some dd) v).eval (.tmp q) = a.eval (.tmp q) := fun q hq => ev_other a dd q v (fun e => hq (e ▸ hd))
  refine ⟨(put_size _ _ _).trans h.z, (put_defers _ _ _).trans h.d, fun q hq => (hne q (fun hm => by simp only [List.mem_cons, List.not_mem_nil, or_false] at hm; rcases hm with e | e | e | e | e | e | e | e <;> (subst e; revert hq; decide))).trans (h.keep q hq), (hne 47 (by decide)).trans h.e47, (hne 48 (by decide)).trans h.e48, (hne 49 (by decide)).trans h.e49, (hne 53 (by decide)).trans h.e53, (hne 62 (by decide)).trans h.e62, (hne 71 (by decide)).trans h.e71, (hne 55 (by decide)).trans h.e55, (hne 64 (by decide)).trans h.e64, row_stay h.row hg (fun e => (hr MM e).1 rfl), hg.os.trans h.os, hg.tape.trans h.tape, hg.output.trans h.output, Nat.le_trans h.size hg.size, fun g hg1 h1 h2 h3 => ?_⟩
  rw [hg.block g (Nat.lt_of_lt_of_le hg1 h.size) (fun e => by
    rcases (hr g e.symm).2 with h4 | h4 | h4
    · exact h1 h4
    · exact h2 h4
    · exact h3 h4)]
  exact h.block g hg1 h1 h2 h3
set_option maxRecDepth 5000 in
theorem grown_alloc (w : World) (o : Obj) : w.grownBy (w.alloc o) none := World.grownBy_alloc w o none
end Go.Proofs.Ytmjdlejomohbdaa
