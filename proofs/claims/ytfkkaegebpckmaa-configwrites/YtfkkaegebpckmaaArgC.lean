/- Settings that came in, opened. -/
import Derived.Test.YtfkkaegebpckmaaArgs
import Derived.Test.YtfkkaegebpckmaaCfg
import Derived.Deep.Fields
namespace Go.Proofs.Ytfkkaegebpckmaa
open Go.ChangeShapes Go.WideShapes Go.ChangeAt Go.WideMaps Go.WideElems Go.RowKit Go.Deep
set_option maxRecDepth 5000 in
theorem cell_slice {H : Type} {enc : TypeId × Value → H} {W : World} {t e : TypeId} {n : Nat} {x : Value} {y : DataW H × List MemPlace} (ht : Try.prog.underlying t = some (.slice e)) (h : DataW.trod enc Try.prog W 0 (fun _ => true) true n t [x] = some y) :
    ∃ a l c, x = .slice a l c ∧ DataW.Trod enc Try.prog W 0 (fun _ => true) true t (.slice a l c) y.1 y.2 := by
  rcases DataW.trod_slice ht h with ⟨hx, _⟩ | ⟨a, l, c, _, _, _, _, hx, _⟩
  · cases hx; exact ⟨none, 0, 0, rfl, n, h⟩
  · cases hx; exact ⟨some a, l, c, rfl, n, h⟩
set_option maxRecDepth 5000 in
theorem cell_int {H : Type} {enc : TypeId × Value → H} {W : World} {t : TypeId} {k : IntKind} {n : Nat} {x : Value} {y : DataW H × List MemPlace} (ht : Try.prog.underlying t = some (.int k)) (h : DataW.trod enc Try.prog W 0 (fun _ => true) true n t [x] = some y) :
    ∃ m, x = .int k m ∧ (Lit.int k m).wf = true := by
  obtain ⟨m, hx, _, hw⟩ := DataW.trod_int ht h
  cases hx
  exact ⟨m, rfl, hw⟩
set_option maxRecDepth 5000 in
theorem nat_u8'' {m : Int} (h : (Lit.int .u8 m).wf = true) : ∃ q : Nat, m = (q : Int) ∧ q < 256 := ⟨m.toNat, by have := bounds_u8 h; omega, by have := bounds_u8 h; omega⟩
set_option maxRecDepth 5000 in
theorem nat_u16' {m : Int} (h : (Lit.int .u16 m).wf = true) : ∃ q : Nat, m = (q : Int) ∧ q < 65536 := ⟨m.toNat, by have := bounds_u16 h; omega, by have := bounds_u16 h; omega⟩
set_option maxRecDepth 5000 in
theorem nat_u32' {m : Int} (h : (Lit.int .u32 m).wf = true) : ∃ q : Nat, m = (q : Int) ∧ q < 4294967296 := ⟨m.toNat, by have := bounds_u32 h; omega, by have := bounds_u32 h; omega⟩
set_option maxRecDepth 5000 in
theorem struct_fields {H : Type} {enc : TypeId × Value → H} {W : World} {t : TypeId} {fs : Array Field} {cs : Array Value} {d : DataW H} {p : List MemPlace} (ht : Try.prog.underlying t = some (.struct fs)) (hone : oneCellFields Try.prog fs = true) (hC : Try.prog.cellsOf t = fs.size)
    (h : DataW.Trod enc Try.prog W 0 (fun _ => true) true t (.agg cs) d p) : cs.size = fs.size ∧ ∃ (n : Nat) (Y : Nat → DataW H × List MemPlace), ∀ (i : Nat) (f : Field), fs[i]? = some f → DataW.trod enc Try.prog W 0 (fun _ => true) true n f.type [cs.toList.getD i undef] = some (Y i) := by
  obtain ⟨fuel, hf⟩ := h
  have hf' : DataW.trod enc Try.prog W 0 (fun _ => true) true fuel t cs.toList = some (d, p) := by simpa [Value.cells] using hf
  obtain ⟨xs, n, _, _, hl, hxl, hg⟩ := DataW.trod_struct ht hf'
  rw [hC] at hl
  refine ⟨by simpa using hl, n, fun i => xs.getD i (.nil, []), fun i f hi => ?_⟩
  have hlt : i < fs.size := (Array.getElem?_eq_some_iff.1 hi).1
  obtain ⟨ho, hc1⟩ := hone_of hone i f hi
  have g := hg i f hi
  rw [ho, hc1, take1_drop cs.toList i undef (by omega)] at g
  rw [g]
  simp [List.getD, List.getElem?_eq_getElem (show i < xs.length by omega)]
set_option maxRecDepth 5000 in
theorem open_Config {H : Type} {enc : TypeId × Value → H} {W : World} {cs : Array Value} {d : DataW H} {p : List MemPlace} (h : DataW.Trod enc Try.prog W 0 (fun _ => true) true 28 (.agg cs) d p) :
    ∃ (x : C.Cf) (a0 a9 : Option Addr) (la c0 ls c9 : Nat), cs = #[.slice a0 la c0, .int .u32 (x.k : Int), .int .u32 (x.p : Int), .int .u32 (x.d : Int), .int .u32 (x.e : Int), .int .u32 (x.v : Int), .int .u32 (x.l : Int), .int .u32 (x.g : Int), .int .u32 (x.m : Int), .slice a9 ls c9, .int .u16 (x.it : Int), .int .i64 x.h, .int .u16 (x.sz : Int)] ∧ C.Ok x ∧ x.apex.length = la ∧ x.salt.length = ls ∧ SlS W a0 x.apex ∧ SlL W a9 x.salt ∧ (a9 = none → c9 = 0) ∧ la ≤ 9223372036854775807 ∧ ls ≤ 9223372036854775807 := by
  obtain ⟨hz, n, Y, hf⟩ := struct_fields Try.underlying28 (by kernel_rfl) (by kernel_rfl) h
  obtain ⟨l⟩ := cs
  replace hz : l.length = 13 := hz
  match l, hz with
  | [x0, x1, x2, x3, x4, x5, x6, x7, x8, x9, x10, x11, x12], _ =>
    obtain ⟨a0, l0, c0, rfl, t0⟩ := cell_slice Try.underlying23 (hf 0 _ rfl)
    obtain ⟨n0, hl0, s0, _, e0, g0⟩ := open_name t0
    obtain ⟨m1, rfl, w1⟩ := cell_int Try.underlying24 (hf 1 _ rfl)
    obtain ⟨q1, rfl, b1⟩ := nat_u32' w1
    obtain ⟨m2, rfl, w2⟩ := cell_int Try.underlying24 (hf 2 _ rfl)
    obtain ⟨q2, rfl, b2⟩ := nat_u32' w2
    obtain ⟨m3, rfl, w3⟩ := cell_int Try.underlying24 (hf 3 _ rfl)
    obtain ⟨q3, rfl, b3⟩ := nat_u32' w3
    obtain ⟨m4, rfl, w4⟩ := cell_int Try.underlying24 (hf 4 _ rfl)
    obtain ⟨q4, rfl, b4⟩ := nat_u32' w4
    obtain ⟨m5, rfl, w5⟩ := cell_int Try.underlying24 (hf 5 _ rfl)
    obtain ⟨q5, rfl, b5⟩ := nat_u32' w5
    obtain ⟨m6, rfl, w6⟩ := cell_int Try.underlying24 (hf 6 _ rfl)
    obtain ⟨q6, rfl, b6⟩ := nat_u32' w6
    obtain ⟨m7, rfl, w7⟩ := cell_int Try.underlying24 (hf 7 _ rfl)
    obtain ⟨q7, rfl, b7⟩ := nat_u32' w7
    obtain ⟨m8, rfl, w8⟩ := cell_int Try.underlying24 (hf 8 _ rfl)
    obtain ⟨q8, rfl, b8⟩ := nat_u32' w8
    obtain ⟨a9, l9, c9, rfl, t9⟩ := cell_slice Try.underlying25 (hf 9 _ rfl)
    obtain ⟨n9, hl9, s9, z9, e9, g9⟩ := open_bytes t9
    obtain ⟨m10, rfl, w10⟩ := cell_int Try.underlying26 (hf 10 _ rfl)
    obtain ⟨q10, rfl, b10⟩ := nat_u16' w10
    obtain ⟨m11, rfl, w11⟩ := cell_int Try.underlying3 (hf 11 _ rfl)
    have b11 := bounds_i64 w11
    obtain ⟨m12, rfl, w12⟩ := cell_int Try.underlying26 (hf 12 _ rfl)
    obtain ⟨q12, rfl, b12⟩ := nat_u16' w12
    exact ⟨⟨n0, q1, q2, q3, q4, q5, q6, q7, q8, n9, q10, m11, q12⟩, a0, a9, l0, c0, l9, c9, rfl, ⟨b1, b2, b3, b4, b5, b6, b7, b8, b10, b12, b11.1, b11.2⟩, hl0, hl9, s0, s9, z9, Nat.le_trans e0 g0, (by unfold maxLen at g9; omega)⟩
end Go.Proofs.Ytfkkaegebpckmaa
