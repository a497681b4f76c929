/- Structs that came in, opened. -/
import Derived.Test.YtagopkmehlpjpaaArgs
import Derived.Test.YtagopkmehlpjpaaDat
import Derived.Deep.Fields
namespace Go.Proofs.Ytagopkmehlpjpaa
open Go.ChangeShapes Go.WideShapes Go.ChangeAt Go.WideMaps Go.WideElems Go.RowKit Go.Deep
set_option maxRecDepth 5000 in
theorem cell_slice {H : Type} {enc : TypeId × Value → H} {W : World} {t e : TypeId} {n : Nat} {x : Value} {y : DataW H × List MemPlace} (ht : Try.prog.underlying t = some (.slice e)) (h : DataW.trod enc Try.prog W 0 (fun _ => true) true n t [x] = some y) :
    ∃ a l c, x = .slice a l c ∧ DataW.Trod enc Try.prog W 0 (fun _ => true) true t (.slice a l c) y.1 y.2 := by
  rcases DataW.trod_slice ht h with ⟨hx, _⟩ | ⟨a, l, c, _, _, _, _, hx, _⟩
  · cases hx; exact ⟨none, 0, 0, rfl, n, h⟩
  · cases hx; exact ⟨some a, l, c, rfl, n, h⟩
set_option maxRecDepth 5000 in
theorem cell_int {H : Type} {enc : TypeId × Value → H} {W : World} {t : TypeId} {k : IntKind} {n : Nat} {x : Value} {y : DataW H × List MemPlace} (ht : Try.prog.underlying t = some (.int k)) (h : DataW.trod enc Try.prog W 0 (fun _ => true) true n t [x] = some y) :
    ∃ m, x = .int k m ∧ (Lit.int k m).wf = true := by
  obtain ⟨m, hx, _, hw⟩ := DataW.trod_int ht h
  cases hx
  exact ⟨m, rfl, hw⟩
set_option maxRecDepth 5000 in
theorem nat_u8' {m : Int} (h : (Lit.int .u8 m).wf = true) : ∃ q : Nat, m = (q : Int) ∧ q < 256 := ⟨m.toNat, by have := bounds_u8 h; omega, by have := bounds_u8 h; omega⟩
set_option maxRecDepth 5000 in
theorem nat_u16' {m : Int} (h : (Lit.int .u16 m).wf = true) : ∃ q : Nat, m = (q : Int) ∧ q < 65536 := ⟨m.toNat, by have := bounds_u16 h; omega, by have := bounds_u16 h; omega⟩
set_option maxRecDepth 5000 in
theorem nat_u32' {m : Int} (h : (Lit.int .u32 m).wf = true) : ∃ q : Nat, m = (q : Int) ∧ q < 4294967296 := ⟨m.toNat, by have := bounds_u32 h; omega, by have := bounds_u32 h; omega⟩
set_option maxRecDepth 5000 in
theorem struct_fields {H : Type} {enc : TypeId × Value → H} {W : World} {t : TypeId} {fs : Array Field} {cs : Array Value} {d : DataW H} {p : List MemPlace} (ht : Try.prog.underlying t = some (.struct fs)) (hone : oneCellFields Try.prog fs = true) (hC : Try.prog.cellsOf t = fs.size)
    (h : DataW.Trod enc Try.prog W 0 (fun _ => true) true t (.agg cs) d p) : cs.size = fs.size ∧ ∃ (n : Nat) (Y : Nat → DataW H × List MemPlace), ∀ (i : Nat) (f : Field), fs[i]? = some f → DataW.trod enc Try.prog W 0 (fun _ => true) true n f.type [cs.toList.getD i undef] = some (Y i) := by
  obtain ⟨fuel, hf⟩ := h
  have hf' : DataW.trod enc Try.prog W 0 (fun _ => true) true fuel t cs.toList = some (d, p) := by simpa [Value.cells] using hf
  obtain ⟨xs, n, _, _, hl, hxl, hg⟩ := DataW.trod_struct ht hf'
  rw [hC] at hl
  refine ⟨by simpa using hl, n, fun i => xs.getD i (.nil, []), fun i f hi => ?_⟩
  have hlt : i < fs.size := (Array.getElem?_eq_some_iff.1 hi).1
  obtain ⟨ho, hc1⟩ := hone_of hone i f hi
  have g := hg i f hi
  rw [ho, hc1, take1_drop cs.toList i undef (by omega)] at g
  rw [g]
  simp [List.getD, List.getElem?_eq_getElem (show i < xs.length by omega)]
set_option maxRecDepth 5000 in
theorem open_Soa {H : Type} {enc : TypeId × Value → H} {W : World} {cs : Array Value} {d : DataW H} {p : List MemPlace} (h : DataW.Trod enc Try.prog W 0 (fun _ => true) true 43 (.agg cs) d p) :
    ∃ (s : D.Soa) (a0 a1 : Option Addr) (c0 c1 : Nat), cs = #[.slice a0 s.main.length c0, .slice a1 s.box.length c1, .int .u32 (s.a : Int), .int .u32 (s.b : Int), .int .u32 (s.c : Int), .int .u32 (s.d : Int), .int .u32 (s.e : Int)] ∧ SlS W a0 s.main ∧ SlS W a1 s.box ∧ s.main.length ≤ 9223372036854775807 ∧ s.box.length ≤ 9223372036854775807 ∧ s.a < 4294967296 ∧ s.b < 4294967296 ∧ s.c < 4294967296 ∧ s.d < 4294967296 ∧ s.e < 4294967296 := by
  obtain ⟨hz, n, Y, hf⟩ := struct_fields Try.underlying43 (by kernel_rfl) (by kernel_rfl) h
  obtain ⟨l⟩ := cs
  replace hz : l.length = 7 := hz
  match l, hz with
  | [x0, x1, x2, x3, x4, x5, x6], _ =>
    obtain ⟨a0, l0, c0, rfl, t0⟩ := cell_slice Try.underlying31 (hf 0 _ rfl)
    obtain ⟨n0, rfl, s0, _, e0, g0⟩ := open_name t0
    obtain ⟨a1, l1, c1, rfl, t1⟩ := cell_slice Try.underlying31 (hf 1 _ rfl)
    obtain ⟨n1, rfl, s1, _, e1, g1⟩ := open_name t1
    obtain ⟨m2, rfl, w2⟩ := cell_int Try.underlying41 (hf 2 _ rfl)
    obtain ⟨q2, rfl, b2⟩ := nat_u32' w2
    obtain ⟨m3, rfl, w3⟩ := cell_int Try.underlying41 (hf 3 _ rfl)
    obtain ⟨q3, rfl, b3⟩ := nat_u32' w3
    obtain ⟨m4, rfl, w4⟩ := cell_int Try.underlying41 (hf 4 _ rfl)
    obtain ⟨q4, rfl, b4⟩ := nat_u32' w4
    obtain ⟨m5, rfl, w5⟩ := cell_int Try.underlying41 (hf 5 _ rfl)
    obtain ⟨q5, rfl, b5⟩ := nat_u32' w5
    obtain ⟨m6, rfl, w6⟩ := cell_int Try.underlying41 (hf 6 _ rfl)
    obtain ⟨q6, rfl, b6⟩ := nat_u32' w6
    exact ⟨⟨n0, n1, q2, q3, q4, q5, q6⟩, a0, a1, c0, c1, rfl, s0, s1, Nat.le_trans e0 g0, Nat.le_trans e1 g1, b2, b3, b4, b5, b6⟩
set_option maxRecDepth 5000 in
theorem open_Sig {H : Type} {enc : TypeId × Value → H} {W : World} {cs : Array Value} {d : DataW H} {p : List MemPlace} (h : DataW.Trod enc Try.prog W 0 (fun _ => true) true 51 (.agg cs) d p) :
    ∃ (g : D.Sig) (a7 a8 : Option Addr) (c7 c8 : Nat), cs = #[.int .u16 (g.type : Int), .int .u8 (g.alg : Int), .int .u8 (g.labels : Int), .int .u32 (g.ttl : Int), .int .u32 (g.expire : Int), .int .u32 (g.begin_ : Int), .int .u16 (g.tag : Int), .slice a7 g.signer.length c7, .slice a8 g.sig.length c8] ∧ SlS W a7 g.signer ∧ SlL W a8 g.sig ∧ (a8 = none → c8 = 0) ∧ g.signer.length ≤ 9223372036854775807 ∧ g.sig.length ≤ 9223372036854775807 ∧ g.type < 65536 ∧ g.alg < 256 ∧ g.labels < 256 ∧ g.ttl < 4294967296 ∧ g.expire < 4294967296 ∧ g.begin_ < 4294967296 ∧ g.tag < 65536 := by
  obtain ⟨hz, n, Y, hf⟩ := struct_fields Try.underlying51 (by kernel_rfl) (by kernel_rfl) h
  obtain ⟨l⟩ := cs
  replace hz : l.length = 9 := hz
  match l, hz with
  | [x0, x1, x2, x3, x4, x5, x6, x7, x8], _ =>
    obtain ⟨m0, rfl, w0⟩ := cell_int Try.underlying22 (hf 0 _ rfl)
    obtain ⟨q0, rfl, b0⟩ := nat_u16' w0
    obtain ⟨m1, rfl, w1⟩ := cell_int Try.underlying5 (hf 1 _ rfl)
    obtain ⟨q1, rfl, b1⟩ := nat_u8' w1
    obtain ⟨m2, rfl, w2⟩ := cell_int Try.underlying5 (hf 2 _ rfl)
    obtain ⟨q2, rfl, b2⟩ := nat_u8' w2
    obtain ⟨m3, rfl, w3⟩ := cell_int Try.underlying41 (hf 3 _ rfl)
    obtain ⟨q3, rfl, b3⟩ := nat_u32' w3
    obtain ⟨m4, rfl, w4⟩ := cell_int Try.underlying41 (hf 4 _ rfl)
    obtain ⟨q4, rfl, b4⟩ := nat_u32' w4
    obtain ⟨m5, rfl, w5⟩ := cell_int Try.underlying41 (hf 5 _ rfl)
    obtain ⟨q5, rfl, b5⟩ := nat_u32' w5
    obtain ⟨m6, rfl, w6⟩ := cell_int Try.underlying22 (hf 6 _ rfl)
    obtain ⟨q6, rfl, b6⟩ := nat_u16' w6
    obtain ⟨a7, l7, c7, rfl, t7⟩ := cell_slice Try.underlying31 (hf 7 _ rfl)
    obtain ⟨n7, rfl, s7, _, e7, g7⟩ := open_name t7
    obtain ⟨a8, l8, c8, rfl, t8⟩ := cell_slice Try.underlying23 (hf 8 _ rfl)
    obtain ⟨n8, rfl, s8, z8, e8, g8⟩ := open_bytes t8
    exact ⟨⟨q0, q1, q2, q3, q4, q5, q6, n7, n8⟩, a7, a8, c7, c8, rfl, s7, s8, z8, Nat.le_trans e7 g7, (by unfold maxLen at g8; show n8.length ≤ _; omega), b0, b1, b2, b3, b4, b5, b6⟩
set_option maxRecDepth 5000 in
theorem open_Chain {H : Type} {enc : TypeId × Value → H} {W : World} {cs : Array Value} {d : DataW H} {p : List MemPlace} (h : DataW.Trod enc Try.prog W 0 (fun _ => true) true 60 (.agg cs) d p) :
    ∃ (c : D.Chain) (a3 a4 a5 : Option Addr) (c3 c4 c5 : Nat), cs = #[.int .u8 (c.hash : Int), .int .u8 (c.flags : Int), .int .u16 (c.iter : Int), .slice a3 c.salt.length c3, .slice a4 c.next.length c4, .slice a5 c.types.length c5] ∧ SlL W a3 c.salt ∧ SlL W a4 c.next ∧ SlH W a5 c.types ∧ (a3 = none → c3 = 0) ∧ (a4 = none → c4 = 0) ∧ (a5 = none → c5 = 0) ∧ c.salt.length ≤ 9223372036854775807 ∧ c.next.length ≤ 9223372036854775807 ∧ c.types.length ≤ 9223372036854775807 ∧ c.hash < 256 ∧ c.flags < 256 ∧ c.iter < 65536 := by
  obtain ⟨hz, n, Y, hf⟩ := struct_fields Try.underlying60 (by kernel_rfl) (by kernel_rfl) h
  obtain ⟨l⟩ := cs
  replace hz : l.length = 6 := hz
  match l, hz with
  | [x0, x1, x2, x3, x4, x5], _ =>
    obtain ⟨m0, rfl, w0⟩ := cell_int Try.underlying5 (hf 0 _ rfl)
    obtain ⟨q0, rfl, b0⟩ := nat_u8' w0
    obtain ⟨m1, rfl, w1⟩ := cell_int Try.underlying5 (hf 1 _ rfl)
    obtain ⟨q1, rfl, b1⟩ := nat_u8' w1
    obtain ⟨m2, rfl, w2⟩ := cell_int Try.underlying22 (hf 2 _ rfl)
    obtain ⟨q2, rfl, b2⟩ := nat_u16' w2
    obtain ⟨a3, l3, c3, rfl, t3⟩ := cell_slice Try.underlying23 (hf 3 _ rfl)
    obtain ⟨n3, rfl, s3, z3, e3, g3⟩ := open_bytes t3
    obtain ⟨a4, l4, c4, rfl, t4⟩ := cell_slice Try.underlying23 (hf 4 _ rfl)
    obtain ⟨n4, rfl, s4, z4, e4, g4⟩ := open_bytes t4
    obtain ⟨a5, l5, c5, rfl, t5⟩ := cell_slice Try.underlying58 (hf 5 _ rfl)
    obtain ⟨n5, rfl, s5, z5, e5, g5⟩ := open_words t5
    exact ⟨⟨q0, q1, q2, n3, n4, n5⟩, a3, a4, a5, c3, c4, c5, rfl, s3, s4, s5, z3, z4, z5, (by unfold maxLen at g3; show n3.length ≤ _; omega), (by unfold maxLen at g4; show n4.length ≤ _; omega), (by unfold maxLen at g5; show n5.length ≤ _; omega), b0, b1, b2⟩
set_option maxRecDepth 5000 in
theorem open_KeyData {H : Type} {enc : TypeId × Value → H} {W : World} {cs : Array Value} {d : DataW H} {p : List MemPlace} (h : DataW.Trod enc Try.prog W 0 (fun _ => true) true 68 (.agg cs) d p) :
    ∃ (k : D.Key) (a3 : Option Addr) (c3 : Nat), cs = #[.int .u16 (k.flags : Int), .int .u8 (k.proto : Int), .int .u8 (k.alg : Int), .slice a3 k.key.length c3] ∧ SlL W a3 k.key ∧ (a3 = none → c3 = 0) ∧ k.key.length ≤ 9223372036854775807 ∧ k.flags < 65536 ∧ k.proto < 256 ∧ k.alg < 256 := by
  obtain ⟨hz, n, Y, hf⟩ := struct_fields Try.underlying68 (by kernel_rfl) (by kernel_rfl) h
  obtain ⟨l⟩ := cs
  replace hz : l.length = 4 := hz
  match l, hz with
  | [x0, x1, x2, x3], _ =>
    obtain ⟨m0, rfl, w0⟩ := cell_int Try.underlying22 (hf 0 _ rfl)
    obtain ⟨q0, rfl, b0⟩ := nat_u16' w0
    obtain ⟨m1, rfl, w1⟩ := cell_int Try.underlying5 (hf 1 _ rfl)
    obtain ⟨q1, rfl, b1⟩ := nat_u8' w1
    obtain ⟨m2, rfl, w2⟩ := cell_int Try.underlying5 (hf 2 _ rfl)
    obtain ⟨q2, rfl, b2⟩ := nat_u8' w2
    obtain ⟨a3, l3, c3, rfl, t3⟩ := cell_slice Try.underlying23 (hf 3 _ rfl)
    obtain ⟨n3, rfl, s3, z3, e3, g3⟩ := open_bytes t3
    exact ⟨⟨q0, q1, q2, n3⟩, a3, c3, rfl, s3, z3, (by unfold maxLen at g3; show n3.length ≤ _; omega), b0, b1, b2⟩
end Go.Proofs.Ytagopkmehlpjpaa
