/- Settings, plain; a struct of settings in memory; config.Check. -/
import Derived.Test.YtfkkaegebpckmaaNum
namespace Go.Proofs.Ytfkkaegebpckmaa
open Go.RowKit
namespace C
structure Cf where
  apex : List (List UInt8)
  k : Nat
  p : Nat
  d : Nat
  e : Nat
  v : Nat
  l : Nat
  g : Nat
  m : Nat
  salt : List UInt8
  it : Nat
  h : Int
  sz : Nat
structure Ok (x : Cf) : Prop where
  k : x.k < 4294967296
  p : x.p < 4294967296
  d : x.d < 4294967296
  e : x.e < 4294967296
  v : x.v < 4294967296
  l : x.l < 4294967296
  g : x.g < 4294967296
  m : x.m < 4294967296
  it : x.it < 65536
  sz : x.sz < 65536
  h0 : -9223372036854775808 ≤ x.h
  h1 : x.h ≤ 9223372036854775807
/- the times are at most 2^24 -/
def Times (x : Cf) : Prop := x.k ≤ 16777216 ∧ x.p ≤ 16777216 ∧ x.d ≤ 16777216 ∧ x.e ≤ 16777216 ∧ x.m ≤ 16777216 ∧ x.g ≤ 16777216 ∧ x.l ≤ 16777216 ∧ x.v ≤ 16777216
/- settings that may be -/
def Good (x : Cf) : Prop := N.chk x.apex = 0 ∧ x.apex.length ≠ 0 ∧ N.size x.apex ≤ 200 ∧ Times x ∧ 1 ≤ x.k ∧ x.k ≤ x.m ∧ x.m + x.g < x.l ∧ x.l + x.g < x.v ∧ x.salt.length ≤ 16 ∧ x.it ≤ 50 ∧ 0 ≤ x.h ∧ x.h ≤ 10 ∧ 512 ≤ x.sz
set_option maxRecDepth 5000 in
theorem max2_nat (x y : Nat) : Builtin.max2 (.int .u32 (x : Int)) (.int .u32 (y : Int)) = pure (.int .u32 ((max x y : Nat) : Int)) := by
  have : (if (y : Int) > (x : Int) then (y : Int) else (x : Int)) = ((max x y : Nat) : Int) := by split <;> omega
  simp only [Builtin.max2, this]
set_option maxRecDepth 5000 in
theorem run_max (a b c d e f g h : Nat) : ∃ M : Nat, Builtin.max_ #[24, 24, 24, 24, 24, 24, 24, 24] 24 #[.int .u32 (a : Int), .int .u32 (b : Int), .int .u32 (c : Int), .int .u32 (d : Int), .int .u32 (e : Int), .int .u32 (f : Int), .int .u32 (g : Int), .int .u32 (h : Int)] = pure (.int .u32 (M : Int)) ∧ (M ≤ 16777216 ↔ (a ≤ 16777216 ∧ b ≤ 16777216 ∧ c ≤ 16777216 ∧ d ≤ 16777216 ∧ e ≤ 16777216 ∧ f ≤ 16777216 ∧ g ≤ 16777216 ∧ h ≤ 16777216)) := by
  refine ⟨max (max (max (max (max (max (max a b) c) d) e) f) g) h, ?_, by omega⟩
  simp only [Builtin.max_, List.foldlM, max2_nat, pure_bind]
set_option maxRecDepth 5000 in
theorem run_clip (h : Int) : ∃ H1 H2 : Int, Builtin.max_ #[3, 3] 3 #[.int .i64 h, .int .i64 0] = pure (.int .i64 H1) ∧ Builtin.min_ #[3, 3] 3 #[.int .i64 H1, .int .i64 10] = pure (.int .i64 H2) ∧ (h = H2 ↔ 0 ≤ h ∧ h ≤ 10) := by
  refine ⟨if 0 > h then 0 else h, if 10 < (if 0 > h then 0 else h) then 10 else (if 0 > h then 0 else h), ?_, ?_, ?_⟩
  · simp only [Builtin.max_, List.foldlM, Builtin.max2, pure_bind]
  · simp only [Builtin.min_, List.foldlM, Builtin.min2, pure_bind]
  · split <;> split <;> omega
/- what is asked, in the words of the code -/
set_option maxRecDepth 5000 in
theorem good_iff {x : Cf} {ck H2 : Int} {la SZ M ls : Nat} (h1 : N.chk x.apex = ck) (h2 : x.apex.length = la) (h3 : N.size x.apex = SZ) (h4 : M ≤ 16777216 ↔ Times x) (h5 : x.salt.length = ls) (h6 : x.h = H2 ↔ 0 ≤ x.h ∧ x.h ≤ 10) :
    (Good x ↔ (ck = 0 ∧ la ≠ 0 ∧ SZ ≤ 200 ∧ M ≤ 16777216 ∧ 1 ≤ x.k ∧ x.k ≤ x.m ∧ x.m + x.g < x.l ∧ x.l + x.g < x.v ∧ ls ≤ 16 ∧ x.it ≤ 50 ∧ x.h = H2 ∧ 512 ≤ x.sz)) ∧ (M ≤ 16777216 → x.m ≤ 16777216 ∧ x.g ≤ 16777216 ∧ x.l ≤ 16777216) := by
  unfold Good
  rw [h1, h2, h3, h5, h4, h6]
  refine ⟨⟨fun ⟨a, b, c, d, e, f, g, h, i, j, k, l, m⟩ => ⟨a, b, c, d, e, f, g, h, i, j, ⟨k, l⟩, m⟩, fun ⟨a, b, c, d, e, f, g, h, i, j, ⟨k, l⟩, m⟩ => ⟨a, b, c, d, e, f, g, h, i, j, k, l, m⟩⟩, fun h => ⟨h.2.2.2.2.1, h.2.2.2.2.2.1, h.2.2.2.2.2.2.1⟩⟩
end C
/- the struct of settings at block g -/
def CfAt (w : World) (g : Nat) (x : C.Cf) (a0 a9 : Option Addr) (la c0 ls c9 : Nat) : Prop := RowAt w g 28 #[.slice a0 la c0, .int .u32 (x.k : Int), .int .u32 (x.p : Int), .int .u32 (x.d : Int), .int .u32 (x.e : Int), .int .u32 (x.v : Int), .int .u32 (x.l : Int), .int .u32 (x.g : Int), .int .u32 (x.m : Int), .slice a9 ls c9, .int .u16 (x.it : Int), .int .i64 x.h, .int .u16 (x.sz : Int)]
set_option maxRecDepth 5000 in
theorem CfAt.cells {w : World} {g : Nat} {x : C.Cf} {a0 a9 : Option Addr} {la c0 ls c9 : Nat} (h : CfAt w g x a0 a9 la c0 ls c9) :
    w.cell? ⟨g, 0, none⟩ = some (.slice a0 la c0) ∧ w.cell? ⟨g, 1, none⟩ = some (.int .u32 (x.k : Int)) ∧ w.cell? ⟨g, 2, none⟩ = some (.int .u32 (x.p : Int)) ∧ w.cell? ⟨g, 3, none⟩ = some (.int .u32 (x.d : Int)) ∧ w.cell? ⟨g, 4, none⟩ = some (.int .u32 (x.e : Int)) ∧ w.cell? ⟨g, 5, none⟩ = some (.int .u32 (x.v : Int)) ∧ w.cell? ⟨g, 6, none⟩ = some (.int .u32 (x.l : Int)) ∧ w.cell? ⟨g, 7, none⟩ = some (.int .u32 (x.g : Int)) ∧ w.cell? ⟨g, 8, none⟩ = some (.int .u32 (x.m : Int)) ∧ w.cell? ⟨g, 9, none⟩ = some (.slice a9 ls c9) ∧ w.cell? ⟨g, 10, none⟩ = some (.int .u16 (x.it : Int)) ∧ w.cell? ⟨g, 11, none⟩ = some (.int .i64 x.h) ∧ w.cell? ⟨g, 12, none⟩ = some (.int .u16 (x.sz : Int)) := by
  have h' : RowAt w g 28 #[.slice a0 la c0, .int .u32 (x.k : Int), .int .u32 (x.p : Int), .int .u32 (x.d : Int), .int .u32 (x.e : Int), .int .u32 (x.v : Int), .int .u32 (x.l : Int), .int .u32 (x.g : Int), .int .u32 (x.m : Int), .slice a9 ls c9, .int .u16 (x.it : Int), .int .i64 x.h, .int .u16 (x.sz : Int)] := h
  exact ⟨h'.cell 0, h'.cell 1, h'.cell 2, h'.cell 3, h'.cell 4, h'.cell 5, h'.cell 6, h'.cell 7, h'.cell 8, h'.cell 9, h'.cell 10, h'.cell 11, h'.cell 12⟩
set_option maxRecDepth 5000 in
theorem CfAt.below {w w' : World} {B g : Nat} {x : C.Cf} {a0 a9 : Option Addr} {la c0 ls c9 : Nat} (h : CfAt w g x a0 a9 la c0 ls c9) (hb : Below B w w') (hg : g < B) : CfAt w' g x a0 a9 la c0 ls c9 := RowAt.below h hb hg
set_option maxRecDepth 5000 in
theorem CfAt.new (w : World) (x : C.Cf) (a0 a9 : Option Addr) (la c0 ls c9 : Nat) : CfAt (w.alloc (.cells #[.slice a0 la c0, .int .u32 (x.k : Int), .int .u32 (x.p : Int), .int .u32 (x.d : Int), .int .u32 (x.e : Int), .int .u32 (x.v : Int), .int .u32 (x.l : Int), .int .u32 (x.g : Int), .int .u32 (x.m : Int), .slice a9 ls c9, .int .u16 (x.it : Int), .int .i64 x.h, .int .u16 (x.sz : Int)] 28)) w.heap.size x a0 a9 la c0 ls c9 := RowAt.new _ _ _
end Go.Proofs.Ytfkkaegebpckmaa
