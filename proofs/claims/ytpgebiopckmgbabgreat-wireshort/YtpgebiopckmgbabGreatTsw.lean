/- The law WireShort: the walk. -/
import Derived.Test.YtpgebiopckmgbabGreatOrd
import Derived.Test.YtpgebiopckmgbabGreatRdn
import Derived.Test.YtpgebiopckmgbabGreatHrc
import Derived.Test.YtpgebiopckmgbabGreatPlc
import Derived.Test.YtpgebiopckmgbabGreatKnw
import Derived.Laws.DeepStrings4
namespace Go.Proofs.YtpgebiopckmgbabGreat
open Go.RowKit
set_option maxRecDepth 5000 in
theorem gt0 {α : Type} (x0 : α) (l : List α) : (List.toArray (x0 :: l))[0]? = some x0 := rfl
set_option maxRecDepth 5000 in
theorem gt1 {α : Type} (x0 x1 : α) (l : List α) : (List.toArray (x0 :: x1 :: l))[1]? = some x1 := rfl
set_option maxRecDepth 5000 in
theorem gt2 {α : Type} (x0 x1 x2 : α) (l : List α) : (List.toArray (x0 :: x1 :: x2 :: l))[2]? = some x2 := rfl
set_option maxRecDepth 5000 in
theorem gt3 {α : Type} (x0 x1 x2 x3 : α) (l : List α) : (List.toArray (x0 :: x1 :: x2 :: x3 :: l))[3]? = some x3 := rfl
set_option maxRecDepth 5000 in
theorem gt4 {α : Type} (x0 x1 x2 x3 x4 : α) (l : List α) : (List.toArray (x0 :: x1 :: x2 :: x3 :: x4 :: l))[4]? = some x4 := rfl
set_option maxRecDepth 5000 in
theorem gt5 {α : Type} (x0 x1 x2 x3 x4 x5 : α) (l : List α) : (List.toArray (x0 :: x1 :: x2 :: x3 :: x4 :: x5 :: l))[5]? = some x5 := rfl
set_option maxRecDepth 5000 in
theorem gt6 {α : Type} (x0 x1 x2 x3 x4 x5 x6 : α) (l : List α) : (List.toArray (x0 :: x1 :: x2 :: x3 :: x4 :: x5 :: x6 :: l))[6]? = some x6 := rfl
set_option maxRecDepth 5000 in
theorem gt7 {α : Type} (x0 x1 x2 x3 x4 x5 x6 x7 : α) (l : List α) : (List.toArray (x0 :: x1 :: x2 :: x3 :: x4 :: x5 :: x6 :: x7 :: l))[7]? = some x7 := rfl
set_option maxRecDepth 5000 in
theorem gt8 {α : Type} (x0 x1 x2 x3 x4 x5 x6 x7 x8 : α) (l : List α) : (List.toArray (x0 :: x1 :: x2 :: x3 :: x4 :: x5 :: x6 :: x7 :: x8 :: l))[8]? = some x8 := rfl
set_option maxRecDepth 5000 in
theorem gt9 {α : Type} (x0 x1 x2 x3 x4 x5 x6 x7 x8 x9 : α) (l : List α) : (List.toArray (x0 :: x1 :: x2 :: x3 :: x4 :: x5 :: x6 :: x7 :: x8 :: x9 :: l))[9]? = some x9 := rfl
set_option maxRecDepth 5000 in
theorem gt10 {α : Type} (x0 x1 x2 x3 x4 x5 x6 x7 x8 x9 x10 : α) (l : List α) : (List.toArray (x0 :: x1 :: x2 :: x3 :: x4 :: x5 :: x6 :: x7 :: x8 :: x9 :: x10 :: l))[10]? = some x10 := rfl
set_option maxRecDepth 5000 in
theorem gt11 {α : Type} (x0 x1 x2 x3 x4 x5 x6 x7 x8 x9 x10 x11 : α) (l : List α) : (List.toArray (x0 :: x1 :: x2 :: x3 :: x4 :: x5 :: x6 :: x7 :: x8 :: x9 :: x10 :: x11 :: l))[11]? = some x11 := rfl
set_option maxRecDepth 5000 in
theorem gt12 {α : Type} (x0 x1 x2 x3 x4 x5 x6 x7 x8 x9 x10 x11 x12 : α) (l : List α) : (List.toArray (x0 :: x1 :: x2 :: x3 :: x4 :: x5 :: x6 :: x7 :: x8 :: x9 :: x10 :: x11 :: x12 :: l))[12]? = some x12 := rfl
set_option maxRecDepth 5000 in
theorem gt13 {α : Type} (x0 x1 x2 x3 x4 x5 x6 x7 x8 x9 x10 x11 x12 x13 : α) (l : List α) : (List.toArray (x0 :: x1 :: x2 :: x3 :: x4 :: x5 :: x6 :: x7 :: x8 :: x9 :: x10 :: x11 :: x12 :: x13 :: l))[13]? = some x13 := rfl
set_option maxRecDepth 5000 in
theorem gt14 {α : Type} (x0 x1 x2 x3 x4 x5 x6 x7 x8 x9 x10 x11 x12 x13 x14 : α) (l : List α) : (List.toArray (x0 :: x1 :: x2 :: x3 :: x4 :: x5 :: x6 :: x7 :: x8 :: x9 :: x10 :: x11 :: x12 :: x13 :: x14 :: l))[14]? = some x14 := rfl
set_option maxRecDepth 5000 in
theorem gt15 {α : Type} (x0 x1 x2 x3 x4 x5 x6 x7 x8 x9 x10 x11 x12 x13 x14 x15 : α) (l : List α) : (List.toArray (x0 :: x1 :: x2 :: x3 :: x4 :: x5 :: x6 :: x7 :: x8 :: x9 :: x10 :: x11 :: x12 :: x13 :: x14 :: x15 :: l))[15]? = some x15 := rfl
set_option maxRecDepth 5000 in
theorem gt16 {α : Type} (x0 x1 x2 x3 x4 x5 x6 x7 x8 x9 x10 x11 x12 x13 x14 x15 x16 : α) (l : List α) : (List.toArray (x0 :: x1 :: x2 :: x3 :: x4 :: x5 :: x6 :: x7 :: x8 :: x9 :: x10 :: x11 :: x12 :: x13 :: x14 :: x15 :: x16 :: l))[16]? = some x16 := rfl
set_option maxRecDepth 5000 in
theorem gt17 {α : Type} (x0 x1 x2 x3 x4 x5 x6 x7 x8 x9 x10 x11 x12 x13 x14 x15 x16 x17 : α) (l : List α) : (List.toArray (x0 :: x1 :: x2 :: x3 :: x4 :: x5 :: x6 :: x7 :: x8 :: x9 :: x10 :: x11 :: x12 :: x13 :: x14 :: x15 :: x16 :: x17 :: l))[17]? = some x17 := rfl
set_option maxRecDepth 5000 in
theorem gt18 {α : Type} (x0 x1 x2 x3 x4 x5 x6 x7 x8 x9 x10 x11 x12 x13 x14 x15 x16 x17 x18 : α) (l : List α) : (List.toArray (x0 :: x1 :: x2 :: x3 :: x4 :: x5 :: x6 :: x7 :: x8 :: x9 :: x10 :: x11 :: x12 :: x13 :: x14 :: x15 :: x16 :: x17 :: x18 :: l))[18]? = some x18 := rfl
set_option maxRecDepth 5000 in
theorem gt19 {α : Type} (x0 x1 x2 x3 x4 x5 x6 x7 x8 x9 x10 x11 x12 x13 x14 x15 x16 x17 x18 x19 : α) (l : List α) : (List.toArray (x0 :: x1 :: x2 :: x3 :: x4 :: x5 :: x6 :: x7 :: x8 :: x9 :: x10 :: x11 :: x12 :: x13 :: x14 :: x15 :: x16 :: x17 :: x18 :: x19 :: l))[19]? = some x19 := rfl
set_option maxRecDepth 5000 in
theorem gt20 {α : Type} (x0 x1 x2 x3 x4 x5 x6 x7 x8 x9 x10 x11 x12 x13 x14 x15 x16 x17 x18 x19 x20 : α) (l : List α) : (List.toArray (x0 :: x1 :: x2 :: x3 :: x4 :: x5 :: x6 :: x7 :: x8 :: x9 :: x10 :: x11 :: x12 :: x13 :: x14 :: x15 :: x16 :: x17 :: x18 :: x19 :: x20 :: l))[20]? = some x20 := rfl
set_option maxRecDepth 5000 in
theorem gt21 {α : Type} (x0 x1 x2 x3 x4 x5 x6 x7 x8 x9 x10 x11 x12 x13 x14 x15 x16 x17 x18 x19 x20 x21 : α) (l : List α) : (List.toArray (x0 :: x1 :: x2 :: x3 :: x4 :: x5 :: x6 :: x7 :: x8 :: x9 :: x10 :: x11 :: x12 :: x13 :: x14 :: x15 :: x16 :: x17 :: x18 :: x19 :: x20 :: x21 :: l))[21]? = some x21 := rfl
set_option maxRecDepth 5000 in
theorem gt22 {α : Type} (x0 x1 x2 x3 x4 x5 x6 x7 x8 x9 x10 x11 x12 x13 x14 x15 x16 x17 x18 x19 x20 x21 x22 : α) (l : List α) : (List.toArray (x0 :: x1 :: x2 :: x3 :: x4 :: x5 :: x6 :: x7 :: x8 :: x9 :: x10 :: x11 :: x12 :: x13 :: x14 :: x15 :: x16 :: x17 :: x18 :: x19 :: x20 :: x21 :: x22 :: l))[22]? = some x22 := rfl
set_option maxRecDepth 5000 in
theorem gt23 {α : Type} (x0 x1 x2 x3 x4 x5 x6 x7 x8 x9 x10 x11 x12 x13 x14 x15 x16 x17 x18 x19 x20 x21 x22 x23 : α) (l : List α) : (List.toArray (x0 :: x1 :: x2 :: x3 :: x4 :: x5 :: x6 :: x7 :: x8 :: x9 :: x10 :: x11 :: x12 :: x13 :: x14 :: x15 :: x16 :: x17 :: x18 :: x19 :: x20 :: x21 :: x22 :: x23 :: l))[23]? = some x23 := rfl
set_option maxRecDepth 5000 in
theorem gt24 {α : Type} (x0 x1 x2 x3 x4 x5 x6 x7 x8 x9 x10 x11 x12 x13 x14 x15 x16 x17 x18 x19 x20 x21 x22 x23 x24 : α) (l : List α) : (List.toArray (x0 :: x1 :: x2 :: x3 :: x4 :: x5 :: x6 :: x7 :: x8 :: x9 :: x10 :: x11 :: x12 :: x13 :: x14 :: x15 :: x16 :: x17 :: x18 :: x19 :: x20 :: x21 :: x22 :: x23 :: x24 :: l))[24]? = some x24 := rfl
set_option maxRecDepth 5000 in
theorem gt25 {α : Type} (x0 x1 x2 x3 x4 x5 x6 x7 x8 x9 x10 x11 x12 x13 x14 x15 x16 x17 x18 x19 x20 x21 x22 x23 x24 x25 : α) (l : List α) : (List.toArray (x0 :: x1 :: x2 :: x3 :: x4 :: x5 :: x6 :: x7 :: x8 :: x9 :: x10 :: x11 :: x12 :: x13 :: x14 :: x15 :: x16 :: x17 :: x18 :: x19 :: x20 :: x21 :: x22 :: x23 :: x24 :: x25 :: l))[25]? = some x25 := rfl
set_option maxRecDepth 5000 in
theorem gt26 {α : Type} (x0 x1 x2 x3 x4 x5 x6 x7 x8 x9 x10 x11 x12 x13 x14 x15 x16 x17 x18 x19 x20 x21 x22 x23 x24 x25 x26 : α) (l : List α) : (List.toArray (x0 :: x1 :: x2 :: x3 :: x4 :: x5 :: x6 :: x7 :: x8 :: x9 :: x10 :: x11 :: x12 :: x13 :: x14 :: x15 :: x16 :: x17 :: x18 :: x19 :: x20 :: x21 :: x22 :: x23 :: x24 :: x25 :: x26 :: l))[26]? = some x26 := rfl
set_option maxRecDepth 5000 in
theorem gt27 {α : Type} (x0 x1 x2 x3 x4 x5 x6 x7 x8 x9 x10 x11 x12 x13 x14 x15 x16 x17 x18 x19 x20 x21 x22 x23 x24 x25 x26 x27 : α) (l : List α) : (List.toArray (x0 :: x1 :: x2 :: x3 :: x4 :: x5 :: x6 :: x7 :: x8 :: x9 :: x10 :: x11 :: x12 :: x13 :: x14 :: x15 :: x16 :: x17 :: x18 :: x19 :: x20 :: x21 :: x22 :: x23 :: x24 :: x25 :: x26 :: x27 :: l))[27]? = some x27 := rfl
set_option maxRecDepth 5000 in
theorem gt28 {α : Type} (x0 x1 x2 x3 x4 x5 x6 x7 x8 x9 x10 x11 x12 x13 x14 x15 x16 x17 x18 x19 x20 x21 x22 x23 x24 x25 x26 x27 x28 : α) (l : List α) : (List.toArray (x0 :: x1 :: x2 :: x3 :: x4 :: x5 :: x6 :: x7 :: x8 :: x9 :: x10 :: x11 :: x12 :: x13 :: x14 :: x15 :: x16 :: x17 :: x18 :: x19 :: x20 :: x21 :: x22 :: x23 :: x24 :: x25 :: x26 :: x27 :: x28 :: l))[28]? = some x28 := rfl
set_option maxRecDepth 5000 in
theorem gt29 {α : Type} (x0 x1 x2 x3 x4 x5 x6 x7 x8 x9 x10 x11 x12 x13 x14 x15 x16 x17 x18 x19 x20 x21 x22 x23 x24 x25 x26 x27 x28 x29 : α) (l : List α) : (List.toArray (x0 :: x1 :: x2 :: x3 :: x4 :: x5 :: x6 :: x7 :: x8 :: x9 :: x10 :: x11 :: x12 :: x13 :: x14 :: x15 :: x16 :: x17 :: x18 :: x19 :: x20 :: x21 :: x22 :: x23 :: x24 :: x25 :: x26 :: x27 :: x28 :: x29 :: l))[29]? = some x29 := rfl
set_option maxRecDepth 5000 in
theorem gt30 {α : Type} (x0 x1 x2 x3 x4 x5 x6 x7 x8 x9 x10 x11 x12 x13 x14 x15 x16 x17 x18 x19 x20 x21 x22 x23 x24 x25 x26 x27 x28 x29 x30 : α) (l : List α) : (List.toArray (x0 :: x1 :: x2 :: x3 :: x4 :: x5 :: x6 :: x7 :: x8 :: x9 :: x10 :: x11 :: x12 :: x13 :: x14 :: x15 :: x16 :: x17 :: x18 :: x19 :: x20 :: x21 :: x22 :: x23 :: x24 :: x25 :: x26 :: x27 :: x28 :: x29 :: x30 :: l))[30]? = some x30 := rfl
set_option maxRecDepth 5000 in
theorem gt31 {α : Type} (x0 x1 x2 x3 x4 x5 x6 x7 x8 x9 x10 x11 x12 x13 x14 x15 x16 x17 x18 x19 x20 x21 x22 x23 x24 x25 x26 x27 x28 x29 x30 x31 : α) (l : List α) : (List.toArray (x0 :: x1 :: x2 :: x3 :: x4 :: x5 :: x6 :: x7 :: x8 :: x9 :: x10 :: x11 :: x12 :: x13 :: x14 :: x15 :: x16 :: x17 :: x18 :: x19 :: x20 :: x21 :: x22 :: x23 :: x24 :: x25 :: x26 :: x27 :: x28 :: x29 :: x30 :: x31 :: l))[31]? = some x31 := rfl
set_option maxRecDepth 5000 in
theorem gt32 {α : Type} (x0 x1 x2 x3 x4 x5 x6 x7 x8 x9 x10 x11 x12 x13 x14 x15 x16 x17 x18 x19 x20 x21 x22 x23 x24 x25 x26 x27 x28 x29 x30 x31 x32 : α) (l : List α) : (List.toArray (x0 :: x1 :: x2 :: x3 :: x4 :: x5 :: x6 :: x7 :: x8 :: x9 :: x10 :: x11 :: x12 :: x13 :: x14 :: x15 :: x16 :: x17 :: x18 :: x19 :: x20 :: x21 :: x22 :: x23 :: x24 :: x25 :: x26 :: x27 :: x28 :: x29 :: x30 :: x31 :: x32 :: l))[32]? = some x32 := rfl
set_option maxRecDepth 5000 in
theorem gt33 {α : Type} (x0 x1 x2 x3 x4 x5 x6 x7 x8 x9 x10 x11 x12 x13 x14 x15 x16 x17 x18 x19 x20 x21 x22 x23 x24 x25 x26 x27 x28 x29 x30 x31 x32 x33 : α) (l : List α) : (List.toArray (x0 :: x1 :: x2 :: x3 :: x4 :: x5 :: x6 :: x7 :: x8 :: x9 :: x10 :: x11 :: x12 :: x13 :: x14 :: x15 :: x16 :: x17 :: x18 :: x19 :: x20 :: x21 :: x22 :: x23 :: x24 :: x25 :: x26 :: x27 :: x28 :: x29 :: x30 :: x31 :: x32 :: x33 :: l))[33]? = some x33 := rfl
set_option maxRecDepth 5000 in
theorem gt34 {α : Type} (x0 x1 x2 x3 x4 x5 x6 x7 x8 x9 x10 x11 x12 x13 x14 x15 x16 x17 x18 x19 x20 x21 x22 x23 x24 x25 x26 x27 x28 x29 x30 x31 x32 x33 x34 : α) (l : List α) : (List.toArray (x0 :: x1 :: x2 :: x3 :: x4 :: x5 :: x6 :: x7 :: x8 :: x9 :: x10 :: x11 :: x12 :: x13 :: x14 :: x15 :: x16 :: x17 :: x18 :: x19 :: x20 :: x21 :: x22 :: x23 :: x24 :: x25 :: x26 :: x27 :: x28 :: x29 :: x30 :: x31 :: x32 :: x33 :: x34 :: l))[34]? = some x34 := rfl
set_option maxRecDepth 5000 in
theorem rcs_s (k i j : Nat) (b : Nat) (a5 : Option Addr) (c5 : Nat) : rcs ⟨some ⟨b, 0, none⟩, 1, a5, c5, M.sRec k i j⟩ = [.slice (some ⟨b, 0, none⟩) 1 1, .int .u16 99, .int .u16 1, .int .u32 0, .slice a5 (k + 1) c5] := by
  simp [rcs, M.sRec]
set_option maxRecDepth 5000 in
theorem OwnB.low {w : World} {base base' : Nat} {v : Value} {l : List UInt8} (h : OwnB w base v l) (hb : base' ≤ base) : OwnB w base' v l := by
  have h0 : w.ownsRow base 5 1 v l.length (vb l) := h
  refine ⟨h0.1, ?_⟩
  rcases h0.2 with h1 | ⟨g, cap, cur, e, h1, h2, h3⟩
  · exact Or.inl h1
  · exact Or.inr ⟨g, cap, cur, e, Nat.le_trans hb h1, h2, h3⟩
set_option maxRecDepth 5000 in
theorem RowAt.newD (w : World) (t : TypeId) (c : Array Value) (g : Nat) (hg : g = w.heap.size) : RowAt (w.alloc (.cells c t)).drew g t c := by subst hg; exact RowAt.new w t c
set_option maxRecDepth 5000 in
theorem RowAt.alD {w : World} {g : Nat} {t : TypeId} {c : Array Value} (h : RowAt w.drew g t c) (o : Obj) : RowAt (w.alloc o).drew g t c := by
  have h' : RowAt w g t c := h
  exact h'.alloc o
set_option maxRecDepth 5000 in
theorem cut_a (i : Nat) (h : i < 8) : (ByteArray.mk #[97, 98, 99, 100, 101, 102, 103, 104]).extract i (i + 1) = ByteArray.mk #[UInt8.ofNat (97 + i)] := by
  rcases (show i = 0 ∨ i = 1 ∨ i = 2 ∨ i = 3 ∨ i = 4 ∨ i = 5 ∨ i = 6 ∨ i = 7 by omega) with rfl | rfl | rfl | rfl | rfl | rfl | rfl | rfl <;> rfl
set_option maxRecDepth 5000 in
theorem slice_a (i I1 : Nat) (h : i < 8) (h1 : I1 = i + 1) (W : World) : (Instr.slice 9 (.string ⟨#[97, 98, 99, 100, 101, 102, 103, 104]⟩) (some (.int .i64 (i : Int))) (some (.int .i64 (I1 : Int))) none).run Tryz.prog W = .ok (.string ⟨#[UInt8.ofNat (97 + i)]⟩) W := by
  subst h1
  rw [run_slice_string_if W 9 _ .i64 .i64 _ _ Tryz.underlying9, if_pos ⟨by omega, by show ((i + 1 : Nat) : Int) ≤ 8; omega⟩, if_pos ⟨by omega, by omega⟩, Int.toNat_natCast, Int.toNat_natCast, cut_a i h]
set_option maxRecDepth 5000 in
theorem g7_s (tc : Bool) : M.g7 (M.fl 0 0 true false tc false false) = ((0 : Nat) : Int) := by cases tc <;> decide +kernel
set_option maxRecDepth 5000 in
theorem g4_s (tc : Bool) : M.g4 (M.fl 0 0 true false tc false false) = tc := by cases tc <;> decide +kernel
set_option maxRecDepth 3000 in
set_option maxHeartbeats 8000000 in
theorem short_walk (n k : Nat) (size : Int) (w : World) (hn : n < 256) (hk : k < 256) :
    Calls Tryz.prog 5 #[.int .u8 (n : Int), .int .u8 (k : Int), .int .i64 size] w fun e w' => e = .returned (.bool true) ∧ Below w.heap.size w w' := by
  obtain ⟨q, hq⟩ : ∃ q : Nat, (n : Int) % 8 = (q : Int) := ⟨n % 8, by omega⟩
  have hq7 : q ≤ 7 := by omega
  go_enter Tryz.func5, Tryz.ntmps5
  go_wp2_with fail
  refine (known_any _).mono ?_
  rintro e w1 ⟨rfl, hb1⟩
  have SX : Hid (TI w1.heap.size w (M.sAll k 0) (w1.alloc (.cells #[.int .u16 0, .bool true, .int .i64 0, .bool false, .bool false, .bool false, .bool false, .int .i64 0, .slice none 0 0, .slice none 0 0, .slice none 0 0, .slice none 0 0, .bool false, .int .u16 0, .bool false] 32)) (.slice none 0 0) []) := ⟨RowAt.new w1 32 _, World.ownsRow_nil _ _ _ _, rfl, fun x hx => (by cases hx), hb1.alloc hb1.size _, hb1.size⟩
  have hmB := hb1.size
  clear hb1
  go_wp2
  generalize w1.heap.size = mB at SX hmB ⊢
  go_loopw [8] (fun u wx => ∃ (i : Nat) (va : Value) (L : List RX), u = .int .i64 (i : Int) ∧ i ≤ q ∧ Hid (TI mB w (M.sAll k i) wx va L)) (fun u _ => q - (intOf u).toNat)
  case atStart => exact ⟨0, _, _, rfl, by omega, SX⟩
  case round =>
    clear SX
    obtain ⟨i, va, L, rfl, hi, HI⟩ := hrel
    by_cases hiq : i < q
    · obtain ⟨r3, hr3⟩ : ∃ r3 : Nat, (i : Int) % 3 = (r3 : Int) := ⟨i % 3, by omega⟩
      have hr3' : Int.tmod (i : Int) 3 = (r3 : Int) := by rw [Int.tmod_eq_emod_of_nonneg (by omega)]; exact hr3
      have hr32 : r3 ≤ 2 := by omega
      have HR3 : Hid (1 + i % 3 = 1 + r3) := by show _ = _; omega
      have hiq' : (i : Int) < (q : Int) := by omega
      go_wp2
      go_loopw [9] (fun u wx => ∃ (j : Nat) (va : Value) (L : List RX), u = .int .i64 (j : Int) ∧ j ≤ 1 + r3 ∧ Hid (TI mB w (M.sAll k i ++ M.sRow k i j) wx va L)) (fun u _ => 1 + r3 - (intOf u).toNat)
      case atStart => exact ⟨0, va, L, rfl, by omega, by show TI _ _ _ _ _ _; rw [show M.sRow k i 0 = [] from rfl, List.append_nil]; exact HI.out⟩
      case round =>
        clear HI va L
        obtain ⟨j, va, L, rfl, hj, HI⟩ := hrel
        have hzr := HI.out.bel.size
        have hLL : L.length ≤ 40 := by
          have h1 := congrArg List.length HI.out.rs
          rw [List.length_map, List.length_append, M.sAll_len] at h1
          have h2 := M.cnt_le i (by omega)
          have h3 : (M.sRow k i j).length = j := by simp [M.sRow]
          omega
        by_cases hjk : j < 1 + r3
        · have hj1 : (j : Int) < 1 + (r3 : Int) := by omega
          obtain ⟨va1, va2, rfl, _⟩ := HI.out.own.form3
          obtain ⟨LN, HLN⟩ : ∃ LN, Hid (L.length = LN) := ⟨_, rfl⟩
          rw [HLN.out] at HI hLL
          have hkw : IntKind.i64.wrap (k : Int) = (k : Int) := by rw [IntKind.wrap_i64]; omega
          have hjw : IntKind.u8.wrap (j : Int) = (j : Int) := by rw [IntKind.wrap_u8]; omega
          obtain ⟨I1, hI1⟩ : ∃ I1 : Nat, I1 = i + 1 := ⟨_, rfl⟩
          have hiw : IntKind.i64.wrap ((i : Int) + 1) = (I1 : Int) := by rw [IntKind.wrap_i64]; omega
          have hsl := slice_a i I1 (by omega) hI1
          clear hI1
          have hmk := run_make_row' (P := Tryz.prog) 33 5 (.int .u8 0) 1 Tryz.underlying33 infoB rfl .i64 .i64 k (by omega) (by omega)
          obtain ⟨CH, HCH⟩ : ∃ CH, Hid (UInt8.ofNat (97 + i) = CH) := ⟨_, rfl⟩
          rw [HCH.out] at hsl
          have HNM : Hid ((M.sRec k i j).name = [[CH]]) := by show _ = _; rw [← HCH.out]; rfl
          have HD2 : Hid ((M.sRec k i j).data.length = k + 1) := by show _ = _; simp [M.sRec]
          have HDL : Hid ((M.sRec k i j).data = List.replicate k 0 ++ [UInt8.ofNat j]) := rfl
          have SAll : Hid (∀ w', Below wr.heap.size wr w' → w'.cell? ⟨mB, 9, none⟩ = some (.slice va1 LN va2)) := fun w' hb => (hb.cell (p := ⟨mB, 9, none⟩) HI.out.msg.lt).trans (HI.out.msg.cell 9)
          go_wp2
          refine wp_region_X (S := fun w' => w'.cell? ⟨mB, 9, none⟩ = some (.slice va1 LN va2)) (jS := 18) (by kernel_rfl) ?_
          have BX0 : Hid (Below wr.heap.size wr wr.drew) := (Below.refl _ _).drew
          generalize wr.drew = wx0 at BX0 ⊢
          refine wpAnyX_take (i := 0) (v := ?v1) (gt0 _ _) (by kernel_rfl) (by kernel_rfl) (by kernel_rfl) (by kernel_rfl) (fun _ _ _ h => h) (Or.inl ⟨by rfl, ?hy1⟩) (SAll.out _ BX0.out) ?rest1
          case hy1 => (intro w0 hSw; (try dsimp only at hSw); go_simp; try (with_reducible rfl))
          case' rest1 => try simp only [Act.put, List.setIfInBounds_toArray, List.set_cons_zero, List.set_cons_succ]
          refine wpAnyX_take (i := 1) (v := ?v2) (gt1 _ _ _) (by kernel_rfl) (by kernel_rfl) (by kernel_rfl) (by kernel_rfl) (fun _ _ _ h => h) (Or.inl ⟨by rfl, ?hy2⟩) (SAll.out _ BX0.out) ?rest2
          case hy2 => (intro w0 hSw; (try dsimp only at hSw); go_simp; try (with_reducible rfl))
          case' rest2 => try simp only [Act.put, List.setIfInBounds_toArray, List.set_cons_zero, List.set_cons_succ]
          refine wpAnyX_take (i := 2) (v := ?v3) (gt2 _ _ _ _) (by kernel_rfl) (by kernel_rfl) (by kernel_rfl) (by kernel_rfl) (fun _ _ _ h => h) (Or.inl ⟨by rfl, ?hy3⟩) (SAll.out _ BX0.out) ?rest3
          case hy3 => (intro w0 hSw; (try dsimp only at hSw); go_simp; try (with_reducible rfl))
          case' rest3 => try simp only [Act.put, List.setIfInBounds_toArray, List.set_cons_zero, List.set_cons_succ]
          refine wpAnyX_take (i := 3) (v := ?v4) (gt3 _ _ _ _ _) (by kernel_rfl) (by kernel_rfl) (by kernel_rfl) (by kernel_rfl) (fun _ _ _ h => h) (Or.inl ⟨by rfl, ?hy4⟩) (SAll.out _ BX0.out) ?rest4
          case hy4 => (intro w0 hSw; (try dsimp only at hSw); go_simp; try (with_reducible rfl))
          case' rest4 => try simp only [Act.put, List.setIfInBounds_toArray, List.set_cons_zero, List.set_cons_succ]
          refine wpAnyX_take (i := 4) (v := ?v5) (gt4 _ _ _ _ _ _) (by kernel_rfl) (by kernel_rfl) (by kernel_rfl) (by kernel_rfl) (fun _ _ _ h => h) (Or.inl ⟨by rfl, ?hy5⟩) (SAll.out _ BX0.out) ?rest5
          case hy5 => (intro w0 hSw; (try dsimp only at hSw); go_simp; try (with_reducible rfl))
          case' rest5 => try simp only [Act.put, List.setIfInBounds_toArray, List.set_cons_zero, List.set_cons_succ]
          refine wpAnyX_take (i := 5) (v := ?v6) (gt5 _ _ _ _ _ _ _) (by kernel_rfl) (by kernel_rfl) (by kernel_rfl) (by kernel_rfl) (fun _ _ _ h => h) (Or.inl ⟨by rfl, ?hy6⟩) (SAll.out _ BX0.out) ?rest6
          case hy6 => (intro w0 hSw; (try dsimp only at hSw); go_simp; try (with_reducible rfl))
          case' rest6 => try simp only [Act.put, List.setIfInBounds_toArray, List.set_cons_zero, List.set_cons_succ]
          refine wpAnyX_take (i := 7) (v := ?v7) (gt7 _ _ _ _ _ _ _ _ _) (by kernel_rfl) (by kernel_rfl) (by kernel_rfl) (by kernel_rfl) (fun _ _ _ h => h) (Or.inl ⟨by rfl, ?hy7⟩) (SAll.out _ BX0.out) ?rest7
          case hy7 => (intro w0 hSw; (try dsimp only at hSw); go_simp; try (with_reducible rfl))
          case' rest7 => try simp only [Act.put, List.setIfInBounds_toArray, List.set_cons_zero, List.set_cons_succ]
          refine wpAnyX_take (i := 8) (v := ?v8) (gt8 _ _ _ _ _ _ _ _ _ _) (by kernel_rfl) (by kernel_rfl) (by kernel_rfl) (by kernel_rfl) (fun _ _ _ h => h) (Or.inl ⟨by rfl, ?hy8⟩) (SAll.out _ BX0.out) ?rest8
          case hy8 => (intro w0 hSw; (try dsimp only at hSw); go_simp; try (with_reducible rfl))
          case' rest8 => try simp only [Act.put, List.setIfInBounds_toArray, List.set_cons_zero, List.set_cons_succ]
          refine wpAnyX_take (i := 10) (v := ?v9) (gt10 _ _ _ _ _ _ _ _ _ _ _ _) (by kernel_rfl) (by kernel_rfl) (by kernel_rfl) (by kernel_rfl) (fun _ _ _ h => h) (Or.inl ⟨by rfl, ?hy9⟩) (SAll.out _ BX0.out) ?rest9
          case hy9 => (intro w0 hSw; (try dsimp only at hSw); go_simp; try (with_reducible rfl))
          case' rest9 => try simp only [Act.put, List.setIfInBounds_toArray, List.set_cons_zero, List.set_cons_succ]
          refine wpAnyX_take (i := 11) (v := ?v10) (gt11 _ _ _ _ _ _ _ _ _ _ _ _ _) (by kernel_rfl) (by kernel_rfl) (by kernel_rfl) (by kernel_rfl) (fun _ _ _ h => h) (Or.inl ⟨by rfl, ?hy10⟩) (SAll.out _ BX0.out) ?rest10
          case hy10 => (intro w0 hSw; (try dsimp only at hSw); go_simp; try (with_reducible rfl))
          case' rest10 => try simp only [Act.put, List.setIfInBounds_toArray, List.set_cons_zero, List.set_cons_succ]
          refine wpAnyX_ready (rs := [6, 9, 12]) (by kernel_rfl) (by simp) (AllX.cons (gt6 _ _ _ _ _ _ _ _) (fun K hKK => ?br11) (AllX.cons (gt9 _ _ _ _ _ _ _ _ _ _ _) (fun K hKK => ?br12) (AllX.cons (gt12 _ _ _ _ _ _ _ _ _ _ _ _ _ _) (fun K hKK => ?br13) AllX.nil)))
          case br11 =>
            go_simp
            have NR := hide (RowAt.new wx0 9 #[.string ⟨#[CH]⟩])
            have BX1 := hide (BX0.out.alloc BX0.out.size (.cells #[.string ⟨#[CH]⟩] 9))
            have nbg : wr.heap.size ≤ wx0.heap.size := BX0.out.size
            generalize wx0.heap.size = nb at NR nbg ⊢
            generalize wx0.alloc (.cells #[.string ⟨#[CH]⟩] 9) = wx1 at NR BX1 ⊢
            refine hKK.out _ _ (Or.inr (SAll.out _ BX1.out)) ?_
            clear hKK
            try simp only [Act.put, List.setIfInBounds_toArray, List.set_cons_zero, List.set_cons_succ]
            refine wpAnyX_ready (rs := [9, 12]) (by kernel_rfl) (by simp) (AllX.cons (gt9 _ _ _ _ _ _ _ _ _ _ _) (fun K hKK => ?br14) (AllX.cons (gt12 _ _ _ _ _ _ _ _ _ _ _ _ _ _) (fun K hKK => ?br15) AllX.nil))
            case br14 =>
              go_simp
              have ZR := hide (RowAt.new wx1 5 (madeCells #[.int .u8 0] k))
              replace NR := hide (NR.out.alloc (.cells (madeCells #[.int .u8 0] k) 5))
              have BX2 := hide (BX1.out.alloc BX1.out.size (.cells (madeCells #[.int .u8 0] k) 5))
              have gzg : wr.heap.size ≤ wx1.heap.size := BX1.out.size
              generalize wx1.heap.size = gz at ZR gzg ⊢
              generalize wx1.alloc (.cells (madeCells #[.int .u8 0] k) 5) = wx2 at NR ZR BX2 ⊢
              refine hKK.out _ _ (Or.inr (SAll.out _ BX2.out)) ?_
              clear hKK
              try simp only [Act.put, List.setIfInBounds_toArray, List.set_cons_zero, List.set_cons_succ]
              refine wpAnyX_ready (rs := [12]) (by kernel_rfl) (by simp) (AllX.cons (gt12 _ _ _ _ _ _ _ _ _ _ _ _ _ _) (fun K hKK => ?br16) AllX.nil)
              case br16 =>
                go_simp
                have BR := hide (RowAt.new wx2 5 #[.int .u8 (j : Int)])
                replace NR := hide (NR.out.alloc (.cells #[.int .u8 (j : Int)] 5))
                replace ZR := hide (ZR.out.alloc (.cells #[.int .u8 (j : Int)] 5))
                have BX3 := hide (BX2.out.alloc BX2.out.size (.cells #[.int .u8 (j : Int)] 5))
                have gbg : wr.heap.size ≤ wx2.heap.size := BX2.out.size
                generalize wx2.heap.size = gb at BR gbg ⊢
                generalize wx2.alloc (.cells #[.int .u8 (j : Int)] 5) = wx3 at NR ZR BR BX3 ⊢
                refine hKK.out _ _ (Or.inr (SAll.out _ BX3.out)) ?_
                clear hKK
                try simp only [Act.put, List.setIfInBounds_toArray, List.set_cons_zero, List.set_cons_succ]
                refine wpAnyX_ready (rs := [13]) (by kernel_rfl) (by simp) (AllX.cons (gt13 _ _ _ _ _ _ _ _ _ _ _ _ _ _ _) (fun K hKK => ?br17) AllX.nil)
                case br17 =>
                  refine step_app45 rfl (.tmp 41) (.tmp 44) rfl k j wr.heap.size gz gb wr rfl rfl ZR.out BR.out (by omega) (by omega) gzg BX3.out (Nat.le_refl _) ?_
                  intro a5 c5 wx4 hO5 hB5 hU5
                  have O5 := hide hO5
                  have BX4 := hide hB5
                  replace NR := hide (hU5 _ _ NR.out)
                  clear hO5 hB5 hU5 ZR BR
                  refine hKK.out _ _ (Or.inr (SAll.out _ BX4.out)) ?_
                  clear hKK
                  try simp only [Act.put, List.setIfInBounds_toArray, List.set_cons_zero, List.set_cons_succ]
                  refine wpAnyX_take (i := 14) (v := ?v18) (gt14 _ _ _ _ _ _ _ _ _ _ _ _ _ _ _ _) (by kernel_rfl) (by kernel_rfl) (by kernel_rfl) (by kernel_rfl) (fun _ _ _ h => h) (Or.inl ⟨by rfl, ?hy18⟩) (SAll.out _ BX4.out) ?rest18
                  case hy18 => (intro w0 hSw; (try dsimp only at hSw); go_simp; try (with_reducible rfl))
                  case' rest18 => try simp only [Act.put, List.setIfInBounds_toArray, List.set_cons_zero, List.set_cons_succ]
                  refine wpAnyX_ready (rs := [15]) (by kernel_rfl) (by simp) (AllX.cons (gt15 _ _ _ _ _ _ _ _ _ _ _ _ _ _ _ _ _) (fun K hKK => ?br19) AllX.nil)
                  case br19 =>
                    go_simp
                    have RR := hide (RowAt.new wx4 39 #[.slice (some ⟨nb, 0, none⟩) 1 1, .int .u16 99, .int .u16 1, .int .u32 0, .slice a5 (k + 1) c5])
                    replace NR := hide (NR.out.alloc (.cells #[.slice (some ⟨nb, 0, none⟩) 1 1, .int .u16 99, .int .u16 1, .int .u32 0, .slice a5 (k + 1) c5] 39))
                    replace O5 := hide (O5.out.alloc (.cells #[.slice (some ⟨nb, 0, none⟩) 1 1, .int .u16 99, .int .u16 1, .int .u32 0, .slice a5 (k + 1) c5] 39))
                    have BX5 := hide (BX4.out.alloc BX4.out.size (.cells #[.slice (some ⟨nb, 0, none⟩) 1 1, .int .u16 99, .int .u16 1, .int .u32 0, .slice a5 (k + 1) c5] 39))
                    generalize wx4.heap.size = gr at RR ⊢
                    generalize wx4.alloc (.cells #[.slice (some ⟨nb, 0, none⟩) 1 1, .int .u16 99, .int .u16 1, .int .u32 0, .slice a5 (k + 1) c5] 39) = wx5 at NR O5 RR BX5 ⊢
                    refine hKK.out _ _ (Or.inr (SAll.out _ BX5.out)) ?_
                    clear hKK
                    try simp only [Act.put, List.setIfInBounds_toArray, List.set_cons_zero, List.set_cons_succ]
                    refine wpAnyX_ready (rs := [16]) (by kernel_rfl) (by simp) (AllX.cons (gt16 _ _ _ _ _ _ _ _ _ _ _ _ _ _ _ _ _ _) (fun K hKK => ?br20) AllX.nil)
                    case br20 =>
                      refine step_app48 rfl (.tmp 33) (.tmp 47) rfl w.heap.size (.slice va1 LN va2) L rfl (own_below (show World.ownsRow _ _ _ _ _ _ _ from HI.out.own) BX5.out) gr rfl (⟨some ⟨nb, 0, none⟩, 1, a5, c5, M.sRec k i j⟩ : RX) _ RR.out (by rw [rcs_s]) (by have := HLN.out; omega) (Nat.le_trans hzr BX5.out.size) ?_
                      intro v8 wx6 hO8 hG8
                      have NS : OwnS wx5 w.heap.size (.slice (some ⟨nb, 0, none⟩) (M.sRec k i j).name.length 1) (M.sRec k i j).name := by rw [HNM.out]; exact ownS_row NR.out (Nat.le_trans hzr nbg)
                      have DT : OwnB wx5 w.heap.size (.slice a5 (M.sRec k i j).data.length c5) (M.sRec k i j).data := by rw [HD2.out, HDL.out]; exact O5.out.low hzr
                      obtain ⟨NX, M8⟩ := HI.out.next (⟨some ⟨nb, 0, none⟩, 1, a5, c5, M.sRec k i j⟩ : RX) BX5.out ⟨⟨w.heap.size, Nat.le_refl _, NS⟩, w.heap.size, Nat.le_refl _, DT⟩ hO8 hG8
                      have N8 := hide NX
                      obtain ⟨a8, c8, rfl, _⟩ := hO8.form3
                      have x9 : wx6.cell? ⟨mB, 9, none⟩ = some (.slice va1 LN va2) := M8.cell 9
                      have f9 := M8.frozen 9
                      clear hO8 hG8 NX M8 NS DT NR O5 RR
                      refine hKK.out _ _ (Or.inr x9) ?_
                      clear hKK
                      try simp only [Act.put, List.setIfInBounds_toArray, List.set_cons_zero, List.set_cons_succ]
                      refine wpAnyX_take (i := 17) (v := ?v21) (gt17 _ _ _ _ _ _ _ _ _ _ _ _ _ _ _ _ _ _ _) (by kernel_rfl) (by kernel_rfl) (by kernel_rfl) (by kernel_rfl) (fun _ _ _ h => h) (Or.inl ⟨by rfl, ?hy21⟩) x9 ?rest21
                      case hy21 => (intro w0 hSw; (try dsimp only at hSw); go_simp; try (with_reducible rfl))
                      case' rest21 => try simp only [Act.put, List.setIfInBounds_toArray, List.set_cons_zero, List.set_cons_succ]
                      refine wpAnyX_ready (rs := [18]) (by kernel_rfl) (by simp) (AllX.cons (gt18 _ _ _ _ _ _ _ _ _ _ _ _ _ _ _ _ _ _ _ _) (fun K hKK => ?br22) AllX.nil)
                      case br22 =>
                        go_simp
                        refine hKK.out _ _ (Or.inl rfl) ?_
                        clear hKK
                        try simp only [Act.put, List.setIfInBounds_toArray, List.set_cons_zero, List.set_cons_succ]
                        refine wpAnyX_done (by kernel_rfl) ?_ _
                        have e8 : (L ++ [(⟨some ⟨nb, 0, none⟩, 1, a5, c5, M.sRec k i j⟩ : RX)]).length = L.length + 1 := by simp
                        rw [e8] at N8
                        go_wp2
                        go_roundw
                        case rel =>
                          first | exact ⟨j + 1, by go_num, by omega, _, L ++ [(⟨some ⟨nb, 0, none⟩, 1, a5, c5, M.sRec k i j⟩ : RX)], by show TI _ _ _ _ _ _; rw [M.sRow_next, ← List.append_assoc]; exact N8.out⟩ | exact ⟨j + 1, _, L ++ [(⟨some ⟨nb, 0, none⟩, 1, a5, c5, M.sRec k i j⟩ : RX)], by go_num, by omega, by show TI _ _ _ _ _ _; rw [M.sRow_next, ← List.append_assoc]; exact N8.out⟩
                        case measure => simp [intOf]; omega
            case br15 =>
              go_simp
              have BR := hide (RowAt.new wx1 5 #[.int .u8 (j : Int)])
              replace NR := hide (NR.out.alloc (.cells #[.int .u8 (j : Int)] 5))
              have BX2 := hide (BX1.out.alloc BX1.out.size (.cells #[.int .u8 (j : Int)] 5))
              have gbg : wr.heap.size ≤ wx1.heap.size := BX1.out.size
              generalize wx1.heap.size = gb at BR gbg ⊢
              generalize wx1.alloc (.cells #[.int .u8 (j : Int)] 5) = wx2 at NR BR BX2 ⊢
              refine hKK.out _ _ (Or.inr (SAll.out _ BX2.out)) ?_
              clear hKK
              try simp only [Act.put, List.setIfInBounds_toArray, List.set_cons_zero, List.set_cons_succ]
              refine wpAnyX_ready (rs := [9]) (by kernel_rfl) (by simp) (AllX.cons (gt9 _ _ _ _ _ _ _ _ _ _ _) (fun K hKK => ?br23) AllX.nil)
              case br23 =>
                go_simp
                have ZR := hide (RowAt.new wx2 5 (madeCells #[.int .u8 0] k))
                replace NR := hide (NR.out.alloc (.cells (madeCells #[.int .u8 0] k) 5))
                replace BR := hide (BR.out.alloc (.cells (madeCells #[.int .u8 0] k) 5))
                have BX3 := hide (BX2.out.alloc BX2.out.size (.cells (madeCells #[.int .u8 0] k) 5))
                have gzg : wr.heap.size ≤ wx2.heap.size := BX2.out.size
                generalize wx2.heap.size = gz at ZR gzg ⊢
                generalize wx2.alloc (.cells (madeCells #[.int .u8 0] k) 5) = wx3 at NR BR ZR BX3 ⊢
                refine hKK.out _ _ (Or.inr (SAll.out _ BX3.out)) ?_
                clear hKK
                try simp only [Act.put, List.setIfInBounds_toArray, List.set_cons_zero, List.set_cons_succ]
                refine wpAnyX_ready (rs := [13]) (by kernel_rfl) (by simp) (AllX.cons (gt13 _ _ _ _ _ _ _ _ _ _ _ _ _ _ _) (fun K hKK => ?br24) AllX.nil)
                case br24 =>
                  refine step_app45 rfl (.tmp 41) (.tmp 44) rfl k j wr.heap.size gz gb wr rfl rfl ZR.out BR.out (by omega) (by omega) gzg BX3.out (Nat.le_refl _) ?_
                  intro a5 c5 wx4 hO5 hB5 hU5
                  have O5 := hide hO5
                  have BX4 := hide hB5
                  replace NR := hide (hU5 _ _ NR.out)
                  clear hO5 hB5 hU5 ZR BR
                  refine hKK.out _ _ (Or.inr (SAll.out _ BX4.out)) ?_
                  clear hKK
                  try simp only [Act.put, List.setIfInBounds_toArray, List.set_cons_zero, List.set_cons_succ]
                  refine wpAnyX_take (i := 14) (v := ?v25) (gt14 _ _ _ _ _ _ _ _ _ _ _ _ _ _ _ _) (by kernel_rfl) (by kernel_rfl) (by kernel_rfl) (by kernel_rfl) (fun _ _ _ h => h) (Or.inl ⟨by rfl, ?hy25⟩) (SAll.out _ BX4.out) ?rest25
                  case hy25 => (intro w0 hSw; (try dsimp only at hSw); go_simp; try (with_reducible rfl))
                  case' rest25 => try simp only [Act.put, List.setIfInBounds_toArray, List.set_cons_zero, List.set_cons_succ]
                  refine wpAnyX_ready (rs := [15]) (by kernel_rfl) (by simp) (AllX.cons (gt15 _ _ _ _ _ _ _ _ _ _ _ _ _ _ _ _ _) (fun K hKK => ?br26) AllX.nil)
                  case br26 =>
                    go_simp
                    have RR := hide (RowAt.new wx4 39 #[.slice (some ⟨nb, 0, none⟩) 1 1, .int .u16 99, .int .u16 1, .int .u32 0, .slice a5 (k + 1) c5])
                    replace NR := hide (NR.out.alloc (.cells #[.slice (some ⟨nb, 0, none⟩) 1 1, .int .u16 99, .int .u16 1, .int .u32 0, .slice a5 (k + 1) c5] 39))
                    replace O5 := hide (O5.out.alloc (.cells #[.slice (some ⟨nb, 0, none⟩) 1 1, .int .u16 99, .int .u16 1, .int .u32 0, .slice a5 (k + 1) c5] 39))
                    have BX5 := hide (BX4.out.alloc BX4.out.size (.cells #[.slice (some ⟨nb, 0, none⟩) 1 1, .int .u16 99, .int .u16 1, .int .u32 0, .slice a5 (k + 1) c5] 39))
                    generalize wx4.heap.size = gr at RR ⊢
                    generalize wx4.alloc (.cells #[.slice (some ⟨nb, 0, none⟩) 1 1, .int .u16 99, .int .u16 1, .int .u32 0, .slice a5 (k + 1) c5] 39) = wx5 at NR O5 RR BX5 ⊢
                    refine hKK.out _ _ (Or.inr (SAll.out _ BX5.out)) ?_
                    clear hKK
                    try simp only [Act.put, List.setIfInBounds_toArray, List.set_cons_zero, List.set_cons_succ]
                    refine wpAnyX_ready (rs := [16]) (by kernel_rfl) (by simp) (AllX.cons (gt16 _ _ _ _ _ _ _ _ _ _ _ _ _ _ _ _ _ _) (fun K hKK => ?br27) AllX.nil)
                    case br27 =>
                      refine step_app48 rfl (.tmp 33) (.tmp 47) rfl w.heap.size (.slice va1 LN va2) L rfl (own_below (show World.ownsRow _ _ _ _ _ _ _ from HI.out.own) BX5.out) gr rfl (⟨some ⟨nb, 0, none⟩, 1, a5, c5, M.sRec k i j⟩ : RX) _ RR.out (by rw [rcs_s]) (by have := HLN.out; omega) (Nat.le_trans hzr BX5.out.size) ?_
                      intro v8 wx6 hO8 hG8
                      have NS : OwnS wx5 w.heap.size (.slice (some ⟨nb, 0, none⟩) (M.sRec k i j).name.length 1) (M.sRec k i j).name := by rw [HNM.out]; exact ownS_row NR.out (Nat.le_trans hzr nbg)
                      have DT : OwnB wx5 w.heap.size (.slice a5 (M.sRec k i j).data.length c5) (M.sRec k i j).data := by rw [HD2.out, HDL.out]; exact O5.out.low hzr
                      obtain ⟨NX, M8⟩ := HI.out.next (⟨some ⟨nb, 0, none⟩, 1, a5, c5, M.sRec k i j⟩ : RX) BX5.out ⟨⟨w.heap.size, Nat.le_refl _, NS⟩, w.heap.size, Nat.le_refl _, DT⟩ hO8 hG8
                      have N8 := hide NX
                      obtain ⟨a8, c8, rfl, _⟩ := hO8.form3
                      have x9 : wx6.cell? ⟨mB, 9, none⟩ = some (.slice va1 LN va2) := M8.cell 9
                      have f9 := M8.frozen 9
                      clear hO8 hG8 NX M8 NS DT NR O5 RR
                      refine hKK.out _ _ (Or.inr x9) ?_
                      clear hKK
                      try simp only [Act.put, List.setIfInBounds_toArray, List.set_cons_zero, List.set_cons_succ]
                      refine wpAnyX_take (i := 17) (v := ?v28) (gt17 _ _ _ _ _ _ _ _ _ _ _ _ _ _ _ _ _ _ _) (by kernel_rfl) (by kernel_rfl) (by kernel_rfl) (by kernel_rfl) (fun _ _ _ h => h) (Or.inl ⟨by rfl, ?hy28⟩) x9 ?rest28
                      case hy28 => (intro w0 hSw; (try dsimp only at hSw); go_simp; try (with_reducible rfl))
                      case' rest28 => try simp only [Act.put, List.setIfInBounds_toArray, List.set_cons_zero, List.set_cons_succ]
                      refine wpAnyX_ready (rs := [18]) (by kernel_rfl) (by simp) (AllX.cons (gt18 _ _ _ _ _ _ _ _ _ _ _ _ _ _ _ _ _ _ _ _) (fun K hKK => ?br29) AllX.nil)
                      case br29 =>
                        go_simp
                        refine hKK.out _ _ (Or.inl rfl) ?_
                        clear hKK
                        try simp only [Act.put, List.setIfInBounds_toArray, List.set_cons_zero, List.set_cons_succ]
                        refine wpAnyX_done (by kernel_rfl) ?_ _
                        have e8 : (L ++ [(⟨some ⟨nb, 0, none⟩, 1, a5, c5, M.sRec k i j⟩ : RX)]).length = L.length + 1 := by simp
                        rw [e8] at N8
                        go_wp2
                        go_roundw
                        case rel =>
                          first | exact ⟨j + 1, by go_num, by omega, _, L ++ [(⟨some ⟨nb, 0, none⟩, 1, a5, c5, M.sRec k i j⟩ : RX)], by show TI _ _ _ _ _ _; rw [M.sRow_next, ← List.append_assoc]; exact N8.out⟩ | exact ⟨j + 1, _, L ++ [(⟨some ⟨nb, 0, none⟩, 1, a5, c5, M.sRec k i j⟩ : RX)], by go_num, by omega, by show TI _ _ _ _ _ _; rw [M.sRow_next, ← List.append_assoc]; exact N8.out⟩
                        case measure => simp [intOf]; omega
          case br12 =>
            go_simp
            have ZR := hide (RowAt.new wx0 5 (madeCells #[.int .u8 0] k))
            have BX1 := hide (BX0.out.alloc BX0.out.size (.cells (madeCells #[.int .u8 0] k) 5))
            have gzg : wr.heap.size ≤ wx0.heap.size := BX0.out.size
            generalize wx0.heap.size = gz at ZR gzg ⊢
            generalize wx0.alloc (.cells (madeCells #[.int .u8 0] k) 5) = wx1 at ZR BX1 ⊢
            refine hKK.out _ _ (Or.inr (SAll.out _ BX1.out)) ?_
            clear hKK
            try simp only [Act.put, List.setIfInBounds_toArray, List.set_cons_zero, List.set_cons_succ]
            refine wpAnyX_ready (rs := [6, 12]) (by kernel_rfl) (by simp) (AllX.cons (gt6 _ _ _ _ _ _ _ _) (fun K hKK => ?br30) (AllX.cons (gt12 _ _ _ _ _ _ _ _ _ _ _ _ _ _) (fun K hKK => ?br31) AllX.nil))
            case br30 =>
              go_simp
              have NR := hide (RowAt.new wx1 9 #[.string ⟨#[CH]⟩])
              replace ZR := hide (ZR.out.alloc (.cells #[.string ⟨#[CH]⟩] 9))
              have BX2 := hide (BX1.out.alloc BX1.out.size (.cells #[.string ⟨#[CH]⟩] 9))
              have nbg : wr.heap.size ≤ wx1.heap.size := BX1.out.size
              generalize wx1.heap.size = nb at NR nbg ⊢
              generalize wx1.alloc (.cells #[.string ⟨#[CH]⟩] 9) = wx2 at ZR NR BX2 ⊢
              refine hKK.out _ _ (Or.inr (SAll.out _ BX2.out)) ?_
              clear hKK
              try simp only [Act.put, List.setIfInBounds_toArray, List.set_cons_zero, List.set_cons_succ]
              refine wpAnyX_ready (rs := [12]) (by kernel_rfl) (by simp) (AllX.cons (gt12 _ _ _ _ _ _ _ _ _ _ _ _ _ _) (fun K hKK => ?br32) AllX.nil)
              case br32 =>
                go_simp
                have BR := hide (RowAt.new wx2 5 #[.int .u8 (j : Int)])
                replace NR := hide (NR.out.alloc (.cells #[.int .u8 (j : Int)] 5))
                replace ZR := hide (ZR.out.alloc (.cells #[.int .u8 (j : Int)] 5))
                have BX3 := hide (BX2.out.alloc BX2.out.size (.cells #[.int .u8 (j : Int)] 5))
                have gbg : wr.heap.size ≤ wx2.heap.size := BX2.out.size
                generalize wx2.heap.size = gb at BR gbg ⊢
                generalize wx2.alloc (.cells #[.int .u8 (j : Int)] 5) = wx3 at NR ZR BR BX3 ⊢
                refine hKK.out _ _ (Or.inr (SAll.out _ BX3.out)) ?_
                clear hKK
                try simp only [Act.put, List.setIfInBounds_toArray, List.set_cons_zero, List.set_cons_succ]
                refine wpAnyX_ready (rs := [13]) (by kernel_rfl) (by simp) (AllX.cons (gt13 _ _ _ _ _ _ _ _ _ _ _ _ _ _ _) (fun K hKK => ?br33) AllX.nil)
                case br33 =>
                  refine step_app45 rfl (.tmp 41) (.tmp 44) rfl k j wr.heap.size gz gb wr rfl rfl ZR.out BR.out (by omega) (by omega) gzg BX3.out (Nat.le_refl _) ?_
                  intro a5 c5 wx4 hO5 hB5 hU5
                  have O5 := hide hO5
                  have BX4 := hide hB5
                  replace NR := hide (hU5 _ _ NR.out)
                  clear hO5 hB5 hU5 ZR BR
                  refine hKK.out _ _ (Or.inr (SAll.out _ BX4.out)) ?_
                  clear hKK
                  try simp only [Act.put, List.setIfInBounds_toArray, List.set_cons_zero, List.set_cons_succ]
                  refine wpAnyX_take (i := 14) (v := ?v34) (gt14 _ _ _ _ _ _ _ _ _ _ _ _ _ _ _ _) (by kernel_rfl) (by kernel_rfl) (by kernel_rfl) (by kernel_rfl) (fun _ _ _ h => h) (Or.inl ⟨by rfl, ?hy34⟩) (SAll.out _ BX4.out) ?rest34
                  case hy34 => (intro w0 hSw; (try dsimp only at hSw); go_simp; try (with_reducible rfl))
                  case' rest34 => try simp only [Act.put, List.setIfInBounds_toArray, List.set_cons_zero, List.set_cons_succ]
                  refine wpAnyX_ready (rs := [15]) (by kernel_rfl) (by simp) (AllX.cons (gt15 _ _ _ _ _ _ _ _ _ _ _ _ _ _ _ _ _) (fun K hKK => ?br35) AllX.nil)
                  case br35 =>
                    go_simp
                    have RR := hide (RowAt.new wx4 39 #[.slice (some ⟨nb, 0, none⟩) 1 1, .int .u16 99, .int .u16 1, .int .u32 0, .slice a5 (k + 1) c5])
                    replace NR := hide (NR.out.alloc (.cells #[.slice (some ⟨nb, 0, none⟩) 1 1, .int .u16 99, .int .u16 1, .int .u32 0, .slice a5 (k + 1) c5] 39))
                    replace O5 := hide (O5.out.alloc (.cells #[.slice (some ⟨nb, 0, none⟩) 1 1, .int .u16 99, .int .u16 1, .int .u32 0, .slice a5 (k + 1) c5] 39))
                    have BX5 := hide (BX4.out.alloc BX4.out.size (.cells #[.slice (some ⟨nb, 0, none⟩) 1 1, .int .u16 99, .int .u16 1, .int .u32 0, .slice a5 (k + 1) c5] 39))
                    generalize wx4.heap.size = gr at RR ⊢
                    generalize wx4.alloc (.cells #[.slice (some ⟨nb, 0, none⟩) 1 1, .int .u16 99, .int .u16 1, .int .u32 0, .slice a5 (k + 1) c5] 39) = wx5 at NR O5 RR BX5 ⊢
                    refine hKK.out _ _ (Or.inr (SAll.out _ BX5.out)) ?_
                    clear hKK
                    try simp only [Act.put, List.setIfInBounds_toArray, List.set_cons_zero, List.set_cons_succ]
                    refine wpAnyX_ready (rs := [16]) (by kernel_rfl) (by simp) (AllX.cons (gt16 _ _ _ _ _ _ _ _ _ _ _ _ _ _ _ _ _ _) (fun K hKK => ?br36) AllX.nil)
                    case br36 =>
                      refine step_app48 rfl (.tmp 33) (.tmp 47) rfl w.heap.size (.slice va1 LN va2) L rfl (own_below (show World.ownsRow _ _ _ _ _ _ _ from HI.out.own) BX5.out) gr rfl (⟨some ⟨nb, 0, none⟩, 1, a5, c5, M.sRec k i j⟩ : RX) _ RR.out (by rw [rcs_s]) (by have := HLN.out; omega) (Nat.le_trans hzr BX5.out.size) ?_
                      intro v8 wx6 hO8 hG8
                      have NS : OwnS wx5 w.heap.size (.slice (some ⟨nb, 0, none⟩) (M.sRec k i j).name.length 1) (M.sRec k i j).name := by rw [HNM.out]; exact ownS_row NR.out (Nat.le_trans hzr nbg)
                      have DT : OwnB wx5 w.heap.size (.slice a5 (M.sRec k i j).data.length c5) (M.sRec k i j).data := by rw [HD2.out, HDL.out]; exact O5.out.low hzr
                      obtain ⟨NX, M8⟩ := HI.out.next (⟨some ⟨nb, 0, none⟩, 1, a5, c5, M.sRec k i j⟩ : RX) BX5.out ⟨⟨w.heap.size, Nat.le_refl _, NS⟩, w.heap.size, Nat.le_refl _, DT⟩ hO8 hG8
                      have N8 := hide NX
                      obtain ⟨a8, c8, rfl, _⟩ := hO8.form3
                      have x9 : wx6.cell? ⟨mB, 9, none⟩ = some (.slice va1 LN va2) := M8.cell 9
                      have f9 := M8.frozen 9
                      clear hO8 hG8 NX M8 NS DT NR O5 RR
                      refine hKK.out _ _ (Or.inr x9) ?_
                      clear hKK
                      try simp only [Act.put, List.setIfInBounds_toArray, List.set_cons_zero, List.set_cons_succ]
                      refine wpAnyX_take (i := 17) (v := ?v37) (gt17 _ _ _ _ _ _ _ _ _ _ _ _ _ _ _ _ _ _ _) (by kernel_rfl) (by kernel_rfl) (by kernel_rfl) (by kernel_rfl) (fun _ _ _ h => h) (Or.inl ⟨by rfl, ?hy37⟩) x9 ?rest37
                      case hy37 => (intro w0 hSw; (try dsimp only at hSw); go_simp; try (with_reducible rfl))
                      case' rest37 => try simp only [Act.put, List.setIfInBounds_toArray, List.set_cons_zero, List.set_cons_succ]
                      refine wpAnyX_ready (rs := [18]) (by kernel_rfl) (by simp) (AllX.cons (gt18 _ _ _ _ _ _ _ _ _ _ _ _ _ _ _ _ _ _ _ _) (fun K hKK => ?br38) AllX.nil)
                      case br38 =>
                        go_simp
                        refine hKK.out _ _ (Or.inl rfl) ?_
                        clear hKK
                        try simp only [Act.put, List.setIfInBounds_toArray, List.set_cons_zero, List.set_cons_succ]
                        refine wpAnyX_done (by kernel_rfl) ?_ _
                        have e8 : (L ++ [(⟨some ⟨nb, 0, none⟩, 1, a5, c5, M.sRec k i j⟩ : RX)]).length = L.length + 1 := by simp
                        rw [e8] at N8
                        go_wp2
                        go_roundw
                        case rel =>
                          first | exact ⟨j + 1, by go_num, by omega, _, L ++ [(⟨some ⟨nb, 0, none⟩, 1, a5, c5, M.sRec k i j⟩ : RX)], by show TI _ _ _ _ _ _; rw [M.sRow_next, ← List.append_assoc]; exact N8.out⟩ | exact ⟨j + 1, _, L ++ [(⟨some ⟨nb, 0, none⟩, 1, a5, c5, M.sRec k i j⟩ : RX)], by go_num, by omega, by show TI _ _ _ _ _ _; rw [M.sRow_next, ← List.append_assoc]; exact N8.out⟩
                        case measure => simp [intOf]; omega
            case br31 =>
              go_simp
              have BR := hide (RowAt.new wx1 5 #[.int .u8 (j : Int)])
              replace ZR := hide (ZR.out.alloc (.cells #[.int .u8 (j : Int)] 5))
              have BX2 := hide (BX1.out.alloc BX1.out.size (.cells #[.int .u8 (j : Int)] 5))
              have gbg : wr.heap.size ≤ wx1.heap.size := BX1.out.size
              generalize wx1.heap.size = gb at BR gbg ⊢
              generalize wx1.alloc (.cells #[.int .u8 (j : Int)] 5) = wx2 at ZR BR BX2 ⊢
              refine hKK.out _ _ (Or.inr (SAll.out _ BX2.out)) ?_
              clear hKK
              try simp only [Act.put, List.setIfInBounds_toArray, List.set_cons_zero, List.set_cons_succ]
              refine wpAnyX_ready (rs := [6, 13]) (by kernel_rfl) (by simp) (AllX.cons (gt6 _ _ _ _ _ _ _ _) (fun K hKK => ?br39) (AllX.cons (gt13 _ _ _ _ _ _ _ _ _ _ _ _ _ _ _) (fun K hKK => ?br40) AllX.nil))
              case br39 =>
                go_simp
                have NR := hide (RowAt.new wx2 9 #[.string ⟨#[CH]⟩])
                replace ZR := hide (ZR.out.alloc (.cells #[.string ⟨#[CH]⟩] 9))
                replace BR := hide (BR.out.alloc (.cells #[.string ⟨#[CH]⟩] 9))
                have BX3 := hide (BX2.out.alloc BX2.out.size (.cells #[.string ⟨#[CH]⟩] 9))
                have nbg : wr.heap.size ≤ wx2.heap.size := BX2.out.size
                generalize wx2.heap.size = nb at NR nbg ⊢
                generalize wx2.alloc (.cells #[.string ⟨#[CH]⟩] 9) = wx3 at ZR BR NR BX3 ⊢
                refine hKK.out _ _ (Or.inr (SAll.out _ BX3.out)) ?_
                clear hKK
                try simp only [Act.put, List.setIfInBounds_toArray, List.set_cons_zero, List.set_cons_succ]
                refine wpAnyX_ready (rs := [13]) (by kernel_rfl) (by simp) (AllX.cons (gt13 _ _ _ _ _ _ _ _ _ _ _ _ _ _ _) (fun K hKK => ?br41) AllX.nil)
                case br41 =>
                  refine step_app45 rfl (.tmp 41) (.tmp 44) rfl k j wr.heap.size gz gb wr rfl rfl ZR.out BR.out (by omega) (by omega) gzg BX3.out (Nat.le_refl _) ?_
                  intro a5 c5 wx4 hO5 hB5 hU5
                  have O5 := hide hO5
                  have BX4 := hide hB5
                  replace NR := hide (hU5 _ _ NR.out)
                  clear hO5 hB5 hU5 ZR BR
                  refine hKK.out _ _ (Or.inr (SAll.out _ BX4.out)) ?_
                  clear hKK
                  try simp only [Act.put, List.setIfInBounds_toArray, List.set_cons_zero, List.set_cons_succ]
                  refine wpAnyX_take (i := 14) (v := ?v42) (gt14 _ _ _ _ _ _ _ _ _ _ _ _ _ _ _ _) (by kernel_rfl) (by kernel_rfl) (by kernel_rfl) (by kernel_rfl) (fun _ _ _ h => h) (Or.inl ⟨by rfl, ?hy42⟩) (SAll.out _ BX4.out) ?rest42
                  case hy42 => (intro w0 hSw; (try dsimp only at hSw); go_simp; try (with_reducible rfl))
                  case' rest42 => try simp only [Act.put, List.setIfInBounds_toArray, List.set_cons_zero, List.set_cons_succ]
                  refine wpAnyX_ready (rs := [15]) (by kernel_rfl) (by simp) (AllX.cons (gt15 _ _ _ _ _ _ _ _ _ _ _ _ _ _ _ _ _) (fun K hKK => ?br43) AllX.nil)
                  case br43 =>
                    go_simp
                    have RR := hide (RowAt.new wx4 39 #[.slice (some ⟨nb, 0, none⟩) 1 1, .int .u16 99, .int .u16 1, .int .u32 0, .slice a5 (k + 1) c5])
                    replace NR := hide (NR.out.alloc (.cells #[.slice (some ⟨nb, 0, none⟩) 1 1, .int .u16 99, .int .u16 1, .int .u32 0, .slice a5 (k + 1) c5] 39))
                    replace O5 := hide (O5.out.alloc (.cells #[.slice (some ⟨nb, 0, none⟩) 1 1, .int .u16 99, .int .u16 1, .int .u32 0, .slice a5 (k + 1) c5] 39))
                    have BX5 := hide (BX4.out.alloc BX4.out.size (.cells #[.slice (some ⟨nb, 0, none⟩) 1 1, .int .u16 99, .int .u16 1, .int .u32 0, .slice a5 (k + 1) c5] 39))
                    generalize wx4.heap.size = gr at RR ⊢
                    generalize wx4.alloc (.cells #[.slice (some ⟨nb, 0, none⟩) 1 1, .int .u16 99, .int .u16 1, .int .u32 0, .slice a5 (k + 1) c5] 39) = wx5 at NR O5 RR BX5 ⊢
                    refine hKK.out _ _ (Or.inr (SAll.out _ BX5.out)) ?_
                    clear hKK
                    try simp only [Act.put, List.setIfInBounds_toArray, List.set_cons_zero, List.set_cons_succ]
                    refine wpAnyX_ready (rs := [16]) (by kernel_rfl) (by simp) (AllX.cons (gt16 _ _ _ _ _ _ _ _ _ _ _ _ _ _ _ _ _ _) (fun K hKK => ?br44) AllX.nil)
                    case br44 =>
                      refine step_app48 rfl (.tmp 33) (.tmp 47) rfl w.heap.size (.slice va1 LN va2) L rfl (own_below (show World.ownsRow _ _ _ _ _ _ _ from HI.out.own) BX5.out) gr rfl (⟨some ⟨nb, 0, none⟩, 1, a5, c5, M.sRec k i j⟩ : RX) _ RR.out (by rw [rcs_s]) (by have := HLN.out; omega) (Nat.le_trans hzr BX5.out.size) ?_
                      intro v8 wx6 hO8 hG8
                      have NS : OwnS wx5 w.heap.size (.slice (some ⟨nb, 0, none⟩) (M.sRec k i j).name.length 1) (M.sRec k i j).name := by rw [HNM.out]; exact ownS_row NR.out (Nat.le_trans hzr nbg)
                      have DT : OwnB wx5 w.heap.size (.slice a5 (M.sRec k i j).data.length c5) (M.sRec k i j).data := by rw [HD2.out, HDL.out]; exact O5.out.low hzr
                      obtain ⟨NX, M8⟩ := HI.out.next (⟨some ⟨nb, 0, none⟩, 1, a5, c5, M.sRec k i j⟩ : RX) BX5.out ⟨⟨w.heap.size, Nat.le_refl _, NS⟩, w.heap.size, Nat.le_refl _, DT⟩ hO8 hG8
                      have N8 := hide NX
                      obtain ⟨a8, c8, rfl, _⟩ := hO8.form3
                      have x9 : wx6.cell? ⟨mB, 9, none⟩ = some (.slice va1 LN va2) := M8.cell 9
                      have f9 := M8.frozen 9
                      clear hO8 hG8 NX M8 NS DT NR O5 RR
                      refine hKK.out _ _ (Or.inr x9) ?_
                      clear hKK
                      try simp only [Act.put, List.setIfInBounds_toArray, List.set_cons_zero, List.set_cons_succ]
                      refine wpAnyX_take (i := 17) (v := ?v45) (gt17 _ _ _ _ _ _ _ _ _ _ _ _ _ _ _ _ _ _ _) (by kernel_rfl) (by kernel_rfl) (by kernel_rfl) (by kernel_rfl) (fun _ _ _ h => h) (Or.inl ⟨by rfl, ?hy45⟩) x9 ?rest45
                      case hy45 => (intro w0 hSw; (try dsimp only at hSw); go_simp; try (with_reducible rfl))
                      case' rest45 => try simp only [Act.put, List.setIfInBounds_toArray, List.set_cons_zero, List.set_cons_succ]
                      refine wpAnyX_ready (rs := [18]) (by kernel_rfl) (by simp) (AllX.cons (gt18 _ _ _ _ _ _ _ _ _ _ _ _ _ _ _ _ _ _ _ _) (fun K hKK => ?br46) AllX.nil)
                      case br46 =>
                        go_simp
                        refine hKK.out _ _ (Or.inl rfl) ?_
                        clear hKK
                        try simp only [Act.put, List.setIfInBounds_toArray, List.set_cons_zero, List.set_cons_succ]
                        refine wpAnyX_done (by kernel_rfl) ?_ _
                        have e8 : (L ++ [(⟨some ⟨nb, 0, none⟩, 1, a5, c5, M.sRec k i j⟩ : RX)]).length = L.length + 1 := by simp
                        rw [e8] at N8
                        go_wp2
                        go_roundw
                        case rel =>
                          first | exact ⟨j + 1, by go_num, by omega, _, L ++ [(⟨some ⟨nb, 0, none⟩, 1, a5, c5, M.sRec k i j⟩ : RX)], by show TI _ _ _ _ _ _; rw [M.sRow_next, ← List.append_assoc]; exact N8.out⟩ | exact ⟨j + 1, _, L ++ [(⟨some ⟨nb, 0, none⟩, 1, a5, c5, M.sRec k i j⟩ : RX)], by go_num, by omega, by show TI _ _ _ _ _ _; rw [M.sRow_next, ← List.append_assoc]; exact N8.out⟩
                        case measure => simp [intOf]; omega
              case br40 =>
                refine step_app45 rfl (.tmp 41) (.tmp 44) rfl k j wr.heap.size gz gb wr rfl rfl ZR.out BR.out (by omega) (by omega) gzg BX2.out (Nat.le_refl _) ?_
                intro a5 c5 wx3 hO5 hB5 hU5
                have O5 := hide hO5
                have BX3 := hide hB5
                clear hO5 hB5 hU5 ZR BR
                refine hKK.out _ _ (Or.inr (SAll.out _ BX3.out)) ?_
                clear hKK
                try simp only [Act.put, List.setIfInBounds_toArray, List.set_cons_zero, List.set_cons_succ]
                refine wpAnyX_ready (rs := [6]) (by kernel_rfl) (by simp) (AllX.cons (gt6 _ _ _ _ _ _ _ _) (fun K hKK => ?br47) AllX.nil)
                case br47 =>
                  go_simp
                  have NR := hide (RowAt.new wx3 9 #[.string ⟨#[CH]⟩])
                  replace O5 := hide (O5.out.alloc (.cells #[.string ⟨#[CH]⟩] 9))
                  have BX4 := hide (BX3.out.alloc BX3.out.size (.cells #[.string ⟨#[CH]⟩] 9))
                  have nbg : wr.heap.size ≤ wx3.heap.size := BX3.out.size
                  generalize wx3.heap.size = nb at NR nbg ⊢
                  generalize wx3.alloc (.cells #[.string ⟨#[CH]⟩] 9) = wx4 at O5 NR BX4 ⊢
                  refine hKK.out _ _ (Or.inr (SAll.out _ BX4.out)) ?_
                  clear hKK
                  try simp only [Act.put, List.setIfInBounds_toArray, List.set_cons_zero, List.set_cons_succ]
                  refine wpAnyX_take (i := 14) (v := ?v48) (gt14 _ _ _ _ _ _ _ _ _ _ _ _ _ _ _ _) (by kernel_rfl) (by kernel_rfl) (by kernel_rfl) (by kernel_rfl) (fun _ _ _ h => h) (Or.inl ⟨by rfl, ?hy48⟩) (SAll.out _ BX4.out) ?rest48
                  case hy48 => (intro w0 hSw; (try dsimp only at hSw); go_simp; try (with_reducible rfl))
                  case' rest48 => try simp only [Act.put, List.setIfInBounds_toArray, List.set_cons_zero, List.set_cons_succ]
                  refine wpAnyX_ready (rs := [15]) (by kernel_rfl) (by simp) (AllX.cons (gt15 _ _ _ _ _ _ _ _ _ _ _ _ _ _ _ _ _) (fun K hKK => ?br49) AllX.nil)
                  case br49 =>
                    go_simp
                    have RR := hide (RowAt.new wx4 39 #[.slice (some ⟨nb, 0, none⟩) 1 1, .int .u16 99, .int .u16 1, .int .u32 0, .slice a5 (k + 1) c5])
                    replace NR := hide (NR.out.alloc (.cells #[.slice (some ⟨nb, 0, none⟩) 1 1, .int .u16 99, .int .u16 1, .int .u32 0, .slice a5 (k + 1) c5] 39))
                    replace O5 := hide (O5.out.alloc (.cells #[.slice (some ⟨nb, 0, none⟩) 1 1, .int .u16 99, .int .u16 1, .int .u32 0, .slice a5 (k + 1) c5] 39))
                    have BX5 := hide (BX4.out.alloc BX4.out.size (.cells #[.slice (some ⟨nb, 0, none⟩) 1 1, .int .u16 99, .int .u16 1, .int .u32 0, .slice a5 (k + 1) c5] 39))
                    generalize wx4.heap.size = gr at RR ⊢
                    generalize wx4.alloc (.cells #[.slice (some ⟨nb, 0, none⟩) 1 1, .int .u16 99, .int .u16 1, .int .u32 0, .slice a5 (k + 1) c5] 39) = wx5 at NR O5 RR BX5 ⊢
                    refine hKK.out _ _ (Or.inr (SAll.out _ BX5.out)) ?_
                    clear hKK
                    try simp only [Act.put, List.setIfInBounds_toArray, List.set_cons_zero, List.set_cons_succ]
                    refine wpAnyX_ready (rs := [16]) (by kernel_rfl) (by simp) (AllX.cons (gt16 _ _ _ _ _ _ _ _ _ _ _ _ _ _ _ _ _ _) (fun K hKK => ?br50) AllX.nil)
                    case br50 =>
                      refine step_app48 rfl (.tmp 33) (.tmp 47) rfl w.heap.size (.slice va1 LN va2) L rfl (own_below (show World.ownsRow _ _ _ _ _ _ _ from HI.out.own) BX5.out) gr rfl (⟨some ⟨nb, 0, none⟩, 1, a5, c5, M.sRec k i j⟩ : RX) _ RR.out (by rw [rcs_s]) (by have := HLN.out; omega) (Nat.le_trans hzr BX5.out.size) ?_
                      intro v8 wx6 hO8 hG8
                      have NS : OwnS wx5 w.heap.size (.slice (some ⟨nb, 0, none⟩) (M.sRec k i j).name.length 1) (M.sRec k i j).name := by rw [HNM.out]; exact ownS_row NR.out (Nat.le_trans hzr nbg)
                      have DT : OwnB wx5 w.heap.size (.slice a5 (M.sRec k i j).data.length c5) (M.sRec k i j).data := by rw [HD2.out, HDL.out]; exact O5.out.low hzr
                      obtain ⟨NX, M8⟩ := HI.out.next (⟨some ⟨nb, 0, none⟩, 1, a5, c5, M.sRec k i j⟩ : RX) BX5.out ⟨⟨w.heap.size, Nat.le_refl _, NS⟩, w.heap.size, Nat.le_refl _, DT⟩ hO8 hG8
                      have N8 := hide NX
                      obtain ⟨a8, c8, rfl, _⟩ := hO8.form3
                      have x9 : wx6.cell? ⟨mB, 9, none⟩ = some (.slice va1 LN va2) := M8.cell 9
                      have f9 := M8.frozen 9
                      clear hO8 hG8 NX M8 NS DT NR O5 RR
                      refine hKK.out _ _ (Or.inr x9) ?_
                      clear hKK
                      try simp only [Act.put, List.setIfInBounds_toArray, List.set_cons_zero, List.set_cons_succ]
                      refine wpAnyX_take (i := 17) (v := ?v51) (gt17 _ _ _ _ _ _ _ _ _ _ _ _ _ _ _ _ _ _ _) (by kernel_rfl) (by kernel_rfl) (by kernel_rfl) (by kernel_rfl) (fun _ _ _ h => h) (Or.inl ⟨by rfl, ?hy51⟩) x9 ?rest51
                      case hy51 => (intro w0 hSw; (try dsimp only at hSw); go_simp; try (with_reducible rfl))
                      case' rest51 => try simp only [Act.put, List.setIfInBounds_toArray, List.set_cons_zero, List.set_cons_succ]
                      refine wpAnyX_ready (rs := [18]) (by kernel_rfl) (by simp) (AllX.cons (gt18 _ _ _ _ _ _ _ _ _ _ _ _ _ _ _ _ _ _ _ _) (fun K hKK => ?br52) AllX.nil)
                      case br52 =>
                        go_simp
                        refine hKK.out _ _ (Or.inl rfl) ?_
                        clear hKK
                        try simp only [Act.put, List.setIfInBounds_toArray, List.set_cons_zero, List.set_cons_succ]
                        refine wpAnyX_done (by kernel_rfl) ?_ _
                        have e8 : (L ++ [(⟨some ⟨nb, 0, none⟩, 1, a5, c5, M.sRec k i j⟩ : RX)]).length = L.length + 1 := by simp
                        rw [e8] at N8
                        go_wp2
                        go_roundw
                        case rel =>
                          first | exact ⟨j + 1, by go_num, by omega, _, L ++ [(⟨some ⟨nb, 0, none⟩, 1, a5, c5, M.sRec k i j⟩ : RX)], by show TI _ _ _ _ _ _; rw [M.sRow_next, ← List.append_assoc]; exact N8.out⟩ | exact ⟨j + 1, _, L ++ [(⟨some ⟨nb, 0, none⟩, 1, a5, c5, M.sRec k i j⟩ : RX)], by go_num, by omega, by show TI _ _ _ _ _ _; rw [M.sRow_next, ← List.append_assoc]; exact N8.out⟩
                        case measure => simp [intOf]; omega
          case br13 =>
            go_simp
            have BR := hide (RowAt.new wx0 5 #[.int .u8 (j : Int)])
            have BX1 := hide (BX0.out.alloc BX0.out.size (.cells #[.int .u8 (j : Int)] 5))
            have gbg : wr.heap.size ≤ wx0.heap.size := BX0.out.size
            generalize wx0.heap.size = gb at BR gbg ⊢
            generalize wx0.alloc (.cells #[.int .u8 (j : Int)] 5) = wx1 at BR BX1 ⊢
            refine hKK.out _ _ (Or.inr (SAll.out _ BX1.out)) ?_
            clear hKK
            try simp only [Act.put, List.setIfInBounds_toArray, List.set_cons_zero, List.set_cons_succ]
            refine wpAnyX_ready (rs := [6, 9]) (by kernel_rfl) (by simp) (AllX.cons (gt6 _ _ _ _ _ _ _ _) (fun K hKK => ?br53) (AllX.cons (gt9 _ _ _ _ _ _ _ _ _ _ _) (fun K hKK => ?br54) AllX.nil))
            case br53 =>
              go_simp
              have NR := hide (RowAt.new wx1 9 #[.string ⟨#[CH]⟩])
              replace BR := hide (BR.out.alloc (.cells #[.string ⟨#[CH]⟩] 9))
              have BX2 := hide (BX1.out.alloc BX1.out.size (.cells #[.string ⟨#[CH]⟩] 9))
              have nbg : wr.heap.size ≤ wx1.heap.size := BX1.out.size
              generalize wx1.heap.size = nb at NR nbg ⊢
              generalize wx1.alloc (.cells #[.string ⟨#[CH]⟩] 9) = wx2 at BR NR BX2 ⊢
              refine hKK.out _ _ (Or.inr (SAll.out _ BX2.out)) ?_
              clear hKK
              try simp only [Act.put, List.setIfInBounds_toArray, List.set_cons_zero, List.set_cons_succ]
              refine wpAnyX_ready (rs := [9]) (by kernel_rfl) (by simp) (AllX.cons (gt9 _ _ _ _ _ _ _ _ _ _ _) (fun K hKK => ?br55) AllX.nil)
              case br55 =>
                go_simp
                have ZR := hide (RowAt.new wx2 5 (madeCells #[.int .u8 0] k))
                replace NR := hide (NR.out.alloc (.cells (madeCells #[.int .u8 0] k) 5))
                replace BR := hide (BR.out.alloc (.cells (madeCells #[.int .u8 0] k) 5))
                have BX3 := hide (BX2.out.alloc BX2.out.size (.cells (madeCells #[.int .u8 0] k) 5))
                have gzg : wr.heap.size ≤ wx2.heap.size := BX2.out.size
                generalize wx2.heap.size = gz at ZR gzg ⊢
                generalize wx2.alloc (.cells (madeCells #[.int .u8 0] k) 5) = wx3 at NR BR ZR BX3 ⊢
                refine hKK.out _ _ (Or.inr (SAll.out _ BX3.out)) ?_
                clear hKK
                try simp only [Act.put, List.setIfInBounds_toArray, List.set_cons_zero, List.set_cons_succ]
                refine wpAnyX_ready (rs := [13]) (by kernel_rfl) (by simp) (AllX.cons (gt13 _ _ _ _ _ _ _ _ _ _ _ _ _ _ _) (fun K hKK => ?br56) AllX.nil)
                case br56 =>
                  refine step_app45 rfl (.tmp 41) (.tmp 44) rfl k j wr.heap.size gz gb wr rfl rfl ZR.out BR.out (by omega) (by omega) gzg BX3.out (Nat.le_refl _) ?_
                  intro a5 c5 wx4 hO5 hB5 hU5
                  have O5 := hide hO5
                  have BX4 := hide hB5
                  replace NR := hide (hU5 _ _ NR.out)
                  clear hO5 hB5 hU5 ZR BR
                  refine hKK.out _ _ (Or.inr (SAll.out _ BX4.out)) ?_
                  clear hKK
                  try simp only [Act.put, List.setIfInBounds_toArray, List.set_cons_zero, List.set_cons_succ]
                  refine wpAnyX_take (i := 14) (v := ?v57) (gt14 _ _ _ _ _ _ _ _ _ _ _ _ _ _ _ _) (by kernel_rfl) (by kernel_rfl) (by kernel_rfl) (by kernel_rfl) (fun _ _ _ h => h) (Or.inl ⟨by rfl, ?hy57⟩) (SAll.out _ BX4.out) ?rest57
                  case hy57 => (intro w0 hSw; (try dsimp only at hSw); go_simp; try (with_reducible rfl))
                  case' rest57 => try simp only [Act.put, List.setIfInBounds_toArray, List.set_cons_zero, List.set_cons_succ]
                  refine wpAnyX_ready (rs := [15]) (by kernel_rfl) (by simp) (AllX.cons (gt15 _ _ _ _ _ _ _ _ _ _ _ _ _ _ _ _ _) (fun K hKK => ?br58) AllX.nil)
                  case br58 =>
                    go_simp
                    have RR := hide (RowAt.new wx4 39 #[.slice (some ⟨nb, 0, none⟩) 1 1, .int .u16 99, .int .u16 1, .int .u32 0, .slice a5 (k + 1) c5])
                    replace NR := hide (NR.out.alloc (.cells #[.slice (some ⟨nb, 0, none⟩) 1 1, .int .u16 99, .int .u16 1, .int .u32 0, .slice a5 (k + 1) c5] 39))
                    replace O5 := hide (O5.out.alloc (.cells #[.slice (some ⟨nb, 0, none⟩) 1 1, .int .u16 99, .int .u16 1, .int .u32 0, .slice a5 (k + 1) c5] 39))
                    have BX5 := hide (BX4.out.alloc BX4.out.size (.cells #[.slice (some ⟨nb, 0, none⟩) 1 1, .int .u16 99, .int .u16 1, .int .u32 0, .slice a5 (k + 1) c5] 39))
                    generalize wx4.heap.size = gr at RR ⊢
                    generalize wx4.alloc (.cells #[.slice (some ⟨nb, 0, none⟩) 1 1, .int .u16 99, .int .u16 1, .int .u32 0, .slice a5 (k + 1) c5] 39) = wx5 at NR O5 RR BX5 ⊢
                    refine hKK.out _ _ (Or.inr (SAll.out _ BX5.out)) ?_
                    clear hKK
                    try simp only [Act.put, List.setIfInBounds_toArray, List.set_cons_zero, List.set_cons_succ]
                    refine wpAnyX_ready (rs := [16]) (by kernel_rfl) (by simp) (AllX.cons (gt16 _ _ _ _ _ _ _ _ _ _ _ _ _ _ _ _ _ _) (fun K hKK => ?br59) AllX.nil)
                    case br59 =>
                      refine step_app48 rfl (.tmp 33) (.tmp 47) rfl w.heap.size (.slice va1 LN va2) L rfl (own_below (show World.ownsRow _ _ _ _ _ _ _ from HI.out.own) BX5.out) gr rfl (⟨some ⟨nb, 0, none⟩, 1, a5, c5, M.sRec k i j⟩ : RX) _ RR.out (by rw [rcs_s]) (by have := HLN.out; omega) (Nat.le_trans hzr BX5.out.size) ?_
                      intro v8 wx6 hO8 hG8
                      have NS : OwnS wx5 w.heap.size (.slice (some ⟨nb, 0, none⟩) (M.sRec k i j).name.length 1) (M.sRec k i j).name := by rw [HNM.out]; exact ownS_row NR.out (Nat.le_trans hzr nbg)
                      have DT : OwnB wx5 w.heap.size (.slice a5 (M.sRec k i j).data.length c5) (M.sRec k i j).data := by rw [HD2.out, HDL.out]; exact O5.out.low hzr
                      obtain ⟨NX, M8⟩ := HI.out.next (⟨some ⟨nb, 0, none⟩, 1, a5, c5, M.sRec k i j⟩ : RX) BX5.out ⟨⟨w.heap.size, Nat.le_refl _, NS⟩, w.heap.size, Nat.le_refl _, DT⟩ hO8 hG8
                      have N8 := hide NX
                      obtain ⟨a8, c8, rfl, _⟩ := hO8.form3
                      have x9 : wx6.cell? ⟨mB, 9, none⟩ = some (.slice va1 LN va2) := M8.cell 9
                      have f9 := M8.frozen 9
                      clear hO8 hG8 NX M8 NS DT NR O5 RR
                      refine hKK.out _ _ (Or.inr x9) ?_
                      clear hKK
                      try simp only [Act.put, List.setIfInBounds_toArray, List.set_cons_zero, List.set_cons_succ]
                      refine wpAnyX_take (i := 17) (v := ?v60) (gt17 _ _ _ _ _ _ _ _ _ _ _ _ _ _ _ _ _ _ _) (by kernel_rfl) (by kernel_rfl) (by kernel_rfl) (by kernel_rfl) (fun _ _ _ h => h) (Or.inl ⟨by rfl, ?hy60⟩) x9 ?rest60
                      case hy60 => (intro w0 hSw; (try dsimp only at hSw); go_simp; try (with_reducible rfl))
                      case' rest60 => try simp only [Act.put, List.setIfInBounds_toArray, List.set_cons_zero, List.set_cons_succ]
                      refine wpAnyX_ready (rs := [18]) (by kernel_rfl) (by simp) (AllX.cons (gt18 _ _ _ _ _ _ _ _ _ _ _ _ _ _ _ _ _ _ _ _) (fun K hKK => ?br61) AllX.nil)
                      case br61 =>
                        go_simp
                        refine hKK.out _ _ (Or.inl rfl) ?_
                        clear hKK
                        try simp only [Act.put, List.setIfInBounds_toArray, List.set_cons_zero, List.set_cons_succ]
                        refine wpAnyX_done (by kernel_rfl) ?_ _
                        have e8 : (L ++ [(⟨some ⟨nb, 0, none⟩, 1, a5, c5, M.sRec k i j⟩ : RX)]).length = L.length + 1 := by simp
                        rw [e8] at N8
                        go_wp2
                        go_roundw
                        case rel =>
                          first | exact ⟨j + 1, by go_num, by omega, _, L ++ [(⟨some ⟨nb, 0, none⟩, 1, a5, c5, M.sRec k i j⟩ : RX)], by show TI _ _ _ _ _ _; rw [M.sRow_next, ← List.append_assoc]; exact N8.out⟩ | exact ⟨j + 1, _, L ++ [(⟨some ⟨nb, 0, none⟩, 1, a5, c5, M.sRec k i j⟩ : RX)], by go_num, by omega, by show TI _ _ _ _ _ _; rw [M.sRow_next, ← List.append_assoc]; exact N8.out⟩
                        case measure => simp [intOf]; omega
            case br54 =>
              go_simp
              have ZR := hide (RowAt.new wx1 5 (madeCells #[.int .u8 0] k))
              replace BR := hide (BR.out.alloc (.cells (madeCells #[.int .u8 0] k) 5))
              have BX2 := hide (BX1.out.alloc BX1.out.size (.cells (madeCells #[.int .u8 0] k) 5))
              have gzg : wr.heap.size ≤ wx1.heap.size := BX1.out.size
              generalize wx1.heap.size = gz at ZR gzg ⊢
              generalize wx1.alloc (.cells (madeCells #[.int .u8 0] k) 5) = wx2 at BR ZR BX2 ⊢
              refine hKK.out _ _ (Or.inr (SAll.out _ BX2.out)) ?_
              clear hKK
              try simp only [Act.put, List.setIfInBounds_toArray, List.set_cons_zero, List.set_cons_succ]
              refine wpAnyX_ready (rs := [6, 13]) (by kernel_rfl) (by simp) (AllX.cons (gt6 _ _ _ _ _ _ _ _) (fun K hKK => ?br62) (AllX.cons (gt13 _ _ _ _ _ _ _ _ _ _ _ _ _ _ _) (fun K hKK => ?br63) AllX.nil))
              case br62 =>
                go_simp
                have NR := hide (RowAt.new wx2 9 #[.string ⟨#[CH]⟩])
                replace ZR := hide (ZR.out.alloc (.cells #[.string ⟨#[CH]⟩] 9))
                replace BR := hide (BR.out.alloc (.cells #[.string ⟨#[CH]⟩] 9))
                have BX3 := hide (BX2.out.alloc BX2.out.size (.cells #[.string ⟨#[CH]⟩] 9))
                have nbg : wr.heap.size ≤ wx2.heap.size := BX2.out.size
                generalize wx2.heap.size = nb at NR nbg ⊢
                generalize wx2.alloc (.cells #[.string ⟨#[CH]⟩] 9) = wx3 at ZR BR NR BX3 ⊢
                refine hKK.out _ _ (Or.inr (SAll.out _ BX3.out)) ?_
                clear hKK
                try simp only [Act.put, List.setIfInBounds_toArray, List.set_cons_zero, List.set_cons_succ]
                refine wpAnyX_ready (rs := [13]) (by kernel_rfl) (by simp) (AllX.cons (gt13 _ _ _ _ _ _ _ _ _ _ _ _ _ _ _) (fun K hKK => ?br64) AllX.nil)
                case br64 =>
                  refine step_app45 rfl (.tmp 41) (.tmp 44) rfl k j wr.heap.size gz gb wr rfl rfl ZR.out BR.out (by omega) (by omega) gzg BX3.out (Nat.le_refl _) ?_
                  intro a5 c5 wx4 hO5 hB5 hU5
                  have O5 := hide hO5
                  have BX4 := hide hB5
                  replace NR := hide (hU5 _ _ NR.out)
                  clear hO5 hB5 hU5 ZR BR
                  refine hKK.out _ _ (Or.inr (SAll.out _ BX4.out)) ?_
                  clear hKK
                  try simp only [Act.put, List.setIfInBounds_toArray, List.set_cons_zero, List.set_cons_succ]
                  refine wpAnyX_take (i := 14) (v := ?v65) (gt14 _ _ _ _ _ _ _ _ _ _ _ _ _ _ _ _) (by kernel_rfl) (by kernel_rfl) (by kernel_rfl) (by kernel_rfl) (fun _ _ _ h => h) (Or.inl ⟨by rfl, ?hy65⟩) (SAll.out _ BX4.out) ?rest65
                  case hy65 => (intro w0 hSw; (try dsimp only at hSw); go_simp; try (with_reducible rfl))
                  case' rest65 => try simp only [Act.put, List.setIfInBounds_toArray, List.set_cons_zero, List.set_cons_succ]
                  refine wpAnyX_ready (rs := [15]) (by kernel_rfl) (by simp) (AllX.cons (gt15 _ _ _ _ _ _ _ _ _ _ _ _ _ _ _ _ _) (fun K hKK => ?br66) AllX.nil)
                  case br66 =>
                    go_simp
                    have RR := hide (RowAt.new wx4 39 #[.slice (some ⟨nb, 0, none⟩) 1 1, .int .u16 99, .int .u16 1, .int .u32 0, .slice a5 (k + 1) c5])
                    replace NR := hide (NR.out.alloc (.cells #[.slice (some ⟨nb, 0, none⟩) 1 1, .int .u16 99, .int .u16 1, .int .u32 0, .slice a5 (k + 1) c5] 39))
                    replace O5 := hide (O5.out.alloc (.cells #[.slice (some ⟨nb, 0, none⟩) 1 1, .int .u16 99, .int .u16 1, .int .u32 0, .slice a5 (k + 1) c5] 39))
                    have BX5 := hide (BX4.out.alloc BX4.out.size (.cells #[.slice (some ⟨nb, 0, none⟩) 1 1, .int .u16 99, .int .u16 1, .int .u32 0, .slice a5 (k + 1) c5] 39))
                    generalize wx4.heap.size = gr at RR ⊢
                    generalize wx4.alloc (.cells #[.slice (some ⟨nb, 0, none⟩) 1 1, .int .u16 99, .int .u16 1, .int .u32 0, .slice a5 (k + 1) c5] 39) = wx5 at NR O5 RR BX5 ⊢
                    refine hKK.out _ _ (Or.inr (SAll.out _ BX5.out)) ?_
                    clear hKK
                    try simp only [Act.put, List.setIfInBounds_toArray, List.set_cons_zero, List.set_cons_succ]
                    refine wpAnyX_ready (rs := [16]) (by kernel_rfl) (by simp) (AllX.cons (gt16 _ _ _ _ _ _ _ _ _ _ _ _ _ _ _ _ _ _) (fun K hKK => ?br67) AllX.nil)
                    case br67 =>
                      refine step_app48 rfl (.tmp 33) (.tmp 47) rfl w.heap.size (.slice va1 LN va2) L rfl (own_below (show World.ownsRow _ _ _ _ _ _ _ from HI.out.own) BX5.out) gr rfl (⟨some ⟨nb, 0, none⟩, 1, a5, c5, M.sRec k i j⟩ : RX) _ RR.out (by rw [rcs_s]) (by have := HLN.out; omega) (Nat.le_trans hzr BX5.out.size) ?_
                      intro v8 wx6 hO8 hG8
                      have NS : OwnS wx5 w.heap.size (.slice (some ⟨nb, 0, none⟩) (M.sRec k i j).name.length 1) (M.sRec k i j).name := by rw [HNM.out]; exact ownS_row NR.out (Nat.le_trans hzr nbg)
                      have DT : OwnB wx5 w.heap.size (.slice a5 (M.sRec k i j).data.length c5) (M.sRec k i j).data := by rw [HD2.out, HDL.out]; exact O5.out.low hzr
                      obtain ⟨NX, M8⟩ := HI.out.next (⟨some ⟨nb, 0, none⟩, 1, a5, c5, M.sRec k i j⟩ : RX) BX5.out ⟨⟨w.heap.size, Nat.le_refl _, NS⟩, w.heap.size, Nat.le_refl _, DT⟩ hO8 hG8
                      have N8 := hide NX
                      obtain ⟨a8, c8, rfl, _⟩ := hO8.form3
                      have x9 : wx6.cell? ⟨mB, 9, none⟩ = some (.slice va1 LN va2) := M8.cell 9
                      have f9 := M8.frozen 9
                      clear hO8 hG8 NX M8 NS DT NR O5 RR
                      refine hKK.out _ _ (Or.inr x9) ?_
                      clear hKK
                      try simp only [Act.put, List.setIfInBounds_toArray, List.set_cons_zero, List.set_cons_succ]
                      refine wpAnyX_take (i := 17) (v := ?v68) (gt17 _ _ _ _ _ _ _ _ _ _ _ _ _ _ _ _ _ _ _) (by kernel_rfl) (by kernel_rfl) (by kernel_rfl) (by kernel_rfl) (fun _ _ _ h => h) (Or.inl ⟨by rfl, ?hy68⟩) x9 ?rest68
                      case hy68 => (intro w0 hSw; (try dsimp only at hSw); go_simp; try (with_reducible rfl))
                      case' rest68 => try simp only [Act.put, List.setIfInBounds_toArray, List.set_cons_zero, List.set_cons_succ]
                      refine wpAnyX_ready (rs := [18]) (by kernel_rfl) (by simp) (AllX.cons (gt18 _ _ _ _ _ _ _ _ _ _ _ _ _ _ _ _ _ _ _ _) (fun K hKK => ?br69) AllX.nil)
                      case br69 =>
                        go_simp
                        refine hKK.out _ _ (Or.inl rfl) ?_
                        clear hKK
                        try simp only [Act.put, List.setIfInBounds_toArray, List.set_cons_zero, List.set_cons_succ]
                        refine wpAnyX_done (by kernel_rfl) ?_ _
                        have e8 : (L ++ [(⟨some ⟨nb, 0, none⟩, 1, a5, c5, M.sRec k i j⟩ : RX)]).length = L.length + 1 := by simp
                        rw [e8] at N8
                        go_wp2
                        go_roundw
                        case rel =>
                          first | exact ⟨j + 1, by go_num, by omega, _, L ++ [(⟨some ⟨nb, 0, none⟩, 1, a5, c5, M.sRec k i j⟩ : RX)], by show TI _ _ _ _ _ _; rw [M.sRow_next, ← List.append_assoc]; exact N8.out⟩ | exact ⟨j + 1, _, L ++ [(⟨some ⟨nb, 0, none⟩, 1, a5, c5, M.sRec k i j⟩ : RX)], by go_num, by omega, by show TI _ _ _ _ _ _; rw [M.sRow_next, ← List.append_assoc]; exact N8.out⟩
                        case measure => simp [intOf]; omega
              case br63 =>
                refine step_app45 rfl (.tmp 41) (.tmp 44) rfl k j wr.heap.size gz gb wr rfl rfl ZR.out BR.out (by omega) (by omega) gzg BX2.out (Nat.le_refl _) ?_
                intro a5 c5 wx3 hO5 hB5 hU5
                have O5 := hide hO5
                have BX3 := hide hB5
                clear hO5 hB5 hU5 ZR BR
                refine hKK.out _ _ (Or.inr (SAll.out _ BX3.out)) ?_
                clear hKK
                try simp only [Act.put, List.setIfInBounds_toArray, List.set_cons_zero, List.set_cons_succ]
                refine wpAnyX_ready (rs := [6]) (by kernel_rfl) (by simp) (AllX.cons (gt6 _ _ _ _ _ _ _ _) (fun K hKK => ?br70) AllX.nil)
                case br70 =>
                  go_simp
                  have NR := hide (RowAt.new wx3 9 #[.string ⟨#[CH]⟩])
                  replace O5 := hide (O5.out.alloc (.cells #[.string ⟨#[CH]⟩] 9))
                  have BX4 := hide (BX3.out.alloc BX3.out.size (.cells #[.string ⟨#[CH]⟩] 9))
                  have nbg : wr.heap.size ≤ wx3.heap.size := BX3.out.size
                  generalize wx3.heap.size = nb at NR nbg ⊢
                  generalize wx3.alloc (.cells #[.string ⟨#[CH]⟩] 9) = wx4 at O5 NR BX4 ⊢
                  refine hKK.out _ _ (Or.inr (SAll.out _ BX4.out)) ?_
                  clear hKK
                  try simp only [Act.put, List.setIfInBounds_toArray, List.set_cons_zero, List.set_cons_succ]
                  refine wpAnyX_take (i := 14) (v := ?v71) (gt14 _ _ _ _ _ _ _ _ _ _ _ _ _ _ _ _) (by kernel_rfl) (by kernel_rfl) (by kernel_rfl) (by kernel_rfl) (fun _ _ _ h => h) (Or.inl ⟨by rfl, ?hy71⟩) (SAll.out _ BX4.out) ?rest71
                  case hy71 => (intro w0 hSw; (try dsimp only at hSw); go_simp; try (with_reducible rfl))
                  case' rest71 => try simp only [Act.put, List.setIfInBounds_toArray, List.set_cons_zero, List.set_cons_succ]
                  refine wpAnyX_ready (rs := [15]) (by kernel_rfl) (by simp) (AllX.cons (gt15 _ _ _ _ _ _ _ _ _ _ _ _ _ _ _ _ _) (fun K hKK => ?br72) AllX.nil)
                  case br72 =>
                    go_simp
                    have RR := hide (RowAt.new wx4 39 #[.slice (some ⟨nb, 0, none⟩) 1 1, .int .u16 99, .int .u16 1, .int .u32 0, .slice a5 (k + 1) c5])
                    replace NR := hide (NR.out.alloc (.cells #[.slice (some ⟨nb, 0, none⟩) 1 1, .int .u16 99, .int .u16 1, .int .u32 0, .slice a5 (k + 1) c5] 39))
                    replace O5 := hide (O5.out.alloc (.cells #[.slice (some ⟨nb, 0, none⟩) 1 1, .int .u16 99, .int .u16 1, .int .u32 0, .slice a5 (k + 1) c5] 39))
                    have BX5 := hide (BX4.out.alloc BX4.out.size (.cells #[.slice (some ⟨nb, 0, none⟩) 1 1, .int .u16 99, .int .u16 1, .int .u32 0, .slice a5 (k + 1) c5] 39))
                    generalize wx4.heap.size = gr at RR ⊢
                    generalize wx4.alloc (.cells #[.slice (some ⟨nb, 0, none⟩) 1 1, .int .u16 99, .int .u16 1, .int .u32 0, .slice a5 (k + 1) c5] 39) = wx5 at NR O5 RR BX5 ⊢
                    refine hKK.out _ _ (Or.inr (SAll.out _ BX5.out)) ?_
                    clear hKK
                    try simp only [Act.put, List.setIfInBounds_toArray, List.set_cons_zero, List.set_cons_succ]
                    refine wpAnyX_ready (rs := [16]) (by kernel_rfl) (by simp) (AllX.cons (gt16 _ _ _ _ _ _ _ _ _ _ _ _ _ _ _ _ _ _) (fun K hKK => ?br73) AllX.nil)
                    case br73 =>
                      refine step_app48 rfl (.tmp 33) (.tmp 47) rfl w.heap.size (.slice va1 LN va2) L rfl (own_below (show World.ownsRow _ _ _ _ _ _ _ from HI.out.own) BX5.out) gr rfl (⟨some ⟨nb, 0, none⟩, 1, a5, c5, M.sRec k i j⟩ : RX) _ RR.out (by rw [rcs_s]) (by have := HLN.out; omega) (Nat.le_trans hzr BX5.out.size) ?_
                      intro v8 wx6 hO8 hG8
                      have NS : OwnS wx5 w.heap.size (.slice (some ⟨nb, 0, none⟩) (M.sRec k i j).name.length 1) (M.sRec k i j).name := by rw [HNM.out]; exact ownS_row NR.out (Nat.le_trans hzr nbg)
                      have DT : OwnB wx5 w.heap.size (.slice a5 (M.sRec k i j).data.length c5) (M.sRec k i j).data := by rw [HD2.out, HDL.out]; exact O5.out.low hzr
                      obtain ⟨NX, M8⟩ := HI.out.next (⟨some ⟨nb, 0, none⟩, 1, a5, c5, M.sRec k i j⟩ : RX) BX5.out ⟨⟨w.heap.size, Nat.le_refl _, NS⟩, w.heap.size, Nat.le_refl _, DT⟩ hO8 hG8
                      have N8 := hide NX
                      obtain ⟨a8, c8, rfl, _⟩ := hO8.form3
                      have x9 : wx6.cell? ⟨mB, 9, none⟩ = some (.slice va1 LN va2) := M8.cell 9
                      have f9 := M8.frozen 9
                      clear hO8 hG8 NX M8 NS DT NR O5 RR
                      refine hKK.out _ _ (Or.inr x9) ?_
                      clear hKK
                      try simp only [Act.put, List.setIfInBounds_toArray, List.set_cons_zero, List.set_cons_succ]
                      refine wpAnyX_take (i := 17) (v := ?v74) (gt17 _ _ _ _ _ _ _ _ _ _ _ _ _ _ _ _ _ _ _) (by kernel_rfl) (by kernel_rfl) (by kernel_rfl) (by kernel_rfl) (fun _ _ _ h => h) (Or.inl ⟨by rfl, ?hy74⟩) x9 ?rest74
                      case hy74 => (intro w0 hSw; (try dsimp only at hSw); go_simp; try (with_reducible rfl))
                      case' rest74 => try simp only [Act.put, List.setIfInBounds_toArray, List.set_cons_zero, List.set_cons_succ]
                      refine wpAnyX_ready (rs := [18]) (by kernel_rfl) (by simp) (AllX.cons (gt18 _ _ _ _ _ _ _ _ _ _ _ _ _ _ _ _ _ _ _ _) (fun K hKK => ?br75) AllX.nil)
                      case br75 =>
                        go_simp
                        refine hKK.out _ _ (Or.inl rfl) ?_
                        clear hKK
                        try simp only [Act.put, List.setIfInBounds_toArray, List.set_cons_zero, List.set_cons_succ]
                        refine wpAnyX_done (by kernel_rfl) ?_ _
                        have e8 : (L ++ [(⟨some ⟨nb, 0, none⟩, 1, a5, c5, M.sRec k i j⟩ : RX)]).length = L.length + 1 := by simp
                        rw [e8] at N8
                        go_wp2
                        go_roundw
                        case rel =>
                          first | exact ⟨j + 1, by go_num, by omega, _, L ++ [(⟨some ⟨nb, 0, none⟩, 1, a5, c5, M.sRec k i j⟩ : RX)], by show TI _ _ _ _ _ _; rw [M.sRow_next, ← List.append_assoc]; exact N8.out⟩ | exact ⟨j + 1, _, L ++ [(⟨some ⟨nb, 0, none⟩, 1, a5, c5, M.sRec k i j⟩ : RX)], by go_num, by omega, by show TI _ _ _ _ _ _; rw [M.sRow_next, ← List.append_assoc]; exact N8.out⟩
                        case measure => simp [intOf]; omega
        · obtain rfl : j = 1 + r3 := by omega
          have hj1 : ¬ ((1 + r3 : Nat) : Int) < 1 + (r3 : Int) := by omega
          go_wp2
          go_roundw
          case rel =>
            have T1 : Hid (TI mB w (M.sAll k (i + 1)) wr va L) := by show TI _ _ _ _ _ _; rw [show M.sAll k (i + 1) = M.sAll k i ++ M.sRow k i (1 + i % 3) from rfl, HR3.out]; exact HI.out
            first | exact ⟨i + 1, by go_num, by omega, va, L, T1⟩ | exact ⟨i + 1, va, L, by go_num, by omega, T1⟩
          case measure => simp [intOf]; omega
    · have hiq' : ¬ (i : Int) < (q : Int) := by omega
      have HIQ : i = q := by omega
      subst HIQ
      obtain ⟨va1, va2, rfl, _⟩ := HI.out.own.form3
      have HRS := hide HI.out.rs
      have HLEN : Hid (L.length = M.cnt i) := by
        have h := congrArg List.length HI.out.rs
        rw [List.length_map, M.sAll_len] at h
        exact h
      have hcn := M.cnt_le i hq7
      have hsec := HI.out.secs (by have := HLEN.out; omega) (fun x hx => by
        obtain ⟨i', j', h1, rfl⟩ := M.sAll_mem k i x hx
        exact ⟨⟨by simp [M.sRec], by simp [M.sRec], by show N.size [[UInt8.ofNat (97 + i')]] ≤ 255; simp [N.size]⟩, by show 99 < 65536; omega, by show 1 < 65536; omega, by show 0 < 4294967296; omega, by simp [M.sRec]; omega⟩)
      have HSEC := hide hsec.1
      have hlc := hsec.2
      have H99 : Hid (∀ x ∈ L, x.r.type = 99 ∧ x.r.cls = 1 ∧ x.r.name.length ≤ 1000 ∧ Sane x.r.name) := fun x hx => by
        have h1 : x.r ∈ L.map (·.r) := List.mem_map.2 ⟨x, hx, rfl⟩
        rw [HI.out.rs] at h1
        obtain ⟨i', j', _, e⟩ := M.sAll_mem k i _ h1
        rw [e]
        exact ⟨rfl, rfl, by simp [M.sRec], fun l hl => by simp [M.sRec] at hl; subst hl; simp⟩
      clear hsec
      go_wp2_with fail
      refine (place_any size 3000 _ (by omega) (by omega)).mono ?_
      rintro e w2 ⟨r, hr, rfl, hw2⟩
      rw [hw2]; clear hw2 w2
      rcases Nat.lt_or_ge r 512 with hr5 | hr5
      · skip
        obtain ⟨n9, HN9⟩ : ∃ n9, Hid (M.fits 512 (L.map (·.r)) = n9) := ⟨_, rfl⟩
        obtain ⟨q9, HQ9⟩ : ∃ q9, Hid (M.keep (L.map (·.r)) n9 = q9) := ⟨_, rfl⟩
        obtain ⟨tc, HTC⟩ : ∃ tc, Hid (decide (n9 < L.length) = tc) := ⟨_, rfl⟩
        obtain ⟨fl, HFL⟩ : ∃ fl, Hid (M.fl 0 0 true false tc false false = fl) := ⟨_, rfl⟩
        obtain ⟨out, HOUT⟩ : ∃ out, Hid ((M.wrs 65535 ((L.take q9).map (·.r)) (fun _ => none) (hdr 0 fl 0 q9 0 0)).2.1 = out) := ⟨_, rfl⟩
        have SH : Hid (M.Short k i 512 q9 fl tc out) := by
          refine M.short_of k i (by omega) (by omega) 512 (by omega) (by omega) n9 ?_ q9 ?_ tc ?_ fl HFL.out out ?_
          · rw [← HRS.out]; exact HN9.out
          · rw [← HRS.out]; exact HQ9.out
          · rw [← HRS.out, List.length_map]; exact HTC.out
          · rw [← HRS.out, ← List.map_take]; exact HOUT.out
        have hq9 := SH.out.qle
        have hol := SH.out.len
        have hol12 := SH.out.l12
        go_wp2_with (refine wpList_load_row rfl 32 (.tmp 7) rfl mB rfl 32 #[.int .u16 0, .bool true, .int .i64 0, .bool false, .bool false, .bool false, .bool false, .int .i64 0, .slice none 0 0, .slice va1 L.length va2, .slice none 0 0, .slice none 0 0, .bool false, .int .u16 0, .bool false] (0, 0) _ (by exact HI.out.msg) Tryz.underlying32 rfl infoM ?_)
        refine (fit_r L va1 va2 (r : Int) 512 _ HSEC.out hlc H99.out (by omega) n9 q9 HN9 HQ9 tc HTC fl HFL SH.out.fl' (by have := HLEN.out; omega) out HOUT (by omega)).mono ?_
        rintro e w5 ⟨v5, rfl, hO5, hb5⟩
        obtain ⟨bo, bc, rfl, hsb, hnb, hleb, _⟩ := hO5.open
        have SB := hide hsb
        have NB := hide hnb
        have I5 := hide (HI.out.below hb5)
        clear hO5 hsb hnb hb5 HI HSEC
        obtain ⟨pl, hp0, hpq, hrec⟩ := SH.out.recs
        have HRC := hide hrec
        have HP0 := hide hp0
        have HPQ := hide hpq
        have HXL : Hid (((M.sAll k i).take q9).length = q9) := by show _ = _; rw [List.length_take, M.sAll_len]; omega
        have HG7 : Hid (M.g7 fl = ((0 : Nat) : Int)) := by show _ = _; rw [← HFL.out]; exact g7_s tc
        have HG4 : Hid (M.g4 fl = tc) := by show _ = _; rw [← HFL.out]; exact g4_s tc
        clear hrec hp0 hpq
        go_wp2_with fail
        refine (read_a out bo bc fl 0 q9 ((M.sAll k i).take q9) pl _ (by exact SB.out) hleb NB.out (by omega) hol12 (hide SH.out.v0) (hide SH.out.v2) (hide SH.out.v4) (hide SH.out.v6) (hide SH.out.v8) (hide SH.out.v10) HP0 HXL (by omega) HRC.out HPQ HG7).mono ?_
        rintro e w6 ⟨ra, rc, Ls, rfl, hMs, hG6, hb6⟩
        have HMS := hide hMs
        have I6 := hide (I5.out.below hb6)
        clear I5 hb6 SB NB HRC HP0 HPQ HG7 hMs
        unfold mc15
        obtain ⟨q1, h1⟩ : ∃ b, M.g1 fl = b := ⟨_, rfl⟩
        obtain ⟨q2, h2⟩ : ∃ b, M.g2 fl = b := ⟨_, rfl⟩
        obtain ⟨q3, h3⟩ : ∃ b, M.g3 fl = b := ⟨_, rfl⟩
        obtain ⟨q5, h5⟩ : ∃ b, M.g5 fl = b := ⟨_, rfl⟩
        obtain ⟨q6, h6⟩ : ∃ b, M.g6 fl = b := ⟨_, rfl⟩
        rw [h1, h2, h3, HG4.out, h5, h6]
        clear h1 h2 h3 h5 h6
        have I7 := hide (I6.out.below ((Below.refl _ _).alloc (Nat.le_refl _) (.cells #[.int .u16 0, .bool q1, .int .i64 q2, .bool q3, .bool tc, .bool q5, .bool q6, .int .i64 0, .slice none 0 0, .slice ra q9 rc, .slice none 0 0, .slice none 0 0, .bool false, .int .u16 0, .bool false] 32)))
        have G7 := hide (hG6.below ((Below.refl _ _).alloc (Nat.le_refl _) (.cells #[.int .u16 0, .bool q1, .int .i64 q2, .bool q3, .bool tc, .bool q5, .bool q6, .int .i64 0, .slice none 0 0, .slice ra q9 rc, .slice none 0 0, .slice none 0 0, .bool false, .int .u16 0, .bool false] 32)))
        have R7 := hide (RowAt.new w6 32 #[.int .u16 0, .bool q1, .int .i64 q2, .bool q3, .bool tc, .bool q5, .bool q6, .int .i64 0, .slice none 0 0, .slice ra q9 rc, .slice none 0 0, .slice none 0 0, .bool false, .int .u16 0, .bool false])
        have hz6 := I6.out.bel.size
        clear I6 hG6
        obtain ⟨LN, HLN⟩ : ∃ LN, Hid (L.length = LN) := ⟨_, rfl⟩
        have hLNc : LN ≤ M.cnt i ∧ M.cnt i ≤ LN := by have := HLN.out; have := HLEN.out; omega
        obtain ⟨hLN1, hLN2⟩ := hLNc
        rw [HLN.out] at I7 ⊢
        have c4 : (w6.alloc (.cells #[.int .u16 0, .bool q1, .int .i64 q2, .bool q3, .bool tc, .bool q5, .bool q6, .int .i64 0, .slice none 0 0, .slice ra q9 rc, .slice none 0 0, .slice none 0 0, .bool false, .int .u16 0, .bool false] 32)).cell? ⟨w6.heap.size, 4, none⟩ = some (.bool tc) := R7.out.cell 4
        have c9 : (w6.alloc (.cells #[.int .u16 0, .bool q1, .int .i64 q2, .bool q3, .bool tc, .bool q5, .bool q6, .int .i64 0, .slice none 0 0, .slice ra q9 rc, .slice none 0 0, .slice none 0 0, .bool false, .int .u16 0, .bool false] 32)).cell? ⟨w6.heap.size, 9, none⟩ = some (.slice ra q9 rc) := R7.out.cell 9
        have d9 : (w6.alloc (.cells #[.int .u16 0, .bool q1, .int .i64 q2, .bool q3, .bool tc, .bool q5, .bool q6, .int .i64 0, .slice none 0 0, .slice ra q9 rc, .slice none 0 0, .slice none 0 0, .bool false, .int .u16 0, .bool false] 32)).cell? ⟨mB, 9, none⟩ = some (.slice va1 LN va2) := I7.out.msg.cell 9
        have hTC2 : decide ((q9 : Int) < (LN : Int)) = tc := by
          rw [SH.out.tc']
          by_cases h : q9 < LN
          · rw [decide_eq_true (by omega), decide_eq_true (by omega)]
          · rw [decide_eq_false (by omega), decide_eq_false (by omega)]
        have hTC3 : (tc != tc) = false := by simp
        have hTC4 : decide (q9 < LN) = tc := by rw [← hTC2]; simp
        have hr512 : (r : Int) < 512 := by omega
        have hgt : decide (512 < (out.length : Int)) = false := by simp; omega
        have hgt2 : decide ((LN : Int) < (q9 : Int)) = false := by simp; omega
        have hgt3 : decide (LN < q9) = false := by simp; omega
        generalize out.length = OL at hgt hleb ⊢
        go_wp2
        generalize (w6.alloc (.cells #[.int .u16 0, .bool q1, .int .i64 q2, .bool q3, .bool tc, .bool q5, .bool q6, .int .i64 0, .slice none 0 0, .slice ra q9 rc, .slice none 0 0, .slice none 0 0, .bool false, .int .u16 0, .bool false] 32)) = w7 at I7 G7 R7 c4 c9 d9 ⊢
        obtain ⟨bs7, hbs7, hO7, hE7⟩ := G7.out
        obtain ⟨ra', rc', eq7, hSlY, _⟩ := hO7.slR (fun x hx => (hE7 x hx).sl)
        have hLs : Ls.length = q9 := by
          have h := congrArg List.length HMS.out
          rw [List.length_map, HXL.out] at h
          exact h
        have eq8 : ra = ra' ∧ rc = rc' := by
          injection eq7 with e1 e2 e3
          exact ⟨e1, e3⟩
        obtain ⟨rfl, rfl⟩ := eq8
        obtain ⟨va1', va2', eq9, hSlX, _⟩ := I7.out.own.slR (fun x hx => (I7.out.el x hx).sl)
        have eq10 : va1 = va1' ∧ va2 = va2' := by
          injection eq9 with e1 e2 e3
          exact ⟨e1, e3⟩
        obtain ⟨rfl, rfl⟩ := eq10
        have HSY := hide hSlY
        have HSX := hide hSlX
        have HLs := hide hLs
        have B7 := hide I7.out.bel
        have hm7 := I7.out.msg.lt
        have hr7 := R7.out.lt
        clear eq7 eq9 hSlY hSlX hO7 hE7 hbs7 hLs G7 c4 hTC2 hTC3 hTC4
        go_loopw [14] (fun u wx => ∃ j : Nat, u = .int .i64 (j : Int) ∧ j ≤ q9 ∧ Hid (Below w7.heap.size w7 wx)) (fun u _ => q9 - (intOf u).toNat)
        case atStart => exact ⟨0, rfl, by omega, hide (Below.refl _ _)⟩
        case round =>
          obtain ⟨j, rfl, hj, HB⟩ := hrel
          have e9 : wr.cell? ⟨w6.heap.size, 9, none⟩ = some (.slice ra q9 rc) := (HB.out.cell (p := ⟨w6.heap.size, 9, none⟩) hr7).trans c9
          have h9 : wr.cell? ⟨mB, 9, none⟩ = some (.slice va1 LN va2) := (HB.out.cell (p := ⟨mB, 9, none⟩) hm7).trans d9
          by_cases hjq : j < q9
          · have hjq' : (j : Int) < (q9 : Int) := by omega
            obtain ⟨y, hy⟩ : ∃ y, Ls[j]? = some y := ⟨_, List.getElem?_eq_getElem (show j < Ls.length by have := HLs.out; omega)⟩
            obtain ⟨x, hx⟩ : ∃ x, L[j]? = some x := ⟨_, List.getElem?_eq_getElem (show j < L.length by have := HLN.out; omega)⟩
            have hxy : y.r = x.r := by
              have h1 : (Ls.map (·.r))[j]? = some y.r := by rw [List.getElem?_map, hy]; rfl
              have h2 : (L.map (·.r))[j]? = some x.r := by rw [List.getElem?_map, hx]; rfl
              rw [HMS.out, List.getElem?_take, if_pos hjq] at h1
              rw [HRS.out, h1] at h2
              exact Option.some.inj h2
            obtain ⟨g2, o2, rfl, hg2, hcY⟩ := HSY.out (by have := HLs.out; omega)
            obtain ⟨g1, o1, rfl, hg1, hcX⟩ := HSX.out (by have := HLN.out; omega)
            obtain ⟨y0, y1, y2, y3, y4, y5, y6, _⟩ := hcY j y hy
            obtain ⟨x0, x1, x2, x3, x4, x5, x6, _⟩ := hcX j x hx
            obtain ⟨yna, ync, yda, ydc, yr⟩ := y
            obtain ⟨xna, xnc, xda, xdc, xr⟩ := x
            simp only at hxy y0 y1 y2 y3 y4 y5 y6 x0 x1 x2 x3 x4 x5 x6
            subst hxy
            obtain ⟨nl, HNL⟩ : ∃ nl, Hid (yr.name.length = nl) := ⟨_, rfl⟩
            obtain ⟨dl, HDLn⟩ : ∃ nl, Hid (yr.data.length = nl) := ⟨_, rfl⟩
            obtain ⟨ty, HTY⟩ : ∃ t, Hid (yr.type = t) := ⟨_, rfl⟩
            obtain ⟨cl, HCL⟩ : ∃ t, Hid (yr.cls = t) := ⟨_, rfl⟩
            obtain ⟨tt, HTT⟩ : ∃ t, Hid (yr.ttl = t) := ⟨_, rfl⟩
            rw [HNL.out] at y0 x0
            rw [HDLn.out] at y4 x4
            rw [HTY.out] at y1 x1
            rw [HCL.out] at y2 x2
            rw [HTT.out] at y3 x3
            have hnl : nl ≤ 1000 := by
              have h1 : yr ∈ L.map (·.r) := List.mem_map.2 ⟨_, List.mem_of_getElem? hx, rfl⟩
              rw [HRS.out] at h1
              obtain ⟨i', j', _, e⟩ := M.sAll_mem k i _ h1
              rw [← HNL.out, e]; simp [M.sRec]
            have SA : Hid (∀ w', Below w7.heap.size w7 w' → Below w7.heap.size w7 w' ∧ w'.cell? ⟨w6.heap.size, 9, none⟩ = some (.slice (some ⟨g2, o2, none⟩) q9 rc) ∧ w'.cell? ⟨mB, 9, none⟩ = some (.slice (some ⟨g1, o1, none⟩) LN va2) ∧ w'.cell? ⟨g2, o2 + j * 5, none⟩ = some (.slice yna nl ync) ∧ w'.cell? ⟨g2, o2 + j * 5 + 1, none⟩ = some (.int .u16 (ty : Int)) ∧ w'.cell? ⟨g2, o2 + j * 5 + 2, none⟩ = some (.int .u16 (cl : Int)) ∧ w'.cell? ⟨g2, o2 + j * 5 + 3, none⟩ = some (.int .u32 (tt : Int)) ∧ w'.cell? ⟨g2, o2 + j * 5 + 4, none⟩ = some (.slice yda dl ydc) ∧ w'.cell? ⟨g1, o1 + j * 5, none⟩ = some (.slice xna nl xnc) ∧ w'.cell? ⟨g1, o1 + j * 5 + 1, none⟩ = some (.int .u16 (ty : Int)) ∧ w'.cell? ⟨g1, o1 + j * 5 + 2, none⟩ = some (.int .u16 (cl : Int)) ∧ w'.cell? ⟨g1, o1 + j * 5 + 3, none⟩ = some (.int .u32 (tt : Int)) ∧ w'.cell? ⟨g1, o1 + j * 5 + 4, none⟩ = some (.slice xda dl xdc)) := fun w' hb => ⟨hb, (hb.cell (p := ⟨w6.heap.size, 9, none⟩) hr7).trans c9, (hb.cell (p := ⟨mB, 9, none⟩) hm7).trans d9, (hb.cell (p := ⟨g2, o2 + j * 5, none⟩) hg2).trans y0, (hb.cell (p := ⟨g2, o2 + j * 5 + 1, none⟩) hg2).trans y1, (hb.cell (p := ⟨g2, o2 + j * 5 + 2, none⟩) hg2).trans y2, (hb.cell (p := ⟨g2, o2 + j * 5 + 3, none⟩) hg2).trans y3, (hb.cell (p := ⟨g2, o2 + j * 5 + 4, none⟩) hg2).trans y4, (hb.cell (p := ⟨g1, o1 + j * 5, none⟩) hg1).trans x0, (hb.cell (p := ⟨g1, o1 + j * 5 + 1, none⟩) hg1).trans x1, (hb.cell (p := ⟨g1, o1 + j * 5 + 2, none⟩) hg1).trans x2, (hb.cell (p := ⟨g1, o1 + j * 5 + 3, none⟩) hg1).trans x3, (hb.cell (p := ⟨g1, o1 + j * 5 + 4, none⟩) hg1).trans x4⟩
            have HY5 := hide y5
            have HY6 := hide y6
            have HX5 := hide x5
            have HX6 := hide x6
            have BD := hide HB.out.drew
            have SD := hide (SA.out _ BD.out)
            have hjL : (j : Int) < (LN : Int) := by omega
            clear y0 y1 y2 y3 y4 y5 y6 x0 x1 x2 x3 x4 x5 x6 hcY hcX hy hx
            go_wp2
            go_region_held3 (fun w' => Below w7.heap.size w7 w' ∧ w'.cell? ⟨w6.heap.size, 9, none⟩ = some (.slice (some ⟨g2, o2, none⟩) q9 rc) ∧ w'.cell? ⟨mB, 9, none⟩ = some (.slice (some ⟨g1, o1, none⟩) LN va2) ∧ w'.cell? ⟨g2, o2 + j * 5, none⟩ = some (.slice yna nl ync) ∧ w'.cell? ⟨g2, o2 + j * 5 + 1, none⟩ = some (.int .u16 (ty : Int)) ∧ w'.cell? ⟨g2, o2 + j * 5 + 2, none⟩ = some (.int .u16 (cl : Int)) ∧ w'.cell? ⟨g2, o2 + j * 5 + 3, none⟩ = some (.int .u32 (tt : Int)) ∧ w'.cell? ⟨g2, o2 + j * 5 + 4, none⟩ = some (.slice yda dl ydc) ∧ w'.cell? ⟨g1, o1 + j * 5, none⟩ = some (.slice xna nl xnc) ∧ w'.cell? ⟨g1, o1 + j * 5 + 1, none⟩ = some (.int .u16 (ty : Int)) ∧ w'.cell? ⟨g1, o1 + j * 5 + 2, none⟩ = some (.int .u16 (cl : Int)) ∧ w'.cell? ⟨g1, o1 + j * 5 + 3, none⟩ = some (.int .u32 (tt : Int)) ∧ w'.cell? ⟨g1, o1 + j * 5 + 4, none⟩ = some (.slice xda dl xdc)) (first | exact SD.out | exact SE.out | assumption) ((go_at_call 12; refine (hrec_same yr.name yr.data yna xna yda xda nl dl ync xnc ydc xdc ty cl tt _ HNL HDLn (by exact HY5.out.below BD.out (Nat.le_refl _)) (by exact HX5.out.below BD.out (Nat.le_refl _)) (by exact HY6.out.below BD.out (Nat.le_refl _)) (by exact HX6.out.below BD.out (Nat.le_refl _)) hnl).mono ?_; rintro e w8 ⟨rfl, hb8⟩; have BE := hide (BD.out.trans (hb8.mono BD.out.size)); have SE := hide (SA.out _ BE.out); clear hb8))
            go_wp2
            go_roundw
            case rel => first | exact ⟨j + 1, by go_num, by omega, BE⟩ | (repeat apply Exists.intro; refine ⟨?_, rfl⟩; exact ⟨j + 1, by go_num, by omega, BE⟩)
            case measure => simp [intOf]; omega
          · have hjq' : ¬ (j : Int) < (q9 : Int) := by omega
            have BF : Hid (Below w.heap.size w wr.drew) := (B7.out.trans (HB.out.mono B7.out.size)).drew
            have SD2 : Hid (wr.drew.cell? ⟨w6.heap.size, 9, none⟩ = some (.slice ra q9 rc) ∧ wr.drew.cell? ⟨mB, 9, none⟩ = some (.slice va1 LN va2)) := ⟨e9, h9⟩
            by_cases hz0 : q9 = 0
            · have ez0 : decide ((q9 : Int) = 0) = true := by simp; omega
              have ez1 : ((q9 : Int) == 0) = true := by simp; omega
              clear hz0
              go_wp2
              refine wp_region_held_drew (S := fun w' => w'.cell? ⟨w6.heap.size, 9, none⟩ = some (.slice ra q9 rc) ∧ w'.cell? ⟨mB, 9, none⟩ = some (.slice va1 LN va2)) (by kernel_rfl) SD2.out (fun hHeld => ?_)
              refine wpAnyH_take (i := 0) (v := ?v0p) (gt0 _ _) (by kernel_rfl) (by kernel_rfl) (by kernel_rfl) (fun _ _ _ h => h) (Or.inl ⟨by rfl, ?hy0p⟩) (by assumption) ?rest0p
              case hy0p => (intro w0 hSw; (try dsimp only at hSw); go_simp; try (with_reducible rfl))
              case' rest0p => try simp only [Act.put, List.setIfInBounds_toArray, List.set_cons_zero, List.set_cons_succ]
              refine wpAnyH_take (i := 1) (v := ?v1p) (gt1 _ _ _) (by kernel_rfl) (by kernel_rfl) (by kernel_rfl) (fun _ _ _ h => h) (Or.inl ⟨by rfl, ?hy1p⟩) (by assumption) ?rest1p
              case hy1p => (intro w0 hSw; (try dsimp only at hSw); go_simp; try (with_reducible rfl))
              case' rest1p => try simp only [Act.put, List.setIfInBounds_toArray, List.set_cons_zero, List.set_cons_succ]
              refine wpAnyH_take (i := 2) (v := ?v2p) (gt2 _ _ _ _) (by kernel_rfl) (by kernel_rfl) (by kernel_rfl) (fun _ _ _ h => h) (Or.inl ⟨by rfl, ?hy2p⟩) (by assumption) ?rest2p
              case hy2p => (intro w0 hSw; (try dsimp only at hSw); go_simp; try (with_reducible rfl))
              case' rest2p => try simp only [Act.put, List.setIfInBounds_toArray, List.set_cons_zero, List.set_cons_succ]
              refine wpAnyH_take (i := 3) (v := ?v3p) (gt3 _ _ _ _ _) (by kernel_rfl) (by kernel_rfl) (by kernel_rfl) (fun _ _ _ h => h) (Or.inl ⟨by rfl, ?hy3p⟩) (by assumption) ?rest3p
              case hy3p => (intro w0 hSw; (try dsimp only at hSw); go_simp; try (with_reducible rfl))
              case' rest3p => try simp only [Act.put, List.setIfInBounds_toArray, List.set_cons_zero, List.set_cons_succ]
              refine wpAnyH_take (i := 4) (v := ?v4p) (gt4 _ _ _ _ _ _) (by kernel_rfl) (by kernel_rfl) (by kernel_rfl) (fun _ _ _ h => h) (Or.inl ⟨by rfl, ?hy4p⟩) (by assumption) ?rest4p
              case hy4p => (intro w0 hSw; (try dsimp only at hSw); go_simp; try (with_reducible rfl))
              case' rest4p => try simp only [Act.put, List.setIfInBounds_toArray, List.set_cons_zero, List.set_cons_succ]
              refine wpAnyH_take (i := 5) (v := undef) (gt5 _ _ _ _ _ _ _) (by kernel_rfl) (by kernel_rfl) (by kernel_rfl) (fun _ _ _ h => h) (Or.inr ⟨by rfl, rfl⟩) (by assumption) ?rest5p
              case' rest5p => try simp only [Act.put, List.setIfInBounds_toArray, List.set_cons_zero, List.set_cons_succ]
              refine wpAnyH_take (i := 6) (v := undef) (gt6 _ _ _ _ _ _ _ _) (by kernel_rfl) (by kernel_rfl) (by kernel_rfl) (fun _ _ _ h => h) (Or.inr ⟨by rfl, rfl⟩) (by assumption) ?rest6p
              case' rest6p => try simp only [Act.put, List.setIfInBounds_toArray, List.set_cons_zero, List.set_cons_succ]
              refine wpAnyH_take (i := 7) (v := undef) (gt7 _ _ _ _ _ _ _ _ _) (by kernel_rfl) (by kernel_rfl) (by kernel_rfl) (fun _ _ _ h => h) (Or.inr ⟨by rfl, rfl⟩) (by assumption) ?rest7p
              case' rest7p => try simp only [Act.put, List.setIfInBounds_toArray, List.set_cons_zero, List.set_cons_succ]
              refine wpAnyH_take (i := 8) (v := undef) (gt8 _ _ _ _ _ _ _ _ _ _) (by kernel_rfl) (by kernel_rfl) (by kernel_rfl) (fun _ _ _ h => h) (Or.inr ⟨by rfl, rfl⟩) (by assumption) ?rest8p
              case' rest8p => try simp only [Act.put, List.setIfInBounds_toArray, List.set_cons_zero, List.set_cons_succ]
              refine wpAnyH_take (i := 9) (v := undef) (gt9 _ _ _ _ _ _ _ _ _ _ _) (by kernel_rfl) (by kernel_rfl) (by kernel_rfl) (fun _ _ _ h => h) (Or.inr ⟨by rfl, rfl⟩) (by assumption) ?rest9p
              case' rest9p => try simp only [Act.put, List.setIfInBounds_toArray, List.set_cons_zero, List.set_cons_succ]
              refine wpAnyH_take (i := 10) (v := undef) (gt10 _ _ _ _ _ _ _ _ _ _ _ _) (by kernel_rfl) (by kernel_rfl) (by kernel_rfl) (fun _ _ _ h => h) (Or.inr ⟨by rfl, rfl⟩) (by assumption) ?rest10p
              case' rest10p => try simp only [Act.put, List.setIfInBounds_toArray, List.set_cons_zero, List.set_cons_succ]
              refine wpAnyH_take (i := 11) (v := undef) (gt11 _ _ _ _ _ _ _ _ _ _ _ _ _) (by kernel_rfl) (by kernel_rfl) (by kernel_rfl) (fun _ _ _ h => h) (Or.inr ⟨by rfl, rfl⟩) (by assumption) ?rest11p
              case' rest11p => try simp only [Act.put, List.setIfInBounds_toArray, List.set_cons_zero, List.set_cons_succ]
              refine wpAnyH_take (i := 12) (v := ?v12p) (gt12 _ _ _ _ _ _ _ _ _ _ _ _ _ _) (by kernel_rfl) (by kernel_rfl) (by kernel_rfl) (fun _ _ _ h => h) (Or.inl ⟨by rfl, ?hy12p⟩) (by assumption) ?rest12p
              case hy12p => (intro w0 hSw; (try dsimp only at hSw); go_simp; try (with_reducible rfl))
              case' rest12p => try simp only [Act.put, List.setIfInBounds_toArray, List.set_cons_zero, List.set_cons_succ]
              refine wpAnyH_take (i := 13) (v := ?v13p) (gt13 _ _ _ _ _ _ _ _ _ _ _ _ _ _ _) (by kernel_rfl) (by kernel_rfl) (by kernel_rfl) (fun _ _ _ h => h) (Or.inl ⟨by rfl, ?hy13p⟩) (by assumption) ?rest13p
              case hy13p => (intro w0 hSw; (try dsimp only at hSw); go_simp; try (with_reducible rfl))
              case' rest13p => try simp only [Act.put, List.setIfInBounds_toArray, List.set_cons_zero, List.set_cons_succ]
              refine wpAnyH_take (i := 14) (v := undef) (gt14 _ _ _ _ _ _ _ _ _ _ _ _ _ _ _ _) (by kernel_rfl) (by kernel_rfl) (by kernel_rfl) (fun _ _ _ h => h) (Or.inr ⟨by rfl, rfl⟩) (by assumption) ?rest14p
              case' rest14p => try simp only [Act.put, List.setIfInBounds_toArray, List.set_cons_zero, List.set_cons_succ]
              refine wpAnyH_take (i := 15) (v := undef) (gt15 _ _ _ _ _ _ _ _ _ _ _ _ _ _ _ _ _) (by kernel_rfl) (by kernel_rfl) (by kernel_rfl) (fun _ _ _ h => h) (Or.inr ⟨by rfl, rfl⟩) (by assumption) ?rest15p
              case' rest15p => try simp only [Act.put, List.setIfInBounds_toArray, List.set_cons_zero, List.set_cons_succ]
              refine wpAnyH_take (i := 16) (v := undef) (gt16 _ _ _ _ _ _ _ _ _ _ _ _ _ _ _ _ _ _) (by kernel_rfl) (by kernel_rfl) (by kernel_rfl) (fun _ _ _ h => h) (Or.inr ⟨by rfl, rfl⟩) (by assumption) ?rest16p
              case' rest16p => try simp only [Act.put, List.setIfInBounds_toArray, List.set_cons_zero, List.set_cons_succ]
              refine wpAnyH_take (i := 17) (v := undef) (gt17 _ _ _ _ _ _ _ _ _ _ _ _ _ _ _ _ _ _ _) (by kernel_rfl) (by kernel_rfl) (by kernel_rfl) (fun _ _ _ h => h) (Or.inr ⟨by rfl, rfl⟩) (by assumption) ?rest17p
              case' rest17p => try simp only [Act.put, List.setIfInBounds_toArray, List.set_cons_zero, List.set_cons_succ]
              refine wpAnyH_take (i := 18) (v := undef) (gt18 _ _ _ _ _ _ _ _ _ _ _ _ _ _ _ _ _ _ _ _) (by kernel_rfl) (by kernel_rfl) (by kernel_rfl) (fun _ _ _ h => h) (Or.inr ⟨by rfl, rfl⟩) (by assumption) ?rest18p
              case' rest18p => try simp only [Act.put, List.setIfInBounds_toArray, List.set_cons_zero, List.set_cons_succ]
              refine wpAnyH_take (i := 19) (v := undef) (gt19 _ _ _ _ _ _ _ _ _ _ _ _ _ _ _ _ _ _ _ _ _) (by kernel_rfl) (by kernel_rfl) (by kernel_rfl) (fun _ _ _ h => h) (Or.inr ⟨by rfl, rfl⟩) (by assumption) ?rest19p
              case' rest19p => try simp only [Act.put, List.setIfInBounds_toArray, List.set_cons_zero, List.set_cons_succ]
              refine wpAnyH_take (i := 20) (v := undef) (gt20 _ _ _ _ _ _ _ _ _ _ _ _ _ _ _ _ _ _ _ _ _ _) (by kernel_rfl) (by kernel_rfl) (by kernel_rfl) (fun _ _ _ h => h) (Or.inr ⟨by rfl, rfl⟩) (by assumption) ?rest20p
              case' rest20p => try simp only [Act.put, List.setIfInBounds_toArray, List.set_cons_zero, List.set_cons_succ]
              refine wpAnyH_take (i := 21) (v := undef) (gt21 _ _ _ _ _ _ _ _ _ _ _ _ _ _ _ _ _ _ _ _ _ _ _) (by kernel_rfl) (by kernel_rfl) (by kernel_rfl) (fun _ _ _ h => h) (Or.inr ⟨by rfl, rfl⟩) (by assumption) ?rest21p
              case' rest21p => try simp only [Act.put, List.setIfInBounds_toArray, List.set_cons_zero, List.set_cons_succ]
              refine wpAnyH_take (i := 22) (v := undef) (gt22 _ _ _ _ _ _ _ _ _ _ _ _ _ _ _ _ _ _ _ _ _ _ _ _) (by kernel_rfl) (by kernel_rfl) (by kernel_rfl) (fun _ _ _ h => h) (Or.inr ⟨by rfl, rfl⟩) (by assumption) ?rest22p
              case' rest22p => try simp only [Act.put, List.setIfInBounds_toArray, List.set_cons_zero, List.set_cons_succ]
              refine wpAnyH_take (i := 23) (v := undef) (gt23 _ _ _ _ _ _ _ _ _ _ _ _ _ _ _ _ _ _ _ _ _ _ _ _ _) (by kernel_rfl) (by kernel_rfl) (by kernel_rfl) (fun _ _ _ h => h) (Or.inr ⟨by rfl, rfl⟩) (by assumption) ?rest23p
              case' rest23p => try simp only [Act.put, List.setIfInBounds_toArray, List.set_cons_zero, List.set_cons_succ]
              refine wpAnyH_take (i := 24) (v := undef) (gt24 _ _ _ _ _ _ _ _ _ _ _ _ _ _ _ _ _ _ _ _ _ _ _ _ _ _) (by kernel_rfl) (by kernel_rfl) (by kernel_rfl) (fun _ _ _ h => h) (Or.inr ⟨by rfl, rfl⟩) (by assumption) ?rest24p
              case' rest24p => try simp only [Act.put, List.setIfInBounds_toArray, List.set_cons_zero, List.set_cons_succ]
              refine wpAnyH_take (i := 25) (v := undef) (gt25 _ _ _ _ _ _ _ _ _ _ _ _ _ _ _ _ _ _ _ _ _ _ _ _ _ _ _) (by kernel_rfl) (by kernel_rfl) (by kernel_rfl) (fun _ _ _ h => h) (Or.inr ⟨by rfl, rfl⟩) (by assumption) ?rest25p
              case' rest25p => try simp only [Act.put, List.setIfInBounds_toArray, List.set_cons_zero, List.set_cons_succ]
              refine wpAnyH_take (i := 26) (v := undef) (gt26 _ _ _ _ _ _ _ _ _ _ _ _ _ _ _ _ _ _ _ _ _ _ _ _ _ _ _ _) (by kernel_rfl) (by kernel_rfl) (by kernel_rfl) (fun _ _ _ h => h) (Or.inr ⟨by rfl, rfl⟩) (by assumption) ?rest26p
              case' rest26p => try simp only [Act.put, List.setIfInBounds_toArray, List.set_cons_zero, List.set_cons_succ]
              refine wpAnyH_take (i := 27) (v := undef) (gt27 _ _ _ _ _ _ _ _ _ _ _ _ _ _ _ _ _ _ _ _ _ _ _ _ _ _ _ _ _) (by kernel_rfl) (by kernel_rfl) (by kernel_rfl) (fun _ _ _ h => h) (Or.inr ⟨by rfl, rfl⟩) (by assumption) ?rest27p
              case' rest27p => try simp only [Act.put, List.setIfInBounds_toArray, List.set_cons_zero, List.set_cons_succ]
              refine wpAnyH_take (i := 28) (v := undef) (gt28 _ _ _ _ _ _ _ _ _ _ _ _ _ _ _ _ _ _ _ _ _ _ _ _ _ _ _ _ _ _) (by kernel_rfl) (by kernel_rfl) (by kernel_rfl) (fun _ _ _ h => h) (Or.inr ⟨by rfl, rfl⟩) (by assumption) ?rest28p
              case' rest28p => try simp only [Act.put, List.setIfInBounds_toArray, List.set_cons_zero, List.set_cons_succ]
              refine wpAnyH_take (i := 29) (v := undef) (gt29 _ _ _ _ _ _ _ _ _ _ _ _ _ _ _ _ _ _ _ _ _ _ _ _ _ _ _ _ _ _ _) (by kernel_rfl) (by kernel_rfl) (by kernel_rfl) (fun _ _ _ h => h) (Or.inr ⟨by rfl, rfl⟩) (by assumption) ?rest29p
              case' rest29p => try simp only [Act.put, List.setIfInBounds_toArray, List.set_cons_zero, List.set_cons_succ]
              refine wpAnyH_take (i := 30) (v := undef) (gt30 _ _ _ _ _ _ _ _ _ _ _ _ _ _ _ _ _ _ _ _ _ _ _ _ _ _ _ _ _ _ _ _) (by kernel_rfl) (by kernel_rfl) (by kernel_rfl) (fun _ _ _ h => h) (Or.inr ⟨by rfl, rfl⟩) (by assumption) ?rest30p
              case' rest30p => try simp only [Act.put, List.setIfInBounds_toArray, List.set_cons_zero, List.set_cons_succ]
              refine wpAnyH_take (i := 31) (v := undef) (gt31 _ _ _ _ _ _ _ _ _ _ _ _ _ _ _ _ _ _ _ _ _ _ _ _ _ _ _ _ _ _ _ _ _) (by kernel_rfl) (by kernel_rfl) (by kernel_rfl) (fun _ _ _ h => h) (Or.inr ⟨by rfl, rfl⟩) (by assumption) ?rest31p
              case' rest31p => try simp only [Act.put, List.setIfInBounds_toArray, List.set_cons_zero, List.set_cons_succ]
              refine wpAnyH_take (i := 32) (v := undef) (gt32 _ _ _ _ _ _ _ _ _ _ _ _ _ _ _ _ _ _ _ _ _ _ _ _ _ _ _ _ _ _ _ _ _ _) (by kernel_rfl) (by kernel_rfl) (by kernel_rfl) (fun _ _ _ h => h) (Or.inr ⟨by rfl, rfl⟩) (by assumption) ?rest32p
              case' rest32p => try simp only [Act.put, List.setIfInBounds_toArray, List.set_cons_zero, List.set_cons_succ]
              refine wpAnyH_take (i := 33) (v := ?v33p) (gt33 _ _ _ _ _ _ _ _ _ _ _ _ _ _ _ _ _ _ _ _ _ _ _ _ _ _ _ _ _ _ _ _ _ _ _) (by kernel_rfl) (by kernel_rfl) (by kernel_rfl) (fun _ _ _ h => h) (Or.inl ⟨by rfl, ?hy33p⟩) (by assumption) ?rest33p
              case hy33p => (intro w0 hSw; (try dsimp only at hSw); go_simp; try (with_reducible rfl))
              case' rest33p => try simp only [Act.put, List.setIfInBounds_toArray, List.set_cons_zero, List.set_cons_succ]
              refine wpAnyH_take (i := 34) (v := ?v34p) (gt34 _ _ _ _ _ _ _ _ _ _ _ _ _ _ _ _ _ _ _ _ _ _ _ _ _ _ _ _ _ _ _ _ _ _ _ _) (by kernel_rfl) (by kernel_rfl) (by kernel_rfl) (fun _ _ _ h => h) (Or.inl ⟨by rfl, ?hy34p⟩) (by assumption) ?rest34p
              case hy34p => (intro w0 hSw; (try dsimp only at hSw); go_simp; try (with_reducible rfl))
              case' rest34p => try simp only [Act.put, List.setIfInBounds_toArray, List.set_cons_zero, List.set_cons_succ]
              refine wpAnyH_done (by kernel_rfl) ?_ _
              go_wp2
              go_ret
              exact ⟨rfl, BF.out⟩
            have ez0 : decide ((q9 : Int) = 0) = false := by simp; omega
            have ez1 : ((q9 : Int) == 0) = false := by simp; omega
            by_cases hzN : q9 = LN
            · have en0 : decide ((q9 : Int) = (LN : Int)) = true := by simp; omega
              have en1 : ((q9 : Int) == (LN : Int)) = true := by simp; omega
              clear hzN hz0
              go_wp2
              refine wp_region_held_drew (S := fun w' => w'.cell? ⟨w6.heap.size, 9, none⟩ = some (.slice ra q9 rc) ∧ w'.cell? ⟨mB, 9, none⟩ = some (.slice va1 LN va2)) (by kernel_rfl) SD2.out (fun hHeld => ?_)
              refine wpAnyH_take (i := 0) (v := ?v0q) (gt0 _ _) (by kernel_rfl) (by kernel_rfl) (by kernel_rfl) (fun _ _ _ h => h) (Or.inl ⟨by rfl, ?hy0q⟩) (by assumption) ?rest0q
              case hy0q => (intro w0 hSw; (try dsimp only at hSw); go_simp; try (with_reducible rfl))
              case' rest0q => try simp only [Act.put, List.setIfInBounds_toArray, List.set_cons_zero, List.set_cons_succ]
              refine wpAnyH_take (i := 1) (v := ?v1q) (gt1 _ _ _) (by kernel_rfl) (by kernel_rfl) (by kernel_rfl) (fun _ _ _ h => h) (Or.inl ⟨by rfl, ?hy1q⟩) (by assumption) ?rest1q
              case hy1q => (intro w0 hSw; (try dsimp only at hSw); go_simp; try (with_reducible rfl))
              case' rest1q => try simp only [Act.put, List.setIfInBounds_toArray, List.set_cons_zero, List.set_cons_succ]
              refine wpAnyH_take (i := 2) (v := ?v2q) (gt2 _ _ _ _) (by kernel_rfl) (by kernel_rfl) (by kernel_rfl) (fun _ _ _ h => h) (Or.inl ⟨by rfl, ?hy2q⟩) (by assumption) ?rest2q
              case hy2q => (intro w0 hSw; (try dsimp only at hSw); go_simp; try (with_reducible rfl))
              case' rest2q => try simp only [Act.put, List.setIfInBounds_toArray, List.set_cons_zero, List.set_cons_succ]
              refine wpAnyH_take (i := 3) (v := ?v3q) (gt3 _ _ _ _ _) (by kernel_rfl) (by kernel_rfl) (by kernel_rfl) (fun _ _ _ h => h) (Or.inl ⟨by rfl, ?hy3q⟩) (by assumption) ?rest3q
              case hy3q => (intro w0 hSw; (try dsimp only at hSw); go_simp; try (with_reducible rfl))
              case' rest3q => try simp only [Act.put, List.setIfInBounds_toArray, List.set_cons_zero, List.set_cons_succ]
              refine wpAnyH_take (i := 4) (v := ?v4q) (gt4 _ _ _ _ _ _) (by kernel_rfl) (by kernel_rfl) (by kernel_rfl) (fun _ _ _ h => h) (Or.inl ⟨by rfl, ?hy4q⟩) (by assumption) ?rest4q
              case hy4q => (intro w0 hSw; (try dsimp only at hSw); go_simp; try (with_reducible rfl))
              case' rest4q => try simp only [Act.put, List.setIfInBounds_toArray, List.set_cons_zero, List.set_cons_succ]
              refine wpAnyH_take (i := 5) (v := ?v5q) (gt5 _ _ _ _ _ _ _) (by kernel_rfl) (by kernel_rfl) (by kernel_rfl) (fun _ _ _ h => h) (Or.inl ⟨by rfl, ?hy5q⟩) (by assumption) ?rest5q
              case hy5q => (intro w0 hSw; (try dsimp only at hSw); go_simp; try (with_reducible rfl))
              case' rest5q => try simp only [Act.put, List.setIfInBounds_toArray, List.set_cons_zero, List.set_cons_succ]
              refine wpAnyH_take (i := 6) (v := ?v6q) (gt6 _ _ _ _ _ _ _ _) (by kernel_rfl) (by kernel_rfl) (by kernel_rfl) (fun _ _ _ h => h) (Or.inl ⟨by rfl, ?hy6q⟩) (by assumption) ?rest6q
              case hy6q => (intro w0 hSw; (try dsimp only at hSw); go_simp; try (with_reducible rfl))
              case' rest6q => try simp only [Act.put, List.setIfInBounds_toArray, List.set_cons_zero, List.set_cons_succ]
              refine wpAnyH_take (i := 7) (v := ?v7q) (gt7 _ _ _ _ _ _ _ _ _) (by kernel_rfl) (by kernel_rfl) (by kernel_rfl) (fun _ _ _ h => h) (Or.inl ⟨by rfl, ?hy7q⟩) (by assumption) ?rest7q
              case hy7q => (intro w0 hSw; (try dsimp only at hSw); go_simp; try (with_reducible rfl))
              case' rest7q => try simp only [Act.put, List.setIfInBounds_toArray, List.set_cons_zero, List.set_cons_succ]
              refine wpAnyH_take (i := 8) (v := ?v8q) (gt8 _ _ _ _ _ _ _ _ _ _) (by kernel_rfl) (by kernel_rfl) (by kernel_rfl) (fun _ _ _ h => h) (Or.inl ⟨by rfl, ?hy8q⟩) (by assumption) ?rest8q
              case hy8q => (intro w0 hSw; (try dsimp only at hSw); go_simp; try (with_reducible rfl))
              case' rest8q => try simp only [Act.put, List.setIfInBounds_toArray, List.set_cons_zero, List.set_cons_succ]
              refine wpAnyH_take (i := 9) (v := ?v9q) (gt9 _ _ _ _ _ _ _ _ _ _ _) (by kernel_rfl) (by kernel_rfl) (by kernel_rfl) (fun _ _ _ h => h) (Or.inl ⟨by rfl, ?hy9q⟩) (by assumption) ?rest9q
              case hy9q => (intro w0 hSw; (try dsimp only at hSw); go_simp; try (with_reducible rfl))
              case' rest9q => try simp only [Act.put, List.setIfInBounds_toArray, List.set_cons_zero, List.set_cons_succ]
              refine wpAnyH_take (i := 10) (v := ?v10q) (gt10 _ _ _ _ _ _ _ _ _ _ _ _) (by kernel_rfl) (by kernel_rfl) (by kernel_rfl) (fun _ _ _ h => h) (Or.inl ⟨by rfl, ?hy10q⟩) (by assumption) ?rest10q
              case hy10q => (intro w0 hSw; (try dsimp only at hSw); go_simp; try (with_reducible rfl))
              case' rest10q => try simp only [Act.put, List.setIfInBounds_toArray, List.set_cons_zero, List.set_cons_succ]
              refine wpAnyH_take (i := 11) (v := ?v11q) (gt11 _ _ _ _ _ _ _ _ _ _ _ _ _) (by kernel_rfl) (by kernel_rfl) (by kernel_rfl) (fun _ _ _ h => h) (Or.inl ⟨by rfl, ?hy11q⟩) (by assumption) ?rest11q
              case hy11q => (intro w0 hSw; (try dsimp only at hSw); go_simp; try (with_reducible rfl))
              case' rest11q => try simp only [Act.put, List.setIfInBounds_toArray, List.set_cons_zero, List.set_cons_succ]
              refine wpAnyH_take (i := 12) (v := ?v12q) (gt12 _ _ _ _ _ _ _ _ _ _ _ _ _ _) (by kernel_rfl) (by kernel_rfl) (by kernel_rfl) (fun _ _ _ h => h) (Or.inl ⟨by rfl, ?hy12q⟩) (by assumption) ?rest12q
              case hy12q => (intro w0 hSw; (try dsimp only at hSw); go_simp; try (with_reducible rfl))
              case' rest12q => try simp only [Act.put, List.setIfInBounds_toArray, List.set_cons_zero, List.set_cons_succ]
              refine wpAnyH_take (i := 13) (v := ?v13q) (gt13 _ _ _ _ _ _ _ _ _ _ _ _ _ _ _) (by kernel_rfl) (by kernel_rfl) (by kernel_rfl) (fun _ _ _ h => h) (Or.inl ⟨by rfl, ?hy13q⟩) (by assumption) ?rest13q
              case hy13q => (intro w0 hSw; (try dsimp only at hSw); go_simp; try (with_reducible rfl))
              case' rest13q => try simp only [Act.put, List.setIfInBounds_toArray, List.set_cons_zero, List.set_cons_succ]
              refine wpAnyH_take (i := 14) (v := undef) (gt14 _ _ _ _ _ _ _ _ _ _ _ _ _ _ _ _) (by kernel_rfl) (by kernel_rfl) (by kernel_rfl) (fun _ _ _ h => h) (Or.inr ⟨by rfl, rfl⟩) (by assumption) ?rest14q
              case' rest14q => try simp only [Act.put, List.setIfInBounds_toArray, List.set_cons_zero, List.set_cons_succ]
              refine wpAnyH_take (i := 15) (v := undef) (gt15 _ _ _ _ _ _ _ _ _ _ _ _ _ _ _ _ _) (by kernel_rfl) (by kernel_rfl) (by kernel_rfl) (fun _ _ _ h => h) (Or.inr ⟨by rfl, rfl⟩) (by assumption) ?rest15q
              case' rest15q => try simp only [Act.put, List.setIfInBounds_toArray, List.set_cons_zero, List.set_cons_succ]
              refine wpAnyH_take (i := 16) (v := undef) (gt16 _ _ _ _ _ _ _ _ _ _ _ _ _ _ _ _ _ _) (by kernel_rfl) (by kernel_rfl) (by kernel_rfl) (fun _ _ _ h => h) (Or.inr ⟨by rfl, rfl⟩) (by assumption) ?rest16q
              case' rest16q => try simp only [Act.put, List.setIfInBounds_toArray, List.set_cons_zero, List.set_cons_succ]
              refine wpAnyH_take (i := 17) (v := undef) (gt17 _ _ _ _ _ _ _ _ _ _ _ _ _ _ _ _ _ _ _) (by kernel_rfl) (by kernel_rfl) (by kernel_rfl) (fun _ _ _ h => h) (Or.inr ⟨by rfl, rfl⟩) (by assumption) ?rest17q
              case' rest17q => try simp only [Act.put, List.setIfInBounds_toArray, List.set_cons_zero, List.set_cons_succ]
              refine wpAnyH_take (i := 18) (v := undef) (gt18 _ _ _ _ _ _ _ _ _ _ _ _ _ _ _ _ _ _ _ _) (by kernel_rfl) (by kernel_rfl) (by kernel_rfl) (fun _ _ _ h => h) (Or.inr ⟨by rfl, rfl⟩) (by assumption) ?rest18q
              case' rest18q => try simp only [Act.put, List.setIfInBounds_toArray, List.set_cons_zero, List.set_cons_succ]
              refine wpAnyH_take (i := 19) (v := undef) (gt19 _ _ _ _ _ _ _ _ _ _ _ _ _ _ _ _ _ _ _ _ _) (by kernel_rfl) (by kernel_rfl) (by kernel_rfl) (fun _ _ _ h => h) (Or.inr ⟨by rfl, rfl⟩) (by assumption) ?rest19q
              case' rest19q => try simp only [Act.put, List.setIfInBounds_toArray, List.set_cons_zero, List.set_cons_succ]
              refine wpAnyH_take (i := 20) (v := undef) (gt20 _ _ _ _ _ _ _ _ _ _ _ _ _ _ _ _ _ _ _ _ _ _) (by kernel_rfl) (by kernel_rfl) (by kernel_rfl) (fun _ _ _ h => h) (Or.inr ⟨by rfl, rfl⟩) (by assumption) ?rest20q
              case' rest20q => try simp only [Act.put, List.setIfInBounds_toArray, List.set_cons_zero, List.set_cons_succ]
              refine wpAnyH_take (i := 21) (v := undef) (gt21 _ _ _ _ _ _ _ _ _ _ _ _ _ _ _ _ _ _ _ _ _ _ _) (by kernel_rfl) (by kernel_rfl) (by kernel_rfl) (fun _ _ _ h => h) (Or.inr ⟨by rfl, rfl⟩) (by assumption) ?rest21q
              case' rest21q => try simp only [Act.put, List.setIfInBounds_toArray, List.set_cons_zero, List.set_cons_succ]
              refine wpAnyH_take (i := 22) (v := undef) (gt22 _ _ _ _ _ _ _ _ _ _ _ _ _ _ _ _ _ _ _ _ _ _ _ _) (by kernel_rfl) (by kernel_rfl) (by kernel_rfl) (fun _ _ _ h => h) (Or.inr ⟨by rfl, rfl⟩) (by assumption) ?rest22q
              case' rest22q => try simp only [Act.put, List.setIfInBounds_toArray, List.set_cons_zero, List.set_cons_succ]
              refine wpAnyH_take (i := 23) (v := undef) (gt23 _ _ _ _ _ _ _ _ _ _ _ _ _ _ _ _ _ _ _ _ _ _ _ _ _) (by kernel_rfl) (by kernel_rfl) (by kernel_rfl) (fun _ _ _ h => h) (Or.inr ⟨by rfl, rfl⟩) (by assumption) ?rest23q
              case' rest23q => try simp only [Act.put, List.setIfInBounds_toArray, List.set_cons_zero, List.set_cons_succ]
              refine wpAnyH_take (i := 24) (v := undef) (gt24 _ _ _ _ _ _ _ _ _ _ _ _ _ _ _ _ _ _ _ _ _ _ _ _ _ _) (by kernel_rfl) (by kernel_rfl) (by kernel_rfl) (fun _ _ _ h => h) (Or.inr ⟨by rfl, rfl⟩) (by assumption) ?rest24q
              case' rest24q => try simp only [Act.put, List.setIfInBounds_toArray, List.set_cons_zero, List.set_cons_succ]
              refine wpAnyH_take (i := 25) (v := undef) (gt25 _ _ _ _ _ _ _ _ _ _ _ _ _ _ _ _ _ _ _ _ _ _ _ _ _ _ _) (by kernel_rfl) (by kernel_rfl) (by kernel_rfl) (fun _ _ _ h => h) (Or.inr ⟨by rfl, rfl⟩) (by assumption) ?rest25q
              case' rest25q => try simp only [Act.put, List.setIfInBounds_toArray, List.set_cons_zero, List.set_cons_succ]
              refine wpAnyH_take (i := 26) (v := undef) (gt26 _ _ _ _ _ _ _ _ _ _ _ _ _ _ _ _ _ _ _ _ _ _ _ _ _ _ _ _) (by kernel_rfl) (by kernel_rfl) (by kernel_rfl) (fun _ _ _ h => h) (Or.inr ⟨by rfl, rfl⟩) (by assumption) ?rest26q
              case' rest26q => try simp only [Act.put, List.setIfInBounds_toArray, List.set_cons_zero, List.set_cons_succ]
              refine wpAnyH_take (i := 27) (v := undef) (gt27 _ _ _ _ _ _ _ _ _ _ _ _ _ _ _ _ _ _ _ _ _ _ _ _ _ _ _ _ _) (by kernel_rfl) (by kernel_rfl) (by kernel_rfl) (fun _ _ _ h => h) (Or.inr ⟨by rfl, rfl⟩) (by assumption) ?rest27q
              case' rest27q => try simp only [Act.put, List.setIfInBounds_toArray, List.set_cons_zero, List.set_cons_succ]
              refine wpAnyH_take (i := 28) (v := undef) (gt28 _ _ _ _ _ _ _ _ _ _ _ _ _ _ _ _ _ _ _ _ _ _ _ _ _ _ _ _ _ _) (by kernel_rfl) (by kernel_rfl) (by kernel_rfl) (fun _ _ _ h => h) (Or.inr ⟨by rfl, rfl⟩) (by assumption) ?rest28q
              case' rest28q => try simp only [Act.put, List.setIfInBounds_toArray, List.set_cons_zero, List.set_cons_succ]
              refine wpAnyH_take (i := 29) (v := undef) (gt29 _ _ _ _ _ _ _ _ _ _ _ _ _ _ _ _ _ _ _ _ _ _ _ _ _ _ _ _ _ _ _) (by kernel_rfl) (by kernel_rfl) (by kernel_rfl) (fun _ _ _ h => h) (Or.inr ⟨by rfl, rfl⟩) (by assumption) ?rest29q
              case' rest29q => try simp only [Act.put, List.setIfInBounds_toArray, List.set_cons_zero, List.set_cons_succ]
              refine wpAnyH_take (i := 30) (v := undef) (gt30 _ _ _ _ _ _ _ _ _ _ _ _ _ _ _ _ _ _ _ _ _ _ _ _ _ _ _ _ _ _ _ _) (by kernel_rfl) (by kernel_rfl) (by kernel_rfl) (fun _ _ _ h => h) (Or.inr ⟨by rfl, rfl⟩) (by assumption) ?rest30q
              case' rest30q => try simp only [Act.put, List.setIfInBounds_toArray, List.set_cons_zero, List.set_cons_succ]
              refine wpAnyH_take (i := 31) (v := undef) (gt31 _ _ _ _ _ _ _ _ _ _ _ _ _ _ _ _ _ _ _ _ _ _ _ _ _ _ _ _ _ _ _ _ _) (by kernel_rfl) (by kernel_rfl) (by kernel_rfl) (fun _ _ _ h => h) (Or.inr ⟨by rfl, rfl⟩) (by assumption) ?rest31q
              case' rest31q => try simp only [Act.put, List.setIfInBounds_toArray, List.set_cons_zero, List.set_cons_succ]
              refine wpAnyH_take (i := 32) (v := undef) (gt32 _ _ _ _ _ _ _ _ _ _ _ _ _ _ _ _ _ _ _ _ _ _ _ _ _ _ _ _ _ _ _ _ _ _) (by kernel_rfl) (by kernel_rfl) (by kernel_rfl) (fun _ _ _ h => h) (Or.inr ⟨by rfl, rfl⟩) (by assumption) ?rest32q
              case' rest32q => try simp only [Act.put, List.setIfInBounds_toArray, List.set_cons_zero, List.set_cons_succ]
              refine wpAnyH_take (i := 33) (v := ?v33q) (gt33 _ _ _ _ _ _ _ _ _ _ _ _ _ _ _ _ _ _ _ _ _ _ _ _ _ _ _ _ _ _ _ _ _ _ _) (by kernel_rfl) (by kernel_rfl) (by kernel_rfl) (fun _ _ _ h => h) (Or.inl ⟨by rfl, ?hy33q⟩) (by assumption) ?rest33q
              case hy33q => (intro w0 hSw; (try dsimp only at hSw); go_simp; try (with_reducible rfl))
              case' rest33q => try simp only [Act.put, List.setIfInBounds_toArray, List.set_cons_zero, List.set_cons_succ]
              refine wpAnyH_take (i := 34) (v := ?v34q) (gt34 _ _ _ _ _ _ _ _ _ _ _ _ _ _ _ _ _ _ _ _ _ _ _ _ _ _ _ _ _ _ _ _ _ _ _ _) (by kernel_rfl) (by kernel_rfl) (by kernel_rfl) (fun _ _ _ h => h) (Or.inl ⟨by rfl, ?hy34q⟩) (by assumption) ?rest34q
              case hy34q => (intro w0 hSw; (try dsimp only at hSw); go_simp; try (with_reducible rfl))
              case' rest34q => try simp only [Act.put, List.setIfInBounds_toArray, List.set_cons_zero, List.set_cons_succ]
              refine wpAnyH_done (by kernel_rfl) ?_ _
              go_wp2
              go_ret
              exact ⟨rfl, BF.out⟩
            · have en0 : decide ((q9 : Int) = (LN : Int)) = false := by simp; omega
              have en1 : ((q9 : Int) == (LN : Int)) = false := by simp; omega
              obtain ⟨d, hd⟩ : ∃ d, q9 = d + 1 := ⟨q9 - 1, by omega⟩
              obtain ⟨x, hx⟩ : ∃ x, L[q9]? = some x := ⟨_, List.getElem?_eq_getElem (show q9 < L.length by have := HLN.out; omega)⟩
              obtain ⟨y, hy⟩ : ∃ y, L[d]? = some y := ⟨_, List.getElem?_eq_getElem (show d < L.length by have := HLN.out; omega)⟩
              have hdf : N.same y.r.name x.r.name = false := by
                have h := SH.out.ends (by omega) (by omega)
                rw [← HRS.out, show q9 - 1 = d by omega, M.nmAt_map hy, M.nmAt_map hx] at h
                exact h
              obtain ⟨ix, jx, hix, hxr⟩ := M.sAll_mem k i x.r (by rw [← HRS.out]; exact List.mem_map.2 ⟨_, List.mem_of_getElem? hx, rfl⟩)
              obtain ⟨iy, jy, hiy, hyr⟩ := M.sAll_mem k i y.r (by rw [← HRS.out]; exact List.mem_map.2 ⟨_, List.mem_of_getElem? hy, rfl⟩)
              obtain ⟨X, hX⟩ : ∃ X, UInt8.ofNat (97 + ix) = X := ⟨_, rfl⟩
              obtain ⟨Y, hY⟩ : ∃ X, UInt8.ofNat (97 + iy) = X := ⟨_, rfl⟩
              have hxn : x.r.name = [[X]] := by rw [hxr, ← hX]; rfl
              have hyn : y.r.name = [[Y]] := by rw [hyr, ← hY]; rfl
              have hXY : X ≠ Y := by
                intro e
                rw [hxn, hyn, e] at hdf
                simp [N.same] at hdf
              obtain ⟨g1, o1, rfl, hg1, hcX⟩ := HSX.out (by have := HLN.out; omega)
              obtain ⟨x0, _, _, _, _, x5, _, _⟩ := hcX q9 x hx
              obtain ⟨y0, _, _, _, _, y5, _, _⟩ := hcX d y hy
              rw [hxn] at x0 x5
              rw [hyn] at y0 y5
              obtain ⟨xna, xnc, xda, xdc, xr⟩ := x
              obtain ⟨yna, ync, yda, ydc, yr⟩ := y
              simp only at x0 x5 y0 y5
              have z0 : w7.cell? ⟨g1, o1 + q9 * 5, none⟩ = some (.slice xna 1 xnc) := x0
              have z1 : w7.cell? ⟨g1, o1 + d * 5, none⟩ = some (.slice yna 1 ync) := y0
              have HX5 := hide x5
              have HY5 := hide y5
              have SA : Hid (∀ w', Below w7.heap.size w7 w' → w'.cell? ⟨w6.heap.size, 9, none⟩ = some (.slice ra q9 rc) ∧ w'.cell? ⟨mB, 9, none⟩ = some (.slice (some ⟨g1, o1, none⟩) LN va2) ∧ w'.cell? ⟨g1, o1 + q9 * 5, none⟩ = some (.slice xna 1 xnc) ∧ w'.cell? ⟨g1, o1 + d * 5, none⟩ = some (.slice yna 1 ync)) := fun w' hb => ⟨(hb.cell (p := ⟨w6.heap.size, 9, none⟩) hr7).trans c9, (hb.cell (p := ⟨mB, 9, none⟩) hm7).trans d9, (hb.cell (p := ⟨g1, o1 + q9 * 5, none⟩) hg1).trans z0, (hb.cell (p := ⟨g1, o1 + d * 5, none⟩) hg1).trans z1⟩
              have BD := hide HB.out.drew
              have SD := hide (SA.out _ BD.out)
              have hqL : (q9 : Int) < (LN : Int) := by omega
              have hdL : (d : Int) < (LN : Int) := by omega
              have hd0 : (0 : Int) ≤ (d : Int) := by omega
              have hq0 : (0 : Int) ≤ (q9 : Int) := by omega
              have hw1 : IntKind.i64.wrap ((q9 : Int) - 1) = (d : Int) := by rw [IntKind.wrap_i64]; omega
              clear x0 y0 x5 y5 hcX hx hy hxr hyr hxn hyn hdf hd hz0 hzN hX hY hix hiy z0 z1 SD2
              go_wp2
              go_region_held3 (fun w' => w'.cell? ⟨w6.heap.size, 9, none⟩ = some (.slice ra q9 rc) ∧ w'.cell? ⟨mB, 9, none⟩ = some (.slice (some ⟨g1, o1, none⟩) LN va2) ∧ w'.cell? ⟨g1, o1 + q9 * 5, none⟩ = some (.slice xna 1 xnc) ∧ w'.cell? ⟨g1, o1 + d * 5, none⟩ = some (.slice yna 1 ync)) (first | exact SD.out | exact SE.out | assumption) ((go_at_call 13; refine (name_diff X Y hXY xna yna xnc ync _ (by exact HX5.out.below BD.out (Nat.le_refl _)) (by exact HY5.out.below BD.out (Nat.le_refl _))).mono ?_; rintro e w8 ⟨rfl, hb8⟩; have BE := hide (BD.out.trans (hb8.mono BD.out.size)); have SE := hide (SA.out _ BE.out); clear hb8))
              go_wp2
              go_ret
              exact ⟨rfl, B7.out.trans (BE.out.mono B7.out.size)⟩
      · skip
        obtain ⟨n9, HN9⟩ : ∃ n9, Hid (M.fits (r : Int) (L.map (·.r)) = n9) := ⟨_, rfl⟩
        obtain ⟨q9, HQ9⟩ : ∃ q9, Hid (M.keep (L.map (·.r)) n9 = q9) := ⟨_, rfl⟩
        obtain ⟨tc, HTC⟩ : ∃ tc, Hid (decide (n9 < L.length) = tc) := ⟨_, rfl⟩
        obtain ⟨fl, HFL⟩ : ∃ fl, Hid (M.fl 0 0 true false tc false false = fl) := ⟨_, rfl⟩
        obtain ⟨out, HOUT⟩ : ∃ out, Hid ((M.wrs 65535 ((L.take q9).map (·.r)) (fun _ => none) (hdr 0 fl 0 q9 0 0)).2.1 = out) := ⟨_, rfl⟩
        have SH : Hid (M.Short k i (r : Int) q9 fl tc out) := by
          refine M.short_of k i (by omega) (by omega) (r : Int) (by omega) (by omega) n9 ?_ q9 ?_ tc ?_ fl HFL.out out ?_
          · rw [← HRS.out]; exact HN9.out
          · rw [← HRS.out]; exact HQ9.out
          · rw [← HRS.out, List.length_map]; exact HTC.out
          · rw [← HRS.out, ← List.map_take]; exact HOUT.out
        have hq9 := SH.out.qle
        have hol := SH.out.len
        have hol12 := SH.out.l12
        go_wp2_with (refine wpList_load_row rfl 32 (.tmp 7) rfl mB rfl 32 #[.int .u16 0, .bool true, .int .i64 0, .bool false, .bool false, .bool false, .bool false, .int .i64 0, .slice none 0 0, .slice va1 L.length va2, .slice none 0 0, .slice none 0 0, .bool false, .int .u16 0, .bool false] (0, 0) _ (by exact HI.out.msg) Tryz.underlying32 rfl infoM ?_)
        refine (fit_r L va1 va2 (r : Int) (r : Int) _ HSEC.out hlc H99.out (by omega) n9 q9 HN9 HQ9 tc HTC fl HFL SH.out.fl' (by have := HLEN.out; omega) out HOUT (by omega)).mono ?_
        rintro e w5 ⟨v5, rfl, hO5, hb5⟩
        obtain ⟨bo, bc, rfl, hsb, hnb, hleb, _⟩ := hO5.open
        have SB := hide hsb
        have NB := hide hnb
        have I5 := hide (HI.out.below hb5)
        clear hO5 hsb hnb hb5 HI HSEC
        obtain ⟨pl, hp0, hpq, hrec⟩ := SH.out.recs
        have HRC := hide hrec
        have HP0 := hide hp0
        have HPQ := hide hpq
        have HXL : Hid (((M.sAll k i).take q9).length = q9) := by show _ = _; rw [List.length_take, M.sAll_len]; omega
        have HG7 : Hid (M.g7 fl = ((0 : Nat) : Int)) := by show _ = _; rw [← HFL.out]; exact g7_s tc
        have HG4 : Hid (M.g4 fl = tc) := by show _ = _; rw [← HFL.out]; exact g4_s tc
        clear hrec hp0 hpq
        go_wp2_with fail
        refine (read_a out bo bc fl 0 q9 ((M.sAll k i).take q9) pl _ (by exact SB.out) hleb NB.out (by omega) hol12 (hide SH.out.v0) (hide SH.out.v2) (hide SH.out.v4) (hide SH.out.v6) (hide SH.out.v8) (hide SH.out.v10) HP0 HXL (by omega) HRC.out HPQ HG7).mono ?_
        rintro e w6 ⟨ra, rc, Ls, rfl, hMs, hG6, hb6⟩
        have HMS := hide hMs
        have I6 := hide (I5.out.below hb6)
        clear I5 hb6 SB NB HRC HP0 HPQ HG7 hMs
        unfold mc15
        obtain ⟨q1, h1⟩ : ∃ b, M.g1 fl = b := ⟨_, rfl⟩
        obtain ⟨q2, h2⟩ : ∃ b, M.g2 fl = b := ⟨_, rfl⟩
        obtain ⟨q3, h3⟩ : ∃ b, M.g3 fl = b := ⟨_, rfl⟩
        obtain ⟨q5, h5⟩ : ∃ b, M.g5 fl = b := ⟨_, rfl⟩
        obtain ⟨q6, h6⟩ : ∃ b, M.g6 fl = b := ⟨_, rfl⟩
        rw [h1, h2, h3, HG4.out, h5, h6]
        clear h1 h2 h3 h5 h6
        have I7 := hide (I6.out.below ((Below.refl _ _).alloc (Nat.le_refl _) (.cells #[.int .u16 0, .bool q1, .int .i64 q2, .bool q3, .bool tc, .bool q5, .bool q6, .int .i64 0, .slice none 0 0, .slice ra q9 rc, .slice none 0 0, .slice none 0 0, .bool false, .int .u16 0, .bool false] 32)))
        have G7 := hide (hG6.below ((Below.refl _ _).alloc (Nat.le_refl _) (.cells #[.int .u16 0, .bool q1, .int .i64 q2, .bool q3, .bool tc, .bool q5, .bool q6, .int .i64 0, .slice none 0 0, .slice ra q9 rc, .slice none 0 0, .slice none 0 0, .bool false, .int .u16 0, .bool false] 32)))
        have R7 := hide (RowAt.new w6 32 #[.int .u16 0, .bool q1, .int .i64 q2, .bool q3, .bool tc, .bool q5, .bool q6, .int .i64 0, .slice none 0 0, .slice ra q9 rc, .slice none 0 0, .slice none 0 0, .bool false, .int .u16 0, .bool false])
        have hz6 := I6.out.bel.size
        clear I6 hG6
        obtain ⟨LN, HLN⟩ : ∃ LN, Hid (L.length = LN) := ⟨_, rfl⟩
        have hLNc : LN ≤ M.cnt i ∧ M.cnt i ≤ LN := by have := HLN.out; have := HLEN.out; omega
        obtain ⟨hLN1, hLN2⟩ := hLNc
        rw [HLN.out] at I7 ⊢
        have c4 : (w6.alloc (.cells #[.int .u16 0, .bool q1, .int .i64 q2, .bool q3, .bool tc, .bool q5, .bool q6, .int .i64 0, .slice none 0 0, .slice ra q9 rc, .slice none 0 0, .slice none 0 0, .bool false, .int .u16 0, .bool false] 32)).cell? ⟨w6.heap.size, 4, none⟩ = some (.bool tc) := R7.out.cell 4
        have c9 : (w6.alloc (.cells #[.int .u16 0, .bool q1, .int .i64 q2, .bool q3, .bool tc, .bool q5, .bool q6, .int .i64 0, .slice none 0 0, .slice ra q9 rc, .slice none 0 0, .slice none 0 0, .bool false, .int .u16 0, .bool false] 32)).cell? ⟨w6.heap.size, 9, none⟩ = some (.slice ra q9 rc) := R7.out.cell 9
        have d9 : (w6.alloc (.cells #[.int .u16 0, .bool q1, .int .i64 q2, .bool q3, .bool tc, .bool q5, .bool q6, .int .i64 0, .slice none 0 0, .slice ra q9 rc, .slice none 0 0, .slice none 0 0, .bool false, .int .u16 0, .bool false] 32)).cell? ⟨mB, 9, none⟩ = some (.slice va1 LN va2) := I7.out.msg.cell 9
        have hTC2 : decide ((q9 : Int) < (LN : Int)) = tc := by
          rw [SH.out.tc']
          by_cases h : q9 < LN
          · rw [decide_eq_true (by omega), decide_eq_true (by omega)]
          · rw [decide_eq_false (by omega), decide_eq_false (by omega)]
        have hTC3 : (tc != tc) = false := by simp
        have hTC4 : decide (q9 < LN) = tc := by rw [← hTC2]; simp
        have hr512 : ¬ (r : Int) < 512 := by omega
        have hgt : decide ((r : Int) < (out.length : Int)) = false := by simp; omega
        have hgt4 : decide (r < out.length) = false := by simp; omega
        have hgt5 : out.length ≤ r := by omega
        have hgt2 : decide ((LN : Int) < (q9 : Int)) = false := by simp; omega
        have hgt3 : decide (LN < q9) = false := by simp; omega
        generalize out.length = OL at hgt hgt4 hgt5 hleb ⊢
        go_wp2
        generalize (w6.alloc (.cells #[.int .u16 0, .bool q1, .int .i64 q2, .bool q3, .bool tc, .bool q5, .bool q6, .int .i64 0, .slice none 0 0, .slice ra q9 rc, .slice none 0 0, .slice none 0 0, .bool false, .int .u16 0, .bool false] 32)) = w7 at I7 G7 R7 c4 c9 d9 ⊢
        obtain ⟨bs7, hbs7, hO7, hE7⟩ := G7.out
        obtain ⟨ra', rc', eq7, hSlY, _⟩ := hO7.slR (fun x hx => (hE7 x hx).sl)
        have hLs : Ls.length = q9 := by
          have h := congrArg List.length HMS.out
          rw [List.length_map, HXL.out] at h
          exact h
        have eq8 : ra = ra' ∧ rc = rc' := by
          injection eq7 with e1 e2 e3
          exact ⟨e1, e3⟩
        obtain ⟨rfl, rfl⟩ := eq8
        obtain ⟨va1', va2', eq9, hSlX, _⟩ := I7.out.own.slR (fun x hx => (I7.out.el x hx).sl)
        have eq10 : va1 = va1' ∧ va2 = va2' := by
          injection eq9 with e1 e2 e3
          exact ⟨e1, e3⟩
        obtain ⟨rfl, rfl⟩ := eq10
        have HSY := hide hSlY
        have HSX := hide hSlX
        have HLs := hide hLs
        have B7 := hide I7.out.bel
        have hm7 := I7.out.msg.lt
        have hr7 := R7.out.lt
        clear eq7 eq9 hSlY hSlX hO7 hE7 hbs7 hLs G7 c4 hTC2 hTC3 hTC4
        go_loopw [14] (fun u wx => ∃ j : Nat, u = .int .i64 (j : Int) ∧ j ≤ q9 ∧ Hid (Below w7.heap.size w7 wx)) (fun u _ => q9 - (intOf u).toNat)
        case atStart => exact ⟨0, rfl, by omega, hide (Below.refl _ _)⟩
        case round =>
          obtain ⟨j, rfl, hj, HB⟩ := hrel
          have e9 : wr.cell? ⟨w6.heap.size, 9, none⟩ = some (.slice ra q9 rc) := (HB.out.cell (p := ⟨w6.heap.size, 9, none⟩) hr7).trans c9
          have h9 : wr.cell? ⟨mB, 9, none⟩ = some (.slice va1 LN va2) := (HB.out.cell (p := ⟨mB, 9, none⟩) hm7).trans d9
          by_cases hjq : j < q9
          · have hjq' : (j : Int) < (q9 : Int) := by omega
            obtain ⟨y, hy⟩ : ∃ y, Ls[j]? = some y := ⟨_, List.getElem?_eq_getElem (show j < Ls.length by have := HLs.out; omega)⟩
            obtain ⟨x, hx⟩ : ∃ x, L[j]? = some x := ⟨_, List.getElem?_eq_getElem (show j < L.length by have := HLN.out; omega)⟩
            have hxy : y.r = x.r := by
              have h1 : (Ls.map (·.r))[j]? = some y.r := by rw [List.getElem?_map, hy]; rfl
              have h2 : (L.map (·.r))[j]? = some x.r := by rw [List.getElem?_map, hx]; rfl
              rw [HMS.out, List.getElem?_take, if_pos hjq] at h1
              rw [HRS.out, h1] at h2
              exact Option.some.inj h2
            obtain ⟨g2, o2, rfl, hg2, hcY⟩ := HSY.out (by have := HLs.out; omega)
            obtain ⟨g1, o1, rfl, hg1, hcX⟩ := HSX.out (by have := HLN.out; omega)
            obtain ⟨y0, y1, y2, y3, y4, y5, y6, _⟩ := hcY j y hy
            obtain ⟨x0, x1, x2, x3, x4, x5, x6, _⟩ := hcX j x hx
            obtain ⟨yna, ync, yda, ydc, yr⟩ := y
            obtain ⟨xna, xnc, xda, xdc, xr⟩ := x
            simp only at hxy y0 y1 y2 y3 y4 y5 y6 x0 x1 x2 x3 x4 x5 x6
            subst hxy
            obtain ⟨nl, HNL⟩ : ∃ nl, Hid (yr.name.length = nl) := ⟨_, rfl⟩
            obtain ⟨dl, HDLn⟩ : ∃ nl, Hid (yr.data.length = nl) := ⟨_, rfl⟩
            obtain ⟨ty, HTY⟩ : ∃ t, Hid (yr.type = t) := ⟨_, rfl⟩
            obtain ⟨cl, HCL⟩ : ∃ t, Hid (yr.cls = t) := ⟨_, rfl⟩
            obtain ⟨tt, HTT⟩ : ∃ t, Hid (yr.ttl = t) := ⟨_, rfl⟩
            rw [HNL.out] at y0 x0
            rw [HDLn.out] at y4 x4
            rw [HTY.out] at y1 x1
            rw [HCL.out] at y2 x2
            rw [HTT.out] at y3 x3
            have hnl : nl ≤ 1000 := by
              have h1 : yr ∈ L.map (·.r) := List.mem_map.2 ⟨_, List.mem_of_getElem? hx, rfl⟩
              rw [HRS.out] at h1
              obtain ⟨i', j', _, e⟩ := M.sAll_mem k i _ h1
              rw [← HNL.out, e]; simp [M.sRec]
            have SA : Hid (∀ w', Below w7.heap.size w7 w' → Below w7.heap.size w7 w' ∧ w'.cell? ⟨w6.heap.size, 9, none⟩ = some (.slice (some ⟨g2, o2, none⟩) q9 rc) ∧ w'.cell? ⟨mB, 9, none⟩ = some (.slice (some ⟨g1, o1, none⟩) LN va2) ∧ w'.cell? ⟨g2, o2 + j * 5, none⟩ = some (.slice yna nl ync) ∧ w'.cell? ⟨g2, o2 + j * 5 + 1, none⟩ = some (.int .u16 (ty : Int)) ∧ w'.cell? ⟨g2, o2 + j * 5 + 2, none⟩ = some (.int .u16 (cl : Int)) ∧ w'.cell? ⟨g2, o2 + j * 5 + 3, none⟩ = some (.int .u32 (tt : Int)) ∧ w'.cell? ⟨g2, o2 + j * 5 + 4, none⟩ = some (.slice yda dl ydc) ∧ w'.cell? ⟨g1, o1 + j * 5, none⟩ = some (.slice xna nl xnc) ∧ w'.cell? ⟨g1, o1 + j * 5 + 1, none⟩ = some (.int .u16 (ty : Int)) ∧ w'.cell? ⟨g1, o1 + j * 5 + 2, none⟩ = some (.int .u16 (cl : Int)) ∧ w'.cell? ⟨g1, o1 + j * 5 + 3, none⟩ = some (.int .u32 (tt : Int)) ∧ w'.cell? ⟨g1, o1 + j * 5 + 4, none⟩ = some (.slice xda dl xdc)) := fun w' hb => ⟨hb, (hb.cell (p := ⟨w6.heap.size, 9, none⟩) hr7).trans c9, (hb.cell (p := ⟨mB, 9, none⟩) hm7).trans d9, (hb.cell (p := ⟨g2, o2 + j * 5, none⟩) hg2).trans y0, (hb.cell (p := ⟨g2, o2 + j * 5 + 1, none⟩) hg2).trans y1, (hb.cell (p := ⟨g2, o2 + j * 5 + 2, none⟩) hg2).trans y2, (hb.cell (p := ⟨g2, o2 + j * 5 + 3, none⟩) hg2).trans y3, (hb.cell (p := ⟨g2, o2 + j * 5 + 4, none⟩) hg2).trans y4, (hb.cell (p := ⟨g1, o1 + j * 5, none⟩) hg1).trans x0, (hb.cell (p := ⟨g1, o1 + j * 5 + 1, none⟩) hg1).trans x1, (hb.cell (p := ⟨g1, o1 + j * 5 + 2, none⟩) hg1).trans x2, (hb.cell (p := ⟨g1, o1 + j * 5 + 3, none⟩) hg1).trans x3, (hb.cell (p := ⟨g1, o1 + j * 5 + 4, none⟩) hg1).trans x4⟩
            have HY5 := hide y5
            have HY6 := hide y6
            have HX5 := hide x5
            have HX6 := hide x6
            have BD := hide HB.out.drew
            have SD := hide (SA.out _ BD.out)
            have hjL : (j : Int) < (LN : Int) := by omega
            clear y0 y1 y2 y3 y4 y5 y6 x0 x1 x2 x3 x4 x5 x6 hcY hcX hy hx
            go_wp2
            go_region_held3 (fun w' => Below w7.heap.size w7 w' ∧ w'.cell? ⟨w6.heap.size, 9, none⟩ = some (.slice (some ⟨g2, o2, none⟩) q9 rc) ∧ w'.cell? ⟨mB, 9, none⟩ = some (.slice (some ⟨g1, o1, none⟩) LN va2) ∧ w'.cell? ⟨g2, o2 + j * 5, none⟩ = some (.slice yna nl ync) ∧ w'.cell? ⟨g2, o2 + j * 5 + 1, none⟩ = some (.int .u16 (ty : Int)) ∧ w'.cell? ⟨g2, o2 + j * 5 + 2, none⟩ = some (.int .u16 (cl : Int)) ∧ w'.cell? ⟨g2, o2 + j * 5 + 3, none⟩ = some (.int .u32 (tt : Int)) ∧ w'.cell? ⟨g2, o2 + j * 5 + 4, none⟩ = some (.slice yda dl ydc) ∧ w'.cell? ⟨g1, o1 + j * 5, none⟩ = some (.slice xna nl xnc) ∧ w'.cell? ⟨g1, o1 + j * 5 + 1, none⟩ = some (.int .u16 (ty : Int)) ∧ w'.cell? ⟨g1, o1 + j * 5 + 2, none⟩ = some (.int .u16 (cl : Int)) ∧ w'.cell? ⟨g1, o1 + j * 5 + 3, none⟩ = some (.int .u32 (tt : Int)) ∧ w'.cell? ⟨g1, o1 + j * 5 + 4, none⟩ = some (.slice xda dl xdc)) (first | exact SD.out | exact SE.out | assumption) ((go_at_call 12; refine (hrec_same yr.name yr.data yna xna yda xda nl dl ync xnc ydc xdc ty cl tt _ HNL HDLn (by exact HY5.out.below BD.out (Nat.le_refl _)) (by exact HX5.out.below BD.out (Nat.le_refl _)) (by exact HY6.out.below BD.out (Nat.le_refl _)) (by exact HX6.out.below BD.out (Nat.le_refl _)) hnl).mono ?_; rintro e w8 ⟨rfl, hb8⟩; have BE := hide (BD.out.trans (hb8.mono BD.out.size)); have SE := hide (SA.out _ BE.out); clear hb8))
            go_wp2
            go_roundw
            case rel => first | exact ⟨j + 1, by go_num, by omega, BE⟩ | (repeat apply Exists.intro; refine ⟨?_, rfl⟩; exact ⟨j + 1, by go_num, by omega, BE⟩)
            case measure => simp [intOf]; omega
          · have hjq' : ¬ (j : Int) < (q9 : Int) := by omega
            have BF : Hid (Below w.heap.size w wr.drew) := (B7.out.trans (HB.out.mono B7.out.size)).drew
            have SD2 : Hid (wr.drew.cell? ⟨w6.heap.size, 9, none⟩ = some (.slice ra q9 rc) ∧ wr.drew.cell? ⟨mB, 9, none⟩ = some (.slice va1 LN va2)) := ⟨e9, h9⟩
            by_cases hz0 : q9 = 0
            · have ez0 : decide ((q9 : Int) = 0) = true := by simp; omega
              have ez1 : ((q9 : Int) == 0) = true := by simp; omega
              clear hz0
              go_wp2
              refine wp_region_held_drew (S := fun w' => w'.cell? ⟨w6.heap.size, 9, none⟩ = some (.slice ra q9 rc) ∧ w'.cell? ⟨mB, 9, none⟩ = some (.slice va1 LN va2)) (by kernel_rfl) SD2.out (fun hHeld => ?_)
              refine wpAnyH_take (i := 0) (v := ?v0pB) (gt0 _ _) (by kernel_rfl) (by kernel_rfl) (by kernel_rfl) (fun _ _ _ h => h) (Or.inl ⟨by rfl, ?hy0pB⟩) (by assumption) ?rest0pB
              case hy0pB => (intro w0 hSw; (try dsimp only at hSw); go_simp; try (with_reducible rfl))
              case' rest0pB => try simp only [Act.put, List.setIfInBounds_toArray, List.set_cons_zero, List.set_cons_succ]
              refine wpAnyH_take (i := 1) (v := ?v1pB) (gt1 _ _ _) (by kernel_rfl) (by kernel_rfl) (by kernel_rfl) (fun _ _ _ h => h) (Or.inl ⟨by rfl, ?hy1pB⟩) (by assumption) ?rest1pB
              case hy1pB => (intro w0 hSw; (try dsimp only at hSw); go_simp; try (with_reducible rfl))
              case' rest1pB => try simp only [Act.put, List.setIfInBounds_toArray, List.set_cons_zero, List.set_cons_succ]
              refine wpAnyH_take (i := 2) (v := ?v2pB) (gt2 _ _ _ _) (by kernel_rfl) (by kernel_rfl) (by kernel_rfl) (fun _ _ _ h => h) (Or.inl ⟨by rfl, ?hy2pB⟩) (by assumption) ?rest2pB
              case hy2pB => (intro w0 hSw; (try dsimp only at hSw); go_simp; try (with_reducible rfl))
              case' rest2pB => try simp only [Act.put, List.setIfInBounds_toArray, List.set_cons_zero, List.set_cons_succ]
              refine wpAnyH_take (i := 3) (v := ?v3pB) (gt3 _ _ _ _ _) (by kernel_rfl) (by kernel_rfl) (by kernel_rfl) (fun _ _ _ h => h) (Or.inl ⟨by rfl, ?hy3pB⟩) (by assumption) ?rest3pB
              case hy3pB => (intro w0 hSw; (try dsimp only at hSw); go_simp; try (with_reducible rfl))
              case' rest3pB => try simp only [Act.put, List.setIfInBounds_toArray, List.set_cons_zero, List.set_cons_succ]
              refine wpAnyH_take (i := 4) (v := ?v4pB) (gt4 _ _ _ _ _ _) (by kernel_rfl) (by kernel_rfl) (by kernel_rfl) (fun _ _ _ h => h) (Or.inl ⟨by rfl, ?hy4pB⟩) (by assumption) ?rest4pB
              case hy4pB => (intro w0 hSw; (try dsimp only at hSw); go_simp; try (with_reducible rfl))
              case' rest4pB => try simp only [Act.put, List.setIfInBounds_toArray, List.set_cons_zero, List.set_cons_succ]
              refine wpAnyH_take (i := 5) (v := undef) (gt5 _ _ _ _ _ _ _) (by kernel_rfl) (by kernel_rfl) (by kernel_rfl) (fun _ _ _ h => h) (Or.inr ⟨by rfl, rfl⟩) (by assumption) ?rest5pB
              case' rest5pB => try simp only [Act.put, List.setIfInBounds_toArray, List.set_cons_zero, List.set_cons_succ]
              refine wpAnyH_take (i := 6) (v := undef) (gt6 _ _ _ _ _ _ _ _) (by kernel_rfl) (by kernel_rfl) (by kernel_rfl) (fun _ _ _ h => h) (Or.inr ⟨by rfl, rfl⟩) (by assumption) ?rest6pB
              case' rest6pB => try simp only [Act.put, List.setIfInBounds_toArray, List.set_cons_zero, List.set_cons_succ]
              refine wpAnyH_take (i := 7) (v := undef) (gt7 _ _ _ _ _ _ _ _ _) (by kernel_rfl) (by kernel_rfl) (by kernel_rfl) (fun _ _ _ h => h) (Or.inr ⟨by rfl, rfl⟩) (by assumption) ?rest7pB
              case' rest7pB => try simp only [Act.put, List.setIfInBounds_toArray, List.set_cons_zero, List.set_cons_succ]
              refine wpAnyH_take (i := 8) (v := undef) (gt8 _ _ _ _ _ _ _ _ _ _) (by kernel_rfl) (by kernel_rfl) (by kernel_rfl) (fun _ _ _ h => h) (Or.inr ⟨by rfl, rfl⟩) (by assumption) ?rest8pB
              case' rest8pB => try simp only [Act.put, List.setIfInBounds_toArray, List.set_cons_zero, List.set_cons_succ]
              refine wpAnyH_take (i := 9) (v := undef) (gt9 _ _ _ _ _ _ _ _ _ _ _) (by kernel_rfl) (by kernel_rfl) (by kernel_rfl) (fun _ _ _ h => h) (Or.inr ⟨by rfl, rfl⟩) (by assumption) ?rest9pB
              case' rest9pB => try simp only [Act.put, List.setIfInBounds_toArray, List.set_cons_zero, List.set_cons_succ]
              refine wpAnyH_take (i := 10) (v := undef) (gt10 _ _ _ _ _ _ _ _ _ _ _ _) (by kernel_rfl) (by kernel_rfl) (by kernel_rfl) (fun _ _ _ h => h) (Or.inr ⟨by rfl, rfl⟩) (by assumption) ?rest10pB
              case' rest10pB => try simp only [Act.put, List.setIfInBounds_toArray, List.set_cons_zero, List.set_cons_succ]
              refine wpAnyH_take (i := 11) (v := undef) (gt11 _ _ _ _ _ _ _ _ _ _ _ _ _) (by kernel_rfl) (by kernel_rfl) (by kernel_rfl) (fun _ _ _ h => h) (Or.inr ⟨by rfl, rfl⟩) (by assumption) ?rest11pB
              case' rest11pB => try simp only [Act.put, List.setIfInBounds_toArray, List.set_cons_zero, List.set_cons_succ]
              refine wpAnyH_take (i := 12) (v := ?v12pB) (gt12 _ _ _ _ _ _ _ _ _ _ _ _ _ _) (by kernel_rfl) (by kernel_rfl) (by kernel_rfl) (fun _ _ _ h => h) (Or.inl ⟨by rfl, ?hy12pB⟩) (by assumption) ?rest12pB
              case hy12pB => (intro w0 hSw; (try dsimp only at hSw); go_simp; try (with_reducible rfl))
              case' rest12pB => try simp only [Act.put, List.setIfInBounds_toArray, List.set_cons_zero, List.set_cons_succ]
              refine wpAnyH_take (i := 13) (v := ?v13pB) (gt13 _ _ _ _ _ _ _ _ _ _ _ _ _ _ _) (by kernel_rfl) (by kernel_rfl) (by kernel_rfl) (fun _ _ _ h => h) (Or.inl ⟨by rfl, ?hy13pB⟩) (by assumption) ?rest13pB
              case hy13pB => (intro w0 hSw; (try dsimp only at hSw); go_simp; try (with_reducible rfl))
              case' rest13pB => try simp only [Act.put, List.setIfInBounds_toArray, List.set_cons_zero, List.set_cons_succ]
              refine wpAnyH_take (i := 14) (v := undef) (gt14 _ _ _ _ _ _ _ _ _ _ _ _ _ _ _ _) (by kernel_rfl) (by kernel_rfl) (by kernel_rfl) (fun _ _ _ h => h) (Or.inr ⟨by rfl, rfl⟩) (by assumption) ?rest14pB
              case' rest14pB => try simp only [Act.put, List.setIfInBounds_toArray, List.set_cons_zero, List.set_cons_succ]
              refine wpAnyH_take (i := 15) (v := undef) (gt15 _ _ _ _ _ _ _ _ _ _ _ _ _ _ _ _ _) (by kernel_rfl) (by kernel_rfl) (by kernel_rfl) (fun _ _ _ h => h) (Or.inr ⟨by rfl, rfl⟩) (by assumption) ?rest15pB
              case' rest15pB => try simp only [Act.put, List.setIfInBounds_toArray, List.set_cons_zero, List.set_cons_succ]
              refine wpAnyH_take (i := 16) (v := undef) (gt16 _ _ _ _ _ _ _ _ _ _ _ _ _ _ _ _ _ _) (by kernel_rfl) (by kernel_rfl) (by kernel_rfl) (fun _ _ _ h => h) (Or.inr ⟨by rfl, rfl⟩) (by assumption) ?rest16pB
              case' rest16pB => try simp only [Act.put, List.setIfInBounds_toArray, List.set_cons_zero, List.set_cons_succ]
              refine wpAnyH_take (i := 17) (v := undef) (gt17 _ _ _ _ _ _ _ _ _ _ _ _ _ _ _ _ _ _ _) (by kernel_rfl) (by kernel_rfl) (by kernel_rfl) (fun _ _ _ h => h) (Or.inr ⟨by rfl, rfl⟩) (by assumption) ?rest17pB
              case' rest17pB => try simp only [Act.put, List.setIfInBounds_toArray, List.set_cons_zero, List.set_cons_succ]
              refine wpAnyH_take (i := 18) (v := undef) (gt18 _ _ _ _ _ _ _ _ _ _ _ _ _ _ _ _ _ _ _ _) (by kernel_rfl) (by kernel_rfl) (by kernel_rfl) (fun _ _ _ h => h) (Or.inr ⟨by rfl, rfl⟩) (by assumption) ?rest18pB
              case' rest18pB => try simp only [Act.put, List.setIfInBounds_toArray, List.set_cons_zero, List.set_cons_succ]
              refine wpAnyH_take (i := 19) (v := undef) (gt19 _ _ _ _ _ _ _ _ _ _ _ _ _ _ _ _ _ _ _ _ _) (by kernel_rfl) (by kernel_rfl) (by kernel_rfl) (fun _ _ _ h => h) (Or.inr ⟨by rfl, rfl⟩) (by assumption) ?rest19pB
              case' rest19pB => try simp only [Act.put, List.setIfInBounds_toArray, List.set_cons_zero, List.set_cons_succ]
              refine wpAnyH_take (i := 20) (v := undef) (gt20 _ _ _ _ _ _ _ _ _ _ _ _ _ _ _ _ _ _ _ _ _ _) (by kernel_rfl) (by kernel_rfl) (by kernel_rfl) (fun _ _ _ h => h) (Or.inr ⟨by rfl, rfl⟩) (by assumption) ?rest20pB
              case' rest20pB => try simp only [Act.put, List.setIfInBounds_toArray, List.set_cons_zero, List.set_cons_succ]
              refine wpAnyH_take (i := 21) (v := undef) (gt21 _ _ _ _ _ _ _ _ _ _ _ _ _ _ _ _ _ _ _ _ _ _ _) (by kernel_rfl) (by kernel_rfl) (by kernel_rfl) (fun _ _ _ h => h) (Or.inr ⟨by rfl, rfl⟩) (by assumption) ?rest21pB
              case' rest21pB => try simp only [Act.put, List.setIfInBounds_toArray, List.set_cons_zero, List.set_cons_succ]
              refine wpAnyH_take (i := 22) (v := undef) (gt22 _ _ _ _ _ _ _ _ _ _ _ _ _ _ _ _ _ _ _ _ _ _ _ _) (by kernel_rfl) (by kernel_rfl) (by kernel_rfl) (fun _ _ _ h => h) (Or.inr ⟨by rfl, rfl⟩) (by assumption) ?rest22pB
              case' rest22pB => try simp only [Act.put, List.setIfInBounds_toArray, List.set_cons_zero, List.set_cons_succ]
              refine wpAnyH_take (i := 23) (v := undef) (gt23 _ _ _ _ _ _ _ _ _ _ _ _ _ _ _ _ _ _ _ _ _ _ _ _ _) (by kernel_rfl) (by kernel_rfl) (by kernel_rfl) (fun _ _ _ h => h) (Or.inr ⟨by rfl, rfl⟩) (by assumption) ?rest23pB
              case' rest23pB => try simp only [Act.put, List.setIfInBounds_toArray, List.set_cons_zero, List.set_cons_succ]
              refine wpAnyH_take (i := 24) (v := undef) (gt24 _ _ _ _ _ _ _ _ _ _ _ _ _ _ _ _ _ _ _ _ _ _ _ _ _ _) (by kernel_rfl) (by kernel_rfl) (by kernel_rfl) (fun _ _ _ h => h) (Or.inr ⟨by rfl, rfl⟩) (by assumption) ?rest24pB
              case' rest24pB => try simp only [Act.put, List.setIfInBounds_toArray, List.set_cons_zero, List.set_cons_succ]
              refine wpAnyH_take (i := 25) (v := undef) (gt25 _ _ _ _ _ _ _ _ _ _ _ _ _ _ _ _ _ _ _ _ _ _ _ _ _ _ _) (by kernel_rfl) (by kernel_rfl) (by kernel_rfl) (fun _ _ _ h => h) (Or.inr ⟨by rfl, rfl⟩) (by assumption) ?rest25pB
              case' rest25pB => try simp only [Act.put, List.setIfInBounds_toArray, List.set_cons_zero, List.set_cons_succ]
              refine wpAnyH_take (i := 26) (v := undef) (gt26 _ _ _ _ _ _ _ _ _ _ _ _ _ _ _ _ _ _ _ _ _ _ _ _ _ _ _ _) (by kernel_rfl) (by kernel_rfl) (by kernel_rfl) (fun _ _ _ h => h) (Or.inr ⟨by rfl, rfl⟩) (by assumption) ?rest26pB
              case' rest26pB => try simp only [Act.put, List.setIfInBounds_toArray, List.set_cons_zero, List.set_cons_succ]
              refine wpAnyH_take (i := 27) (v := undef) (gt27 _ _ _ _ _ _ _ _ _ _ _ _ _ _ _ _ _ _ _ _ _ _ _ _ _ _ _ _ _) (by kernel_rfl) (by kernel_rfl) (by kernel_rfl) (fun _ _ _ h => h) (Or.inr ⟨by rfl, rfl⟩) (by assumption) ?rest27pB
              case' rest27pB => try simp only [Act.put, List.setIfInBounds_toArray, List.set_cons_zero, List.set_cons_succ]
              refine wpAnyH_take (i := 28) (v := undef) (gt28 _ _ _ _ _ _ _ _ _ _ _ _ _ _ _ _ _ _ _ _ _ _ _ _ _ _ _ _ _ _) (by kernel_rfl) (by kernel_rfl) (by kernel_rfl) (fun _ _ _ h => h) (Or.inr ⟨by rfl, rfl⟩) (by assumption) ?rest28pB
              case' rest28pB => try simp only [Act.put, List.setIfInBounds_toArray, List.set_cons_zero, List.set_cons_succ]
              refine wpAnyH_take (i := 29) (v := undef) (gt29 _ _ _ _ _ _ _ _ _ _ _ _ _ _ _ _ _ _ _ _ _ _ _ _ _ _ _ _ _ _ _) (by kernel_rfl) (by kernel_rfl) (by kernel_rfl) (fun _ _ _ h => h) (Or.inr ⟨by rfl, rfl⟩) (by assumption) ?rest29pB
              case' rest29pB => try simp only [Act.put, List.setIfInBounds_toArray, List.set_cons_zero, List.set_cons_succ]
              refine wpAnyH_take (i := 30) (v := undef) (gt30 _ _ _ _ _ _ _ _ _ _ _ _ _ _ _ _ _ _ _ _ _ _ _ _ _ _ _ _ _ _ _ _) (by kernel_rfl) (by kernel_rfl) (by kernel_rfl) (fun _ _ _ h => h) (Or.inr ⟨by rfl, rfl⟩) (by assumption) ?rest30pB
              case' rest30pB => try simp only [Act.put, List.setIfInBounds_toArray, List.set_cons_zero, List.set_cons_succ]
              refine wpAnyH_take (i := 31) (v := undef) (gt31 _ _ _ _ _ _ _ _ _ _ _ _ _ _ _ _ _ _ _ _ _ _ _ _ _ _ _ _ _ _ _ _ _) (by kernel_rfl) (by kernel_rfl) (by kernel_rfl) (fun _ _ _ h => h) (Or.inr ⟨by rfl, rfl⟩) (by assumption) ?rest31pB
              case' rest31pB => try simp only [Act.put, List.setIfInBounds_toArray, List.set_cons_zero, List.set_cons_succ]
              refine wpAnyH_take (i := 32) (v := undef) (gt32 _ _ _ _ _ _ _ _ _ _ _ _ _ _ _ _ _ _ _ _ _ _ _ _ _ _ _ _ _ _ _ _ _ _) (by kernel_rfl) (by kernel_rfl) (by kernel_rfl) (fun _ _ _ h => h) (Or.inr ⟨by rfl, rfl⟩) (by assumption) ?rest32pB
              case' rest32pB => try simp only [Act.put, List.setIfInBounds_toArray, List.set_cons_zero, List.set_cons_succ]
              refine wpAnyH_take (i := 33) (v := ?v33pB) (gt33 _ _ _ _ _ _ _ _ _ _ _ _ _ _ _ _ _ _ _ _ _ _ _ _ _ _ _ _ _ _ _ _ _ _ _) (by kernel_rfl) (by kernel_rfl) (by kernel_rfl) (fun _ _ _ h => h) (Or.inl ⟨by rfl, ?hy33pB⟩) (by assumption) ?rest33pB
              case hy33pB => (intro w0 hSw; (try dsimp only at hSw); go_simp; try (with_reducible rfl))
              case' rest33pB => try simp only [Act.put, List.setIfInBounds_toArray, List.set_cons_zero, List.set_cons_succ]
              refine wpAnyH_take (i := 34) (v := ?v34pB) (gt34 _ _ _ _ _ _ _ _ _ _ _ _ _ _ _ _ _ _ _ _ _ _ _ _ _ _ _ _ _ _ _ _ _ _ _ _) (by kernel_rfl) (by kernel_rfl) (by kernel_rfl) (fun _ _ _ h => h) (Or.inl ⟨by rfl, ?hy34pB⟩) (by assumption) ?rest34pB
              case hy34pB => (intro w0 hSw; (try dsimp only at hSw); go_simp; try (with_reducible rfl))
              case' rest34pB => try simp only [Act.put, List.setIfInBounds_toArray, List.set_cons_zero, List.set_cons_succ]
              refine wpAnyH_done (by kernel_rfl) ?_ _
              go_wp2
              go_ret
              exact ⟨rfl, BF.out⟩
            have ez0 : decide ((q9 : Int) = 0) = false := by simp; omega
            have ez1 : ((q9 : Int) == 0) = false := by simp; omega
            by_cases hzN : q9 = LN
            · have en0 : decide ((q9 : Int) = (LN : Int)) = true := by simp; omega
              have en1 : ((q9 : Int) == (LN : Int)) = true := by simp; omega
              clear hzN hz0
              go_wp2
              refine wp_region_held_drew (S := fun w' => w'.cell? ⟨w6.heap.size, 9, none⟩ = some (.slice ra q9 rc) ∧ w'.cell? ⟨mB, 9, none⟩ = some (.slice va1 LN va2)) (by kernel_rfl) SD2.out (fun hHeld => ?_)
              refine wpAnyH_take (i := 0) (v := ?v0qB) (gt0 _ _) (by kernel_rfl) (by kernel_rfl) (by kernel_rfl) (fun _ _ _ h => h) (Or.inl ⟨by rfl, ?hy0qB⟩) (by assumption) ?rest0qB
              case hy0qB => (intro w0 hSw; (try dsimp only at hSw); go_simp; try (with_reducible rfl))
              case' rest0qB => try simp only [Act.put, List.setIfInBounds_toArray, List.set_cons_zero, List.set_cons_succ]
              refine wpAnyH_take (i := 1) (v := ?v1qB) (gt1 _ _ _) (by kernel_rfl) (by kernel_rfl) (by kernel_rfl) (fun _ _ _ h => h) (Or.inl ⟨by rfl, ?hy1qB⟩) (by assumption) ?rest1qB
              case hy1qB => (intro w0 hSw; (try dsimp only at hSw); go_simp; try (with_reducible rfl))
              case' rest1qB => try simp only [Act.put, List.setIfInBounds_toArray, List.set_cons_zero, List.set_cons_succ]
              refine wpAnyH_take (i := 2) (v := ?v2qB) (gt2 _ _ _ _) (by kernel_rfl) (by kernel_rfl) (by kernel_rfl) (fun _ _ _ h => h) (Or.inl ⟨by rfl, ?hy2qB⟩) (by assumption) ?rest2qB
              case hy2qB => (intro w0 hSw; (try dsimp only at hSw); go_simp; try (with_reducible rfl))
              case' rest2qB => try simp only [Act.put, List.setIfInBounds_toArray, List.set_cons_zero, List.set_cons_succ]
              refine wpAnyH_take (i := 3) (v := ?v3qB) (gt3 _ _ _ _ _) (by kernel_rfl) (by kernel_rfl) (by kernel_rfl) (fun _ _ _ h => h) (Or.inl ⟨by rfl, ?hy3qB⟩) (by assumption) ?rest3qB
              case hy3qB => (intro w0 hSw; (try dsimp only at hSw); go_simp; try (with_reducible rfl))
              case' rest3qB => try simp only [Act.put, List.setIfInBounds_toArray, List.set_cons_zero, List.set_cons_succ]
              refine wpAnyH_take (i := 4) (v := ?v4qB) (gt4 _ _ _ _ _ _) (by kernel_rfl) (by kernel_rfl) (by kernel_rfl) (fun _ _ _ h => h) (Or.inl ⟨by rfl, ?hy4qB⟩) (by assumption) ?rest4qB
              case hy4qB => (intro w0 hSw; (try dsimp only at hSw); go_simp; try (with_reducible rfl))
              case' rest4qB => try simp only [Act.put, List.setIfInBounds_toArray, List.set_cons_zero, List.set_cons_succ]
              refine wpAnyH_take (i := 5) (v := ?v5qB) (gt5 _ _ _ _ _ _ _) (by kernel_rfl) (by kernel_rfl) (by kernel_rfl) (fun _ _ _ h => h) (Or.inl ⟨by rfl, ?hy5qB⟩) (by assumption) ?rest5qB
              case hy5qB => (intro w0 hSw; (try dsimp only at hSw); go_simp; try (with_reducible rfl))
              case' rest5qB => try simp only [Act.put, List.setIfInBounds_toArray, List.set_cons_zero, List.set_cons_succ]
              refine wpAnyH_take (i := 6) (v := ?v6qB) (gt6 _ _ _ _ _ _ _ _) (by kernel_rfl) (by kernel_rfl) (by kernel_rfl) (fun _ _ _ h => h) (Or.inl ⟨by rfl, ?hy6qB⟩) (by assumption) ?rest6qB
              case hy6qB => (intro w0 hSw; (try dsimp only at hSw); go_simp; try (with_reducible rfl))
              case' rest6qB => try simp only [Act.put, List.setIfInBounds_toArray, List.set_cons_zero, List.set_cons_succ]
              refine wpAnyH_take (i := 7) (v := ?v7qB) (gt7 _ _ _ _ _ _ _ _ _) (by kernel_rfl) (by kernel_rfl) (by kernel_rfl) (fun _ _ _ h => h) (Or.inl ⟨by rfl, ?hy7qB⟩) (by assumption) ?rest7qB
              case hy7qB => (intro w0 hSw; (try dsimp only at hSw); go_simp; try (with_reducible rfl))
              case' rest7qB => try simp only [Act.put, List.setIfInBounds_toArray, List.set_cons_zero, List.set_cons_succ]
              refine wpAnyH_take (i := 8) (v := ?v8qB) (gt8 _ _ _ _ _ _ _ _ _ _) (by kernel_rfl) (by kernel_rfl) (by kernel_rfl) (fun _ _ _ h => h) (Or.inl ⟨by rfl, ?hy8qB⟩) (by assumption) ?rest8qB
              case hy8qB => (intro w0 hSw; (try dsimp only at hSw); go_simp; try (with_reducible rfl))
              case' rest8qB => try simp only [Act.put, List.setIfInBounds_toArray, List.set_cons_zero, List.set_cons_succ]
              refine wpAnyH_take (i := 9) (v := ?v9qB) (gt9 _ _ _ _ _ _ _ _ _ _ _) (by kernel_rfl) (by kernel_rfl) (by kernel_rfl) (fun _ _ _ h => h) (Or.inl ⟨by rfl, ?hy9qB⟩) (by assumption) ?rest9qB
              case hy9qB => (intro w0 hSw; (try dsimp only at hSw); go_simp; try (with_reducible rfl))
              case' rest9qB => try simp only [Act.put, List.setIfInBounds_toArray, List.set_cons_zero, List.set_cons_succ]
              refine wpAnyH_take (i := 10) (v := ?v10qB) (gt10 _ _ _ _ _ _ _ _ _ _ _ _) (by kernel_rfl) (by kernel_rfl) (by kernel_rfl) (fun _ _ _ h => h) (Or.inl ⟨by rfl, ?hy10qB⟩) (by assumption) ?rest10qB
              case hy10qB => (intro w0 hSw; (try dsimp only at hSw); go_simp; try (with_reducible rfl))
              case' rest10qB => try simp only [Act.put, List.setIfInBounds_toArray, List.set_cons_zero, List.set_cons_succ]
              refine wpAnyH_take (i := 11) (v := ?v11qB) (gt11 _ _ _ _ _ _ _ _ _ _ _ _ _) (by kernel_rfl) (by kernel_rfl) (by kernel_rfl) (fun _ _ _ h => h) (Or.inl ⟨by rfl, ?hy11qB⟩) (by assumption) ?rest11qB
              case hy11qB => (intro w0 hSw; (try dsimp only at hSw); go_simp; try (with_reducible rfl))
              case' rest11qB => try simp only [Act.put, List.setIfInBounds_toArray, List.set_cons_zero, List.set_cons_succ]
              refine wpAnyH_take (i := 12) (v := ?v12qB) (gt12 _ _ _ _ _ _ _ _ _ _ _ _ _ _) (by kernel_rfl) (by kernel_rfl) (by kernel_rfl) (fun _ _ _ h => h) (Or.inl ⟨by rfl, ?hy12qB⟩) (by assumption) ?rest12qB
              case hy12qB => (intro w0 hSw; (try dsimp only at hSw); go_simp; try (with_reducible rfl))
              case' rest12qB => try simp only [Act.put, List.setIfInBounds_toArray, List.set_cons_zero, List.set_cons_succ]
              refine wpAnyH_take (i := 13) (v := ?v13qB) (gt13 _ _ _ _ _ _ _ _ _ _ _ _ _ _ _) (by kernel_rfl) (by kernel_rfl) (by kernel_rfl) (fun _ _ _ h => h) (Or.inl ⟨by rfl, ?hy13qB⟩) (by assumption) ?rest13qB
              case hy13qB => (intro w0 hSw; (try dsimp only at hSw); go_simp; try (with_reducible rfl))
              case' rest13qB => try simp only [Act.put, List.setIfInBounds_toArray, List.set_cons_zero, List.set_cons_succ]
              refine wpAnyH_take (i := 14) (v := undef) (gt14 _ _ _ _ _ _ _ _ _ _ _ _ _ _ _ _) (by kernel_rfl) (by kernel_rfl) (by kernel_rfl) (fun _ _ _ h => h) (Or.inr ⟨by rfl, rfl⟩) (by assumption) ?rest14qB
              case' rest14qB => try simp only [Act.put, List.setIfInBounds_toArray, List.set_cons_zero, List.set_cons_succ]
              refine wpAnyH_take (i := 15) (v := undef) (gt15 _ _ _ _ _ _ _ _ _ _ _ _ _ _ _ _ _) (by kernel_rfl) (by kernel_rfl) (by kernel_rfl) (fun _ _ _ h => h) (Or.inr ⟨by rfl, rfl⟩) (by assumption) ?rest15qB
              case' rest15qB => try simp only [Act.put, List.setIfInBounds_toArray, List.set_cons_zero, List.set_cons_succ]
              refine wpAnyH_take (i := 16) (v := undef) (gt16 _ _ _ _ _ _ _ _ _ _ _ _ _ _ _ _ _ _) (by kernel_rfl) (by kernel_rfl) (by kernel_rfl) (fun _ _ _ h => h) (Or.inr ⟨by rfl, rfl⟩) (by assumption) ?rest16qB
              case' rest16qB => try simp only [Act.put, List.setIfInBounds_toArray, List.set_cons_zero, List.set_cons_succ]
              refine wpAnyH_take (i := 17) (v := undef) (gt17 _ _ _ _ _ _ _ _ _ _ _ _ _ _ _ _ _ _ _) (by kernel_rfl) (by kernel_rfl) (by kernel_rfl) (fun _ _ _ h => h) (Or.inr ⟨by rfl, rfl⟩) (by assumption) ?rest17qB
              case' rest17qB => try simp only [Act.put, List.setIfInBounds_toArray, List.set_cons_zero, List.set_cons_succ]
              refine wpAnyH_take (i := 18) (v := undef) (gt18 _ _ _ _ _ _ _ _ _ _ _ _ _ _ _ _ _ _ _ _) (by kernel_rfl) (by kernel_rfl) (by kernel_rfl) (fun _ _ _ h => h) (Or.inr ⟨by rfl, rfl⟩) (by assumption) ?rest18qB
              case' rest18qB => try simp only [Act.put, List.setIfInBounds_toArray, List.set_cons_zero, List.set_cons_succ]
              refine wpAnyH_take (i := 19) (v := undef) (gt19 _ _ _ _ _ _ _ _ _ _ _ _ _ _ _ _ _ _ _ _ _) (by kernel_rfl) (by kernel_rfl) (by kernel_rfl) (fun _ _ _ h => h) (Or.inr ⟨by rfl, rfl⟩) (by assumption) ?rest19qB
              case' rest19qB => try simp only [Act.put, List.setIfInBounds_toArray, List.set_cons_zero, List.set_cons_succ]
              refine wpAnyH_take (i := 20) (v := undef) (gt20 _ _ _ _ _ _ _ _ _ _ _ _ _ _ _ _ _ _ _ _ _ _) (by kernel_rfl) (by kernel_rfl) (by kernel_rfl) (fun _ _ _ h => h) (Or.inr ⟨by rfl, rfl⟩) (by assumption) ?rest20qB
              case' rest20qB => try simp only [Act.put, List.setIfInBounds_toArray, List.set_cons_zero, List.set_cons_succ]
              refine wpAnyH_take (i := 21) (v := undef) (gt21 _ _ _ _ _ _ _ _ _ _ _ _ _ _ _ _ _ _ _ _ _ _ _) (by kernel_rfl) (by kernel_rfl) (by kernel_rfl) (fun _ _ _ h => h) (Or.inr ⟨by rfl, rfl⟩) (by assumption) ?rest21qB
              case' rest21qB => try simp only [Act.put, List.setIfInBounds_toArray, List.set_cons_zero, List.set_cons_succ]
              refine wpAnyH_take (i := 22) (v := undef) (gt22 _ _ _ _ _ _ _ _ _ _ _ _ _ _ _ _ _ _ _ _ _ _ _ _) (by kernel_rfl) (by kernel_rfl) (by kernel_rfl) (fun _ _ _ h => h) (Or.inr ⟨by rfl, rfl⟩) (by assumption) ?rest22qB
              case' rest22qB => try simp only [Act.put, List.setIfInBounds_toArray, List.set_cons_zero, List.set_cons_succ]
              refine wpAnyH_take (i := 23) (v := undef) (gt23 _ _ _ _ _ _ _ _ _ _ _ _ _ _ _ _ _ _ _ _ _ _ _ _ _) (by kernel_rfl) (by kernel_rfl) (by kernel_rfl) (fun _ _ _ h => h) (Or.inr ⟨by rfl, rfl⟩) (by assumption) ?rest23qB
              case' rest23qB => try simp only [Act.put, List.setIfInBounds_toArray, List.set_cons_zero, List.set_cons_succ]
              refine wpAnyH_take (i := 24) (v := undef) (gt24 _ _ _ _ _ _ _ _ _ _ _ _ _ _ _ _ _ _ _ _ _ _ _ _ _ _) (by kernel_rfl) (by kernel_rfl) (by kernel_rfl) (fun _ _ _ h => h) (Or.inr ⟨by rfl, rfl⟩) (by assumption) ?rest24qB
              case' rest24qB => try simp only [Act.put, List.setIfInBounds_toArray, List.set_cons_zero, List.set_cons_succ]
              refine wpAnyH_take (i := 25) (v := undef) (gt25 _ _ _ _ _ _ _ _ _ _ _ _ _ _ _ _ _ _ _ _ _ _ _ _ _ _ _) (by kernel_rfl) (by kernel_rfl) (by kernel_rfl) (fun _ _ _ h => h) (Or.inr ⟨by rfl, rfl⟩) (by assumption) ?rest25qB
              case' rest25qB => try simp only [Act.put, List.setIfInBounds_toArray, List.set_cons_zero, List.set_cons_succ]
              refine wpAnyH_take (i := 26) (v := undef) (gt26 _ _ _ _ _ _ _ _ _ _ _ _ _ _ _ _ _ _ _ _ _ _ _ _ _ _ _ _) (by kernel_rfl) (by kernel_rfl) (by kernel_rfl) (fun _ _ _ h => h) (Or.inr ⟨by rfl, rfl⟩) (by assumption) ?rest26qB
              case' rest26qB => try simp only [Act.put, List.setIfInBounds_toArray, List.set_cons_zero, List.set_cons_succ]
              refine wpAnyH_take (i := 27) (v := undef) (gt27 _ _ _ _ _ _ _ _ _ _ _ _ _ _ _ _ _ _ _ _ _ _ _ _ _ _ _ _ _) (by kernel_rfl) (by kernel_rfl) (by kernel_rfl) (fun _ _ _ h => h) (Or.inr ⟨by rfl, rfl⟩) (by assumption) ?rest27qB
              case' rest27qB => try simp only [Act.put, List.setIfInBounds_toArray, List.set_cons_zero, List.set_cons_succ]
              refine wpAnyH_take (i := 28) (v := undef) (gt28 _ _ _ _ _ _ _ _ _ _ _ _ _ _ _ _ _ _ _ _ _ _ _ _ _ _ _ _ _ _) (by kernel_rfl) (by kernel_rfl) (by kernel_rfl) (fun _ _ _ h => h) (Or.inr ⟨by rfl, rfl⟩) (by assumption) ?rest28qB
              case' rest28qB => try simp only [Act.put, List.setIfInBounds_toArray, List.set_cons_zero, List.set_cons_succ]
              refine wpAnyH_take (i := 29) (v := undef) (gt29 _ _ _ _ _ _ _ _ _ _ _ _ _ _ _ _ _ _ _ _ _ _ _ _ _ _ _ _ _ _ _) (by kernel_rfl) (by kernel_rfl) (by kernel_rfl) (fun _ _ _ h => h) (Or.inr ⟨by rfl, rfl⟩) (by assumption) ?rest29qB
              case' rest29qB => try simp only [Act.put, List.setIfInBounds_toArray, List.set_cons_zero, List.set_cons_succ]
              refine wpAnyH_take (i := 30) (v := undef) (gt30 _ _ _ _ _ _ _ _ _ _ _ _ _ _ _ _ _ _ _ _ _ _ _ _ _ _ _ _ _ _ _ _) (by kernel_rfl) (by kernel_rfl) (by kernel_rfl) (fun _ _ _ h => h) (Or.inr ⟨by rfl, rfl⟩) (by assumption) ?rest30qB
              case' rest30qB => try simp only [Act.put, List.setIfInBounds_toArray, List.set_cons_zero, List.set_cons_succ]
              refine wpAnyH_take (i := 31) (v := undef) (gt31 _ _ _ _ _ _ _ _ _ _ _ _ _ _ _ _ _ _ _ _ _ _ _ _ _ _ _ _ _ _ _ _ _) (by kernel_rfl) (by kernel_rfl) (by kernel_rfl) (fun _ _ _ h => h) (Or.inr ⟨by rfl, rfl⟩) (by assumption) ?rest31qB
              case' rest31qB => try simp only [Act.put, List.setIfInBounds_toArray, List.set_cons_zero, List.set_cons_succ]
              refine wpAnyH_take (i := 32) (v := undef) (gt32 _ _ _ _ _ _ _ _ _ _ _ _ _ _ _ _ _ _ _ _ _ _ _ _ _ _ _ _ _ _ _ _ _ _) (by kernel_rfl) (by kernel_rfl) (by kernel_rfl) (fun _ _ _ h => h) (Or.inr ⟨by rfl, rfl⟩) (by assumption) ?rest32qB
              case' rest32qB => try simp only [Act.put, List.setIfInBounds_toArray, List.set_cons_zero, List.set_cons_succ]
              refine wpAnyH_take (i := 33) (v := ?v33qB) (gt33 _ _ _ _ _ _ _ _ _ _ _ _ _ _ _ _ _ _ _ _ _ _ _ _ _ _ _ _ _ _ _ _ _ _ _) (by kernel_rfl) (by kernel_rfl) (by kernel_rfl) (fun _ _ _ h => h) (Or.inl ⟨by rfl, ?hy33qB⟩) (by assumption) ?rest33qB
              case hy33qB => (intro w0 hSw; (try dsimp only at hSw); go_simp; try (with_reducible rfl))
              case' rest33qB => try simp only [Act.put, List.setIfInBounds_toArray, List.set_cons_zero, List.set_cons_succ]
              refine wpAnyH_take (i := 34) (v := ?v34qB) (gt34 _ _ _ _ _ _ _ _ _ _ _ _ _ _ _ _ _ _ _ _ _ _ _ _ _ _ _ _ _ _ _ _ _ _ _ _) (by kernel_rfl) (by kernel_rfl) (by kernel_rfl) (fun _ _ _ h => h) (Or.inl ⟨by rfl, ?hy34qB⟩) (by assumption) ?rest34qB
              case hy34qB => (intro w0 hSw; (try dsimp only at hSw); go_simp; try (with_reducible rfl))
              case' rest34qB => try simp only [Act.put, List.setIfInBounds_toArray, List.set_cons_zero, List.set_cons_succ]
              refine wpAnyH_done (by kernel_rfl) ?_ _
              go_wp2
              go_ret
              exact ⟨rfl, BF.out⟩
            · have en0 : decide ((q9 : Int) = (LN : Int)) = false := by simp; omega
              have en1 : ((q9 : Int) == (LN : Int)) = false := by simp; omega
              obtain ⟨d, hd⟩ : ∃ d, q9 = d + 1 := ⟨q9 - 1, by omega⟩
              obtain ⟨x, hx⟩ : ∃ x, L[q9]? = some x := ⟨_, List.getElem?_eq_getElem (show q9 < L.length by have := HLN.out; omega)⟩
              obtain ⟨y, hy⟩ : ∃ y, L[d]? = some y := ⟨_, List.getElem?_eq_getElem (show d < L.length by have := HLN.out; omega)⟩
              have hdf : N.same y.r.name x.r.name = false := by
                have h := SH.out.ends (by omega) (by omega)
                rw [← HRS.out, show q9 - 1 = d by omega, M.nmAt_map hy, M.nmAt_map hx] at h
                exact h
              obtain ⟨ix, jx, hix, hxr⟩ := M.sAll_mem k i x.r (by rw [← HRS.out]; exact List.mem_map.2 ⟨_, List.mem_of_getElem? hx, rfl⟩)
              obtain ⟨iy, jy, hiy, hyr⟩ := M.sAll_mem k i y.r (by rw [← HRS.out]; exact List.mem_map.2 ⟨_, List.mem_of_getElem? hy, rfl⟩)
              obtain ⟨X, hX⟩ : ∃ X, UInt8.ofNat (97 + ix) = X := ⟨_, rfl⟩
              obtain ⟨Y, hY⟩ : ∃ X, UInt8.ofNat (97 + iy) = X := ⟨_, rfl⟩
              have hxn : x.r.name = [[X]] := by rw [hxr, ← hX]; rfl
              have hyn : y.r.name = [[Y]] := by rw [hyr, ← hY]; rfl
              have hXY : X ≠ Y := by
                intro e
                rw [hxn, hyn, e] at hdf
                simp [N.same] at hdf
              obtain ⟨g1, o1, rfl, hg1, hcX⟩ := HSX.out (by have := HLN.out; omega)
              obtain ⟨x0, _, _, _, _, x5, _, _⟩ := hcX q9 x hx
              obtain ⟨y0, _, _, _, _, y5, _, _⟩ := hcX d y hy
              rw [hxn] at x0 x5
              rw [hyn] at y0 y5
              obtain ⟨xna, xnc, xda, xdc, xr⟩ := x
              obtain ⟨yna, ync, yda, ydc, yr⟩ := y
              simp only at x0 x5 y0 y5
              have z0 : w7.cell? ⟨g1, o1 + q9 * 5, none⟩ = some (.slice xna 1 xnc) := x0
              have z1 : w7.cell? ⟨g1, o1 + d * 5, none⟩ = some (.slice yna 1 ync) := y0
              have HX5 := hide x5
              have HY5 := hide y5
              have SA : Hid (∀ w', Below w7.heap.size w7 w' → w'.cell? ⟨w6.heap.size, 9, none⟩ = some (.slice ra q9 rc) ∧ w'.cell? ⟨mB, 9, none⟩ = some (.slice (some ⟨g1, o1, none⟩) LN va2) ∧ w'.cell? ⟨g1, o1 + q9 * 5, none⟩ = some (.slice xna 1 xnc) ∧ w'.cell? ⟨g1, o1 + d * 5, none⟩ = some (.slice yna 1 ync)) := fun w' hb => ⟨(hb.cell (p := ⟨w6.heap.size, 9, none⟩) hr7).trans c9, (hb.cell (p := ⟨mB, 9, none⟩) hm7).trans d9, (hb.cell (p := ⟨g1, o1 + q9 * 5, none⟩) hg1).trans z0, (hb.cell (p := ⟨g1, o1 + d * 5, none⟩) hg1).trans z1⟩
              have BD := hide HB.out.drew
              have SD := hide (SA.out _ BD.out)
              have hqL : (q9 : Int) < (LN : Int) := by omega
              have hdL : (d : Int) < (LN : Int) := by omega
              have hd0 : (0 : Int) ≤ (d : Int) := by omega
              have hq0 : (0 : Int) ≤ (q9 : Int) := by omega
              have hw1 : IntKind.i64.wrap ((q9 : Int) - 1) = (d : Int) := by rw [IntKind.wrap_i64]; omega
              clear x0 y0 x5 y5 hcX hx hy hxr hyr hxn hyn hdf hd hz0 hzN hX hY hix hiy z0 z1 SD2
              go_wp2
              go_region_held3 (fun w' => w'.cell? ⟨w6.heap.size, 9, none⟩ = some (.slice ra q9 rc) ∧ w'.cell? ⟨mB, 9, none⟩ = some (.slice (some ⟨g1, o1, none⟩) LN va2) ∧ w'.cell? ⟨g1, o1 + q9 * 5, none⟩ = some (.slice xna 1 xnc) ∧ w'.cell? ⟨g1, o1 + d * 5, none⟩ = some (.slice yna 1 ync)) (first | exact SD.out | exact SE.out | assumption) ((go_at_call 13; refine (name_diff X Y hXY xna yna xnc ync _ (by exact HX5.out.below BD.out (Nat.le_refl _)) (by exact HY5.out.below BD.out (Nat.le_refl _))).mono ?_; rintro e w8 ⟨rfl, hb8⟩; have BE := hide (BD.out.trans (hb8.mono BD.out.size)); have SE := hide (SA.out _ BE.out); clear hb8))
              go_wp2
              go_ret
              exact ⟨rfl, B7.out.trans (BE.out.mono B7.out.size)⟩
end Go.Proofs.YtpgebiopckmgbabGreat
