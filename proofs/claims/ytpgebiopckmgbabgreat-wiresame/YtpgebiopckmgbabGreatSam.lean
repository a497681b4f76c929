/- The law WireSame. -/
import Derived.Test.YtpgebiopckmgbabGreatFlz
namespace Go.Proofs.YtpgebiopckmgbabGreat
open Go.RowKit
def msgA (qB : Nat) (v : Value) : Array Value := #[.int .u16 0, .bool false, .int .i64 0, .bool false, .bool false, .bool false, .bool false, .int .i64 0, .slice (some ⟨qB, 0, none⟩) 1 1, v, .slice none 0 0, .slice none 0 0, .bool false, .int .u16 0, .bool false]
/- the message as far as its answers have been made -/
structure SI (n : List (List UInt8)) (ao : Option Addr) (cap qB mB : Nat) (w : World) (j : Nat) (wr : World) (va : Value) (L : List RX) : Prop where
  msg : RowAt wr mB 32 (msgA qB va)
  own : OwnRc wr w.heap.size va L
  rs : L.map (·.r) = (M.ones j).map (M.again n)
  el : ∀ x ∈ L, x.na = ao ∧ ∃ (d : Nat) (y : UInt8), x.da = some ⟨d, 0, none⟩ ∧ x.r.data = [y] ∧ RowAt wr d 5 #[.int .u8 (y.toNat : Int)]
  q : RowAt wr qB 28 #[.slice ao n.length cap, .int .u16 1, .int .u16 1]
  bel : Below w.heap.size w wr
  mlow : w.heap.size ≤ mB
set_option maxRecDepth 5000 in
theorem row_far {w : World} {g t k j : Nat} {c : Array Value} (h : RowAt w g t c) (v : Value) (hne : g ≠ k) : RowAt (w.setCell ⟨k, j, none⟩ v) g t c := by
  unfold RowAt at h ⊢
  rw [Below.heap_setCell _ _ _ _ hne]; exact h
set_option maxRecDepth 5000 in
theorem row_ne {w : World} {g g' t t' : Nat} {c c' : Array Value} (h : RowAt w g t c) (h' : RowAt w g' t' c') (hne : t ≠ t') : g ≠ g' := by
  rintro rfl
  unfold RowAt at h h'
  rw [h] at h'; cases h'; exact hne rfl
set_option maxRecDepth 5000 in
theorem ones_succ (j : Nat) : M.ones (j + 1) = M.ones j ++ [UInt8.ofNat j] := by
  unfold M.ones; rw [List.range_succ, List.map_append]; rfl
set_option maxRecDepth 5000 in
theorem SI.next {n : List (List UInt8)} {ao : Option Addr} {cap qB mB j : Nat} {w wr w4 : World} {va v4 : Value} {L : List RX} (h : SI n ao cap qB mB w j wr va L) (hj : j < 256) {o2 : Obj} (x : RX) (hx : x.na = ao ∧ x.da = some ⟨wr.heap.size, 0, none⟩ ∧ x.r = M.again n (UInt8.ofNat j))
    (hO : OwnRc w4 w.heap.size v4 (L ++ [x])) (hG : ((wr.alloc (.cells #[.int .u8 (j : Int)] 5)).alloc o2).grownBy w4 va.ownBlock) : SI n ao cap qB mB w (j + 1) (w4.setCell ⟨mB, 9, none⟩ v4) v4 (L ++ [x]) := by
  have hz := h.bel.size
  have bA : Below wr.heap.size wr ((wr.alloc (.cells #[.int .u8 (j : Int)] 5)).alloc o2) := ((Below.refl _ _).alloc (Nat.le_refl _) _).alloc (by simp) _
  have oA : OwnRc ((wr.alloc (.cells #[.int .u8 (j : Int)] 5)).alloc o2) w.heap.size va L := own_below (show World.ownsRow _ _ _ _ _ _ _ from h.own) bA
  have rD := (RowAt.new wr 5 #[.int .u8 (j : Int)]).alloc o2
  have up : ∀ {g t : Nat} {c : Array Value}, RowAt ((wr.alloc (.cells #[.int .u8 (j : Int)] 5)).alloc o2) g t c → t ≠ 39 → RowAt w4 g t c := fun hr ht => row_grownO hr (show World.ownsRow _ _ _ _ _ _ _ from oA) ht hG
  have lift : ∀ {g t : Nat} {c : Array Value}, RowAt wr g t c → t ≠ 39 → RowAt w4 g t c := fun hr ht => up (hr.below bA hr.lt) ht
  have m4 := lift h.msg (by decide)
  have d4 := up rD (by decide)
  have b4 : Below w.heap.size w w4 := grown_belowR (h.bel.trans (bA.mono hz)) (show World.ownsRow _ _ _ _ _ _ _ from oA) hG
  refine ⟨?_, ?_, ?_, ?_, ?_, b4.setCell h.mlow v4, h.mlow⟩
  · exact m4.set 9 v4
  · exact own_mv3 (show World.ownsRow _ _ _ _ _ _ _ from hO) m4 (by decide) (Mv.set mB 9 w4 v4)
  · rw [List.map_append, h.rs, ones_succ, List.map_append]; simp [hx.2.2]
  · intro y hy
    rcases List.mem_append.1 hy with hy | hy
    · obtain ⟨p1, d, z, p2, p3, p4⟩ := h.el y hy
      have p5 := lift p4 (by decide)
      exact ⟨p1, d, z, p2, p3, row_far p5 v4 (row_ne p5 m4 (by decide))⟩
    · rw [List.mem_singleton.1 hy]
      refine ⟨hx.1, wr.heap.size, UInt8.ofNat j, hx.2.1, by rw [hx.2.2]; rfl, ?_⟩
      rw [show ((UInt8.ofNat j).toNat : Int) = (j : Int) by rw [UInt8.toNat_ofNat']; omega]
      exact row_far d4 v4 (row_ne d4 m4 (by decide))
  · have q4 := lift h.q (by decide)
    exact row_far q4 v4 (row_ne q4 m4 (by decide))
set_option maxRecDepth 5000 in
theorem SI.slQ {n : List (List UInt8)} {ao : Option Addr} {cap qB mB j : Nat} {w wr : World} {va : Value} {L : List RX} (h : SI n ao cap qB mB w j wr va L) (hs : SlS w ao n) : SlQ wr (some ⟨qB, 0, none⟩) [((ao : Option Addr), (cap : Nat), (⟨n, 1, 1⟩ : M.Q))] := by
  refine fun _ => ⟨qB, rfl, h.q.lt, fun i x hx => ?_⟩
  cases i with
  | zero => cases hx; exact ⟨h.q.cell 0, h.q.cell 1, h.q.cell 2, hs.below h.bel (Nat.le_refl _)⟩
  | succ i => cases hx
set_option maxRecDepth 5000 in
theorem SI.slR {n : List (List UInt8)} {ao : Option Addr} {cap qB mB j : Nat} {w wr : World} {va : Value} {L : List RX} (h : SI n ao cap qB mB w j wr va L) (hs : SlS w ao n) : ∃ a c, va = .slice a L.length c ∧ SlR wr a L ∧ (∀ ad, a = some ad → ∃ cur, wr.heap[ad.block]? = some (.cells cur 39)) := by
  refine h.own.slR (fun x hx => ?_)
  obtain ⟨p1, d, z, p2, p3, p4⟩ := h.el x hx
  have hn : x.r.name = n := by
    have h1 : x.r ∈ L.map (·.r) := List.mem_map.2 ⟨x, hx, rfl⟩
    rw [h.rs] at h1
    obtain ⟨y, _, hy⟩ := List.mem_map.1 h1
    rw [← hy]; rfl
  refine ⟨by rw [hn, p1]; exact hs.below h.bel (Nat.le_refl _), ?_, by rw [p2]; intro e; cases e⟩
  rw [p2, p3]
  refine fun _ => ⟨d, 0, rfl, p4.lt, fun i hi => ?_⟩
  obtain rfl : i = 0 := by simp at hi; exact hi
  exact p4.cell 0
set_option maxRecDepth 5000 in
theorem SI.below {n : List (List UInt8)} {ao : Option Addr} {cap qB mB j : Nat} {w wr w' : World} {va : Value} {L : List RX} (h : SI n ao cap qB mB w j wr va L) (hb : Below wr.heap.size wr w') : SI n ao cap qB mB w j w' va L := by
  refine ⟨h.msg.below hb h.msg.lt, own_below (show World.ownsRow _ _ _ _ _ _ _ from h.own) hb, h.rs, fun x hx => ?_, h.q.below hb h.q.lt, h.bel.trans (hb.mono h.bel.size), h.mlow⟩
  obtain ⟨p1, d, z, p2, p3, p4⟩ := h.el x hx
  exact ⟨p1, d, z, p2, p3, p4.below hb p4.lt⟩
set_option maxRecDepth 5000 in
theorem OwnRc.form {w : World} {base : Nat} {v : Value} {l : List RX} (h : OwnRc w base v l) : ∃ ao c, v = .slice ao l.length c ∧ (ao = none → c = 0) := by
  rcases h.2 with ⟨rfl, h0⟩ | ⟨g, cap, cur, rfl, _⟩
  · exact ⟨none, 0, by rw [h0], fun _ => rfl⟩
  · exact ⟨_, _, rfl, fun e => by cases e⟩
def sA (a : Option Addr) : Nat → Option Addr
  | 0 => a
  | _ + 1 => none
def sL (l : List RX) : Nat → List RX
  | 0 => l
  | _ + 1 => []
def sC (c : Nat) : Nat → Nat
  | 0 => c
  | _ + 1 => 0
set_option maxRecDepth 5000 in
theorem SI.len {n : List (List UInt8)} {ao : Option Addr} {cap qB mB j : Nat} {w wr : World} {va : Value} {L : List RX} (h : SI n ao cap qB mB w j wr va L) : L.length = j := by
  have := congrArg List.length h.rs
  simpa [M.ones] using this
set_option maxRecDepth 5000 in
theorem SI.secs {n : List (List UInt8)} {ao a0 : Option Addr} {cap qB mB j c0 : Nat} {w wr : World} {L : List RX} (h : SI n ao cap qB mB w j wr (.slice a0 L.length c0) L) (hs : SlS w ao n) (hg : M.Good n) (hj : j ≤ 5) : Secs wr (sA a0) (sL L) (sC c0) := by
  obtain ⟨a, c, e, hsl, _⟩ := h.slR hs
  cases e
  obtain ⟨a', c', e', hn⟩ := h.own.form
  cases e'
  have hlen := h.len
  refine ⟨fun i hi => ?_, fun i hi => ?_, fun i hi => ?_, fun i hi x hx => ?_⟩
  · cases i with
    | zero => exact hsl
    | succ i => exact fun h => by simp [sL] at h
  · cases i with
    | zero => exact hn
    | succ i => exact fun _ => rfl
  · cases i with
    | zero => show L.length ≤ 30; omega
    | succ i => simp [sL]
  · cases i with
    | zero =>
      have h1 : x.r ∈ L.map (·.r) := List.mem_map.2 ⟨x, hx, rfl⟩
      rw [h.rs] at h1
      obtain ⟨y, _, hy⟩ := List.mem_map.1 h1
      rw [← hy]
      exact ⟨hg, show 99 < 65536 by decide, show 1 < 65536 by decide, show 0 < 4294967296 by decide, by simp [M.again]⟩
    | succ i => cases hx
set_option maxRecDepth 5000 in
theorem SI.out {n : List (List UInt8)} {ao : Option Addr} {cap qB mB j : Nat} {w wr : World} {va : Value} {L : List RX} (h : SI n ao cap qB mB w j wr va L) (hn : n ≠ []) (hl : (N.wire n).length ≤ 255) (hj : j ≤ 5) :
    (M.wrs 65535 ((cat (sL L) 3).map (·.r)) (M.wname n (fun _ => none) (hdr 0 0 1 L.length 0 0)).1 (M.pre n L.length)).2.1 = M.pre n j ++ (M.ones j).flatMap (fun x => [192, 12, 0, 99, 0, 1, 0, 0, 0, 0, 0, 1, x]) := by
  have e : (cat (sL L) 3).map (·.r) = (M.ones j).map (M.again n) := by simp [cat, sL]; exact h.rs
  rw [e, h.len]
  exact M.pre_rs n j hn hl hj
end Go.Proofs.YtpgebiopckmgbabGreat
