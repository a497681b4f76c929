/- The law WireEdns: the message as far as its records have been made. -/
import Derived.Test.YtpgebiopckmgbabGreatBya
import Derived.Test.YtpgebiopckmgbabGreatEdp
namespace Go.Proofs.YtpgebiopckmgbabGreat
open Go.RowKit
def msgE (cd sz : Nat) (xd e : Bool) (v : Value) : Array Value := #[.int .u16 0, .bool true, .int .i64 0, .bool false, .bool false, .bool false, .bool false, .int .i64 (cd : Int), .slice none 0 0, .slice none 0 0, .slice none 0 0, v, .bool e, .int .u16 (sz : Int), .bool xd]
structure EI (cd sz : Nat) (xd : Bool) (mB : Nat) (w : World) (j : Nat) (wr : World) (va : Value) (L : List RX) : Prop where
  msg : RowAt wr mB 32 (msgE cd sz xd true va)
  own : OwnRc wr w.heap.size va L
  rs : L.map (·.r) = (List.range j).map M.aRec
  el : ∀ x ∈ L, ∃ (a d i : Nat), i < 256 ∧ x.na = some ⟨a, 0, none⟩ ∧ x.da = some ⟨d, 0, none⟩ ∧ x.r = M.aRec i ∧ RowAt wr a 9 #[.string ⟨#[97]⟩] ∧ RowAt wr d 5 #[.int .u8 1, .int .u8 2, .int .u8 3, .int .u8 (i : Int)]
  bel : Below w.heap.size w wr
  mlow : w.heap.size ≤ mB
set_option maxRecDepth 5000 in
theorem row_far2 {w : World} {g t k j : Nat} {c : Array Value} (h : RowAt w g t c) (v : Value) (hne : g ≠ k) : RowAt (w.setCell ⟨k, j, none⟩ v) g t c := by
  unfold RowAt at h ⊢
  rw [Below.heap_setCell _ _ _ _ hne]; exact h
set_option maxRecDepth 5000 in
theorem row_ne2 {w : World} {g g' t t' : Nat} {c c' : Array Value} (h : RowAt w g t c) (h' : RowAt w g' t' c') (hne : t ≠ t') : g ≠ g' := by
  rintro rfl
  unfold RowAt at h h'
  rw [h] at h'; cases h'; exact hne rfl
set_option maxRecDepth 5000 in
theorem OwnRc.form2 {w : World} {base : Nat} {v : Value} {l : List RX} (h : OwnRc w base v l) : ∃ ao c, v = .slice ao l.length c ∧ (ao = none → c = 0) := by
  rcases h.2 with ⟨rfl, h0⟩ | ⟨g, cap, cur, rfl, _⟩
  · exact ⟨none, 0, by rw [h0], fun _ => rfl⟩
  · exact ⟨_, _, rfl, fun e => by cases e⟩
set_option maxRecDepth 5000 in
theorem EI.next {cd sz mB j : Nat} {xd : Bool} {w wr : World} {va : Value} {L : List RX} {w4 : World} {v4 : Value} (h : EI cd sz xd mB w j wr va L) (hj : j < 256) {o2 : Obj} (x : RX) (hx : x.na = some ⟨wr.heap.size, 0, none⟩ ∧ x.da = some ⟨wr.heap.size + 1, 0, none⟩ ∧ x.r = M.aRec j)
    (hO : OwnRc w4 w.heap.size v4 (L ++ [x])) (hG : (((wr.alloc (.cells #[.string ⟨#[97]⟩] 9)).alloc (.cells #[.int .u8 1, .int .u8 2, .int .u8 3, .int .u8 (j : Int)] 5)).alloc o2).grownBy w4 va.ownBlock) : EI cd sz xd mB w (j + 1) (w4.setCell ⟨mB, 11, none⟩ v4) v4 (L ++ [x]) := by
  have hz := h.bel.size
  have bA : Below wr.heap.size wr (((wr.alloc (.cells #[.string ⟨#[97]⟩] 9)).alloc (.cells #[.int .u8 1, .int .u8 2, .int .u8 3, .int .u8 (j : Int)] 5)).alloc o2) := (((Below.refl _ _).alloc (Nat.le_refl _) _).alloc (by simp) _).alloc (by simp; omega) _
  have oA : OwnRc (((wr.alloc (.cells #[.string ⟨#[97]⟩] 9)).alloc (.cells #[.int .u8 1, .int .u8 2, .int .u8 3, .int .u8 (j : Int)] 5)).alloc o2) w.heap.size va L := own_below (show World.ownsRow _ _ _ _ _ _ _ from h.own) bA
  have rN := ((RowAt.new wr 9 #[.string ⟨#[97]⟩]).alloc (.cells #[.int .u8 1, .int .u8 2, .int .u8 3, .int .u8 (j : Int)] 5)).alloc o2
  have rD := (RowAt.new (wr.alloc (.cells #[.string ⟨#[97]⟩] 9)) 5 #[.int .u8 1, .int .u8 2, .int .u8 3, .int .u8 (j : Int)]).alloc o2
  rw [World.size_alloc] at rD
  have up : ∀ {g t : Nat} {c : Array Value}, RowAt (((wr.alloc (.cells #[.string ⟨#[97]⟩] 9)).alloc (.cells #[.int .u8 1, .int .u8 2, .int .u8 3, .int .u8 (j : Int)] 5)).alloc o2) g t c → t ≠ 39 → RowAt w4 g t c := fun hr ht => row_grownO hr (show World.ownsRow _ _ _ _ _ _ _ from oA) ht hG
  have lift : ∀ {g t : Nat} {c : Array Value}, RowAt wr g t c → t ≠ 39 → RowAt w4 g t c := fun hr ht => up (hr.below bA hr.lt) ht
  have m4 := lift h.msg (by decide)
  have n4 := up rN (by decide)
  have d4 := up rD (by decide)
  have b4 : Below w.heap.size w w4 := grown_belowR (h.bel.trans (bA.mono hz)) (show World.ownsRow _ _ _ _ _ _ _ from oA) hG
  refine ⟨?_, ?_, ?_, ?_, b4.setCell h.mlow v4, h.mlow⟩
  · exact m4.set 11 v4
  · exact own_mv3 (show World.ownsRow _ _ _ _ _ _ _ from hO) m4 (by decide) (Mv.set mB 11 w4 v4)
  · rw [List.map_append, h.rs, List.range_succ, List.map_append]; simp [hx.2.2]
  · intro y hy
    rcases List.mem_append.1 hy with hy | hy
    · obtain ⟨a, d, i, p0, p1, p2, p3, p4, p5⟩ := h.el y hy
      have q4 := lift p4 (by decide)
      have q5 := lift p5 (by decide)
      exact ⟨a, d, i, p0, p1, p2, p3, row_far2 q4 v4 (row_ne2 q4 m4 (by decide)), row_far2 q5 v4 (row_ne2 q5 m4 (by decide))⟩
    · rw [List.mem_singleton.1 hy]
      exact ⟨_, _, j, hj, hx.1, hx.2.1, hx.2.2, row_far2 n4 v4 (row_ne2 n4 m4 (by decide)), row_far2 d4 v4 (row_ne2 d4 m4 (by decide))⟩
set_option maxRecDepth 5000 in
theorem a_name {w : World} {a : Nat} (h : RowAt w a 9 #[.string ⟨#[97]⟩]) : SlS w (some ⟨a, 0, none⟩) [[97]] := by
  refine fun _ => ⟨a, 0, rfl, h.lt, fun i hi => ?_⟩
  obtain rfl : i = 0 := by simp at hi; exact hi
  exact h.cell 0
set_option maxRecDepth 5000 in
theorem a_data {w : World} {d i : Nat} (hi : i < 256) (h : RowAt w d 5 #[.int .u8 1, .int .u8 2, .int .u8 3, .int .u8 (i : Int)]) : SlL w (some ⟨d, 0, none⟩) [1, 2, 3, UInt8.ofNat i] := by
  refine fun _ => ⟨d, 0, rfl, h.lt, fun j hj => ?_⟩
  have hj : j < 4 := hj
  have r : j = 0 ∨ j = 1 ∨ j = 2 ∨ j = 3 := by omega
  rcases r with rfl | rfl | rfl | rfl
  · exact h.cell 0
  · exact h.cell 1
  · exact h.cell 2
  · show _ = some (Value.int .u8 ((UInt8.ofNat i).toNat : Int))
    rw [show ((UInt8.ofNat i).toNat : Int) = (i : Int) by rw [UInt8.toNat_ofNat']; omega]
    exact h.cell 3
set_option maxRecDepth 5000 in
theorem EI.slR {cd sz mB j : Nat} {xd : Bool} {w wr : World} {va : Value} {L : List RX} (h : EI cd sz xd mB w j wr va L) : ∃ a c, va = .slice a L.length c ∧ SlR wr a L ∧ (∀ ad, a = some ad → ∃ cur, wr.heap[ad.block]? = some (.cells cur 39)) := by
  refine h.own.slR (fun x hx => ?_)
  obtain ⟨a, d, i, p0, p1, p2, p3, p4, p5⟩ := h.el x hx
  rw [p1, p2, p3]
  exact ⟨a_name p4, a_data p0 p5, fun e => by cases e⟩
set_option maxRecDepth 5000 in
theorem EI.below {cd sz mB j : Nat} {xd : Bool} {w wr : World} {va : Value} {L : List RX} {w' : World} (h : EI cd sz xd mB w j wr va L) (hb : Below wr.heap.size wr w') : EI cd sz xd mB w j w' va L := by
  refine ⟨h.msg.below hb h.msg.lt, own_below (show World.ownsRow _ _ _ _ _ _ _ from h.own) hb, h.rs, fun x hx => ?_, h.bel.trans (hb.mono h.bel.size), h.mlow⟩
  obtain ⟨a, d, i, p0, p1, p2, p3, p4, p5⟩ := h.el x hx
  exact ⟨a, d, i, p0, p1, p2, p3, p4.below hb p4.lt, p5.below hb p5.lt⟩
def eA (a : Option Addr) : Nat → Option Addr
  | 0 => none
  | 1 => none
  | _ + 2 => a
def eL (l : List RX) : Nat → List RX
  | 0 => []
  | 1 => []
  | _ + 2 => l
def eC (c : Nat) : Nat → Nat
  | 0 => 0
  | 1 => 0
  | _ + 2 => c
set_option maxRecDepth 5000 in
theorem EI.len {cd sz mB j : Nat} {xd : Bool} {w wr : World} {va : Value} {L : List RX} (h : EI cd sz xd mB w j wr va L) : L.length = j := by
  have := congrArg List.length h.rs
  simpa using this
set_option maxRecDepth 5000 in
theorem EI.slF {cd sz mB j : Nat} {xd : Bool} {w wr : World} {va : Value} {L : List RX} {w' : World} (h : EI cd sz xd mB w j wr va L) (hm : Mv mB wr w') : ∀ x ∈ L, SlS w' x.na x.r.name ∧ SlL w' x.da x.r.data ∧ (x.da = none → x.dc = 0) := by
  intro x hx
  obtain ⟨a, d, i, p0, p1, p2, p3, p4, p5⟩ := h.el x hx
  have q4 := row_mv p4 (row_ne2 p4 h.msg (by decide)) hm
  have q5 := row_mv p5 (row_ne2 p5 h.msg (by decide)) hm
  rw [p1, p2, p3]
  exact ⟨a_name q4, a_data p0 q5, fun e => by cases e⟩
/- the sections, also where the message's own cells have changed -/
set_option maxRecDepth 5000 in
theorem EI.secs {cd sz mB j c0 : Nat} {xd : Bool} {w wr w' : World} {a0 : Option Addr} {L : List RX} (h : EI cd sz xd mB w j wr (.slice a0 L.length c0) L) (hj : j ≤ 3) (hm : Mv mB wr w') : Secs w' (eA a0) (eL L) (eC c0) := by
  have o2 : OwnRc w' w.heap.size (.slice a0 L.length c0) L := own_mv3 (show World.ownsRow _ _ _ _ _ _ _ from h.own) h.msg (by decide) hm
  obtain ⟨a, c, e, hsl, _⟩ := o2.slR (h.slF hm)
  cases e
  obtain ⟨a', c', e', hn⟩ := h.own.form2
  cases e'
  have hlen := h.len
  refine ⟨fun i hi => ?_, fun i hi => ?_, fun i hi => ?_, fun i hi x hx => ?_⟩
  · match i with
    | 0 => exact fun h => by simp [eL] at h
    | 1 => exact fun h => by simp [eL] at h
    | i + 2 => exact hsl
  · match i with
    | 0 => exact fun _ => rfl
    | 1 => exact fun _ => rfl
    | i + 2 => exact hn
  · match i with
    | 0 => simp [eL]
    | 1 => simp [eL]
    | i + 2 => show L.length ≤ 30; omega
  · match i with
    | 0 => cases hx
    | 1 => cases hx
    | i + 2 =>
      obtain ⟨a, d, i, p0, p1, p2, p3, p4, p5⟩ := h.el x hx
      rw [p3]
      exact ⟨⟨by simp [M.aRec], by simp [M.aRec], show N.size [[97]] ≤ 255 by decide⟩, show 1 < 65536 by decide, show 1 < 65536 by decide, show 5 < 4294967296 by decide, by simp [M.aRec]⟩
set_option maxRecDepth 5000 in
theorem EI.catR {cd sz mB j : Nat} {xd : Bool} {w wr : World} {va : Value} {L : List RX} (h : EI cd sz xd mB w j wr va L) : (cat (eL L) 3).map (·.r) = (List.range j).map M.aRec := by
  rw [← h.rs]; simp [cat, eL]
end Go.Proofs.YtpgebiopckmgbabGreat
