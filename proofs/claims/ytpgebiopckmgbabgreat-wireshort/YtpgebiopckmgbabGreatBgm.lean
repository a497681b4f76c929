/- wire.begun: the header and the questions. -/
import Derived.Test.YtpgebiopckmgbabGreatWnn
import Derived.Test.YtpgebiopckmgbabGreatFlg
import Derived.Deep.WholeRow
namespace Go.Proofs.YtpgebiopckmgbabGreat
open Go.RowKit
namespace M
def wqs : List M.Q → (List UInt8 → Option Nat) → List UInt8 → (List UInt8 → Option Nat) × List UInt8
  | [], mp, out => (mp, out)
  | q :: r, mp, out => wqs r (wname q.name mp out).1 ((wname q.name mp out).2 ++ D.p16 q.type ++ D.p16 q.cls)
set_option maxRecDepth 5000 in
theorem p16_len (n : Nat) : (D.p16 n).length = 2 := rfl
set_option maxRecDepth 5000 in
theorem wname_len : ∀ (n : List (List UInt8)) (mp : List UInt8 → Option Nat) (out : List UInt8), (wname n mp out).2.length ≤ out.length + N.size n + 1
  | [], mp, out => by simp [wname, N.size]
  | l :: r, mp, out => by
    unfold wname
    split
    · simp only [List.length_append, p16_len, N.size, List.map_cons, List.sum_cons]; omega
    · have h := wname_len r (if out.length < 16384 then wput mp (N.wire (l :: r)) out.length else mp) (out ++ UInt8.ofNat l.length :: l)
      simp only [List.length_append, List.length_cons, N.size, List.map_cons, List.sum_cons] at h ⊢
      omega
set_option maxRecDepth 5000 in
theorem good_len {n : List (List UInt8)} (h : Good n) : n.length ≤ 127 := by
  have h1 : ∀ (q : List (List UInt8)), [] ∉ q → 2 * q.length ≤ (q.map (fun l => l.length + 1)).sum := by
    intro q
    induction q with
    | nil => simp
    | cons a q ih =>
      intro hq
      have h2 := ih (fun h' => hq (by simp [h']))
      have h3 : a ≠ [] := fun e => hq (by simp [e])
      have h4 : 0 < a.length := List.length_pos_iff.2 h3
      simp only [List.length_cons, List.map_cons, List.sum_cons]; omega
  have h2 := h1 n h.1
  have h3 := h.2.2
  unfold N.size at h3
  omega
end M
/- a writer, what it wrote and its map -/
def WS (base W b : Nat) (out : List UInt8) (mp : List UInt8 → Option Nat) (K : Nat) (w0 wr : World) : Prop := ∃ v, RowAt wr W 60 #[v, .map (some b)] ∧ OwnB wr base v out ∧ MapAt wr b mp K ∧ KpN base W b w0 wr
set_option maxRecDepth 5000 in
theorem ws16 {base W b K n : Nat} {out : List UInt8} {mp : List UInt8 → Option Nat} {w0 wr : World} (h : WS base W b out mp K w0 wr) (hn : n < 65536) (hb : base ≤ W) (hne : b ≠ W) (hl : out.length ≤ 900000) :
    Calls Tryz.prog 27 #[.pointer (some ⟨W, 0, none⟩), .int .u16 (n : Int)] wr fun e w' => e = .returned (.tuple #[]) ∧ WS base W b (out ++ D.p16 n) mp K w0 w' := by
  obtain ⟨v, hR, hO, hM, hK⟩ := h
  refine (wr16_any base W n v _ out wr hn hR hO hb (by omega)).mono ?_
  rintro e w' ⟨rfl, v', hR', hO', hK'⟩
  exact ⟨rfl, v', hR', hO', hM.kpW hK' hne, hK.trans hK'.kpN⟩
set_option maxRecDepth 5000 in
theorem wsname {base W b K : Nat} {out : List UInt8} {mp : List UInt8 → Option Nat} {w0 wr : World} (h : WS base W b out mp K w0 wr) (n : List (List UInt8)) (ao : Option Addr) (len cap : Nat) (hl : Hid (n.length = len)) (hs : SlS wr ao n) (hg : M.Good n) (hbW : base ≤ W) (hbb : base ≤ b) (hout : out.length ≤ 900000) (hK : K ≤ 900000) :
    Calls Tryz.prog 29 #[.pointer (some ⟨W, 0, none⟩), .slice ao len cap] wr fun e w' => e = .returned (.tuple #[]) ∧ ∃ K', K' ≤ K + 1000 ∧ WS base W b (M.wname n mp out).2 (M.wname n mp out).1 K' w0 w' := by
  obtain ⟨v, hR, hO, hM, hKp⟩ := h
  have h127 := M.good_len hg
  refine (wrname_any base W b K v out mp n ao len cap wr hl hs hg.2.1 (by have := hl.out; omega) hR hO hM hbW hbb hout hK).mono ?_
  rintro e w' ⟨rfl, v', K', hR', hO', hM', hKK, hK'⟩
  exact ⟨rfl, K', hKK, v', hR', hO', hM', hKp.trans hK'⟩
set_option maxRecDepth 5000 in
theorem WS.row {base W b K g t : Nat} {out : List UInt8} {mp : List UInt8 → Option Nat} {w0 wr : World} {c : Array Value} (h : WS base W b out mp K w0 wr) (hr : RowAt w0 g t c) (hg : g < base) : RowAt wr g t c := by
  obtain ⟨v, _, _, _, hK⟩ := h
  exact hr.below hK.1 hg
set_option maxRecDepth 5000 in
theorem WS.size {base W b K : Nat} {out : List UInt8} {mp : List UInt8 → Option Nat} {w0 wr : World} (h : WS base W b out mp K w0 wr) : w0.heap.size ≤ wr.heap.size := by
  obtain ⟨v, _, _, _, hK⟩ := h
  exact hK.1.size
set_option maxRecDepth 5000 in
theorem WS.alloc {base W b K : Nat} {out : List UInt8} {mp : List UInt8 → Option Nat} {w0 wr : World} (h : WS base W b out mp K w0 wr) (x : Obj) (hb : base ≤ wr.heap.size) : WS base W b out mp K w0 (wr.alloc x) := by
  obtain ⟨v, hR, hO, hM, hK⟩ := h
  have hb' : Below wr.heap.size wr (wr.alloc x) := (Below.refl _ _).alloc (Nat.le_refl _) x
  exact ⟨v, hR.alloc x, hO.alloc x, hM.heap (hb'.block b hM.lt), hK.trans (KpN.of hb' hb)⟩
set_option maxRecDepth 5000 in
theorem WS.below {base W b K : Nat} {out : List UInt8} {mp : List UInt8 → Option Nat} {w0 wr w' : World} (h : WS base W b out mp K w0 wr) (hb' : Below wr.heap.size wr w') (hb : base ≤ wr.heap.size) : WS base W b out mp K w0 w' := by
  obtain ⟨v, hR, hO, hM, hK⟩ := h
  exact ⟨v, hR.below hb' hR.lt, hO.below hb', hM.heap (hb'.block b hM.lt), hK.trans (KpN.of hb' hb)⟩
set_option maxRecDepth 5000 in
theorem WS.lt {base W b K : Nat} {out : List UInt8} {mp : List UInt8 → Option Nat} {w0 wr : World} (h : WS base W b out mp K w0 wr) : W < wr.heap.size := by
  obtain ⟨v, hR, _⟩ := h; exact hR.lt
def hdr (i fl nq n9 n10 n11 : Nat) : List UInt8 := D.p16 i ++ D.p16 fl ++ D.p16 nq ++ D.p16 n9 ++ D.p16 n10 ++ D.p16 n11
end Go.Proofs.YtpgebiopckmgbabGreat

/- wire.begun: the walk. -/
namespace Go.Proofs.YtpgebiopckmgbabGreat
open Go.RowKit
set_option maxRecDepth 5000 in
theorem infoM : (Tryz.prog.info? 32).map (·.size) = some 15 := by kernel_rfl
set_option maxRecDepth 5000 in
theorem run_mk (w : World) : (Instr.makeMap 58 none).run Tryz.prog w = .ok (.map (some w.heap.size)) (w.alloc (.map #[] 0)) := rfl
set_option maxRecDepth 5000 in
theorem infoQ3 : (Tryz.prog.info? 28).map (·.size) = some 3 := by kernel_rfl
def hk4 (i fl : Nat) (q : List Nat) (k : Nat) : List UInt8 := D.p16 i ++ D.p16 fl ++ (q.take k).flatMap D.p16
set_option maxRecDepth 5000 in
theorem hk4_succ (i fl : Nat) (q : List Nat) (k : Nat) (h : k < q.length) : hk4 i fl q (k + 1) = hk4 i fl q k ++ D.p16 (q.getD k 0) := by
  unfold hk4
  rw [List.take_succ_eq_append_getElem h, List.flatMap_append]
  simp [h]
set_option maxRecDepth 5000 in
theorem hk4_len (i fl : Nat) (q : List Nat) (k : Nat) : (hk4 i fl q k).length ≤ 4 + 2 * q.length := by
  have h1 : ∀ (x : List Nat), (x.flatMap D.p16).length = 2 * x.length := by
    intro x
    induction x with
    | nil => rfl
    | cons y x ih => simp only [List.flatMap_cons, List.length_append, ih, M.p16_len, List.length_cons]; omega
  unfold hk4
  simp only [List.length_append, M.p16_len, h1, List.length_take]; omega
set_option maxRecDepth 5000 in
theorem idx4 (p q r s k cn : Nat) (h : Hid ([p, q, r, s].getD k 0 = cn)) (hk : k < 4) : ∀ w : World, (Instr.index 72 (.agg #[.int .i64 (p : Int), .int .i64 (q : Int), .int .i64 (r : Int), .int .i64 (s : Int)]) (.int .i64 (k : Int))).run Tryz.prog w = .ok (.int .i64 (cn : Int)) w := fun w => by
  have h1 := h.out
  have hz : (sizeOf 3).run Tryz.prog w = .ok 1 w := by
    have h : (Tryz.prog.info? 3).map (·.size) = some 1 := by kernel_rfl
    cases hq : Tryz.prog.info? 3 with
    | none => rw [hq] at h; cases h
    | some i =>
      have hz : i.size = 1 := by rw [hq] at h; simpa using h
      simp [sizeOf, typeInfo, hq, hz]
  rcases (show k = 0 ∨ k = 1 ∨ k = 2 ∨ k = 3 by omega) with rfl | rfl | rfl | rfl <;> simp at h1 <;> subst h1 <;> simp [Instr.index, run_underlying Tryz.underlying72, asIntOf, part, hz]
set_option maxRecDepth 5000 in
theorem WS.re {base W b K : Nat} {out : List UInt8} {mp : List UInt8 → Option Nat} {w0 wr : World} (h : WS base W b out mp K w0 wr) : WS base W b out mp K wr wr := by
  obtain ⟨v, hR, hO, hM, _⟩ := h
  exact ⟨v, hR, hO, hM, KpN.refl _ _ _ _⟩
set_option maxRecDepth 5000 in
theorem WS.tr {base W b K K' : Nat} {out out' : List UInt8} {mp mp' : List UInt8 → Option Nat} {w0 wr w' : World} (h : WS base W b out mp K w0 wr) (h' : WS base W b out' mp' K' wr w') : WS base W b out' mp' K' w0 w' := by
  obtain ⟨_, _, _, _, hK⟩ := h
  obtain ⟨v, hR, hO, hM, hK'⟩ := h'
  exact ⟨v, hR, hO, hM, hK.trans hK'⟩
set_option maxRecDepth 5000 in
theorem WS.keeps {base W b K g t : Nat} {out : List UInt8} {mp : List UInt8 → Option Nat} {w0 wr : World} {c : Array Value} (h : WS base W b out mp K w0 wr) (hr : RowAt w0 g t c) (hg : g ≠ W) (hgb : g ≠ b) (ht : t ≠ 5) : RowAt wr g t c := by
  obtain ⟨_, _, _, _, hK⟩ := h
  exact hK.row hr hg hgb ht
set_option maxRecDepth 3000 in
set_option maxHeartbeats 2000000 in
theorem begun_any (i x13 fl : Nat) (x1 x3 x4 x5 x6 xe xd : Bool) (x2 x7 : Int) (l : List (Option Addr × Nat × M.Q)) (a a9 a10 a11 : Option Addr) (c n9 c9 n10 c10 n11 c11 : Nat) (w : World) (hi : i < 65536) (hfl : fl < 65536)
    (hs : SlQ w a l) (hl : l.length ≤ 100) (hg : ∀ x ∈ l, M.Good x.2.2.name) (ht : ∀ x ∈ l, x.2.2.type < 65536 ∧ x.2.2.cls < 65536) (h9 : n9 < 65536) (h10 : n10 < 65536) (h11 : n11 + xe.toNat < 65536)
    (hF : Hid (∀ w' : World, Calls Tryz.prog 28 #[.agg #[.int .u16 (i : Int), .bool x1, .int .i64 x2, .bool x3, .bool x4, .bool x5, .bool x6, .int .i64 x7, .slice a l.length c, .slice a9 n9 c9, .slice a10 n10 c10, .slice a11 n11 c11, .bool xe, .int .u16 (x13 : Int), .bool xd]] w' fun e w'' => e = .returned (.int .u16 (fl : Int)) ∧ Below w'.heap.size w' w'')) :
    Calls Tryz.prog 16 #[.agg #[.int .u16 (i : Int), .bool x1, .int .i64 x2, .bool x3, .bool x4, .bool x5, .bool x6, .int .i64 x7, .slice a l.length c, .slice a9 n9 c9, .slice a10 n10 c10, .slice a11 n11 c11, .bool xe, .int .u16 (x13 : Int), .bool xd]] w fun e w' => e = .returned (.pointer (some ⟨w.heap.size + 1 + 1, 0, none⟩)) ∧ ∃ K, K ≤ 200000 ∧ (M.wqs (l.map (·.2.2)) (fun _ => none) (hdr i fl l.length n9 n10 (n11 + xe.toNat))).2.length ≤ 40000 ∧ Below w.heap.size w w' ∧ ∃ w0, Below w.heap.size w w0 ∧ WS (w.heap.size + 1) (w.heap.size + 1 + 1) (w.heap.size + 1) (M.wqs (l.map (·.2.2)) (fun _ => none) (hdr i fl l.length n9 n10 (n11 + xe.toNat))).2 (M.wqs (l.map (·.2.2)) (fun _ => none) (hdr i fl l.length n9 n10 (n11 + xe.toNat))).1 K w0 w' := by
  have HS := hide hs
  have HG := hide hg
  have HT := hide ht
  have HB0 : Hid (Below w.heap.size w (((w.alloc (.cells #[.int .u16 (i : Int), .bool x1, .int .i64 x2, .bool x3, .bool x4, .bool x5, .bool x6, .int .i64 x7, .slice a l.length c, .slice a9 n9 c9, .slice a10 n10 c10, .slice a11 n11 c11, .bool xe, .int .u16 (x13 : Int), .bool xd] 32)).alloc (.map #[] 0)).alloc (.cells #[.slice none 0 0, .map (some (w.heap.size + 1))] 60))) := (((Below.refl _ _).alloc (Nat.le_refl _) _).alloc (by simp) _).alloc (by simp; omega) _
  have HR0 : Hid (RowAt (((w.alloc (.cells #[.int .u16 (i : Int), .bool x1, .int .i64 x2, .bool x3, .bool x4, .bool x5, .bool x6, .int .i64 x7, .slice a l.length c, .slice a9 n9 c9, .slice a10 n10 c10, .slice a11 n11 c11, .bool xe, .int .u16 (x13 : Int), .bool xd] 32)).alloc (.map #[] 0)).alloc (.cells #[.slice none 0 0, .map (some (w.heap.size + 1))] 60)) w.heap.size 32 #[.int .u16 (i : Int), .bool x1, .int .i64 x2, .bool x3, .bool x4, .bool x5, .bool x6, .int .i64 x7, .slice a l.length c, .slice a9 n9 c9, .slice a10 n10 c10, .slice a11 n11 c11, .bool xe, .int .u16 (x13 : Int), .bool xd]) := ((RowAt.new w 32 _).alloc _).alloc _
  have HW0 : Hid (WS (w.heap.size + 1) (w.heap.size + 1 + 1) (w.heap.size + 1) [] (fun _ => none) 0 (((w.alloc (.cells #[.int .u16 (i : Int), .bool x1, .int .i64 x2, .bool x3, .bool x4, .bool x5, .bool x6, .int .i64 x7, .slice a l.length c, .slice a9 n9 c9, .slice a10 n10 c10, .slice a11 n11 c11, .bool xe, .int .u16 (x13 : Int), .bool xd] 32)).alloc (.map #[] 0)).alloc (.cells #[.slice none 0 0, .map (some (w.heap.size + 1))] 60)) (((w.alloc (.cells #[.int .u16 (i : Int), .bool x1, .int .i64 x2, .bool x3, .bool x4, .bool x5, .bool x6, .int .i64 x7, .slice a l.length c, .slice a9 n9 c9, .slice a10 n10 c10, .slice a11 n11 c11, .bool xe, .int .u16 (x13 : Int), .bool xd] 32)).alloc (.map #[] 0)).alloc (.cells #[.slice none 0 0, .map (some (w.heap.size + 1))] 60))) := by
    refine ⟨.slice none 0 0, ?_, OwnB.nil _ _, ?_, KpN.refl _ _ _ _⟩
    · have h := RowAt.new ((w.alloc (.cells #[.int .u16 (i : Int), .bool x1, .int .i64 x2, .bool x3, .bool x4, .bool x5, .bool x6, .int .i64 x7, .slice a l.length c, .slice a9 n9 c9, .slice a10 n10 c10, .slice a11 n11 c11, .bool xe, .int .u16 (x13 : Int), .bool xd] 32)).alloc (.map #[] 0)) 60 #[.slice none 0 0, .map (some (w.heap.size + 1))]
      rw [show ((w.alloc (.cells #[.int .u16 (i : Int), .bool x1, .int .i64 x2, .bool x3, .bool x4, .bool x5, .bool x6, .int .i64 x7, .slice a l.length c, .slice a9 n9 c9, .slice a10 n10 c10, .slice a11 n11 c11, .bool xe, .int .u16 (x13 : Int), .bool xd] 32)).alloc (.map #[] 0)).heap.size = w.heap.size + 1 + 1 by simp] at h
      exact h
    · have h := MapAt.made (w.alloc (.cells #[.int .u16 (i : Int), .bool x1, .int .i64 x2, .bool x3, .bool x4, .bool x5, .bool x6, .int .i64 x7, .slice a l.length c, .slice a9 n9 c9, .slice a10 n10 c10, .slice a11 n11 c11, .bool xe, .int .u16 (x13 : Int), .bool xd] 32))
      rw [show (w.alloc (.cells #[.int .u16 (i : Int), .bool x1, .int .i64 x2, .bool x3, .bool x4, .bool x5, .bool x6, .int .i64 x7, .slice a l.length c, .slice a9 n9 c9, .slice a10 n10 c10, .slice a11 n11 c11, .bool xe, .int .u16 (x13 : Int), .bool xd] 32)).heap.size = w.heap.size + 1 by simp] at h
      exact h.heap (((Below.refl _ _).alloc (Nat.le_refl _) _).block _ h.lt)
  have hsz : Hid ((((w.alloc (.cells #[.int .u16 (i : Int), .bool x1, .int .i64 x2, .bool x3, .bool x4, .bool x5, .bool x6, .int .i64 x7, .slice a l.length c, .slice a9 n9 c9, .slice a10 n10 c10, .slice a11 n11 c11, .bool xe, .int .u16 (x13 : Int), .bool xd] 32)).alloc (.map #[] 0)).alloc (.cells #[.slice none 0 0, .map (some (w.heap.size + 1))] 60)).heap.size = w.heap.size + 1 + 1 + 1) := by show _ = _; simp
  have hmk : ∀ w : World, (Instr.makeMap 58 none).run Tryz.prog w = .ok (.map (some w.heap.size)) (w.alloc (.map #[] 0)) := run_mk
  clear hs hg ht
  go_enter Tryz.func16, Tryz.ntmps16
  go_wp2_with fail
  generalize ((w.alloc (.cells #[.int .u16 (i : Int), .bool x1, .int .i64 x2, .bool x3, .bool x4, .bool x5, .bool x6, .int .i64 x7, .slice a l.length c, .slice a9 n9 c9, .slice a10 n10 c10, .slice a11 n11 c11, .bool xe, .int .u16 (x13 : Int), .bool xd] 32)).alloc (.map #[] 0)).alloc (.cells #[.slice none 0 0, .map (some (w.heap.size + 1))] 60) = X at HB0 HR0 HW0 hsz ⊢
  have hX := hsz.out
  refine (ws16 (n := i) HW0.out hi (by omega) (by omega) (by simp)).mono ?_
  rintro e w1 ⟨rfl, hW1⟩
  have HW1 := hide hW1
  have R1 := hide (hW1.row HR0.out (by omega))
  have hz1 := hW1.size
  clear hW1
  go_wp2_with (refine wpList_load_row rfl 32 (.tmp 1) rfl w.heap.size rfl 32 #[.int .u16 (i : Int), .bool x1, .int .i64 x2, .bool x3, .bool x4, .bool x5, .bool x6, .int .i64 x7, .slice a l.length c, .slice a9 n9 c9, .slice a10 n10 c10, .slice a11 n11 c11, .bool xe, .int .u16 (x13 : Int), .bool xd] (0, 0) _ (by exact R1.out) Tryz.underlying32 rfl infoM ?_)
  refine (hF.out _).mono ?_
  rintro e w2 ⟨rfl, hB2⟩
  have HW2 := hide (HW1.out.below hB2 (by omega))
  have hz2 := HW2.out.size
  clear hB2
  go_wp2_with fail
  refine (ws16 (n := fl) HW2.out hfl (by omega) (by omega) (by simp [M.p16_len])).mono ?_
  rintro e w3 ⟨rfl, hW3⟩
  have HW3 := hide hW3
  have R3 := hide (hW3.row HR0.out (by omega))
  have y8 : w3.cell? ⟨w.heap.size, 8, none⟩ = some (.slice a l.length c) := R3.out.cell 8
  have y9 : w3.cell? ⟨w.heap.size, 9, none⟩ = some (.slice a9 n9 c9) := R3.out.cell 9
  have y10 : w3.cell? ⟨w.heap.size, 10, none⟩ = some (.slice a10 n10 c10) := R3.out.cell 10
  have y11 : w3.cell? ⟨w.heap.size, 11, none⟩ = some (.slice a11 n11 c11) := R3.out.cell 11
  have y12 : w3.cell? ⟨w.heap.size, 12, none⟩ = some (.bool xe) := R3.out.cell 12
  clear hW3 HW1 HW2 R1
  obtain ⟨ad, HAD⟩ : ∃ ad : Nat, Hid (ad = n11 + xe.toNat) := ⟨_, rfl⟩
  have hcs : (xe = false → (n11 : Int) = (ad : Int)) ∧ (xe = true → (n11 : Int) + 1 = (ad : Int)) := by
    have := HAD.out
    refine ⟨fun e => ?_, fun e => ?_⟩ <;> subst e <;> simp at this <;> omega
  have had : ad < 65536 := by have := HAD.out; omega
  obtain ⟨res, HRES⟩ : ∃ res, Hid (M.wqs (l.map (·.2.2)) (fun _ => none) (hdr i fl l.length n9 n10 ad) = res) := ⟨_, rfl⟩
  have hPH : Hid (∀ k, k < 4 → hk4 i fl [l.length, n9, n10, ad] (k + 1) = hk4 i fl [l.length, n9, n10, ad] k ++ D.p16 ([l.length, n9, n10, ad].getD k 0)) := fun k hk => hk4_succ i fl _ k (by simpa using hk)
  cases xe
  case' false => have hads := hcs.1 rfl
  case' true => have hads := hcs.2 rfl
  all_goals
    clear hcs
    go_wp2
    go_loopw [38] (fun u wr => ∃ k : Nat, k ≤ 4 ∧ u = .int .i64 (k : Int) ∧ Hid (WS (w.heap.size + 1) (w.heap.size + 1 + 1) (w.heap.size + 1) (hk4 i fl [l.length, n9, n10, ad] k) (fun _ => none) 0 X wr)) (fun u _ => 4 - (intOf u).toNat)
    case atStart => exact ⟨0, by omega, rfl, by simpa [hk4] using HW3⟩
    case round =>
      clear HW3 R3 y8 y9 y10 y11 y12
      obtain ⟨k, hk, rfl, HW⟩ := hrel
      have hzr := HW.out.size
      by_cases h4 : k < 4
      · obtain ⟨cn, HCN⟩ : ∃ cn, Hid ([l.length, n9, n10, ad].getD k 0 = cn) := ⟨_, rfl⟩
        have hcn : cn < 65536 := by
          rw [← HCN.out]
          rcases (show k = 0 ∨ k = 1 ∨ k = 2 ∨ k = 3 by omega) with rfl | rfl | rfl | rfl <;> simp <;> omega
        have hix := idx4 l.length n9 n10 ad k cn HCN h4
        have hwc : IntKind.u16.wrap (cn : Int) = (cn : Int) := by rw [IntKind.wrap_u16]; omega
        have hd4 : decide ((k : Int) < 4) = true := by simp; omega
        go_wp2_with fail
        refine (ws16 (n := cn) HW.out hcn (by omega) (by omega) (by have := hk4_len i fl [l.length, n9, n10, ad] k; simp at this; omega)).mono ?_
        rintro e w5 ⟨rfl, hW5⟩
        have h1 := hPH.out k h4
        rw [HCN.out] at h1
        rw [← h1] at hW5
        have HW5 := hide hW5
        clear hW5 h1 hix
        go_wp2
        exact ⟨⟨k + 1, by omega, by go_num, HW5⟩, by simp [intOf]; omega⟩
      · obtain rfl : k = 4 := by omega
        have R4 := hide (HW.out.row HR0.out (by omega))
        have z8 : wr.cell? ⟨w.heap.size, 8, none⟩ = some (.slice a l.length c) := R4.out.cell 8
        have hd4 : decide (((4 : Nat) : Int) < 4) = false := by decide
        have HWH : Hid (WS (w.heap.size + 1) (w.heap.size + 1 + 1) (w.heap.size + 1) (hdr i fl l.length n9 n10 ad) (fun _ => none) 0 X wr) := HW
        go_wp2
        go_loopw [49] (fun u wx => ∃ (k : Nat) (mp : List UInt8 → Option Nat) (out : List UInt8) (K : Nat), k ≤ l.length ∧ u = .int .i64 (k : Int) ∧ Hid (WS (w.heap.size + 1) (w.heap.size + 1 + 1) (w.heap.size + 1) out mp K X wx) ∧ Hid (M.wqs ((l.map (·.2.2)).drop k) mp out = res) ∧ out.length ≤ 12 + 300 * k ∧ K ≤ 1000 * k) (fun u _ => l.length - (intOf u).toNat)
        case atStart => exact ⟨0, _, _, 0, by omega, rfl, HWH, HRES, by simp [hdr, M.p16_len], by omega⟩
        case round =>
          clear HWH HW R4 z8
          obtain ⟨k, mp, out, K, hk, rfl, HW, HRS, ho, hK⟩ := hrel
          have hzx := HW.out.size
          by_cases hlt : k < l.length
          · obtain ⟨x, hx⟩ : ∃ x, l[k]? = some x := ⟨l[k], by simp [hlt]⟩
            have hxm : x ∈ l := List.mem_of_getElem? hx
            have hgx := HG.out x hxm
            have htx := HT.out x hxm
            obtain ⟨g, rfl, hglt, hcell⟩ := HS.out (by omega)
            obtain ⟨q0, q1, q2, q3⟩ := hcell k x hx
            clear hcell
            have hKX := hide HW.out
            obtain ⟨_, _, _, _, hKn⟩ := HW.out
            have hbx : Below w.heap.size w wr := HB0.out.trans (hKn.1.mono (by omega))
            have c0 : wr.cell? ⟨g, k * 3, none⟩ = some (.slice x.1 x.2.2.name.length x.2.1) := (hbx.cell (p := ⟨g, k * 3, none⟩) hglt).trans q0
            have c1 : wr.cell? ⟨g, k * 3 + 1, none⟩ = some (.int .u16 (x.2.2.type : Int)) := (hbx.cell (p := ⟨g, k * 3 + 1, none⟩) hglt).trans q1
            have c2 : wr.cell? ⟨g, k * 3 + 2, none⟩ = some (.int .u16 (x.2.2.cls : Int)) := (hbx.cell (p := ⟨g, k * 3 + 2, none⟩) hglt).trans q2
            have HNS := hide (q3.below hbx (Nat.le_refl _))
            have hdk : decide ((k : Int) < (l.length : Int)) = true := by simp; omega
            have hqt : x.2.2.type < 65536 := htx.1
            have hqc : x.2.2.cls < 65536 := htx.2
            have HDR : Hid (M.wqs ((l.map (·.2.2)).drop (k + 1)) (M.wname x.2.2.name mp out).1 ((M.wname x.2.2.name mp out).2 ++ D.p16 x.2.2.type ++ D.p16 x.2.2.cls) = res) := by
              have h1 : (l.map (·.2.2)).drop k = x.2.2 :: (l.map (·.2.2)).drop (k + 1) := by
                rw [List.drop_eq_getElem_cons (by simpa using hlt)]
                have : l[k] = x := by rw [List.getElem?_eq_getElem hlt] at hx; exact Option.some.inj hx
                simp [this]
              have h2 := HRS.out
              rw [h1] at h2
              exact h2
            have hwl := M.wname_len x.2.2.name mp out
            have hns := hgx.2.2
            obtain ⟨xa, xc, ⟨xn, xt, xcl⟩⟩ := x
            simp only at c0 c1 c2 hqt hqc hwl hns
            have HGX : Hid (M.Good xn) := hgx
            have HNS' : Hid (SlS wr xa xn) := HNS
            clear q0 q1 q2 q3 hgx htx hxm hx HNS hKX hKn
            obtain ⟨nl, HNL⟩ : ∃ nl, Hid (xn.length = nl) := ⟨_, rfl⟩
            rw [HNL.out] at c0
            go_wp2_with fail
            obtain ⟨A, HA⟩ : ∃ A, Hid (wr.alloc (.cells #[.slice xa nl xc, .int .u16 (xt : Int), .int .u16 (xcl : Int)] 28) = A) := ⟨_, rfl⟩
            have HWA := hide (HW.out.alloc (.cells #[.slice xa nl xc, .int .u16 (xt : Int), .int .u16 (xcl : Int)] 28) (by omega)).re
            have HWT := hide (HW.out.alloc (.cells #[.slice xa nl xc, .int .u16 (xt : Int), .int .u16 (xcl : Int)] 28) (by omega))
            have HRQ := hide (RowAt.new wr 28 #[.slice xa nl xc, .int .u16 (xt : Int), .int .u16 (xcl : Int)])
            have HSA : Hid (SlS (wr.alloc (.cells #[.slice xa nl xc, .int .u16 (xt : Int), .int .u16 (xcl : Int)] 28)) xa xn) := HNS'.out.below ((Below.refl _ _).alloc (Nat.le_refl _) _) (Nat.le_refl _)
            rw [HA.out] at HWA HWT HRQ HSA ⊢
            have hW' := HW.out.lt
            refine (wsname HWA.out xn xa nl xc HNL HSA.out HGX.out (by omega) (by omega) (by omega) (by omega)).mono ?_
            rintro e w6 ⟨rfl, K', hK', hW6⟩
            have HW6 := hide hW6
            have R6 := hide (hW6.keeps HRQ.out (by omega) (by omega) (by decide))
            have hz6 := hW6.size
            clear hW6
            have e1 : w6.cell? ⟨wr.heap.size, 1, none⟩ = some (.int .u16 (xt : Int)) := R6.out.cell 1
            go_wp2_with fail
            refine (ws16 (n := xt) HW6.out hqt (by omega) (by omega) (by omega)).mono ?_
            rintro e w7 ⟨rfl, hW7⟩
            have HW7 := hide hW7
            have R7 := hide (hW7.keeps HRQ.out (by omega) (by omega) (by decide))
            clear hW7 e1 R6 HW6
            have e2 : w7.cell? ⟨wr.heap.size, 2, none⟩ = some (.int .u16 (xcl : Int)) := R7.out.cell 2
            go_wp2_with fail
            refine (ws16 (n := xcl) HW7.out hqc (by omega) (by omega) (by simp [M.p16_len]; omega)).mono ?_
            rintro e w8 ⟨rfl, hW8⟩
            have HW8 := hide (HWT.out.tr hW8)
            clear hW8 R7 HW7
            go_wp2
            refine ⟨⟨_, _, _, _, _, _, _, _, _, _, _, _, _, _, _, _, _, _, ?rel, rfl⟩, ?measure⟩
            case rel => exact ⟨k + 1, _, _, K', by omega, by go_num, HW8, HDR, by simp [M.p16_len]; omega, by omega⟩
            case measure => simp [intOf]; omega
          · obtain rfl : k = l.length := by omega
            have hdk : decide ((l.length : Int) < (l.length : Int)) = false := by simp
            have h1 := HRS.out
            rw [List.drop_eq_nil_of_le (by simp)] at h1
            have HKN : Hid (Below w.heap.size w wr) := by
              obtain ⟨_, _, _, _, hKn⟩ := HW.out
              exact HB0.out.trans (hKn.1.mono (by omega))
            have HE : Hid ((mp, out) = res) := h1
            clear h1
            go_wp2
            go_ret
            rw [← HAD.out, HRES.out, ← HE.out]
            refine ⟨rfl, ?_⟩
            exact ⟨K, by omega, by show out.length ≤ _; omega, HKN.out, X, HB0.out, HW.out⟩
end Go.Proofs.YtpgebiopckmgbabGreat
