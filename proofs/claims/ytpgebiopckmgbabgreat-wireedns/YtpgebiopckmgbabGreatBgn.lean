/- wire.begun: the header and the questions. -/
import Derived.Test.YtpgebiopckmgbabGreatWnn
import Derived.Test.YtpgebiopckmgbabGreatFlg
namespace Go.Proofs.YtpgebiopckmgbabGreat
open Go.RowKit
namespace M
def wqs : List M.Q → (List UInt8 → Option Nat) → List UInt8 → (List UInt8 → Option Nat) × List UInt8
  | [], mp, out => (mp, out)
  | q :: r, mp, out => wqs r (wname q.name mp out).1 ((wname q.name mp out).2 ++ D.p16 q.type ++ D.p16 q.cls)
set_option maxRecDepth 5000 in
theorem p16_len (n : Nat) : (D.p16 n).length = 2 := rfl
set_option maxRecDepth 5000 in
theorem wname_len : ∀ (n : List (List UInt8)) (mp : List UInt8 → Option Nat) (out : List UInt8), (wname n mp out).2.length ≤ out.length + N.size n + 1
  | [], mp, out => by simp [wname, N.size]
  | l :: r, mp, out => by
    unfold wname
    split
    · simp only [List.length_append, p16_len, N.size, List.map_cons, List.sum_cons]; omega
    · have h := wname_len r (if out.length < 16384 then wput mp (N.wire (l :: r)) out.length else mp) (out ++ UInt8.ofNat l.length :: l)
      simp only [List.length_append, List.length_cons, N.size, List.map_cons, List.sum_cons] at h ⊢
      omega
set_option maxRecDepth 5000 in
theorem good_len {n : List (List UInt8)} (h : Good n) : n.length ≤ 127 := by
  have h1 : ∀ (q : List (List UInt8)), [] ∉ q → 2 * q.length ≤ (q.map (fun l => l.length + 1)).sum := by
    intro q
    induction q with
    | nil => simp
    | cons a q ih =>
      intro hq
      have h2 := ih (fun h' => hq (by simp [h']))
      have h3 : a ≠ [] := fun e => hq (by simp [e])
      have h4 : 0 < a.length := List.length_pos_iff.2 h3
      simp only [List.length_cons, List.map_cons, List.sum_cons]; omega
  have h2 := h1 n h.1
  have h3 := h.2.2
  unfold N.size at h3
  omega
end M
/- a writer, what it wrote and its map -/
def WS (base W b : Nat) (out : List UInt8) (mp : List UInt8 → Option Nat) (K : Nat) (w0 wr : World) : Prop := ∃ v, RowAt wr W 60 #[v, .map (some b)] ∧ OwnB wr base v out ∧ MapAt wr b mp K ∧ KpN base W b w0 wr
set_option maxRecDepth 5000 in
theorem ws16 {base W b K n : Nat} {out : List UInt8} {mp : List UInt8 → Option Nat} {w0 wr : World} (h : WS base W b out mp K w0 wr) (hn : n < 65536) (hb : base ≤ W) (hne : b ≠ W) (hl : out.length ≤ 900000) :
    Calls Tryz.prog 27 #[.pointer (some ⟨W, 0, none⟩), .int .u16 (n : Int)] wr fun e w' => e = .returned (.tuple #[]) ∧ WS base W b (out ++ D.p16 n) mp K w0 w' := by
  obtain ⟨v, hR, hO, hM, hK⟩ := h
  refine (wr16_any base W n v _ out wr hn hR hO hb (by omega)).mono ?_
  rintro e w' ⟨rfl, v', hR', hO', hK'⟩
  exact ⟨rfl, v', hR', hO', hM.kpW hK' hne, hK.trans hK'.kpN⟩
set_option maxRecDepth 5000 in
theorem wsname {base W b K : Nat} {out : List UInt8} {mp : List UInt8 → Option Nat} {w0 wr : World} (h : WS base W b out mp K w0 wr) (n : List (List UInt8)) (ao : Option Addr) (len cap : Nat) (hl : Hid (n.length = len)) (hs : SlS wr ao n) (hg : M.Good n) (hbW : base ≤ W) (hbb : base ≤ b) (hout : out.length ≤ 900000) (hK : K ≤ 900000) :
    Calls Tryz.prog 29 #[.pointer (some ⟨W, 0, none⟩), .slice ao len cap] wr fun e w' => e = .returned (.tuple #[]) ∧ ∃ K', K' ≤ K + 1000 ∧ WS base W b (M.wname n mp out).2 (M.wname n mp out).1 K' w0 w' := by
  obtain ⟨v, hR, hO, hM, hKp⟩ := h
  have h127 := M.good_len hg
  refine (wrname_any base W b K v out mp n ao len cap wr hl hs hg.2.1 (by have := hl.out; omega) hR hO hM hbW hbb hout hK).mono ?_
  rintro e w' ⟨rfl, v', K', hR', hO', hM', hKK, hK'⟩
  exact ⟨rfl, K', hKK, v', hR', hO', hM', hKp.trans hK'⟩
set_option maxRecDepth 5000 in
theorem WS.row {base W b K g t : Nat} {out : List UInt8} {mp : List UInt8 → Option Nat} {w0 wr : World} {c : Array Value} (h : WS base W b out mp K w0 wr) (hr : RowAt w0 g t c) (hg : g < base) : RowAt wr g t c := by
  obtain ⟨v, _, _, _, hK⟩ := h
  exact hr.below hK.1 hg
set_option maxRecDepth 5000 in
theorem WS.size {base W b K : Nat} {out : List UInt8} {mp : List UInt8 → Option Nat} {w0 wr : World} (h : WS base W b out mp K w0 wr) : w0.heap.size ≤ wr.heap.size := by
  obtain ⟨v, _, _, _, hK⟩ := h
  exact hK.1.size
set_option maxRecDepth 5000 in
theorem WS.alloc {base W b K : Nat} {out : List UInt8} {mp : List UInt8 → Option Nat} {w0 wr : World} (h : WS base W b out mp K w0 wr) (x : Obj) (hb : base ≤ wr.heap.size) : WS base W b out mp K w0 (wr.alloc x) := by
  obtain ⟨v, hR, hO, hM, hK⟩ := h
  have hb' : Below wr.heap.size wr (wr.alloc x) := (Below.refl _ _).alloc (Nat.le_refl _) x
  exact ⟨v, hR.alloc x, hO.alloc x, hM.heap (hb'.block b hM.lt), hK.trans (KpN.of hb' hb)⟩
set_option maxRecDepth 5000 in
theorem WS.below {base W b K : Nat} {out : List UInt8} {mp : List UInt8 → Option Nat} {w0 wr w' : World} (h : WS base W b out mp K w0 wr) (hb' : Below wr.heap.size wr w') (hb : base ≤ wr.heap.size) : WS base W b out mp K w0 w' := by
  obtain ⟨v, hR, hO, hM, hK⟩ := h
  exact ⟨v, hR.below hb' hR.lt, hO.below hb', hM.heap (hb'.block b hM.lt), hK.trans (KpN.of hb' hb)⟩
set_option maxRecDepth 5000 in
theorem WS.lt {base W b K : Nat} {out : List UInt8} {mp : List UInt8 → Option Nat} {w0 wr : World} (h : WS base W b out mp K w0 wr) : W < wr.heap.size := by
  obtain ⟨v, hR, _⟩ := h; exact hR.lt
def hdr (i fl nq n9 n10 n11 : Nat) : List UInt8 := D.p16 i ++ D.p16 fl ++ D.p16 nq ++ D.p16 n9 ++ D.p16 n10 ++ D.p16 n11
end Go.Proofs.YtpgebiopckmgbabGreat
