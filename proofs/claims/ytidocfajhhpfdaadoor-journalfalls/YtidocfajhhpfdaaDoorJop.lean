/- openFrames of any whole bytes; what Open does. -/
import Derived.Test.YtidocfajhhpfdaaDoorJat
namespace Go.Proofs.YtidocfajhhpfdaaDoor
open Go.RowKit
set_option maxHeartbeats 1000000 in
set_option maxRecDepth 5000 in
theorem openFrames_nil (w : World) (n : Nat) (hn : n ≤ 1048576) :
    Calls Tryd.prog 32 #[.slice none 0 0, .int .i64 (n : Int)] w fun e w' => ∃ v, e = .returned v ∧ OwnBs w' w.heap.size v (J.dec [] n) ∧ Below w.heap.size w w' := by
  have hmk := make_bs n (by omega)
  have M0 : Hid (Mad (w.alloc (.cells (List.replicate n (.slice none 0 0)).toArray 22)) w.heap.size n (J.dec [] n)) := ⟨J.dec_len [] n, _, List.length_replicate, RowAt.new w _ _, each_nils _ n⟩
  have B0 : Hid (Below w.heap.size w (w.alloc (.cells (List.replicate n (.slice none 0 0)).toArray 22))) := (Below.refl _ w).alloc (Nat.le_refl _) _
  generalize (Obj.cells (List.replicate n (.slice none 0 0)).toArray 22) = ob at hmk M0 B0
  go_enter Tryd.func32, Tryd.ntmps32
  go_wp2
  go_loopw [0, 6] (fun v q wr => wr = w.alloc ob ∧ v = .slice none 0 0 ∧ q = .int .u64 0) (fun v q wr => 0)
  case atStart => exact ⟨rfl, rfl, rfl⟩
  case round =>
    obtain ⟨hw, rfl, rfl⟩ := hrel
    rw [hw]
    clear hw
    go_wp2
    go_ret
    exact ⟨_, rfl, M0.out.own (Nat.le_refl _) (by omega), B0.out⟩
set_option maxRecDepth 5000 in
theorem openFrames_at (w : World) (ht : Tab w) (ao : Option Addr) (m c n : Nat) (fs : List (Nat × List UInt8)) (hm : (J.enc fs).length = m) (hk : J.Ri 0 fs n) (hn : n ≤ 1048576) (hl : m ≤ 1000000000) (hc : m ≤ c) (hs : SlL w ao (J.enc fs))
    (h0 : ao = none → m = 0 ∧ c = 0) (h1 : ∀ ad, ao = some ad → ∃ g, ad = ⟨g, 0, none⟩) :
    Calls Tryd.prog 32 #[.slice ao m c, .int .i64 (n : Int)] w fun e w' => ∃ v, e = .returned v ∧ OwnBs w' w.heap.size v (J.dec fs n) ∧ Below w.heap.size w w' := by
  cases ao with
  | none =>
    obtain ⟨rfl, rfl⟩ := h0 rfl
    have hf : fs = [] := by
      cases fs with
      | nil => rfl
      | cons x fs => rw [J.enc_cons, List.length_append, J.fr_len] at hm; omega
    subst hf
    exact openFrames_nil w n hn
  | some ad =>
    obtain ⟨g, rfl⟩ := h1 ad rfl
    have := openFrames_ok w ht g 0 c n fs (J.enc fs) rfl hk hn (by omega) (by omega) hs
    rw [hm] at this; exact this
def jrow (D : Nat) (h : J.H) (torn : Bool) : Array Value := #[.pointer (some ⟨D, 0, none⟩), .int .u64 (h.c : Int), .int .i64 (h.a : Int), .int .i64 (h.u : Int), .int .i64 (h.b : Int), .bool torn]
end Go.Proofs.YtidocfajhhpfdaaDoor
