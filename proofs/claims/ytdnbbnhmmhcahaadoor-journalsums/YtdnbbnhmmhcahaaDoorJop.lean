/- openFrames of any whole bytes; what Open does. -/
import Derived.Test.YtdnbbnhmmhcahaaDoorJat
namespace Go.Proofs.YtdnbbnhmmhcahaaDoor
open Go.RowKit
set_option maxHeartbeats 1000000 in
set_option maxRecDepth 5000 in
theorem openFrames_nil (w : World) (blanks : Nat) (hN : blanks ≤ 1000000000) :
    Calls Tryd.prog 32 #[.slice none 0 0, .int .i64 (blanks : Int)] w fun e w' => ∃ v, e = .returned v ∧ OwnBs w' w.heap.size v (List.replicate blanks []) ∧ Below w.heap.size w w' := by
  have HV : Hid (w.ownsRow w.heap.size 22 1 (.slice none 0 0) 0 []) := World.ownsRow_nil _ _ _ _
  go_enter Tryd.func32, Tryd.ntmps32
  go_wp2
  go_loopw [0, 5] (fun v q wr => wr = w ∧ v = .slice none 0 0 ∧ q = .slice none 0 0) (fun v q wr => 0)
  case atStart => exact ⟨rfl, rfl, rfl⟩
  case round =>
    obtain ⟨hw, rfl, rfl⟩ := hrel
    rw [hw]
    clear hw
    go_wp2_with (at_builtin; refine wpList_append_makeG rfl (.tmp 28) (.tmp 29) 32 22 3 .i64 (.slice none 0 0) 24 rfl Tryd.underlying32 Tryd.underlying3 infoBs2 (by omega) rfl rfl w.heap.size _ 0 [] rfl HV.out blanks rfl (by omega) (by omega) (Nat.le_refl _) ?_; intro v4 w4 O4 G4; have b4 := hide (owns_below HV.out G4 (Below.refl _ _) (Nat.le_refl _)); have HO4 := hide O4; clear O4 G4)
    go_ret
    refine ⟨_, rfl, ⟨_, ?_, each_nils _ _⟩, b4.out⟩
    have := HO4.out
    rw [Nat.zero_add, List.nil_append] at this
    rw [List.length_replicate]; exact this
set_option maxRecDepth 5000 in
theorem openFrames_at (w : World) (ht : Tab w) (ao : Option Addr) (n c blanks : Nat) (fs : List (Nat × List UInt8)) (hn : (J.enc fs).length = n) (hk : ∀ x ∈ fs, x.1 < 4294967296) (hl : n ≤ 1000000000) (hc : n ≤ c) (hs : SlL w ao (J.enc fs))
    (h0 : ao = none → n = 0 ∧ c = 0) (h1 : ∀ ad, ao = some ad → ∃ g, ad = ⟨g, 0, none⟩) (hN : (J.dec fs blanks).length ≤ 1000000000) :
    Calls Tryd.prog 32 #[.slice ao n c, .int .i64 (blanks : Int)] w fun e w' => ∃ v, e = .returned v ∧ OwnBs w' w.heap.size v (J.dec fs blanks) ∧ Below w.heap.size w w' := by
  cases ao with
  | none =>
    obtain ⟨rfl, rfl⟩ := h0 rfl
    have hf : fs = [] := by
      cases fs with
      | nil => rfl
      | cons x fs => rw [J.enc_cons, List.length_append, J.fr_len] at hn; omega
    subst hf
    refine openFrames_nil w blanks ?_
    simpa [J.dec] using hN
  | some ad =>
    obtain ⟨g, rfl⟩ := h1 ad rfl
    have := openFrames_ok w ht g 0 c blanks fs (J.enc fs) rfl hk (by omega) (by omega) hs hN
    rw [hn] at this; exact this
def jrow (D : Nat) (h : J.H) (torn : Bool) : Array Value := #[.pointer (some ⟨D, 0, none⟩), .int .u64 (h.c : Int), .int .i64 (h.a : Int), .int .i64 (h.u : Int), .int .i64 (h.b : Int), .bool torn]
end Go.Proofs.YtdnbbnhmmhcahaaDoor
