/- signetref7.Secret. -/
import Derived.Test.YtpiehjfoojipiaaDoorRPut
import Derived.Deep.RegionHeld3
namespace Go.Proofs.YtpiehjfoojipiaaDoor
open Go.RowKit
set_option maxRecDepth 5000 in
theorem PInv.allocd {f : Nat → BitVec 8} {w wr : World} (h : PInv f w wr) (o : Obj) : PInv f w (wr.alloc o) := h.next ((Below.refl _ _).alloc h.lt _)
set_option maxRecDepth 5000 in
theorem PInv.called {f : Nat → BitVec 8} {w wr w' : World} (h : PInv f w wr) (hb : Below wr.heap.size wr w') : PInv f w w' := h.next (hb.mono h.lt)
set_option maxRecDepth 5000 in
theorem PInv.stored {f : Nat → BitVec 8} {w wr : World} (h : PInv f w wr) (F : Nat → BitVec 8) : PInv f w (wr.setRow (w.heap.size + 1) (rowB 8 F)) := by
  obtain ⟨c, hr, hs⟩ := h.res
  exact ⟨below_setRow h.below (by omega) _, setRow_other h.seed _ (by omega), _, setRow_same hr _, rowB_size _ _⟩
set_option maxRecDepth 5000 in
theorem SlL.oneAt (w : World) (i b : Nat) (t : TypeId) (h : i < 256) (hb : b = w.heap.size) : SlL (w.alloc (.cells #[.int .u8 (i : Int)] t)) (some ⟨b, 0, none⟩) [BitVec.ofNat 8 i] := by
  subst hb; exact SlL.oneN w i t h
set_option maxRecDepth 5000 in
theorem SlL.drew {w : World} {ao : Option Addr} {l : List (BitVec 8)} (h : SlL w ao l) : SlL w.drew ao l := h.below ((Below.refl w.heap.size w).drew) (Nat.le_refl _)
set_option maxRecDepth 5000 in
theorem SlL.called {w w' : World} {ao : Option Addr} {l : List (BitVec 8)} (h : SlL w ao l) (hb : Below w.heap.size w w') : SlL w' ao l := h.below hb (Nat.le_refl _)
/- the list of the four parts, each where it lies in the end -/
set_option maxRecDepth 5000 in
theorem rsec_parts {f : Nat → BitVec 8} {w W : World} {leaf i v g c b1 b2 G : Nat} (hI : PInv f w (W.alloc (.cells #[.slice (some ⟨w.heap.size, 0, none⟩) 8 8, .slice (some ⟨g, 0, none⟩) 4 c, .slice (some ⟨b1, 0, none⟩) 1 1, .slice (some ⟨b2, 0, none⟩) 1 1] 34)))
    (hc : 4 ≤ c) (hG : G = W.heap.size) (h2 : SlL W (some ⟨g, 0, none⟩) (Sha.len4 leaf)) (h3 : SlL W (some ⟨b1, 0, none⟩) [BitVec.ofNat 8 i]) (h4 : SlL W (some ⟨b2, 0, none⟩) [BitVec.ofNat 8 v]) :
    PartsAt (W.alloc (.cells #[.slice (some ⟨w.heap.size, 0, none⟩) 8 8, .slice (some ⟨g, 0, none⟩) 4 c, .slice (some ⟨b1, 0, none⟩) 1 1, .slice (some ⟨b2, 0, none⟩) 1 1] 34)) (some ⟨G, 0, none⟩) [O.lst f, Sha.len4 leaf, [BitVec.ofNat 8 i], [BitVec.ofNat 8 v]] := fun _ => by
  subst hG
  refine ⟨W.heap.size, 0, rfl, by simp, fun j hj => ?_⟩
  have hj4 : j < 4 := hj
  rcases (show j = 0 ∨ j = 1 ∨ j = 2 ∨ j = 3 by omega) with rfl | rfl | rfl | rfl
  · exact ⟨_, 8, by rw [(RowAt.new W 34 _).cell]; rfl, hI.seed.sl8, by simp, by simp [O.lst]⟩
  · exact ⟨_, c, by rw [(RowAt.new W 34 _).cell]; rfl, h2.alloc _, by simp, hc⟩
  · exact ⟨_, 1, by rw [(RowAt.new W 34 _).cell]; rfl, h3.alloc _, by simp, by simp⟩
  · exact ⟨_, 1, by rw [(RowAt.new W 34 _).cell]; rfl, h4.alloc _, by simp, by simp⟩
set_option maxRecDepth 5000 in
theorem short_rsec (f : Nat → BitVec 8) (leaf i v : Nat) (ao : Option Addr) (w : World) (hs : PartsAt w ao [O.lst f, Sha.len4 leaf, [BitVec.ofNat 8 i], [BitVec.ofNat 8 v]]) :
    Calls Tryd.prog 45 #[.int .u8 1, .slice ao 4 4] w fun e w' => e = .returned (.agg (rowB 8 (O.sec f leaf i v))) ∧ Below w.heap.size w w' :=
  refShort_any 1 _ ao 4 4 w rfl hs (by omega) (four_le f leaf i v)
set_option maxRecDepth 3000 in
set_option maxHeartbeats 2000000 in
theorem rsecret_any (f : Nat → BitVec 8) (leaf i v : Nat) (w : World) (hleaf : leaf < 4294967296) (hi : i < 256) (hv : v < 256) :
    Calls Tryd.prog 34 #[.agg (rowB 8 f), .int .u32 (leaf : Int), .int .u8 (i : Int), .int .u8 (v : Int)] w fun e w' => e = .returned (.agg (rowB 8 (O.sec f leaf i v))) ∧ Below w.heap.size w w' := by
  have hI0 := PInv.first f w
  unfold z8 at hI0
  go_enter Tryd.func34, Tryd.ntmps34
  go_wp2
  go_region_held3 (fun w' => PInv f w w') (first | assumption | exact hI0 | exact PInv.drew (by assumption) | exact PInv.allocd (by assumption) _ | exact PInv.called (by assumption) hB1 | exact hI2 | exact PInv.stored hI2 _) (first
    | ((go_at_call 47; refine (four_any leaf _ hleaf).mono ?_; rintro e w1 ⟨g, c, rfl, hg1, hg2, hS1, hB1⟩))
    | ((go_at_call 45; refine (short_rsec f leaf i v _ _ (rsec_parts (by assumption) hg2 (by simp) (by first | exact hS1 | exact hS1.alloc _ | exact (hS1.alloc _).alloc _) (by first | exact SlL.oneAt _ _ _ _ hi (by simp) | exact (SlL.oneAt _ _ _ _ hi (by simp)).alloc _ | exact SlL.called (by first | exact SlL.drew (SlL.oneAt _ _ _ _ hi (by simp)) | exact SlL.drew ((SlL.oneAt _ _ _ _ hi (by simp)).alloc _)) hB1 | exact (SlL.called (by exact SlL.drew (SlL.oneAt _ _ _ _ hi (by simp))) hB1).alloc _) (by first | exact SlL.oneAt _ _ _ _ hv (by simp) | exact (SlL.oneAt _ _ _ _ hv (by simp)).alloc _ | exact SlL.called (by first | exact SlL.drew (SlL.oneAt _ _ _ _ hv (by simp)) | exact SlL.drew ((SlL.oneAt _ _ _ _ hv (by simp)).alloc _)) hB1 | exact (SlL.called (by exact SlL.drew (SlL.oneAt _ _ _ _ hv (by simp))) hB1).alloc _))).mono ?_; rintro e w2 ⟨rfl, hB2⟩; have hI2 := PInv.called (by assumption) hB2; obtain ⟨cr, hRr, hsr⟩ := hI2.res; have hst := run_store8 hRr hsr (O.sec f leaf i v); clear hB2)))
  all_goals go_wp2
  all_goals exact bodyPost_ret (v := .agg (rowB 8 (O.sec f leaf i v))) (results_rowAt Tryd.results34 _ _ (w.heap.size + 1) 22 _ _ rfl (setRow_same hRr _) Tryd.underlying22 rfl (by rw [rowB_size]; exact info28)) rfl ⟨rfl, below_setRow hI2.below (by omega) _⟩
end Go.Proofs.YtpiehjfoojipiaaDoor
