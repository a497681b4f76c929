/- onetime.lock: the lock of whatever bytes. -/
import Derived.Test.YtlpidcgnipgkoaaDoorOnce
import Derived.Test.YtlpidcgnipgkoaaDoorKnownH
namespace Go.Proofs.YtlpidcgnipgkoaaDoor
open Go.RowKit
def z8 : Array Value := #[.int .u8 0, .int .u8 0, .int .u8 0, .int .u8 0, .int .u8 0, .int .u8 0, .int .u8 0, .int .u8 0]
set_option maxRecDepth 3000 in
set_option maxHeartbeats 1000000 in
theorem lock_any (p : List (BitVec 8)) (ao : Option Addr) (n cap : Nat) (w : World) (hl : Hid (p.length = n)) (hs : SlL w ao p) (hnil : ao = none → cap = 0) (hc : n ≤ cap) (hn : n ≤ 1000000) (hT : Tab w) :
    Calls Tryd.prog 20 #[.slice ao n cap] w fun e w' => e = .returned (.agg (rowB 8 (O.lock p))) ∧ Below w.heap.size w w' := by
  have hT0 := hT.1
  have hp := parts_one (w.alloc (.cells z8 22)) ao p cap 24 (hs.alloc _) hnil (by rw [hl.out]; exact hc)
  rw [hl.out, show (w.alloc (.cells z8 22)).heap.size = w.heap.size + 1 by simp] at hp
  have hb : Below w.heap.size w ((w.alloc (.cells z8 22)).alloc (.cells #[.slice ao n cap] 24)) := ((Below.refl _ _).alloc (Nat.le_refl _) _).alloc (by simp) _
  have hR := (RowAt.new w 22 z8).alloc (.cells #[.slice ao n cap] 24)
  have HL : Hid (∀ q ∈ [p], q.length ≤ 1000000) := fun q hq => by
    have := hl.out
    simp only [List.mem_singleton] at hq; subst hq; omega
  have hTb := hT.below hb hT0
  clear hs hnil
  go_enter Tryd.func20, Tryd.ntmps20
  go_wp2_with fail
  refine (short_any 2 [p] _ _ _ _ (by exact rfl) (by exact hp) (by omega) HL.out (by exact hTb)).mono ?_
  rintro e w1 ⟨rfl, hB1⟩
  have hb1 := hb.trans (hB1.mono (by simp; omega))
  have hR1 : RowAt w1 w.heap.size 22 z8 := RowAt.below hR hB1 (by simp; omega)
  clear hB1 hb hp hR hTb
  go_wp2_with (refine wpList_store_rowAt rfl 22 (.tmp 2) (.tmp 5) rfl w.heap.size _ rfl rfl 22 z8 hR1 (by rw [rowB_size]; exact info28) (by rw [rowB_size]; rfl) (rowB_one _ _) ?_)
  exact bodyPost_ret (v := .agg (rowB 8 (O.lock p))) (results_rowAt Tryd.results20 _ _ w.heap.size 22 _ _ rfl (setRow_same hR1 _) Tryd.underlying22 rfl (by rw [rowB_size]; exact info28)) rfl ⟨rfl, below_setRow hb1 (Nat.le_refl _) _⟩
end Go.Proofs.YtlpidcgnipgkoaaDoor
