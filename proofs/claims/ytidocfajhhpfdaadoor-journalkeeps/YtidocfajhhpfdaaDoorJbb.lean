/- signethelp.Blobs of the same lists. -/
import Derived.Test.YtidocfajhhpfdaaDoorJcm
namespace Go.Proofs.YtidocfajhhpfdaaDoor
open Go.RowKit
set_option maxRecDepth 5000 in
theorem SlBs.drewN {w : World} {ao : Option Addr} {L : List (List UInt8)} (h : SlBs w ao L) (n : Nat) : SlBs (w.drewN n) ao L := h.below (below_drewN (Below.refl w.heap.size w) n) (Nat.le_refl _)
set_option maxRecDepth 5000 in
theorem OwnBs.sl {w : World} {base : Nat} {a : Option Addr} {n c : Nat} {L : List (List UInt8)} (h : OwnBs w base (.slice a n c) L) : SlBs w a L := fun hl => by
  obtain ⟨vs, h1, h2⟩ := h
  rcases h1.2 with ⟨e, e2⟩ | ⟨g, cap, cur, e, h3, h4, h5, h6, h7, h8⟩
  · omega
  · injection e with e1 _ _
    subst e1
    refine ⟨g, 0, rfl, (Array.getElem?_eq_some_iff.1 h4).1, fun j hj => ?_⟩
    obtain ⟨a, c', h9, h10, h11⟩ := h2 j hj
    refine ⟨a, c', ?_, h10.sl, h11⟩
    rw [Nat.zero_add, cell_of_row _ _ _ _ _ _ h4]
    have h12 : vs[j]? = _ := h9
    rw [← h8, Nat.mul_one, List.getElem?_take, if_pos hj] at h12
    simpa using h12
set_option maxHeartbeats 2000000 in
set_option maxRecDepth 5000 in
theorem blobs_same (w : World) (ao ao' : Option Addr) (c c' n n' : Nat) (L : List (List UInt8)) (hn : L.length = n) (hn' : L.length = n') (hl : n ≤ 1000000000) (hs : SlBs w ao L) (hs' : SlBs w ao' L) :
    Calls Tryd.prog 17 #[.slice ao n c, .slice ao' n' c'] w fun e w' => e = .returned (.bool true) ∧ ∃ m, w' = w.drewN m := by
  subst hn
  subst hn'
  have HS := hide hs
  have HS' := hide hs'
  clear hs hs'
  go_enter Tryd.func17, Tryd.ntmps17
  go_wp2
  go_loopw [5] (fun i wr => (∃ m, wr = w.drewN m) ∧ ∃ k : Nat, k ≤ L.length ∧ i = .int .i64 (k : Int)) (fun i wr => L.length - (intOf i).toNat)
  case atStart => exact ⟨⟨0, rfl⟩, 0, by omega, rfl⟩
  case round =>
    obtain ⟨⟨m, hm⟩, k, hk, rfl⟩ := hrel
    have S1 := HS.out.drewN m
    have S2 := HS'.out.drewN m
    rw [← hm] at S1 S2
    have HM := hide hm
    clear hm
    by_cases hlt : k < L.length
    · have hlt' : (k : Int) < (L.length : Int) := by omega
      obtain ⟨b1, o1, e1, hb1, hc1⟩ := S1 (by omega)
      obtain ⟨b2, o2, e2, hb2, hc2⟩ := S2 (by omega)
      obtain ⟨a1, d1, x1, y1, _⟩ := hc1 k hlt
      obtain ⟨a2, d2, x2, y2, _⟩ := hc2 k hlt
      subst e1
      subst e2
      have hby : ∀ W j, W = wr.drewN j → Calls Tryd.prog 36 #[.slice a1 (L.getD k []).length d1, .slice a2 (L.getD k []).length d2] W fun e w' => e = .returned (.bool true) ∧ w' = W := fun W j hW => by
        have := hBytes_any W a1 a2 _ _ d1 d2 (L.getD k []) (L.getD k []) rfl rfl (by rw [hW]; exact y1) (by rw [hW]; exact y2)
        rw [decide_eq_true rfl] at this; exact this
      generalize L.getD k [] = r at *
      clear hc1 hc2 y1 y2 S1 S2
      go_wp2
      go_region_held3 (fun w' => w'.cell? ⟨b1, o1 + k, none⟩ = some (.slice a1 r.length d1) ∧ w'.cell? ⟨b2, o2 + k, none⟩ = some (.slice a2 r.length d2)) (first | exact ⟨x1, x2⟩ | fail) (first
        | (go_at_call 36; refine (hby _ _ rfl).mono ?_; rintro e w' ⟨rfl, hw⟩; rw [hw]; clear hw w'))
      all_goals go_wp2
      all_goals go_roundw
      case rel => exact ⟨⟨m + 1, by rw [HM.out]; rfl⟩, k + 1, by omega, by go_num⟩
      case measure => simp [intOf]; omega
    · have hlt' : ¬ (k : Int) < (L.length : Int) := by omega
      go_wp2
      go_ret
      exact ⟨rfl, m, HM.out⟩
end Go.Proofs.YtidocfajhhpfdaaDoor
