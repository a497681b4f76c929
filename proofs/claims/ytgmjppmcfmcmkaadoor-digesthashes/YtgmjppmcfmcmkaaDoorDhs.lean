/- digest.Hash. -/
import Derived.Test.YtgmjppmcfmcmkaaDoorDds
namespace Go.Proofs.YtgmjppmcfmcmkaaDoor
open Go.RowKit
structure HInv (w wr : World) (g : Nat) (f : Nat → BitVec 8) : Prop where
  below : Below w.heap.size w wr
  res : ∃ c, H.RowAt wr w.heap.size 33 c ∧ c.size = 20
  row : H.RowAt wr g 33 (H.rowB 20 f)
  lt : w.heap.size < g
set_option maxRecDepth 5000 in
theorem HInv.next {w wr w' : World} {g : Nat} {f : Nat → BitVec 8} (h : HInv w wr g f) (hb : Below wr.heap.size wr w') : HInv w w' g f := by
  obtain ⟨c, hc, hz⟩ := h.res
  have h1 := h.row.lt
  have h2 := h.lt
  exact ⟨h.below.trans (hb.mono (by omega)), ⟨c, hc.below hb (by omega), hz⟩, h.row.below hb h1, h2⟩
set_option maxRecDepth 5000 in
theorem HInv.put {w wr : World} {g : Nat} {f : Nat → BitVec 8} (h : HInv w wr g f) (f' : Nat → BitVec 8) : HInv w (wr.setRow g (H.rowB 20 f')) g f' := by
  obtain ⟨c, hc, hz⟩ := h.res
  have h2 := h.lt
  exact ⟨H.below_setRow h.below (by omega) _, ⟨c, H.setRow_other hc _ (by omega), hz⟩, H.setRow_same h.row _, h2⟩
set_option maxRecDepth 3000 in
set_option maxHeartbeats 1000000 in
theorem dhash_any (n : List (List UInt8)) (salt : List UInt8) (i : Int) (ao so : Option Addr) (len cap m sc : Nat) (w : World) (hl : Hid (n.length = len)) (hm : Hid (salt.length = m)) (hs : SlS w ao n) (hss : SlL w so salt) (hn : so = none → sc = 0) (hW : Hid (Wd n)) (h2 : m ≤ 1000000) (hT : H.Tab w) :
    Calls Tryd.prog 15 #[.slice ao len cap, .slice so m sc, .int .i64 i] w fun e w' => e = .returned (.agg (H.rowB 20 (G.hsh n salt (G.rds i)))) ∧ Below w.heap.size w w' := by
  have HS := hide hs
  have HD := hide hss
  have HN := hide hn
  have hT0 := hT.1
  clear hs hss hn
  go_enter Tryd.func15, Tryd.ntmps15
  go_wp2_with fail
  refine (small_any n ao len cap _ hl (by exact HS.out.alloc _) hW.out.1).mono ?_
  rintro e w1 ⟨v1, rfl, hO1, hB1⟩
  have hb1 : Below w.heap.size w w1 := ((Below.refl w.heap.size w).alloc (Nat.le_refl _) _).trans (hB1.mono (by simp))
  have hr1 : ∃ c, H.RowAt w1 w.heap.size 33 c ∧ c.size = 20 := ⟨_, (H.RowAt.new w 33 _).below hB1 (by simp), rfl⟩
  have hz1 : w.heap.size + 1 ≤ w1.heap.size := by have := hB1.size; simp at this; omega
  obtain ⟨co, cc, rfl, hs1, hn1, hle1, _⟩ := hO1.open
  have hw1 := hW.out.2
  have HH0 : Hid (G.hsh n salt 0 = G.sum (N.wire (N.lowN n) ++ salt)) := rfl
  generalize hX : N.wire (N.lowN n) = X at hle1 hs1 hw1 HH0 ⊢
  generalize hL : X.length = L at hle1 hw1 ⊢
  have HL := hide hL
  have HS1 := hide hs1
  have HD1 := hide (HD.out.below hb1 (Nat.le_refl _))
  have HN1 := hide hn1
  have hT1 := hT.below hb1 hT0
  clear hO1 hX hL hs1 hn1 hB1
  go_wp2_with fail
  refine (salted_any X salt co so L m cc sc _ HL hm HS1.out HD1.out HN1.out HN.out hw1 h2 hT1).mono ?_
  rintro e w2 ⟨rfl, hB2⟩
  rw [← HH0.out]
  have hb2 : Below w.heap.size w w2 := hb1.trans (hB2.mono (by omega))
  have hz2 := hB2.size
  obtain ⟨c0, hr1, hc0⟩ := hr1
  have hr2 := hr1.below hB2 (by omega)
  clear hB2 hr1 hb1 HS1 HD1 HN1
  go_wp2_with (first
    | (refine H.wpList_store_abs rfl 33 (.tmp 7) (.tmp 11) rfl w2.heap.size _ rfl rfl 33 _ (H.RowAt.new w2 33 _) (by rw [H.rowB_size]; exact info33) (by rw [H.rowB_size]; rfl) (H.rowB_one _ _) w2.heap.size (Nat.le_refl _) ?_; intro w3 hR3 hO3 hz3 hB3)
    | (go_at_call 29; refine (rounds_any i _).mono ?_; rintro e w' ⟨rfl, hw⟩; rw [hw]; clear hw w'))
  have hI3 : HInv w w3 w2.heap.size (G.hsh n salt 0) := ⟨(hb2.alloc (by omega) _).trans (hB3.mono (by omega)), ⟨c0, hO3 _ _ _ (by omega) (hr2.alloc _), hc0⟩, hR3, by omega⟩
  have hz3' : w2.heap.size + 1 ≤ w3.heap.size := by rw [hz3]; simp
  have hR50 := rds_le i
  generalize hR : G.rds i = R at hR50 ⊢
  generalize w2.heap.size = g at hI3
  clear hO3 hz3 hB3 hb2 hr2 hR3 hc0 hT1 hz3' hz2 hz1
  go_loopw [14] (fun z wr => ∃ k : Nat, z = .int .i64 (k : Int) ∧ k ≤ R ∧ HInv w wr g (G.hsh n salt k)) (fun z _ => R - (intOf z).toNat)
  case atStart => exact ⟨0, rfl, by omega, hI3⟩
  case round =>
    clear hI3
    obtain ⟨k, rfl, hk, hI⟩ := hrel
    have hgl := hI.row.lt
    by_cases hlt : k < R
    · have HS4 := hide (row_sl hI.row (Nat.le_refl 20))
      have HD4 := hide (HD.out.below hI.below (Nat.le_refl _))
      have hT4 := hT.below hI.below hT0
      have HH1 : Hid (G.hsh n salt (k + 1) = G.sum (G.u8s 20 (G.hsh n salt k) ++ salt)) := rfl
      go_wp2_with fail
      refine (salted_any (G.u8s 20 (G.hsh n salt k)) salt _ so 20 m 20 sc _ (G.u8s_len _ _) hm (by exact HS4.out) HD4.out (by simp) HN.out (by omega) h2 hT4).mono ?_
      rintro e w4 ⟨rfl, hB4⟩
      have hI4 := hI.next hB4
      rw [← HH1.out]
      have hr4 := hI4.row
      clear hB4 hI HS4 HD4 hT4
      go_wp2_with (refine H.wpList_store_rowAt rfl 33 (.tmp 7) (.tmp 18) rfl g _ rfl rfl 33 _ hr4 (by rw [H.rowB_size]; exact info33) (by rw [H.rowB_size, H.rowB_size]) (H.rowB_one _ _) ?_)
      go_roundw
      case rel => exact ⟨k + 1, by go_num, by omega, hI4.put _⟩
      case measure => simp [intOf]; omega
    · obtain rfl : k = R := by omega
      obtain ⟨cr, hRr, hsr⟩ := hI.res
      have hR6 := hI.row
      have hB9 := hI.below
      clear hI
      go_wp2_with (first
        | (refine H.wpList_load_rowAt rfl 33 (.tmp 7) rfl g rfl 33 _ _ hR6 Tryd.underlying33 rfl (by rw [H.rowB_size]; exact info33) ?_)
        | (refine H.wpList_store_rowAt rfl 33 (.tmp 6) (.tmp 20) rfl w.heap.size _ rfl rfl 33 cr hRr (by rw [H.rowB_size]; exact info33) (by rw [H.rowB_size]; exact hsr) (H.rowB_one _ _) ?_))
      exact bodyPost_ret (v := .agg (H.rowB 20 (G.hsh n salt k))) (H.results_rowAt Tryd.results15 _ _ w.heap.size 33 _ _ rfl (H.setRow_same hRr _) Tryd.underlying33 rfl (by rw [H.rowB_size]; exact info33)) rfl ⟨by rw [hR], H.below_setRow hB9 (Nat.le_refl _) _⟩
end Go.Proofs.YtgmjppmcfmcmkaaDoor
