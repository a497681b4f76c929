/- digest.Ds. -/
import Derived.Test.YtgmjppmcfmcmkaaDoorDpr
namespace Go.Proofs.YtgmjppmcfmcmkaaDoor
open Go.RowKit
set_option maxRecDepth 5000 in
theorem OwnB.lit (w : World) (l : List UInt8) (A : Array Value) (base : Nat) (k : Nat) (hk : l.length = k) (hA : A = (vb l).toArray) (hb : base ≤ w.heap.size) (hl : l.length ≤ 1000) : OwnB (w.alloc (.cells A 5)) base (.slice (some ⟨w.heap.size, 0, none⟩) k k) l := by
  subst hk hA
  exact ⟨by simp [vb], Or.inr ⟨w.heap.size, l.length, _, rfl, hb, heap_alloc_last w _, Nat.le_refl _, by unfold maxLen; omega, by simp [vb], by simp [vb, List.take_of_length_le]⟩⟩
def Wd (n : List (List UInt8)) : Prop := N.Small n ∧ (N.wire (N.lowN n)).length ≤ 1000000
set_option maxRecDepth 3000 in
set_option maxHeartbeats 1000000 in
theorem dds_any (n : List (List UInt8)) (data : List UInt8) (ao bo : Option Addr) (len cap m c : Nat) (w : World) (hl : Hid (n.length = len)) (hm : Hid (data.length = m)) (hs : SlS w ao n) (hd : SlL w bo data) (hn : bo = none → c = 0) (hW : Hid (Wd n)) (h2 : m ≤ 60000) (hT : H.Tab w) :
    Calls Tryd.prog 12 #[.slice ao len cap, .slice bo m c] w fun e w' => ∃ v, e = .returned v ∧ OwnB w' w.heap.size v (G.ds n data) ∧ Below w.heap.size w w' := by
  have HS := hide hs
  have HD := hide hd
  have HN := hide hn
  have hT0 := hT.1
  clear hs hd hn
  go_enter Tryd.func12, Tryd.ntmps12
  go_wp2_with fail
  refine (dtag_any data bo m c _ hm HD.out h2).mono ?_
  rintro e w' ⟨rfl, hw⟩
  rw [hw]; clear hw w'
  have htl := G.tag_lt data
  obtain ⟨T, HTT⟩ : ∃ T, Hid (G.tag data = T) := ⟨_, rfl⟩
  rw [HTT.out] at htl ⊢
  go_wp2_with fail
  refine (small_any n ao len cap _ hl HS.out hW.out.1).mono ?_
  rintro e w1 ⟨v1, rfl, hO1, hB1⟩
  obtain ⟨co, cc, rfl, hs1, hn1, hle1, _⟩ := hO1.open
  have hz1 := hB1.size
  have hw1 := hW.out.2
  generalize hX : N.wire (N.lowN n) = X at hle1 hs1 hw1 ⊢
  have HX := hide hX
  generalize hL : X.length = L at hle1 hw1 ⊢
  have HL := hide hL
  have HS1 := hide hs1
  have HD1 := hide (HD.out.below hB1 (Nat.le_refl _))
  have HN1 := hide hn1
  clear hO1 hX hL hs1 hn1
  go_wp2_with fail
  refine (concat2_any X data co bo L m cc c w1.heap.size _ HL hm (by exact H.RowAt.new _ _ _) (by exact HS1.out.alloc _) (by exact HD1.out.alloc _) HN1.out HN.out hw1 (by omega)).mono ?_
  rintro e w2 ⟨v2, rfl, hO2, hB2⟩
  have hb2 : Below w.heap.size w w2 := (hB1.alloc hz1 _).trans (hB2.mono (by simp; omega))
  have hz2 : w1.heap.size + 1 ≤ w2.heap.size := by have := hB2.size; simp at this; omega
  obtain ⟨do', dc, rfl, hs2, hn2, hle2, _⟩ := hO2.open
  have hLL : (X ++ data).length ≤ L + m := by rw [List.length_append, HL.out, hm.out]; exact Nat.le_refl _
  generalize hL2 : (X ++ data).length = L2 at hle2 hLL ⊢
  have HL2 := hide hL2
  have HS2 := hide hs2
  have hT2 := hT.below hb2 hT0
  clear hO2 hB2 hL2 hs2 HS1 HD1 hn2
  go_wp2_with fail
  refine (dsum_any (X ++ data) do' L2 dc _ HL2 HS2.out hle2 (by omega) hT2).mono ?_
  rintro e w3 ⟨rfl, hB3⟩
  have hb3 : Below w.heap.size w w3 := hb2.trans (hB3.mono (by omega))
  have hz3 := hB3.size
  clear hB3 hb2 HS2
  go_wp2_with (refine H.wpList_store_abs rfl 42 (.tmp 6) (.tmp 15) rfl w3.heap.size _ rfl rfl 42 _ (H.RowAt.new w3 42 _) (by rw [H.rowB_size]; exact H.info24) (by rw [H.rowB_size]; rfl) (H.rowB_one _ _) w3.heap.size (Nat.le_refl _) ?_; intro w4 hR4 hO4 hz4 hB4)
  have hz4' : w3.heap.size + 1 ≤ w4.heap.size := by rw [hz4]; simp
  have hb4 : Below w.heap.size w w4 := (hb3.alloc (by omega) _).trans (hB4.mono (by omega))
  have HS4 := hide (row_sl hR4 (Nat.le_refl 32))
  have HD4 := hide (HD.out.below hb4 (Nat.le_refl _))
  clear hO4 hz4 hB4 hb3
  go_wp2_with fail
  refine (alg_any data bo m c _ hm HD4.out h2).mono ?_
  rintro e w' ⟨rfl, hw⟩
  rw [hw]; clear hw w'
  obtain ⟨A, HA⟩ : ∃ A, Hid (data.getD 3 0 = A) := ⟨_, rfl⟩
  rw [HA.out]
  have e1 : ((UInt8.ofNat (T / 256)).toNat : Int) = (T : Int) / 256 := by rw [UInt8.toNat_ofNat']; omega
  have e2 : ((UInt8.ofNat T).toNat : Int) = (T : Int) % 256 := by rw [UInt8.toNat_ofNat']; omega
  have hO5 := OwnB.lit w4 [UInt8.ofNat (T / 256), UInt8.ofNat T, A, 2] #[.int .u8 ((T : Int) / 256), .int .u8 ((T : Int) % 256), .int .u8 (A.toNat : Int), .int .u8 2] w.heap.size 4 rfl (by simp only [vb, List.map_cons, List.map_nil, e1, e2]; rfl) (by omega) (by simp)
  have HO5 := hide hO5
  have HS5 := hide (HS4.out.alloc (.cells #[.int .u8 ((T : Int) / 256), .int .u8 ((T : Int) % 256), .int .u8 (A.toNat : Int), .int .u8 2] 5))
  have hb5 := hb4.alloc (by omega) (.cells #[.int .u8 ((T : Int) / 256), .int .u8 ((T : Int) % 256), .int .u8 (A.toNat : Int), .int .u8 2] 5)
  clear hO5 e1 e2 HS4
  go_wp2_with (at_builtin; refine wpList_append_B rfl (.tmp 24) (.tmp 25) rfl w.heap.size _ [UInt8.ofNat (T / 256), UInt8.ofNat T, A, 2] rfl (by exact HO5.out) _ 32 32 (G.u8s 32 (G.sum (X ++ data))) rfl (G.u8s_len _ _) (by exact HS5.out) (by simp) (by simp) (by simp; omega) ?_; intro v6 w6 hO6 hG6; have hb6 := grown_below HO5.out hG6 hb5 (by simp; omega); have HO6 := hide hO6; clear hG6 hO6)
  go_ret
  refine ⟨_, rfl, ?_, hb6⟩
  unfold G.ds
  rw [HTT.out, HA.out, HX.out]
  exact HO6.out
end Go.Proofs.YtgmjppmcfmcmkaaDoor
