/- The law OnceOpens returns true, for every message, signature and number, and turns nothing that was there. -/
import Derived.Test.YtlpidcgnipgkoaaDoorSns
namespace Go.Proofs.YtlpidcgnipgkoaaDoor
open Go.RowKit
def pad512 (s : List (BitVec 8)) : List (BitVec 8) := s.take 512 ++ List.replicate (512 - (s.take 512).length) 0
set_option maxRecDepth 5000 in
theorem pad512_len (s : List (BitVec 8)) : (pad512 s).length = 512 := by simp [pad512]; omega
set_option maxRecDepth 5000 in
theorem own_row {w : World} {base g n : Nat} {l : List (BitVec 8)} (h : w.ownsRow base 5 1 (.slice (some ⟨g, 0, none⟩) n n) n (vb l)) : RowAt w g 5 (vb l).toArray := by
  rcases h.2 with ⟨h1, _⟩ | ⟨g', cap, cur, e, _, hg, _, _, hs, ht⟩
  · cases h1
  · simp only [Value.slice.injEq, Option.some.injEq, Addr.mk.injEq, and_true, true_and] at e
    obtain ⟨rfl, rfl⟩ := e
    have hc : cur.toList = vb l := by
      rw [← ht, List.take_of_length_le]
      simp; omega
    unfold RowAt
    rw [hg, ← hc]
set_option maxRecDepth 5000 in
theorem row_sl {w : World} {g : Nat} {t : TypeId} {l : List (BitVec 8)} (h : RowAt w g t (vb l).toArray) : SlL w (some ⟨g, 0, none⟩) l := fun _ =>
  ⟨g, 0, rfl, h.lt, fun j hj => by rw [Nat.zero_add, h.cell, List.getElem?_toArray, vb_get l j hj]⟩
set_option maxRecDepth 5000 in
theorem made_zeros : (madeCells (Value.int .u8 0).cells (512 * 1)).toList = vb (List.replicate 512 0) := by kernel_rfl
set_option maxRecDepth 5000 in
theorem splice_pad (s : List (BitVec 8)) : splice (vb (List.replicate 512 0)) 0 (vb (s.take 512)) = vb (pad512 s) := by
  have hr : (List.replicate 512 (0 : BitVec 8)).drop (s.take 512).length = List.replicate (512 - (s.take 512).length) 0 := by rw [List.drop_replicate]
  unfold splice pad512
  rw [List.take_zero, List.nil_append, vb_app, vb_len, Nat.zero_add, ← hr]
  unfold vb
  rw [List.map_drop]
set_option maxRecDepth 5000 in
theorem src_sl {w : World} {ao : Option Addr} {s : List (BitVec 8)} (h : SlL w ao s) (k : Nat) (dp : Option Addr) (hdp : dp = dp) : 0 < (vb (s.take k)).length → dp = dp ∧ ∃ ad, ao = some ad ∧ ∀ j v, (vb (s.take k))[j]? = some v → w.cell? (ad.add j) = some v := fun hn => by
  have hk : (s.take k).length ≤ s.length := by simp; omega
  rw [vb_len] at hn
  obtain ⟨b, o, e, _, hc⟩ := h (by omega)
  refine ⟨hdp, ⟨b, o, none⟩, e, fun j v hv => ?_⟩
  have hj : j < (s.take k).length := by have := (List.getElem?_eq_some_iff.1 hv).1; rwa [vb_len] at this
  rw [vb_get _ j hj] at hv
  rw [Addr.add_mid, hc j (by omega), ← hv]
  have hjk : j < k := by have := List.length_take_le k s; omega
  have : (s.take k).getD j 0 = s.getD j 0 := by
    rw [List.getD_eq_getElem?_getD, List.getD_eq_getElem?_getD, List.getElem?_take, if_pos hjk]
  rw [this]
set_option maxRecDepth 5000 in
theorem opens_long (hKn : Kn) (am ao : Option Addr) (nm cm n cap : Nat) (x : Int) (w : World) (hT : Tab w) (hn : 300 < nm ∨ 600 < n) (hm : nm ≤ 9223372036854775807) (hm2 : n ≤ 9223372036854775807) :
    Calls Tryd.prog 4 #[.slice am nm cm, .slice ao n cap, .int .u16 x] w fun e w' => e = .returned (.bool true) ∧ Below w.heap.size w w' := by
  by_cases h1 : 300 < nm
  · go_enter Tryd.func4, Tryd.ntmps4
    go_wp2_with (go_at_call 7; refine (hKn _ (by exact hT)).mono ?_; rintro e w1 ⟨rfl, hB1⟩)
    go_ret
    exact ⟨rfl, hB1⟩
  · have h2 : 600 < n := by omega
    have h3 : nm ≤ 300 := by omega
    clear hn h1
    go_enter Tryd.func4, Tryd.ntmps4
    go_wp2_with (go_at_call 7; refine (hKn _ (by exact hT)).mono ?_; rintro e w1 ⟨rfl, hB1⟩)
    go_ret
    exact ⟨rfl, hB1⟩
def opT (r : Nat) : Bool := decide (r = 512)
def opF (m s : List (BitVec 8)) (r : Nat) : Nat → BitVec 8 := if r = 512 then O.opened (O.dig m) s else fun _ => 0
set_option maxRecDepth 5000 in
theorem open_r (m s : List (BitVec 8)) (am : Option Addr) (g nm cm r : Nat) (w : World) (hlm : Hid (m.length = nm)) (hsm : SlL w am m) (hcm : nm ≤ cm) (hnm : nm < 1000000000) (hls : Hid (s.length = 512)) (hss : SlL w (some ⟨g, 0, none⟩) s) (hT : Tab w) :
    Calls Tryd.prog 9 #[.slice am nm cm, .slice (some ⟨g, 0, none⟩) r 512] w fun e w' => e = .returned (.tuple #[.agg (rowB 8 (opF m s r)), .bool (opT r)]) ∧ Below w.heap.size w w' := by
  unfold opF
  by_cases h : r = 512
  · subst h
    exact open_any m s am _ nm cm 512 w hlm hsm hcm hnm hls hss (by omega) hT
  · rw [if_neg h, show opT r = false from decide_eq_false h]
    exact open_bad am _ nm cm r 512 w h
set_option maxRecDepth 5000 in
theorem ropen_r (m s : List (BitVec 8)) (am : Option Addr) (g nm cm r : Nat) (w : World) (hlm : Hid (m.length = nm)) (hsm : SlL w am m) (hnilm : am = none → cm = 0) (hnm : nm < 1000000000) (hls : Hid (s.length = 512)) (hss : SlL w (some ⟨g, 0, none⟩) s) :
    Calls Tryd.prog 16 #[.slice am nm cm, .slice (some ⟨g, 0, none⟩) r 512] w fun e w' => e = .returned (.tuple #[.agg (rowB 8 (opF m s r)), .bool (opT r)]) ∧ Below w.heap.size w w' := by
  unfold opF
  by_cases h : r = 512
  · subst h
    exact ropen_any m s am _ nm cm 512 w hlm hsm hnilm hnm hls hss (by omega)
  · rw [if_neg h, show opT r = false from decide_eq_false h]
    exact ropen_bad am _ nm cm r 512 w h
set_option maxRecDepth 3000 in
set_option maxHeartbeats 2000000 in
theorem opens_walk (hKn : Kn) (m s : List (BitVec 8)) (am ao : Option Addr) (nm cm n cap x : Nat) (w : World) (hlm : Hid (m.length = nm)) (hsm : SlL w am m) (hnilm : am = none → cm = 0) (hcm : nm ≤ cm) (hls : Hid (s.length = n)) (hss : SlL w ao s) (hx : x < 65536) (hT : Tab w) (hn1 : nm ≤ 300) (hn2 : n ≤ 600) :
    Calls Tryd.prog 4 #[.slice am nm cm, .slice ao n cap, .int .u16 (x : Int)] w fun e w' => e = .returned (.bool true) ∧ Below w.heap.size w w' := by
  obtain ⟨i0, hi, hz0, hz1, hz2⟩ := info_parts info5
  have hT0 := hT.1
  have HSM := hide hsm
  have HNM := hide hnilm
  have HSS := hide hss
  have HT := hide hT
  have HMIN : Hid ((vb (s.take 512)).length = Nat.min n 512) := by show _ = _; rw [vb_len, List.length_take, hls.out, Nat.min_comm]
  have HFIT : Hid (0 + (vb (s.take 512)).length ≤ (vb (List.replicate 512 0)).length) := by show _ ≤ _; rw [vb_len, vb_len, List.length_take, List.length_replicate]; omega
  have hd1 : decide (300 < (nm : Int)) = false := by simp; omega
  have hd2 : decide (600 < (n : Int)) = false := by simp; omega
  clear hsm hnilm hss
  go_enter Tryd.func4, Tryd.ntmps4
  go_wp2_with (first
    | (go_at_call 7; refine (hKn _ (by exact hT)).mono ?_; rintro e w1 ⟨rfl, hB1⟩; have hz1' := hB1.size; have hs1 := HSS.out.below hB1 (Nat.le_refl _))
    | (at_make; go_must (refine wpList_make_full _ rfl (.const (.int .i64 512)) (.const (.int .i64 512)) 24 rfl w.heap.size 5 i0 (.int .u8 0) 1 Tryd.underlying24 hi hz0 hz1 .i64 .i64 512 512 512 rfl rfl rfl rfl (by rw [hz2]; omega) (by unfold maxLen; omega) (by omega) ?_); intro w2 hO2 hG2; go_must (have hbb : Below w1.heap.size w1 w2 := (Below.refl _ _).grown hG2 (by omega) (fun k hk => by cases hk); rw [made_zeros] at hO2; have hR2 := own_row hO2; have hb2 := hB1.trans (hbb.mono hz1'); have hs2 := hs1.called hbb; have hz2' := hb2.size); clear hG2 hO2 hbb)
    | (refine wpList_copy_splice rfl (.tmp 23) (.tmp 24) 24 24 rfl 5 Tryd.underlying24 size5 _ ao 512 512 n cap rfl rfl w1.heap.size 0 (vb (List.replicate 512 0)) 5 hR2 (vb (s.take 512)) HMIN.out (src_sl hs2 512 _ rfl) HFIT.out (vb_one _) w.heap.size w hb2 (by omega) ?_; intro w3 HR3 hB3; have hS3 := HR3.out; rw [splice_pad] at hS3; have hR3 := row_sl hS3; clear HR3 hs2 hb2 hR2 hS3))
  · obtain ⟨F, HF⟩ : ∃ F, Hid (opF m (pad512 s) (x % 513) = F) := ⟨_, rfl⟩
    obtain ⟨t, Ht⟩ : ∃ t, Hid (opT (x % 513) = t) := ⟨_, rfl⟩
    have hT3 := HT.out.below hB3 hT0
    have hz3 := hB3.size
    have HP := hide (pad512_len s)
    refine (open_r m (pad512 s) am _ nm cm (x % 513) _ hlm (by exact HSM.out.below hB3 (Nat.le_refl _)) hcm (by omega) HP (by exact hR3) (by exact hT3)).mono ?_
    rintro e w4 ⟨rfl, hB4⟩
    rw [HF.out, Ht.out]
    have hb4 := hB3.trans (hB4.mono hz3)
    have hR4 := hR3.called hB4
    have hz4 := hb4.size
    clear hB4 hR3 hT3
    go_wp2_with (refine wpList_store_abs rfl 22 (.tmp 8) (.tmp 38) rfl w4.heap.size (rowB 8 F) rfl rfl 22 _ (RowAt.new w4 22 _) (by rw [rowB_size]; exact info28) (by rw [rowB_size]; rfl) (rowB_one _ _) w4.heap.size (Nat.le_refl _) ?_; intro w5 hQ5 hO5 hz5 hB5; have hbb : Below w4.heap.size w4 w5 := ((Below.refl _ _).alloc (Nat.le_refl _) _).trans hB5; have hb5 := hb4.trans (hbb.mono hz4); have hR5 := hR4.called hbb; have hz5' := hb5.size; have hlt5 := hQ5.lt; clear hO5 hz5 hB5 hbb hb4 hR4)
    refine (ropen_r m (pad512 s) am _ nm cm (x % 513) _ hlm (by exact HSM.out.below hb5 (Nat.le_refl _)) HNM.out (by omega) HP (by exact hR5)).mono ?_
    rintro e w6 ⟨rfl, hB6⟩
    rw [HF.out, Ht.out]
    have hb6 := hb5.trans (hB6.mono hz5')
    have hQ6 := hQ5.below hB6 hlt5
    have hz6 := hb6.size
    have hlt6 := hQ6.lt
    clear hB6 hR5 hb5 hQ5
    go_wp2_with (first
      | (refine wpList_store_abs rfl 22 (.tmp 10) (.tmp 44) rfl w6.heap.size (rowB 8 F) rfl rfl 22 _ (RowAt.new w6 22 _) (by rw [rowB_size]; exact info28) (by rw [rowB_size]; rfl) (rowB_one _ _) w6.heap.size (Nat.le_refl _) ?_; intro w7 hQ7 hO7 hz7 hB7; have hb7 := (hb6.alloc hz6 _).trans (hB7.mono hz6); have hP7 := hO7 _ _ _ (by omega) (hQ6.alloc _); clear hO7 hz7 hB7 hb6 hQ6)
      | (refine wpList_load_rowAt rfl 22 (.tmp 8) rfl w4.heap.size rfl 22 _ _ (by exact hP7) Tryd.underlying22 rfl (by rw [rowB_size]; exact info28) ?_)
      | (refine wpList_load_rowAt rfl 22 (.tmp 10) rfl w6.heap.size rfl 22 _ _ (by exact hQ7) Tryd.underlying22 rfl (by rw [rowB_size]; exact info28) ?_)
      | (refine wpList_eql_B rfl 22 22 (.tmp 46) (.tmp 47) rfl 8 F Tryd.underlying22 guard28 rfl rfl ?_))
    all_goals go_ret
    all_goals exact ⟨by simp, hb7⟩
  · obtain ⟨F, HF⟩ : ∃ F, Hid (opF m (pad512 s) 512 = F) := ⟨_, rfl⟩
    obtain ⟨t, Ht⟩ : ∃ t, Hid (opT 512 = t) := ⟨_, rfl⟩
    have hT3 := HT.out.below hB3 hT0
    have hz3 := hB3.size
    have HP := hide (pad512_len s)
    refine (open_r m (pad512 s) am _ nm cm 512 _ hlm (by exact HSM.out.below hB3 (Nat.le_refl _)) hcm (by omega) HP (by exact hR3) (by exact hT3)).mono ?_
    rintro e w4 ⟨rfl, hB4⟩
    rw [HF.out, Ht.out]
    have hb4 := hB3.trans (hB4.mono hz3)
    have hR4 := hR3.called hB4
    have hz4 := hb4.size
    clear hB4 hR3 hT3
    go_wp2_with (refine wpList_store_abs rfl 22 (.tmp 8) (.tmp 38) rfl w4.heap.size (rowB 8 F) rfl rfl 22 _ (RowAt.new w4 22 _) (by rw [rowB_size]; exact info28) (by rw [rowB_size]; rfl) (rowB_one _ _) w4.heap.size (Nat.le_refl _) ?_; intro w5 hQ5 hO5 hz5 hB5; have hbb : Below w4.heap.size w4 w5 := ((Below.refl _ _).alloc (Nat.le_refl _) _).trans hB5; have hb5 := hb4.trans (hbb.mono hz4); have hR5 := hR4.called hbb; have hz5' := hb5.size; have hlt5 := hQ5.lt; clear hO5 hz5 hB5 hbb hb4 hR4)
    refine (ropen_r m (pad512 s) am _ nm cm 512 _ hlm (by exact HSM.out.below hb5 (Nat.le_refl _)) HNM.out (by omega) HP (by exact hR5)).mono ?_
    rintro e w6 ⟨rfl, hB6⟩
    rw [HF.out, Ht.out]
    have hb6 := hb5.trans (hB6.mono hz5')
    have hQ6 := hQ5.below hB6 hlt5
    have hz6 := hb6.size
    have hlt6 := hQ6.lt
    clear hB6 hR5 hb5 hQ5
    go_wp2_with (first
      | (refine wpList_store_abs rfl 22 (.tmp 10) (.tmp 44) rfl w6.heap.size (rowB 8 F) rfl rfl 22 _ (RowAt.new w6 22 _) (by rw [rowB_size]; exact info28) (by rw [rowB_size]; rfl) (rowB_one _ _) w6.heap.size (Nat.le_refl _) ?_; intro w7 hQ7 hO7 hz7 hB7; have hb7 := (hb6.alloc hz6 _).trans (hB7.mono hz6); have hP7 := hO7 _ _ _ (by omega) (hQ6.alloc _); clear hO7 hz7 hB7 hb6 hQ6)
      | (refine wpList_load_rowAt rfl 22 (.tmp 8) rfl w4.heap.size rfl 22 _ _ (by exact hP7) Tryd.underlying22 rfl (by rw [rowB_size]; exact info28) ?_)
      | (refine wpList_load_rowAt rfl 22 (.tmp 10) rfl w6.heap.size rfl 22 _ _ (by exact hQ7) Tryd.underlying22 rfl (by rw [rowB_size]; exact info28) ?_)
      | (refine wpList_eql_B rfl 22 22 (.tmp 46) (.tmp 47) rfl 8 F Tryd.underlying22 guard28 rfl rfl ?_))
    all_goals go_ret
    all_goals exact ⟨by simp, hb7⟩
end Go.Proofs.YtlpidcgnipgkoaaDoor
