/- signetref7.Owner. -/
import Derived.Test.YtgmjppmcfmcmkaaDoorRhs
namespace Go.Proofs.YtgmjppmcfmcmkaaDoor
open Go.RowKit
set_option maxRecDepth 3000 in
set_option maxHeartbeats 1000000 in
theorem rowner_any (n apex : List (List UInt8)) (salt : List UInt8) (i : Int) (D : List Nat) (ao po so : Option Addr) (len cap pl pc m sc : Nat) (w : World) (hD : Hid (Dig n salt i D)) (hi : i ≤ 9223372036854775807) (hl : Hid (n.length = len)) (hp : Hid (apex.length = pl)) (hm : Hid (salt.length = m)) (hs : SlS w ao n) (hps : SlS w po apex) (hss : SlL w so salt) (hpn : po = none → pc = 0) (hn : so = none → sc = 0) (hW : Hid (Wd n)) (h1 : pl ≤ 1000000) (h2 : m ≤ 1000000) :
    Calls Tryd.prog 19 #[.slice ao len cap, .slice po pl pc, .slice so m sc, .int .i64 i] w fun e w' => ∃ v, e = .returned v ∧ OwnS w' w.heap.size v (B.txt D :: apex) ∧ Below w.heap.size w w' := by
  have HP := hide hps
  have HPN := hide hpn
  have HS := hide hs
  have HD := hide hss
  have HN := hide hn
  clear hps hpn hs hss hn
  go_enter Tryd.func19, Tryd.ntmps19
  go_wp2_with fail
  refine (rhash_any n salt i ao so len cap m sc _ hi hl hm HS.out HD.out HN.out hW h2).mono ?_
  rintro e w1 ⟨rfl, hB1⟩
  have hz1 := hB1.size
  obtain ⟨F, HF⟩ : ∃ F, Hid (G.hsh n salt (G.rds i) = F) := ⟨_, rfl⟩
  rw [HF.out]
  go_wp2_with (refine H.wpList_store_abs rfl 33 (.tmp 9) (.tmp 13) rfl w1.heap.size _ rfl rfl 33 _ (H.RowAt.new w1 33 _) (by rw [H.rowB_size]; exact info33) (by rw [H.rowB_size]; rfl) (H.rowB_one _ _) w1.heap.size (Nat.le_refl _) ?_; intro w2 hR2 hO2 hz2 hB2)
  have hb2 : Below w.heap.size w w2 := (hB1.alloc hz1 _).trans (hB2.mono (by omega))
  have HS2 := hide (row_sl hR2 (Nat.le_refl 20))
  have hzz2 := hb2.size
  clear hO2 hz2 hB2 hB1
  go_wp2_with fail
  refine (ref32_is (G.u8s 20 F) D _ 20 20 _ (G.u8s_len _ _) (by exact HS2.out) (by omega) (by have h := hD.out; unfold Dig at h; rw [HF.out] at h; exact h)).mono ?_
  rintro e w3 ⟨rfl, hB3⟩
  have hb3 : Below w.heap.size w w3 := hb2.trans (hB3.mono hzz2)
  have hz3 := hb3.size
  generalize hX : B.txt D = X
  have HX := hide hX
  have HO4 := hide (OwnS.one w3 X w.heap.size hz3)
  have HP4 := hide ((HP.out.below hb3 (Nat.le_refl _)).alloc (.cells #[.string ⟨X.toArray⟩] 9))
  have hb4 := hb3.alloc hz3 (.cells #[.string ⟨X.toArray⟩] 9)
  clear hB3 hX HS2 hR2 hb2 hb3
  go_wp2_with (at_builtin; refine wpList_append_S2 rfl (.tmp 16) (.tmp 17) rfl w.heap.size _ [X] rfl (by exact HO4.out) po pl pc apex rfl hp.out (by exact HP4.out) HPN.out (by simp; omega) (by simp; omega) ?_; intro v5 w5 hO5 hG5; have hb5 := grown_belowS HO4.out hG5 hb4 (by simp; omega); have HO5 := hide hO5; clear hG5 hO5)
  go_ret
  exact ⟨_, rfl, by first | exact HO5.out | (rw [HX.out]; exact HO5.out), hb5⟩
end Go.Proofs.YtgmjppmcfmcmkaaDoor
