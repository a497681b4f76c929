/- digest.Owner; names appended to. -/
import Derived.Test.YtgmjppmcfmcmkaaDoorDhs
import Derived.Test.YtgmjppmcfmcmkaaDoorHxR
namespace Go.Proofs.YtgmjppmcfmcmkaaDoor
open Go.RowKit
set_option maxRecDepth 5000 in
theorem wpList_append_S2 {w : World} {ops : Array Oper} {rest : List Oper} {o : Oper} {a : Act} {Q : Exit → Act → World → Prop} (hgd : o.guard = none) (s x : Operand)
    (ho : o.op = .call { callee := .builtin .append, args := #[s, x], argTypes := #[23, 23] }) (base : Nat) (v : Value) (l : List (List UInt8)) (hs : a.eval s = v) (hown : OwnS w base v l)
    (ao : Option Addr) (m c : Nat) (l2 : List (List UInt8)) (hx : a.eval x = .slice ao m c) (hm : l2.length = m) (hsrc : SlS w ao l2) (hnil : ao = none → c = 0) (hbound : l.length + m ≤ 1099511627776) (hbase : base ≤ w.heap.size)
    (h : ∀ v' w', OwnS w' base v' (l ++ l2) → w.grownBy w' v.ownBlock → wpList Tryd.prog ops Q rest (a.put o.dst v') w') : wpList Tryd.prog ops Q (o :: rest) a w := by
  obtain ⟨i0, hi, hz0, hz1, hz2⟩ := info_parts infoS
  cases ao with
  | none =>
    have h0 : l2.length = 0 := by
      rcases Nat.eq_zero_or_pos l2.length with h | h
      · exact h
      · obtain ⟨b, o, e, _⟩ := hsrc h; cases e
    subst hm
    obtain rfl : l2 = [] := List.eq_nil_of_length_eq_zero h0
    obtain rfl := hnil rfl
    refine wpList_append_own_none hgd s x 23 ho base 9 i0 1 Tryd.underlying23 hi v l.length (vs l) hs hown hx ?_
    exact h v w (by rw [List.append_nil]; exact hown) ⟨rfl, rfl, rfl, Nat.le_refl _, fun _ _ _ => rfl⟩
  | some ad =>
    refine wpList_plain hgd fun K hK => ?_
    obtain ⟨v', w', hr, h2, h3⟩ := run_append_S o.type hown ad m c l2 hm hsrc hbound hbase
    unfold Oper.wp execOp
    simp only [ho, resolve, invoke, builtin, Sem.run_bind, Sem.run_pure, Result.andThen_ok, List.map_toArray, List.map_cons, List.map_nil, hs, hx, hr]
    exact hK _ _ (h v' w' h2 h3)
set_option maxRecDepth 5000 in
theorem OwnS.one (w : World) (l : List UInt8) (base : Nat) (hb : base ≤ w.heap.size) : OwnS (w.alloc (.cells #[.string ⟨l.toArray⟩] 9)) base (.slice (some ⟨w.heap.size, 0, none⟩) 1 1) [l] :=
  ⟨rfl, Or.inr ⟨w.heap.size, 1, _, rfl, hb, heap_alloc_last w _, by simp, by unfold maxLen; omega, rfl, rfl⟩⟩
/- the digits of a hash -/
def Dig (n : List (List UInt8)) (salt : List UInt8) (i : Int) (D : List Nat) : Prop := Is 5 32 (G.u8s 20 (G.hsh n salt (G.rds i))) D
set_option maxRecDepth 3000 in
set_option maxHeartbeats 1000000 in
theorem downer_any (n apex : List (List UInt8)) (salt : List UInt8) (i : Int) (ao po so : Option Addr) (len cap pl pc m sc : Nat) (w : World) (hl : Hid (n.length = len)) (hp : Hid (apex.length = pl)) (hm : Hid (salt.length = m)) (hs : SlS w ao n) (hps : SlS w po apex) (hss : SlL w so salt) (hpn : po = none → pc = 0) (hn : so = none → sc = 0) (hW : Hid (Wd n)) (h1 : pl ≤ 1000000) (h2 : m ≤ 1000000) (hT : H.Tab w) :
    Calls Tryd.prog 18 #[.slice ao len cap, .slice po pl pc, .slice so m sc, .int .i64 i] w fun e w' => ∃ v D, Dig n salt i D ∧ e = .returned v ∧ OwnS w' w.heap.size v (B.txt D :: apex) ∧ Below w.heap.size w w' := by
  have HP := hide hps
  have HPN := hide hpn
  have HS := hide hs
  have HD := hide hss
  have HN := hide hn
  clear hps hpn hs hss hn
  go_enter Tryd.func18, Tryd.ntmps18
  go_wp2_with fail
  refine (dhash_any n salt i ao so len cap m sc _ hl hm HS.out HD.out HN.out hW h2 hT).mono ?_
  rintro e w1 ⟨rfl, hB1⟩
  have hz1 := hB1.size
  obtain ⟨F, HF⟩ : ∃ F, Hid (G.hsh n salt (G.rds i) = F) := ⟨_, rfl⟩
  rw [HF.out]
  go_wp2_with (refine H.wpList_store_abs rfl 33 (.tmp 9) (.tmp 13) rfl w1.heap.size _ rfl rfl 33 _ (H.RowAt.new w1 33 _) (by rw [H.rowB_size]; exact info33) (by rw [H.rowB_size]; rfl) (H.rowB_one _ _) w1.heap.size (Nat.le_refl _) ?_; intro w2 hR2 hO2 hz2 hB2)
  have hb2 : Below w.heap.size w w2 := (hB1.alloc hz1 _).trans (hB2.mono (by omega))
  have HS2 := hide (row_sl hR2 (Nat.le_refl 20))
  have hzz2 := hb2.size
  clear hO2 hz2 hB2 hB1
  go_wp2_with fail
  refine (hex32_any (G.u8s 20 F) _ 20 20 _ (G.u8s_len _ _) (by exact HS2.out) (by omega)).mono ?_
  rintro e w3 ⟨D, hD1, hD2, rfl, hB3⟩
  have HDG : Hid (Dig n salt i D) := by
    show Dig n salt i D
    unfold Dig; rw [HF.out]; exact ⟨hD1, hD2⟩
  have hb3 : Below w.heap.size w w3 := hb2.trans (hB3.mono hzz2)
  have hz3 := hb3.size
  generalize hX : B.txt D = X
  have HX := hide hX
  have HO4 := hide (OwnS.one w3 X w.heap.size hz3)
  have HP4 := hide ((HP.out.below hb3 (Nat.le_refl _)).alloc (.cells #[.string ⟨X.toArray⟩] 9))
  have hb4 := hb3.alloc hz3 (.cells #[.string ⟨X.toArray⟩] 9)
  clear hD1 hD2 hB3 hX HS2 hR2 hb2 hb3
  go_wp2_with (at_builtin; refine wpList_append_S2 rfl (.tmp 16) (.tmp 17) rfl w.heap.size _ [X] rfl (by exact HO4.out) po pl pc apex rfl hp.out (by exact HP4.out) HPN.out (by simp; omega) (by simp; omega) ?_; intro v5 w5 hO5 hG5; have hb5 := grown_belowS HO4.out hG5 hb4 (by simp; omega); have HO5 := hide hO5; clear hG5 hO5)
  go_ret
  exact ⟨_, D, HDG.out, rfl, by rw [HX.out]; exact HO5.out, hb5⟩
end Go.Proofs.YtgmjppmcfmcmkaaDoor
