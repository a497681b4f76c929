/- signetref7.Sign. -/
import Derived.Test.YtpiehjfoojipiaaDoorRPub
import Derived.Deep.RegionLaw
namespace Go.Proofs.YtpiehjfoojipiaaDoor
open Go.RowKit
/- append(bytes, one byte) in a region that draws -/
set_option maxRecDepth 5000 in
theorem run_append_B {w : World} {base : Nat} {v : Value} {l : List (BitVec 8)} (ty : TypeId) (hown : OwnB w base v l) (ad : Addr) (m c : Nat) (l2 : List (BitVec 8)) (hm : l2.length = m) (hsrc : SlL w (some ad) l2) (hbound : l.length + m ≤ 1099511627776) (hbase : base ≤ w.heap.size) :
    ∃ v' w', (Builtin.append_ #[34, 34] ty #[v, .slice (some ad) m c]).run Tryd.prog w = .ok v' w' ∧ OwnB w' base v' (l ++ l2) ∧ w.grownBy w' v.ownBlock := by
  obtain ⟨i0, hi, hz0, hz1, hz2⟩ := info_parts info5
  subst hm
  obtain ⟨v', w', h1, h2, h3, _⟩ := run_append_own (P := Tryd.prog) w base 34 ty 5 i0 (.int .u8 0) 1 1 Tryd.underlying34 hi hz0 hz1 hz2 rfl (by decide) v l.length (vb l) hown ad l2.length c (vb l2) (by rw [vb_len, Nat.mul_one]) (by
    intro j u hu
    have hj : j < l2.length := by have := (List.getElem?_eq_some_iff.1 hu).1; rwa [vb_len] at this
    obtain ⟨b, o', e, _, hc⟩ := hsrc (by omega)
    cases e
    rw [Addr.add_mid, hc j hj, ← vb_get l2 j hj, hu]) (vb_one l2) (by unfold maxLen; omega) (by omega) hbase
  exact ⟨v', w', h1, by unfold OwnB; rw [List.length_append, vb_app]; exact h2, h3⟩
set_option maxRecDepth 5000 in
theorem step_append_B {ops : Array Oper} {o : Oper} {a : Act} {w : World} {K : Act → World → Prop} {Q : Exit → Act → World → Prop} {E : Prop} (hgd : o.guard = none) (s x : Operand)
    (ho : o.op = .call { callee := .builtin .append, args := #[s, x], argTypes := #[34, 34] }) (base : Nat) (v : Value) (l : List (BitVec 8)) (hs : a.eval s = v) (hown : OwnB w base v l)
    (ad : Addr) (m c : Nat) (l2 : List (BitVec 8)) (hx : a.eval x = .slice (some ad) m c) (hm : l2.length = m) (hsrc : SlL w (some ad) l2) (hbound : l.length + m ≤ 1099511627776) (hbase : base ≤ w.heap.size)
    (h : ∀ v' w', OwnB w' base v' (l ++ l2) → w.grownBy w' v.ownBlock → K (a.put o.dst v') w') : if Region.wanted o (yielded ops a.tmps) = true then Oper.wp Tryd.prog o a w K Q else E := by
  have hw : Region.wanted o (yielded ops a.tmps) = true := by simp [Region.wanted, hgd]
  rw [if_pos hw]
  obtain ⟨v', w', hr, h2, h3⟩ := run_append_B o.type hown ad m c l2 hm hsrc hbound hbase
  unfold Oper.wp execOp
  simp only [ho, resolve, invoke, builtin, Sem.run_bind, Sem.run_pure, Result.andThen_ok, List.map_toArray, List.map_cons, List.map_nil, hs, hx, hr]
  exact h v' w' h2 h3
set_option maxRecDepth 3000 in
set_option maxHeartbeats 1000000 in
theorem rsign_any (f : Nat → BitVec 8) (leaf : Nat) (m : List (BitVec 8)) (ao : Option Addr) (n cap : Nat) (w : World) (hl : Hid (m.length = n)) (hs : SlL w ao m) (hnil : ao = none → cap = 0) (hn : n < 1000000000) (hleaf : leaf < 4294967296) :
    Calls Tryd.prog 20 #[.agg (rowB 8 f), .int .u32 (leaf : Int), .slice ao n cap] w fun e w' => ∃ v, e = .returned v ∧ Made w w' v (O.sigL f leaf (O.dig m) 32) ∧ Below w.heap.size w w' := by
  have hI0 := QInv.first f w
  have hlt0 := hI0.lt
  have HS := hide (hs.alloc (.cells (rowB 8 f) 22))
  have HN := hide hnil
  have hd := O.dig_lt m
  clear hs hnil
  go_enter Tryd.func20, Tryd.ntmps20
  go_wp2_with fail
  refine (rdigest_any m ao n cap _ hl (by exact HS.out) HN.out hn).mono ?_
  rintro e w0 ⟨rfl, hB0⟩
  obtain ⟨d, HD⟩ : ∃ d, Hid (O.dig m = d) := ⟨_, rfl⟩
  rw [HD.out] at hd ⊢
  have hI00 := hI0.next (hB0.mono hlt0)
  clear hB0 hI0 hlt0
  go_wp2
  go_loopw [8, 9] (fun v i wr => ∃ k : Nat, k ≤ 32 ∧ i = .int .i64 (k : Int) ∧ OwnB wr (w.heap.size + 1) v (O.sigL f leaf d k) ∧ QInv f w wr) (fun _ i _ => 32 - (intOf i).toNat)
  case atStart => exact ⟨0, by omega, rfl, OwnB.nil _ _, hI00⟩
  case round =>
    clear hI00
    obtain ⟨k, hk, rfl, hO, hI⟩ := hrel
    have hlt1 := hI.lt
    have hlen := O.sigL_len f leaf d k
    by_cases hlt : k < 32
    · have HLE := hide hlen
      clear hlen
      have hb01 := O.bit_le d k
      obtain ⟨b, HBe⟩ : ∃ b, Hid (O.bit d k = b) := ⟨_, rfl⟩
      obtain ⟨b', HBf⟩ : ∃ b', Hid (1 - b = b') := ⟨_, rfl⟩
      have hband := bit_and d k hd
      rw [HBe.out] at hb01 hband
      have hsub := sub_bit b hb01
      rw [HBf.out] at hsub
      have hb02 : b' ≤ 1 := by have := HBf.out; omega
      obtain ⟨c31, hc31⟩ : ∃ c : Nat, c = 31 - k := ⟨_, rfl⟩
      have h0 : IntKind.i64.wrap (31 - (k : Int)) = (c31 : Int) := by rw [IntKind.wrap_i64]; omega
      have hmin : min c31 32 = c31 := by omega
      have hwk : IntKind.u8.wrap (k : Int) = (k : Int) := by rw [IntKind.wrap_u8]; omega
      rw [← hc31] at hband
      clear hc31
      go_wp2_with (refine wpList_load_rowAt rfl 22 (.tmp 3) rfl w.heap.size rfl 22 _ _ (by exact hI.seed) Tryd.underlying22 rfl (by rw [rowB_size]; exact info28) ?_)
      refine (rsecret_any f leaf k b _ hleaf (by omega) (by omega)).mono ?_
      rintro e w2 ⟨rfl, hB2⟩
      have hI2 := hI.next (hB2.mono hlt1)
      have ho2 := hO.below hB2
      have hlt2 := hI2.lt
      clear hB2 hI hO h0 hband hmin
      go_wp2_with (first
        | (refine wpList_store_abs rfl 22 (.tmp 11) (.tmp 31) rfl w2.heap.size (rowB 8 (O.sec f leaf k b)) rfl rfl 22 _ (RowAt.new w2 22 _) (by rw [rowB_size]; exact info28) (by rw [rowB_size]; rfl) (rowB_one _ _) w2.heap.size (Nat.le_refl _) ?_; intro w3 hR3 hO3 hz3 hB3; have hb3 : Below w2.heap.size w2 w3 := ((Below.refl _ _).alloc (Nat.le_refl _) _).trans hB3; have hI3 := hI2.next (hb3.mono hlt2); have ho3 := ho2.below hb3; have hlt3 := hI3.lt; have hz3' : w2.heap.size < w3.heap.size := hR3.lt; clear hO3 hz3 hB3 hb3 ho2 hI2)
        | (refine wpList_load_rowAt rfl 22 (.tmp 3) rfl w.heap.size rfl 22 _ _ (by exact hI3.seed) Tryd.underlying22 rfl (by rw [rowB_size]; exact info28) ?_))
      refine (rsecret_any f leaf k b' _ hleaf (by omega) (by omega)).mono ?_
      rintro e w4 ⟨rfl, hB4⟩
      have hI4 := hI3.next (hB4.mono hlt3)
      have ho4 := ho3.below hB4
      have hR4 := hR3.below hB4 hz3'
      have hz4' : w2.heap.size < w4.heap.size := Nat.lt_of_lt_of_le hz3' hB4.size
      have hlt4 := hI4.lt
      clear hB4 hI3 ho3 hR3
      go_wp2_with (refine wpList_store_abs rfl 22 (.tmp 12) (.tmp 38) rfl w4.heap.size (rowB 8 (O.sec f leaf k b')) rfl rfl 22 _ (RowAt.new w4 22 _) (by rw [rowB_size]; exact info28) (by rw [rowB_size]; rfl) (rowB_one _ _) w4.heap.size (Nat.le_refl _) ?_; intro w5 hR5 hO5 hz5 hB5; have hb5 : Below w4.heap.size w4 w5 := ((Below.refl _ _).alloc (Nat.le_refl _) _).trans hB5; have hI5 := hI4.next (hb5.mono hlt4); have ho5 := ho4.below hb5; have hQ5 := hR4.below hb5 hz4'; have hlt5 := hI5.lt; have hz5' : w2.heap.size < w5.heap.size := (Nat.lt_of_lt_of_le hz4' hb5.size); clear hO5 hz5 hB5 hb5 ho4 hI4 hR4)
      refine (rlock_any (O.lst (O.sec f leaf k b')) _ 8 8 _ (by exact O.lst_len _) (by exact hR5.sl8) (by simp) (by omega) (by omega)).mono ?_
      rintro e w6 ⟨rfl, hB6⟩
      have hI6 := hI5.next (hB6.mono hlt5)
      have ho6 := ho5.below hB6
      have hR6 := hQ5.below hB6 hz5'
      have hz6' : w2.heap.size < w6.heap.size := Nat.lt_of_lt_of_le hz5' hB6.size
      have hlt6 := hI6.lt
      clear hB6 hI5 ho5 hQ5 hR5
      go_wp2_with (refine wpList_store_abs rfl 22 (.tmp 13) (.tmp 40) rfl w6.heap.size (rowB 8 (O.lock (O.lst (O.sec f leaf k b')))) rfl rfl 22 _ (RowAt.new w6 22 _) (by rw [rowB_size]; exact info28) (by rw [rowB_size]; rfl) (rowB_one _ _) w6.heap.size (Nat.le_refl _) ?_; intro w7 hR7 hO7 hz7 hB7; have hb7 : Below w6.heap.size w6 w7 := ((Below.refl _ _).alloc (Nat.le_refl _) _).trans hB7; have hI7 := hI6.next (hb7.mono hlt6); have ho7 := ho6.below hb7; have hQ7 := hR6.below hb7 hz6'; have hlt7 := hI7.lt; clear hO7 hz7 hB7 hb7 ho6 hI6 hR6)
      have HO7 := hide ho7
      have HI7 := hide hI7
      have HR7 := hide hR7
      have HQ7 := hide hQ7
      clear ho7 hI7 hR7 hQ7
      go_region_law (first
        | ((refine step_append_B rfl (.tmp 41) (.tmp 42) rfl (w.heap.size + 1) _ (O.sigL f leaf d k) (by rfl) (by exact HO7.out) ⟨w2.heap.size, 0, none⟩ 8 8 (O.lst (O.sec f leaf k b)) (by rfl) (O.lst_len _) (by exact HQ7.out.sl8) (by rw [HLE.out]; omega) (by exact hlt7) ?_; intro v8 w8 ho8 hG8; have HR8 := hide (row_grown (w := w7.drew) HO7.out HR7.out (by decide) hG8); have HI8 := hide (HI7.out.drew.next (grown_next (w := w7.drew) HO7.out hG8 hlt7)); have HO8 := hide ho8; have hlt8 := HI8.out.lt; clear hG8 ho8))
        | ((refine step_append_B rfl (.tmp 43) (.tmp 44) rfl (w.heap.size + 1) _ _ (by rfl) (by exact HO8.out) ⟨w6.heap.size, 0, none⟩ 8 8 (O.lst (O.lock (O.lst (O.sec f leaf k b')))) (by rfl) (O.lst_len _) (by exact HR8.out.sl8) (by simp [O.lst_len, HLE.out]; omega) (by exact hlt8) ?_; intro v9 w9 ho9 hG9; have HI9 := hide (HI8.out.next (grown_next HO8.out hG9 hlt8)); have HO9 := hide ho9; clear hG9 ho9)))
      all_goals go_wp2
      refine ⟨⟨k + 1, by omega, by go_num, ?_, HI9.out⟩, by simp [intOf]; omega⟩
      rw [O.sigL_succ]
      unfold O.sgn
      rw [← List.append_assoc, HBe.out, HBf.out]; exact HO9.out
    · obtain rfl : k = 32 := by omega
      obtain ⟨L, HLL⟩ : ∃ L, Hid (O.sigL f leaf d 32 = L) := ⟨_, rfl⟩
      rw [HLL.out] at hO hlen
      obtain ⟨g, c, rfl, hg1, hg2, hg3, hg4, _⟩ := hO.form (by omega)
      have hsl := hO.sl
      have hB9 := hI.below
      clear hO hg3 hlen hI
      go_wp2
      go_ret
      refine ⟨_, rfl, ?_, hB9⟩
      rw [HD.out, HLL.out]
      exact ⟨g, c, rfl, by omega, hg2, hsl⟩
end Go.Proofs.YtpiehjfoojipiaaDoor
