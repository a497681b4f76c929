/- The reference's OpenBitmap (texts of stage 4, at this seat). -/
import Derived.Test.YtdldaphkiphpnaaGreatTyB
import Derived.Laws.IdiomStrings
import Derived.Laws.BytesArg
import Derived.Sort.WalkA
/- stage4/RefC -/
/- The reference: Clean. -/
namespace Go.Proofs.YtdldaphkiphpnaaGreat
open Go.RowKit
namespace T
set_option maxRecDepth 5000 in
theorem ins_rising (out : List UInt16) (x : UInt16) (k : Nat) (hk : k ≤ out.length) (hr : Rising out) (h1 : ∀ j, j < k → (out.getD j 0).toNat < x.toNat) (h2 : k = out.length ∨ x.toNat < (out.getD k 0).toNat) :
    Rising (out.take k ++ ([x] ++ out.drop k)) := by
  have hsplit : out.take k ++ out.drop k = out := List.take_append_drop k out
  have hr2 : (out.take k ++ out.drop k).Pairwise (fun x y => x.toNat < y.toNat) := by rw [hsplit]; exact hr
  obtain ⟨p1, p2, p3⟩ := List.pairwise_append.1 hr2
  have q1 : ∀ y ∈ out.take k, y.toNat < x.toNat := fun y hy => by
    obtain ⟨j, hj, rfl⟩ := List.getElem_of_mem hy
    rw [List.length_take] at hj
    have := h1 j (by omega)
    rw [List.getD_eq_getElem?_getD, List.getElem?_eq_getElem (by omega)] at this
    rw [List.getElem_take]; exact this
  have q2 : ∀ y ∈ out.drop k, x.toNat < y.toNat := fun y hy => by
    rcases h2 with h2 | h2
    · rw [h2, List.drop_length] at hy; simp at hy
    · by_cases hkl : k < out.length
      · have e : out.drop k = out.getD k 0 :: out.drop (k + 1) := by
          rw [List.getD_eq_getElem?_getD, List.getElem?_eq_getElem hkl]; exact List.drop_eq_getElem_cons hkl
        rw [e] at hy p2
        rcases List.mem_cons.1 hy with rfl | hy
        · exact h2
        · have := (List.pairwise_cons.1 p2).1 y hy; omega
      · rw [List.drop_eq_nil_of_le (by omega)] at hy; simp at hy
  unfold Rising
  rw [List.pairwise_append]
  refine ⟨p1, ?_, fun a ha b hb => ?_⟩
  · rw [List.singleton_append, List.pairwise_cons]; exact ⟨q2, p2⟩
  · rcases List.mem_append.1 hb with hb | hb
    · obtain rfl : b = x := by simpa using hb
      exact q1 a ha
    · exact p3 a ha b hb
set_option maxRecDepth 5000 in
theorem ins_mem (out : List UInt16) (x y : UInt16) (k : Nat) : y ∈ out.take k ++ ([x] ++ out.drop k) ↔ y = x ∨ y ∈ out := by
  have hsplit : y ∈ out ↔ y ∈ out.take k ∨ y ∈ out.drop k := by
    rw [← List.mem_append, List.take_append_drop]
  rw [List.mem_append, List.mem_append, hsplit]
  simp only [List.mem_singleton]
  constructor
  · rintro (h | h | h)
    · exact Or.inr (Or.inl h)
    · exact Or.inl h
    · exact Or.inr (Or.inr h)
  · rintro (h | h | h)
    · exact Or.inr (Or.inl h)
    · exact Or.inl h
    · exact Or.inr (Or.inr h)
set_option maxRecDepth 5000 in
theorem mem_next (l : List UInt16) (i : Nat) (hi : i < l.length) (y : UInt16) : y ∈ l.take (i + 1) ↔ y = l.getD i 0 ∨ y ∈ l.take i := by
  rw [take_nextH l i hi, List.mem_append, List.mem_singleton]; exact Or.comm
end T
/- append to a slice that has no room: a new block -/
set_option maxRecDepth 5000 in
theorem run_append_full {w : World} (base : Nat) (ty : TypeId) (b : Addr) (l : List UInt16) (n : Nat) (hn : l.length = n) (hs : SlH w (some b) l) (ad : Addr) (m c : Nat) (l2 : List UInt16) (hm : l2.length = m) (h0 : 0 < m) (hsrc : SlH w (some ad) l2) (hbound : n + m ≤ 1099511627776) (hbase : base ≤ w.heap.size) :
    ∃ v' w', (Builtin.append_ #[51, 51] ty #[.slice (some b) n n, .slice (some ad) m c]).run Tryz.prog w = .ok v' w' ∧ OwnH w' base v' (l ++ l2) ∧ w.grownBy w' none := by
  obtain ⟨i0, hi, hz0, hz1, hz2⟩ := info_parts infoH
  subst hm hn
  have hnews : ∀ (q : List UInt16) (a : Addr), SlH w (some a) q → ∀ j u, (vh q)[j]? = some u → w.cell? (a.add j) = some u := fun q a hq j u hu => by
    have hj : j < q.length := by have := (List.getElem?_eq_some_iff.1 hu).1; rwa [vh_len] at this
    obtain ⟨b', o', e, _, hc⟩ := hq (by omega)
    cases e
    rw [Addr.add_mid, hc j hj, ← vh_get q j hj, hu]
  have hr := run_append_grow (P := Tryz.prog) w 51 ty 36 i0 (.int .u16 0) Tryz.underlying51 hi hz0 b l.length l.length (vh l) (by rw [vh_len, hz1, Nat.mul_one]) (hnews l b hs) ad l2.length c (vh l2) (by rw [vh_len, hz1, Nat.mul_one]) (hnews l2 ad hsrc) (by omega) (by omega) (growslice_fits (by omega) (by rw [hz2]; omega))
  refine ⟨_, _, hr, ?_, ?_⟩
  · have hge := grownCap_ge w (l.length + l2.length) l.length 36
    have hle := grownCap_le_maxLen w (l.length + l2.length) l.length 36 (by unfold maxLen; omega)
    generalize grownCap w (l.length + l2.length) l.length 36 = cp at hge hle
    unfold OwnH
    rw [List.length_append]
    refine ⟨by rw [vh_len, List.length_append, Nat.mul_one], Or.inr ⟨w.heap.size, cp, _, rfl, hbase, heap_alloc_last w.drew _, hge, hle, ?_, ?_⟩⟩
    · simp [size_zeroCells, vh, Value.cells]; omega
    · rw [Nat.mul_one, vh_app]
      simp only [Array.toList_append]
      rw [List.take_append_of_le_length (by simp [vh])]
      exact List.take_of_length_le (by simp [vh])
  · exact ⟨rfl, rfl, rfl, ((below_drew (Below.refl w.heap.size w)).alloc (Nat.le_refl _) _).size, fun k hk _ => ((below_drew (Below.refl w.heap.size w)).alloc (Nat.le_refl _) _).block k hk⟩
set_option maxRecDepth 5000 in
theorem step_append_full {ops : Array Oper} {o : Oper} {a : Act} {w : World} {K : Act → World → Prop} {Q : Exit → Act → World → Prop} {E : Prop} (hgd : o.guard = none) (s x : Operand)
    (ho : o.op = .call { callee := .builtin .append, args := #[s, x], argTypes := #[51, 51] }) (base : Nat) (b : Addr) (l : List UInt16) (n : Nat) (hs : a.eval s = .slice (some b) n n) (hn : l.length = n) (hS : SlH w (some b) l)
    (ad : Addr) (m c : Nat) (l2 : List UInt16) (hx : a.eval x = .slice (some ad) m c) (hm : l2.length = m) (h0 : 0 < m) (hsrc : SlH w (some ad) l2) (hbound : n + m ≤ 1099511627776) (hbase : base ≤ w.heap.size)
    (h : ∀ v' w', OwnH w' base v' (l ++ l2) → w.grownBy w' none → K (a.put o.dst v') w') : if Region.wanted o (yielded ops a.tmps) = true then Oper.wp Tryz.prog o a w K Q else E := by
  have hw : Region.wanted o (yielded ops a.tmps) = true := by simp [Region.wanted, hgd]
  rw [if_pos hw]
  obtain ⟨v', w', hr, h2, h3⟩ := run_append_full base o.type b l n hn hS ad m c l2 hm h0 hsrc hbound hbase
  unfold Oper.wp execOp
  simp only [ho, resolve, invoke, builtin, Sem.run_bind, Sem.run_pure, Result.andThen_ok, List.map_toArray, List.map_cons, List.map_nil, hs, hx, hr]
  exact h v' w' h2 h3
set_option maxRecDepth 5000 in
theorem OwnH.drewN {w : World} {B : Nat} {v : Value} {q : List UInt16} (h : OwnH w B v q) (n : Nat) : OwnH (w.drewN n) B v q := h
set_option maxRecDepth 5000 in
theorem below_drewN {B : Nat} {w w' : World} (h : Below B w w') (n : Nat) : Below B w (w'.drewN n) := ⟨h.os, h.tape, h.output, h.size, h.block⟩
set_option maxRecDepth 5000 in
theorem step_append_Hnone {ops : Array Oper} {o : Oper} {a : Act} {w : World} {K : Act → World → Prop} {Q : Exit → Act → World → Prop} {E : Prop} (hgd : o.guard = none) (s x : Operand)
    (ho : o.op = .call { callee := .builtin .append, args := #[s, x], argTypes := #[51, 51] }) (base : Nat) (v : Value) (l : List UInt16) (hs : a.eval s = v) (hown : OwnH w base v l)
    (hx : a.eval x = .slice none 0 0) (h : K (a.put o.dst v) w) : if Region.wanted o (yielded ops a.tmps) = true then Oper.wp Tryz.prog o a w K Q else E := by
  have hw : Region.wanted o (yielded ops a.tmps) = true := by simp [Region.wanted, hgd]
  rw [if_pos hw]
  obtain ⟨i0, hi, hz0, hz1, hz2⟩ := info_parts infoH
  have hrun := run_append_owned_none (P := Tryz.prog) (w := w) base 51 o.type 36 i0 1 Tryz.underlying51 hi v l.length (vh l) hown
  unfold Oper.wp
  simp [execOp, ho, resolve, invoke, builtin, hs, hx, hrun, Result.andThen]
  exact h
end Go.Proofs.YtdldaphkiphpnaaGreat

/- stage4/RefO -/
/- The reference: OpenBitmap. -/
namespace Go.Proofs.YtdldaphkiphpnaaGreat
open Go.RowKit
set_option maxRecDepth 10000 in
set_option maxHeartbeats 12800000 in
theorem ropen_any (l : List UInt8) (ao : Option Addr) (len cap : Nat) (w : World) (hl : Hid (l.length = len)) (hs : SlL w ao l) (hlen : len ≤ 100000) :
    Calls Tryz.prog 131 #[.slice ao len cap] w fun e w' => Below w.heap.size w w' ∧ ((∃ m v, T.opn 0 l = some m ∧ e = .returned (.tuple #[v, .int .i64 0]) ∧ OwnH w' w.heap.size v m) ∨ (T.opn 0 l = none ∧ e = .returned (.tuple #[.slice none 0 0, .int .i64 40]))) := by
  have HS := hide hs
  clear hs
  go_enter Tryz.func131, Tryz.ntmps131
  go_wp2
  go_loopw [4, 5, 6] (fun v4 v5 v6 W => ∃ (i least : Nat) (m : List UInt16), v6 = .int .i64 (i : Int) ∧ i ≤ len ∧ v5 = .int .i64 ((least : Int) - 1) ∧ least ≤ 256 ∧ OwnH W w.heap.size v4 m ∧ Below w.heap.size w W ∧ m.length ≤ 8 * i ∧ T.opn 0 l = (T.opn least (l.drop i)).map (m ++ ·)) (fun _ _ v6 _ => len - (intOf v6).toNat)
  case atStart => exact ⟨0, 0, [], rfl, by omega, rfl, by omega, OwnH.nil _ _, Below.refl _ _, by simp, by rw [List.drop_zero]; cases T.opn 0 l <;> simp⟩
  case round =>
    obtain ⟨i, least, m, rfl, hi, rfl, hle, hO, hB, hml, hE⟩ := hrel
    have hz := hB.size
    have HE := hide hE
    have HO := hide hO
    clear hE hO
    by_cases hil : i < len
    · obtain ⟨b, o, rfl, hb, hc⟩ := HS.out (by rw [hl.out]; omega)
      rw [hl.out] at hc
      have hci := fun j (hj : j < len) => (hB.cell (p := ⟨b, o + j, none⟩) hb).trans (hc j hj)
      have HC := hide hc
      clear hc
      by_cases h2 : len < i + 2
      · have e2 : (len : Int) < (i : Int) + 2 := by omega
        have hone : ∃ x, l.drop i = [x] := by
          have hdl : (l.drop i).length = 1 := by rw [List.length_drop, hl.out]; omega
          exact List.length_eq_one_iff.1 hdl
        obtain ⟨x, hx⟩ := hone
        rw [hx, T.opn_one] at HE
        clear hci
        go_wp2
        go_ret2
        exact ⟨hB, Or.inr ⟨HE.out, rfl⟩⟩
      · have e2 : ¬ (len : Int) < (i : Int) + 2 := by omega
        obtain ⟨x, n, r, hrd⟩ : ∃ x n r, l.drop i = x :: n :: r := by
          have hdl : (l.drop i).length = len - i := by rw [List.length_drop, hl.out]
          match h : l.drop i with
          | [] => rw [h] at hdl; simp at hdl; omega
          | [_] => rw [h] at hdl; simp at hdl; omega
          | x :: n :: r => exact ⟨x, n, r, rfl⟩
        have hrl : r.length + 2 = len - i := by
          have := congrArg List.length hrd
          rw [List.length_drop, hl.out] at this; simp at this; omega
        have hgd : ∀ j, l.getD (i + j) 0 = (x :: n :: r).getD j 0 := fun j => by
          rw [← hrd, List.getD_eq_getElem?_getD, List.getD_eq_getElem?_getD, List.getElem?_drop]
        have c0 := hci i hil
        rw [show l.getD i 0 = x from hgd 0] at c0
        have c1 := hci (i + 1) (by omega)
        rw [hgd 1] at c1
        have c1' : wr.cell? ⟨b, o + (i + 1), none⟩ = some (.int .u8 (n.toNat : Int)) := c1
        clear c1
        have hx0 := x.toNat_lt
        have hn0 := n.toNat_lt
        rw [hrd] at HE
        have HBD : Hid (T.bad least x n r ↔ (x.toNat < least ∨ n.toNat = 0 ∨ 32 < n.toNat ∨ r.length < n.toNat ∨ r.getD (n.toNat - 1) 0 = 0)) := Iff.rfl
        have hop : ¬ T.bad least x n r → T.opn least (x :: n :: r) = (T.opn (x.toNat + 1) (r.drop n.toNat)).map (T.typ x.toNat (r.take n.toNat) ++ ·) := fun h => by rw [T.opn_two, if_neg h]
        have hd2 : l.drop (i + (2 + n.toNat)) = r.drop n.toNat := by
          rw [← List.drop_drop, hrd, show 2 + n.toNat = n.toNat + 2 by omega]; rfl
        obtain ⟨X, hX⟩ : ∃ X : Nat, x.toNat = X := ⟨_, rfl⟩
        obtain ⟨M, hM⟩ : ∃ M : Nat, n.toNat = M := ⟨_, rfl⟩
        rw [hX] at c0 hx0 HBD hop
        rw [hM] at c1' hn0 HBD hop hd2
        have ex : IntKind.i64.wrap (X : Int) = (X : Int) := wrap_nat _ (by omega)
        have en : IntKind.i64.wrap (M : Int) = (M : Int) := wrap_nat _ (by omega)
        have HOP := hide hop
        have HD2 := hide hd2
        have HGD := hide hgd
        clear hop hd2 hgd hX hM hrd
        have hi1 : i + 1 < len := by omega
        by_cases b1 : X < least
        · have e3 : (X : Int) ≤ (least : Int) - 1 := by omega
          clear hci
          go_wp2
          go_quiet (fail)
          have hnone : T.opn least (x :: n :: r) = none := by rw [T.opn_two, if_pos (HBD.out.2 (Or.inl b1))]
          have HNO := hide hnone
          clear hnone
          go_wp2
          go_ret2
          exact ⟨below_drewN hB _, Or.inr ⟨by rw [HE.out, HNO.out]; rfl, rfl⟩⟩
        · have e3 : ¬ (X : Int) ≤ (least : Int) - 1 := by omega
          by_cases b2 : M = 0
          · have e4 : (M : Int) < 1 := by omega
            clear hci
            go_wp2
            go_quiet (fail)
            have hnone : T.opn least (x :: n :: r) = none := by rw [T.opn_two, if_pos (HBD.out.2 (Or.inr (Or.inl b2)))]
            have HNO := hide hnone
            clear hnone
            go_wp2
            go_ret2
            exact ⟨below_drewN hB _, Or.inr ⟨by rw [HE.out, HNO.out]; rfl, rfl⟩⟩
          · have e4 : ¬ (M : Int) < 1 := by omega
            by_cases b3 : 32 < M
            · have e5 : (32 : Int) < (M : Int) := by omega
              clear hci
              go_wp2
              go_quiet (fail)
              have hnone : T.opn least (x :: n :: r) = none := by rw [T.opn_two, if_pos (HBD.out.2 (Or.inr (Or.inr (Or.inl b3))))]
              have HNO := hide hnone
              clear hnone
              go_wp2
              go_ret2
              exact ⟨below_drewN hB _, Or.inr ⟨by rw [HE.out, HNO.out]; rfl, rfl⟩⟩
            · have e5 : ¬ (32 : Int) < (M : Int) := by omega
              by_cases b4 : r.length < M
              · have e6 : (len : Int) < (i : Int) + 2 + (M : Int) := by omega
                clear hci
                go_wp2
                go_quiet (fail)
                have hnone : T.opn least (x :: n :: r) = none := by rw [T.opn_two, if_pos (HBD.out.2 (Or.inr (Or.inr (Or.inr (Or.inl b4)))))]
                have HNO := hide hnone
                clear hnone
                go_wp2
                go_ret2
                exact ⟨below_drewN hB _, Or.inr ⟨by rw [HE.out, HNO.out]; rfl, rfl⟩⟩
              · have e6 : ¬ (len : Int) < (i : Int) + 2 + (M : Int) := by omega
                have c2 := hci (i + 1 + M) (by omega)
                rw [show l.getD (i + 1 + M) 0 = r.getD (M - 1) 0 by
                  rw [show i + 1 + M = i + ((M - 1) + 2) by omega, HGD.out]; rfl] at c2
                obtain ⟨y0, hy0⟩ : ∃ y0, r.getD (M - 1) 0 = y0 := ⟨_, rfl⟩
                rw [hy0] at c2
                have hi2 : i + 1 + M < len := by omega
                by_cases b5 : y0 = 0
                · have e7 : ((y0.toNat : Int) == 0) = true := by simp [b5]
                  have HWH : Hid (r.getD (M - 1) 0 = 0) := by show r.getD (M - 1) 0 = 0; rw [hy0]; exact b5
                  clear hci b5 hy0
                  go_wp2
                  go_quiet (fail)
                  have hnone : T.opn least (x :: n :: r) = none := by rw [T.opn_two, if_pos (HBD.out.2 (Or.inr (Or.inr (Or.inr (Or.inr HWH.out)))))]
                  have HNO := hide hnone
                  clear hnone
                  go_wp2
                  go_ret2
                  exact ⟨below_drewN hB _, Or.inr ⟨by rw [HE.out, HNO.out]; rfl, rfl⟩⟩
                · have e7 : ((y0.toNat : Int) == 0) = false := by
                    have : y0.toNat ≠ 0 := fun h => b5 (UInt8.toNat_inj.1 h)
                    simp; omega
                  have HGB : Hid (¬ T.bad least x n r) := fun hbd => by
                    rcases HBD.out.1 hbd with h | h | h | h | h
                    · exact b1 h
                    · exact b2 h
                    · exact b3 h
                    · exact b4 h
                    · rw [hy0] at h; exact b5 h
                  clear b5 hy0 hci
                  go_wp2
                  go_quiet (fail)
                  have HO2 : Hid (OwnH (wr.drewN nq) w.heap.size u4 m) := HO.out
                  have hB2 := below_drewN hB nq
                  have c22 : (wr.drewN nq).cell? ⟨b, o + (i + 1 + M), none⟩ = some (.int .u8 (y0.toNat : Int)) := c2
                  clear hB HO c0 c1' c2 hz
                  generalize wr.drewN nq = W1 at HO2 hB2 c22 ⊢
                  clear nq
                  obtain ⟨bs, hbs⟩ : ∃ bs, r.take M = bs := ⟨_, rfl⟩
                  have hbl : bs.length = M := by rw [← hbs, List.length_take]; omega
                  have HBG : Hid (∀ k, k < M → l.getD (i + 2 + k) 0 = bs.getD k 0) := fun k hk => by
                    rw [show i + 2 + k = i + (k + 2) by omega, HGD.out, ← hbs]
                    show r.getD k 0 = _
                    rw [List.getD_eq_getElem?_getD, List.getD_eq_getElem?_getD, List.getElem?_take_of_lt hk]
                  rw [hbs] at HOP
                  have HBL := hide hbl
                  have hx : X < 256 := by omega
                  clear hbs hbl
                  go_wp2
                  go_loopw [4, 9] (fun v u W => ∃ k : Nat, u = .int .i64 (k : Int) ∧ k ≤ M ∧ OwnH W w.heap.size v (m ++ T.typUp X bs (8 * k)) ∧ Below w.heap.size w W) (fun _ u _ => M - (intOf u).toNat)
                  case atStart => exact ⟨0, rfl, by omega, (by simpa [T.typUp] using HO2.out), hB2⟩
                  case round =>
                    clear HO2 hB2 c22
                    obtain ⟨k, rfl, hkM, hO, hB⟩ := hrel
                    by_cases hk : k < M
                    · have ek : (k : Int) < (M : Int) := by omega
                      go_wp2
                      go_loopw [4, 10] (fun v u W => ∃ j : Nat, u = .int .i64 (j : Int) ∧ j ≤ 8 ∧ OwnH W w.heap.size v (m ++ T.typUp X bs (8 * k + j)) ∧ Below w.heap.size w W) (fun _ u _ => 8 - (intOf u).toNat)
                      case atStart => exact ⟨0, rfl, by omega, hO, hB⟩
                      case round =>
                        clear hO hB
                        obtain ⟨j, rfl, hj8, hO, hB⟩ := hrel
                        have hz := hB.size
                        by_cases hj : j < 8
                        · have cy := (hB.cell (p := ⟨b, o + (i + 2 + k), none⟩) hb).trans (HC.out (i + 2 + k) (by omega))
                          rw [HBG.out k hk] at cy
                          obtain ⟨y, hy⟩ : ∃ y, bs.getD k 0 = y := ⟨_, rfl⟩
                          rw [hy] at cy
                          have HY := hide hy
                          have HO := hide hO
                          have hikl : i + 2 + k < len := by omega
                          have hmb : m.length ≤ 800000 := by omega
                          clear hy hO
                          rcases (by omega : j = 0 ∨ j = 1 ∨ j = 2 ∨ j = 3 ∨ j = 4 ∨ j = 5 ∨ j = 6 ∨ j = 7) with hr | hr | hr | hr | hr | hr | hr | hr
                          · subst hr
                            have hhas := T.and_has bs (8 * k + 0)
                            rw [show (8 * k + 0) / 8 = k by omega, show 7 - (8 * k + 0) % 8 = 7 by omega, HY.out, show (2 ^ 7 : Nat) = 128 from rfl] at hhas
                            have e3 : bits .and .u8 (y.toNat : Int) 128 = ((y.toNat &&& 128 : Nat) : Int) := u8_and_nat y.toNat 128 y.toNat_lt (by omega)
                            obtain ⟨z, hzz⟩ : ∃ z : Nat, y.toNat &&& 128 = z := ⟨_, rfl⟩
                            rw [hzz] at hhas e3
                            have HH := hide hhas
                            have e6 : IntKind.u16.wrap ((X : Int) * 256 + (k : Int) * 8 + 0) = ((T.mk X (8 * k + 0)).toNat : Int) := by
                              rw [T.mk_nat X (8 * k + 0) hx (by omega), IntKind.wrap_u16]; omega
                            clear hhas hzz
                            by_cases hz0 : z = 0
                            · have hno : T.has bs (8 * k + 0) = false := by
                                have : ¬ T.has bs (8 * k + 0) = true := fun h => (HH.out.2 h) hz0
                                simpa using this
                              have e5 : ((z : Int) != 0) = false := by simp [hz0]
                              go_wp2
                              go_quiet (fail)
                              go_wp2
                              go_roundw
                              case rel => exact ⟨1, rfl, by omega, (by rw [show 8 * k + 1 = (8 * k + 0) + 1 by omega, T.typUp_no X bs _ hno]; exact HO.out), below_drewN hB _⟩
                              case measure => simp [intOf]
                            · have hyes : T.has bs (8 * k + 0) = true := HH.out.1 hz0
                              have e5 : ((z : Int) != 0) = true := by simp [hz0]
                              have hml : (m ++ T.typUp X bs (8 * k + 0)).length ≤ 1000256 := by rw [List.length_append]; have := T.typUp_len X bs (8 * k + 0); omega
                              go_wp2
                              go_quiet (fail)
                              have HO2 : Hid (OwnH (wr.drewN nq) w.heap.size u4 (m ++ T.typUp X bs (8 * k + 0))) := HO.out
                              have hB2 := below_drewN hB nq
                              have hz2 := hB2.size
                              clear hB HO cy hz
                              generalize wr.drewN nq = w2 at HO2 hB2 hz2 ⊢
                              clear nq
                              go_wp2_with (at_builtin; refine wpList_append_H rfl (.tmp 81) (.tmp 90) rfl w.heap.size _ (m ++ T.typUp X bs (8 * k + 0)) rfl (by exact HO2.out.alloc _) _ _ _ [T.mk X (8 * k + 0)] rfl rfl (SlH.oneI _ _ _ _ (by first | rfl | (rw [T.mk_nat X _ hx (by omega)]; omega))) (by simp) (by simp at hml ⊢; omega) (by simp; omega) ?_; intro v4 w4 hO4 hG4; have hB4 := grown_belowH (HO2.out.alloc _) hG4 (hB2.alloc hz2 _) (by simp; omega); clear hG4)
                              go_roundw
                              case rel => exact ⟨1, rfl, by omega, (by rw [show 8 * k + 1 = (8 * k + 0) + 1 by omega, T.typUp_yes X bs _ hyes, ← List.append_assoc]; exact hO4), hB4⟩
                              case measure => simp [intOf]
                          · subst hr
                            have hhas := T.and_has bs (8 * k + 1)
                            rw [show (8 * k + 1) / 8 = k by omega, show 7 - (8 * k + 1) % 8 = 6 by omega, HY.out, show (2 ^ 6 : Nat) = 64 from rfl] at hhas
                            have e3 : bits .and .u8 (y.toNat : Int) 64 = ((y.toNat &&& 64 : Nat) : Int) := u8_and_nat y.toNat 64 y.toNat_lt (by omega)
                            obtain ⟨z, hzz⟩ : ∃ z : Nat, y.toNat &&& 64 = z := ⟨_, rfl⟩
                            rw [hzz] at hhas e3
                            have HH := hide hhas
                            have e6 : IntKind.u16.wrap ((X : Int) * 256 + (k : Int) * 8 + 1) = ((T.mk X (8 * k + 1)).toNat : Int) := by
                              rw [T.mk_nat X (8 * k + 1) hx (by omega), IntKind.wrap_u16]; omega
                            clear hhas hzz
                            by_cases hz0 : z = 0
                            · have hno : T.has bs (8 * k + 1) = false := by
                                have : ¬ T.has bs (8 * k + 1) = true := fun h => (HH.out.2 h) hz0
                                simpa using this
                              have e5 : ((z : Int) != 0) = false := by simp [hz0]
                              go_wp2
                              go_quiet (fail)
                              go_wp2
                              go_roundw
                              case rel => exact ⟨2, rfl, by omega, (by rw [show 8 * k + 2 = (8 * k + 1) + 1 by omega, T.typUp_no X bs _ hno]; exact HO.out), below_drewN hB _⟩
                              case measure => simp [intOf]
                            · have hyes : T.has bs (8 * k + 1) = true := HH.out.1 hz0
                              have e5 : ((z : Int) != 0) = true := by simp [hz0]
                              have hml : (m ++ T.typUp X bs (8 * k + 1)).length ≤ 1000256 := by rw [List.length_append]; have := T.typUp_len X bs (8 * k + 1); omega
                              go_wp2
                              go_quiet (fail)
                              have HO2 : Hid (OwnH (wr.drewN nq) w.heap.size u4 (m ++ T.typUp X bs (8 * k + 1))) := HO.out
                              have hB2 := below_drewN hB nq
                              have hz2 := hB2.size
                              clear hB HO cy hz
                              generalize wr.drewN nq = w2 at HO2 hB2 hz2 ⊢
                              clear nq
                              go_wp2_with (at_builtin; refine wpList_append_H rfl (.tmp 81) (.tmp 90) rfl w.heap.size _ (m ++ T.typUp X bs (8 * k + 1)) rfl (by exact HO2.out.alloc _) _ _ _ [T.mk X (8 * k + 1)] rfl rfl (SlH.oneI _ _ _ _ (by first | rfl | (rw [T.mk_nat X _ hx (by omega)]; omega))) (by simp) (by simp at hml ⊢; omega) (by simp; omega) ?_; intro v4 w4 hO4 hG4; have hB4 := grown_belowH (HO2.out.alloc _) hG4 (hB2.alloc hz2 _) (by simp; omega); clear hG4)
                              go_roundw
                              case rel => exact ⟨2, rfl, by omega, (by rw [show 8 * k + 2 = (8 * k + 1) + 1 by omega, T.typUp_yes X bs _ hyes, ← List.append_assoc]; exact hO4), hB4⟩
                              case measure => simp [intOf]
                          · subst hr
                            have hhas := T.and_has bs (8 * k + 2)
                            rw [show (8 * k + 2) / 8 = k by omega, show 7 - (8 * k + 2) % 8 = 5 by omega, HY.out, show (2 ^ 5 : Nat) = 32 from rfl] at hhas
                            have e3 : bits .and .u8 (y.toNat : Int) 32 = ((y.toNat &&& 32 : Nat) : Int) := u8_and_nat y.toNat 32 y.toNat_lt (by omega)
                            obtain ⟨z, hzz⟩ : ∃ z : Nat, y.toNat &&& 32 = z := ⟨_, rfl⟩
                            rw [hzz] at hhas e3
                            have HH := hide hhas
                            have e6 : IntKind.u16.wrap ((X : Int) * 256 + (k : Int) * 8 + 2) = ((T.mk X (8 * k + 2)).toNat : Int) := by
                              rw [T.mk_nat X (8 * k + 2) hx (by omega), IntKind.wrap_u16]; omega
                            clear hhas hzz
                            by_cases hz0 : z = 0
                            · have hno : T.has bs (8 * k + 2) = false := by
                                have : ¬ T.has bs (8 * k + 2) = true := fun h => (HH.out.2 h) hz0
                                simpa using this
                              have e5 : ((z : Int) != 0) = false := by simp [hz0]
                              go_wp2
                              go_quiet (fail)
                              go_wp2
                              go_roundw
                              case rel => exact ⟨3, rfl, by omega, (by rw [show 8 * k + 3 = (8 * k + 2) + 1 by omega, T.typUp_no X bs _ hno]; exact HO.out), below_drewN hB _⟩
                              case measure => simp [intOf]
                            · have hyes : T.has bs (8 * k + 2) = true := HH.out.1 hz0
                              have e5 : ((z : Int) != 0) = true := by simp [hz0]
                              have hml : (m ++ T.typUp X bs (8 * k + 2)).length ≤ 1000256 := by rw [List.length_append]; have := T.typUp_len X bs (8 * k + 2); omega
                              go_wp2
                              go_quiet (fail)
                              have HO2 : Hid (OwnH (wr.drewN nq) w.heap.size u4 (m ++ T.typUp X bs (8 * k + 2))) := HO.out
                              have hB2 := below_drewN hB nq
                              have hz2 := hB2.size
                              clear hB HO cy hz
                              generalize wr.drewN nq = w2 at HO2 hB2 hz2 ⊢
                              clear nq
                              go_wp2_with (at_builtin; refine wpList_append_H rfl (.tmp 81) (.tmp 90) rfl w.heap.size _ (m ++ T.typUp X bs (8 * k + 2)) rfl (by exact HO2.out.alloc _) _ _ _ [T.mk X (8 * k + 2)] rfl rfl (SlH.oneI _ _ _ _ (by first | rfl | (rw [T.mk_nat X _ hx (by omega)]; omega))) (by simp) (by simp at hml ⊢; omega) (by simp; omega) ?_; intro v4 w4 hO4 hG4; have hB4 := grown_belowH (HO2.out.alloc _) hG4 (hB2.alloc hz2 _) (by simp; omega); clear hG4)
                              go_roundw
                              case rel => exact ⟨3, rfl, by omega, (by rw [show 8 * k + 3 = (8 * k + 2) + 1 by omega, T.typUp_yes X bs _ hyes, ← List.append_assoc]; exact hO4), hB4⟩
                              case measure => simp [intOf]
                          · subst hr
                            have hhas := T.and_has bs (8 * k + 3)
                            rw [show (8 * k + 3) / 8 = k by omega, show 7 - (8 * k + 3) % 8 = 4 by omega, HY.out, show (2 ^ 4 : Nat) = 16 from rfl] at hhas
                            have e3 : bits .and .u8 (y.toNat : Int) 16 = ((y.toNat &&& 16 : Nat) : Int) := u8_and_nat y.toNat 16 y.toNat_lt (by omega)
                            obtain ⟨z, hzz⟩ : ∃ z : Nat, y.toNat &&& 16 = z := ⟨_, rfl⟩
                            rw [hzz] at hhas e3
                            have HH := hide hhas
                            have e6 : IntKind.u16.wrap ((X : Int) * 256 + (k : Int) * 8 + 3) = ((T.mk X (8 * k + 3)).toNat : Int) := by
                              rw [T.mk_nat X (8 * k + 3) hx (by omega), IntKind.wrap_u16]; omega
                            clear hhas hzz
                            by_cases hz0 : z = 0
                            · have hno : T.has bs (8 * k + 3) = false := by
                                have : ¬ T.has bs (8 * k + 3) = true := fun h => (HH.out.2 h) hz0
                                simpa using this
                              have e5 : ((z : Int) != 0) = false := by simp [hz0]
                              go_wp2
                              go_quiet (fail)
                              go_wp2
                              go_roundw
                              case rel => exact ⟨4, rfl, by omega, (by rw [show 8 * k + 4 = (8 * k + 3) + 1 by omega, T.typUp_no X bs _ hno]; exact HO.out), below_drewN hB _⟩
                              case measure => simp [intOf]
                            · have hyes : T.has bs (8 * k + 3) = true := HH.out.1 hz0
                              have e5 : ((z : Int) != 0) = true := by simp [hz0]
                              have hml : (m ++ T.typUp X bs (8 * k + 3)).length ≤ 1000256 := by rw [List.length_append]; have := T.typUp_len X bs (8 * k + 3); omega
                              go_wp2
                              go_quiet (fail)
                              have HO2 : Hid (OwnH (wr.drewN nq) w.heap.size u4 (m ++ T.typUp X bs (8 * k + 3))) := HO.out
                              have hB2 := below_drewN hB nq
                              have hz2 := hB2.size
                              clear hB HO cy hz
                              generalize wr.drewN nq = w2 at HO2 hB2 hz2 ⊢
                              clear nq
                              go_wp2_with (at_builtin; refine wpList_append_H rfl (.tmp 81) (.tmp 90) rfl w.heap.size _ (m ++ T.typUp X bs (8 * k + 3)) rfl (by exact HO2.out.alloc _) _ _ _ [T.mk X (8 * k + 3)] rfl rfl (SlH.oneI _ _ _ _ (by first | rfl | (rw [T.mk_nat X _ hx (by omega)]; omega))) (by simp) (by simp at hml ⊢; omega) (by simp; omega) ?_; intro v4 w4 hO4 hG4; have hB4 := grown_belowH (HO2.out.alloc _) hG4 (hB2.alloc hz2 _) (by simp; omega); clear hG4)
                              go_roundw
                              case rel => exact ⟨4, rfl, by omega, (by rw [show 8 * k + 4 = (8 * k + 3) + 1 by omega, T.typUp_yes X bs _ hyes, ← List.append_assoc]; exact hO4), hB4⟩
                              case measure => simp [intOf]
                          · subst hr
                            have hhas := T.and_has bs (8 * k + 4)
                            rw [show (8 * k + 4) / 8 = k by omega, show 7 - (8 * k + 4) % 8 = 3 by omega, HY.out, show (2 ^ 3 : Nat) = 8 from rfl] at hhas
                            have e3 : bits .and .u8 (y.toNat : Int) 8 = ((y.toNat &&& 8 : Nat) : Int) := u8_and_nat y.toNat 8 y.toNat_lt (by omega)
                            obtain ⟨z, hzz⟩ : ∃ z : Nat, y.toNat &&& 8 = z := ⟨_, rfl⟩
                            rw [hzz] at hhas e3
                            have HH := hide hhas
                            have e6 : IntKind.u16.wrap ((X : Int) * 256 + (k : Int) * 8 + 4) = ((T.mk X (8 * k + 4)).toNat : Int) := by
                              rw [T.mk_nat X (8 * k + 4) hx (by omega), IntKind.wrap_u16]; omega
                            clear hhas hzz
                            by_cases hz0 : z = 0
                            · have hno : T.has bs (8 * k + 4) = false := by
                                have : ¬ T.has bs (8 * k + 4) = true := fun h => (HH.out.2 h) hz0
                                simpa using this
                              have e5 : ((z : Int) != 0) = false := by simp [hz0]
                              go_wp2
                              go_quiet (fail)
                              go_wp2
                              go_roundw
                              case rel => exact ⟨5, rfl, by omega, (by rw [show 8 * k + 5 = (8 * k + 4) + 1 by omega, T.typUp_no X bs _ hno]; exact HO.out), below_drewN hB _⟩
                              case measure => simp [intOf]
                            · have hyes : T.has bs (8 * k + 4) = true := HH.out.1 hz0
                              have e5 : ((z : Int) != 0) = true := by simp [hz0]
                              have hml : (m ++ T.typUp X bs (8 * k + 4)).length ≤ 1000256 := by rw [List.length_append]; have := T.typUp_len X bs (8 * k + 4); omega
                              go_wp2
                              go_quiet (fail)
                              have HO2 : Hid (OwnH (wr.drewN nq) w.heap.size u4 (m ++ T.typUp X bs (8 * k + 4))) := HO.out
                              have hB2 := below_drewN hB nq
                              have hz2 := hB2.size
                              clear hB HO cy hz
                              generalize wr.drewN nq = w2 at HO2 hB2 hz2 ⊢
                              clear nq
                              go_wp2_with (at_builtin; refine wpList_append_H rfl (.tmp 81) (.tmp 90) rfl w.heap.size _ (m ++ T.typUp X bs (8 * k + 4)) rfl (by exact HO2.out.alloc _) _ _ _ [T.mk X (8 * k + 4)] rfl rfl (SlH.oneI _ _ _ _ (by first | rfl | (rw [T.mk_nat X _ hx (by omega)]; omega))) (by simp) (by simp at hml ⊢; omega) (by simp; omega) ?_; intro v4 w4 hO4 hG4; have hB4 := grown_belowH (HO2.out.alloc _) hG4 (hB2.alloc hz2 _) (by simp; omega); clear hG4)
                              go_roundw
                              case rel => exact ⟨5, rfl, by omega, (by rw [show 8 * k + 5 = (8 * k + 4) + 1 by omega, T.typUp_yes X bs _ hyes, ← List.append_assoc]; exact hO4), hB4⟩
                              case measure => simp [intOf]
                          · subst hr
                            have hhas := T.and_has bs (8 * k + 5)
                            rw [show (8 * k + 5) / 8 = k by omega, show 7 - (8 * k + 5) % 8 = 2 by omega, HY.out, show (2 ^ 2 : Nat) = 4 from rfl] at hhas
                            have e3 : bits .and .u8 (y.toNat : Int) 4 = ((y.toNat &&& 4 : Nat) : Int) := u8_and_nat y.toNat 4 y.toNat_lt (by omega)
                            obtain ⟨z, hzz⟩ : ∃ z : Nat, y.toNat &&& 4 = z := ⟨_, rfl⟩
                            rw [hzz] at hhas e3
                            have HH := hide hhas
                            have e6 : IntKind.u16.wrap ((X : Int) * 256 + (k : Int) * 8 + 5) = ((T.mk X (8 * k + 5)).toNat : Int) := by
                              rw [T.mk_nat X (8 * k + 5) hx (by omega), IntKind.wrap_u16]; omega
                            clear hhas hzz
                            by_cases hz0 : z = 0
                            · have hno : T.has bs (8 * k + 5) = false := by
                                have : ¬ T.has bs (8 * k + 5) = true := fun h => (HH.out.2 h) hz0
                                simpa using this
                              have e5 : ((z : Int) != 0) = false := by simp [hz0]
                              go_wp2
                              go_quiet (fail)
                              go_wp2
                              go_roundw
                              case rel => exact ⟨6, rfl, by omega, (by rw [show 8 * k + 6 = (8 * k + 5) + 1 by omega, T.typUp_no X bs _ hno]; exact HO.out), below_drewN hB _⟩
                              case measure => simp [intOf]
                            · have hyes : T.has bs (8 * k + 5) = true := HH.out.1 hz0
                              have e5 : ((z : Int) != 0) = true := by simp [hz0]
                              have hml : (m ++ T.typUp X bs (8 * k + 5)).length ≤ 1000256 := by rw [List.length_append]; have := T.typUp_len X bs (8 * k + 5); omega
                              go_wp2
                              go_quiet (fail)
                              have HO2 : Hid (OwnH (wr.drewN nq) w.heap.size u4 (m ++ T.typUp X bs (8 * k + 5))) := HO.out
                              have hB2 := below_drewN hB nq
                              have hz2 := hB2.size
                              clear hB HO cy hz
                              generalize wr.drewN nq = w2 at HO2 hB2 hz2 ⊢
                              clear nq
                              go_wp2_with (at_builtin; refine wpList_append_H rfl (.tmp 81) (.tmp 90) rfl w.heap.size _ (m ++ T.typUp X bs (8 * k + 5)) rfl (by exact HO2.out.alloc _) _ _ _ [T.mk X (8 * k + 5)] rfl rfl (SlH.oneI _ _ _ _ (by first | rfl | (rw [T.mk_nat X _ hx (by omega)]; omega))) (by simp) (by simp at hml ⊢; omega) (by simp; omega) ?_; intro v4 w4 hO4 hG4; have hB4 := grown_belowH (HO2.out.alloc _) hG4 (hB2.alloc hz2 _) (by simp; omega); clear hG4)
                              go_roundw
                              case rel => exact ⟨6, rfl, by omega, (by rw [show 8 * k + 6 = (8 * k + 5) + 1 by omega, T.typUp_yes X bs _ hyes, ← List.append_assoc]; exact hO4), hB4⟩
                              case measure => simp [intOf]
                          · subst hr
                            have hhas := T.and_has bs (8 * k + 6)
                            rw [show (8 * k + 6) / 8 = k by omega, show 7 - (8 * k + 6) % 8 = 1 by omega, HY.out, show (2 ^ 1 : Nat) = 2 from rfl] at hhas
                            have e3 : bits .and .u8 (y.toNat : Int) 2 = ((y.toNat &&& 2 : Nat) : Int) := u8_and_nat y.toNat 2 y.toNat_lt (by omega)
                            obtain ⟨z, hzz⟩ : ∃ z : Nat, y.toNat &&& 2 = z := ⟨_, rfl⟩
                            rw [hzz] at hhas e3
                            have HH := hide hhas
                            have e6 : IntKind.u16.wrap ((X : Int) * 256 + (k : Int) * 8 + 6) = ((T.mk X (8 * k + 6)).toNat : Int) := by
                              rw [T.mk_nat X (8 * k + 6) hx (by omega), IntKind.wrap_u16]; omega
                            clear hhas hzz
                            by_cases hz0 : z = 0
                            · have hno : T.has bs (8 * k + 6) = false := by
                                have : ¬ T.has bs (8 * k + 6) = true := fun h => (HH.out.2 h) hz0
                                simpa using this
                              have e5 : ((z : Int) != 0) = false := by simp [hz0]
                              go_wp2
                              go_quiet (fail)
                              go_wp2
                              go_roundw
                              case rel => exact ⟨7, rfl, by omega, (by rw [show 8 * k + 7 = (8 * k + 6) + 1 by omega, T.typUp_no X bs _ hno]; exact HO.out), below_drewN hB _⟩
                              case measure => simp [intOf]
                            · have hyes : T.has bs (8 * k + 6) = true := HH.out.1 hz0
                              have e5 : ((z : Int) != 0) = true := by simp [hz0]
                              have hml : (m ++ T.typUp X bs (8 * k + 6)).length ≤ 1000256 := by rw [List.length_append]; have := T.typUp_len X bs (8 * k + 6); omega
                              go_wp2
                              go_quiet (fail)
                              have HO2 : Hid (OwnH (wr.drewN nq) w.heap.size u4 (m ++ T.typUp X bs (8 * k + 6))) := HO.out
                              have hB2 := below_drewN hB nq
                              have hz2 := hB2.size
                              clear hB HO cy hz
                              generalize wr.drewN nq = w2 at HO2 hB2 hz2 ⊢
                              clear nq
                              go_wp2_with (at_builtin; refine wpList_append_H rfl (.tmp 81) (.tmp 90) rfl w.heap.size _ (m ++ T.typUp X bs (8 * k + 6)) rfl (by exact HO2.out.alloc _) _ _ _ [T.mk X (8 * k + 6)] rfl rfl (SlH.oneI _ _ _ _ (by first | rfl | (rw [T.mk_nat X _ hx (by omega)]; omega))) (by simp) (by simp at hml ⊢; omega) (by simp; omega) ?_; intro v4 w4 hO4 hG4; have hB4 := grown_belowH (HO2.out.alloc _) hG4 (hB2.alloc hz2 _) (by simp; omega); clear hG4)
                              go_roundw
                              case rel => exact ⟨7, rfl, by omega, (by rw [show 8 * k + 7 = (8 * k + 6) + 1 by omega, T.typUp_yes X bs _ hyes, ← List.append_assoc]; exact hO4), hB4⟩
                              case measure => simp [intOf]
                          · subst hr
                            have hhas := T.and_has bs (8 * k + 7)
                            rw [show (8 * k + 7) / 8 = k by omega, show 7 - (8 * k + 7) % 8 = 0 by omega, HY.out, show (2 ^ 0 : Nat) = 1 from rfl] at hhas
                            have e3 : bits .and .u8 (y.toNat : Int) 1 = ((y.toNat &&& 1 : Nat) : Int) := u8_and_nat y.toNat 1 y.toNat_lt (by omega)
                            obtain ⟨z, hzz⟩ : ∃ z : Nat, y.toNat &&& 1 = z := ⟨_, rfl⟩
                            rw [hzz] at hhas e3
                            have HH := hide hhas
                            have e6 : IntKind.u16.wrap ((X : Int) * 256 + (k : Int) * 8 + 7) = ((T.mk X (8 * k + 7)).toNat : Int) := by
                              rw [T.mk_nat X (8 * k + 7) hx (by omega), IntKind.wrap_u16]; omega
                            clear hhas hzz
                            by_cases hz0 : z = 0
                            · have hno : T.has bs (8 * k + 7) = false := by
                                have : ¬ T.has bs (8 * k + 7) = true := fun h => (HH.out.2 h) hz0
                                simpa using this
                              have e5 : ((z : Int) != 0) = false := by simp [hz0]
                              go_wp2
                              go_quiet (fail)
                              go_wp2
                              go_roundw
                              case rel => exact ⟨8, rfl, by omega, (by rw [show 8 * k + 8 = (8 * k + 7) + 1 by omega, T.typUp_no X bs _ hno]; exact HO.out), below_drewN hB _⟩
                              case measure => simp [intOf]
                            · have hyes : T.has bs (8 * k + 7) = true := HH.out.1 hz0
                              have e5 : ((z : Int) != 0) = true := by simp [hz0]
                              have hml : (m ++ T.typUp X bs (8 * k + 7)).length ≤ 1000256 := by rw [List.length_append]; have := T.typUp_len X bs (8 * k + 7); omega
                              go_wp2
                              go_quiet (fail)
                              have HO2 : Hid (OwnH (wr.drewN nq) w.heap.size u4 (m ++ T.typUp X bs (8 * k + 7))) := HO.out
                              have hB2 := below_drewN hB nq
                              have hz2 := hB2.size
                              clear hB HO cy hz
                              generalize wr.drewN nq = w2 at HO2 hB2 hz2 ⊢
                              clear nq
                              go_wp2_with (at_builtin; refine wpList_append_H rfl (.tmp 81) (.tmp 90) rfl w.heap.size _ (m ++ T.typUp X bs (8 * k + 7)) rfl (by exact HO2.out.alloc _) _ _ _ [T.mk X (8 * k + 7)] rfl rfl (SlH.oneI _ _ _ _ (by first | rfl | (rw [T.mk_nat X _ hx (by omega)]; omega))) (by simp) (by simp at hml ⊢; omega) (by simp; omega) ?_; intro v4 w4 hO4 hG4; have hB4 := grown_belowH (HO2.out.alloc _) hG4 (hB2.alloc hz2 _) (by simp; omega); clear hG4)
                              go_roundw
                              case rel => exact ⟨8, rfl, by omega, (by rw [show 8 * k + 8 = (8 * k + 7) + 1 by omega, T.typUp_yes X bs _ hyes, ← List.append_assoc]; exact hO4), hB4⟩
                              case measure => simp [intOf]
                        · obtain rfl : j = 8 := by omega
                          go_wp2
                          go_roundw
                          case rel => exact ⟨k + 1, by go_num, by omega, (by rw [show 8 * (k + 1) = 8 * k + 8 by omega]; exact hO), hB⟩
                          case measure => simp [intOf]; omega
                    · obtain rfl : k = M := by omega
                      have ek : ¬ (k : Int) < (k : Int) := by omega
                      have htl := T.typUp_len X bs (8 * k)
                      rw [← HBL.out, T.typUp_all] at hO
                      rw [← HBL.out, T.typUp_all] at htl
                      have hop := HOP.out HGB.out
                      have HO := hide hO
                      have HTL := hide htl
                      have HOQ := hide hop
                      clear hO htl hop
                      go_wp2
                      go_roundw
                      case rel =>
                        refine ⟨i + (2 + k), X + 1, m ++ T.typ X bs, by first | rfl | (congr 1; done) | (congr 1; omega), by omega, by first | rfl | (congr 1; done) | (congr 1; omega), by omega, HO.out, hB, ?_, ?_⟩
                        · rw [List.length_append]
                          have h1 := HTL.out
                          have h2 := HBL.out
                          omega
                        · rw [HE.out, HOQ.out, HD2.out]
                          cases T.opn (X + 1) (r.drop k) <;> simp
                      case measure => simp [intOf]; omega
    · obtain rfl : i = len := by omega
      go_wp2
      go_ret2
      refine ⟨hB, Or.inl ⟨m, _, ?_, rfl, HO.out⟩⟩
      rw [HE.out, List.drop_eq_nil_of_le (by rw [hl.out]; exact Nat.le_refl _), T.opn_nil]; simp
end Go.Proofs.YtdldaphkiphpnaaGreat

/- stage4/Help -/
/- The statements' helps: Bytes, Types. -/
namespace Go.Proofs.YtdldaphkiphpnaaGreat
open Go.RowKit
/- a part of a slice of bytes -/
set_option maxRecDepth 5000 in
theorem hbytes_any (a b : List UInt8) (ao bo : Option Addr) (n1 c1 n2 c2 : Nat) (w : World) (ha : SlL w ao a) (hb : SlL w bo b) (h1 : Hid (a.length = n1)) (h2 : Hid (b.length = n2)) :
    Calls Tryz.prog 75 #[.slice ao n1 c1, .slice bo n2 c2] w fun e w' => e = .returned (.bool (a == b)) ∧ w' = w := by
  have r1 := run_str n1 c1 ha h1.out
  have r2 := run_str n2 c2 hb h2.out
  clear ha hb
  go_enter Tryz.func75, Tryz.ntmps75
  go_wp2
  go_ret
  exact ⟨rfl, rfl⟩
set_option maxHeartbeats 1600000 in
set_option maxRecDepth 5000 in
theorem htypes_any (a b : List UInt16) (ao bo : Option Addr) (n1 c1 n2 c2 : Nat) (w : World) (ha : SlH w ao a) (hb : SlH w bo b) (h1 : Hid (a.length = n1)) (h2 : Hid (b.length = n2)) (hn : n1 ≤ 1000000) :
    Calls Tryz.prog 31 #[.slice ao n1 c1, .slice bo n2 c2] w fun e w' => e = .returned (.bool (decide (a = b))) ∧ Below w.heap.size w w' := by
  by_cases hl : n1 = n2
  · subst hl
    obtain ⟨GA, hGA⟩ : ∃ G : Nat → UInt16, ∀ j, a.getD j 0 = G j := ⟨fun j => a.getD j 0, fun _ => rfl⟩
    obtain ⟨GB, hGB⟩ : ∃ G : Nat → UInt16, ∀ j, b.getD j 0 = G j := ⟨fun j => b.getD j 0, fun _ => rfl⟩
    have HX : Hid ((∀ j, j < n1 → GA j = GB j) ↔ a = b) := by
      show (∀ j, j < n1 → GA j = GB j) ↔ a = b
      constructor
      · intro h
        refine List.ext_getElem (h1.out.trans h2.out.symm) fun j hj1 hj2 => ?_
        have := h j (by rw [← h1.out]; exact hj1)
        rw [← hGA, ← hGB, List.getD_eq_getElem?_getD, List.getElem?_eq_getElem hj1, List.getD_eq_getElem?_getD, List.getElem?_eq_getElem hj2] at this
        exact this
      · rintro rfl j _
        rw [← hGA, ← hGB]
    have en : ((n1 : Int) != (n1 : Int)) = false := by simp
    have HA := hide ha
    have HB := hide hb
    have HGA := hide hGA
    have HGB := hide hGB
    clear ha hb hGA hGB
    go_enter Tryz.func31, Tryz.ntmps31
    go_wp2
    go_loopw [5] (fun u W => ∃ i : Nat, u = .int .i64 (i : Int) ∧ i ≤ n1 ∧ Below w.heap.size w W ∧ ∀ j, j < i → GA j = GB j) (fun u _ => n1 - (intOf u).toNat)
    case atStart => exact ⟨0, rfl, by omega, Below.refl _ _, fun j hj => by omega⟩
    case round =>
      obtain ⟨i, rfl, hi, hB, hall⟩ := hrel
      have HL := hide hall
      clear hall
      by_cases hin : i < n1
      · obtain ⟨b1, o1, rfl, hb1, hc1⟩ := HA.out (by rw [h1.out]; omega)
        obtain ⟨b2, o2, rfl, hb2, hc2⟩ := HB.out (by rw [h2.out]; omega)
        have x1 := (hB.cell (p := ⟨b1, o1 + i, none⟩) hb1).trans (hc1 i (by rw [h1.out]; exact hin))
        have x2 := (hB.cell (p := ⟨b2, o2 + i, none⟩) hb2).trans (hc2 i (by rw [h2.out]; exact hin))
        rw [HGA.out] at x1
        rw [HGB.out] at x2
        have hB2 := fun q : Nat => (⟨hB.os, hB.tape, hB.output, hB.size, hB.block⟩ : Below w.heap.size w (wr.drewN q))
        clear hc1 hc2
        by_cases he : GA i = GB i
        · have e1 : (((GA i).toNat : Int) != ((GB i).toNat : Int)) = false := by rw [he]; simp
          go_wp2
          go_quiet (fail)
          go_wp2
          go_roundw
          case rel => exact ⟨i + 1, by go_num, by omega, hB2 _, fun j hj => by
            rcases Nat.lt_or_ge j i with h | h
            · exact HL.out j h
            · obtain rfl : j = i := by omega
              exact he⟩
          case measure => simp [intOf]; omega
        · have e1 : (((GA i).toNat : Int) != ((GB i).toNat : Int)) = true := by
            have : (GA i).toNat ≠ (GB i).toNat := fun h => he (UInt16.toNat_inj.1 h)
            simp; omega
          have hne : ¬ a = b := fun h => he (HX.out.2 h i hin)
          have HNE : Hid (decide (a = b) = false) := decide_eq_false hne
          clear hne he
          go_wp2
          go_quiet (fail)
          go_wp2
          go_ret
          exact ⟨by rw [HNE.out]; rfl, hB2 _⟩
      · obtain rfl : i = n1 := by omega
        have HEQ : Hid (decide (a = b) = true) := decide_eq_true (HX.out.1 HL.out)
        go_wp2
        go_ret
        exact ⟨by rw [HEQ.out]; rfl, hB⟩
  · have en : ((n1 : Int) != (n2 : Int)) = true := by simp; omega
    have HNE : Hid (decide (a = b) = false) := decide_eq_false fun h => hl (by rw [← h1.out, ← h2.out, h])
    clear ha hb
    go_enter Tryz.func31, Tryz.ntmps31
    go_wp2
    go_ret
    exact ⟨by rw [HNE.out]; rfl, Below.refl _ _⟩
end Go.Proofs.YtdldaphkiphpnaaGreat

