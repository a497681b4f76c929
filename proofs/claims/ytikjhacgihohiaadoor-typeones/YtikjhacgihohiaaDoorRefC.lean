/- The reference: Clean. -/
import Derived.Test.YtikjhacgihohiaaDoorBmp3
namespace Go.Proofs.YtikjhacgihohiaaDoor
open Go.RowKit
namespace T
theorem ins_rising (out : List UInt16) (x : UInt16) (k : Nat) (hk : k ≤ out.length) (hr : Rising out) (h1 : ∀ j, j < k → (out.getD j 0).toNat < x.toNat) (h2 : k = out.length ∨ x.toNat < (out.getD k 0).toNat) :
    Rising (out.take k ++ ([x] ++ out.drop k)) := by
  have hsplit : out.take k ++ out.drop k = out := List.take_append_drop k out
  have hr2 : (out.take k ++ out.drop k).Pairwise (fun x y => x.toNat < y.toNat) := by rw [hsplit]; exact hr
  obtain ⟨p1, p2, p3⟩ := List.pairwise_append.1 hr2
  have q1 : ∀ y ∈ out.take k, y.toNat < x.toNat := fun y hy => by
    obtain ⟨j, hj, rfl⟩ := List.getElem_of_mem hy
    rw [List.length_take] at hj
    have := h1 j (by omega)
    rw [List.getD_eq_getElem?_getD, List.getElem?_eq_getElem (by omega)] at this
    rw [List.getElem_take]; exact this
  have q2 : ∀ y ∈ out.drop k, x.toNat < y.toNat := fun y hy => by
    rcases h2 with h2 | h2
    · rw [h2, List.drop_length] at hy; simp at hy
    · by_cases hkl : k < out.length
      · have e : out.drop k = out.getD k 0 :: out.drop (k + 1) := by
          rw [List.getD_eq_getElem?_getD, List.getElem?_eq_getElem hkl]; exact List.drop_eq_getElem_cons hkl
        rw [e] at hy p2
        rcases List.mem_cons.1 hy with rfl | hy
        · exact h2
        · have := (List.pairwise_cons.1 p2).1 y hy; omega
      · rw [List.drop_eq_nil_of_le (by omega)] at hy; simp at hy
  unfold Rising
  rw [List.pairwise_append]
  refine ⟨p1, ?_, fun a ha b hb => ?_⟩
  · rw [List.singleton_append, List.pairwise_cons]; exact ⟨q2, p2⟩
  · rcases List.mem_append.1 hb with hb | hb
    · obtain rfl : b = x := by simpa using hb
      exact q1 a ha
    · exact p3 a ha b hb
theorem ins_mem (out : List UInt16) (x y : UInt16) (k : Nat) : y ∈ out.take k ++ ([x] ++ out.drop k) ↔ y = x ∨ y ∈ out := by
  have hsplit : y ∈ out ↔ y ∈ out.take k ∨ y ∈ out.drop k := by
    rw [← List.mem_append, List.take_append_drop]
  rw [List.mem_append, List.mem_append, hsplit]
  simp only [List.mem_singleton]
  constructor
  · rintro (h | h | h)
    · exact Or.inr (Or.inl h)
    · exact Or.inl h
    · exact Or.inr (Or.inr h)
  · rintro (h | h | h)
    · exact Or.inr (Or.inl h)
    · exact Or.inl h
    · exact Or.inr (Or.inr h)
theorem mem_next (l : List UInt16) (i : Nat) (hi : i < l.length) (y : UInt16) : y ∈ l.take (i + 1) ↔ y = l.getD i 0 ∨ y ∈ l.take i := by
  rw [take_nextH l i hi, List.mem_append, List.mem_singleton]; exact Or.comm
end T
/- append to a slice that has no room: a new block -/
theorem run_append_full {w : World} (base : Nat) (ty : TypeId) (b : Addr) (l : List UInt16) (n : Nat) (hn : l.length = n) (hs : SlH w (some b) l) (ad : Addr) (m c : Nat) (l2 : List UInt16) (hm : l2.length = m) (h0 : 0 < m) (hsrc : SlH w (some ad) l2) (hbound : n + m ≤ 1099511627776) (hbase : base ≤ w.heap.size) :
    ∃ v' w', (Builtin.append_ #[28, 28] ty #[.slice (some b) n n, .slice (some ad) m c]).run Tryd.prog w = .ok v' w' ∧ OwnH w' base v' (l ++ l2) ∧ w.grownBy w' none := by
  obtain ⟨i0, hi, hz0, hz1, hz2⟩ := info_parts infoH
  subst hm hn
  have hnews : ∀ (q : List UInt16) (a : Addr), SlH w (some a) q → ∀ j u, (vh q)[j]? = some u → w.cell? (a.add j) = some u := fun q a hq j u hu => by
    have hj : j < q.length := by have := (List.getElem?_eq_some_iff.1 hu).1; rwa [vh_len] at this
    obtain ⟨b', o', e, _, hc⟩ := hq (by omega)
    cases e
    rw [Addr.add_mid, hc j hj, ← vh_get q j hj, hu]
  have hr := run_append_grow (P := Tryd.prog) w 28 ty 22 i0 (.int .u16 0) Tryd.underlying28 hi hz0 b l.length l.length (vh l) (by rw [vh_len, hz1, Nat.mul_one]) (hnews l b hs) ad l2.length c (vh l2) (by rw [vh_len, hz1, Nat.mul_one]) (hnews l2 ad hsrc) (by omega) (by omega) (growslice_fits (by omega) (by rw [hz2]; omega))
  refine ⟨_, _, hr, ?_, ?_⟩
  · have hge := grownCap_ge w (l.length + l2.length) l.length 22
    have hle := grownCap_le_maxLen w (l.length + l2.length) l.length 22 (by unfold maxLen; omega)
    generalize grownCap w (l.length + l2.length) l.length 22 = cp at hge hle
    unfold OwnH
    rw [List.length_append]
    refine ⟨by rw [vh_len, List.length_append, Nat.mul_one], Or.inr ⟨w.heap.size, cp, _, rfl, hbase, heap_alloc_last w.drew _, hge, hle, ?_, ?_⟩⟩
    · simp [size_zeroCells, vh, Value.cells]; omega
    · rw [Nat.mul_one, vh_app]
      simp only [Array.toList_append]
      rw [List.take_append_of_le_length (by simp [vh])]
      exact List.take_of_length_le (by simp [vh])
  · exact ⟨rfl, rfl, rfl, ((below_drew (Below.refl w.heap.size w)).alloc (Nat.le_refl _) _).size, fun k hk _ => ((below_drew (Below.refl w.heap.size w)).alloc (Nat.le_refl _) _).block k hk⟩
theorem step_append_full {ops : Array Oper} {o : Oper} {a : Act} {w : World} {K : Act → World → Prop} {Q : Exit → Act → World → Prop} {E : Prop} (hgd : o.guard = none) (s x : Operand)
    (ho : o.op = .call { callee := .builtin .append, args := #[s, x], argTypes := #[28, 28] }) (base : Nat) (b : Addr) (l : List UInt16) (n : Nat) (hs : a.eval s = .slice (some b) n n) (hn : l.length = n) (hS : SlH w (some b) l)
    (ad : Addr) (m c : Nat) (l2 : List UInt16) (hx : a.eval x = .slice (some ad) m c) (hm : l2.length = m) (h0 : 0 < m) (hsrc : SlH w (some ad) l2) (hbound : n + m ≤ 1099511627776) (hbase : base ≤ w.heap.size)
    (h : ∀ v' w', OwnH w' base v' (l ++ l2) → w.grownBy w' none → K (a.put o.dst v') w') : if Region.wanted o (yielded ops a.tmps) = true then Oper.wp Tryd.prog o a w K Q else E := by
  have hw : Region.wanted o (yielded ops a.tmps) = true := by simp [Region.wanted, hgd]
  rw [if_pos hw]
  obtain ⟨v', w', hr, h2, h3⟩ := run_append_full base o.type b l n hn hS ad m c l2 hm h0 hsrc hbound hbase
  unfold Oper.wp execOp
  simp only [ho, resolve, invoke, builtin, Sem.run_bind, Sem.run_pure, Result.andThen_ok, List.map_toArray, List.map_cons, List.map_nil, hs, hx, hr]
  exact h v' w' h2 h3
theorem OwnH.drewN {w : World} {B : Nat} {v : Value} {q : List UInt16} (h : OwnH w B v q) (n : Nat) : OwnH (w.drewN n) B v q := h
theorem below_drewN {B : Nat} {w w' : World} (h : Below B w w') (n : Nat) : Below B w (w'.drewN n) := ⟨h.os, h.tape, h.output, h.size, h.block⟩
theorem step_append_Hnone {ops : Array Oper} {o : Oper} {a : Act} {w : World} {K : Act → World → Prop} {Q : Exit → Act → World → Prop} {E : Prop} (hgd : o.guard = none) (s x : Operand)
    (ho : o.op = .call { callee := .builtin .append, args := #[s, x], argTypes := #[28, 28] }) (base : Nat) (v : Value) (l : List UInt16) (hs : a.eval s = v) (hown : OwnH w base v l)
    (hx : a.eval x = .slice none 0 0) (h : K (a.put o.dst v) w) : if Region.wanted o (yielded ops a.tmps) = true then Oper.wp Tryd.prog o a w K Q else E := by
  have hw : Region.wanted o (yielded ops a.tmps) = true := by simp [Region.wanted, hgd]
  rw [if_pos hw]
  obtain ⟨i0, hi, hz0, hz1, hz2⟩ := info_parts infoH
  have hrun := run_append_owned_none (P := Tryd.prog) (w := w) base 28 o.type 22 i0 1 Tryd.underlying28 hi v l.length (vh l) hown
  unfold Oper.wp
  simp [execOp, ho, resolve, invoke, builtin, hs, hx, hrun, Result.andThen]
  exact h
set_option maxRecDepth 3000 in
set_option maxHeartbeats 6400000 in
theorem rclean_any (l : List UInt16) (ao : Option Addr) (len cap : Nat) (w : World) (hl : Hid (l.length = len)) (hs : SlH w ao l) (hlen : len ≤ 20000) :
    Calls Tryd.prog 14 #[.slice ao len cap] w fun e w' => ∃ v c, e = .returned v ∧ T.IsClean l c ∧ c.length ≤ len ∧ OwnH w' w.heap.size v c ∧ Below w.heap.size w w' := by
  have HS := hide hs
  clear hs
  go_enter Tryd.func14, Tryd.ntmps14
  go_wp2
  go_loopw [3, 4] (fun v u W => ∃ (i : Nat) (out : List UInt16), u = .int .i64 (i : Int) ∧ i ≤ len ∧ OwnH W w.heap.size v out ∧ (out = [] → v = .slice none 0 0) ∧ Below w.heap.size w W ∧ T.Rising out ∧ out.length ≤ i ∧ ∀ y, y ∈ out ↔ y ∈ l.take i) (fun _ u _ => len - (intOf u).toNat)
  case atStart => exact ⟨0, [], rfl, by omega, OwnH.nil _ _, fun _ => rfl, Below.refl _ _, List.Pairwise.nil, by simp, by simp⟩
  case round =>
    obtain ⟨i, out, rfl, hi, hO, hN, hB, hR, hol, hM⟩ := hrel
    have hz := hB.size
    by_cases hil : i < len
    · obtain ⟨b, o, rfl, hb, hc⟩ := HS.out (by rw [hl.out]; omega)
      have hx0 := hc i (by rw [hl.out]; exact hil)
      have hmn := T.mem_next l i (by rw [hl.out]; exact hil)
      obtain ⟨x, hxd⟩ : ∃ x, l.getD i 0 = x := ⟨_, rfl⟩
      rw [hxd] at hx0 hmn
      have HX0 := hide hx0
      have HMN := hide hmn
      have HM := hide hM
      have HR := hide hR
      clear hc hxd hx0 hmn hM hR
      by_cases h0 : out.length = 0
      · obtain rfl : out = [] := List.eq_nil_of_length_eq_zero h0
        obtain rfl := hN rfl
        clear hO hN hol
        go_wp2
        go_loopw [5] (fun u W => u = .int .i64 0 ∧ Below w.heap.size w W) (fun _ _ => 0)
        case atStart => exact ⟨rfl, hB⟩
        case round =>
          clear hB hz
          obtain ⟨rfl, hB⟩ := hrel
          have hz := hB.size
          have hx := (hB.cell (p := ⟨b, o + i, none⟩) hb).trans HX0.out
          go_wp2
          go_quiet (fail)
          go_wp2
          have hB2 := below_drewN hB nq
          have hx2 : (wr.drewN nq).cell? ⟨b, o + i, none⟩ = some (.int .u16 (x.toNat : Int)) := hx
          clear hB hx hz
          generalize wr.drewN nq = wr2 at hB2 hx2 ⊢
          clear nq
          go_quiet (fail)
          have hB := below_drewN hB2 nq
          have hx : (wr2.drewN nq).cell? ⟨b, o + i, none⟩ = some (.int .u16 (x.toNat : Int)) := hx2
          clear hB2 hx2
          generalize wr2.drewN nq = wr3 at hB hx ⊢
          clear nq
          have hz := hB.size
          go_wp2
          go_region_law (first
            | (refine step_append_Hnone rfl (.tmp 52) (.tmp 55) rfl w.heap.size _ [x] (by simp [Act.eval]; rfl) (by exact OwnH.build _ _ _ hz) (by simp [Act.eval]) ?_)
            | (refine step_append_H rfl (.tmp 47) (.tmp 56) rfl w.heap.size (.slice none 0 0) [] (by simp [Act.eval]) (OwnH.nil _ _) ⟨wr3.heap.size, 0, none⟩ 1 1 [x] (by simp [Act.eval]) rfl (by exact SlH.one _ _ _) (by simp) (by simp; omega) ?_; intro v4 w4 hO4 hG4; have hB4 := grown_belowH (OwnH.nil _ _) hG4 (below_drew (hB.alloc hz _)) (by show _ ≤ (wr3.alloc _).heap.size; simp; omega); clear hG4))
          all_goals
            go_wp2
            go_roundw
            case rel => exact ⟨i + 1, [x], by go_num, by omega, (by simpa using hO4), by simp, hB4, by simp [T.Rising], by simp, fun y => by
              rw [HMN.out y, ← HM.out y]; simp⟩
            case measure => simp [intOf]; omega
      · obtain ⟨g, cp, rfl, hbg, hlc, hcm, hglt, _⟩ := hO.form (by omega)
        obtain ⟨G, hG⟩ : ∃ G : Nat → UInt16, ∀ j, out.getD j 0 = G j := ⟨fun j => out.getD j 0, fun _ => rfl⟩
        have HG := hide hG
        have hcm2 : cp ≤ 9223372036854775807 := by unfold maxLen at hcm; omega
        clear hG hN hcm
        go_wp2
        go_loopw [5] (fun u W => ∃ k : Nat, u = .int .i64 (k : Int) ∧ k ≤ out.length ∧ OwnH W w.heap.size (.slice (some ⟨g, 0, none⟩) out.length cp) out ∧ Below w.heap.size w W ∧ ∀ j, j < k → (G j).toNat < x.toNat) (fun u _ => out.length - (intOf u).toNat)
        case atStart => exact ⟨0, rfl, by omega, hO, hB, fun j hj => by omega⟩
        case round =>
          clear hO hB hz hglt
          obtain ⟨k, rfl, hk, hO, hB, hlt⟩ := hrel
          have hx := (hB.cell (p := ⟨b, o + i, none⟩) hb).trans HX0.out
          have HLT := hide hlt
          have HO := hide hO
          obtain ⟨g', cp', e', _, _, _, _, hgc⟩ := hO.form (by omega)
          cases e'
          simp only [HG.out] at hgc
          clear hlt hO
          go_wp2
          by_cases hkl : k < out.length
          · have ekl : (k : Int) < (out.length : Int) := by omega
            have ene : ((k : Int) == (out.length : Int)) = false := by simp; omega
            by_cases hlt2 : (G k).toNat < x.toNat
            · have e1 : ((G k).toNat : Int) < (x.toNat : Int) := by omega
              go_quiet (fail)
              go_wp2
              go_roundw
              case rel => exact ⟨k + 1, by go_num, by omega, HO.out, below_drewN hB _, fun j hj => by
                rcases Nat.lt_or_ge j k with h | h
                · exact HLT.out j h
                · obtain rfl : j = k := by omega
                  exact hlt2⟩
              case measure => simp [intOf]; omega
            · have e1 : ¬ ((G k).toNat : Int) < (x.toNat : Int) := by omega
              go_quiet (fail)
              go_wp2
              have HO2 : Hid (OwnH (wr.drewN nq) w.heap.size (.slice (some ⟨g, 0, none⟩) out.length cp) out) := HO.out
              have hB2 := below_drewN hB nq
              have hx2 : (wr.drewN nq).cell? ⟨b, o + i, none⟩ = some (.int .u16 (x.toNat : Int)) := hx
              have hgc2 : ∀ j, j < out.length → (wr.drewN nq).cell? ⟨g, j, none⟩ = some (.int .u16 ((G j).toNat : Int)) := hgc
              clear hB hx HO hgc
              have hB := hB2
              have hx := hx2
              have HO := HO2
              have hgc := hgc2
              clear hB2 hx2 HO2 hgc2
              generalize wr.drewN nq = wr2 at hB hx HO hgc ⊢
              clear nq
              by_cases heq : (G k).toNat = x.toNat
              · have e2 : (((G k).toNat : Int) != (x.toNat : Int)) = false := by simp; omega
                have hin : x ∈ out := by
                  have e3 : out.getD k 0 = x := (HG.out k).trans (UInt16.toNat_inj.1 heq)
                  rw [← e3, List.getD_eq_getElem?_getD, List.getElem?_eq_getElem hkl]
                  exact List.getElem_mem _
                clear heq
                go_quiet (fail)
                go_wp2
                go_roundw
                case rel => exact ⟨i + 1, out, by go_num, by omega, HO.out, fun h => absurd h (by intro e; subst e; simp at hin), below_drewN hB _, HR.out, by omega, fun y => by
                  rw [HMN.out y, ← HM.out y]
                  exact ⟨Or.inr, fun h => h.elim (fun e => e ▸ hin) id⟩⟩
                case measure => simp [intOf]; omega
              · have e2 : (((G k).toNat : Int) != (x.toNat : Int)) = true := by simp; omega
                have HAT : Hid (k = out.length ∨ x.toNat < (out.getD k 0).toNat) := Or.inr (by rw [HG.out k]; omega)
                clear heq
                go_quiet (fail)
                have HO2 : Hid (OwnH (wr2.drewN nq) w.heap.size (.slice (some ⟨g, 0, none⟩) out.length cp) out) := HO.out
                have hB2 := below_drewN hB nq
                have hx2 : (wr2.drewN nq).cell? ⟨b, o + i, none⟩ = some (.int .u16 (x.toNat : Int)) := hx
                have hgc2 : ∀ j, j < out.length → (wr2.drewN nq).cell? ⟨g, j, none⟩ = some (.int .u16 ((G j).toNat : Int)) := hgc
                clear hB hx HO hgc
                have hB := hB2
                have hx := hx2
                have HO := HO2
                have hgc := hgc2
                clear hB2 hx2 HO2 hgc2
                generalize wr2.drewN nq = wr3 at hB hx HO hgc ⊢
                clear nq
                have hz := hB.size
                have hkc : k ≤ cp := by omega
                have HIR : Hid (T.Rising (out.take k ++ ([x] ++ out.drop k))) := T.ins_rising out x k hk HR.out (fun j hj => by rw [HG.out]; exact HLT.out j hj) HAT.out
                have HIM : Hid (∀ y, y ∈ out.take k ++ ([x] ++ out.drop k) ↔ y ∈ l.take (i + 1)) := fun y => (T.ins_mem out x y k).trans ((HMN.out y).trans (or_congr Iff.rfl (HM.out y).symm)).symm
                have htk : (out.take k).length = k := by rw [List.length_take]; omega
                have hdk : (out.drop k).length = out.length - k := List.length_drop
                have HTK := hide htk
                have HDK := hide hdk
                have hso : SlH wr3 (some ⟨g, 0, none⟩) out := OwnH.sl HO.out
                have HST : Hid (SlH wr3 (some ⟨g, 0, none⟩) (out.take k)) := hso.take k
                have hsd : SlH wr3 (some ⟨g, 0 + k, none⟩) (out.drop k) := SlH.drop hso hk
                rw [Nat.zero_add] at hsd
                have HSD := hide hsd
                clear htk hdk hso hsd HAT HLT HO hgc
                generalize out.take k = ot at *
                generalize out.drop k = od at *
                by_cases hck : cp = k
                · have HSR : Hid (SlH (wr3.alloc (.cells #[.int .u16 (x.toNat : Int)] 22)) (some ⟨g, 0, none⟩) od) := fun hn => by have := HDK.out; omega
                  go_wp2
                  go_region_law (first
                    | (refine step_append_H rfl (.tmp 52) (.tmp 55) rfl w.heap.size (.slice (some ⟨wr3.heap.size, 0, none⟩) 1 1) [x] (by simp [Act.eval]) (by exact OwnH.build _ _ _ hz) ⟨g, 0, none⟩ (out.length - k) (cp - k) od (by simp [Act.eval, hck]) HDK.out (by exact HSR.out) (by simp; omega) (by show _ ≤ (wr3.alloc _).heap.size; simp; omega) ?_; intro v4 w4 hO4 hG4; have hbw := grown_belowH (base := wr3.heap.size) (w := (wr3.alloc (.cells #[.int .u16 (x.toNat : Int)] 22)).drew) (OwnH.build wr3 x wr3.heap.size (Nat.le_refl _)) hG4 (below_drew ((Below.refl wr3.heap.size wr3).alloc (Nat.le_refl _) _)) (by show _ ≤ (wr3.alloc _).heap.size; simp); obtain ⟨g4, c4, rfl, _, _, _, _, _⟩ := hO4.form (by simp); have HS5 : Hid (SlH w4 (some ⟨g4, 0, none⟩) ([x] ++ od)) := OwnH.sl hO4; have HS4 : Hid (SlH w4 (some ⟨g, 0, none⟩) ot) := HST.out.below hbw (Nat.le_refl _); have hB4 := hB.trans (hbw.mono hz); have hz4 := hB4.size; clear hG4 hO4 hbw)
                    | (refine step_append_full rfl (.tmp 47) (.tmp 56) rfl w.heap.size ⟨g, 0, none⟩ ot k (by simp [Act.eval]) HTK.out (by exact HS4.out) ⟨g4, 0, none⟩ ([x] ++ od).length c4 ([x] ++ od) (by first | rfl | simp [Act.eval]) rfl (by simp) (by exact HS5.out) (by rw [List.length_append, HDK.out]; simp; omega) hz4 ?_; intro v5 w5 hO5 hG5; have hB5 := hB4.grown hG5 hz4 (fun k hk => by cases hk); have HO5 := hide hO5; clear hG5 hO5))
                  all_goals
                    go_wp2
                    go_roundw
                    case rel => exact ⟨i + 1, ot ++ ([x] ++ od), by go_num, by omega, HO5.out, by simp, hB5, HIR.out, (by rw [List.length_append, List.length_append, HTK.out, HDK.out]; simp; omega), HIM.out⟩
                    case measure => simp [intOf]; omega
                · have HSR : Hid (SlH (wr3.alloc (.cells #[.int .u16 (x.toNat : Int)] 22)) (some ⟨g, k, none⟩) od) := HSD.out.alloc _
                  go_wp2
                  go_region_law (first
                    | (refine step_append_H rfl (.tmp 52) (.tmp 55) rfl w.heap.size (.slice (some ⟨wr3.heap.size, 0, none⟩) 1 1) [x] (by simp [Act.eval]) (by exact OwnH.build _ _ _ hz) ⟨g, k, none⟩ (out.length - k) (cp - k) od (by simp [Act.eval]) HDK.out (by exact HSR.out) (by simp; omega) (by show _ ≤ (wr3.alloc _).heap.size; simp; omega) ?_; intro v4 w4 hO4 hG4; have hbw := grown_belowH (base := wr3.heap.size) (w := (wr3.alloc (.cells #[.int .u16 (x.toNat : Int)] 22)).drew) (OwnH.build wr3 x wr3.heap.size (Nat.le_refl _)) hG4 (below_drew ((Below.refl wr3.heap.size wr3).alloc (Nat.le_refl _) _)) (by show _ ≤ (wr3.alloc _).heap.size; simp); obtain ⟨g4, c4, rfl, _, _, _, _, _⟩ := hO4.form (by simp); have HS5 : Hid (SlH w4 (some ⟨g4, 0, none⟩) ([x] ++ od)) := OwnH.sl hO4; have HS4 : Hid (SlH w4 (some ⟨g, 0, none⟩) ot) := HST.out.below hbw (Nat.le_refl _); have hB4 := hB.trans (hbw.mono hz); have hz4 := hB4.size; clear hG4 hO4 hbw)
                    | (refine step_append_full rfl (.tmp 47) (.tmp 56) rfl w.heap.size ⟨g, 0, none⟩ ot k (by simp [Act.eval]) HTK.out (by exact HS4.out) ⟨g4, 0, none⟩ ([x] ++ od).length c4 ([x] ++ od) (by first | rfl | simp [Act.eval]) rfl (by simp) (by exact HS5.out) (by rw [List.length_append, HDK.out]; simp; omega) hz4 ?_; intro v5 w5 hO5 hG5; have hB5 := hB4.grown hG5 hz4 (fun k hk => by cases hk); have HO5 := hide hO5; clear hG5 hO5))
                  all_goals
                    go_wp2
                    go_roundw
                    case rel => exact ⟨i + 1, ot ++ ([x] ++ od), by go_num, by omega, HO5.out, by simp, hB5, HIR.out, (by rw [List.length_append, List.length_append, HTK.out, HDK.out]; simp; omega), HIM.out⟩
                    case measure => simp [intOf]; omega
          · have ekl : decide ((k : Int) < (out.length : Int)) = false := decide_eq_false (by omega)
            have eeq : ((k : Int) == (out.length : Int)) = true := by simp; omega
            have HAT : Hid (k = out.length ∨ x.toNat < (out.getD k 0).toNat) := Or.inl (by omega)
            go_quiet (fail)
            go_wp2
            have HO2 : Hid (OwnH (wr.drewN nq) w.heap.size (.slice (some ⟨g, 0, none⟩) out.length cp) out) := HO.out
            have hB2 := below_drewN hB nq
            have hx2 : (wr.drewN nq).cell? ⟨b, o + i, none⟩ = some (.int .u16 (x.toNat : Int)) := hx
            have hgc2 : ∀ j, j < out.length → (wr.drewN nq).cell? ⟨g, j, none⟩ = some (.int .u16 ((G j).toNat : Int)) := hgc
            clear hB hx HO hgc
            have hB := hB2
            have hx := hx2
            have HO := HO2
            have hgc := hgc2
            clear hB2 hx2 HO2 hgc2
            generalize wr.drewN nq = wr2 at hB hx HO hgc ⊢
            clear nq
            go_quiet (fail)
            have HO2 : Hid (OwnH (wr2.drewN nq) w.heap.size (.slice (some ⟨g, 0, none⟩) out.length cp) out) := HO.out
            have hB2 := below_drewN hB nq
            have hx2 : (wr2.drewN nq).cell? ⟨b, o + i, none⟩ = some (.int .u16 (x.toNat : Int)) := hx
            have hgc2 : ∀ j, j < out.length → (wr2.drewN nq).cell? ⟨g, j, none⟩ = some (.int .u16 ((G j).toNat : Int)) := hgc
            clear hB hx HO hgc
            have hB := hB2
            have hx := hx2
            have HO := HO2
            have hgc := hgc2
            clear hB2 hx2 HO2 hgc2
            generalize wr2.drewN nq = wr3 at hB hx HO hgc ⊢
            clear nq
            have hz := hB.size
            have hkc : k ≤ cp := by omega
            have HIR : Hid (T.Rising (out.take k ++ ([x] ++ out.drop k))) := T.ins_rising out x k hk HR.out (fun j hj => by rw [HG.out]; exact HLT.out j hj) HAT.out
            have HIM : Hid (∀ y, y ∈ out.take k ++ ([x] ++ out.drop k) ↔ y ∈ l.take (i + 1)) := fun y => (T.ins_mem out x y k).trans ((HMN.out y).trans (or_congr Iff.rfl (HM.out y).symm)).symm
            have htk : (out.take k).length = k := by rw [List.length_take]; omega
            have hdk : (out.drop k).length = out.length - k := List.length_drop
            have HTK := hide htk
            have HDK := hide hdk
            have hso : SlH wr3 (some ⟨g, 0, none⟩) out := OwnH.sl HO.out
            have HST : Hid (SlH wr3 (some ⟨g, 0, none⟩) (out.take k)) := hso.take k
            have hsd : SlH wr3 (some ⟨g, 0 + k, none⟩) (out.drop k) := SlH.drop hso hk
            rw [Nat.zero_add] at hsd
            have HSD := hide hsd
            clear htk hdk hso hsd HAT HLT HO hgc
            generalize out.take k = ot at *
            generalize out.drop k = od at *
            by_cases hck : cp = k
            · have HSR : Hid (SlH (wr3.alloc (.cells #[.int .u16 (x.toNat : Int)] 22)) (some ⟨g, 0, none⟩) od) := fun hn => by have := HDK.out; omega
              go_wp2
              go_region_law (first
                | (refine step_append_H rfl (.tmp 52) (.tmp 55) rfl w.heap.size (.slice (some ⟨wr3.heap.size, 0, none⟩) 1 1) [x] (by simp [Act.eval]) (by exact OwnH.build _ _ _ hz) ⟨g, 0, none⟩ (out.length - k) (cp - k) od (by simp [Act.eval, hck]) HDK.out (by exact HSR.out) (by simp; omega) (by show _ ≤ (wr3.alloc _).heap.size; simp; omega) ?_; intro v4 w4 hO4 hG4; have hbw := grown_belowH (base := wr3.heap.size) (w := (wr3.alloc (.cells #[.int .u16 (x.toNat : Int)] 22)).drew) (OwnH.build wr3 x wr3.heap.size (Nat.le_refl _)) hG4 (below_drew ((Below.refl wr3.heap.size wr3).alloc (Nat.le_refl _) _)) (by show _ ≤ (wr3.alloc _).heap.size; simp); obtain ⟨g4, c4, rfl, _, _, _, _, _⟩ := hO4.form (by simp); have HS5 : Hid (SlH w4 (some ⟨g4, 0, none⟩) ([x] ++ od)) := OwnH.sl hO4; have HS4 : Hid (SlH w4 (some ⟨g, 0, none⟩) ot) := HST.out.below hbw (Nat.le_refl _); have hB4 := hB.trans (hbw.mono hz); have hz4 := hB4.size; clear hG4 hO4 hbw)
                | (refine step_append_full rfl (.tmp 47) (.tmp 56) rfl w.heap.size ⟨g, 0, none⟩ ot k (by simp [Act.eval]) HTK.out (by exact HS4.out) ⟨g4, 0, none⟩ ([x] ++ od).length c4 ([x] ++ od) (by first | rfl | simp [Act.eval]) rfl (by simp) (by exact HS5.out) (by rw [List.length_append, HDK.out]; simp; omega) hz4 ?_; intro v5 w5 hO5 hG5; have hB5 := hB4.grown hG5 hz4 (fun k hk => by cases hk); have HO5 := hide hO5; clear hG5 hO5))
              all_goals
                go_wp2
                go_roundw
                case rel => exact ⟨i + 1, ot ++ ([x] ++ od), by go_num, by omega, HO5.out, by simp, hB5, HIR.out, (by rw [List.length_append, List.length_append, HTK.out, HDK.out]; simp; omega), HIM.out⟩
                case measure => simp [intOf]; omega
            · have HSR : Hid (SlH (wr3.alloc (.cells #[.int .u16 (x.toNat : Int)] 22)) (some ⟨g, k, none⟩) od) := HSD.out.alloc _
              go_wp2
              go_region_law (first
                | (refine step_append_H rfl (.tmp 52) (.tmp 55) rfl w.heap.size (.slice (some ⟨wr3.heap.size, 0, none⟩) 1 1) [x] (by simp [Act.eval]) (by exact OwnH.build _ _ _ hz) ⟨g, k, none⟩ (out.length - k) (cp - k) od (by simp [Act.eval]) HDK.out (by exact HSR.out) (by simp; omega) (by show _ ≤ (wr3.alloc _).heap.size; simp; omega) ?_; intro v4 w4 hO4 hG4; have hbw := grown_belowH (base := wr3.heap.size) (w := (wr3.alloc (.cells #[.int .u16 (x.toNat : Int)] 22)).drew) (OwnH.build wr3 x wr3.heap.size (Nat.le_refl _)) hG4 (below_drew ((Below.refl wr3.heap.size wr3).alloc (Nat.le_refl _) _)) (by show _ ≤ (wr3.alloc _).heap.size; simp); obtain ⟨g4, c4, rfl, _, _, _, _, _⟩ := hO4.form (by simp); have HS5 : Hid (SlH w4 (some ⟨g4, 0, none⟩) ([x] ++ od)) := OwnH.sl hO4; have HS4 : Hid (SlH w4 (some ⟨g, 0, none⟩) ot) := HST.out.below hbw (Nat.le_refl _); have hB4 := hB.trans (hbw.mono hz); have hz4 := hB4.size; clear hG4 hO4 hbw)
                | (refine step_append_full rfl (.tmp 47) (.tmp 56) rfl w.heap.size ⟨g, 0, none⟩ ot k (by simp [Act.eval]) HTK.out (by exact HS4.out) ⟨g4, 0, none⟩ ([x] ++ od).length c4 ([x] ++ od) (by first | rfl | simp [Act.eval]) rfl (by simp) (by exact HS5.out) (by rw [List.length_append, HDK.out]; simp; omega) hz4 ?_; intro v5 w5 hO5 hG5; have hB5 := hB4.grown hG5 hz4 (fun k hk => by cases hk); have HO5 := hide hO5; clear hG5 hO5))
              all_goals
                go_wp2
                go_roundw
                case rel => exact ⟨i + 1, ot ++ ([x] ++ od), by go_num, by omega, HO5.out, by simp, hB5, HIR.out, (by rw [List.length_append, List.length_append, HTK.out, HDK.out]; simp; omega), HIM.out⟩
                case measure => simp [intOf]; omega
    · obtain rfl : i = len := by omega
      go_wp2
      go_ret
      refine ⟨_, out, rfl, ⟨hR, fun y => ?_⟩, hol, hO, hB⟩
      rw [hM y, List.take_of_length_le (by rw [hl.out]; exact Nat.le_refl _)]
end Go.Proofs.YtikjhacgihohiaaDoor
