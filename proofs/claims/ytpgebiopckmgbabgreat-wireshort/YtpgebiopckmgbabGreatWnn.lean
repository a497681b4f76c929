/- (*wire.writer).name. -/
import Derived.Test.YtpgebiopckmgbabGreatMpv
import Derived.Test.YtpgebiopckmgbabGreatWrt
import Derived.Deep.RegionHeld3
import Derived.Deep.RegionLaw
namespace Go.Proofs.YtpgebiopckmgbabGreat
open Go.RowKit
/- what writing a name keeps: all below base, and whatever is no bytes, but the writer and its map -/
def KpN (base W b : Nat) (w w' : World) : Prop := Below base w w' ∧ ∀ (k : Nat) (o : Obj), w.heap[k]? = some o → k ≠ W → k ≠ b → (∀ c fr, o ≠ .cells c 5 fr) → w'.heap[k]? = some o
set_option maxRecDepth 5000 in
theorem KpN.refl (base W b : Nat) (w : World) : KpN base W b w w := ⟨Below.refl _ _, fun _ _ h _ _ _ => h⟩
set_option maxRecDepth 5000 in
theorem KpN.trans {base W b : Nat} {x y z : World} (h : KpN base W b x y) (g : KpN base W b y z) : KpN base W b x z := ⟨h.1.trans g.1, fun k o h1 h2 h4 h3 => g.2 k o (h.2 k o h1 h2 h4 h3) h2 h4 h3⟩
set_option maxRecDepth 5000 in
theorem KpW.kpN {base W b : Nat} {w w' : World} (h : KpW base W w w') : KpN base W b w w' := ⟨h.1, fun k o h1 h2 _ h3 => h.2 k o h1 h2 h3⟩
set_option maxRecDepth 5000 in
theorem KpN.row {base W b g t : Nat} {w w' : World} {c : Array Value} (h : KpN base W b w w') (hr : RowAt w g t c) (hg : g ≠ W) (hgb : g ≠ b) (ht : t ≠ 5) : RowAt w' g t c := by
  unfold RowAt at hr ⊢
  exact h.2 g _ hr hg hgb (fun c' fr e => by cases e; exact ht rfl)
set_option maxRecDepth 5000 in
theorem KpN.drew {base W b : Nat} {w w' : World} (h : KpN base W b w w') : KpN base W b w w'.drew := ⟨h.1.drew, h.2⟩
set_option maxRecDepth 5000 in
theorem KpN.map {base W b : Nat} {w w' : World} (hg : w.grownBy w' (some b)) (hb : base ≤ b) (hz : base ≤ w.heap.size) : KpN base W b w w' :=
  ⟨⟨hg.os, hg.tape, hg.output, hg.size, fun k hk => hg.block k (by omega) (fun e => by cases e; omega)⟩, fun k o h1 _ h4 _ => by
    rw [hg.block k (Array.getElem?_eq_some_iff.1 h1).1 (fun e => by cases e; exact h4 rfl)]; exact h1⟩
set_option maxRecDepth 5000 in
theorem KpN.of {base W b : Nat} {w w' : World} (h : Below w.heap.size w w') (hz : base ≤ w.heap.size) : KpN base W b w w' := ⟨h.mono hz, fun k o h1 _ _ _ => by rw [h.block k (Array.getElem?_eq_some_iff.1 h1).1]; exact h1⟩
/- append in a region that draws, and where the bytes lie then -/
set_option maxRecDepth 5000 in
theorem run_append_Bat {w : World} {base : Nat} {v : Value} {l : List UInt8} (ty : TypeId) (hown : OwnB w base v l) (ad : Addr) (m c : Nat) (l2 : List UInt8) (hm : l2.length = m) (hsrc : SlL w (some ad) l2) (hbound : l.length + m ≤ 1099511627776) (hbase : base ≤ w.heap.size) :
    ∃ v' w', (Builtin.append_ #[33, 33] ty #[v, .slice (some ad) m c]).run Tryz.prog w = .ok v' w' ∧ OwnB w' base v' (l ++ l2) ∧ w.grownBy w' v.ownBlock ∧ (v'.ownBlock = v.ownBlock ∨ v'.ownBlock = some w.heap.size) := by
  obtain ⟨i0, hi, hz0, hz1, hz2⟩ := info_parts infoB
  subst hm
  obtain ⟨v', w', h1, h2, h3, _, h4⟩ := run_append_own_at (P := Tryz.prog) w base 33 ty 5 i0 (.int .u8 0) 1 1 Tryz.underlying33 hi hz0 hz1 hz2 rfl (by decide) v l.length (vb l) hown ad l2.length c (vb l2) (by rw [vb_len, Nat.mul_one]) (by
    intro j u hu
    have hj : j < l2.length := by have := (List.getElem?_eq_some_iff.1 hu).1; rwa [vb_len] at this
    obtain ⟨b, o', e, _, hc⟩ := hsrc (by omega)
    cases e
    rw [Addr.add_mid, hc j hj, ← vb_get l2 j hj, hu]) (vb_one l2) (by unfold maxLen; omega) (by omega) hbase
  exact ⟨v', w', h1, by unfold OwnB; rw [List.length_append, vb_app]; exact h2, h3, h4⟩
set_option maxRecDepth 5000 in
theorem step_append_Bat {ops : Array Oper} {o : Oper} {a : Act} {w : World} {K : Act → World → Prop} {Q : Exit → Act → World → Prop} {E : Prop} (hgd : o.guard = none) (s x : Operand)
    (ho : o.op = .call { callee := .builtin .append, args := #[s, x], argTypes := #[33, 33] }) (base : Nat) (v : Value) (l : List UInt8) (hs : a.eval s = v) (hown : OwnB w base v l)
    (ad : Addr) (m c : Nat) (l2 : List UInt8) (hx : a.eval x = .slice (some ad) m c) (hm : l2.length = m) (hsrc : SlL w (some ad) l2) (hbound : l.length + m ≤ 1099511627776) (hbase : base ≤ w.heap.size)
    (h : ∀ v' w', OwnB w' base v' (l ++ l2) → w.grownBy w' v.ownBlock → (v'.ownBlock = v.ownBlock ∨ v'.ownBlock = some w.heap.size) → K (a.put o.dst v') w') : if Region.wanted o (yielded ops a.tmps) = true then Oper.wp Tryz.prog o a w K Q else E := by
  have hw : Region.wanted o (yielded ops a.tmps) = true := by simp [Region.wanted, hgd]
  rw [if_pos hw]
  obtain ⟨v', w', hr, h2, h3, h4⟩ := run_append_Bat o.type hown ad m c l2 hm hsrc hbound hbase
  unfold Oper.wp execOp
  simp only [ho, resolve, invoke, builtin, Sem.run_bind, Sem.run_pure, Result.andThen_ok, List.map_toArray, List.map_cons, List.map_nil, hs, hx, hr]
  exact h v' w' h2 h3 h4
set_option maxRecDepth 5000 in
theorem N.wire_cons (l : List UInt8) (r : List (List UInt8)) : N.wire (l :: r) = UInt8.ofNat l.length :: (l ++ N.wire r) := by simp [N.wire, N.body]
set_option maxRecDepth 5000 in
theorem or_ptr (p : Nat) (h : p < 16384) : bits .or .u16 49152 (p : Int) = ((49152 + p : Nat) : Int) := by
  have h1 : bits .or .u16 49152 (p : Int) = IntKind.u16.wrap (((BitVec.ofInt 16 49152 ||| BitVec.ofInt 16 (p : Int)).toNat : Nat) : Int) := rfl
  have h2 : (BitVec.ofInt 16 49152 ||| BitVec.ofInt 16 (p : Int)).toNat = 49152 + p := by
    have e1 : BitVec.ofInt 16 49152 = BitVec.ofNat 16 49152 := by decide
    have e2 : BitVec.ofInt 16 (p : Int) = BitVec.ofNat 16 p := by simp
    rw [e1, e2, BitVec.toNat_or, BitVec.toNat_ofNat, BitVec.toNat_ofNat, Nat.mod_eq_of_lt (by omega), Nat.mod_eq_of_lt (by omega)]
    have := Nat.two_pow_add_eq_or_of_lt (i := 14) (b := p) (by omega) 3
    simpa using this.symm
  rw [h1, h2, IntKind.wrap_u16]; omega
end Go.Proofs.YtpgebiopckmgbabGreat

/- (*wire.writer).name: the walk. -/
namespace Go.Proofs.YtpgebiopckmgbabGreat
open Go.RowKit
/- the rounds: what is left to be written is r, at the bytes from o on of block gr -/
structure WI (base W b gr X Y : Nat) (res : (List UInt8 → Option Nat) × List UInt8) (w : World) (r : List (List UInt8)) (o ln c : Nat) (wr : World) : Prop where
  sl : SlL wr (some ⟨gr, o, none⟩) (N.wire r)
  len : (N.wire r).length = ln
  cap : ln ≤ c
  kp : KpN base W b w wr
  lab : ∀ l ∈ r, l.length ≤ 63
  st : ∃ v mp out M', RowAt wr W 60 #[v, .map (some b)] ∧ OwnB wr base v out ∧ v.ownBlock ≠ some gr ∧ MapAt wr b mp M' ∧ M.wname r mp out = res ∧ M' + r.length ≤ X ∧ out.length + ln ≤ Y
set_option maxRecDepth 5000 in
theorem SlL.cut {w : World} {g o : Nat} {l x y : List UInt8} (h : SlL w (some ⟨g, o, none⟩) l) (e : l = x ++ y) : SlL w (some ⟨g, o, none⟩) x ∧ SlL w (some ⟨g, o + x.length, none⟩) y := by
  subst e
  refine ⟨fun hn => ?_, fun hn => ?_⟩
  · obtain ⟨b', o', e, hlt, hc⟩ := h (by simp; omega)
    cases e
    refine ⟨g, o, rfl, hlt, fun j hj => ?_⟩
    rw [hc j (by simp; omega)]
    simp [List.getD, List.getElem?_append_left hj]
  · obtain ⟨b', o', e, hlt, hc⟩ := h (by simp; omega)
    cases e
    refine ⟨g, o + x.length, rfl, hlt, fun j hj => ?_⟩
    rw [Nat.add_assoc, hc (x.length + j) (by simp; omega)]
    simp [List.getD, List.getElem?_append_right]
set_option maxRecDepth 5000 in
theorem MapAt.low {w : World} {b N : Nat} {mp : List UInt8 → Option Nat} (h : MapAt w b mp N) (s : List UInt8) (p : Nat) (hp : mp s = some p) : p < 16384 := by
  obtain ⟨D, _, hv⟩ := h; exact hv.low s p hp
set_option maxRecDepth 5000 in
theorem MapAt.kpW {w w' : World} {base W b N : Nat} {mp : List UInt8 → Option Nat} (h : MapAt w b mp N) (hk : KpW base W w w') (hb : b ≠ W) : MapAt w' b mp N := by
  obtain ⟨es, cl, h1⟩ := h.obj
  exact h.heap (by rw [h1]; exact hk.2 b _ h1 hb (fun c fr e => by cases e))
set_option maxRecDepth 5000 in
theorem KpW.grown {base W : Nat} {w w' : World} {v : Value} {l : List UInt8} (hO : OwnB w base v l) (hg : w.grownBy w' v.ownBlock) (hb : base ≤ w.heap.size) : KpW base W w w' := by
  refine ⟨(Kp.grown hO hg hb).1, fun k o h1 _ h3 => ?_⟩
  have hk : k < w.heap.size := (Array.getElem?_eq_some_iff.1 h1).1
  rw [hg.block k hk (fun q => ?_)]
  · exact h1
  · obtain ⟨cur, h⟩ := own_ty (show World.ownsRow _ _ _ _ _ _ _ from hO) q.symm
    rw [h1] at h
    cases h
    exact h3 _ _ rfl
set_option maxRecDepth 5000 in
theorem WI.next {base W b gr X Y N4 o ln c : Nat} {res : (List UInt8 → Option Nat) × List UInt8} {w wy w8 : World} {r : List (List UInt8)} {mp4 : List UInt8 → Option Nat} {out2 x : List UInt8} {v2 v8 : Value}
    (hK : KpN base W b w wy) (hR : RowAt wy W 60 #[v2, .map (some b)]) (hO : OwnB wy base v2 out2) (hne : v2.ownBlock ≠ some gr) (hM : MapAt wy b mp4 N4) (hsl : SlL wy (some ⟨gr, o, none⟩) (N.wire r)) (hlen : (N.wire r).length = ln) (hc : ln ≤ c) (hlab : ∀ l ∈ r, l.length ≤ 63)
    (hO8 : OwnB w8 base v8 (out2 ++ x)) (hG8 : wy.drew.grownBy w8 v2.ownBlock) (hat : v8.ownBlock = v2.ownBlock ∨ v8.ownBlock = some wy.drew.heap.size) (hgr : gr ≠ W) (hbW : base ≤ W) (hbne : b ≠ W) (hz : base ≤ wy.heap.size)
    (hres : M.wname r mp4 (out2 ++ x) = res) (hX : N4 + r.length ≤ X) (hY : (out2 ++ x).length + ln ≤ Y) : WI base W b gr X Y res w r o ln c (w8.setCell ⟨W, 0, none⟩ v8) := by
  have hO' : OwnB wy.drew base v2 out2 := hO
  have hR' : RowAt wy.drew W 60 #[v2, .map (some b)] := hR
  have hlt : gr < wy.heap.size := by
    obtain ⟨b', o', e, h, _⟩ := hsl (by simp [N.wire])
    cases e; exact h
  have hR8 : RowAt w8 W 60 #[v2, .map (some b)] := row_grown (show World.ownsRow _ _ _ _ _ _ _ from hO') hR' (by decide) hG8
  have k8 : KpW base W wy.drew w8 := KpW.grown hO' hG8 hz
  have kF : KpW base W wy.drew (w8.setCell ⟨W, 0, none⟩ v8) := k8.trans (KpW.set hbW 0 v8)
  have ms := Mv.set W 0 w8 v8
  have s8 : SlL w8 (some ⟨gr, o, none⟩) (N.wire r) := (show SlL wy.drew _ _ from hsl).grown hG8 (fun _ b' o' e => by cases e; exact fun e2 => hne e2.symm)
  refine ⟨s8.grown ms (fun _ b' o' e => by cases e; intro e2; cases e2; exact hgr rfl), hlen, hc, hK.drew.trans kF.kpN, hlab, v8, mp4, out2 ++ x, N4, hR8.set 0 v8, ?_, ?_, (show MapAt wy.drew b mp4 N4 from hM).kpW kF hbne, hres, hX, hY⟩
  · exact own_mv (show World.ownsRow _ _ _ _ _ _ _ from hO8) hR8 (by decide) ms
  · rcases hat with e | e
    · rw [e]; exact hne
    · rw [e]; intro e2
      have e3 : wy.heap.size = gr := by injection e2
      omega
set_option maxRecDepth 5000 in
theorem wname_none (l : List UInt8) (r : List (List UInt8)) (mp : List UInt8 → Option Nat) (out : List UInt8) (h : mp (N.wire (l :: r)) = none) : M.wname (l :: r) mp out = M.wname r (if out.length < 16384 then M.wput mp (N.wire (l :: r)) out.length else mp) (out ++ UInt8.ofNat l.length :: l) := by
  simp only [M.wname, h]
set_option maxRecDepth 5000 in
theorem wname_some (l : List UInt8) (r : List (List UInt8)) (mp : List UInt8 → Option Nat) (out : List UInt8) (p : Nat) (h : mp (N.wire (l :: r)) = some p) : M.wname (l :: r) mp out = (mp, out ++ D.p16 (49152 + p)) := by
  simp only [M.wname, h]
set_option maxRecDepth 3000 in
set_option maxHeartbeats 2000000 in
theorem wrname_any (base W b Nm : Nat) (v : Value) (out : List UInt8) (mp : List UInt8 → Option Nat) (n : List (List UInt8)) (ao : Option Addr) (len cap : Nat) (w : World) (hl : Hid (n.length = len)) (hs : SlS w ao n) (hn : Hid (∀ l ∈ n, l.length ≤ 63)) (hlen : len ≤ 1000)
    (hR : RowAt w W 60 #[v, .map (some b)]) (hO : OwnB w base v out) (hM : MapAt w b mp Nm) (hbW : base ≤ W) (hbb : base ≤ b) (hout : out.length ≤ 900000) (hNm : Nm ≤ 900000) :
    Calls Tryz.prog 29 #[.pointer (some ⟨W, 0, none⟩), .slice ao len cap] w fun e w' => e = .returned (.tuple #[]) ∧ ∃ v' M', RowAt w' W 60 #[v', .map (some b)] ∧ OwnB w' base v' (M.wname n mp out).2 ∧ MapAt w' b (M.wname n mp out).1 M' ∧ M' ≤ Nm + 1000 ∧ KpN base W b w w' := by
  have hWlt := hR.lt
  have hblt := hM.lt
  have HR := hide hR
  have HO := hide hO
  have HM := hide hM
  have hbne : b ≠ W := by
    rintro rfl
    obtain ⟨es, cl, h1⟩ := hM.obj
    unfold RowAt at hR
    rw [h1] at hR; cases hR
  have hsm : Hid (N.Small n) := ⟨by have := hl.out; omega, fun l h => by have := hn.out l h; omega⟩
  have HSZ : Hid ((N.wire n).length ≤ 70000) := by
    show _ ≤ _
    rw [N.wire_len]; unfold N.size
    have h1 : ∀ (q : List (List UInt8)), (∀ l ∈ q, l.length ≤ 63) → (q.map (fun l => l.length + 1)).sum ≤ 64 * q.length := by
      intro q
      induction q with
      | nil => simp
      | cons a q ih =>
        intro h
        have h2 := ih (fun l hl => h l (by simp [hl]))
        have h3 := h a (by simp)
        simp only [List.map_cons, List.sum_cons, List.length_cons]; omega
    have h2 := h1 n hn.out
    have h3 := hl.out
    omega
  clear hR hO hM
  go_enter Tryz.func29, Tryz.ntmps29
  go_wp2_with fail
  refine (wire_any n ao len cap _ hl (by exact hs) hsm).mono ?_
  rintro e w1 ⟨v1, rfl, hO1, hB1⟩
  have hpos : 0 < (N.wire n).length := by simp [N.wire]
  obtain ⟨gr, c1, rfl, hgr, hc1, _, _, _⟩ := hO1.form hpos
  have hsl := hO1.sl
  obtain ⟨res, HRES⟩ : ∃ res, Hid (M.wname n mp out = res) := ⟨_, rfl⟩
  have HW1 : Hid (WI base W b gr (Nm + 1000) 1000000 res w n 0 (N.wire n).length c1 w1) :=
    ⟨hsl, rfl, hc1, KpN.of hB1 (by omega), hn.out, v, mp, out, Nm, HR.out.below hB1 hWlt, HO.out.below hB1, fun e => by have := (HO.out.blk e.symm).2; omega, HM.out.heap (hB1.block b hblt), HRES.out, by have := hl.out; omega, by have := HSZ.out; omega⟩
  clear hsl hO1 hB1 hpos
  go_wp2
  go_loopw [4] (fun u wr => ∃ (r : List (List UInt8)) (o ln c : Nat), u = .slice (some ⟨gr, o, none⟩) ln c ∧ Hid (WI base W b gr (Nm + 1000) 1000000 res w r o ln c wr)) (fun u _ => match u with | .slice _ ln _ => ln | _ => 0)
  case atStart => exact ⟨n, 0, _, c1, rfl, HW1⟩
  case round =>
    clear HW1
    obtain ⟨r, o, ln, c, rfl, HI⟩ := hrel
    obtain ⟨v2, mp2, out2, M2, hR2, hO2, hne2, hM2, hres2, hX2, hY2⟩ := HI.out.st
    obtain ⟨a2, c2, rfl, _⟩ := hO2.open
    obtain ⟨L2, HL2⟩ : ∃ L2, Hid (out2.length = L2) := ⟨_, rfl⟩
    rw [HL2.out] at hR2 hO2 hne2 hY2
    have hlt2 := hR2.lt
    have HR2 := hide hR2
    have HO2 := hide hO2
    have HNE2 := hide hne2
    have HM2 := hide hM2
    have HRS2 := hide hres2
    have x0 : wr.cell? ⟨W, 0, none⟩ = some (.slice a2 L2 c2) := hR2.cell 0
    have x1 : wr.cell? ⟨W, 1, none⟩ = some (.map (some b)) := hR2.cell 1
    have hcap := HI.out.cap
    have hB2 := HI.out.kp.1
    have hz2 := hB2.size
    clear hR2 hO2 hne2 hM2 hres2
    cases r with
    | nil =>
      obtain rfl : ln = 1 := by have := HI.out.len; simpa [N.wire, N.body] using this.symm
      have hd1 : decide ((1 : Int) < ((1 : Nat) : Int)) = false := by decide
      go_wp2_with (at_builtin; refine wpList_append_B rfl (.tmp 69) (.tmp 70) rfl base _ out2 rfl (by exact HO2.out.alloc _) _ _ _ [0] rfl rfl (by exact SlL.litm wr [0] _ 5 (0, 0) rfl) (by intro h; cases h) (by rw [HL2.out]; omega) (by simp; omega) ?_; intro v4 w4 hO4 hG4; have K4 := hide (KpW.app (W := W) HO2.out hG4 (by omega)); have R4 := hide ((Kp.app HO2.out hG4 (by omega)).2 _ _ _ HR2.out (by decide)); obtain ⟨a4, c4, rfl, _⟩ := hO4.open; have O4 := hide hO4; have y0 : w4.cell? ⟨W, 0, none⟩ = some (.slice a2 L2 c2) := R4.out.cell 0; have g0 : w4.frozen? ⟨W, 0, none⟩ = false := R4.out.frozen 0; clear hO4 hG4)
      have ms := Mv.set W 0 w4 (.slice a4 (out2 ++ [0]).length c4)
      have RF := hide (R4.out.set 0 (.slice a4 (out2 ++ [0]).length c4))
      have OF : Hid (OwnB (w4.setCell ⟨W, 0, none⟩ (.slice a4 (out2 ++ [0]).length c4)) base (.slice a4 (out2 ++ [0]).length c4) (out2 ++ [0])) := hide (own_mv (show World.ownsRow _ _ _ _ _ _ _ from O4.out) R4.out (by decide) ms)
      have KF := hide (K4.out.trans (KpW.set hbW 0 (.slice a4 (out2 ++ [0]).length c4)))
      have MF := hide (HM2.out.kpW KF.out hbne)
      have e9 : (out2 ++ [0]).length = out2.length + 1 := by simp
      rw [e9] at RF OF KF MF
      have HRN : Hid (res = (mp2, out2 ++ [0])) := by show _ = _; rw [← HRS2.out]; rfl
      clear ms K4 R4 O4
      simp [bodyPost, results, Tryz.results29, go_sem]
      rw [HRES.out, HRN.out]
      exact ⟨_, RF.out, OF.out, _, MF.out, by simp at hX2; omega, HI.out.kp.trans KF.out.kpN⟩
    | cons l r =>
      have hll := HI.out.lab l (by simp)
      have hlen2 := HI.out.len
      rw [N.wire_cons] at hlen2
      simp only [List.length_cons, List.length_append] at hlen2
      have hrl : 1 ≤ (N.wire r).length := by simp [N.wire]
      have hd1 : decide ((1 : Int) < (ln : Int)) = true := by simp; omega
      obtain ⟨key, HKEY⟩ : ∃ key, Hid (N.wire (l :: r) = key) := ⟨_, rfl⟩
      have hkl : key.length = ln := by rw [← HKEY.out]; exact HI.out.len
      have HS2 : Hid (∀ w', SlL w' (some ⟨gr, o, none⟩) key → (convert 33 9 (.slice (some ⟨gr, o, none⟩) ln c)).run Tryz.prog w' = .ok (.string ⟨key.toArray⟩) w') := fun w' h => run_str ln c h hkl
      have hsl2 : SlL wr (some ⟨gr, o, none⟩) key := by rw [← HKEY.out]; exact HI.out.sl
      have hcv := HS2.out wr hsl2
      have hcvd := HS2.out wr.drew hsl2
      have hlk := HM2.out.look key (by omega)
      have hlkd := HM2.out.drew.look key (by omega)
      have HSL2 := hide hsl2
      clear hsl2
      cases hmp : mp2 key with
      | some p =>
        have hp := (HM2.out).low key p hmp
        rw [hmp] at hlk hlkd
        simp only [Option.getD_some, Option.isSome_some] at hlk hlkd
        have hor := or_ptr p hp
        have hw16 : IntKind.u16.wrap (p : Int) = (p : Int) := by rw [IntKind.wrap_u16]; omega
        go_wp2
        go_region_held3 (fun w' => w'.cell? ⟨W, 1, none⟩ = some (.map (some b)) ∧ (convert 33 9 (.slice (some ⟨gr, o, none⟩) ln c)).run Tryz.prog w' = .ok (.string ⟨key.toArray⟩) w' ∧ (Instr.lookup 58 (.map (some b)) (.string ⟨key.toArray⟩) true).run Tryz.prog w' = .ok (.tuple #[.int .i64 (p : Int), .bool true]) w') (first | exact ⟨x1, hcv, hlk⟩ | exact ⟨x1, hcvd, hlkd⟩ | fail) (fail)
        clear hcv hcvd hlk hlkd x0 x1
        have HRN : Hid (res = (mp2, out2 ++ D.p16 (49152 + p))) := by show _ = _; rw [← HRS2.out]; exact wname_some l r mp2 out2 p (by rw [HKEY.out]; exact hmp)
        go_wp2_with fail
        refine (wr16_any base W (49152 + p) (.slice a2 L2 c2) (.map (some b)) out2 _ (by omega) (by exact HR2.out) (by exact HO2.out) hbW (by rw [HL2.out]; omega)).mono ?_
        rintro e w9 ⟨rfl, v9, hR9, hO9, hK9⟩
        have M9 := hide ((show MapAt wr.drew b mp2 M2 from HM2.out).kpW hK9 hbne)
        have R9 := hide hR9
        have O9 := hide hO9
        have K9 := hide hK9
        clear hR9 hO9 hK9
        go_wp2
        simp [bodyPost, results, Tryz.results29, go_sem]
        rw [HRES.out, HRN.out]
        exact ⟨_, R9.out, O9.out, _, M9.out, by omega, HI.out.kp.drew.trans K9.out.kpN⟩
      | none =>
        rw [hmp] at hlk hlkd
        simp only [Option.getD_none, Option.isSome_none] at hlk hlkd
        go_wp2
        go_region_held3 (fun w' => w'.cell? ⟨W, 1, none⟩ = some (.map (some b)) ∧ (convert 33 9 (.slice (some ⟨gr, o, none⟩) ln c)).run Tryz.prog w' = .ok (.string ⟨key.toArray⟩) w' ∧ (Instr.lookup 58 (.map (some b)) (.string ⟨key.toArray⟩) true).run Tryz.prog w' = .ok (.tuple #[.int .i64 ((0 : Nat) : Int), .bool false]) w') (first | exact ⟨x1, hcv, hlk⟩ | exact ⟨x1, hcvd, hlkd⟩ | fail) (fail)
        have HR3 : Hid (RowAt wr.drew W 60 #[.slice a2 L2 c2, .map (some b)]) := hide HR2.out
        have HO3 : Hid (OwnB wr.drew base (.slice a2 L2 c2) out2) := hide HO2.out
        have HM3 : Hid (MapAt wr.drew b mp2 M2) := hide HM2.out
        have HS3 : Hid (SlL wr.drew (some ⟨gr, o, none⟩) key) := hide HSL2.out
        have HK3 : Hid (KpN base W b w wr.drew) := hide HI.out.kp.drew
        clear hcv hcvd hlk hlkd x0 x1
        generalize wr.drew = X at HR3 HO3 HM3 HS3 HK3 ⊢
        have x0 : X.cell? ⟨W, 0, none⟩ = some (.slice a2 L2 c2) := HR3.out.cell 0
        have x1 : X.cell? ⟨W, 1, none⟩ = some (.map (some b)) := HR3.out.cell 1
        by_cases hp : L2 < 16384
        · have hd2 : decide ((L2 : Int) < 16384) = true := by simp; omega
          have hcv := HS2.out X HS3.out
          have hcvd := HS2.out X.drew HS3.out
          obtain ⟨w6, hrun, hM6, hG6⟩ := HM3.out.drew.update key (by omega) L2 hp (by omega)
          have hzX : w.heap.size ≤ X.heap.size := HK3.out.1.size
          have HR6 : Hid (RowAt w6 W 60 #[.slice a2 L2 c2, .map (some b)]) := by
            show _ = _
            rw [hG6.block W HR3.out.lt (fun e => by cases e; exact hbne rfl)]; exact HR3.out
          have HS6 : Hid (SlL w6 (some ⟨gr, o, none⟩) key) := (show SlL X.drew _ _ from HS3.out).grown hG6 (fun _ b' o' e => by cases e; intro e2; cases e2; omega)
          have HK6 : Hid (KpN base W b w w6) := HK3.out.drew.trans (KpN.map hG6 hbb (by show base ≤ X.heap.size; omega))
          have HO6 : Hid (OwnB w6 base (.slice a2 L2 c2) out2) := by
            have h0 : X.drew.ownsRow base 5 1 (.slice a2 L2 c2) out2.length (vb out2) := HO3.out
            refine h0.kept hG6 ?_
            rcases h0.2 with ⟨h1, _⟩ | ⟨g', cap', cur, h1, _, hgg, _⟩
            · exact Or.inl (by rw [h1]; rfl)
            · right
              rw [h1]
              intro e
              simp only [Value.ownBlock, Option.some.injEq] at e
              obtain ⟨es, cl, h2⟩ := HM3.out.obj
              have h3 : X.heap[b]? = some (.cells cur 5 (0, 0)) := by rw [← e]; exact hgg
              rw [h2] at h3; cases h3
          have hcv6 := HS2.out w6 HS6.out
          have z0 : w6.cell? ⟨W, 0, none⟩ = some (.slice a2 L2 c2) := HR6.out.cell 0
          have z1 : w6.cell? ⟨W, 1, none⟩ = some (.map (some b)) := HR6.out.cell 1
          have HM6 := hide hM6
          clear hM6
          go_wp2
          go_region_held3 (fun w' => w'.cell? ⟨W, 1, none⟩ = some (.map (some b)) ∧ w'.cell? ⟨W, 0, none⟩ = some (.slice a2 L2 c2) ∧ (convert 33 9 (.slice (some ⟨gr, o, none⟩) ln c)).run Tryz.prog w' = .ok (.string ⟨key.toArray⟩) w') (first | exact ⟨x1, x0, hcv⟩ | exact ⟨x1, x0, hcvd⟩ | exact ⟨z1, z0, hcv6⟩ | fail) (fail)
          all_goals
            have HR4 := HR6
            have HO4 := HO6
            have HS4 := HS6
            have HK4 := HK6
            have HM4 := HM6
            clear HR6 HO6 HS6 HK6 HM6 hrun hcv hcvd hcv6 z0 z1 x0 x1 hG6

            obtain ⟨sz, HSZ2⟩ : ∃ sz : Nat, Hid (sz = 1 + l.length) := ⟨_, rfl⟩
            have hsz := HSZ2.out
            have HPC : Hid (SlL w6 (some ⟨gr, o, none⟩) (UInt8.ofNat l.length :: l) ∧ SlL w6 (some ⟨gr, o + sz, none⟩) (N.wire r)) := by
              have h1 := SlL.cut (x := UInt8.ofNat l.length :: l) (y := N.wire r) HS4.out (by rw [← HKEY.out, N.wire_cons]; rfl)
              rw [show (UInt8.ofNat l.length :: l).length = sz by simp; omega] at h1
              exact h1
            have HXL : Hid ((UInt8.ofNat l.length :: l).length = sz) := by show _ = _; simp; omega
            have c0 : w6.cell? ⟨gr, o, none⟩ = some (.int .u8 (l.length : Int)) := by
              obtain ⟨b', o', e, _, hc⟩ := HPC.out.1 (by simp)
              cases e
              have h1 := hc 0 (by simp)
              rw [Nat.add_zero] at h1
              rw [h1]
              simp [UInt8.toNat_ofNat']; omega
            have x0 : w6.cell? ⟨W, 0, none⟩ = some (.slice a2 L2 c2) := HR4.out.cell 0
            have hsz1 : IntKind.i64.wrap (1 + (l.length : Int)) = (sz : Int) := by rw [IntKind.wrap_i64]; omega
            have q1 : (0 : Int) ≤ (sz : Int) := by omega
            have q2 : (sz : Int) ≤ (c : Int) := by omega
            have q3 : sz ≤ c := by omega
            have q4 : sz ≤ ln := by omega
            have q5 : (sz : Int) ≤ (ln : Int) := by omega
            have q6 : ¬ (c = sz) := by omega
            have hz4 : base ≤ w6.heap.size := Nat.le_trans (by omega) HK4.out.1.size
            have hW4 := HR4.out.lt
            clear hsz
            go_wp2
            go_region_law (refine step_append_Bat rfl (.tmp 55) (.tmp 58) rfl base (.slice a2 L2 c2) out2 (by rfl) (by exact HO4.out) ⟨gr, o, none⟩ sz c (UInt8.ofNat l.length :: l) (by rfl) HXL.out (by exact HPC.out.1) (by rw [HL2.out]; omega) (by exact hz4) ?_; intro v8 w8 hO8 hG8 hat8; have R8 := hide (row_grown (w := w6.drew) (show World.ownsRow _ _ _ _ _ _ _ from HO4.out) HR4.out (by decide) hG8); obtain ⟨a8, c8, rfl, _⟩ := hO8.open; have O8 := hide hO8; have y0 : w8.cell? ⟨W, 0, none⟩ = some (.slice a2 L2 c2) := R8.out.cell 0; have g0 : w8.frozen? ⟨W, 0, none⟩ = false := R8.out.frozen 0; have G8 := hide hG8; have A8 := hide hat8; clear hO8 hG8 hat8)
            all_goals go_wp2
            all_goals
              refine ⟨⟨r, o + sz, ln - sz, c - sz, rfl, ?_⟩, by have := HXL.out; show ln - sz < ln; simp at this; omega⟩
              have h1 := wname_none l r mp2 out2 (by rw [HKEY.out]; exact hmp)
              rw [HKEY.out, HL2.out, if_pos hp, HRS2.out] at h1
              have e8 : (out2 ++ UInt8.ofNat l.length :: l).length = out2.length + (l.length + 1) := by simp
              have G := WI.next (X := Nm + 1000) (Y := 1000000) HK4.out HR4.out HO4.out HNE2.out HM4.out HPC.out.2 (ln := ln - sz) (c := c - sz) (by have := HSZ2.out; omega) (by omega) (fun q hq => HI.out.lab q (by simp [hq])) O8.out G8.out A8.out (by omega) hbW hbne hz4 h1.symm (by simp at hX2; omega) (by have := HSZ2.out; rw [e8, HL2.out]; omega)
              rw [e8] at G
              exact G
        · have hd2 : decide ((L2 : Int) < 16384) = false := by simp; omega
          have HR4 := HR3
          have HO4 := HO3
          have HS4 := HS3
          have HK4 := HK3
          have HM4 := HM3
          clear HR3 HO3 HS3 HK3 HM3 x0
          · skip

            obtain ⟨sz, HSZ2⟩ : ∃ sz : Nat, Hid (sz = 1 + l.length) := ⟨_, rfl⟩
            have hsz := HSZ2.out
            have HPC : Hid (SlL X (some ⟨gr, o, none⟩) (UInt8.ofNat l.length :: l) ∧ SlL X (some ⟨gr, o + sz, none⟩) (N.wire r)) := by
              have h1 := SlL.cut (x := UInt8.ofNat l.length :: l) (y := N.wire r) HS4.out (by rw [← HKEY.out, N.wire_cons]; rfl)
              rw [show (UInt8.ofNat l.length :: l).length = sz by simp; omega] at h1
              exact h1
            have HXL : Hid ((UInt8.ofNat l.length :: l).length = sz) := by show _ = _; simp; omega
            have c0 : X.cell? ⟨gr, o, none⟩ = some (.int .u8 (l.length : Int)) := by
              obtain ⟨b', o', e, _, hc⟩ := HPC.out.1 (by simp)
              cases e
              have h1 := hc 0 (by simp)
              rw [Nat.add_zero] at h1
              rw [h1]
              simp [UInt8.toNat_ofNat']; omega
            have x0 : X.cell? ⟨W, 0, none⟩ = some (.slice a2 L2 c2) := HR4.out.cell 0
            have hsz1 : IntKind.i64.wrap (1 + (l.length : Int)) = (sz : Int) := by rw [IntKind.wrap_i64]; omega
            have q1 : (0 : Int) ≤ (sz : Int) := by omega
            have q2 : (sz : Int) ≤ (c : Int) := by omega
            have q3 : sz ≤ c := by omega
            have q4 : sz ≤ ln := by omega
            have q5 : (sz : Int) ≤ (ln : Int) := by omega
            have q6 : ¬ (c = sz) := by omega
            have hz4 : base ≤ X.heap.size := Nat.le_trans (by omega) HK4.out.1.size
            have hW4 := HR4.out.lt
            clear hsz
            go_wp2
            go_region_law (refine step_append_Bat rfl (.tmp 55) (.tmp 58) rfl base (.slice a2 L2 c2) out2 (by rfl) (by exact HO4.out) ⟨gr, o, none⟩ sz c (UInt8.ofNat l.length :: l) (by rfl) HXL.out (by exact HPC.out.1) (by rw [HL2.out]; omega) (by exact hz4) ?_; intro v8 w8 hO8 hG8 hat8; have R8 := hide (row_grown (w := X.drew) (show World.ownsRow _ _ _ _ _ _ _ from HO4.out) HR4.out (by decide) hG8); obtain ⟨a8, c8, rfl, _⟩ := hO8.open; have O8 := hide hO8; have y0 : w8.cell? ⟨W, 0, none⟩ = some (.slice a2 L2 c2) := R8.out.cell 0; have g0 : w8.frozen? ⟨W, 0, none⟩ = false := R8.out.frozen 0; have G8 := hide hG8; have A8 := hide hat8; clear hO8 hG8 hat8)
            all_goals go_wp2
            all_goals
              refine ⟨⟨r, o + sz, ln - sz, c - sz, rfl, ?_⟩, by have := HXL.out; show ln - sz < ln; simp at this; omega⟩
              have h1 := wname_none l r mp2 out2 (by rw [HKEY.out]; exact hmp)
              rw [HKEY.out, HL2.out, if_neg hp, HRS2.out] at h1
              have e8 : (out2 ++ UInt8.ofNat l.length :: l).length = out2.length + (l.length + 1) := by simp
              have G := WI.next (X := Nm + 1000) (Y := 1000000) HK4.out HR4.out HO4.out HNE2.out HM4.out HPC.out.2 (ln := ln - sz) (c := c - sz) (by have := HSZ2.out; omega) (by omega) (fun q hq => HI.out.lab q (by simp [hq])) O8.out G8.out A8.out (by omega) hbW hbne hz4 h1.symm (by simp at hX2; omega) (by have := HSZ2.out; rw [e8, HL2.out]; omega)
              rw [e8] at G
              exact G
end Go.Proofs.YtpgebiopckmgbabGreat
