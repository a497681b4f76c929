/- DropSet. -/
import Derived.Test.YtdldaphkiphpnaaGreatZdm
import Derived.Test.YtdldaphkiphpnaaGreatZdp
import Derived.Test.YtdldaphkiphpnaaGreatZtp
import Derived.Deep.Cut
namespace Go.Proofs.YtdldaphkiphpnaaGreat
open Go.RowKit
def DropSetPost (w : World) (Zb : Nat) (A : List (List UInt8)) (L : List Z.R) (ρ : Nat → Role) (K : Nat) (n : List (List UInt8)) (t : Nat) (e : Ending) (w' : World) : Prop :=
  e = .returned (.int .i64 ((L.length - (Z.dropSet L (path n) t).length : Nat) : Int)) ∧ ∃ G' C', ZAt w' Zb A (Z.dropSet L (path n) t) ρ G' C' K ∧ ZM Zb ρ w w'
/- behind j types -/
structure DIs3 (C : List (List UInt8) → Nat → Option Z.St) (K : Nat) (p : List (List UInt8)) (x : Nd) (T : List Nat) (w3 : World) (j : Nat) (wr : World) : Prop where
  os : wr.os = w3.os
  tape : wr.tape = w3.tape
  output : wr.output = w3.output
  size : wr.heap.size = w3.heap.size
  block : ∀ i, i ≠ x.s → wr.heap[i]? = w3.heap[i]?
  sets : MapU wr x.s (fun s => if s ∈ T.take j then none else (C p s).map fun S => setV S (x.dm s)) K
/- sets taken away from a found node, which may be a new one -/
set_option maxRecDepth 5000 in
theorem tree_less {w w3 w4 : World} {ρ : Nat → Role} {G : List (List UInt8) → Option Nd} {C C' : List (List UInt8) → Nat → Option Z.St} {K : Nat} (T : TreeAt w ρ G C K) {p : List (List UInt8)} {x : Nd} (hF : Found w w3 G C K p x) (bad : Nat → Prop) (hC : ∀ q t, q ≠ p → C' q t = C q t) (hC2 : ∀ t, ¬ bad t → C' p t = C p t) (hC3 : ∀ t, bad t → C' p t = none)
    (os : w4.os = w3.os) (tape : w4.tape = w3.tape) (output : w4.output = w3.output) (size : w4.heap.size = w3.heap.size) (block : ∀ i, i ≠ x.s → w4.heap[i]? = w3.heap[i]?) (sets : MapU w4 x.s (fun s => (C' p s).map fun S => setV S (x.dm s)) K) : TreeAt w4 ρ G C' K ∧ ZMv ρ w w4 := by
  rcases hF.who with hx | ⟨hG, _, hs, _⟩
  · have T3 := T.below_ hF.bel
    have h0 : Below 0 w3 w4 := ⟨os, tape, output, Nat.le_of_eq size.symm, fun i hi => absurd hi (Nat.not_lt_zero i)⟩
    have h1 := T3.del hx bad hC hC2 h0 (fun i _ h2 _ => block i h2) sets (fun t S hb hS => by rw [hC3 t hb] at hS; cases hS) (fun i t hb hi => (T3.kind i (by rw [hi]; simp)).heap (block i (fun e => by rw [e, T3.rs p x hx] at hi; cases hi)))
    exact ⟨h1.1, (ZMv.of_below hF.bel).trans h1.2 (fun _ _ h => h)⟩
  · have e : C' = C := by
      funext q t
      by_cases eq : q = p
      · rw [eq]
        by_cases hb : bad t
        · rw [hC3 t hb, T.no_sets hG t]
        · exact hC2 t hb
      · exact hC q t eq
    have hsz := hF.bel.size
    have hB : Below w.heap.size w w4 := ⟨os.trans hF.bel.os, tape.trans hF.bel.tape, output.trans hF.bel.output, by omega, fun i hi => (block i (by omega)).trans (hF.bel.block i hi)⟩
    rw [e]
    exact ⟨T.below_ hB, ZMv.of_below hB⟩
/- one type of all: what it is, in memory -/
set_option maxRecDepth 5000 in
theorem any_step {w w3 wr : World} {Zb : Nat} {A : List (List UInt8)} {L : List Z.R} {ρ : Nat → Role} {G : List (List UInt8) → Option Nd} {C : List (List UInt8) → Nat → Option Z.St} {K : Nat} (Zx : ZAt w Zb A L ρ G C K) {w2 : World} {n : List (List UInt8)} {x : Nd} (hF : Found w2 w3 G C K (path n) x) {T : List Nat} {ts : List UInt16} (hT : T = ts.map (·.toNat)) (hTy : T = Z.typesAt L (path n)) {a : Option Addr} (hsl : SlH w3 a ts) {j g0 : Nat} (hD : DIs3 C K (path n) x T w3 j wr) (hj : j < ts.length)
    (hg0 : g0 = ((T.take j).map fun s => (Z.setAt L (path n) s).length).sum) (hg1 : ((T.take (j + 1)).map fun s => (Z.setAt L (path n) s).length).sum ≤ 2000) :
    ∃ t1 cn : Nat, t1 < 65536 ∧ (∃ b o, a = some ⟨b, o, none⟩ ∧ wr.cell? ⟨b, o + j, none⟩ = some (.int .u16 (t1 : Int))) ∧ wr.cell? ⟨x.n, 0, none⟩ = some (.map (some x.s)) ∧ ∃ T0 m1 : Nat, (Instr.lookup 93 (.map (some x.s)) (.int .u16 (t1 : Int)) false).run Tryz.prog wr = .ok (.agg #[.int .u32 (T0 : Int), .map (some m1)]) wr ∧
      (Builtin.len_ #[89] 3 #[.map (some m1)]).run Tryz.prog wr = .ok (.int .i64 (cn : Int)) wr ∧ IntKind.i64.wrap ((g0 : Int) + (cn : Int)) = ((g0 + cn : Nat) : Int) ∧ ∃ w4, (Builtin.delete_ #[93, 36] 0 #[.map (some x.s), .int .u16 (t1 : Int)]).run Tryz.prog wr = .ok (.tuple #[]) w4 ∧
      DIs3 C K (path n) x T w3 (j + 1) w4 ∧ w4.cell? ⟨x.n, 0, none⟩ = some (.map (some x.s)) ∧ g0 + cn = ((T.take (j + 1)).map fun s => (Z.setAt L (path n) s).length).sum := by
  have hjT : j < T.length := by rw [hT, List.length_map]; exact hj
  obtain ⟨t1, ht1⟩ : ∃ t1, t1 = T[j] := ⟨_, rfl⟩
  have hmem : t1 ∈ T := by rw [ht1]; exact List.getElem_mem hjT
  have hnd : T.Nodup := by rw [hTy]; exact (Z.types_rise Zx.rise (path n)).1.imp fun {a b} h => by omega
  have hnt : t1 ∉ T.take j := by
    rw [ht1]
    intro hm
    obtain ⟨i, hi, e⟩ := List.getElem_of_mem hm
    rw [List.length_take] at hi
    rw [List.getElem_take] at e
    have := (List.getElem_inj hnd).1 e
    omega
  have htk : T.take (j + 1) = T.take j ++ [t1] := by rw [ht1, List.take_append_getElem]
  obtain ⟨y, hy, hyp, hyt⟩ := ((Z.types_rise Zx.rise (path n)).2 t1).1 (hTy ▸ hmem)
  obtain ⟨S, hS⟩ := Zx.of.hasS hy
  rw [hyp, hyt] at hS
  have hG : G (path n) = some x := by
    rcases hF.who with h | ⟨h, _⟩
    · exact h
    · have := (Zx.tree.cov _ _ _ hS).1; rw [h] at this; cases this
  have ht16 : t1 < 65536 := (Zx.tree.cov _ _ _ hS).2
  have hne : x.dm t1 ≠ x.s := fun e => by
    have h1 := Zx.tree.rd _ x t1 S hG hS
    rw [e, Zx.tree.rs _ x hG] at h1; cases h1
  obtain ⟨es0, k0, hobj⟩ := hF.node.sets.obj
  have hxn : x.n ≠ x.s := fun e => by
    have h2 : w3.heap[x.n]? = _ := hF.node.row
    rw [e, hobj] at h2; cases h2
  have hslk : ∀ ao l, SlL w3 ao l → SlL wr ao l := fun ao l => slL_keep (Nat.le_of_eq hD.size.symm) fun i _ hz => hD.block i fun e => hz (Or.inl (by rw [e]; exact ⟨es0, k0, hobj⟩))
  have hdm : DM wr (some (x.dm t1)) (Z.got C (path n) t1) K := by
    obtain ⟨f, h1, h2⟩ := hF.dm t1 S.ttl (some (x.dm t1)) (by rw [hS]; rfl)
    exact ⟨f, h1.heap (hD.block _ hne), fun y => (h2 y).keep hslk⟩
  have hcnt := count_set Zx.rise Zx.of hdm (fun h => by cases h)
  obtain ⟨w4, hdl, hM4, ht4⟩ := MapAt.drop hD.sets keyedH Tryz.underlying93 (keyH t1 ht16) 0
  have hrow : RowAt wr x.n 96 #[.map (some x.s), .map (some x.b)] := (hD.block _ hxn).trans hF.node.row
  have hrow4 : RowAt w4 x.n 96 #[.map (some x.s), .map (some x.b)] := (ht4.block _ hxn).trans hrow
  have hlk := hD.sets.get keyedH Tryz.underlying93 (Tryz.zeroValue91 wr) (keyH t1 ht16)
  rw [fU_at _ t1 ht16, if_neg hnt, hS] at hlk
  have hsum : g0 + (Z.setAt L (path n) t1).length = ((T.take (j + 1)).map fun s => (Z.setAt L (path n) s).length).sum := by
    rw [htk, List.map_append, List.sum_append, hg0]; simp
  refine ⟨t1, (Z.setAt L (path n) t1).length, ht16, ?_, hrow.cell 0, S.ttl, x.dm t1, hlk, hcnt, ?_, w4, hdl, ⟨ht4.os.trans hD.os, ht4.tape.trans hD.tape, ht4.output.trans hD.output, ht4.size.trans hD.size, fun i hi => (ht4.block i hi).trans (hD.block i hi), ?_⟩, hrow4.cell 0, hsum⟩
  · obtain ⟨b, o, e, hlt, hc⟩ := hsl (by omega)
    refine ⟨b, o, e, ?_⟩
    have hbn : b ≠ x.s := fun e2 => by
      have := hc j hj
      rw [e2] at this
      simp [World.cell?, hobj] at this
    rw [World.cell?_of_block (hD.block b hbn), hc j hj]
    have : t1 = (ts.getD j 0).toNat := by
      rw [ht1]; simp [hT, List.getD_eq_getElem?_getD, hj]
    rw [this]
  · rw [IntKind.wrap_i64]; omega
  · refine MapU.ext (hM4.congr fun k => fdel_U _ t1 ht16 k) fun s hs => ?_
    unfold udel
    by_cases e : s = t1
    · rw [if_pos e, if_pos (by rw [htk, e]; simp)]
    · rw [if_neg e]
      show (if s ∈ T.take j then none else (C (path n) s).map fun S => setV S (x.dm s)) = (if s ∈ T.take (j + 1) then none else (C (path n) s).map fun S => setV S (x.dm s))
      by_cases e2 : s ∈ T.take j
      · rw [if_pos e2, if_pos (by rw [htk]; simp [e2])]
      · rw [if_neg e2, if_neg (by rw [htk]; simp [e, e2])]
set_option maxRecDepth 100000 in
set_option maxHeartbeats 1000000 in
theorem zdropSet_all (w : World) (Zb : Nat) (A : List (List UInt8)) (L : List Z.R) (ρ : Nat → Role) (G : List (List UInt8) → Option Nd) (C : List (List UInt8) → Nat → Option Z.St) (K : Nat) (Zx : ZAt w Zb A L ρ G C K) (hK : K ≤ 1000000) (n : List (List UInt8)) (ao : Option Addr) (len cap : Nat) (hl : Hid (n.length = len)) (hs : SlS w ao n) (hm : Hid (N.Small n)) (t : Nat) (ht : t < 65536) (ht5 : t = 255) :
    Calls Tryz.prog 40 #[.pointer (some ⟨Zb, 0, none⟩), .slice ao len cap, .int .u16 (t : Int)] w fun e w' => DropSetPost w Zb A L ρ K n t e w' := by
  have hnum := Zx.num
  have htot := Z.dropSet_len Zx.rise (path n) t
  have HZ := hide Zx
  have HS := hide hs
  have HTOT := hide htot
  clear Zx hs htot
  go_enter Tryz.func40, Tryz.ntmps40
  have hb1 : Below w.heap.size w (w.alloc (.cells #[.int .u16 (t : Int)] 36)) := (Below.refl _ w).alloc (Nat.le_refl _) _
  obtain ⟨w1, hw1⟩ : ∃ w1, w1 = w.alloc (.cells #[.int .u16 (t : Int)] 36) := ⟨_, rfl⟩
  rw [← hw1] at hb1
  have HW1 := hide hw1
  have HB1 := hide hb1
  clear hb1 hw1
  subst ht5
  have hTs : Z.dropTs L (path n) 255 = Z.typesAt L (path n) := by unfold Z.dropTs; rw [if_pos rfl]
  have HW1 : Hid (w1 = w.alloc (.cells #[.int .u16 255] 36)) := hide HW1.out
  have HTS := hide hTs
  have HTR := hide (Z.types_rise HZ.out.rise (path n))
  clear hTs
  go_wp2_with (first
    | (go_at_call 32; rw [← HW1.out]; refine (ztypes_any w1 Zb A L ρ G C K (HZ.out.bel HB1.out) hK n ao len cap hl (HS.out.below HB1.out (Nat.le_refl _)) hm).mono ?_; rintro e w2 ⟨v, rfl, ts, hts, hO, hb2⟩; obtain ⟨a, c, rfl, hSl, _, hcl, hcm⟩ := hO.open; have hb02 := HB1.out.trans (hb2.mono HB1.out.size))
    | (go_at_call 51; refine ((HZ.out.bel hb02).find n ao len cap hl (HS.out.below hb02 (Nat.le_refl _)) hm).mono ?_; rintro e w3 ⟨x, rfl, hF⟩)
    | fail)
  have hb03 := hb02.trans (hF.bel.mono hb02.size)
  have HB02 := hide hb02
  have htsb : ts.length ≤ 9223372036854775807 := by unfold maxLen at hcm; omega
  have hSl3 := hSl.below hF.bel (Nat.le_refl _)
  obtain ⟨T, hT⟩ : ∃ T, T = ts.map (·.toNat) := ⟨_, rfl⟩
  have hTl : T.length = ts.length := by rw [hT, List.length_map]
  have HTY := hide (show T = Z.typesAt L (path n) by rw [hT]; exact hts)
  have HTT := hide hT
  have HF := hide hF
  have HB03 := hide hb03
  have HSL := hide hSl3
  have HTL := hide hTl
  have hD0 : DIs3 C K (path n) x T w3 0 w3 := ⟨rfl, rfl, rfl, rfl, fun _ _ => rfl, by
    have : (fun s => if s ∈ T.take 0 then none else (C (path n) s).map fun S => setV S (x.dm s)) = (fun s => (C (path n) s).map fun S => setV S (x.dm s)) := by funext s; rw [if_neg (by simp)]
    rw [this]; exact HF.out.node.sets⟩
  clear hF hb03 hSl3 hT hTl hSl hO hb02 hb2 hts
  have HTOP := HTOT.out
  have hsumT : ∀ j, ((T.take j).map fun s => (Z.setAt L (path n) s).length).sum ≤ 2000 := fun j => by
    have h1 : (T.map fun s => (Z.setAt L (path n) s).length).sum = ((T.take j).map fun s => (Z.setAt L (path n) s).length).sum + ((T.drop j).map fun s => (Z.setAt L (path n) s).length).sum := by
      rw [← List.sum_append, ← List.map_append, List.take_append_drop]
    rw [HTS.out, ← HTY.out] at HTOP
    omega
  have HSU := hide hsumT
  clear HTOP hsumT
  go_loopw [9, 24] (fun g i wr => ∃ j g0 : Nat, i = .int .i64 (j : Int) ∧ j ≤ ts.length ∧ g = .int .i64 (g0 : Int) ∧ Hid (g0 = ((T.take j).map fun s => (Z.setAt L (path n) s).length).sum) ∧ DIs3 C K (path n) x T w3 j wr) (fun _ i _ => ts.length - (intOf i).toNat)
  case atStart => exact ⟨0, 0, rfl, Nat.zero_le _, rfl, hide rfl, hD0⟩
  case round =>
    obtain ⟨j, g0, rfl, hj, rfl, HG0, hD⟩ := hrel
    have HD := hide hD
    clear hD hD0
    by_cases hlt : j < ts.length
    · obtain ⟨t1, cn, ht1, hx, x0, T0, m1, hlk, hcnt, hwrp, w4, hdl, hD4, x4, hg4⟩ := any_step HZ.out HF.out HTT.out HTY.out (HSL.out) HD.out hlt HG0.out (HSU.out (j + 1))
      obtain ⟨b1, o1, rfl, hx⟩ := hx
      have hfd : (Instr.field 91 (.agg #[.int .u32 (T0 : Int), .map (some m1)]) 1).run Tryz.prog wr = .ok (.map (some m1)) wr := by rfl
      have HD4 := hide hD4
      have HG4 := hide hg4
      clear hD4 hg4
      go_wp2
      exact ⟨⟨j + 1, g0 + cn, by go_num, by omega, by simp, HG4, HD4.out⟩, by simp [intOf]; omega⟩
    · obtain rfl : j = ts.length := by omega
      have hTT : T.take ts.length = T := by rw [← HTL.out]; exact List.take_length
      obtain ⟨C', hC'⟩ : ∃ C' : List (List UInt8) → Nat → Option Z.St, C' = fun q s => if q = path n ∧ s ∈ T then none else C q s := ⟨_, rfl⟩
      have k1 : ∀ q s, ¬ (q = path n ∧ s ∈ T) → C' q s = C q s := fun q s h => by rw [hC']; exact if_neg h
      have k2 : ∀ s, s ∈ T → C' (path n) s = none := fun s h => by rw [hC']; exact if_pos ⟨rfl, h⟩
      have k3 : ∀ s, C' (path n) s = none := fun s => by
        by_cases h : s ∈ T
        · exact k2 s h
        · rw [k1 _ s (fun h2 => h h2.2)]
          cases hCs : C (path n) s with
          | none => rfl
          | some S =>
            obtain ⟨y, hy, e1, e2⟩ := HZ.out.of.ex _ _ _ hCs
            refine absurd ?_ h
            rw [HTY.out]
            exact (HTR.out.2 s).2 ⟨y, hy, e1, e2⟩
      have hset : MapU wr x.s (fun s => (C' (path n) s).map fun S => setV S (x.dm s)) K := MapU.ext HD.out.sets fun s hs => by
        rw [hTT]
        show (if s ∈ T then none else (C (path n) s).map fun S => setV S (x.dm s)) = _
        by_cases e : s ∈ T
        · rw [if_pos e, k2 s e]; rfl
        · rw [if_neg e, k1 _ s (fun h => e h.2)]
      have hTL2 := tree_less (HZ.out.tree.below_ HB02.out) HF.out (fun s => s ∈ T) (fun q s h => k1 q s (fun h2 => h h2.1)) (fun s h => k1 _ s (fun h2 => h h2.2)) k2 HD.out.os HD.out.tape HD.out.output HD.out.size HD.out.block hset
      obtain ⟨hT4, hv14⟩ := hTL2
      have hv4 : ZMv ρ w wr := (ZMv.of_below HB02.out).trans hv14 (fun _ _ h => h)
      obtain ⟨aa, ac, hZr, _, _⟩ := HZ.out.row
      have hZ4 : RowAt wr Zb 83 #[.slice aa A.length ac, ptr (nodeN G []), .int .i64 (L.length : Int)] := (hv4.block Zb hZr.lt HZ.out.zr).trans hZr
      have htr := trim_any wr Zb _ _ ρ G C' K hT4 hZ4 n ao len cap hl (hv4.slS HZ.out.tree.kind HS.out) hm
      have HK1 := hide k1
      have HK3 := hide k3
      have HV4 := hide hv4
      have HZ4 := hide hZ4
      have HTT2 := hide hTT
      have hnum2 := hnum
      have hgb : g0 ≤ 2000 := by
        have := HSU.out ts.length
        have := HG0.out
        omega
      clear hC' k1 k2 k3 hset hT4 hv14 hv4 hZ4 hZr hTT
      go_wp2_with (first
        | (go_at_call 69; refine htr.mono ?_; rintro e w6 ⟨rfl, dp, hdp, hT6, hm6, hend⟩; have hZ6 : RowAt w6 Zb 83 #[.slice aa A.length ac, ptr (nodeN G []), .int .i64 (L.length : Int)] := (hm6.block _ HZ4.out.lt HZ.out.zr).trans HZ4.out; have z2 : w6.cell? ⟨Zb, 2, none⟩ = some (.int .i64 (L.length : Int)) := hZ6.cell 2; have z3 : w6.frozen? ⟨Zb, 2, none⟩ = false := hZ6.frozen 2)
        | fail)
      go_ret
      have hsum := HTOT.out
      have hg0 := HG0.out
      rw [HTT2.out] at hg0
      rw [HTS.out, ← HTY.out, ← hg0] at hsum
      have hof := HZ.out.of.dropSet (C' := C') (path n) 255 (fun s h => HK3.out s) (fun q s h => HK1.out q s (fun h2 => h ⟨h2.1, Or.inl rfl⟩))
      have hless := ZAt.less (w7 := w6) HZ.out (path n) (fun y hy => (Z.mem_dropSet.1 hy).1) (fun y hy hne => Z.mem_dropSet.2 ⟨hy, fun h => hne h.1⟩) (Z.dropSet_rise HZ.out.rise (path n) 255) hof (by omega) (by rw [path_len]; exact hdp) hT6 (HV4.out.trans hm6 (fun _ _ h => h)) hend (v := .int .i64 ((L.length : Int) - (g0 : Int))) (by congr 1; omega) rfl
      have en : L.length - (Z.dropSet L (path n) 255).length = g0 := by omega
      refine ⟨?_, _, _, hless.1, hless.2⟩
      rw [en]; rfl
end Go.Proofs.YtdldaphkiphpnaaGreat

/- DropSet of one type; of any. -/
namespace Go.Proofs.YtdldaphkiphpnaaGreat
open Go.RowKit
set_option maxRecDepth 100000 in
set_option maxHeartbeats 1000000 in
theorem zdropSet_one (w : World) (Zb : Nat) (A : List (List UInt8)) (L : List Z.R) (ρ : Nat → Role) (G : List (List UInt8) → Option Nd) (C : List (List UInt8) → Nat → Option Z.St) (K : Nat) (Zx : ZAt w Zb A L ρ G C K) (_hK : K ≤ 1000000) (n : List (List UInt8)) (ao : Option Addr) (len cap : Nat) (hl : Hid (n.length = len)) (hs : SlS w ao n) (hm : Hid (N.Small n)) (t : Nat) (ht : t < 65536) (ht5 : ¬ t = 255) :
    Calls Tryz.prog 40 #[.pointer (some ⟨Zb, 0, none⟩), .slice ao len cap, .int .u16 (t : Int)] w fun e w' => DropSetPost w Zb A L ρ K n t e w' := by
  have hnum := Zx.num
  have htot := Z.dropSet_len Zx.rise (path n) t
  have HZ := hide Zx
  have HS := hide hs
  have HTOT := hide htot
  clear Zx hs htot
  go_enter Tryz.func40, Tryz.ntmps40
  have hb1 : Below w.heap.size w (w.alloc (.cells #[.int .u16 (t : Int)] 36)) := (Below.refl _ w).alloc (Nat.le_refl _) _
  obtain ⟨w1, hw1⟩ : ∃ w1, w1 = w.alloc (.cells #[.int .u16 (t : Int)] 36) := ⟨_, rfl⟩
  rw [← hw1] at hb1
  have HW1 := hide hw1
  have HB1 := hide hb1
  clear hb1 hw1
  have htb : ((t : Int) == 255) = false := by simp; omega
  have hTs : Z.dropTs L (path n) t = [t] := by unfold Z.dropTs; rw [if_neg ht5]
  have HTS := hide hTs
  clear hTs
  go_wp2_with (first
    | (go_at_call 51; rw [← HW1.out]; refine ((HZ.out.bel HB1.out).find n ao len cap hl (HS.out.below HB1.out (Nat.le_refl _)) hm).mono ?_; rintro e w3 ⟨x, rfl, hF⟩)
    | fail)
  have hb13 := hF.bel
  have hb03 := HB1.out.trans (hb13.mono HB1.out.size)
  have hcell : w3.cell? ⟨w.heap.size, 0, none⟩ = some (.int .u16 (t : Int)) := by
    have h0 : RowAt w1 w.heap.size 36 #[.int .u16 (t : Int)] := by rw [HW1.out]; exact RowAt.new w _ _
    exact (h0.below hb13 h0.lt).cell 0
  have x0 : w3.cell? ⟨x.n, 0, none⟩ = some (.map (some x.s)) := hF.node.row.cell 0
  have hlk := (hF.node.lookup t ht w3 rfl).2
  obtain ⟨T0, mo, hmo, hmn⟩ : ∃ (T0 : Nat) (mo : Option Nat), ((C (path n) t).map fun S => setV S (x.dm t)).getD (.agg #[.int .u32 0, .map none]) = .agg #[.int .u32 (T0 : Int), .map mo] ∧ (mo = none → C (path n) t = none) := by
    cases hC : C (path n) t with
    | none => exact ⟨0, none, rfl, fun _ => rfl⟩
    | some S => exact ⟨S.ttl, some (x.dm t), rfl, fun h => by cases h⟩
  rw [hmo] at hlk
  have hfd : (Instr.field 91 (.agg #[.int .u32 (T0 : Int), .map mo]) 1).run Tryz.prog w3 = .ok (.map mo) w3 := by rfl
  have hcnt := count_set HZ.out.rise HZ.out.of (hF.dm t T0 mo hmo) hmn
  obtain ⟨cn, hcn⟩ : ∃ cn, cn = (Z.setAt L (path n) t).length := ⟨_, rfl⟩
  rw [← hcn] at hcnt
  have hcb : cn ≤ 2000 := by
    have : (Z.setAt L (path n) t).length ≤ L.length := List.length_filter_le _ _
    omega
  obtain ⟨w4, hdl, hM4, ht4⟩ := MapAt.drop hF.node.sets keyedH Tryz.underlying93 (keyH t ht) 0
  have x4 : w4.cell? ⟨x.n, 0, none⟩ = some (.map (some x.s)) := by
    have h0 : RowAt w4 x.n 96 #[.map (some x.s), .map (some x.b)] := (ht4.block _ (fun e => by
      obtain ⟨es, k, h⟩ := hF.node.sets.obj
      have h2 : w3.heap[x.n]? = _ := hF.node.row
      rw [e, h] at h2; cases h2)).trans hF.node.row
    exact h0.cell 0
  have HF := hide hF
  have HMO := hide hmo
  have HMN := hide hmn
  have HCN := hide hcn
  have HM4 := hide hM4
  have HT4 := hide ht4
  have HB03 := hide hb03
  clear hF hmo hmn hcn hM4 ht4 hb03 hb13
  go_loopw [9, 24] (fun g i wr => (g = .int .i64 0 ∧ i = .int .i64 0 ∧ wr = w3) ∨ (g = .int .i64 (cn : Int) ∧ i = .int .i64 1 ∧ wr = w4)) (fun _ i _ => 1 - (intOf i).toNat)
  case atStart => exact Or.inl ⟨rfl, rfl, rfl⟩
  case round =>
    rcases hrel with ⟨rfl, rfl, rfl⟩ | ⟨rfl, rfl, rfl⟩
    · go_wp2
      exact ⟨Or.inr ⟨rfl, rfl, trivial⟩, by simp [intOf]⟩
    · obtain ⟨C', hC'⟩ : ∃ C' : List (List UInt8) → Nat → Option Z.St, C' = fun q s => if q = path n ∧ s = t then none else C q s := ⟨_, rfl⟩
      have k1 : ∀ q s, ¬ (q = path n ∧ s = t) → C' q s = C q s := fun q s h => by rw [hC']; exact if_neg h
      have k2 : ∀ s, s = t → C' (path n) s = none := fun s h => by rw [hC']; exact if_pos ⟨rfl, h⟩
      have hset : MapU wr x.s (fun s => (C' (path n) s).map fun S => setV S (x.dm s)) K := MapU.ext (HM4.out.congr fun k => fdel_U _ t ht k) fun s hs => by
        unfold udel
        by_cases e : s = t
        · rw [if_pos e, k2 s e]; rfl
        · rw [if_neg e, k1 _ s (fun h => e h.2)]
      have hTL := tree_less (HZ.out.tree.below_ HB1.out) HF.out (fun s => s = t) (fun q s h => k1 q s (fun h2 => h h2.1)) (fun s h => k1 _ s (fun h2 => h h2.2)) k2 HT4.out.os HT4.out.tape HT4.out.output HT4.out.size HT4.out.block hset
      obtain ⟨hT4, hv14⟩ := hTL
      have hv4 : ZMv ρ w wr := (ZMv.of_below HB1.out).trans hv14 (fun _ _ h => h)
      obtain ⟨aa, ac, hZr, _, _⟩ := HZ.out.row
      have hZ4 : RowAt wr Zb 83 #[.slice aa A.length ac, ptr (nodeN G []), .int .i64 (L.length : Int)] := (hv4.block Zb hZr.lt HZ.out.zr).trans hZr
      have htr := trim_any wr Zb _ _ ρ G C' K hT4 hZ4 n ao len cap hl (hv4.slS HZ.out.tree.kind HS.out) hm
      have HK1 := hide k1
      have HK2 := hide k2
      have HV4 := hide hv4
      have HZ4 := hide hZ4
      have hnum2 := hnum
      clear hC' k1 k2 hset hT4 hv14 hv4 hZ4 hZr
      go_wp2_with (first
        | (go_at_call 69; refine htr.mono ?_; rintro e w6 ⟨rfl, dp, hdp, hT6, hm6, hend⟩; have hZ6 : RowAt w6 Zb 83 #[.slice aa A.length ac, ptr (nodeN G []), .int .i64 (L.length : Int)] := (hm6.block _ HZ4.out.lt HZ.out.zr).trans HZ4.out; have z2 : w6.cell? ⟨Zb, 2, none⟩ = some (.int .i64 (L.length : Int)) := hZ6.cell 2; have z3 : w6.frozen? ⟨Zb, 2, none⟩ = false := hZ6.frozen 2)
        | fail)
      go_ret
      have hsum := HTOT.out
      rw [HTS.out, List.map_cons, List.map_nil, List.sum_cons, List.sum_nil, ← HCN.out] at hsum
      have hof := HZ.out.of.dropSet (C' := C') (path n) t (fun s h => HK2.out s (h.resolve_left ht5)) (fun q s h => HK1.out q s (fun h2 => h ⟨h2.1, Or.inr h2.2⟩))
      have hless := ZAt.less (w7 := w6) HZ.out (path n) (fun y hy => (Z.mem_dropSet.1 hy).1) (fun y hy hne => Z.mem_dropSet.2 ⟨hy, fun h => hne h.1⟩) (Z.dropSet_rise HZ.out.rise (path n) t) hof (by omega) (by rw [path_len]; exact hdp) hT6 (HV4.out.trans hm6 (fun _ _ h => h)) hend (v := .int .i64 ((L.length : Int) - (cn : Int))) (by congr 1; omega) rfl
      have en : L.length - (Z.dropSet L (path n) t).length = cn := by omega
      refine ⟨?_, _, _, hless.1, hless.2⟩
      rw [en]; rfl
set_option maxRecDepth 5000 in
theorem zdropSet_any (w : World) (Zb : Nat) (A : List (List UInt8)) (L : List Z.R) (ρ : Nat → Role) (G : List (List UInt8) → Option Nd) (C : List (List UInt8) → Nat → Option Z.St) (K : Nat) (Zx : ZAt w Zb A L ρ G C K) (hK : K ≤ 1000000) (n : List (List UInt8)) (ao : Option Addr) (len cap : Nat) (hl : Hid (n.length = len)) (hs : SlS w ao n) (hm : Hid (N.Small n)) (t : Nat) (ht : t < 65536) :
    Calls Tryz.prog 40 #[.pointer (some ⟨Zb, 0, none⟩), .slice ao len cap, .int .u16 (t : Int)] w fun e w' => DropSetPost w Zb A L ρ K n t e w' := by
  by_cases h : t = 255
  · exact zdropSet_all w Zb A L ρ G C K Zx hK n ao len cap hl hs hm t ht h
  · exact zdropSet_one w Zb A L ρ G C K Zx hK n ao len cap hl hs hm t ht h
end Go.Proofs.YtdldaphkiphpnaaGreat
