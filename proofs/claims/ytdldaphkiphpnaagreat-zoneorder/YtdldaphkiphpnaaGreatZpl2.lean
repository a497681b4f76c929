/- A zone with a record put: what Put's last calls leave. -/
import Derived.Test.YtdldaphkiphpnaaGreatFdm
namespace Go.Proofs.YtdldaphkiphpnaaGreat
open Go.RowKit
set_option maxRecDepth 5000 in
theorem ZAt.put {w we w8 w9 : World} {Zb : Nat} {A : List (List UInt8)} {L : List Z.R} {ρ ρ1 ρ2 : Nat → Role} {G G1 : List (List UInt8) → Option Nd} {C : List (List UInt8) → Nat → Option Z.St} {K K' : Nat} (Zx : ZAt w Zb A L ρ G C K) (r : Z.R) (hlow : Z.Low r.p) (hok : r.t < 65536 ∧ r.ttl < 4294967296 ∧ cn r.t r.d = some r.c ∧ r.d.length ≤ 8192 ∧ r.p.length ≤ 128) (hnum : (Z.put L r).length ≤ 2000)
    (hme : ZM Zb ρ w we) (hkind : ∀ i, ρ i ≠ .none → ZObj we i) {aa : Option Addr} {ac : Nat} (hrow : RowAt we Zb 83 #[.slice aa A.length ac, ptr (nodeN G []), .int .i64 ((Z.put L r).length : Int)]) (hsA : SlS we aa A) (hac : A.length ≤ ac)
    (hg1 : Grew we w8 ρ ρ1 G G1) {x1 x2 : Nd} (hx1 : G1 r.p = some x1) (hall : ∀ q, (G1 q).isSome ↔ (G q).isSome ∨ q <+: r.p) (T2 : TreeAt w9 ρ2 (gput G1 r.p (some x2)) (Z.cput C r.p r.t r.ttl r.c r.d) K') (hg2 : Grew w8 w9 ρ1 ρ2 G1 (gput G1 r.p (some x2))) :
    ZAt w9 Zb A (Z.put L r) ρ2 (gput G1 r.p (some x2)) (Z.cput C r.p r.t r.ttl r.c r.d) K' ∧ More w ρ ρ2 ∧ ZM Zb ρ w w9 := by
  have hlt : Zb < w.heap.size := Zx.lt
  have hm2 : More we ρ ρ2 := hg1.more.trans hg2.more hg1.mv.size
  have hmore : More w ρ ρ2 := fun i hi => hm2 i (Nat.lt_of_lt_of_le hi hme.size)
  have hz1 : ρ1 Zb = .none := by rw [hg1.more Zb hrow.lt]; exact Zx.zr
  have hze9 : ZM Zb ρ we w9 := (ZM.of_mv hg1.mv).trans (ZM.of_mv hg2.mv) hg1.more
  have hr8 : RowAt w8 Zb 83 #[.slice aa A.length ac, ptr (nodeN G []), .int .i64 ((Z.put L r).length : Int)] := (hg1.mv.block Zb hrow.lt Zx.zr).trans hrow
  have hr9 : RowAt w9 Zb 83 #[.slice aa A.length ac, ptr (nodeN G []), .int .i64 ((Z.put L r).length : Int)] := (hg2.mv.block Zb hr8.lt hz1).trans hr8
  have hs9 : SlS w9 aa A := slS_zm hze9 hkind hrow hsA
  refine ⟨⟨⟨aa, ac, by rw [hg2.root, hg1.root]; exact hr9, hs9, hac⟩, T2, Zx.of.put r, Z.put_rise Zx.rise Zx.lows hlow, Z.put_lows Zx.lows hlow, fun q hq => ?_, hnum, fun x hx => ?_, by rw [hmore Zb hlt]; exact Zx.zr⟩, hmore, hme.trans hze9 (More.refl _ _)⟩
  · rw [gput_some hx1] at hq
    rcases (hall q).1 hq with h | h
    · exact (Zx.cov.more r) q h
    · obtain ⟨x, hx, e⟩ := Z.put_has L r
      exact Or.inr ⟨x, hx, by rw [e]; exact h⟩
  · obtain ⟨y, hy, rfl⟩ := Z.mem_put.1 hx
    rw [Z.setT_t, Z.setT_d, Z.setT_c, Z.setT_p]
    have hyk : y.t < 65536 ∧ y.ttl < 4294967296 ∧ cn y.t y.d = some y.c ∧ y.d.length ≤ 8192 ∧ y.p.length ≤ 128 := by
      rcases hy with h | ⟨_, rfl⟩
      · exact Zx.okk y h
      · exact hok
    refine ⟨hyk.1, ?_, hyk.2.2⟩
    by_cases e : y.p = r.p ∧ y.t = r.t
    · rw [Z.setT_at _ _ _ _ e]; exact hok.2.1
    · rw [Z.setT_off _ _ _ _ e]; exact hyk.2.1
end Go.Proofs.YtdldaphkiphpnaaGreat
