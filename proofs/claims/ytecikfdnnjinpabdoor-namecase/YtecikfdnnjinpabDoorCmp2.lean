/- name.Within, name.Wild; parts of slices. -/
import Derived.Test.YtecikfdnnjinpabDoorCmp
namespace Go.Proofs.YtecikfdnnjinpabDoor
open Go.RowKit
theorem addr_add (b o k : Nat) : (⟨b, o, none⟩ : Addr).add k = ⟨b, o + k, none⟩ := Addr.add_lit b o k
theorem slice_from {w : World} {ao : Option Addr} {n : List (List UInt8)} {len cap k : Nat} {x : Int} (hx : x = (k : Int)) (hs : SlS w ao n) (hl : n.length = len) (hk : k ≤ len) (hc : len ≤ cap) :
    ∃ ao', (∀ W, (Instr.slice 25 (.slice ao len cap) (some (.int .i64 x)) none none).run Tryd.prog W = .ok (.slice ao' (len - k) (cap - k)) W) ∧ SlS w ao' (n.drop k) := by
  subst hx
  refine ⟨if cap = k then ao else ao.map (·.add (k * 1)), fun W => ?_, fun hn => ?_⟩
  · rw [run_slice_l W 25 ao len cap Tryd.underlying25 .i64 (k : Int) (by omega) (by omega)]
    have hz : (sizeOf (Tryd.prog.elem 25)).run Tryd.prog W = .ok 1 W := Tryd.sizeOf9 W
    rw [hz]
    simp only [Result.andThen, sliced, Int.toNat_natCast]
  · rw [List.length_drop] at hn
    obtain ⟨b, o, rfl, hlt, hcell⟩ := hs (by omega)
    rw [if_neg (by omega)]
    obtain ⟨b', o', e, h1, h2⟩ := (SlS.drop (w := w) (b := b) (o := o) (k := k) (n := n) (fun _ => ⟨b, o, rfl, hlt, hcell⟩) (by omega)) (by rw [List.length_drop]; omega)
    refine ⟨b', o', ?_, h1, h2⟩
    rw [← e, Option.map_some, Nat.mul_one, addr_add]
theorem within_any (a b : List (List UInt8)) (ao bo : Option Addr) (la lb ca cb : Nat) (w : World) (hla : Hid (a.length = la)) (hlb : Hid (b.length = lb)) (hsa : SlS w ao a) (hsb : SlS w bo b) (hma : la ≤ 9223372036854775807) (hmb : lb ≤ 9223372036854775807) (hca : la ≤ ca) (ha : Hid (Sane a)) (hb : Hid (Sane b)) :
    Calls Tryd.prog 13 #[.slice ao la ca, .slice bo lb cb] w fun e w' => e = .returned (.bool (N.within a b)) ∧ ∃ m, w' = w.drewN m := by
  have HSA := hide hsa
  have HSB := hide hsb
  clear hsa hsb
  by_cases h : lb ≤ la
  · have hz : N.within a b = N.same (a.drop (la - lb)) b := by
      unfold N.within; rw [hla.out, hlb.out, decide_eq_true h, Bool.true_and]
    rw [hz]
    obtain ⟨ao', hsl, hs'⟩ := slice_from (k := la - lb) (x := (la : Int) - (lb : Int)) (by omega) HSA.out hla.out (by omega) hca
    have HS' := hide hs'
    clear hs'
    go_enter Tryd.func13, Tryd.ntmps13
    go_wp2_with (go_at_call 10; refine (same_any (a.drop (la - lb)) b ao' bo _ lb _ cb _ (by show _ = _; rw [List.length_drop, hla.out]) hlb HS'.out HSB.out (by omega) hmb (ha.out.drop _) hb).mono ?_; rintro e w' ⟨rfl, hm⟩)
    go_ret
    exact ⟨rfl, hm⟩
  · have hz : N.within a b = false := by
      unfold N.within; rw [hla.out, hlb.out, decide_eq_false h, Bool.false_and]
    rw [hz]
    go_enter Tryd.func13, Tryd.ntmps13
    go_wp2
    go_ret
    exact ⟨rfl, 0, rfl⟩
def wild (n : List (List UInt8)) : Bool := decide (0 < n.length) && (n.getD 0 [] == [42])
theorem wild_any (a : List (List UInt8)) (ao : Option Addr) (la ca : Nat) (w : World) (hla : Hid (a.length = la)) (hsa : SlS w ao a) :
    Calls Tryd.prog 16 #[.slice ao la ca] w fun e w' => e = .returned (.bool (wild a)) ∧ w' = w := by
  have HSA := hide hsa
  clear hsa
  by_cases h : 0 < la
  · have hz : wild a = (a.getD 0 [] == [42]) := by
      unfold wild; rw [hla.out, decide_eq_true h, Bool.true_and]
    rw [hz]
    obtain ⟨b1, o1, rfl, _, hc1⟩ := HSA.out (by have := hla.out; omega)
    have hx1 : w.cell? ⟨b1, o1, none⟩ = some (.string ⟨(a.getD 0 []).toArray⟩) := hc1 0 (by have := hla.out; omega)
    clear hc1
    generalize a.getD 0 [] = x at hx1
    go_enter Tryd.func16, Tryd.ntmps16
    go_wp2
    go_ret
    exact ⟨rfl, rfl⟩
  · have hz : wild a = false := by
      unfold wild; rw [hla.out, decide_eq_false h, Bool.false_and]
    rw [hz]
    go_enter Tryd.func16, Tryd.ntmps16
    go_wp2
    go_ret
    exact ⟨rfl, rfl⟩
end Go.Proofs.YtecikfdnnjinpabDoor
