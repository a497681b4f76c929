/- (*wire.reader): take, number8, number16. -/
import Derived.Test.YtpgebiopckmgbabGreatRda
import Derived.Test.YtpgebiopckmgbabGreatMsg
namespace Go.Proofs.YtpgebiopckmgbabGreat
open Go.RowKit
/- the panic of a message that can't be read -/
def fell60 : Ending := .panicked [{ v := .iface 34 (.int .i64 60), recovered := false }]
set_option maxRecDepth 5000 in
theorem slice_md {B : Nat} {w : World} {ao : Option Addr} {l : List UInt8} {cap : Nat} (k m : Nat) (hs : SlB B w ao l) (hk : k + m ≤ l.length) (hc : l.length ≤ cap) (hnil : ao = none → cap = 0) :
    ∃ ao', (∀ W, (Instr.slice 33 (.slice ao l.length cap) (some (.int .i64 (k : Int))) (some (.int .i64 ((k : Int) + (m : Int)))) none).run Tryz.prog W = .ok (.slice ao' m (cap - k)) W) ∧ SlB B w ao' ((l.drop k).take m) ∧ (ao' = none → cap - k = 0) := by
  refine ⟨if cap = k then ao else ao.map (·.add (k * 1)), fun W => ?_, hs.part m hk hc, ?_⟩
  · rw [run_slice_lh W 33 ao l.length cap Tryz.underlying33 .i64 .i64 (k : Int) ((k : Int) + (m : Int)) (by omega) (by omega) (by omega)]
    have hz : (sizeOf (Tryz.prog.elem 33)).run Tryz.prog W = .ok 1 W := Tryz.sizeOf5 W
    rw [hz]
    have e1 : ((k : Int) + (m : Int)).toNat = k + m := by omega
    simp only [Result.andThen, sliced, Int.toNat_natCast, e1]
    rw [show k + m - k = m by omega]
  · intro h
    split at h
    · have := hnil h; omega
    · cases ao with
      | none => have := hnil rfl; omega
      | some a => simp at h
/- the reader at block T, at the place p of b, which lies in memory below B -/
def RdW (B T : Nat) (ao : Option Addr) (c : Nat) (b : List UInt8) (p : Nat) (w : World) : Prop :=
  RowAt w T 63 #[.slice ao b.length c, .int .i64 (p : Int)] ∧ SlB B w ao b ∧ b.length ≤ c ∧ (ao = none → c = 0) ∧ B ≤ T ∧ b.length ≤ 65535 ∧ p ≤ b.length ∧ B ≤ w.heap.size
set_option maxRecDepth 5000 in
theorem RdW.below {B T : Nat} {ao : Option Addr} {c : Nat} {b : List UInt8} {p : Nat} {w w' : World} (h : RdW B T ao c b p w) (hb : Below w.heap.size w w') : RdW B T ao c b p w' := by
  obtain ⟨h1, h2, h3, h4, h5, h6, h7, h8⟩ := h
  exact ⟨h1.below hb h1.lt, h2.below (hb.mono h8), h3, h4, h5, h6, h7, Nat.le_trans h8 hb.size⟩
set_option maxRecDepth 5000 in
theorem RdW.lt {B T : Nat} {ao : Option Addr} {c : Nat} {b : List UInt8} {p : Nat} {w : World} (h : RdW B T ao c b p w) : T < w.heap.size := h.1.lt
set_option maxRecDepth 5000 in
theorem RdW.set {B T : Nat} {ao : Option Addr} {c : Nat} {b : List UInt8} {p : Nat} {w : World} (h : RdW B T ao c b p w) (q : Nat) (hq : q ≤ b.length) : RdW B T ao c b q (w.setCell ⟨T, 1, none⟩ (.int .i64 (q : Int))) := by
  obtain ⟨h1, h2, h3, h4, h5, h6, h7, h8⟩ := h
  exact ⟨h1.set 1 _, h2.below ((Below.refl B w).setCell h5 _), h3, h4, h5, h6, hq, by simp [World.setCell]; exact h8⟩
/- what a reading answers: the place behind it -/
def GotW {α : Type} (B T : Nat) (ao : Option Addr) (c : Nat) (b : List UInt8) (o : Option (α × Nat)) (R : α → Value → World → Prop) (w : World) (e : Ending) (w' : World) : Prop :=
  ((∃ x q v, o = some (x, q) ∧ e = .returned v ∧ R x v w' ∧ RdW B T ao c b q w') ∨ (o = none ∧ e = fell60)) ∧ Mv T w w'
set_option maxHeartbeats 800000 in
set_option maxRecDepth 5000 in
theorem take_any (B T : Nat) (ao : Option Addr) (c : Nat) (b : List UInt8) (p k : Nat) (w : World) (hR : RdW B T ao c b p w) (hk : k ≤ 1000000) :
    Calls Tryz.prog 48 #[.pointer (some ⟨T, 0, none⟩), .int .i64 (k : Int)] w fun e w' =>
      ((p + k ≤ b.length ∧ ∃ a', e = .returned (.slice a' k (c - p)) ∧ SlB B w' a' ((b.drop p).take k) ∧ (a' = none → c - p = 0) ∧ RdW B T ao c b (p + k) w') ∨ (b.length < p + k ∧ e = fell60)) ∧ Mv T w w' := by
  have HR := hide hR
  obtain ⟨hT, hs, hc, hnil, hBT, hl, hp, hB⟩ := hR
  have c0 : w.cell? ⟨T, 0, none⟩ = some (.slice ao b.length c) := by rw [hT.cell 0]; rfl
  have c1 : w.cell? ⟨T, 1, none⟩ = some (.int .i64 (p : Int)) := by rw [hT.cell 1]; rfl
  have f1 := hT.frozen 1
  rcases Nat.lt_or_ge b.length (p + k) with hlt | hge
  · have q1 : (b.length : Int) - (p : Int) < (k : Int) := by omega
    clear hT hs
    go_enter Tryz.func48, Tryz.ntmps48
    go_wp2
    go_quiet (fail)
    go_wp2
    exact ⟨rfl, Or.inr ⟨hlt, rfl⟩, Mv.of (drew_below _ ⟨_, rfl⟩)⟩
  · have q1 : ¬ (b.length : Int) - (p : Int) < (k : Int) := by omega
    obtain ⟨a', r1, s1, n1'⟩ := slice_md p k hs hge hc hnil
    have H1 := hide s1
    clear hT hs s1
    go_enter Tryz.func48, Tryz.ntmps48
    go_wp2
    go_quiet (fail)
    revert nq
    intro n1
    go_wp2
    go_quiet (fail)
    go_wp2
    go_ret
    have hR2 : RdW B T ao c b p (w.drewN n1) := HR.out
    have hR3 := hR2.set (p + k) hge
    rw [Int.natCast_add] at hR3
    have hm : Mv T (w.drewN n1) ((w.drewN n1).setCell ⟨T, 1, none⟩ (.int .i64 ((p : Int) + (k : Int)))) := Mv.set T 1 _ _
    refine ⟨Or.inl ⟨hge, a', rfl, ?_, n1', hR3⟩, ((Mv.of (drew_below _ ⟨n1, rfl⟩)).trans hm).trans (Mv.of (drew_below _ ⟨nq, rfl⟩))⟩
    have h2 : SlB B (w.drewN n1) a' ((b.drop p).take k) := H1.out
    have h3 := h2.below (hm.below hBT hB)
    exact h3
set_option maxRecDepth 5000 in
theorem n8_any (B T : Nat) (ao : Option Addr) (c : Nat) (b : List UInt8) (p : Nat) (w : World) (hR : RdW B T ao c b p w) :
    Calls Tryz.prog 65 #[.pointer (some ⟨T, 0, none⟩)] w fun e w' => GotW B T ao c b (M.n8 b p) (fun x v _ => v = .int .u8 (x : Int)) w e w' := by
  go_enter Tryz.func65, Tryz.ntmps65
  go_wp2_with fail
  refine (take_any B T ao c b p 1 _ hR (by omega)).mono ?_
  rintro e w1 ⟨⟨hle, a', rfl, hs, hn, hr⟩ | ⟨hlt, rfl⟩, hm⟩
  · have hlen : ((b.drop p).take 1).length = 1 := by rw [List.length_take, List.length_drop]; omega
    obtain ⟨g, o, rfl, hg, hc⟩ := hs (by omega)
    have c0 : w1.cell? ⟨g, o, none⟩ = some (.int .u8 (M.by_ b p : Int)) := by
      have h := hc 0 (by omega)
      rw [Nat.add_zero] at h
      rw [h]
      unfold M.by_
      simp [List.getD_eq_getElem?_getD, List.getElem?_drop]
    have HN : Hid (M.n8 b p = some (M.by_ b p, p + 1)) := if_neg (by omega)
    clear hc hs hlen
    go_wp2
    go_ret
    exact ⟨Or.inl ⟨_, _, _, HN.out, rfl, rfl, hr⟩, hm⟩
  · have HN : Hid (M.n8 b p = none) := if_pos (by omega)
    unfold fell60
    go_wp2
    exact ⟨rfl, Or.inr ⟨HN.out, rfl⟩, hm⟩
set_option maxHeartbeats 400000 in
set_option maxRecDepth 5000 in
theorem n16_any (B T : Nat) (ao : Option Addr) (c : Nat) (b : List UInt8) (p : Nat) (w : World) (hR : RdW B T ao c b p w) :
    Calls Tryz.prog 32 #[.pointer (some ⟨T, 0, none⟩)] w fun e w' => GotW B T ao c b (M.n16 b p) (fun x v _ => v = .int .u16 (x : Int)) w e w' := by
  go_enter Tryz.func32, Tryz.ntmps32
  go_wp2_with fail
  refine (take_any B T ao c b p 2 _ hR (by omega)).mono ?_
  rintro e w1 ⟨⟨hle, a', rfl, hs, hn, hr⟩ | ⟨hlt, rfl⟩, hm⟩
  · have hlen : ((b.drop p).take 2).length = 2 := by rw [List.length_take, List.length_drop]; omega
    obtain ⟨g, o, rfl, hg, hc⟩ := hs (by omega)
    have c0 : w1.cell? ⟨g, o, none⟩ = some (.int .u8 (M.by_ b p : Int)) := by
      have h := hc 0 (by omega)
      rw [Nat.add_zero] at h
      rw [h]
      unfold M.by_
      simp [List.getD_eq_getElem?_getD, List.getElem?_drop]
    have c1 : w1.cell? ⟨g, o + 1, none⟩ = some (.int .u8 (M.by_ b (p + 1) : Int)) := by
      have h := hc 1 (by omega)
      rw [h]
      unfold M.by_
      simp [List.getD_eq_getElem?_getD, List.getElem?_drop]
    have hy : M.by_ b p < 256 := (b.getD p 0).toNat_lt
    have hz : M.by_ b (p + 1) < 256 := (b.getD (p + 1) 0).toNat_lt
    have HN : Hid (M.n16 b p = some (M.by_ b p * 256 + M.by_ b (p + 1), p + 2)) := if_neg (by omega)
    clear hc hs hlen
    generalize M.by_ b p = y at c0 hy HN
    generalize M.by_ b (p + 1) = z at c1 hz HN
    have ho2 := or_16 y z hy hz
    go_wp2
    go_quiet (fail)
    go_wp2
    go_ret
    refine ⟨Or.inl ⟨y * 256 + z, p + 2, _, HN.out, rfl, ?_, hr.below (drew_below _ ⟨_, rfl⟩)⟩, hm.trans (Mv.of (drew_below _ ⟨_, rfl⟩))⟩
    show Value.int .u16 ((y : Int) * 256 + (z : Int)) = .int .u16 ((y * 256 + z : Nat) : Int)
    rw [Int.natCast_add, Int.natCast_mul]; rfl
  · have HN : Hid (M.n16 b p = none) := if_pos (by omega)
    unfold fell60
    go_wp2
    exact ⟨rfl, Or.inr ⟨HN.out, rfl⟩, hm⟩
end Go.Proofs.YtpgebiopckmgbabGreat
