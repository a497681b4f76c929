/- signetref6.reader: n, of two bytes; signetref3.Get. -/
import Derived.Test.YtpgebiopckmgbaaGreatRdm
namespace Go.Proofs.YtpgebiopckmgbaaGreat
open Go.RowKit
namespace D
def gv (l : List UInt8) : Nat := l.foldl (fun a b => a * 256 + b.toNat) 0
set_option maxRecDepth 5000 in
theorem gv_next (l : List UInt8) (j : Nat) (h : j < l.length) : gv (l.take (j + 1)) = gv (l.take j) * 256 + (l.getD j 0).toNat := by
  rw [N.take_nextB l j h]
  unfold gv
  rw [List.foldl_append]; rfl
set_option maxRecDepth 5000 in
theorem gv_lt : ∀ (l : List UInt8), gv l < 256 ^ l.length := by
  intro l
  have h : ∀ (l : List UInt8) (a : Nat), l.foldl (fun a b => a * 256 + b.toNat) a < (a + 1) * 256 ^ l.length := by
    intro l
    induction l with
    | nil => intro a; simp
    | cons x l ih =>
      intro a
      rw [List.foldl_cons, List.length_cons, Nat.pow_succ]
      refine Nat.lt_of_lt_of_le (ih _) ?_
      have := x.toNat_lt
      have h2 : a * 256 + x.toNat + 1 ≤ (a + 1) * 256 := by omega
      calc (a * 256 + x.toNat + 1) * 256 ^ l.length ≤ ((a + 1) * 256) * 256 ^ l.length := Nat.mul_le_mul_right _ h2
        _ = (a + 1) * (256 ^ l.length * 256) := by rw [Nat.mul_assoc, Nat.mul_comm 256]
  have := h l 0
  simpa [gv] using this
set_option maxRecDepth 5000 in
theorem gv_take_lt (l : List UInt8) (j : Nat) (hl : l.length ≤ 4) (hj : j < l.length) : gv (l.take j) < 16777216 := by
  have h1 := gv_lt (l.take j)
  have h2 : (l.take j).length ≤ 3 := by rw [List.length_take]; omega
  have h3 : 256 ^ (l.take j).length ≤ 256 ^ 3 := Nat.pow_le_pow_right (by omega) h2
  omega
set_option maxRecDepth 5000 in
theorem n16_gv (x y : UInt8) (r : List UInt8) : n16 (x :: y :: r) = some (gv [x, y], r) := by simp [n16, gv]
set_option maxRecDepth 5000 in
theorem n32_gv (x y z u : UInt8) (r : List UInt8) : n32 (x :: y :: z :: u :: r) = some (gv [x, y, z, u], r) := by
  simp only [n32, n16, Option.bind_some, Option.map_some, gv, List.foldl_cons, List.foldl_nil]
  congr 2; omega
end D
set_option maxRecDepth 5000 in
theorem or_8 (x y : Nat) (hx : x < 16777216) (hy : y < 256) : bits .or .u32 ((x : Int) * 256) (y : Int) = ((x * 256 + y : Nat) : Int) := by
  have := u32_or_nat (x * 256) y (by omega) (by omega)
  rw [nat_join 8 (x * 256) y (by omega) (by omega), Int.natCast_mul] at this
  exact this
set_option maxRecDepth 5000 in
theorem get_any (l : List UInt8) (ao : Option Addr) (len cap : Nat) (w : World) (hl : Hid (l.length = len)) (hs : SlL w ao l) (h4 : len ≤ 4) :
    Calls Tryz.prog 48 #[.slice ao len cap] w fun e w' => e = .returned (.int .u32 (D.gv l : Int)) ∧ w' = w := by
  have HS := hide hs
  clear hs
  go_enter Tryz.func48, Tryz.ntmps48
  go_wp2
  go_loopw [4, 3] (fun i v wr => ∃ j : Nat, i = .int .i64 (j : Int) ∧ j ≤ len ∧ v = .int .u32 (D.gv (l.take j) : Int) ∧ wr = w) (fun i _ _ => len - (intOf i).toNat)
  case atStart => exact ⟨0, rfl, by omega, rfl, rfl⟩
  case round =>
    obtain ⟨j, rfl, hj, rfl, rfl⟩ := hrel
    by_cases hlt : j < len
    · obtain ⟨b1, o1, rfl, hb1, hc1⟩ := HS.out (by have := hl.out; omega)
      have hx := hc1 j (by have := hl.out; omega)
      have hn := D.gv_next l j (by have := hl.out; omega)
      have hg := D.gv_take_lt l j (by have := hl.out; omega) (by have := hl.out; omega)
      have hy := (l.getD j 0).toNat_lt
      clear hc1
      generalize (l.getD j 0).toNat = y at hx hn hy
      generalize D.gv (l.take j) = x at hn hg
      have HN := hide hn
      have hor := or_8 x y hg hy
      clear hn
      have hjl : (j : Int) < (len : Int) := by omega
      go_wp2
      go_roundw
      case rel => exact ⟨j + 1, by go_num, by omega, by rw [HN.out]; simp, trivial⟩
      case measure => simp [intOf]; omega
    · obtain rfl : j = len := by omega
      have ht : l.take j = l := by rw [← hl.out]; exact List.take_length
      rw [ht]
      go_wp2
      go_ret
      exact ⟨rfl, rfl⟩

set_option maxRecDepth 5000 in
theorem drop_cons (b : List UInt8) (j : Nat) (h : j < b.length) : b.drop j = b.getD j 0 :: b.drop (j + 1) := by
  rw [List.drop_eq_getElem_cons h]
  congr 1
  simp [List.getD_eq_getElem?_getD, h]
set_option maxRecDepth 5000 in
theorem gv_two (b : List UInt8) (p : Nat) (h : p + 2 ≤ b.length) : D.gv ((b.drop p).take 2) = M.num b p := by
  have h1 : (b.drop p).take 2 = [b.getD p 0, b.getD (p + 1) 0] := by rw [drop_cons b p (by omega), drop_cons b (p + 1) (by omega)]; rfl
  rw [h1]
  simp [D.gv, M.num, M.by_]
/- the reference's reader at block R -/
def RfR (B R : Nat) (ao : Option Addr) (c : Nat) (b : List UInt8) (p : Nat) (bad : Bool) (w : World) : Prop :=
  RowAt w R 61 #[.slice ao b.length c, .int .i64 (p : Int), .bool bad] ∧ SlB B w ao b ∧ b.length ≤ c ∧ (ao = none → c = 0) ∧ B ≤ R ∧ b.length ≤ 65535 ∧ p ≤ b.length ∧ B ≤ w.heap.size
set_option maxRecDepth 5000 in
theorem RfR.below {B T : Nat} {ao : Option Addr} {c : Nat} {b : List UInt8} {p : Nat} {bad : Bool} {w w' : World} (h : RfR B T ao c b p bad w) (hb : Below w.heap.size w w') : RfR B T ao c b p bad w' := by
  obtain ⟨h1, h2, h3, h4, h5, h6, h7, h8⟩ := h
  exact ⟨h1.below hb h1.lt, h2.below (hb.mono h8), h3, h4, h5, h6, h7, Nat.le_trans h8 hb.size⟩
set_option maxRecDepth 5000 in
theorem RfR.mv {B T P : Nat} {ao : Option Addr} {c : Nat} {b : List UInt8} {p : Nat} {bad : Bool} {w w' : World} (h : RfR B T ao c b p bad w) (hne : T ≠ P) (hP : B ≤ P) (hm : Mv P w w') : RfR B T ao c b p bad w' := by
  obtain ⟨h1, h2, h3, h4, h5, h6, h7, h8⟩ := h
  exact ⟨row_mv h1 hne hm, h2.below (hm.below hP h8), h3, h4, h5, h6, h7, Nat.le_trans h8 hm.size⟩
set_option maxRecDepth 5000 in
theorem RfR.grown {B T : Nat} {ao : Option Addr} {c : Nat} {b : List UInt8} {p : Nat} {bad : Bool} {w w' : World} {base e s n : Nat} {v : Value} {xs : List Value} (h : RfR B T ao c b p bad w) (ho : w.ownsRow base e s v n xs) (hne : 61 ≠ e) (hB : B ≤ base) (hg : w.grownBy w' v.ownBlock) : RfR B T ao c b p bad w' := by
  obtain ⟨h1, h2, h3, h4, h5, h6, h7, h8⟩ := h
  refine ⟨row_grownO h1 ho hne hg, h2.below ⟨hg.os, hg.tape, hg.output, hg.size, fun k hk => hg.block k (by omega) (fun q => ?_)⟩, h3, h4, h5, h6, h7, Nat.le_trans h8 hg.size⟩
  rcases ho.2 with ⟨rfl, _⟩ | ⟨g, cap, cur, rfl, hb, _⟩
  · simp [Value.ownBlock] at q
  · simp [Value.ownBlock] at q; omega
set_option maxRecDepth 5000 in
theorem RfR.at_ {B T : Nat} {ao : Option Addr} {c : Nat} {b : List UInt8} {p : Nat} {bad : Bool} {w : World} (h : RfR B T ao c b p bad w) (q : Nat) (hq : q ≤ b.length) : RfR B T ao c b q bad (w.setCell ⟨T, 1, none⟩ (.int .i64 (q : Int))) := by
  obtain ⟨h1, h2, h3, h4, h5, h6, h7, h8⟩ := h
  exact ⟨h1.set 1 _, h2.below ((Below.refl B w).setCell h5 _), h3, h4, h5, h6, hq, by simp [World.setCell]; exact h8⟩
set_option maxRecDepth 5000 in
theorem RfR.bad {B T : Nat} {ao : Option Addr} {c : Nat} {b : List UInt8} {p : Nat} {bad : Bool} {w : World} (h : RfR B T ao c b p bad w) : RfR B T ao c b p true (w.setCell ⟨T, 2, none⟩ (.bool true)) := by
  obtain ⟨h1, h2, h3, h4, h5, h6, h7, h8⟩ := h
  exact ⟨h1.set 2 _, h2.below ((Below.refl B w).setCell h5 _), h3, h4, h5, h6, h7, by simp [World.setCell]; exact h8⟩
def rn2 (b : List UInt8) (p : Nat) (bad : Bool) : Nat × Nat × Bool := if bad = true ∨ b.length < p + 2 then (0, p, true) else (M.num b p, p + 2, false)
set_option maxHeartbeats 800000 in
set_option maxRecDepth 5000 in
theorem rn_any (B R : Nat) (ao : Option Addr) (c : Nat) (b : List UInt8) (p : Nat) (bad : Bool) (w : World) (hR : RfR B R ao c b p bad w) :
    Calls Tryz.prog 23 #[.pointer (some ⟨R, 0, none⟩), .int .i64 2] w fun e w' => e = .returned (.int .u32 ((rn2 b p bad).1 : Int)) ∧ RfR B R ao c b (rn2 b p bad).2.1 (rn2 b p bad).2.2 w' ∧ Mv R w w' := by
  have HR := hide hR
  obtain ⟨hT, hs, hc, hnil, hBT, hl, hp, hB⟩ := hR
  have c0 : w.cell? ⟨R, 0, none⟩ = some (.slice ao b.length c) := by rw [hT.cell 0]; rfl
  have c1 : w.cell? ⟨R, 1, none⟩ = some (.int .i64 (p : Int)) := by rw [hT.cell 1]; rfl
  have c2 : w.cell? ⟨R, 2, none⟩ = some (.bool bad) := by rw [hT.cell 2]; rfl
  have f1 := hT.frozen 1
  have f2 := hT.frozen 2
  cases bad with
  | true =>
    have HN : Hid (rn2 b p true = (0, p, true)) := if_pos (Or.inl rfl)
    rw [HN.out]
    clear hT hs
    go_enter Tryz.func23, Tryz.ntmps23
    go_wp2
    go_quiet (fail)
    go_wp2
    go_ret
    exact ⟨rfl, RfR.bad (w := w.drewN nq) (by exact HR.out), (Mv.of (drew_below _ ⟨nq, rfl⟩)).trans (Mv.set R 2 _ _)⟩
  | false =>
    rcases Nat.lt_or_ge b.length (p + 2) with hlt | hge
    · have HN : Hid (rn2 b p false = (0, p, true)) := if_pos (Or.inr hlt)
      rw [HN.out]
      have q1 : (b.length : Int) - (p : Int) < 2 := by omega
      clear hT hs
      go_enter Tryz.func23, Tryz.ntmps23
      go_wp2
      go_quiet (fail)
      go_wp2
      go_ret
      exact ⟨rfl, RfR.bad (w := w.drewN nq) (by exact HR.out), (Mv.of (drew_below _ ⟨nq, rfl⟩)).trans (Mv.set R 2 _ _)⟩
    · have HN : Hid (rn2 b p false = (M.num b p, p + 2, false)) := if_neg (by simp; omega)
      rw [HN.out]
      have q1 : ¬ (b.length : Int) - (p : Int) < 2 := by omega
      obtain ⟨a', r1, s1, n1'⟩ := slice_md p 2 hs hge hc hnil
      replace r1 : ∀ W, (Instr.slice 22 (.slice ao b.length c) (some (.int .i64 (p : Int))) (some (.int .i64 ((p : Int) + 2))) none).run Tryz.prog W = .ok (.slice a' 2 (c - p)) W := r1
      have HL : Hid (((b.drop p).take 2).length = 2) := by show _ = _; rw [List.length_take, List.length_drop]; omega
      have HG := hide (gv_two b p hge)
      have hwp : IntKind.i64.wrap (p : Int) = (p : Int) := i64_small p (by omega)
      have S1 := hide s1
      clear hT hs s1
      go_enter Tryz.func23, Tryz.ntmps23
      go_wp2
      go_quiet (fail)
      have M0 : Hid (Mv R w (w.drewN nq)) := Mv.of (drew_below _ ⟨nq, rfl⟩)
      have H0 : Hid (RfR B R ao c b p false (w.drewN nq)) := HR.out
      have S0 : Hid (SlB B (w.drewN nq) a' ((b.drop p).take 2)) := S1.out
      clear c0 c1 c2 f1 f2 HR S1
      generalize w.drewN nq = u at M0 H0 S0 ⊢
      have c1 : u.cell? ⟨R, 1, none⟩ = some (.int .i64 (p : Int)) := by rw [H0.out.1.cell 1]; rfl
      have f1 := H0.out.1.frozen 1
      have D1 := H0.out.at_ (p + 2) hge
      rw [show ((p + 2 : Nat) : Int) = (p : Int) + 2 by omega] at D1
      have y0 : (u.setCell ⟨R, 1, none⟩ (.int .i64 ((p : Int) + 2))).cell? ⟨R, 0, none⟩ = some (.slice ao b.length c) := D1.1.cell 0
      have y1 : (u.setCell ⟨R, 1, none⟩ (.int .i64 ((p : Int) + 2))).cell? ⟨R, 1, none⟩ = some (.int .i64 ((p : Int) + 2)) := (D1.1.cell 1).trans (by show some (Value.int IntKind.i64 ((p + 2 : Nat) : Int)) = _; rw [show ((p + 2 : Nat) : Int) = (p : Int) + 2 by omega])
      have SL : Hid (SlL (u.setCell ⟨R, 1, none⟩ (.int .i64 ((p : Int) + 2))) a' ((b.drop p).take 2)) := (S0.out.below ((Below.refl B u).setCell hBT _)).sl D1.2.2.2.2.2.2.2
      have DD := hide D1
      have MM := hide (M0.out.trans (Mv.set R 1 u (.int .i64 ((p : Int) + 2))))
      clear D1 M0 H0 S0
      go_wp2
      generalize (u.setCell ⟨R, 1, none⟩ (.int .i64 ((p : Int) + 2))) = x at y0 y1 SL DD MM ⊢
      go_region_law (first
        | (refine step_fn 48 _ _ rfl rfl #[.slice a' 2 (c - p)] (by go_simp) (get_any ((b.drop p).take 2) a' 2 (c - p) _ HL.out (by exact SL.out) (by omega)) (by rintro e w' ⟨rfl, _⟩; exact ⟨_, rfl⟩) ?_; rintro v1 w1 ⟨he, rfl⟩; cases he))
      all_goals
        go_wp2
        go_ret
        exact ⟨by rw [← HG.out]; rfl, by exact DD.out, by exact (MM.out.trans (Mv.of (Below.refl _ _).drew))⟩
end Go.Proofs.YtpgebiopckmgbaaGreat
