/- name.isDigit, (*name.reading).endLabel, takeDigit: the steps of reading. -/
import Derived.Test.YtecikfdnnjinpabDoorRd
import Derived.BigRegion
namespace Go.Proofs.YtecikfdnnjinpabDoor
open Go.RowKit
theorem isDigit_any (r : Nat) (w : World) (hr : r ≤ 2147483647) : Calls Tryd.prog 36 #[.int .i32 (r : Int)] w fun e w' => e = .returned (.bool (N.dig r)) ∧ w' = w := by
  rcases Nat.lt_or_ge r 48 with h | h
  · have hd : N.dig r = false := decide_eq_false (by omega)
    rw [hd]
    go_enter Tryd.func36, Tryd.ntmps36
    go_wp2
    go_ret
    exact ⟨rfl, rfl⟩
  · rcases Nat.lt_or_ge 57 r with h2 | h2
    · have hd : N.dig r = false := decide_eq_false (by omega)
      rw [hd]
      go_enter Tryd.func36, Tryd.ntmps36
      go_wp2
      go_ret
      exact ⟨by simp; omega, rfl⟩
    · have hd : N.dig r = true := decide_eq_true (by omega)
      rw [hd]
      go_enter Tryd.func36, Tryd.ntmps36
      go_wp2
      go_ret
      exact ⟨by simp; omega, rfl⟩
/- the text's own panic -/
def fell : Ending := .panicked [{ v := .iface 27 (.int .i64 30), recovered := false }]
def Took (B T : Nat) (o : Option N.St) (w : World) (e : Ending) (w' : World) : Prop :=
  ((∃ st', o = some st' ∧ e = .returned (.tuple #[]) ∧ Rd B T st' w') ∨ (o = none ∧ e = fell)) ∧ Below B w w' ∧ Keeps w w'
theorem endLabel_bad (B T : Nat) (st : N.St) (w : World) (hR : Rd B T st w) (h0 : st.l = []) :
    Calls Tryd.prog 38 #[.pointer (some ⟨T, 0, none⟩)] w fun e w' => e = fell ∧ w' = w := by
  obtain ⟨an, cn, al, cl, hT, _, _, _⟩ := hR
  have c1 : w.cell? ⟨T, 1, none⟩ = some (.slice al 0 cl) := by rw [hT.cell 1, h0]; rfl
  clear hT
  go_enter Tryd.func38, Tryd.ntmps38
  go_wp2
  exact ⟨rfl, rfl, rfl⟩
theorem OwnB.cut {w : World} {B : Nat} {al : Option Addr} {cl : Nat} {l : List UInt8} (h : OwnB w B (.slice al l.length cl) l) (hnil : al = none → cl = 0) : OwnB w B (.slice al 0 cl) [] := by
  have h0 : w.ownsRow B 5 1 (.slice al l.length cl) l.length (vb l) := h
  refine ⟨rfl, ?_⟩
  rcases h0.2 with ⟨e, _⟩ | ⟨g, cap, cur, e, h1, h2, h3, h4, h5, h6⟩
  · simp only [Value.slice.injEq] at e; rw [e.1, e.2.2]; exact Or.inl ⟨rfl, rfl⟩
  · cases e; exact Or.inr ⟨g, cl, cur, rfl, h1, h2, by simp, h4, h5, by simp [vb]⟩
theorem slice_zero {w : World} {B : Nat} {al : Option Addr} {cl : Nat} {l : List UInt8} (h : OwnB w B (.slice al l.length cl) l) : ∀ W, (Instr.slice 23 (.slice al l.length cl) none (some (.int .i64 0)) none).run Tryd.prog W = .ok (.slice al 0 cl) W := fun W => by
  rw [run_slice_h W 23 al l.length cl Tryd.underlying23 .i64 0 (by omega) (by omega)]
  have hz : (sizeOf (Tryd.prog.elem 23)).run Tryd.prog W = .ok 1 W := Tryd.sizeOf5 W
  rw [hz]
  have h0 : w.ownsRow B 5 1 (.slice al l.length cl) l.length (vb l) := h
  simp only [Result.andThen, sliced]
  rcases h0.2 with ⟨e, _⟩ | ⟨g, cap, cur, e, _⟩
  · simp only [Value.slice.injEq] at e; rw [e.1, e.2.2]; rfl
  · cases e; simp [Addr.add]
theorem Rd.of {B T : Nat} {w : World} {n : List (List UInt8)} {l : List UInt8} {esc : Bool} {d num : Nat} {an al : Option Addr} {cn cl : Nat} {c : Array Value} (ln ll : Nat) (hln : ln = n.length) (hll : ll = l.length) (hT : RowAt w T 58 c) (hc : c = #[.slice an ln cn, .slice al ll cl, .bool esc, .int .i64 (d : Int), .int .i64 (num : Int)])
    (hS : OwnS w B (.slice an n.length cn) n) (hL : OwnB w B (.slice al l.length cl) l) (hB : B ≤ T) (hnil : al = none → cl = 0) (hcl : l.length ≤ cl) : Rd B T ⟨n, l, esc, d, num⟩ w := by
  subst hln hll hc
  exact ⟨an, cn, al, cl, hT, hS, hL, hB, hnil, hcl⟩
theorem below_drew {B : Nat} {a w : World} (h : Below B a w) : Below B a w.drew := ⟨h.os, h.tape, h.output, h.size, h.block⟩
theorem grewS {w w4 : World} {B T : Nat} {c : Array Value} {v vl : Value} {n : List (List UInt8)} {l : List UInt8} {o : Obj} (hOS : OwnS w B v n) (hT : RowAt w T 58 c) (hOB : OwnB w B vl l) (hB : B ≤ w.heap.size) (hG : ((w.alloc o).drew).grownBy w4 v.ownBlock) :
    RowAt w4 T 58 c ∧ OwnB w4 B vl l ∧ Below B w w4 ∧ Keeps w w4 := by
  have h1 : OwnS (w.alloc o).drew B v n := hOS.alloc o
  refine ⟨row_grown h1 (hT.alloc o) (by decide) hG, own_grown h1 (hOB.alloc o) (by decide) hG, grown_belowS h1 hG (below_drew ((Below.refl B w).alloc hB o)) ?_, (Keeps.alloc w o).trans (Keeps.grown (w := (w.alloc o).drew) h1 hG)⟩
  show B ≤ (w.alloc o).heap.size
  simp; omega
theorem grewB {w w4 : World} {B T : Nat} {c : Array Value} {v vn : Value} {n : List (List UInt8)} {l : List UInt8} {o : Obj} (hOB : OwnB w B v l) (hT : RowAt w T 58 c) (hOS : OwnS w B vn n) (hB : B ≤ w.heap.size) (hG : ((w.alloc o).drew).grownBy w4 v.ownBlock) :
    RowAt w4 T 58 c ∧ OwnS w4 B vn n ∧ Below B w w4 ∧ Keeps w w4 := by
  have h1 : OwnB (w.alloc o).drew B v l := hOB.alloc o
  refine ⟨row_grown h1 (hT.alloc o) (by decide) hG, own_grown h1 (hOS.alloc o) (by decide) hG, grown_below h1 hG (below_drew ((Below.refl B w).alloc hB o)) ?_, (Keeps.alloc w o).trans (Keeps.grown (w := (w.alloc o).drew) h1 hG)⟩
  show B ≤ (w.alloc o).heap.size
  simp; omega
theorem grewBS {w w4 : World} {B T : Nat} {c : Array Value} {v vn : Value} {n : List (List UInt8)} {l : List UInt8} (hOB : OwnB w B v l) (hT : RowAt w T 58 c) (hOS : OwnS w B vn n) (hB : B ≤ w.heap.size) (hG : w.grownBy w4 v.ownBlock) :
    RowAt w4 T 58 c ∧ OwnS w4 B vn n ∧ Below B w w4 ∧ Keeps w w4 :=
  ⟨row_grown hOB hT (by decide) hG, own_grown hOB hOS (by decide) hG, grown_below hOB hG (Below.refl B w) hB, Keeps.grown hOB hG⟩
set_option maxRecDepth 3000 in
set_option maxHeartbeats 800000 in
theorem endLabel_ok (B T : Nat) (st : N.St) (w : World) (hR : Rd B T st w) (h0 : st.l ≠ []) (hB : B ≤ w.heap.size) (hn : st.n.length ≤ 1000000000) :
    Calls Tryd.prog 38 #[.pointer (some ⟨T, 0, none⟩)] w fun e w' => e = .returned (.tuple #[]) ∧ Rd B T ⟨st.n ++ [st.l], [], st.esc, st.d, st.num⟩ w' ∧ Below B w w' ∧ Keeps w w' := by
  obtain ⟨an, cn, al, cl, hT, hOS, hOB, hBT, hnil, hcl⟩ := hR
  have hlt := hT.lt
  have c0 : w.cell? ⟨T, 0, none⟩ = some (.slice an st.n.length cn) := by rw [hT.cell 0]; rfl
  have c1 : w.cell? ⟨T, 1, none⟩ = some (.slice al st.l.length cl) := by rw [hT.cell 1]; rfl
  obtain ⟨_, _, e1, hsl, _, _⟩ := hOB.open
  cases e1
  have hst : (convert 23 9 (.slice al st.l.length cl)).run Tryd.prog w.drew = .ok (.string ⟨st.l.toArray⟩) w.drew := run_str (W := w.drew) st.l.length cl hsl rfl
  have hne : ((st.l.length : Int) == 0) = false := by
    have := List.length_pos_iff.2 h0
    simp; omega
  have hcut := slice_zero hOB
  have HT := hide hT
  have HOS := hide hOS
  have HOB := hide hOB
  clear hT hOS hOB hsl
  go_enter Tryd.func38, Tryd.ntmps38
  go_wp2
  go_region_law (refine step_append_S rfl (.tmp 13) (.tmp 19) rfl B (.slice an st.n.length cn) st.n (by simp [Act.eval]) (by exact HOS.out.alloc _) ⟨w.heap.size, 0, none⟩ 1 1 [st.l] (by simp [Act.eval]) rfl (by exact SlS.one w st.l 9) (by simp; omega) (by simp; omega) ?_; intro v4 w4 hO4 hG4; obtain ⟨a4, c4, rfl, _, hn4, _⟩ := hO4.open; obtain ⟨hT4, hOB4, hB4, hK4⟩ := grewS HOS.out HT.out HOB.out hB hG4; have k0 : w4.cell? ⟨T, 0, none⟩ = some (.slice an st.n.length cn) := hT4.cell 0; have k1 : w4.cell? ⟨T, 1, none⟩ = some (.slice al st.l.length cl) := hT4.cell 1; have f0 := hT4.frozen 0; have f1 := hT4.frozen 1; have HT4 := hide hT4; have HOB4 := hide hOB4; have HB4 := hide hB4; have HK4 := hide hK4; have HO4 := hide hO4; clear hG4 hO4 hT4 hOB4 hB4 hK4)
  all_goals
    go_wp2
    go_end0
    refine ⟨rfl, ?_, (HB4.out.setCell hBT _).setCell hBT _, (HK4.out.trans (Keeps.set HT4.out _ _)).trans (Keeps.set (HT4.out.set 0 _) _ _)⟩
    exact Rd.of (st.n.length + 1) 0 (by simp) rfl ((HT4.out.set 0 _).set 1 _) rfl (own_set (own_set HO4.out HT4.out (by decide) _ _) (HT4.out.set 0 _) (by decide) _ _) (own_set (own_set (OwnB.cut HOB4.out hnil) HT4.out (by decide) _ _) (HT4.out.set 0 _) (by decide) _ _) hBT hnil (by simp)
end Go.Proofs.YtecikfdnnjinpabDoor
