/- name.Parse: a text's name, or the error; the panic that is recovered. -/
import Derived.Test.YtecikfdnnjinpabDoorRead2
import Derived.Recover
namespace Go.Proofs.YtecikfdnnjinpabDoor
open Go.RowKit
theorem RowAt.other {wr : World} {g : Nat} {t : TypeId} {c : Array Value} (h : RowAt wr g t c) (a : Addr) (v : Value) (hne : g ≠ a.block) : RowAt (wr.setCell a v) g t c := by
  unfold RowAt; rw [heap_setCell_other _ _ _ _ hne]; exact h
/- both results at once -/
theorem two_set {w : World} {A : Nat} {v v' : Value} {c c' : Int} (hA : RowAt w A 25 #[v]) (hE : RowAt w (A + 1) 27 #[.int .i64 c]) :
    RowAt ((w.setCell ⟨A, 0, none⟩ v').setCell ⟨A + 1, 0, none⟩ (.int .i64 c')) A 25 #[v'] ∧ RowAt ((w.setCell ⟨A, 0, none⟩ v').setCell ⟨A + 1, 0, none⟩ (.int .i64 c')) (A + 1) 27 #[.int .i64 c'] :=
  ⟨(hA.set 0 v').other _ _ (by show A ≠ A + 1; omega), (hE.other ⟨A, 0, none⟩ v' (by show A + 1 ≠ A; omega)).set 0 _⟩
theorem two_below {w w0 : World} {B A : Nat} {v' : Value} {c' : Int} (h : Below B w0 w) (hB : B ≤ A) : Below B w0 ((w.setCell ⟨A, 0, none⟩ v').setCell ⟨A + 1, 0, none⟩ (.int .i64 c')) :=
  (h.setCell hB _).setCell (by show B ≤ A + 1; omega) _
theorem catch_fell (A : Nat) (vn ve : Value) (u : TypeId) (pv : Value) (w : World) (hp : w.cell? ⟨A, 0, none⟩ = some vn) (hq : w.cell? ⟨A + 1, 0, none⟩ = some ve) (fp : w.frozen? ⟨A, 0, none⟩ = false) (fq : w.frozen? ⟨A + 1, 0, none⟩ = false) :
    CallsD Tryd.prog 20 #[.pointer (some ⟨A, 0, none⟩), .pointer (some ⟨A + 1, 0, none⟩)] (.panicking [{ v := .iface u pv, recovered := false }]) w fun e u' w' =>
      e = .returned (.tuple #[]) ∧ u' = .panicking [{ v := .iface u pv, recovered := true }] ∧ w' = (w.setCell ⟨A, 0, none⟩ (.slice none 0 0)).setCell ⟨A + 1, 0, none⟩ (.int .i64 30) := by
  refine callsD_of_wpS Tryd.func20 rfl fun c₀ cs hu => ?_
  apply wpS_seq
  apply wpS_region
  simp [wpOpsS, go_sem, recoverD, hu, Tryd.ntmps20, Exit.thenS]
  refine wpS_cond (t := true) (by simp [Act.eval, Array.replicate]) ?_
  simp only [if_true]
  apply wpS_region
  simp [wpOpsS, go_sem, hp, hq, fp, fq, bodyPostS, results, Tryd.results20]
theorem catch_idle (A : Nat) (w : World) :
    CallsD Tryd.prog 20 #[.pointer (some ⟨A, 0, none⟩), .pointer (some ⟨A + 1, 0, none⟩)] .returning w fun e u' w' => e = .returned (.tuple #[]) ∧ u' = .returning ∧ w' = w := by
  refine callsD_of_wpS Tryd.func20 rfl fun c₀ cs hu => ?_
  apply wpS_seq
  apply wpS_region
  simp [wpOpsS, go_sem, recoverD, hu, Tryd.ntmps20, Exit.thenS]
  refine wpS_cond (t := false) (by simp [Act.eval, Array.replicate]) ?_
  simp only [Bool.false_eq_true, if_false]
  refine wpS_of_wp (wp_skip ?_)
  cases c₀
  simp_all [bodyPostS, results, Tryd.results20]
namespace N
/- the error of a text -/
def perr (bs : List UInt8) (c : Int) : Prop := (rd bs = none ∧ c = 30) ∨ ∃ n, rd bs = some n ∧ chk n = c
end N
def Parsed (bs : List UInt8) (B : Nat) (w : World) (e : Ending) (w' : World) : Prop :=
  ((∃ n v, N.rd bs = some n ∧ N.chk n = 0 ∧ e = .returned (.tuple #[v, .int .i64 0]) ∧ OwnS w' B v n) ∨ (∃ c, N.perr bs c ∧ c ≠ 0 ∧ e = .returned (.tuple #[.slice none 0 0, .int .i64 c]))) ∧ Below B w w'
set_option maxRecDepth 3000 in
set_option maxHeartbeats 800000 in
theorem parse_any (s : ByteArray) (bs : List UInt8) (w : World) (hs : Hid (s.data.toList = bs)) (hn : s.size ≤ 100000) (hTab : Tabs w) :
    Calls Tryd.prog 7 #[.string s] w fun e w' => Parsed bs w.heap.size w e w' := by
  have hmf : ∀ (fn : Fn) (first cap : Array Value) (w : World), (Instr.makeFunc fn first cap).run Tryd.prog w = .ok (.func fn first cap) w := fun _ _ _ _ => rfl
  have hT2 := hTab.2
  have HTab := hide hTab
  clear hTab
  have HL : Hid (bs.length ≤ 100000) := by rw [← hs.out]; exact hn
  go_enter_defers Tryd.func7, Tryd.ntmps7
  go_wp2_with fail
  have hb0 : Below w.heap.size w ((w.alloc (.cells #[.slice none 0 0] 25)).alloc (.cells #[.int .i64 0] 27)) := ((Below.refl w.heap.size w).alloc (Nat.le_refl _) _).alloc (by simp) _
  have hr0 : RowAt ((w.alloc (.cells #[.slice none 0 0] 25)).alloc (.cells #[.int .i64 0] 27)) w.heap.size 25 #[.slice none 0 0] := (RowAt.new w _ _).alloc _
  have hr1 : RowAt ((w.alloc (.cells #[.slice none 0 0] 25)).alloc (.cells #[.int .i64 0] 27)) (w.heap.size + 1) 27 #[.int .i64 0] := by
    have := RowAt.new (w.alloc (.cells #[.slice none 0 0] 25)) 27 #[.int .i64 0]
    rwa [World.size_alloc] at this
  have hsz : ((w.alloc (.cells #[.slice none 0 0] 25)).alloc (.cells #[.int .i64 0] 27)).heap.size = w.heap.size + 2 := by simp
  refine (read_any s bs _ hs hn (by exact HTab.out.below hb0 hT2)).mono ?_
  generalize (w.alloc (.cells #[.slice none 0 0] 25)).alloc (.cells #[.int .i64 0] 27) = W0 at hb0 hr0 hr1 hsz
  rintro e w1 ⟨⟨n, v, hrd, rfl, hO⟩ | ⟨hrd, rfl⟩, hB1⟩
  · have hR0 := hr0.below hB1 (by omega)
    have hR1 := hr1.below hB1 (by omega)
    have hb1 := hb0.trans (hB1.mono (by omega))
    obtain ⟨ao, c, rfl, _, _, _⟩ := hO.open
    have hO2 : OwnS (w1.setCell ⟨w.heap.size, 0, none⟩ (.slice ao n.length c)) W0.heap.size (.slice ao n.length c) n := own_set hO hR0 (by decide) _ _
    obtain ⟨_, _, e1, hSl, _, _⟩ := hO2.open
    cases e1
    have hsm : N.Small n := by
      obtain ⟨h1, h2⟩ := N.rd_bounds hrd
      have := HL.out
      exact ⟨by omega, fun l hl => by have := h2 l hl; omega⟩
    have k0 : w1.cell? ⟨w.heap.size, 0, none⟩ = some (.slice none 0 0) := hR0.cell 0
    have k1 : w1.cell? ⟨w.heap.size + 1, 0, none⟩ = some (.int .i64 0) := hR1.cell 0
    have f0 := hR0.frozen 0
    have f1 := hR1.frozen 0
    have HSl := hide hSl
    have HO := hide hO
    have HR0 := hide hR0
    have HR1 := hide hR1
    have HRD := hide hrd
    clear hr0 hr1 hb0 hB1 hO hO2 hR0 hR1 hrd hSl
    obtain ⟨cc, hcc⟩ : ∃ cc, N.chk n = cc := ⟨_, rfl⟩
    have HC := hide hcc
    by_cases hc0 : cc = 0
    · subst hc0
      go_wp2_with (go_at_call 22; refine (check_any n ao n.length c _ rfl (by exact HSl.out) hsm).mono ?_; rw [HC.out]; rintro e w2 ⟨rfl, rfl⟩)
      refine leaves_cons (f := 20) (args := #[.pointer (some ⟨w.heap.size, 0, none⟩), .pointer (some ⟨w.heap.size + 1, 0, none⟩)]) (by simp) (by simp [go_sem]) ?_
      refine (catch_idle w.heap.size _).mono ?_
      rintro e u' w'' ⟨rfl, rfl, hw⟩
      obtain ⟨hA1, hE1⟩ := two_set (v' := .slice ao n.length c) (c' := 0) HR0.out HR1.out
      obtain ⟨hA, hE⟩ := two_set (v' := .slice ao n.length c) (c' := 0) hA1 hE1
      have hb := two_below (v' := .slice ao n.length c) (c' := 0) (two_below (v' := .slice ao n.length c) (c' := 0) hb1 (Nat.le_refl _)) (Nat.le_refl _)
      have hOf : OwnS w'' w.heap.size (.slice ao n.length c) n := by
        rw [hw]
        refine OwnS.lower (base := W0.heap.size) ?_ (by omega)
        exact own_set (own_set (own_set (own_set HO.out HR0.out (by decide) _ _) (HR1.out.other _ _ (by show w.heap.size + 1 ≠ w.heap.size; omega)) (by decide) _ _) hA1 (by decide) _ _) (hE1.other _ _ (by show w.heap.size + 1 ≠ w.heap.size; omega)) (by decide) _ _
      rw [← hw] at hA hE hb
      have q0 : w''.cell? ⟨w.heap.size, 0, none⟩ = some (.slice ao n.length c) := hA.cell 0
      have q1 : w''.cell? ⟨w.heap.size + 1, 0, none⟩ = some (.int .i64 0) := hE.cell 0
      simp [Leaves, settle, results, Tryd.results7, go_sem, q0, q1]
      exact ⟨Or.inl ⟨n, _, HRD.out, HC.out, rfl, hOf⟩, hb⟩
    · have hne : (cc != 0) = true := by simp [hc0]
      go_wp2_with (go_at_call 22; refine (check_any n ao n.length c _ rfl (by exact HSl.out) hsm).mono ?_; rw [HC.out]; rintro e w2 ⟨rfl, rfl⟩)
      go_region
      all_goals
        go_wp2
        refine leaves_cons (f := 20) (args := #[.pointer (some ⟨w.heap.size, 0, none⟩), .pointer (some ⟨w.heap.size + 1, 0, none⟩)]) (by simp) (by simp [go_sem]) ?_
        refine (catch_idle w.heap.size _).mono ?_
        rintro e u' w'' ⟨rfl, rfl, hw⟩
        obtain ⟨hA1, hE1⟩ := two_set (v' := .slice ao n.length c) (c' := cc) HR0.out HR1.out
        obtain ⟨hA, hE⟩ := two_set (v' := .slice none 0 0) (c' := cc) hA1 hE1
        have hb := two_below (v' := .slice none 0 0) (c' := cc) (two_below (v' := .slice ao n.length c) (c' := cc) hb1 (Nat.le_refl _)) (Nat.le_refl _)
        have q0 : w''.cell? ⟨w.heap.size, 0, none⟩ = some (.slice none 0 0) := by rw [hw]; exact hA.cell 0
        have q1 : w''.cell? ⟨w.heap.size + 1, 0, none⟩ = some (.int .i64 cc) := by rw [hw]; exact hE.cell 0
        have hbf : Below w.heap.size w w'' := by rw [hw]; exact below_drew hb
        simp [Leaves, settle, results, Tryd.results7, go_sem, q0, q1]
        exact ⟨Or.inr ⟨cc, Or.inr ⟨n, HRD.out, HC.out⟩, hc0, rfl⟩, hbf⟩
  · have hR0 := hr0.below hB1 (by omega)
    have hR1 := hr1.below hB1 (by omega)
    have hb1 := hb0.trans (hB1.mono (by omega))
    have k0 : w1.cell? ⟨w.heap.size, 0, none⟩ = some (.slice none 0 0) := hR0.cell 0
    have k1 : w1.cell? ⟨w.heap.size + 1, 0, none⟩ = some (.int .i64 0) := hR1.cell 0
    have f0 := hR0.frozen 0
    have f1 := hR1.frozen 0
    have HR0 := hide hR0
    have HR1 := hide hR1
    have HRD := hide hrd
    clear hr0 hr1 hb0 hB1 hR0 hR1 hrd
    unfold fell
    go_wp2
    refine leaves_cons (f := 20) (args := #[.pointer (some ⟨w.heap.size, 0, none⟩), .pointer (some ⟨w.heap.size + 1, 0, none⟩)]) (by simp) (by simp [go_sem]) ?_
    refine (catch_fell w.heap.size _ _ 27 _ _ k0 k1 f0 f1).mono ?_
    rintro e u' w'' ⟨rfl, rfl, hw⟩
    obtain ⟨hA, hE⟩ := two_set (v' := .slice none 0 0) (c' := 30) HR0.out HR1.out
    have hb := two_below (v' := .slice none 0 0) (c' := 30) hb1 (Nat.le_refl _)
    rw [← hw] at hA hE hb
    have q0 : w''.cell? ⟨w.heap.size, 0, none⟩ = some (.slice none 0 0) := hA.cell 0
    have q1 : w''.cell? ⟨w.heap.size + 1, 0, none⟩ = some (.int .i64 30) := hE.cell 0
    simp [Leaves, settle, results, Tryd.results7, go_sem, q0, q1]
    exact ⟨Or.inr ⟨30, Or.inl ⟨HRD.out, rfl⟩, by omega, rfl⟩, hb⟩
end Go.Proofs.YtecikfdnnjinpabDoor
