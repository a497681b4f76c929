/- The law DiskPlays: its start. -/
import Derived.Test.YtmjdlejomohbdaaPst
import Derived.Test.YtmjdlejomohbdaaKnw
namespace Go.Proofs.Ytmjdlejomohbdaa
open Go.RowKit
set_option maxRecDepth 5000 in
theorem res_of (a : Act) (w : World) (h : sl a 6 = .bool true) : (results Try.f3 a.tmps).run Try.prog w = .ok (.bool true) w := by
  have e : a.tmps.getD 6 undef = .bool true := h
  rw [← e]
  exact results_tmp rfl _ _ _
set_option maxHeartbeats 2000000 in
set_option maxRecDepth 100000 in
theorem plays_walk (n sz : Int) (ao : Option Addr) (na ca : Nat) (w : World) (hacts : Acts w ao na) : Calls Try.prog 3 #[.int .i64 n, .int .i64 sz, .slice ao na ca] w fun e w' => e = .returned (.bool true) ∧ Below w.heap.size w w' := by
  have hk := known_any w
  by_cases hlong : (na : Int) > 60
  · have hd : decide ((na : Int) > 60) = true := by simp; omega
    go_enter Try.func3, Try.ntmps3
    go_wp2_with fail
    refine hk.mono ?_
    rintro e w1 ⟨rfl, hB1⟩
    have HB1 := hide hB1
    clear hB1 hk
    go_wp2
    go_ret
    exact ⟨rfl, HB1.out⟩
  · have hd : decide ((na : Int) > 60) = false := by simp; omega
    have hp1 := fun w' => place_is n 6 w' (by omega) (by omega)
    have hp2 := fun w' => place_is sz 150 w' (by omega) (by omega)
    have hb1 := plc_bounds n 6 (by omega)
    have hb2 := plc_bounds sz 150 (by omega)
    obtain ⟨p1, hq1⟩ : ∃ p1, plc n 6 = p1 := ⟨_, rfl⟩
    obtain ⟨p2, hq2⟩ : ∃ p2, plc sz 150 = p2 := ⟨_, rfl⟩
    rw [hq1] at hp1 hb1
    rw [hq2] at hp2 hb2
    clear hq1 hq2
    have hwr : IntKind.i64.wrap (p1 - 1) = p1 - 1 := by rw [IntKind.wrap_i64]; omega
    obtain ⟨N, hN⟩ : ∃ N : Nat, max (p1 - 1) 1 = (N : Int) := ⟨(max (p1 - 1) 1).toNat, by omega⟩
    obtain ⟨Z, hZ⟩ : ∃ Z : Nat, max p2 64 = (Z : Int) := ⟨(max p2 64).toNat, by omega⟩
    have hnew := fun w' => new_at (fun _ => False) w' (fun _ h => h.elim) (p1 - 1) p2 N Z (by omega) (by omega) (by omega) (by omega) (by omega) (by omega)
    have HN := hide hN
    have HZ := hide hZ
    have HBD := hide (And.intro hb1 hb2)
    clear hN hZ hb1 hb2
    have e : cF = .seq (cL cF) (.seq (cL (cR cF)) (.seq (cL (cR (cR cF))) (.seq (cL cA) (.seq (cL (cR cA)) (.seq (cL (cR (cR cA))) (.seq (.seq (cL cInit) (cR cInit)) cRest)))))) := by kernel_rfl
    go_enter Try.func3, Try.ntmps3
    change Code.wp Try.prog cF _ _ _
    rw [e]
    clear e
    refine wp_seq ?_
    conv => arg 2; whnf
    go_wp2
    conv => arg 2; whnf
    go_wp2_with fail
    refine hk.mono ?_
    rintro e w1 ⟨rfl, hB1⟩
    have HB1 := hide hB1
    clear hB1 hk
    go_wp2
    conv => arg 2; whnf
    go_wp2
    conv => arg 2; whnf
    go_wp2_with fail
    refine (hp1 w1).mono ?_
    rintro e w' ⟨rfl, hw⟩
    rw [hw]
    clear hw w' hp1
    go_wp2_with fail
    refine (hp2 w1).mono ?_
    rintro e w' ⟨rfl, hw⟩
    rw [hw]
    clear hw w' hp2
    go_wp2
    conv => arg 2; whnf
    go_wp2_with fail
    refine (hnew w1).mono ?_
    rintro e w2 ⟨rfl, hD, hB2, hs2⟩
    have HD := hide hD
    have HB2 := hide hB2
    have HS2 := hide hs2
    clear hD hB2 hs2 hnew
    go_wp2
    conv => arg 2; whnf
    go_wp2
    have hrow : RowAt (w2.alloc (.cells #[.slice none 0 0, .slice none 0 0, .slice none 0 0, .bool false, .bool false, .int .i64 0] 31)) w2.heap.size 31 #[.slice none 0 0, .slice none 0 0, .slice none 0 0, .bool false, .bool false, .int .i64 0] := RowAt.new w2 _ _
    have hdk := HD.out.alloc (.cells #[.slice none 0 0, .slice none 0 0, .slice none 0 0, .bool false, .bool false, .int .i64 0] 31)
    have hwb : (w2.alloc (.cells #[.slice none 0 0, .slice none 0 0, .slice none 0 0, .bool false, .bool false, .int .i64 0] 31)).heap.size = w2.heap.size + 1 := Array.size_push _
    have hle1 := HB1.out.size
    have hle2 := HB2.out.size
    have hbel : Below w.heap.size w (w2.alloc (.cells #[.slice none 0 0, .slice none 0 0, .slice none 0 0, .bool false, .bool false, .int .i64 0] 31)) := (HB1.out.trans (HB2.out.mono hle1)).alloc (Nat.le_trans hle1 hle2) _
    generalize (w2.alloc _) = wb at hrow hdk hwb hbel ⊢
    have HX := hide (And.intro hrow (And.intro hdk (And.intro hwb hbel)))
    clear hrow hdk hwb hbel
    conv => arg 2; whnf
    go_wp2
    refine cut_mono _ (iloop (N := N) (Z := Z) (base := w2.heap.size + 1) (MM := w2.heap.size) (D := w1.heap.size + 2) (n := p1 - 1) (z := p2) (wb := wb) (ao := ao) (na := na) (ca := ca) HN.out ?_ (by omega) ?_ HZ.out ⟨rfl, rfl, rfl, rfl, rfl, rfl, rfl, rfl, ?_⟩) (fun a3 w3 hJ => ?_)
    · have := HN.out; have := HBD.out; omega
    · have := HZ.out; have := HBD.out; omega
    · exact ⟨⟨_, _, _, [], [], HX.out.1, World.ownsRow_nil _ _ _ _, World.ownsRow_nil _ _ _ _, World.ownsRow_nil _ _ _ _, fun _ h => (by cases h), fun _ h => (by cases h), fun _ h => (by cases h)⟩, rfl, rfl, rfl, by rw [HX.out.2.2.1]; exact Nat.le_refl _, fun _ _ _ => rfl⟩
    · rename_i hK
      apply hK
      obtain ⟨ML, MS, MF, hP⟩ := hJ.mi.pw (B := w.heap.size) (w0 := w) (by have := HN.out; omega) HX.out.2.1 HX.out.2.2.1 HX.out.1 HX.out.2.2.2 (by omega) (by omega) (by omega) (by omega) (by omega)
      refine rest_any _ hacts (by omega) HZ.out hJ hP (fun a w' _ hd6 h6 hb => ?_)
      exact ⟨hd6, .bool true, res_of a w' h6, rfl, hb⟩
end Go.Proofs.Ytmjdlejomohbdaa
