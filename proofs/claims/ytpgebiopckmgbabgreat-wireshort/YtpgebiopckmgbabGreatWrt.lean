/- (*wire.writer).number16. -/
import Derived.Test.YtpgebiopckmgbabGreatSnd
namespace Go.Proofs.YtpgebiopckmgbabGreat
open Go.RowKit
/- what writing keeps: all below base, and whatever is no bytes, but the writer itself -/
def KpW (base W : Nat) (w w' : World) : Prop := Below base w w' ∧ ∀ (k : Nat) (o : Obj), w.heap[k]? = some o → k ≠ W → (∀ c fr, o ≠ .cells c 5 fr) → w'.heap[k]? = some o
set_option maxRecDepth 5000 in
theorem KpW.refl (base W : Nat) (w : World) : KpW base W w w := ⟨Below.refl _ _, fun _ _ h _ _ => h⟩
set_option maxRecDepth 5000 in
theorem KpW.trans {base W : Nat} {a b c : World} (h : KpW base W a b) (g : KpW base W b c) : KpW base W a c := ⟨h.1.trans g.1, fun k o h1 h2 h3 => g.2 k o (h.2 k o h1 h2 h3) h2 h3⟩
set_option maxRecDepth 5000 in
theorem KpW.row {base W g t : Nat} {w w' : World} {c : Array Value} (h : KpW base W w w') (hr : RowAt w g t c) (hg : g ≠ W) (ht : t ≠ 5) : RowAt w' g t c := by
  unfold RowAt at hr ⊢
  exact h.2 g _ hr hg (fun c' fr e => by cases e; exact ht rfl)
set_option maxRecDepth 5000 in
theorem KpW.set {base W : Nat} {w : World} (hb : base ≤ W) (j : Nat) (v : Value) : KpW base W w (w.setCell ⟨W, j, none⟩ v) :=
  ⟨(Below.refl base w).setCell hb v, fun k o h1 h2 _ => by rw [Below.heap_setCell _ _ _ _ h2]; exact h1⟩
set_option maxRecDepth 5000 in
theorem KpW.app {base W : Nat} {w w' : World} {v : Value} {l : List UInt8} {x : Obj} (hO : OwnB w base v l) (hg : (w.alloc x).grownBy w' v.ownBlock) (hb : base ≤ w.heap.size) : KpW base W w w' := by
  refine ⟨(Kp.app hO hg hb).1, fun k o h1 _ h3 => ?_⟩
  have hk : k < w.heap.size := (Array.getElem?_eq_some_iff.1 h1).1
  have e1 : (w.alloc x).heap[k]? = some o := by
    rw [((Below.refl w.heap.size w).alloc (Nat.le_refl _) x).block k hk]; exact h1
  rw [hg.block k (by simp; omega) (fun q => ?_)]
  · exact e1
  · obtain ⟨cur, h⟩ := own_ty (show World.ownsRow _ _ _ _ _ _ _ from hO) q.symm
    rw [h1] at h
    cases h
    exact h3 _ _ rfl
set_option maxRecDepth 5000 in
theorem wr16_any (base W n : Nat) (v mv : Value) (l : List UInt8) (w : World) (hn : n < 65536) (hR : RowAt w W 60 #[v, mv]) (hO : OwnB w base v l) (hb : base ≤ W) (hl : l.length ≤ 1000000) :
    Calls Tryz.prog 27 #[.pointer (some ⟨W, 0, none⟩), .int .u16 (n : Int)] w fun e w' => e = .returned (.tuple #[]) ∧ ∃ v', RowAt w' W 60 #[v', mv] ∧ OwnB w' base v' (l ++ D.p16 n) ∧ KpW base W w w' := by
  have HR := hide hR
  have HO := hide hO
  have x0 : w.cell? ⟨W, 0, none⟩ = some v := hR.cell 0
  have hlt := hR.lt
  have h1 : Hid ((n : Int) / 256 = ((UInt8.ofNat (n / 256)).toNat : Int)) := by show _ = _; rw [UInt8.toNat_ofNat']; omega
  have h2 : Hid ((n : Int) % 256 = ((UInt8.ofNat n).toNat : Int)) := by show _ = _; rw [UInt8.toNat_ofNat']; omega
  clear hR hO
  go_enter Tryz.func27, Tryz.ntmps27
  go_wp2_with (at_builtin; refine wpList_append_B rfl (.tmp 8) (.tmp 14) rfl base _ l rfl (by exact HO.out.alloc _) _ _ _ [UInt8.ofNat (n / 256), UInt8.ofNat n] rfl rfl (by exact SlL.litm w [UInt8.ofNat (n / 256), UInt8.ofNat n] _ 5 (0, 0) (by rw [h1.out, h2.out]; rfl)) (by intro h; cases h) (by simp; omega) (by simp; omega) ?_; intro v4 w4 hO4 hG4; have K4 := hide (KpW.app (W := W) HO.out hG4 (by omega)); have R4 := hide ((Kp.app HO.out hG4 (by omega)).2 _ _ _ HR.out (by decide)); obtain ⟨a4, c4, rfl, _⟩ := hO4.open; have O4 := hide hO4; have y0 : w4.cell? ⟨W, 0, none⟩ = some v := R4.out.cell 0; have g0 : w4.frozen? ⟨W, 0, none⟩ = false := R4.out.frozen 0; clear hO4 hG4)
  have ms := Mv.set W 0 w4 (.slice a4 (l ++ [UInt8.ofNat (n / 256), UInt8.ofNat n]).length c4)
  have RF := hide (R4.out.set 0 (.slice a4 (l ++ [UInt8.ofNat (n / 256), UInt8.ofNat n]).length c4))
  have OF : Hid (OwnB (w4.setCell ⟨W, 0, none⟩ (.slice a4 (l ++ [UInt8.ofNat (n / 256), UInt8.ofNat n]).length c4)) base (.slice a4 (l ++ [UInt8.ofNat (n / 256), UInt8.ofNat n]).length c4) (l ++ [UInt8.ofNat (n / 256), UInt8.ofNat n])) := hide (own_mv (show World.ownsRow _ _ _ _ _ _ _ from O4.out) R4.out (by decide) ms)
  have KF := hide (K4.out.trans (KpW.set hb 0 (.slice a4 (l ++ [UInt8.ofNat (n / 256), UInt8.ofNat n]).length c4)))
  have e9 : (l ++ [UInt8.ofNat (n / 256), UInt8.ofNat n]).length = l.length + 2 := by simp
  rw [e9] at RF OF KF
  clear ms K4 R4 O4
  simp [bodyPost, results, Tryz.results27, go_sem]
  exact ⟨_, RF.out, OF.out, KF.out⟩
end Go.Proofs.YtpgebiopckmgbabGreat
