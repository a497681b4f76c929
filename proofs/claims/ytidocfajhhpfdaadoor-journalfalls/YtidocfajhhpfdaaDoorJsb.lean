/- The store's bytes. -/
import Derived.Test.YtidocfajhhpfdaaDoorJbl
namespace Go.Proofs.YtidocfajhhpfdaaDoor
open Go.RowKit
/- k sectors from place p on -/
def J.cat (s : K.St) (p k : Nat) : List UInt8 := (List.range k).flatMap fun i => s.rd (p + i)
set_option maxRecDepth 5000 in
theorem J.cat_succ (s : K.St) (p k : Nat) : J.cat s p (k + 1) = J.cat s p k ++ s.rd (p + k) := by
  simp [J.cat, List.range_succ]
set_option maxRecDepth 5000 in
theorem J.cat_len (s : K.St) (p k : Nat) (h : ∀ i, i < k → (s.rd (p + i)).length = s.sz) : (J.cat s p k).length = k * s.sz := by
  induction k with
  | zero => simp [J.cat]
  | succ k ih => rw [J.cat_succ, List.length_append, ih (fun i hi => h i (by omega)), h k (by omega), Nat.succ_mul]
set_option maxRecDepth 5000 in
theorem DiskAt.rdlen {A : Nat → Prop} {w : World} {D S M : Nat} {s : K.St} (h : DiskAt A w D S M s) (i : Nat) (hi : i < s.n) : (s.rd i).length = s.sz := by
  obtain ⟨sv, uv, h⟩ := h; exact h.rdlen i hi
set_option maxRecDepth 5000 in
theorem DiskAt.bds {A : Nat → Prop} {w : World} {D S M : Nat} {s : K.St} (h : DiskAt A w D S M s) : 64 ≤ s.sz ∧ s.sz ≤ 4096 ∧ 1 ≤ s.n ∧ s.n ≤ 4096 := by
  obtain ⟨sv, uv, h⟩ := h; exact ⟨h.b1, h.b2, h.b3, h.b4⟩
set_option maxHeartbeats 2000000 in
set_option maxRecDepth 5000 in
theorem sbytes_ok (w : World) (D S M : Nat) (s : K.St) (h : DiskAt FF w D S M s) (hd : s.dead = false) (hn : 8 ≤ s.n) (a : Nat) (ha : a < 2) (cnt : Nat) (hc : cnt ≤ J.arb s) :
    Calls Tryd.prog 33 #[stv D, .int .i64 (a : Int), .int .i64 (cnt : Int)] w fun e w' => ∃ ao c, e = .returned (.slice ao cnt c) ∧ cnt ≤ c ∧ (ao = none → cnt = 0 ∧ c = 0) ∧ (∀ ad, ao = some ad → ∃ g, ad = ⟨g, 0, none⟩) ∧ SlL w' ao ((J.cat s (2 + a * J.ars s) (J.ars s)).take cnt) ∧ Below w.heap.size w w' := by
  obtain ⟨hb1, hb2, hb3, hb4⟩ := h.bds
  have hA : J.ars s ≤ 2047 := by unfold J.ars; omega
  have hAn : 2 + 2 * J.ars s ≤ s.n := by unfold J.ars; omega
  have hst := areaStart_any (w.alloc (.cells #[.pointer (some ⟨D, 0, none⟩)] 65)) D S M s (h.alloc _) hn a ha
  have hP : 2 + a * J.ars s + J.ars s ≤ s.n := by
    have : a * J.ars s ≤ 1 * J.ars s := Nat.mul_le_mul_right _ (by omega)
    omega
  have hlen : ∀ i, i < s.n → (s.rd i).length = s.sz := fun i hi => h.rdlen i hi
  unfold J.arb at hc
  obtain ⟨P, hPe⟩ : ∃ P, P = 2 + a * J.ars s := ⟨_, rfl⟩
  rw [← hPe] at hst hP ⊢
  clear hPe hAn
  have HD := hide h
  have R0 : Hid (RowAt (w.alloc (.cells #[.pointer (some ⟨D, 0, none⟩)] 65)) w.heap.size 65 #[.pointer (some ⟨D, 0, none⟩)]) := RowAt.new w _ _
  have B0 := hide ((Below.refl w.heap.size w).alloc (Nat.le_refl _) (.cells #[.pointer (some ⟨D, 0, none⟩)] 65))
  unfold stv at hst ⊢
  clear h
  go_enter Tryd.func33, Tryd.ntmps33
  go_wp2_with (go_at_call 52; refine hst.mono ?_; rintro e w1 ⟨rfl, hB⟩; have B1 := hide (B0.out.trans (hB.mono B0.out.size)); have R1 := hide (R0.out.below hB R0.out.lt); clear hB)
  go_loopw [7, 8] (fun v i wr => ∃ k : Nat, k ≤ J.ars s ∧ i = .int .i64 ((P + k : Nat) : Int) ∧ OwnB wr (w.heap.size + 1) v (J.cat s P k) ∧ (k = 0 → v = .slice none 0 0) ∧ (0 < k → (k - 1) * s.sz < cnt) ∧ RowAt wr w.heap.size 65 #[.pointer (some ⟨D, 0, none⟩)] ∧ Below w.heap.size w wr) (fun v i wr => (P + J.ars s) - (intOf i).toNat)
  case atStart => exact ⟨0, by omega, rfl, OwnB.nil _ _, fun _ => rfl, fun h => by omega, R1.out, B1.out⟩
  case round =>
    obtain ⟨k, hk, rfl, hO, hnil, hlast, hR, hB⟩ := hrel
    have hcl : (J.cat s P k).length = k * s.sz := J.cat_len s P k fun i hi => hlen _ (by omega)
    obtain ⟨av, cv, hv⟩ := hO.slice
    rw [hcl] at hv
    have hzw : w.heap.size + 1 ≤ wr.heap.size := hR.lt
    have hkz : k * s.sz ≤ 2047 * 4096 := Nat.mul_le_mul (by omega) (by omega)
    have hk1 : P + k ≤ 4096 := by omega
    by_cases hlt : k * s.sz < cnt
    · have hka : k < J.ars s := by
        have : k * s.sz < J.ars s * s.sz := by omega
        exact Nat.lt_of_mul_lt_mul_right this
      have hrd := sread_ok wr D S M s (HD.out.below hB (Nat.le_refl _)) hd (P + k) (by omega)
      have hl1 := hlen (P + k) (by omega)
      have E := hide (J.cat_succ s P k)
      unfold stv at hrd
      have HL : Hid (0 < k + 1 → (k + 1 - 1) * s.sz < cnt) := fun _ => by simpa using hlt
      rw [hv] at hO ⊢
      have hcl2 : (J.cat s P k).length + s.sz ≤ 1099511627776 := by rw [hcl]; omega
      generalize s.rd (P + k) = rd at hrd hl1 E
      have HO := hide hO
      have HR := hide hR
      have HB := hide hB
      have HL1 := hide hl1
      have x0 : wr.cell? ⟨w.heap.size, 0, none⟩ = some (.pointer (some ⟨D, 0, none⟩)) := hR.cell 0
      have hlt' : ((k * s.sz : Nat) : Int) < (cnt : Int) := by omega
      obtain ⟨Z, hZ⟩ : ∃ Z, Z = s.sz := ⟨_, rfl⟩
      rw [← hZ] at hrd HL1 hcl2 hcl hlt'
      obtain ⟨Y, hY⟩ : ∃ Y, Y = k * s.sz := ⟨_, rfl⟩
      rw [← hZ] at hY
      rw [← hZ, ← hY] at HO ⊢
      rw [← hY] at hlt' hcl
      have HZ := hide hZ
      obtain ⟨q, hq⟩ : ∃ q, q = P + k := ⟨_, rfl⟩
      rw [← hq] at hrd hk1 ⊢
      have HQ := hide hq
      clear hO hR hB hl1 hlast hnil hv hZ hY hq hlen
      go_wp2_with (first
        | (go_at_call 45; refine hrd.mono ?_; rintro e w2 ⟨g2, rfl, hg2, R2, b2⟩; have O2 := hide (HO.out.below b2); have B2 := hide (HB.out.trans (b2.mono HB.out.size)); have R2s := hide (HR.out.below b2 HR.out.lt); have S2 := hide (SlU.sl (SlU.row R2)); have z2 : w.heap.size + 1 ≤ w2.heap.size := Nat.le_trans hzw b2.size; clear R2 b2)
        | (at_builtin; refine wpList_append_B rfl (.tmp 18) (.tmp 21) rfl (w.heap.size + 1) _ _ rfl O2.out _ _ _ rd rfl HL1.out S2.out (by intro h; cases h) hcl2 z2 ?_; intro v3 w3 O3 G3; have b3 := grown_below O2.out G3 (Below.refl _ _) z2; have B3 := hide (B2.out.trans (b3.mono (Nat.le_succ _))); have R3 := hide (R2s.out.below b3 (Nat.lt_succ_self _)); have HO3 := hide O3; clear O3 G3 b3)
        | fail)
      go_roundw
      case rel => exact ⟨k + 1, by omega, by rw [HQ.out]; go_num, by rw [E.out]; exact HO3.out, fun h => by omega, by first | exact HL.out | (rw [← HZ.out] at HL; exact HL.out), R3.out, B3.out⟩
      case measure => simp [intOf]; have := HQ.out; omega
    · have hlt' : ¬ ((k * s.sz : Nat) : Int) < (cnt : Int) := by omega
      have hpre : (J.cat s P (J.ars s)).take cnt = (J.cat s P k).take cnt := by
        have e : J.cat s P (J.ars s) = J.cat s P k ++ J.cat s (P + k) (J.ars s - k) := by
          obtain ⟨m, hm⟩ : ∃ m, J.ars s = k + m := ⟨J.ars s - k, by omega⟩
          rw [hm, Nat.add_sub_cancel_left]
          clear hm
          simp only [J.cat, List.range_add, List.flatMap_append, List.flatMap_map, Nat.add_assoc]
        rw [e, List.take_append_of_le_length (by rw [hcl]; omega)]
      have HP2 := hide hpre
      by_cases hk0 : k = 0
      · have hv0 := hnil hk0
        have hc0 : cnt = 0 := by rw [hk0] at hlt; omega
        have HB := hide hB
        rw [hv0]
        subst hc0
        clear hv hO hR hB hnil hlast hpre hlt hlt' hv0
        have s0 : ∀ W : World, (Instr.sliceAt 22 (.slice none 0 0) none (some (.int .i64 0)) none).run Tryd.prog W = .ok (.slice none 0 0) W := fun _ => rfl
        go_wp2
        go_ret
        exact ⟨none, 0, rfl, fun _ => rfl, fun _ h => (by cases h), SlL.nil _ _, HB.out⟩
      · have hkp : 0 < k * s.sz := Nat.mul_pos (by omega) (by omega)
        obtain ⟨g, cap, hv2, _, hcap, hcm, hgl, hcells⟩ := hO.form (by rw [hcl]; exact hkp)
        rw [hcl] at hv2 hcap
        have sl : SlL wr (some ⟨g, 0, none⟩) ((J.cat s P k).take cnt) := SlL.pre (o := 0) (fun _ => ⟨g, 0, rfl, hgl, fun j hj => by rw [Nat.zero_add]; exact hcells j hj⟩) cnt
        have HSL := hide sl
        have HB := hide hB
        have s1 := sl_pre g 0 (k * s.sz) cap cnt (by omega)
        have hcc : cnt ≤ cap := by omega
        rw [hv2]
        obtain ⟨Y, hY⟩ : ∃ Y, Y = k * s.sz := ⟨_, rfl⟩
        rw [← hY] at s1 hlt' ⊢
        clear hv hO hR hB hnil hlast hpre hlt hv2 hcells sl hcap hY
        go_wp2
        go_ret
        exact ⟨some ⟨g, 0, none⟩, cap, rfl, hcc, fun h => (by cases h), fun ad h => ⟨g, (by injection h with h; exact h.symm)⟩, by rw [HP2.out]; exact HSL.out, HB.out⟩
end Go.Proofs.YtidocfajhhpfdaaDoor
