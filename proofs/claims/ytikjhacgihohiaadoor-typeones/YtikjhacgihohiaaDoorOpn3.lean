/- rtype.Open: the whole. -/
import Derived.Test.YtikjhacgihohiaaDoorOpn2
namespace Go.Proofs.YtikjhacgihohiaaDoor
open Go.RowKit
namespace T
theorem okw_none {least : Nat} {l : List UInt8} (h : okw least l = none) (h0 : 0 < l.length) : opn least l = none := by
  match l, h, h0 with
  | [x], _, _ => exact opn_one least x
  | x :: n :: r, h, _ =>
    rw [opn_two]
    by_cases hb : bad least x n r
    · rw [if_pos hb]
    · rw [okw, if_neg hb] at h; cases h
theorem okw_some {least k : Nat} {l : List UInt8} (h : okw least l = some k) : ∃ x n r, l = x :: n :: r ∧ k = 2 + n.toNat ∧ 0 < n.toNat ∧ n.toNat ≤ 32 ∧ n.toNat ≤ r.length ∧ opn least l = (opn (x.toNat + 1) (r.drop n.toNat)).map (typ x.toNat (r.take n.toNat) ++ ·) := by
  match l, h with
  | x :: n :: r, h =>
    by_cases hb : bad least x n r
    · rw [okw, if_pos hb] at h; cases h
    · rw [okw, if_neg hb] at h
      have hk := Option.some.inj h
      have hb' := hb
      unfold bad at hb'
      exact ⟨x, n, r, rfl, hk.symm, by omega, by omega, by omega, by rw [opn_two, if_neg hb]⟩
theorem typ_len (w : Nat) (b : List UInt8) : (typ w b).length ≤ 8 * b.length := by
  unfold typ places; rw [List.length_map]; exact Nat.le_trans (List.length_filter_le _ _) (by simp)
end T
set_option maxRecDepth 3000 in
set_option maxHeartbeats 3200000 in
theorem open_any (l : List UInt8) (ao : Option Addr) (len cap : Nat) (w : World) (hl : Hid (l.length = len)) (hs : SlL w ao l) (hc1 : len ≤ cap) (hc2 : cap ≤ 9223372036854775807) (hlen : len ≤ 100000) :
    Calls Tryd.prog 13 #[.slice ao len cap] w fun e w' => Below w.heap.size w w' ∧ ((∃ m v, T.opn 0 l = some m ∧ e = .returned (.tuple #[v, .int .i64 0]) ∧ OwnH w' w.heap.size v m) ∨ (T.opn 0 l = none ∧ e = .returned (.tuple #[.slice none 0 0, .int .i64 40]))) := by
  go_enter Tryd.func13, Tryd.ntmps13
  go_wp2
  go_loopw [0, 4, 5] (fun v0 v4 v5 W => ∃ (rest : List UInt8) (ao : Option Addr) (cap least : Nat) (m : List UInt16), v0 = .slice ao rest.length cap ∧ v5 = .int .i64 (least : Int) ∧ SlL w ao rest ∧ rest.length ≤ cap ∧ cap ≤ 9223372036854775807 ∧ rest.length ≤ len ∧ least ≤ 256 ∧ OwnH W w.heap.size v4 m ∧ Below w.heap.size w W ∧ m.length + 8 * rest.length ≤ 8 * len ∧ T.opn 0 l = (T.opn least rest).map (m ++ ·)) (fun v0 _ _ _ => lenOf v0)
  case atStart => exact ⟨l, ao, cap, 0, [], by rw [hl.out], rfl, hs, by rw [hl.out]; exact hc1, hc2, by rw [hl.out]; exact Nat.le_refl _, by omega, OwnH.nil _ _, Below.refl _ _, by rw [hl.out]; simp, by cases T.opn 0 l <;> simp⟩
  case round =>
    clear hs hc1 hc2
    obtain ⟨rest, ao2, cap2, least, m, rfl, rfl, hS, hcap, hmax, hrl, hle, hO, hB, hml, hE⟩ := hrel
    have hz := hB.size
    have HE := hide hE
    have HO := hide hO
    clear hE hO
    by_cases h0 : rest.length = 0
    · obtain rfl : rest = [] := List.eq_nil_of_length_eq_zero h0
      go_wp2
      go_ret2
      refine ⟨hB, Or.inl ⟨m, _, ?_, rfl, HO.out⟩⟩
      rw [HE.out, T.opn_nil]; simp
    · have e0 : (0 : Int) < (rest.length : Int) := by omega
      have hSw : SlL wr ao2 rest := hS.below hB (Nat.le_refl _)
      have cw := openWindow_any rest ao2 rest.length cap2 least wr rfl hSw (by omega)
      cases hok : T.okw least rest with
      | none =>
        rw [hok] at cw
        have hnone := T.okw_none hok (by omega)
        have HN := hide hnone
        clear hnone hok
        go_wp2_with (go_at_call 28; refine cw.mono ?_; unfold T.okv; rintro e w2 ⟨rfl, rfl⟩)
        go_ret2
        exact ⟨hB, Or.inr ⟨by rw [HE.out, HN.out]; rfl, rfl⟩⟩
      | some k =>
        rw [hok] at cw
        obtain ⟨x, n, r, rfl, rfl, n0, n32, nr, hop⟩ := T.okw_some hok
        obtain ⟨b, o, rfl, hb, hcc⟩ := hS (by omega)
        have hrl2 : (x :: n :: r).length = r.length + 2 := by simp
        rw [hrl2] at cw hcap hrl hml hcc e0
        obtain ⟨_, _, e, _, hcr⟩ := hSw (by simp)
        cases e
        have c0 : wr.cell? ⟨b, o, none⟩ = some (.int .u8 (x.toNat : Int)) := hcr 0 (by simp)
        have hx := x.toNat_lt
        have htl := T.typ_len x.toNat (r.take n.toNat)
        rw [List.length_take] at htl
        have hS2 : SlL wr (some ⟨b, o + 2, none⟩) (r.take n.toNat) := by
          have := (SlL.drop (k := 2) hSw (by simp)).take n.toNat
          simpa using this
        have hS3 : SlL w (some ⟨b, o + (2 + n.toNat), none⟩) (r.drop n.toNat) := by
          have := SlL.drop (k := 2 + n.toNat) hS (by simp; omega)
          rw [show (x :: n :: r).drop (2 + n.toNat) = r.drop n.toNat by
            rw [show 2 + n.toNat = n.toNat + 2 by omega]; rfl] at this
          exact this
        have hd3 : (r.drop n.toNat).length = r.length - n.toNat := List.length_drop
        have htk : (r.take n.toNat).length = n.toNat := by rw [List.length_take]; omega
        obtain ⟨X, hX⟩ : ∃ X : Nat, x.toNat = X := ⟨_, rfl⟩
        obtain ⟨M, hM⟩ : ∃ M : Nat, n.toNat = M := ⟨_, rfl⟩
        rw [hX] at c0 hx htl hop
        rw [hM] at n0 n32 nr hop hS2 hS3 hd3 htk htl cw
        have ex : IntKind.i64.wrap (X : Int) = (X : Int) := wrap_nat _ (by omega)
        have ca := fun v hO => appendTypes_any X (r.take M) m w.heap.size b (o + 2) M (cap2 - 2) v wr htk n32 n0 hx hS2 hb hO hz (by omega)
        have hne : ¬ cap2 = 2 := by omega
        have hle2 : 2 + M ≤ cap2 := by omega
        have hle3 : 2 + M ≤ r.length + 2 := by omega
        have HOP := hide hop
        have HD := hide hd3
        have HTL := hide htl
        have HTK := hide htk
        clear hcc hcr hS hSw hS2 hX hM hok hop hd3 htl htk
        generalize r.take M = rt at *
        generalize hrd : r.drop M = rd at *
        clear hrd
        simp only [List.length_cons]
        go_wp2_with (first
          | (go_at_call 28; refine cw.mono ?_; unfold T.okv; rintro e w2 ⟨rfl, rfl⟩)
          | (go_at_call 29; refine (ca _ HO.out).mono ?_; rintro e w3 ⟨v3, rfl, hO3, hB3⟩))
        go_roundw
        case rel =>
          have hd := HD.out
          have htl := HTL.out
          refine ⟨rd, _, cap2 - (2 + M), X + 1, m ++ T.typ X rt, by rw [hd, show r.length + 1 + 1 - (2 + M) = r.length - M by omega], by go_num, ?_, by omega, by omega, by omega, by omega, hO3, hB.trans hB3, ?_, ?_⟩
          · by_cases e : cap2 = 2 + M
            · intro hn; omega
            · rw [if_neg e]; exact hS3
          · rw [List.length_append]; omega
          · rw [HE.out, HOP.out]
            cases T.opn (X + 1) rd <;> simp
        case measure => simp [lenOf]; omega
end Go.Proofs.YtikjhacgihohiaaDoor
