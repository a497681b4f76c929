/- rtype.Bitmap. -/
import Derived.Test.YtikjhacgihohiaaDoorBmp2
namespace Go.Proofs.YtikjhacgihohiaaDoor
open Go.RowKit
namespace T
theorem win_len (w : Nat) (ps : List Nat) : (win w ps).length = 2 + size ps := by unfold win; rw [List.length_cons, List.length_cons, row_len]; omega
theorem bmp_len (k : Nat) : ∀ l : List UInt16, l.length ≤ k → (bmp l).length ≤ 34 * l.length := by
  induction k with
  | zero => intro l hl; obtain rfl : l = [] := List.eq_nil_of_length_eq_zero (by omega); rw [bmp_nil]; simp
  | succ k ih =>
    intro l hl
    cases l with
    | nil => rw [bmp_nil]; simp
    | cons t r =>
      rw [bmp_cons, List.length_append, win_len]
      have h1 := size_le ((t :: r.takeWhile (same t)).map lo) (fun p hp => by obtain ⟨x, _, rfl⟩ := List.mem_map.1 hp; exact lo_lt x)
      have h2 := drop_le t r
      have h3 := ih (r.dropWhile (same t)) (by simp at hl; omega)
      simp only [List.length_cons]
      omega
theorem tw_self (t : UInt16) (r : List UInt16) : (t :: r).takeWhile (same t) = t :: r.takeWhile (same t) := by
  rw [List.takeWhile_cons, if_pos (by simp [same])]
theorem tw_take (p : UInt16 → Bool) (l : List UInt16) : l.take (l.takeWhile p).length = l.takeWhile p ∧ l.drop (l.takeWhile p).length = l.dropWhile p := by
  have h := List.takeWhile_append_dropWhile (p := p) (l := l)
  have h1 : (l.takeWhile p ++ l.dropWhile p).take (l.takeWhile p).length = l.takeWhile p := List.take_left
  have h2 : (l.takeWhile p ++ l.dropWhile p).drop (l.takeWhile p).length = l.dropWhile p := List.drop_left
  rw [h] at h1 h2
  exact ⟨h1, h2⟩
theorem dw_self (t : UInt16) (r : List UInt16) : (t :: r).dropWhile (same t) = r.dropWhile (same t) := by
  rw [List.dropWhile_cons, if_pos (by simp [same])]
end T
def lenOf : Value → Nat | .slice _ n _ => n | _ => 0
theorem SlH.take {w : World} {ao : Option Addr} {l : List UInt16} (h : SlH w ao l) (k : Nat) : SlH w ao (l.take k) := fun hn => by
  rw [List.length_take] at hn
  obtain ⟨b, o, e, hlt, hc⟩ := h (by omega)
  refine ⟨b, o, e, hlt, fun j hj => ?_⟩
  rw [List.length_take] at hj
  rw [hc j (by omega), List.getD_eq_getElem?_getD, List.getD_eq_getElem?_getD, List.getElem?_take_of_lt (by omega)]
set_option maxRecDepth 3000 in
set_option maxHeartbeats 3200000 in
theorem bitmap_any (l : List UInt16) (ao : Option Addr) (len cap : Nat) (w : World) (hl : Hid (l.length = len)) (hs : SlH w ao l) (hnil : ao = none → cap = 0) (hlen : len ≤ 20000) :
    Calls Tryd.prog 12 #[.slice ao len cap] w fun e w' => ∃ v c, e = .returned v ∧ T.IsClean l c ∧ c.length ≤ len ∧ OwnB w' w.heap.size v (T.bmp c) ∧ Below w.heap.size w w' := by
  have cc := clean_any l ao len cap w hl hs hnil (by omega)
  clear hs
  go_enter Tryd.func12, Tryd.ntmps12
  go_wp2_with (go_at_call 18; refine cc.mono ?_; rintro e w1 ⟨v1, c, rfl, hcl, hcn, hO1, hB1⟩)
  clear cc
  obtain ⟨a1, c1, rfl, hS1, hn1, hc1, hm1⟩ := hO1.open
  have hbl := T.bmp_len c.length c (Nat.le_refl _)
  have HCL := hide hcl
  have hR := hcl.1
  clear hcl hO1
  go_loopw [3, 4] (fun v3 v4 W => ∃ (rest : List UInt16) (ao : Option Addr) (cap : Nat) (q : List UInt8), v4 = .slice ao rest.length cap ∧ SlH w1 ao rest ∧ rest.length ≤ cap ∧ cap ≤ maxLen ∧ rest.length ≤ c.length ∧ T.Rising rest ∧ OwnB W w1.heap.size v3 q ∧ Below w1.heap.size w1 W ∧ q ++ T.bmp rest = T.bmp c) (fun _ v4 _ => lenOf v4)
  case atStart => exact ⟨c, a1, c1, [], rfl, hS1, hc1, hm1, Nat.le_refl _, hR, OwnB.nil _ _, Below.refl _ _, rfl⟩
  case round =>
    clear hS1 hn1 hc1 hm1 hR
    obtain ⟨rest, ao, cap2, q, rfl, hS, hcap, hmax, hrl, hR, hO, hB, hE⟩ := hrel
    have hz := hB.size
    cases rest with
    | nil =>
      have HE := hide hE
      clear hE
      go_wp2
      go_ret
      refine ⟨_, c, rfl, HCL.out, hcn, ?_, hB1.trans (hB.mono hB1.size)⟩
      have e := HE.out
      rw [T.bmp_nil, List.append_nil] at e
      rw [← e]
      exact hO.lower hB1.size
    | cons t r =>
      have hSr : SlH wr ao (t :: r) := hS.below hB (Nat.le_refl _)
      obtain ⟨b, o, rfl, hb, hcc⟩ := hS (by simp)
      have hrN : r.length + 1 ≤ 20000 := by simp at hrl; omega
      have cf := firstWindow_any t r b o cap2 wr hSr (by omega)
      have hts := T.tw_self t r
      obtain ⟨m1, m2⟩ := T.tw_take (T.same t) (t :: r)
      have hkle : ((t :: r).takeWhile (T.same t)).length ≤ r.length + 1 := by
        have := (List.takeWhile_sublist (p := T.same t) (l := t :: r)).length_le; simpa using this
      have hk1 : 1 ≤ ((t :: r).takeWhile (T.same t)).length := by rw [hts]; simp
      have hS2 : SlH wr (some ⟨b, o, none⟩) ((t :: r).takeWhile (T.same t)) := by rw [← m1]; exact hSr.take _
      have hbm := T.bmp_cons t r
      rw [← hts, ← T.dw_self t r] at hbm
      have hRt : T.Rising ((t :: r).takeWhile (T.same t)) := by rw [hts]; exact T.rising_take t r hR
      have hhi : ∀ x ∈ (t :: r).takeWhile (T.same t), T.hi x = T.hi t := by rw [hts]; exact T.take_hi t r
      have hRd : T.Rising ((t :: r).dropWhile (T.same t)) := by rw [T.dw_self]; exact T.rising_rest t r hR
      have hql : q.length ≤ 1000000 := by
        have := congrArg List.length hE
        rw [List.length_append] at this; omega
      have hdl : ((t :: r).dropWhile (T.same t)).length + ((t :: r).takeWhile (T.same t)).length = r.length + 1 := by
        have := congrArg List.length (List.takeWhile_append_dropWhile (p := T.same t) (l := t :: r))
        rw [List.length_append] at this
        simp at this ⊢; omega
      have hSd : SlH w1 (some ⟨b, o + ((t :: r).takeWhile (T.same t)).length, none⟩) ((t :: r).dropWhile (T.same t)) := by
        rw [← m2]; exact SlH.drop hS (by simpa using hkle)
      rw [hbm] at hE
      have ca := fun v => appendWindow_any t ((t :: r).takeWhile (T.same t)) q w1.heap.size b o ((t :: r).takeWhile (T.same t)).length cap2 v wr rfl hk1 (by omega) hS2
      generalize (t :: r).takeWhile (T.same t) = tw at *
      generalize (t :: r).dropWhile (T.same t) = dw at *
      have HE := hide hE
      have HO := hide hO
      obtain ⟨k, hk⟩ : ∃ k, tw.length = k := ⟨_, rfl⟩
      rw [hk] at cf ca hkle hk1 hdl hSd
      simp only [List.length_cons] at hcap
      have hkc : k ≤ cap2 := by omega
      clear hE hO hbm m1 m2 hts hS hSr hcc hS2 hk hR
      simp only [List.length_cons]
      go_wp2_with (first
        | (go_at_call 26; refine cf.mono ?_; rintro e w2 ⟨rfl, rfl⟩)
        | (go_at_call 27; refine (ca _ HO.out hz hql hhi hRt).mono ?_; rintro e w3 ⟨v3, rfl, hO3, hB3⟩))
      go_roundw
      case rel =>
        refine ⟨dw, _, cap2 - k, _, by rw [show dw.length = r.length + 1 - k by omega], ?_, by omega, by omega, by simp at hrl; omega, hRd, hO3, hB.trans hB3, by rw [← HE.out, List.append_assoc]⟩
        by_cases e : cap2 = k
        · intro hn; omega
        · rw [if_neg e]; exact hSd
      case measure => simp [lenOf]; omega
end Go.Proofs.YtikjhacgihohiaaDoor
