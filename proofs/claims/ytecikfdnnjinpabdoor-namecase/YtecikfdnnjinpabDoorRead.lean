/- name.read: the labels of a text, rune by rune. -/
import Derived.Test.YtecikfdnnjinpabDoorTake3
import Derived.Lib.RuneCountTail
import Derived.Laws.DeepStrings4
namespace Go.Proofs.YtecikfdnnjinpabDoor
open Go.RowKit
namespace N
theorem decodeN_facts (n b0 b1 b2 b3 : Nat) : (Lib.decodeN n b0 b1 b2 b3).2 = 1 ∨ ((Lib.decodeN n b0 b1 b2 b3).2 = 2 ∧ 1 < n ∧ 128 ≤ b1) ∨ ((Lib.decodeN n b0 b1 b2 b3).2 = 3 ∧ 2 < n ∧ 128 ≤ b1 ∧ 128 ≤ b2) ∨ ((Lib.decodeN n b0 b1 b2 b3).2 = 4 ∧ 3 < n ∧ 128 ≤ b1 ∧ 128 ≤ b2 ∧ 128 ≤ b3) := by
  unfold Lib.decodeN
  repeat' split
  all_goals first | exact Or.inl rfl | (refine Or.inr (Or.inl ⟨rfl, ?_⟩); omega) | (refine Or.inr (Or.inr (Or.inl ⟨rfl, ?_⟩)); omega) | (refine Or.inr (Or.inr (Or.inr ⟨rfl, ?_⟩)); omega)
theorem get_bang (s : ByteArray) (i : Nat) (h : i < s.size) : s.get! i = s.data.toList.getD i 0 := by
  have h2 : s.get! i = s[i]'h := by
    show s.data[i]! = s.data[i]'h
    exact getElem!_pos s.data i h
  rw [h2]; exact str_at s i h
theorem rune_facts (s : ByteArray) (pos : Nat) (h : pos < s.size) :
    ((s.data.toList.getD pos 0).toNat < 128 ∧ Utf8.decode s pos = ((s.data.toList.getD pos 0).toNat, 1)) ∨
    (128 ≤ (Utf8.decode s pos).1 ∧ 1 ≤ (Utf8.decode s pos).2 ∧ pos + (Utf8.decode s pos).2 ≤ s.size ∧ ∀ c ∈ (s.data.toList.drop pos).take (Utf8.decode s pos).2, 128 ≤ c.toNat) := by
  have hx := str_at s pos h
  rcases Nat.lt_or_ge (s.data.toList.getD pos 0).toNat 128 with h1 | h1
  · left
    refine ⟨h1, ?_⟩
    rw [Lib.decode_at, get_bang s pos h]
    unfold Lib.decodeN; rw [if_pos h1]
  · right
    obtain ⟨h2, h3⟩ := decode_high s pos h (by rw [hx]; exact h1)
    have hf := decodeN_facts (s.size - pos) (s.get! pos).toNat (s.get! (pos + 1)).toNat (s.get! (pos + 2)).toNat (s.get! (pos + 3)).toNat
    rw [← Lib.decode_at] at hf
    refine ⟨h2, h3, by rcases hf with h | h | h | h <;> omega, ?_⟩
    intro c hc
    obtain ⟨j, hj, hcj⟩ := List.mem_iff_getElem.1 hc
    rw [List.length_take, List.length_drop] at hj
    rw [List.getElem_take, List.getElem_drop] at hcj
    have hlen : s.data.toList.length = s.size := rfl
    have hcg : c = s.data.toList.getD (pos + j) 0 := by
      rw [← hcj, List.getD_eq_getElem?_getD, List.getElem?_eq_getElem (by omega)]; rfl
    rw [hcg]
    rcases Nat.eq_zero_or_pos j with h0 | h0
    · subst h0; exact h1
    · rcases hf with h4 | ⟨h4, h5, h6⟩ | ⟨h4, h5, h6, h7⟩ | ⟨h4, h5, h6, h7, h8⟩
      · omega
      · have : j = 1 := by omega
        subst this
        rw [← get_bang s (pos + 1) (by omega)]; exact h6
      · have : j = 1 ∨ j = 2 := by omega
        rcases this with rfl | rfl
        · rw [← get_bang s (pos + 1) (by omega)]; exact h6
        · rw [← get_bang s (pos + 2) (by omega)]; exact h7
      · have : j = 1 ∨ j = 2 ∨ j = 3 := by omega
        rcases this with rfl | rfl | rfl
        · rw [← get_bang s (pos + 1) (by omega)]; exact h6
        · rw [← get_bang s (pos + 2) (by omega)]; exact h7
        · rw [← get_bang s (pos + 3) (by omega)]; exact h8
/- one rune more -/
theorem rune_step (s : ByteArray) (pos : Nat) (h : pos < s.size) (st : St) :
    1 ≤ (Utf8.decode s pos).2 ∧ pos + (Utf8.decode s pos).2 ≤ s.size ∧ ((s.data.toList.drop pos).take (Utf8.decode s pos).2).length = (Utf8.decode s pos).2 ∧
    stpR st (Utf8.decode s pos).1 ((s.data.toList.drop pos).take (Utf8.decode s pos).2) = run st ((s.data.toList.drop pos).take (Utf8.decode s pos).2) := by
  have hlen : s.data.toList.length = s.size := rfl
  rcases rune_facts s pos h with ⟨h1, h2⟩ | ⟨h1, h2, h3, h4⟩
  · rw [h2]
    have e : (s.data.toList.drop pos).take 1 = [s.data.toList.getD pos 0] := by
      rw [drop_at s.data.toList pos (by omega)]; rfl
    simp only
    rw [e]
    exact ⟨Nat.le_refl _, by omega, rfl, (run_one st _).symm⟩
  · refine ⟨h2, h3, by rw [List.length_take, List.length_drop]; omega, stpR_high st _ _ h1 h4 ?_⟩
    intro e
    have := congrArg List.length e
    rw [List.length_take, List.length_drop] at this
    simp at this; omega
theorem take_add (l : List UInt8) (a b : Nat) : l.take (a + b) = l.take a ++ (l.drop a).take b := List.take_add ..
theorem run_none (st : St) (l : List UInt8) (k : Nat) (h : run st (l.take k) = none) : run st l = none := by
  rw [← List.take_append_drop k l, run_app, h]; rfl
theorem rd_small {k : Nat} {st : St} {n : List (List UInt8)} (hR : Room k st) (h : fin st = some n) : n.length ≤ k + 1 ∧ ∀ l ∈ n, l.length ≤ k := by
  have h1 := hR.1
  unfold fin at h
  split at h
  · cases h
  · split at h
    · unfold endL at h
      split at h
      · cases h
      · cases h
        refine ⟨by simp; omega, fun l hl => ?_⟩
        rcases List.mem_append.1 hl with h2 | h2
        · exact hR.2 l h2
        · rw [List.mem_singleton.1 h2]; omega
    · cases h
      exact ⟨by omega, hR.2⟩
theorem run_room : ∀ (bs : List UInt8) (k : Nat) (st st' : St), Room k st → run st bs = some st' → Room (k + bs.length) st'
  | [], k, st, st', h, hr => by cases hr; exact h
  | c :: bs, k, st, st', h, hr => by
    have hr2 : (stp st c).bind (run · bs) = some st' := hr
    cases hs : stp st c with
    | none => rw [hs] at hr2; cases hr2
    | some st1 =>
      rw [hs] at hr2
      have h1 := run_room bs (k + 1) st1 st' (Room.stp (p := [c]) h (by simp) hs) hr2
      rw [List.length_cons, show k + (bs.length + 1) = k + 1 + bs.length by omega]; exact h1
theorem rd_bounds {bs : List UInt8} {n : List (List UInt8)} (h : rd bs = some n) : n.length ≤ bs.length + 1 ∧ ∀ l ∈ n, l.length ≤ bs.length := by
  unfold rd at h
  split at h
  · cases h; simp
  · cases hr : run St.zero bs with
    | none => rw [hr] at h; cases h
    | some st =>
      rw [hr] at h
      have h1 := run_room bs 0 St.zero st ⟨by simp [St.zero], by simp [St.zero]⟩ hr
      rw [Nat.zero_add] at h1
      exact rd_small h1 h
end N
theorem Rd.below {B T : Nat} {st : N.St} {w w' : World} (h : Rd B T st w) (hb : Below w.heap.size w w') : Rd B T st w' := by
  obtain ⟨an, cn, al, cl, hT, hS, hL, h4⟩ := h
  exact ⟨an, cn, al, cl, hT.below hb hT.lt, hS.below hb, hL.below hb, h4⟩
theorem own_iter {w : World} {B e n : Nat} {v : Value} {xs : List Value} (h : w.ownsRow B e 1 v n xs) {K : Nat} {s : ByteArray} {pos : Nat} (hit : w.heap[K]? = some (.stringIter s pos)) (pos' : Nat) : (w.iterAt K s pos').ownsRow B e 1 v n xs := by
  refine ⟨h.1, ?_⟩
  rcases h.2 with h1 | ⟨g, cap, cur, e1, h1, h2, h3⟩
  · exact Or.inl h1
  · refine Or.inr ⟨g, cap, cur, e1, h1, ?_, h3⟩
    rw [Lib.iterAt_other w K g s pos' (fun e1 => by rw [e1, hit] at h2; cases h2)]; exact h2
theorem Rd.iter {B T : Nat} {st : N.St} {w : World} (h : Rd B T st w) {K : Nat} {s : ByteArray} {pos : Nat} (hit : w.heap[K]? = some (.stringIter s pos)) (pos' : Nat) : Rd B T st (w.iterAt K s pos') := by
  obtain ⟨an, cn, al, cl, hT, hS, hL, h4⟩ := h
  refine ⟨an, cn, al, cl, ?_, own_iter hS hit pos', own_iter hL hit pos', h4⟩
  unfold RowAt
  rw [Lib.iterAt_other w K T s pos' (fun e1 => by unfold RowAt at hT; rw [e1, hit] at hT; cases hT)]; exact hT
theorem Tabs.below {B : Nat} {w w' : World} (h : Tabs w) (hb : Below B w w') (hB : 2 ≤ B) : Tabs w' := by
  refine ⟨⟨fun c hc => ?_, fun i hi => ?_⟩, Nat.le_trans h.2 hb.size⟩
  · exact (hb.cell (p := ⟨0, c, none⟩) (by show 0 < B; omega)).trans (h.1.1 c hc)
  · have h1 := h.1.2 i hi
    exact ⟨(hb.cell (p := ⟨1, 2 * i, none⟩) (by show 1 < B; omega)).trans h1.1, (hb.cell (p := ⟨1, 2 * i + 1, none⟩) (by show 1 < B; omega)).trans h1.2⟩
theorem extract_is (s : ByteArray) (a k : Nat) : s.extract a (a + k) = ⟨((s.data.toList.drop a).take k).toArray⟩ := by
  have h := Lib.extract_data s a (a + k)
  rw [show a + k - a = k by omega] at h
  rw [← h]
end Go.Proofs.YtecikfdnnjinpabDoor
