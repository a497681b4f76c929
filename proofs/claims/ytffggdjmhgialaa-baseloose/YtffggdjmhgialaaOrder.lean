/- The law BaseOrder returns true, for any two slices of bytes, and turns nothing that was there. -/
import Derived.Test.YtffggdjmhgialaaWrites
import Derived.Deep.RegionHeld3
namespace Go.Proofs.Ytffggdjmhgialaa
open Go.RowKit
namespace B
theorem less_lex : ∀ (l m : List UInt8), Op.bytesLess l m = lex (nat l) (nat m)
  | [], [] => rfl
  | [], _ :: _ => rfl
  | _ :: _, [] => rfl
  | a :: l, b :: m => by
    show (decide (a < b) || (a == b && Op.bytesLess l m)) = if a.toNat < b.toNat then true else if a.toNat = b.toNat then lex (nat l) (nat m) else false
    rw [less_lex l m]
    by_cases h : a < b
    · have h1 : a.toNat < b.toNat := UInt8.lt_iff_toNat_lt.1 h
      rw [if_pos h1, decide_eq_true h, Bool.true_or]
    · have h1 : ¬ a.toNat < b.toNat := fun hh => h (UInt8.lt_iff_toNat_lt.2 hh)
      rw [if_neg h1, decide_eq_false h, Bool.false_or]
      by_cases e : a = b
      · subst e; simp
      · have e1 : ¬ a.toNat = b.toNat := fun hh => e (UInt8.toNat_inj.1 hh)
        rw [if_neg e1]; simp [e]
theorem dch_lt : ∀ d, d < 32 → ∀ e, e < 32 → ((dch d).toNat < (dch e).toNat ↔ d < e) := by decide
theorem dch_eq : ∀ d, d < 32 → ∀ e, e < 32 → ((dch d).toNat = (dch e).toNat ↔ d = e) := by decide
theorem lex_txt : ∀ (D E : List Nat), (∀ d ∈ D, d < 32) → (∀ d ∈ E, d < 32) → lex (nat (txt D)) (nat (txt E)) = lex D E
  | [], [], _, _ => rfl
  | [], _ :: _, _, _ => rfl
  | _ :: _, [], _, _ => rfl
  | d :: D, e :: E, h1, h2 => by
    show (if (dch d).toNat < (dch e).toNat then true else if (dch d).toNat = (dch e).toNat then lex (nat (txt D)) (nat (txt E)) else false) = if d < e then true else if d = e then lex D E else false
    have hd := h1 d (by simp)
    have he := h2 e (by simp)
    rw [lex_txt D E (fun x hx => h1 x (by simp [hx])) (fun x hx => h2 x (by simp [hx]))]
    simp only [dch_lt d hd e he, dch_eq d hd e he]
theorem reduce {k : Nat} (hk : 0 < k) {bs : List UInt8} : ∀ (n : Nat) (D : List Nat) (c h : Nat), c ≤ n → Enc k bs D c h → ∃ D c h, c < k ∧ Enc k bs D c h
  | 0, D, c, h, hc, he => ⟨D, c, h, by omega, he⟩
  | n + 1, D, c, h, hc, he => by
    by_cases hck : c < k
    · exact ⟨D, c, h, hck, he⟩
    · have he2 : Enc k bs D (c - k + k) h := by rw [show c - k + k = c by omega]; exact he
      exact reduce hk n _ _ _ (by omega) he2.digit
theorem enc_all {k : Nat} (hk : 0 < k) (bs : List UInt8) : ∃ D c h, c < k ∧ Enc k bs D c h := by
  have key : ∀ n, n ≤ bs.length → ∃ D c h, c < k ∧ Enc k (bs.take n) D c h := by
    intro n
    induction n with
    | zero => intro _; exact ⟨[], 0, 0, hk, Enc.zero k⟩
    | succ n ih =>
      intro hn
      obtain ⟨D, c, h, hc, he⟩ := ih (by omega)
      rw [take_next bs n (by omega)]
      exact reduce hk _ _ _ _ (Nat.le_refl _) (he.byte _)
  have h := key bs.length (Nat.le_refl _)
  rw [List.take_length] at h
  exact h
end B
theorem is_all {k : Nat} (hk : 0 < k) (bs : List UInt8) : ∃ D, Is k (2 ^ k) bs D := by
  obtain ⟨D, c, h, hc, he⟩ := B.enc_all hk bs
  by_cases h0 : c = 0
  · subst h0
    exact ⟨D, he.done0 hk, he.1⟩
  · have := he.last (by omega) (by omega)
    exact ⟨_, this.1, this.2⟩
theorem is_less {k q : Nat} (hq : q ≤ 2 ^ k) (hq2 : q ≤ 32) {a b : List UInt8} {D E : List Nat} (h1 : Is k q a D) (h2 : Is k q b E) (hl : a.length = b.length) : Op.bytesLess (B.txt D) (B.txt E) = Op.bytesLess a b := by
  rw [B.less_lex, B.less_lex, B.lex_txt D E (fun d hd => by have := h1.2 d hd; omega) (fun d hd => by have := h2.2 d hd; omega)]
  exact B.Rel.order h1.1 h2.1 hl (fun d hd => by have := h1.2 d hd; omega) (fun d hd => by have := h2.2 d hd; omega)
theorem baseOrder_long (ao bo : Option Addr) (n cap m c2 : Nat) (w : World) (hn : 200 < n) (hm : n ≤ 9223372036854775807) :
    Calls Try.prog 5 #[.slice ao n cap, .slice bo m c2] w fun e w' => e = .returned (.bool true) ∧ Below w.heap.size w w' := by
  go_enter Try.func5, Try.ntmps5
  go_wp2_with (go_at_call 8; refine (known_any _).mono ?_; rintro e w1 ⟨rfl, hB1⟩)
  go_ret
  exact ⟨rfl, hB1⟩
theorem baseOrder_unlike (ao bo : Option Addr) (n cap m c2 : Nat) (w : World) (hn : n ≤ 200) (hne : n ≠ m) :
    Calls Try.prog 5 #[.slice ao n cap, .slice bo m c2] w fun e w' => e = .returned (.bool true) ∧ Below w.heap.size w w' := by
  have hb : ((n : Int) != (m : Int)) = true := by simp; omega
  go_enter Try.func5, Try.ntmps5
  go_wp2_with (go_at_call 8; refine (known_any _).mono ?_; rintro e w1 ⟨rfl, hB1⟩)
  go_ret
  exact ⟨rfl, hB1⟩
set_option maxRecDepth 3000 in
set_option maxHeartbeats 4000000 in
theorem baseOrder_walk (al bs : List UInt8) (ao bo : Option Addr) (n cap c2 : Nat) (w : World) (hl : Hid (al.length = n)) (hl2 : Hid (bs.length = n)) (hs : SlL w ao al) (hs2 : SlL w bo bs) (hn : n ≤ 200) :
    Calls Try.prog 5 #[.slice ao n cap, .slice bo n c2] w fun e w' => e = .returned (.bool true) ∧ Below w.heap.size w w' := by
  have HS := hide hs
  have HS2 := hide hs2
  obtain ⟨D, hD⟩ := is_all (k := 5) (by omega) al
  obtain ⟨E, hE⟩ := is_all (k := 5) (by omega) bs
  obtain ⟨F, hF⟩ := is_all (k := 4) (by omega) al
  obtain ⟨G, hG⟩ := is_all (k := 4) (by omega) bs
  have h1 := is_less (by omega) (by omega) hD hE (by rw [hl.out, hl2.out])
  have h2 := is_less (by omega) (by omega) hF hG (by rw [hl.out, hl2.out])
  generalize ht : Op.bytesLess al bs = t at h1 h2
  have HD := hide hD
  have HE := hide hE
  have HF := hide hF
  have HG := hide hG
  clear hs hs2 hD hE hF hG
  go_enter Try.func5, Try.ntmps5
  go_wp2_with (go_at_call 8; refine (known_any _).mono ?_; rintro e w1 ⟨rfl, hB1⟩; have hz1 := hB1.size)
  have hs1 := hide (HS.out.below hB1 (Nat.le_refl _))
  have hs21 := hide (HS2.out.below hB1 (Nat.le_refl _))
  go_region_held3 (fun w' => (convert 22 9 (.slice ao n cap)).run Try.prog w' = .ok (.string ⟨al.toArray⟩) w' ∧ (convert 22 9 (.slice bo n c2)).run Try.prog w' = .ok (.string ⟨bs.toArray⟩) w')
    ((first
      | exact ⟨run_str n cap hs1.out hl.out, run_str n c2 hs21.out hl2.out⟩
      | exact ⟨run_str n cap (W := w1.drew) hs1.out hl.out, run_str n c2 (W := w1.drew) hs21.out hl2.out⟩
      | exact ⟨run_str n cap (HS.out.below hb2 (Nat.le_refl _)) hl.out, run_str n c2 (HS2.out.below hb2 (Nat.le_refl _)) hl2.out⟩
      | exact ⟨run_str n cap (HS.out.below hb3 (Nat.le_refl _)) hl.out, run_str n c2 (HS2.out.below hb3 (Nat.le_refl _)) hl2.out⟩
      | exact ⟨run_str n cap (HS.out.below hb4 (Nat.le_refl _)) hl.out, run_str n c2 (HS2.out.below hb4 (Nat.le_refl _)) hl2.out⟩
      | exact ⟨run_str n cap (HS.out.below hb5 (Nat.le_refl _)) hl.out, run_str n c2 (HS2.out.below hb5 (Nat.le_refl _)) hl2.out⟩))
    ((first
      | (go_at_call_of 9 ao; (refine (hex32_is al D ao n cap _ hl (by exact hs1.out) (by omega) HD).mono ?_); (rintro e w2 ⟨rfl, hB2⟩; have hb2 : Below w.heap.size w w2 := (hB1.drew).trans (hB2.mono hz1); have hz2 := hb2.size; clear hB2))
      | (go_at_call_of 9 bo; (refine (hex32_is bs E bo n c2 _ hl2 (by exact HS2.out.below hb2 (Nat.le_refl _)) (by omega) HE).mono ?_); (rintro e w3 ⟨rfl, hB3⟩; have hb3 : Below w.heap.size w w3 := hb2.trans (hB3.mono hz2); have hz3 := hb3.size; clear hB3))
      | (go_at_call_of 10 ao; (refine (hex16_is al F ao n cap _ hl (by exact HS.out.below hb3 (Nat.le_refl _)) (by omega) HF).mono ?_); (rintro e w4 ⟨rfl, hB4⟩; have hb4 : Below w.heap.size w w4 := hb3.trans (hB4.mono hz3); have hz4 := hb4.size; clear hB4))
      | (go_at_call_of 10 bo; (refine (hex16_is bs G bo n c2 _ hl2 (by exact HS2.out.below hb4 (Nat.le_refl _)) (by omega) HG).mono ?_); (rintro e w5 ⟨rfl, hB5⟩; have hb5 : Below w.heap.size w w5 := hb4.trans (hB5.mono hz4); have hz5 := hb5.size; clear hB5))))
  all_goals go_wp2
  all_goals go_ret
  all_goals exact ⟨rfl, hb5⟩
end Go.Proofs.Ytffggdjmhgialaa
