/- Lists of slices of bytes, and what a call's own slice keeps; signetref1.Part appends a part's length and the part. -/
import Derived.Test.YtpiehjfoojipiaaDoorBytes
import Derived.Deep.RegionLaw
namespace Go.Proofs.YtpiehjfoojipiaaDoor
open Go.RowKit
set_option maxRecDepth 5000 in
theorem OwnB.below {w w' : World} {base : Nat} {v : Value} {l : List (BitVec 8)} (h : OwnB w base v l) (hb : Below w.heap.size w w') : OwnB w' base v l := by
  have h0 : w.ownsRow base 5 1 v l.length (vb l) := h
  refine ⟨h0.1, ?_⟩
  rcases h0.2 with h1 | ⟨g, cap, cur, e, h1, h2, h3⟩
  · exact Or.inl h1
  · exact Or.inr ⟨g, cap, cur, e, h1, by rw [hb.block g (Array.getElem?_eq_some_iff.1 h2).1]; exact h2, h3⟩
set_option maxRecDepth 5000 in
theorem OwnB.build (w : World) (b : BitVec 8) (base : Nat) (hb : base ≤ w.heap.size) : OwnB (w.alloc (.cells #[.int .u8 b.toNat] 5)) base (.slice (some ⟨w.heap.size, 0, none⟩) 1 1) [b] :=
  ⟨rfl, Or.inr ⟨w.heap.size, 1, _, rfl, hb, heap_alloc_last w _, by simp, by unfold maxLen; omega, rfl, rfl⟩⟩
set_option maxRecDepth 5000 in
theorem SlL.low {base : Nat} {w w' : World} {ao : Option Addr} {l : List (BitVec 8)} (h : SlL w ao l) (hlow : ∀ b o, ao = some ⟨b, o, none⟩ → b < base) (hb : Below base w w') : SlL w' ao l := fun hn => by
  obtain ⟨b, o, e, hlt, hc⟩ := h hn
  exact ⟨b, o, e, Nat.lt_of_lt_of_le hlt hb.size, fun j hj => (hb.cell (p := ⟨b, o + j, none⟩) (hlow b o e)).trans (hc j hj)⟩
/- the element type's slice holds the parts l -/
def PartsAt (w : World) (ao : Option Addr) (l : List (List (BitVec 8))) : Prop := 0 < l.length → ∃ b o, ao = some ⟨b, o, none⟩ ∧ b < w.heap.size ∧ ∀ j, j < l.length → ∃ a c, w.cell? ⟨b, o + j, none⟩ = some (.slice a (l.getD j []).length c) ∧ SlL w a (l.getD j []) ∧ (a = none → c = 0) ∧ (l.getD j []).length ≤ c
set_option maxRecDepth 5000 in
theorem PartsAt.below {B : Nat} {w w' : World} {ao : Option Addr} {l : List (List (BitVec 8))} (h : PartsAt w ao l) (hb : Below B w w') (hB : w.heap.size ≤ B) : PartsAt w' ao l := fun hn => by
  obtain ⟨b, o, e, hlt, hc⟩ := h hn
  refine ⟨b, o, e, Nat.lt_of_lt_of_le hlt hb.size, fun j hj => ?_⟩
  obtain ⟨a, c, h1, h2, h3, h4⟩ := hc j hj
  exact ⟨a, c, (hb.cell (p := ⟨b, o + j, none⟩) (Nat.lt_of_lt_of_le hlt hB)).trans h1, h2.below hb hB, h3, h4⟩
def ptext (l : List (List (BitVec 8))) : List (BitVec 8) := l.flatMap (fun p => Sha.len4 p.length ++ p)
set_option maxRecDepth 5000 in
theorem ptext_take (l : List (List (BitVec 8))) (k : Nat) (h : k < l.length) : ptext (l.take (k + 1)) = ptext (l.take k) ++ Sha.len4 (l.getD k []).length ++ l.getD k [] := by
  unfold ptext
  rw [List.take_succ_eq_append_getElem h, List.flatMap_append]
  simp [h]
set_option maxRecDepth 5000 in
theorem ptext_len : ∀ (l : List (List (BitVec 8))), (∀ p ∈ l, p.length ≤ 1000000) → (ptext l).length ≤ 1000004 * l.length
  | [], _ => by simp [ptext]
  | p :: l, h => by
    have h1 := ptext_len l (fun q hq => h q (by simp [hq]))
    have h2 := h p (by simp)
    have h3 : (ptext (p :: l)).length = 4 + p.length + (ptext l).length := by simp [ptext, Sha.len4]; omega
    rw [h3, List.length_cons]; omega
set_option maxRecDepth 5000 in
theorem take_le {l : List (List (BitVec 8))} (h : ∀ p ∈ l, p.length ≤ 1000000) (k : Nat) (hk : k ≤ l.length) (hl : l.length ≤ 1000) : (ptext (l.take k)).length ≤ 1000004000 := by
  have h1 := ptext_len (l.take k) (fun p hp => h p (List.mem_of_mem_take hp))
  rw [List.length_take] at h1
  omega
set_option maxRecDepth 5000 in
theorem getD_le {l : List (List (BitVec 8))} (h : ∀ p ∈ l, p.length ≤ 1000000) (k : Nat) (hk : k < l.length) : (l.getD k []).length ≤ 1000000 := by
  have : l.getD k [] = l[k] := by simp [hk]
  rw [this]; exact h _ (by simp)
/- the four bytes of a length -/
set_option maxRecDepth 5000 in
theorem len4_bytes (n : Nat) (h : n < 4294967296) : (n : Int) / (16777216 : Int) = ((BitVec.ofNat 8 (n / 16777216)).toNat : Int) ∧ (n : Int) / (65536 : Int) % (256 : Int) = ((BitVec.ofNat 8 (n / 65536)).toNat : Int) ∧ (n : Int) / (256 : Int) % (256 : Int) = ((BitVec.ofNat 8 (n / 256)).toNat : Int) ∧ (n : Int) % (256 : Int) = ((BitVec.ofNat 8 n).toNat : Int) := by
  simp only [BitVec.toNat_ofNat]
  omega
set_option maxRecDepth 5000 in
theorem SlL.put4 {w : World} {g : Nat} {t : TypeId} {c : Array Value} {n : Nat} (h : n < 4294967296) (hs : c.size = 4) (hr : RowAt w g t (put4 c 0 (n : Int))) : SlL w (some ⟨g, 0, none⟩) (Sha.len4 n) := fun _ => by
  obtain ⟨p0, p1, p2, p3⟩ := put4_in c 0 (n : Int) (by omega)
  obtain ⟨b0, b1, b2, b3⟩ := len4_bytes n h
  refine ⟨g, 0, rfl, hr.lt, fun j hj => ?_⟩
  rw [hr.cell]
  have hj4 : j < 4 := hj
  rcases (show j = 0 ∨ j = 1 ∨ j = 2 ∨ j = 3 by omega) with rfl | rfl | rfl | rfl
  · rw [Nat.zero_add, p0, b0]; rfl
  · rw [p1, b1]; rfl
  · rw [p2, b2]; rfl
  · rw [p3, b3]; rfl
set_option maxRecDepth 5000 in
theorem SlL.four (w : World) (n : Nat) (h : n < 4294967296) (t : TypeId) (x0 x1 x2 x3 : Int) (h0 : x0 = (n : Int) / 16777216) (h1 : x1 = (n : Int) / 65536 % 256) (h2 : x2 = (n : Int) / 256 % 256) (h3 : x3 = (n : Int) % 256) : SlL (w.alloc (.cells #[.int .u8 x0, .int .u8 x1, .int .u8 x2, .int .u8 x3] t)) (some ⟨w.heap.size, 0, none⟩) (Sha.len4 n) := fun _ => by
  obtain ⟨b0, b1, b2, b3⟩ := len4_bytes n h
  refine ⟨w.heap.size, 0, rfl, by simp, fun j hj => ?_⟩
  rw [(RowAt.new w t _).cell]
  have hj4 : j < 4 := hj
  rcases (show j = 0 ∨ j = 1 ∨ j = 2 ∨ j = 3 by omega) with rfl | rfl | rfl | rfl
  · rw [h0, b0]; rfl
  · rw [h1, b1]; rfl
  · rw [h2, b2]; rfl
  · rw [h3, b3]; rfl
set_option maxHeartbeats 400000 in
set_option maxRecDepth 5000 in
theorem part_any (base : Nat) (v : Value) (lb lp : List (BitVec 8)) (a : Option Addr) (n c : Nat) (w : World) (hl : Hid (lp.length = n)) (ho : OwnB w base v lb) (hs : SlL w a lp) (hlow : 0 < n → ∀ b o, a = some ⟨b, o, none⟩ → b < base) (hnil : a = none → c = 0) (hb : lb.length ≤ 2000000000) (hn : n ≤ 1000000) (hB : base ≤ w.heap.size) :
    Calls Tryd.prog 50 #[v, .slice a n c] w fun e w' => ∃ v', e = .returned v' ∧ OwnB w' base v' (lb ++ Sha.len4 n ++ lp) ∧ Below base w w' := by
  have HS : Hid (∀ w1, Below base w w1 → SlL w1 a lp) := fun w1 h => by
    rcases Nat.eq_zero_or_pos n with h0 | h0
    · intro hp; have := hl.out; omega
    · exact hs.low (hlow h0) h
  have HN : Hid (a = none → c = 0) := hnil
  clear hs hnil hlow
  go_enter Tryd.func50, Tryd.ntmps50
  go_wp2_with (first
    | (at_builtin; refine wpList_append_B rfl (.tmp 8) (.tmp 20) rfl base v lb rfl (ho.alloc _) _ _ _ (Sha.len4 n) rfl rfl (SlL.four _ n (by omega) _ _ _ _ _ (by omega) (by omega) (by omega) (by omega)) (by simp) (by omega) (by simp; omega) ?_; intro v1 w1 hO1 hG1; have hb1 := grown_below (ho.alloc _) hG1 ((Below.refl base w).alloc hB _) (by simp; omega); have hz1 := hb1.size; clear hG1)
    | (at_builtin; refine wpList_append_B rfl (.tmp 21) (.tmp 22) rfl base v1 _ rfl hO1 a n c lp rfl hl.out (HS.out _ hb1) HN.out (by simp [Sha.len4]; omega) (by omega) ?_; intro v2 w2 hO2 hG2; have hb2 := grown_below hO1 hG2 hb1 (by omega); clear hG2))
  go_ret
  exact ⟨v2, rfl, hO2, hb2⟩
end Go.Proofs.YtpiehjfoojipiaaDoor
