/- What the laws lean on: readings that go well or don't, texts and bytes held against one another. -/
import Derived.Test.YtffggdjmhgialaaRefO
import Derived.Laws.IdiomStrings
import Derived.Laws.BytesArg
namespace Go.Proofs.Ytffggdjmhgialaa
open Go.RowKit
namespace B
theorem dval_dch : ∀ d, d < 32 → dval (dch d).toNat = d := by decide
theorem dv_txt : ∀ (D : List Nat), (∀ d ∈ D, d < 32) → dv (txt D) = D
  | [], _ => rfl
  | d :: D, h => by
    show dval (dch d).toNat :: dv (txt D) = _
    rw [dval_dch d (h d (by simp)), dv_txt D (fun x hx => h x (by simp [hx]))]
theorem val_txt {q : Nat} (hq : q ≤ 32) (D : List Nat) (h : ∀ d ∈ D, d < q) : Val q (txt D) := fun x hx => by
  simp only [txt, List.mem_map] at hx
  obtain ⟨d, hd, rfl⟩ := hx
  have := h d hd
  rw [dval_dch d (by omega)]; exact this
theorem good_txt {k q : Nat} (hq : q ≤ 32) {b : List UInt8} {D : List Nat} (h : Rel k b D) (hD : ∀ d ∈ D, d < q) : Good k q (txt D) b :=
  ⟨val_txt hq D hD, by rw [dv_txt D (fun d hd => by have := hD d hd; omega)]; exact h⟩
theorem txt_len (D : List Nat) : (txt D).length = D.length := by simp [txt]
end B
theorem OwnB.open {w : World} {base : Nat} {v : Value} {l : List UInt8} (h : OwnB w base v l) : ∃ ao c, v = .slice ao l.length c ∧ SlL w ao l ∧ (ao = none → c = 0) ∧ l.length ≤ c := by
  rcases Nat.eq_zero_or_pos l.length with h0 | h0
  · have h1 : w.ownsRow base 5 1 v l.length (vb l) := h
    rcases h1.2 with ⟨rfl, _⟩ | ⟨g, c, cur, rfl, _, _, h4, _⟩
    · exact ⟨none, 0, by rw [h0], fun hh => by omega, fun _ => rfl, by omega⟩
    · exact ⟨_, c, rfl, fun hh => by omega, fun hh => (by cases hh), by omega⟩
  · obtain ⟨g, c, rfl, _, h4, _, _, _⟩ := h.form h0
    exact ⟨_, c, rfl, h.sl, fun hh => (by cases hh), h4⟩
/- what a reading leaves -/
def Opened (k q : Nat) (bs : List UInt8) (B0 : Nat) (w : World) (e : Ending) (w' : World) : Prop :=
  ((∃ out v, e = .returned (.tuple #[v, .int .i64 0]) ∧ B.Good k q bs out ∧ OwnB w' B0 v out) ∨ (e = .returned (.tuple #[.slice none 0 0, .int .i64 20]) ∧ ∀ out, ¬ B.Good k q bs out)) ∧ Below B0 w w'
theorem Opened.good {k q : Nat} (hk : k ≤ 8) {bs b : List UInt8} {B0 : Nat} {w w' : World} {e : Ending} (h : Opened k q bs B0 w e w') (hg : B.Good k q bs b) :
    ∃ ao c, e = .returned (.tuple #[.slice ao b.length c, .int .i64 0]) ∧ SlL w' ao b ∧ Below B0 w w' := by
  obtain ⟨⟨out, v, rfl, h1, h2⟩ | ⟨rfl, h1⟩, hB⟩ := h
  · obtain rfl : out = b := B.Rel.bytes hk h1.2 hg.2
    obtain ⟨ao, c, rfl, h3, _, _⟩ := h2.open
    exact ⟨ao, c, rfl, h3, hB⟩
  · exact absurd hg (h1 b)
theorem Opened.bad {k q : Nat} {bs : List UInt8} {B0 : Nat} {w w' : World} {e : Ending} (h : Opened k q bs B0 w e w') (hg : ∀ b, ¬ B.Good k q bs b) :
    e = .returned (.tuple #[.slice none 0 0, .int .i64 20]) ∧ Below B0 w w' := by
  obtain ⟨⟨out, v, rfl, h1, h2⟩ | ⟨rfl, h1⟩, hB⟩ := h
  · exact absurd h1 (hg out)
  · exact ⟨rfl, hB⟩
theorem o32_good (s : ByteArray) (bs b : List UInt8) (n : Nat) (w : World) (hb : Hid (b.length = n)) (hs : Hid (s.data.toList = bs)) (hn : s.size ≤ 1000000) (hg : Hid (B.Good 5 32 bs b)) :
    Calls Try.prog 11 #[.string s] w fun e w' => ∃ ao c, e = .returned (.tuple #[.slice ao n c, .int .i64 0]) ∧ SlL w' ao b ∧ Below w.heap.size w w' := by
  have h := hb.out; subst h
  exact (openHex32_any s bs w hs hn).mono fun _ _ h => Opened.good (by omega) h hg.out
theorem o32_bad (s : ByteArray) (bs : List UInt8) (w : World) (hs : Hid (s.data.toList = bs)) (hn : s.size ≤ 1000000) (hg : Hid (∀ b, ¬ B.Good 5 32 bs b)) :
    Calls Try.prog 11 #[.string s] w fun e w' => e = .returned (.tuple #[.slice none 0 0, .int .i64 20]) ∧ Below w.heap.size w w' :=
  (openHex32_any s bs w hs hn).mono fun _ _ h => Opened.bad h hg.out
theorem o16_good (s : ByteArray) (bs b : List UInt8) (n : Nat) (w : World) (hb : Hid (b.length = n)) (hs : Hid (s.data.toList = bs)) (hn : s.size ≤ 1000000) (hg : Hid (B.Good 4 16 bs b)) :
    Calls Try.prog 12 #[.string s] w fun e w' => ∃ ao c, e = .returned (.tuple #[.slice ao n c, .int .i64 0]) ∧ SlL w' ao b ∧ Below w.heap.size w w' := by
  have h := hb.out; subst h
  exact (openHex_any s bs w hs hn).mono fun _ _ h => Opened.good (by omega) h hg.out
theorem o16_bad (s : ByteArray) (bs : List UInt8) (w : World) (hs : Hid (s.data.toList = bs)) (hn : s.size ≤ 1000000) (hg : Hid (∀ b, ¬ B.Good 4 16 bs b)) :
    Calls Try.prog 12 #[.string s] w fun e w' => e = .returned (.tuple #[.slice none 0 0, .int .i64 20]) ∧ Below w.heap.size w w' :=
  (openHex_any s bs w hs hn).mono fun _ _ h => Opened.bad h hg.out
theorem r32_good (s : ByteArray) (bs b : List UInt8) (n : Nat) (w : World) (hb : Hid (b.length = n)) (hs : Hid (s.data.toList = bs)) (hn : s.size ≤ 1000000) (hg : Hid (B.Good 5 32 bs b)) :
    Calls Try.prog 16 #[.string s] w fun e w' => ∃ ao c, e = .returned (.tuple #[.slice ao n c, .int .i64 0]) ∧ SlL w' ao b ∧ Below w.heap.size w w' := by
  have h := hb.out; subst h
  exact (refOpen32_any s bs w hs hn).mono fun _ _ h => Opened.good (by omega) h hg.out
theorem r32_bad (s : ByteArray) (bs : List UInt8) (w : World) (hs : Hid (s.data.toList = bs)) (hn : s.size ≤ 1000000) (hg : Hid (∀ b, ¬ B.Good 5 32 bs b)) :
    Calls Try.prog 16 #[.string s] w fun e w' => e = .returned (.tuple #[.slice none 0 0, .int .i64 20]) ∧ Below w.heap.size w w' :=
  (refOpen32_any s bs w hs hn).mono fun _ _ h => Opened.bad h hg.out
theorem r16_good (s : ByteArray) (bs b : List UInt8) (n : Nat) (w : World) (hb : Hid (b.length = n)) (hs : Hid (s.data.toList = bs)) (hn : s.size ≤ 1000000) (hg : Hid (B.Good 4 16 bs b)) :
    Calls Try.prog 17 #[.string s] w fun e w' => ∃ ao c, e = .returned (.tuple #[.slice ao n c, .int .i64 0]) ∧ SlL w' ao b ∧ Below w.heap.size w w' := by
  have h := hb.out; subst h
  exact (refOpen16_any s bs w hs hn).mono fun _ _ h => Opened.good (by omega) h hg.out
theorem r16_bad (s : ByteArray) (bs : List UInt8) (w : World) (hs : Hid (s.data.toList = bs)) (hn : s.size ≤ 1000000) (hg : Hid (∀ b, ¬ B.Good 4 16 bs b)) :
    Calls Try.prog 17 #[.string s] w fun e w' => e = .returned (.tuple #[.slice none 0 0, .int .i64 20]) ∧ Below w.heap.size w w' :=
  (refOpen16_any s bs w hs hn).mono fun _ _ h => Opened.bad h hg.out
/- string(b) -/
theorem run_str {W : World} {ao : Option Addr} {l : List UInt8} (n cap : Nat) (hs : SlL W ao l) (hl : l.length = n) : (convert 22 9 (.slice ao n cap)).run Try.prog W = .ok (.string ⟨l.toArray⟩) W := by
  subst hl
  cases ao with
  | none =>
    have h0 : l = [] := by
      rcases Nat.eq_zero_or_pos l.length with h | h
      · exact List.eq_nil_of_length_eq_zero h
      · obtain ⟨b, o, e, _⟩ := hs h; cases e
    subst h0
    exact run_convert_bytes_nil W 22 5 Try.underlying22 Try.underlying5 0 cap 9 Try.underlying9
  | some a =>
    refine run_convert_bytes_back W 22 9 5 a cap l Try.underlying22 Try.underlying5 Try.underlying9 ?_
    intro j hj
    obtain ⟨b, o, e, _, hc⟩ := hs (by omega)
    cases e
    rw [Addr.add_mid, hc j hj]
    simp [hj]
theorem bytes_any (l m : List UInt8) (ao ao' : Option Addr) (n n' c c' : Nat) (w : World) (hs : SlL w ao l) (hs' : SlL w ao' m) (hl : Hid (l.length = n)) (hl' : Hid (m.length = n')) :
    Calls Try.prog 15 #[.slice ao n c, .slice ao' n' c'] w fun e w' => e = .returned (.bool (l == m)) ∧ w' = w := by
  have h1 := run_str n c hs hl.out
  have h2 := run_str n' c' hs' hl'.out
  clear hs hs'
  go_enter Try.func15, Try.ntmps15
  go_wp2
  go_ret
  exact ⟨rfl, rfl⟩
theorem bytes_same (l : List UInt8) (ao ao' : Option Addr) (n n' c c' : Nat) (w : World) (hs : SlL w ao l) (hs' : SlL w ao' l) (hl : Hid (l.length = n)) (hl' : Hid (l.length = n')) :
    Calls Try.prog 15 #[.slice ao n c, .slice ao' n' c'] w fun e w' => e = .returned (.bool true) ∧ w' = w :=
  (bytes_any l l ao ao' n n' c c' w hs hs' hl hl').mono fun _ _ h => ⟨by rw [h.1]; simp, h.2⟩
/- the one text -/
def Is (k q : Nat) (bs : List UInt8) (D : List Nat) : Prop := B.Rel k bs D ∧ ∀ d ∈ D, d < q
theorem hex32_is (bs : List UInt8) (D : List Nat) (ao : Option Addr) (n cap : Nat) (w : World) (hl : Hid (bs.length = n)) (hs : SlL w ao bs) (hn : n ≤ 1000000) (hD : Hid (Is 5 32 bs D)) :
    Calls Try.prog 9 #[.slice ao n cap] w fun e w' => e = .returned (.string ⟨(B.txt D).toArray⟩) ∧ Below w.heap.size w w' := by
  refine (hex32_any bs ao n cap w hl hs hn).mono ?_
  rintro e w' ⟨E, h1, h2, rfl, hB⟩
  obtain rfl := B.Rel.digits h1 hD.out.1 h2 hD.out.2
  exact ⟨rfl, hB⟩
theorem hex16_is (bs : List UInt8) (D : List Nat) (ao : Option Addr) (n cap : Nat) (w : World) (hl : Hid (bs.length = n)) (hs : SlL w ao bs) (hn : n ≤ 1000000) (hD : Hid (Is 4 16 bs D)) :
    Calls Try.prog 10 #[.slice ao n cap] w fun e w' => e = .returned (.string ⟨(B.txt D).toArray⟩) ∧ Below w.heap.size w w' := by
  refine (hex_any bs ao n cap w hl hs hn).mono ?_
  rintro e w' ⟨E, h1, h2, rfl, hB⟩
  obtain rfl := B.Rel.digits h1 hD.out.1 h2 hD.out.2
  exact ⟨rfl, hB⟩
theorem ref32_is (bs : List UInt8) (D : List Nat) (ao : Option Addr) (n cap : Nat) (w : World) (hl : Hid (bs.length = n)) (hs : SlL w ao bs) (hn : n ≤ 1000000) (hD : Hid (Is 5 32 bs D)) :
    Calls Try.prog 13 #[.slice ao n cap] w fun e w' => e = .returned (.string ⟨(B.txt D).toArray⟩) ∧ Below w.heap.size w w' := by
  refine (ref32_any bs ao n cap w hl hs hn).mono ?_
  rintro e w' ⟨E, h1, h2, rfl, hB⟩
  obtain rfl := B.Rel.digits h1 hD.out.1 h2 hD.out.2
  exact ⟨rfl, hB⟩
theorem ref16_is (bs : List UInt8) (D : List Nat) (ao : Option Addr) (n cap : Nat) (w : World) (hl : Hid (bs.length = n)) (hs : SlL w ao bs) (hn : n ≤ 1000000) (hD : Hid (Is 4 16 bs D)) :
    Calls Try.prog 14 #[.slice ao n cap] w fun e w' => e = .returned (.string ⟨(B.txt D).toArray⟩) ∧ Below w.heap.size w w' := by
  refine (ref16_any bs ao n cap w hl hs hn).mono ?_
  rintro e w' ⟨E, h1, h2, rfl, hB⟩
  obtain rfl := B.Rel.digits h1 hD.out.1 h2 hD.out.2
  exact ⟨rfl, hB⟩
theorem Is.good {k q : Nat} {b : List UInt8} {D : List Nat} (h : Is k q b D) (hq : q ≤ 32) : B.Good k q (B.txt D) b := B.good_txt hq h.1 h.2
theorem Is.len {k q : Nat} {b : List UInt8} {D : List Nat} (h : Is k q b D) (hk : 4 ≤ k) (hb : b.length ≤ 10000) : (B.txt D).length ≤ 20001 := by
  obtain ⟨⟨p, hp, hl, _⟩, _⟩ := h
  rw [B.txt_len]
  have h1 : 4 * D.length ≤ k * D.length := Nat.mul_le_mul_right _ hk
  rcases Nat.lt_or_ge 20001 D.length with h2 | h2
  · have h3 : k * 20002 ≤ k * D.length := Nat.mul_le_mul_left _ h2
    omega
  · exact h2
end Go.Proofs.Ytffggdjmhgialaa
