/- Bitmaps, plain (a text of stage 4, at this seat). -/
import Derived.Test.YtdldaphkiphpnaaGreatChecked
import Init
/- stage4/Spec -/
/- Types as sets of numbers, bits of windows, bitmaps and how they are read: plain, of no program. -/
namespace Go.Proofs.YtdldaphkiphpnaaGreat
namespace T
/- lists that rise -/
def Rise (l : List Nat) : Prop := l.Pairwise (· < ·)
set_option maxRecDepth 5000 in
theorem rise_ext : ∀ (a b : List Nat), Rise a → Rise b → (∀ x, x ∈ a ↔ x ∈ b) → a = b
  | [], [], _, _, _ => rfl
  | [], y :: b, _, _, h => absurd ((h y).2 (by simp)) (by simp)
  | x :: a, [], _, _, h => absurd ((h x).1 (by simp)) (by simp)
  | x :: a, y :: b, ha, hb, h => by
    have h1 := List.pairwise_cons.1 ha
    have h2 := List.pairwise_cons.1 hb
    have e : x = y := by
      have hx := (h x).1 (by simp)
      have hy := (h y).2 (by simp)
      rcases List.mem_cons.1 hx with e | e
      · exact e
      · rcases List.mem_cons.1 hy with e' | e'
        · exact e'.symm
        · have := h2.1 x e; have := h1.1 y e'; omega
    subst e
    rw [rise_ext a b h1.2 h2.2 fun z => ?_]
    constructor
    · intro hz
      rcases List.mem_cons.1 ((h z).1 (List.mem_cons_of_mem _ hz)) with e | e
      · have := h1.1 z hz; omega
      · exact e
    · intro hz
      rcases List.mem_cons.1 ((h z).2 (List.mem_cons_of_mem _ hz)) with e | e
      · have := h2.1 z hz; omega
      · exact e
def Rising (l : List UInt16) : Prop := l.Pairwise (fun x y => x.toNat < y.toNat)
set_option maxRecDepth 5000 in
theorem Rising.rise {l : List UInt16} (h : Rising l) : Rise (l.map UInt16.toNat) := by
  unfold Rise; rw [List.pairwise_map]; exact h
set_option maxRecDepth 5000 in
theorem map_inj {a b : List UInt16} (h : a.map UInt16.toNat = b.map UInt16.toNat) : a = b := by
  induction a generalizing b with
  | nil => cases b with
    | nil => rfl
    | cons y b => simp at h
  | cons x a ih => cases b with
    | nil => simp at h
    | cons y b =>
      simp only [List.map_cons, List.cons.injEq] at h
      rw [ih h.2, UInt16.toNat_inj.1 h.1]
set_option maxRecDepth 5000 in
theorem rising_ext (a b : List UInt16) (ha : Rising a) (hb : Rising b) (h : ∀ x, x ∈ a ↔ x ∈ b) : a = b := by
  refine map_inj (rise_ext _ _ ha.rise hb.rise fun x => ?_)
  simp only [List.mem_map, h]
/- c holds l's numbers, rising, each once -/
def IsClean (l c : List UInt16) : Prop := Rising c ∧ ∀ x, x ∈ c ↔ x ∈ l
set_option maxRecDepth 5000 in
theorem IsClean.unique {l c c' : List UInt16} (h : IsClean l c) (h' : IsClean l c') : c = c' := rising_ext _ _ h.1 h'.1 fun x => (h.2 x).trans (h'.2 x).symm
set_option maxRecDepth 5000 in
theorem IsClean.self {l c : List UInt16} (hl : Rising l) (h : IsClean l c) : c = l := h.unique ⟨hl, fun _ => Iff.rfl⟩
/- the bits of some bytes, the highest first -/
def has (b : List UInt8) (p : Nat) : Bool := (b.getD (p / 8) 0).toNat.testBit (7 - p % 8)
def setb (b : List UInt8) (p : Nat) : List UInt8 := b.set (p / 8) (UInt8.ofNat ((b.getD (p / 8) 0).toNat ||| 2 ^ (7 - p % 8)))
set_option maxRecDepth 5000 in
theorem setb_len (b : List UInt8) (p : Nat) : (setb b p).length = b.length := by simp [setb]
set_option maxRecDepth 5000 in
theorem or_small (x : UInt8) (k : Nat) (hk : k < 8) : x.toNat ||| 2 ^ k < 256 := by
  have h1 : x.toNat < 2 ^ 8 := x.toNat_lt
  have h2 : 2 ^ k < 2 ^ 8 := Nat.pow_lt_pow_right (by omega) hk
  exact Nat.or_lt_two_pow h1 h2
set_option maxRecDepth 5000 in
theorem has_setb (b : List UInt8) (p q : Nat) (hp : p / 8 < b.length) : has (setb b p) q = (decide (q = p) || has b q) := by
  unfold has setb
  by_cases e : q / 8 = p / 8
  · rw [e, List.getD_eq_getElem?_getD, List.getElem?_set_self hp, Option.getD_some, UInt8.toNat_ofNat', Nat.mod_eq_of_lt (or_small _ _ (by omega)), Nat.testBit_or, Nat.testBit_two_pow]
    by_cases e2 : q = p
    · subst e2; simp
    · have : ¬ (7 - p % 8 = 7 - q % 8) := by omega
      simp [this, e2]
  · have e2 : q ≠ p := by intro h; subst h; exact e rfl
    rw [List.getD_eq_getElem?_getD, List.getElem?_set_ne (by omega), ← List.getD_eq_getElem?_getD]
    simp [e2]
set_option maxRecDepth 5000 in
theorem byte_ext (x y : UInt8) (h : ∀ j, j < 8 → x.toNat.testBit (7 - j) = y.toNat.testBit (7 - j)) : x = y := by
  refine UInt8.toNat_inj.1 (Nat.eq_of_testBit_eq fun i => ?_)
  by_cases hi : i < 8
  · have := h (7 - i) (by omega)
    rwa [show 7 - (7 - i) = i by omega] at this
  · have h1 : x.toNat < 2 ^ 8 := x.toNat_lt
    have h2 : y.toNat < 2 ^ 8 := y.toNat_lt
    have h3 : 2 ^ 8 ≤ 2 ^ i := Nat.pow_le_pow_right (by omega) (by omega)
    rw [Nat.testBit_lt_two_pow (by omega), Nat.testBit_lt_two_pow (by omega)]
set_option maxRecDepth 5000 in
theorem has_ext (a b : List UInt8) (hl : a.length = b.length) (h : ∀ p, p < 8 * a.length → has a p = has b p) : a = b := by
  refine List.ext_getElem hl fun k h1 h2 => byte_ext _ _ fun j hj => ?_
  have := h (8 * k + j) (by omega)
  unfold has at this
  rw [show (8 * k + j) / 8 = k by omega, show (8 * k + j) % 8 = j by omega] at this
  simpa [h1, h2] using this
/- the bytes in which just the places ps are set -/
def row (n : Nat) (ps : List Nat) : List UInt8 := ps.foldl setb (List.replicate n 0)
set_option maxRecDepth 5000 in
theorem fold_len (ps : List Nat) : ∀ b : List UInt8, (ps.foldl setb b).length = b.length := by
  induction ps with
  | nil => intro b; rfl
  | cons p ps ih => intro b; rw [List.foldl_cons, ih, setb_len]
set_option maxRecDepth 5000 in
theorem row_len (n : Nat) (ps : List Nat) : (row n ps).length = n := by unfold row; rw [fold_len]; simp
set_option maxRecDepth 5000 in
theorem row_snoc (n : Nat) (ps : List Nat) (p : Nat) : row n (ps ++ [p]) = setb (row n ps) p := by unfold row; rw [List.foldl_append]; rfl
set_option maxRecDepth 5000 in
theorem has_fold (ps : List Nat) : ∀ (b : List UInt8) (q : Nat), (∀ p ∈ ps, p / 8 < b.length) → has (ps.foldl setb b) q = (decide (q ∈ ps) || has b q) := by
  induction ps with
  | nil => intro b q _; simp
  | cons p ps ih =>
    intro b q h
    rw [List.foldl_cons, ih _ _ (fun x hx => by rw [setb_len]; exact h x (List.mem_cons_of_mem _ hx)), has_setb _ _ _ (h p (by simp))]
    by_cases e : q = p <;> simp [e]
set_option maxRecDepth 5000 in
theorem has_zero (n q : Nat) : has (List.replicate n 0) q = false := by
  unfold has
  have : (List.replicate n (0 : UInt8)).getD (q / 8) 0 = 0 := by
    rw [List.getD_eq_getElem?_getD, List.getElem?_replicate]; split <;> rfl
  rw [this]; simp
set_option maxRecDepth 5000 in
theorem has_row (n : Nat) (ps : List Nat) (q : Nat) (h : ∀ p ∈ ps, p < 8 * n) : has (row n ps) q = decide (q ∈ ps) := by
  unfold row
  rw [has_fold _ _ _ (fun p hp => by have := h p hp; simp; omega), has_zero]; simp
set_option maxRecDepth 5000 in
theorem has_take (b : List UInt8) (n q : Nat) (h : q < 8 * n) : has (b.take n) q = has b q := by
  unfold has
  have : q / 8 < n := by omega
  simp [List.getD_eq_getElem?_getD, this]
set_option maxRecDepth 5000 in
theorem row_take (n m : Nat) (ps : List Nat) (h : ∀ p ∈ ps, p < 8 * n) (hn : n ≤ m) : (row m ps).take n = row n ps := by
  refine has_ext _ _ (by rw [List.length_take, row_len, row_len]; omega) fun p hp => ?_
  rw [List.length_take, row_len] at hp
  rw [has_take _ _ _ (by omega), has_row _ _ _ (fun p hp => by have := h p hp; omega), has_row _ _ _ h]
/- bytes of nought behind it -/
set_option maxRecDepth 5000 in
theorem has_zeros (b : List UInt8) (k q : Nat) : has (b ++ List.replicate k 0) q = has b q := by
  unfold has
  by_cases h : q / 8 < b.length
  · rw [List.getD_eq_getElem?_getD, List.getElem?_append_left h, ← List.getD_eq_getElem?_getD]
  · have e1 : (b ++ List.replicate k (0 : UInt8)).getD (q / 8) 0 = 0 := by
      rw [List.getD_eq_getElem?_getD, List.getElem?_append_right (by omega), List.getElem?_replicate]; split <;> rfl
    have e2 : b.getD (q / 8) 0 = 0 := by rw [List.getD_eq_getElem?_getD, List.getElem?_eq_none (by omega)]; rfl
    rw [e1, e2]
set_option maxRecDepth 5000 in
theorem row_grow (n k : Nat) (ps : List Nat) (h : ∀ p ∈ ps, p < 8 * n) : row n ps ++ List.replicate k 0 = row (n + k) ps := by
  refine has_ext _ _ (by simp [row_len]) fun p hp => ?_
  rw [has_zeros, has_row _ _ _ h, has_row _ _ _ (fun p hp => by have := h p hp; omega)]
/- the places that are set -/
def places (b : List UInt8) : List Nat := (List.range (8 * b.length)).filter (has b)
set_option maxRecDepth 5000 in
theorem range_rise (n : Nat) : Rise (List.range n) := List.pairwise_lt_range
set_option maxRecDepth 5000 in
theorem places_rise (b : List UInt8) : Rise (places b) := (range_rise _).filter _
set_option maxRecDepth 5000 in
theorem mem_places (b : List UInt8) (p : Nat) : p ∈ places b ↔ p < 8 * b.length ∧ has b p = true := by simp [places]
set_option maxRecDepth 5000 in
theorem places_row (n : Nat) (ps : List Nat) (hr : Rise ps) (h : ∀ p ∈ ps, p < 8 * n) : places (row n ps) = ps := by
  refine rise_ext _ _ (places_rise _) hr fun x => ?_
  rw [mem_places, row_len, has_row _ _ _ h, decide_eq_true_eq]
  exact ⟨fun hx => hx.2, fun hx => ⟨h x hx, hx⟩⟩
set_option maxRecDepth 5000 in
theorem row_places (b : List UInt8) : row b.length (places b) = b := by
  have hb : ∀ p ∈ places b, p < 8 * b.length := fun p hp => ((mem_places b p).1 hp).1
  refine has_ext _ _ (row_len _ _) fun p hp => ?_
  rw [row_len] at hp
  rw [has_row _ _ _ hb]
  by_cases h : has b p = true
  · rw [h, decide_eq_true_eq]; exact (mem_places b p).2 ⟨hp, h⟩
  · have h0 : has b p = false := by simpa using h
    rw [h0, decide_eq_false_iff_not]; exact fun hm => h ((mem_places b p).1 hm).2
/- a number's window, and its place there -/
def hi (t : UInt16) : Nat := t.toNat / 256
def lo (t : UInt16) : Nat := t.toNat % 256
def mk (w p : Nat) : UInt16 := UInt16.ofNat (w * 256 + p)
set_option maxRecDepth 5000 in
theorem hi_lt (t : UInt16) : hi t < 256 := by have := t.toNat_lt; unfold hi; omega
set_option maxRecDepth 5000 in
theorem lo_lt (t : UInt16) : lo t < 256 := by unfold lo; omega
set_option maxRecDepth 5000 in
theorem mk_eq (t : UInt16) : mk (hi t) (lo t) = t := by
  refine UInt16.toNat_inj.1 ?_
  have := t.toNat_lt
  unfold mk hi lo; rw [UInt16.toNat_ofNat']; omega
set_option maxRecDepth 5000 in
theorem hi_mk (w p : Nat) (hw : w < 256) (hp : p < 256) : hi (mk w p) = w := by unfold hi mk; rw [UInt16.toNat_ofNat']; omega
set_option maxRecDepth 5000 in
theorem lo_mk (w p : Nat) (_hw : w < 256) (hp : p < 256) : lo (mk w p) = p := by unfold lo mk; rw [UInt16.toNat_ofNat']; omega
set_option maxRecDepth 5000 in
theorem mk_nat (w p : Nat) (hw : w < 256) (hp : p < 256) : (mk w p).toNat = w * 256 + p := by unfold mk; rw [UInt16.toNat_ofNat']; omega
/- one window's bytes -/
def size (ps : List Nat) : Nat := ps.getLastD 0 / 8 + 1
def win (w : Nat) (ps : List Nat) : List UInt8 := UInt8.ofNat w :: UInt8.ofNat (size ps) :: row (size ps) ps
/- the bitmap of numbers that rise -/
def same (t : UInt16) (x : UInt16) : Bool := decide (hi x = hi t)
set_option maxRecDepth 5000 in
theorem drop_le (t : UInt16) (r : List UInt16) : (r.dropWhile (same t)).length ≤ r.length := by
  induction r with
  | nil => simp
  | cons x r ih => rw [List.dropWhile_cons]; split <;> simp <;> omega
def bmp : List UInt16 → List UInt8
  | [] => []
  | t :: r => win (hi t) ((t :: r.takeWhile (same t)).map lo) ++ bmp (r.dropWhile (same t))
termination_by l => l.length
decreasing_by have := drop_le t r; simp; omega
set_option maxRecDepth 5000 in
theorem bmp_nil : bmp [] = [] := by rw [bmp]
set_option maxRecDepth 5000 in
theorem bmp_cons (t : UInt16) (r : List UInt16) : bmp (t :: r) = win (hi t) ((t :: r.takeWhile (same t)).map lo) ++ bmp (r.dropWhile (same t)) := by rw [bmp]
/- bytes read -/
def typ (w : Nat) (b : List UInt8) : List UInt16 := (places b).map (mk w)
def bad (least : Nat) (x n : UInt8) (r : List UInt8) : Prop := x.toNat < least ∨ n.toNat = 0 ∨ 32 < n.toNat ∨ r.length < n.toNat ∨ r.getD (n.toNat - 1) 0 = 0
instance (least : Nat) (x n : UInt8) (r : List UInt8) : Decidable (bad least x n r) := by unfold bad; infer_instance
def opn (least : Nat) : List UInt8 → Option (List UInt16)
  | [] => some []
  | [_] => none
  | x :: n :: r => if bad least x n r then none else (opn (x.toNat + 1) (r.drop n.toNat)).map (typ x.toNat (r.take n.toNat) ++ ·)
termination_by l => l.length
decreasing_by simp; omega
set_option maxRecDepth 5000 in
theorem opn_nil (least : Nat) : opn least [] = some [] := by rw [opn]
set_option maxRecDepth 5000 in
theorem opn_one (least : Nat) (x : UInt8) : opn least [x] = none := by rw [opn]
set_option maxRecDepth 5000 in
theorem opn_two (least : Nat) (x n : UInt8) (r : List UInt8) : opn least (x :: n :: r) = if bad least x n r then none else (opn (x.toNat + 1) (r.drop n.toNat)).map (typ x.toNat (r.take n.toNat) ++ ·) := by rw [opn]
/- the last place's byte -/
set_option maxRecDepth 5000 in
theorem last_mem (ps : List Nat) (h : ps ≠ []) : ps.getLastD 0 ∈ ps := by
  rw [List.getLastD_eq_getLast?, List.getLast?_eq_some_getLast h]
  exact List.getLast_mem h
set_option maxRecDepth 5000 in
theorem last_max (ps : List Nat) (hr : Rise ps) : ∀ p ∈ ps, p ≤ ps.getLastD 0 := by
  induction ps with
  | nil => simp
  | cons x ps ih =>
    intro p hp
    have h := List.pairwise_cons.1 hr
    cases ps with
    | nil => simp at hp; simp [hp]
    | cons y ps =>
      have e : (x :: y :: ps).getLastD 0 = (y :: ps).getLastD 0 := by simp [List.getLastD_eq_getLast?, List.getLast?_cons_cons]
      rw [e]
      rcases List.mem_cons.1 hp with rfl | hp
      · have h1 := h.1 y (by simp)
        have h2 := ih h.2 y (by simp)
        omega
      · exact ih h.2 p hp
set_option maxRecDepth 5000 in
theorem size_bound (ps : List Nat) (hr : Rise ps) : ∀ p ∈ ps, p < 8 * size ps := fun p hp => by have := last_max ps hr p hp; unfold size; omega
set_option maxRecDepth 5000 in
theorem size_le (ps : List Nat) (h : ∀ p ∈ ps, p < 256) : size ps ≤ 32 := by
  unfold size
  by_cases e : ps = []
  · subst e; simp
  · have := h _ (last_mem ps e); omega
set_option maxRecDepth 5000 in
theorem row_last (ps : List Nat) (h : ps ≠ []) (hr : Rise ps) : (row (size ps) ps).getD (size ps - 1) 0 ≠ 0 := by
  intro e
  have h1 := has_row (size ps) ps (ps.getLastD 0) (size_bound ps hr)
  rw [decide_eq_true (last_mem ps h)] at h1
  unfold has at h1
  rw [show ps.getLastD 0 / 8 = size ps - 1 by unfold size; omega, e] at h1
  simp at h1
set_option maxRecDepth 5000 in
theorem size_places (b : List UInt8) (hb : 0 < b.length) (h : b.getD (b.length - 1) 0 ≠ 0) : size (places b) = b.length ∧ places b ≠ [] := by
  obtain ⟨j, hj, hb1⟩ : ∃ j, j < 8 ∧ has b (8 * (b.length - 1) + j) = true := by
    apply Classical.byContradiction
    intro hn
    refine h (byte_ext _ _ fun j hj => ?_)
    have : has b (8 * (b.length - 1) + j) = false := by
      by_cases e : has b (8 * (b.length - 1) + j) = true
      · exact absurd ⟨j, hj, e⟩ hn
      · simpa using e
    unfold has at this
    rw [show (8 * (b.length - 1) + j) / 8 = b.length - 1 by omega, show (8 * (b.length - 1) + j) % 8 = j by omega] at this
    rw [this]; simp
  have hm : 8 * (b.length - 1) + j ∈ places b := (mem_places b _).2 ⟨by omega, hb1⟩
  have hne : places b ≠ [] := List.ne_nil_of_mem hm
  have h1 := last_max _ (places_rise b) _ hm
  have h2 := ((mem_places b _).1 (last_mem _ hne)).1
  exact ⟨by unfold size; omega, hne⟩
set_option maxRecDepth 5000 in
theorem takeWhile_all {p : UInt16 → Bool} (a b : List UInt16) (ha : ∀ x ∈ a, p x = true) (hb : ∀ x ∈ b, p x = false) : (a ++ b).takeWhile p = a ∧ (a ++ b).dropWhile p = b := by
  induction a with
  | nil =>
    cases b with
    | nil => simp
    | cons y b => simp [hb y (by simp)]
  | cons x a ih =>
    have := ih (fun y hy => ha y (List.mem_cons_of_mem _ hy))
    simp [ha x (by simp), this]
set_option maxRecDepth 5000 in
theorem takeWhile_mem {p : UInt16 → Bool} (r : List UInt16) : ∀ x ∈ r.takeWhile p, p x = true := by
  induction r with
  | nil => simp
  | cons y r ih =>
    intro x hx
    rw [List.takeWhile_cons] at hx
    split at hx
    · rcases List.mem_cons.1 hx with rfl | hx
      · assumption
      · exact ih x hx
    · simp at hx
/- what stands behind a window's numbers is of a later one -/
set_option maxRecDepth 5000 in
theorem rest_hi (t : UInt16) (r : List UInt16) (h : Rising (t :: r)) : ∀ x ∈ r.dropWhile (same t), hi t + 1 ≤ hi x := by
  induction r with
  | nil => simp
  | cons y r ih =>
    intro x hx
    have h1 := List.pairwise_cons.1 h
    have h2 := List.pairwise_cons.1 h1.2
    rw [List.dropWhile_cons] at hx
    split at hx
    · exact ih (List.pairwise_cons.2 ⟨fun z hz => h1.1 z (List.mem_cons_of_mem _ hz), h2.2⟩) x hx
    · rename_i hs
      have hy : hi y ≠ hi t := by simpa [same] using hs
      have h3 := h1.1 y (by simp)
      have h4 : y.toNat ≤ x.toNat := by
        rcases List.mem_cons.1 hx with rfl | hx
        · omega
        · have := h2.1 x hx; omega
      unfold hi at *; omega
set_option maxRecDepth 5000 in
theorem rising_sub {a b : List UInt16} (hs : a.Sublist b) (h : Rising b) : Rising a := h.sublist hs
set_option maxRecDepth 5000 in
theorem rising_rest (t : UInt16) (r : List UInt16) (h : Rising (t :: r)) : Rising (r.dropWhile (same t)) := rising_sub (List.dropWhile_sublist _) (List.pairwise_cons.1 h).2
set_option maxRecDepth 5000 in
theorem rising_take (t : UInt16) (r : List UInt16) (h : Rising (t :: r)) : Rising (t :: r.takeWhile (same t)) := rising_sub ((List.takeWhile_sublist _).cons_cons t) h
set_option maxRecDepth 5000 in
theorem take_hi (t : UInt16) (r : List UInt16) : ∀ x ∈ t :: r.takeWhile (same t), hi x = hi t := fun x hx => by
  rcases List.mem_cons.1 hx with rfl | hx
  · rfl
  · simpa [same] using takeWhile_mem r x hx
set_option maxRecDepth 5000 in
theorem rise_lo (t : UInt16) (l : List UInt16) (h : Rising l) (hh : ∀ x ∈ l, hi x = hi t) : Rise (l.map lo) := by
  unfold Rise; rw [List.pairwise_map]
  refine h.imp_of_mem fun {x y} hx hy hxy => ?_
  have h1 := hh x hx
  have h2 := hh y hy
  unfold hi at h1 h2; unfold lo; omega
set_option maxRecDepth 5000 in
theorem mk_lo (w : Nat) (l : List UInt16) (hh : ∀ x ∈ l, hi x = w) : (l.map lo).map (mk w) = l := by
  rw [List.map_map]
  conv => rhs; rw [← List.map_id l]
  refine List.map_congr_left fun x hx => ?_
  show mk w (lo x) = x
  rw [← hh x hx]; exact mk_eq x
set_option maxRecDepth 5000 in
theorem nat8 (n : Nat) (h : n < 256) : (UInt8.ofNat n).toNat = n := by rw [UInt8.toNat_ofNat']; omega
set_option maxRecDepth 5000 in
theorem opn_bmp (k : Nat) : ∀ (l : List UInt16) (least : Nat), l.length ≤ k → Rising l → (∀ t ∈ l, least ≤ hi t) → opn least (bmp l) = some l := by
  induction k with
  | zero => intro l least hl _ _; obtain rfl : l = [] := List.eq_nil_of_length_eq_zero (by omega); rw [bmp_nil, opn_nil]
  | succ k ih =>
    intro l least hl hr hh
    cases l with
    | nil => rw [bmp_nil, opn_nil]
    | cons t r =>
      rw [bmp_cons]
      have hps := rise_lo t _ (rising_take t r hr) (take_hi t r)
      have hml := mk_lo (hi t) _ (take_hi t r)
      have hne : (t :: r.takeWhile (same t)).map lo ≠ [] := by simp
      have hlt : ∀ p ∈ (t :: r.takeWhile (same t)).map lo, p < 256 := fun p hp => by
        obtain ⟨x, _, rfl⟩ := List.mem_map.1 hp; exact lo_lt x
      generalize (t :: r.takeWhile (same t)).map lo = ps at hps hml hne hlt ⊢
      have hsz := size_le ps hlt
      have hs0 : 0 < size ps := by unfold size; omega
      have hrow := row_len (size ps) ps
      unfold win
      rw [List.cons_append, List.cons_append, opn_two, nat8 _ (hi_lt t), nat8 _ (by omega)]
      rw [if_neg (by
        unfold bad
        rw [nat8 _ (hi_lt t), nat8 _ (by omega)]
        rintro (h | h | h | h | h)
        · have := hh t (by simp); omega
        · omega
        · omega
        · rw [List.length_append] at h; omega
        · rw [List.getD_eq_getElem?_getD, List.getElem?_append_left (by omega), ← List.getD_eq_getElem?_getD] at h
          exact row_last ps hne hps h)]
      rw [List.drop_left' hrow, List.take_left' hrow, ih _ _ (by have := drop_le t r; simp at hl; omega) (rising_rest t r hr) (rest_hi t r hr)]
      unfold typ
      rw [places_row _ _ hps (size_bound ps hps), hml, Option.map_some, List.cons_append, List.takeWhile_append_dropWhile]
set_option maxRecDepth 5000 in
theorem bmp_opn (k : Nat) : ∀ (b : List UInt8) (least : Nat) (m : List UInt16), b.length ≤ k → opn least b = some m → bmp m = b ∧ Rising m ∧ ∀ t ∈ m, least ≤ hi t := by
  induction k with
  | zero =>
    intro b least m hl h
    obtain rfl : b = [] := List.eq_nil_of_length_eq_zero (by omega)
    rw [opn_nil] at h; cases h; exact ⟨bmp_nil, List.Pairwise.nil, by simp⟩
  | succ k ih =>
    intro b least m hl h
    match b, hl, h with
    | [], _, h => rw [opn_nil] at h; cases h; exact ⟨bmp_nil, List.Pairwise.nil, by simp⟩
    | [_], _, h => rw [opn_one] at h; cases h
    | x :: n :: r, hl, h =>
      rw [opn_two] at h
      split at h
      · cases h
      · rename_i hg
        unfold bad at hg
        simp only [not_or] at hg
        obtain ⟨g1, g2, g3, g4, g5⟩ := hg
        obtain ⟨m', hm', rfl⟩ := Option.map_eq_some_iff.1 h
        obtain ⟨i1, i2, i3⟩ := ih _ _ _ (by rw [List.length_drop]; simp at hl; omega) hm'
        have hbl : (r.take n.toNat).length = n.toNat := by rw [List.length_take]; omega
        have hlast : (r.take n.toNat).getD ((r.take n.toNat).length - 1) 0 ≠ 0 := by
          rw [hbl, List.getD_eq_getElem?_getD, List.getElem?_take, if_pos (by omega), ← List.getD_eq_getElem?_getD]; exact g5
        obtain ⟨s1, s2⟩ := size_places _ (by omega) hlast
        have hx : x.toNat < 256 := x.toNat_lt
        have hpl : ∀ p ∈ places (r.take n.toNat), p < 256 := fun p hp => by have := ((mem_places _ p).1 hp).1; omega
        have hps := places_rise (r.take n.toNat)
        have hrow := row_places (r.take n.toNat)
        rw [hbl] at s1 hrow
        have htk : r.take n.toNat ++ r.drop n.toNat = r := List.take_append_drop _ _
        unfold typ
        generalize hP : places (r.take n.toNat) = ps at *
        cases ps with
        | nil => exact absurd rfl s2
        | cons p ps =>
          have hpp : ∀ q ∈ p :: ps, hi (mk x.toNat q) = x.toNat := fun q hq => hi_mk _ _ hx (hpl q hq)
          have hR : Rising ((p :: ps).map (mk x.toNat)) := by
            unfold Rising; rw [List.pairwise_map]
            refine hps.imp_of_mem fun {u v} hu hv huv => ?_
            rw [mk_nat _ _ hx (hpl u hu), mk_nat _ _ hx (hpl v hv)]; omega
          refine ⟨?_, ?_, ?_⟩
          · rw [List.map_cons, List.cons_append, bmp_cons]
            obtain ⟨t1, t2⟩ := takeWhile_all (p := same (mk x.toNat p)) (ps.map (mk x.toNat)) m' (fun y hy => by
              obtain ⟨q, hq, rfl⟩ := List.mem_map.1 hy
              simp only [same, decide_eq_true_eq]; rw [hpp q (List.mem_cons_of_mem _ hq), hpp p (by simp)]) (fun y hy => by
              simp only [same, decide_eq_false_iff_not]; rw [hpp p (by simp)]; have := i3 y hy; omega)
            rw [t1, t2, i1, hpp p (by simp), ← List.map_cons, List.map_map]
            have e : (p :: ps).map (lo ∘ mk x.toNat) = p :: ps := by
              conv => rhs; rw [← List.map_id (p :: ps)]
              exact List.map_congr_left fun q hq => lo_mk _ _ hx (hpl q hq)
            rw [e]
            unfold win
            rw [s1, hrow, UInt8.ofNat_toNat, UInt8.ofNat_toNat, List.cons_append, List.cons_append, htk]
          · unfold Rising
            rw [List.pairwise_append]
            refine ⟨hR, i2, fun u hu v hv => ?_⟩
            obtain ⟨q, hq, rfl⟩ := List.mem_map.1 hu
            have h1 := i3 v hv
            have h2 := hpl q hq
            rw [mk_nat _ _ hx h2]
            unfold hi at h1; omega
          · intro t ht
            rcases List.mem_append.1 ht with ht | ht
            · obtain ⟨q, hq, rfl⟩ := List.mem_map.1 ht
              rw [hpp q hq]; omega
            · have := i3 t ht; omega
end T
end Go.Proofs.YtdldaphkiphpnaaGreat

