/- Numbers in digits: a list of digits as one number; digits of k bits and bytes that stand for the same bits. Plain arithmetic, of no program. -/
import Derived.KernelRfl
namespace Go.Proofs.YtgmjppmcfmcmkaaDoor.B
/- the number that the digits l, to the base q, stand for, behind a -/
def val (q : Nat) (a : Nat) : List Nat → Nat
  | [] => a
  | d :: l => val q (a * q + d) l
set_option maxRecDepth 5000 in
theorem val_app (q : Nat) : ∀ (l m : List Nat) (a : Nat), val q a (l ++ m) = val q (val q a l) m
  | [], _, _ => rfl
  | d :: l, m, a => val_app q l m (a * q + d)
set_option maxRecDepth 5000 in
theorem val_snoc (q a : Nat) (l : List Nat) (d : Nat) : val q a (l ++ [d]) = val q a l * q + d := by rw [val_app]; rfl
set_option maxRecDepth 5000 in
theorem val_lin (q : Nat) : ∀ (l : List Nat) (a : Nat), val q a l = a * q ^ l.length + val q 0 l
  | [], a => by simp [val]
  | d :: l, a => by
    simp only [val, List.length_cons, Nat.zero_mul, Nat.zero_add]
    rw [val_lin q l (a * q + d), val_lin q l d, Nat.add_mul, Nat.pow_succ, Nat.mul_assoc, Nat.mul_comm q, Nat.add_assoc]
set_option maxRecDepth 5000 in
theorem val_lt (q : Nat) : ∀ (l : List Nat), (∀ d ∈ l, d < q) → val q 0 l < q ^ l.length
  | [], _ => by simp [val]
  | d :: l, h => by
    have h1 := val_lt q l (fun x hx => h x (by simp [hx]))
    have h2 := h d (by simp)
    simp only [val, Nat.zero_mul, Nat.zero_add, List.length_cons]
    rw [val_lin]
    have h3 : (d + 1) * q ^ l.length ≤ q * q ^ l.length := Nat.mul_le_mul_right _ h2
    rw [Nat.add_mul, Nat.one_mul] at h3
    rw [Nat.pow_succ, Nat.mul_comm _ q]
    omega
set_option maxRecDepth 5000 in
theorem val_zeros (q : Nat) : ∀ n, val q 0 (List.replicate n 0) = 0
  | 0 => rfl
  | n + 1 => by simp only [List.replicate_succ, val, Nat.zero_mul, Nat.zero_add]; exact val_zeros q n
/- the order of two lists -/
def lex : List Nat → List Nat → Bool
  | [], [] => false
  | [], _ :: _ => true
  | _ :: _, [] => false
  | a :: l, b :: m => if a < b then true else if a = b then lex l m else false
set_option maxRecDepth 5000 in
theorem lex_val (q : Nat) : ∀ (l m : List Nat), l.length = m.length → (∀ d ∈ l, d < q) → (∀ d ∈ m, d < q) → (lex l m = true ↔ val q 0 l < val q 0 m)
  | [], [], _, _, _ => by simp [lex, val]
  | a :: l, b :: m, hl, h1, h2 => by
    have hlm : l.length = m.length := by simpa using hl
    have ih := lex_val q l m hlm (fun x hx => h1 x (by simp [hx])) (fun x hx => h2 x (by simp [hx]))
    have b1 := val_lt q l (fun x hx => h1 x (by simp [hx]))
    have b2 := val_lt q m (fun x hx => h2 x (by simp [hx]))
    simp only [lex, val, Nat.zero_mul, Nat.zero_add]
    rw [val_lin q l a, val_lin q m b, ← hlm] at *
    by_cases hab : a < b
    · have h3 : (a + 1) * q ^ l.length ≤ b * q ^ l.length := Nat.mul_le_mul_right _ hab
      rw [Nat.add_mul, Nat.one_mul] at h3
      simp only [hab, if_true, true_iff]
      omega
    · rw [if_neg hab]
      by_cases he : a = b
      · subst he
        simp only [if_true]
        rw [ih]; omega
      · rw [if_neg he]
        have h3 : (b + 1) * q ^ l.length ≤ a * q ^ l.length := Nat.mul_le_mul_right _ (by omega)
        rw [Nat.add_mul, Nat.one_mul] at h3
        simp only [Bool.false_eq_true, false_iff]
        omega
set_option maxRecDepth 5000 in
theorem val_inj (q : Nat) : ∀ (l m : List Nat), l.length = m.length → (∀ d ∈ l, d < q) → (∀ d ∈ m, d < q) → val q 0 l = val q 0 m → l = m
  | [], [], _, _, _, _ => rfl
  | a :: l, b :: m, hl, h1, h2, hv => by
    have hlm : l.length = m.length := by simpa using hl
    have b1 := val_lt q l (fun x hx => h1 x (by simp [hx]))
    have b2 := val_lt q m (fun x hx => h2 x (by simp [hx]))
    simp only [val, Nat.zero_mul, Nat.zero_add] at hv
    rw [val_lin q l a, val_lin q m b, ← hlm] at hv
    rw [← hlm] at b2
    have hab : a = b := by
      rcases Nat.lt_trichotomy a b with h | h | h
      · have h3 : (a + 1) * q ^ l.length ≤ b * q ^ l.length := Nat.mul_le_mul_right _ h
        rw [Nat.add_mul, Nat.one_mul] at h3
        omega
      · exact h
      · have h3 : (b + 1) * q ^ l.length ≤ a * q ^ l.length := Nat.mul_le_mul_right _ h
        rw [Nat.add_mul, Nat.one_mul] at h3
        omega
    subst hab
    rw [val_inj q l m hlm (fun x hx => h1 x (by simp [hx])) (fun x hx => h2 x (by simp [hx])) (by omega)]
/- bytes, as numbers -/
def nat (l : List UInt8) : List Nat := l.map (·.toNat)
set_option maxRecDepth 5000 in
theorem nat_len (l : List UInt8) : (nat l).length = l.length := by simp [nat]
set_option maxRecDepth 5000 in
theorem nat_lt (l : List UInt8) : ∀ d ∈ nat l, d < 256 := fun d hd => by
  simp only [nat, List.mem_map] at hd
  obtain ⟨x, _, rfl⟩ := hd
  exact x.toNat_lt
set_option maxRecDepth 5000 in
theorem nat_app (l m : List UInt8) : nat (l ++ m) = nat l ++ nat m := by simp [nat]
set_option maxRecDepth 5000 in
theorem nat_inj : ∀ {l m : List UInt8}, nat l = nat m → l = m
  | [], [], _ => rfl
  | [], _ :: _, h => by simp [nat] at h
  | _ :: _, [], h => by simp [nat] at h
  | a :: l, b :: m, h => by
    simp only [nat, List.map_cons, List.cons.injEq] at h
    rw [UInt8.toNat_inj.1 h.1, nat_inj h.2]
/- the digits D, of k bits each, are those of the bytes b, filled up with noughts -/
def Rel (k : Nat) (b : List UInt8) (D : List Nat) : Prop := ∃ p, p < k ∧ k * D.length = 8 * b.length + p ∧ val (2 ^ k) 0 D = val 256 0 (nat b) * 2 ^ p
set_option maxRecDepth 5000 in
theorem Rel.bytes {k : Nat} (hk : k ≤ 8) {b c : List UInt8} {D : List Nat} (h : Rel k b D) (h' : Rel k c D) : b = c := by
  obtain ⟨p, hp, hl, hv⟩ := h
  obtain ⟨p', hp', hl', hv'⟩ := h'
  obtain rfl : p = p' := by omega
  refine nat_inj (val_inj 256 _ _ (by simp only [nat_len]; omega) (nat_lt b) (nat_lt c) ?_)
  rw [hv] at hv'
  exact Nat.eq_of_mul_eq_mul_right (Nat.two_pow_pos p) hv'
set_option maxRecDepth 5000 in
theorem len_of {k n m a p p' : Nat} (hp : p < k) (hp' : p' < k) (h : k * n = 8 * a + p) (h' : k * m = 8 * a + p') : n = m ∧ p = p' := by
  have e1 : n = m := by
    rcases Nat.lt_trichotomy n m with h1 | h1 | h1
    · have h2 : k * (n + 1) ≤ k * m := Nat.mul_le_mul_left _ h1
      rw [Nat.mul_add, Nat.mul_one] at h2; omega
    · exact h1
    · have h2 : k * (m + 1) ≤ k * n := Nat.mul_le_mul_left _ h1
      rw [Nat.mul_add, Nat.mul_one] at h2; omega
  subst e1
  exact ⟨rfl, by omega⟩
set_option maxRecDepth 5000 in
theorem Rel.digits {k : Nat} {b : List UInt8} {D E : List Nat} (h : Rel k b D) (h' : Rel k b E) (hD : ∀ d ∈ D, d < 2 ^ k) (hE : ∀ d ∈ E, d < 2 ^ k) : D = E := by
  obtain ⟨p, hp, hl, hv⟩ := h
  obtain ⟨p', hp', hl', hv'⟩ := h'
  obtain ⟨e1, rfl⟩ := len_of hp hp' hl hl'
  exact val_inj (2 ^ k) D E e1 hD hE (by rw [hv, hv'])
set_option maxRecDepth 5000 in
theorem Rel.order {k : Nat} {b c : List UInt8} {D E : List Nat} (h : Rel k b D) (h' : Rel k c E) (hbc : b.length = c.length) (hD : ∀ d ∈ D, d < 2 ^ k) (hE : ∀ d ∈ E, d < 2 ^ k) : lex D E = lex (nat b) (nat c) := by
  obtain ⟨p, hp, hl, hv⟩ := h
  obtain ⟨p', hp', hl', hv'⟩ := h'
  obtain ⟨e1, rfl⟩ := len_of (a := b.length) hp hp' hl (by rw [hbc]; exact hl')
  have h1 := lex_val (2 ^ k) D E e1 hD hE
  have h2 := lex_val 256 (nat b) (nat c) (by simp only [nat_len]; exact hbc) (nat_lt b) (nat_lt c)
  rw [hv, hv', Nat.mul_lt_mul_right (Nat.two_pow_pos p), ← h2] at h1
  rcases e : lex D E <;> rcases f : lex (nat b) (nat c) <;> simp_all
/- what is written so far: the bytes b are the digits D and the c bits h -/
def Enc (k : Nat) (b : List UInt8) (D : List Nat) (c h : Nat) : Prop := (∀ d ∈ D, d < 2 ^ k) ∧ h < 2 ^ c ∧ 8 * b.length = k * D.length + c ∧ val 256 0 (nat b) = val (2 ^ k) 0 D * 2 ^ c + h
set_option maxRecDepth 5000 in
theorem Enc.zero (k : Nat) : Enc k [] [] 0 0 := ⟨by simp, by simp, by simp, by simp [val, nat]⟩
set_option maxRecDepth 5000 in
theorem Enc.byte {k : Nat} {b : List UInt8} {D : List Nat} {c h : Nat} (e : Enc k b D c h) (x : UInt8) : Enc k (b ++ [x]) D (c + 8) (h * 256 + x.toNat) := by
  obtain ⟨h1, h2, h3, h4⟩ := e
  have hx := x.toNat_lt
  refine ⟨h1, ?_, ?_, ?_⟩
  · rw [Nat.pow_add]
    have : (h + 1) * 256 ≤ 2 ^ c * 256 := Nat.mul_le_mul_right _ h2
    omega
  · simp; omega
  · rw [nat_app, show nat [x] = [x.toNat] from rfl, val_snoc, h4, Nat.pow_add, Nat.add_mul, Nat.mul_assoc, show (2 : Nat) ^ 8 = 256 from rfl]; omega
set_option maxRecDepth 5000 in
theorem Enc.digit {k : Nat} {b : List UInt8} {D : List Nat} {c h : Nat} (e : Enc k b D (c + k) h) : Enc k b (D ++ [h / 2 ^ c]) c (h % 2 ^ c) := by
  obtain ⟨h1, h2, h3, h4⟩ := e
  have hc := Nat.two_pow_pos c
  refine ⟨?_, Nat.mod_lt _ hc, ?_, ?_⟩
  · intro d hd
    rcases List.mem_append.1 hd with hd | hd
    · exact h1 d hd
    · rw [List.mem_singleton] at hd; subst hd
      rw [Nat.pow_add, Nat.mul_comm] at h2
      exact Nat.div_lt_of_lt_mul (by rw [Nat.mul_comm]; exact h2)
  · rw [List.length_append, List.length_singleton, Nat.mul_add]; omega
  · rw [val_snoc, h4, Nat.pow_add, Nat.add_mul, Nat.mul_assoc, Nat.mul_comm (2 ^ k) (2 ^ c), Nat.add_assoc, Nat.mul_comm (h / 2 ^ c), Nat.div_add_mod]
set_option maxRecDepth 5000 in
theorem Enc.done0 {k : Nat} (hk : 0 < k) {b : List UInt8} {D : List Nat} {h : Nat} (e : Enc k b D 0 h) : Rel k b D := by
  obtain ⟨h1, h2, h3, h4⟩ := e
  exact ⟨0, hk, by omega, by simp at h2 ⊢; subst h2; rw [h4]; simp⟩
set_option maxRecDepth 5000 in
theorem Enc.last {k : Nat} {b : List UInt8} {D : List Nat} {c h : Nat} (e : Enc k b D c h) (h0 : 0 < c) (hc : c ≤ k) : Rel k b (D ++ [h * 2 ^ (k - c)]) ∧ ∀ d ∈ D ++ [h * 2 ^ (k - c)], d < 2 ^ k := by
  obtain ⟨h1, h2, h3, h4⟩ := e
  have hp : 2 ^ k = 2 ^ c * 2 ^ (k - c) := by rw [← Nat.pow_add]; congr 1; omega
  refine ⟨⟨k - c, by omega, ?_, ?_⟩, ?_⟩
  · rw [List.length_append, List.length_singleton, Nat.mul_add]; omega
  · rw [val_snoc, h4, Nat.add_mul, Nat.mul_assoc, ← hp]
  · intro d hd
    rcases List.mem_append.1 hd with hd | hd
    · exact h1 d hd
    · rw [List.mem_singleton] at hd; subst hd
      rw [hp]
      exact Nat.mul_lt_mul_of_pos_right h2 (Nat.two_pow_pos _)
/- what is read so far: the digits D are the bytes b and the c bits h -/
def Dec (k : Nat) (D : List Nat) (b : List UInt8) (c h : Nat) : Prop := h < 2 ^ c ∧ k * D.length = 8 * b.length + c ∧ val (2 ^ k) 0 D = val 256 0 (nat b) * 2 ^ c + h
set_option maxRecDepth 5000 in
theorem Dec.zero (k : Nat) : Dec k [] [] 0 0 := ⟨by simp, by simp, by simp [val, nat]⟩
set_option maxRecDepth 5000 in
theorem Dec.digit {k : Nat} {D : List Nat} {b : List UInt8} {c h : Nat} (e : Dec k D b c h) (d : Nat) (hd : d < 2 ^ k) : Dec k (D ++ [d]) b (c + k) (h * 2 ^ k + d) := by
  obtain ⟨h2, h3, h4⟩ := e
  refine ⟨?_, ?_, ?_⟩
  · rw [Nat.pow_add]
    have : (h + 1) * 2 ^ k ≤ 2 ^ c * 2 ^ k := Nat.mul_le_mul_right _ h2
    rw [Nat.add_mul, Nat.one_mul] at this
    omega
  · rw [List.length_append, List.length_singleton, Nat.mul_add]; omega
  · rw [val_snoc, h4, Nat.pow_add, Nat.add_mul, Nat.mul_assoc]; omega
set_option maxRecDepth 5000 in
theorem Dec.byte {k : Nat} {D : List Nat} {b : List UInt8} {c h : Nat} (e : Dec k D b (c + 8) h) : h / 2 ^ c < 256 ∧ ∀ x : UInt8, x.toNat = h / 2 ^ c → Dec k D (b ++ [x]) c (h % 2 ^ c) := by
  obtain ⟨h2, h3, h4⟩ := e
  have hc := Nat.two_pow_pos c
  refine ⟨?_, fun x hx => ⟨Nat.mod_lt _ hc, ?_, ?_⟩⟩
  · rw [Nat.pow_add] at h2
    exact Nat.div_lt_of_lt_mul h2
  · rw [List.length_append, List.length_singleton, Nat.mul_add]; omega
  · rw [nat_app, show nat [x] = [x.toNat] from rfl, val_snoc, h4, hx, Nat.pow_add, Nat.add_mul, Nat.mul_assoc, show (2 : Nat) ^ 8 = 256 from rfl, Nat.mul_comm 256 (2 ^ c), Nat.add_assoc, Nat.mul_comm (h / 2 ^ c), Nat.div_add_mod]
set_option maxRecDepth 5000 in
theorem Dec.good {k : Nat} {D : List Nat} {b : List UInt8} {c : Nat} (e : Dec k D b c 0) (hc : c < k) : Rel k b D := by
  obtain ⟨_, h3, h4⟩ := e
  exact ⟨c, hc, h3, by rw [h4, Nat.add_zero]⟩
set_option maxRecDepth 5000 in
theorem low_of {a b c : Nat} (h : b < c) : (a * c + b) % c = b := by rw [Nat.mul_comm, Nat.mul_add_mod, Nat.mod_eq_of_lt h]
set_option maxRecDepth 5000 in
theorem Dec.bad {k : Nat} (hk : k ≤ 8) {D : List Nat} {b : List UInt8} {c h : Nat} (e : Dec k D b c h) (h8 : c < 8) (hc : k ≤ c ∨ h ≠ 0) (b' : List UInt8) : ¬ Rel k b' D := by
  rintro ⟨p, hp, hl, hv⟩
  obtain ⟨h2, h3, h4⟩ := e
  obtain rfl : p = c := by omega
  rcases hc with hc | hc
  · omega
  · apply hc
    have h5 : (val 256 0 (nat b) * 2 ^ p + h) % 2 ^ p = (val 256 0 (nat b') * 2 ^ p) % 2 ^ p := by rw [← h4, hv]
    rw [Nat.mul_mod_left, low_of h2] at h5
    exact h5
end Go.Proofs.YtgmjppmcfmcmkaaDoor.B
