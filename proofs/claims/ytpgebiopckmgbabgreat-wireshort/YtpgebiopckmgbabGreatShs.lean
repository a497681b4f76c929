/- Short messages, plain: how long the first records are that were counted; where sets end. -/
import Derived.Test.YtpgebiopckmgbabGreatShn
import Derived.Test.YtpgebiopckmgbabGreatRcq
import Derived.Test.YtpgebiopckmgbabGreatFla
namespace Go.Proofs.YtpgebiopckmgbabGreat
namespace M
set_option maxRecDepth 5000 in
theorem wname_same : ∀ (n : List (List UInt8)) (mp : List UInt8 → Option Nat) (o1 o2 : List UInt8), o1.length = o2.length → (wname n mp o1).1 = (wname n mp o2).1 ∧ (wname n mp o1).2.length = (wname n mp o2).2.length
  | [], mp, o1, o2, h => ⟨rfl, by simp [wname, h]⟩
  | l :: r, mp, o1, o2, h => by
    unfold wname
    cases mp (N.wire (l :: r)) with
    | some p => exact ⟨rfl, by simp [h]⟩
    | none =>
      show (wname r (if o1.length < 16384 then _ else _) _).1 = _ ∧ _
      rw [h]
      exact wname_same r _ _ _ (by simp [h])
set_option maxRecDepth 5000 in
theorem wrec_same (x : R) (mp : List UInt8 → Option Nat) (o1 o2 : List UInt8) (h : o1.length = o2.length) : (wrec x mp o1).1 = (wrec x mp o2).1 ∧ (wrec x mp o1).2.length = (wrec x mp o2).2.length := by
  obtain ⟨h1, h2⟩ := wname_same x.name mp o1 o2 h
  refine ⟨h1, ?_⟩
  simp only [wrec, List.length_append, h2]
/- the first k records of those that had room within lim bytes, behind a header of the same length -/
set_option maxRecDepth 5000 in
theorem wrs_first (lim : Int) (hlim : lim ≤ 65535) : ∀ (l : List R) (mp : List UInt8 → Option Nat) (o1 o2 : List UInt8) (k : Nat), o1.length = o2.length → (o1.length : Int) ≤ lim → k ≤ (wrs lim l mp o1).2.2 → ((wrs 65535 (l.take k) mp o2).2.1.length : Int) ≤ lim
  | [], mp, o1, o2, k, h, h1, _ => by
    simp only [List.take_nil, wrs]; rw [← h]; exact h1
  | x :: r, mp, o1, o2, 0, h, h1, _ => by
    simp only [List.take_zero, wrs]; rw [← h]; exact h1
  | x :: r, mp, o1, o2, k + 1, h, h1, hk => by
    obtain ⟨e1, e2⟩ := wrec_same x mp o1 o2 h
    unfold wrs at hk
    by_cases hc : lim < ((wrec x mp o1).2.length : Int)
    · rw [if_pos hc] at hk; exact absurd hk (Nat.not_succ_le_zero k)
    · rw [if_neg hc] at hk
      have hk' : k ≤ (wrs lim r (wrec x mp o1).1 (wrec x mp o1).2).2.2 := Nat.le_of_succ_le_succ hk
      have ih := wrs_first lim hlim r (wrec x mp o1).1 (wrec x mp o1).2 (wrec x mp o2).2 k e2 (by omega) hk'
      rw [e1] at ih
      simp only [List.take_succ_cons]
      unfold wrs
      rw [if_neg (by omega)]
      exact ih
/- where the first ones are neither none nor all, the last that is kept and the next are of two sets -/
set_option maxRecDepth 5000 in
theorem keep_ends (l : List R) : ∀ c, 0 < keep l c → keep l c < l.length → N.same (nmAt l (keep l c - 1)) (nmAt l (keep l c)) = false
  | 0, h, _ => absurd h (Nat.lt_irrefl 0)
  | c + 1, h, hl => by
    unfold keep at h hl ⊢
    split
    · rename_i hs
      rw [if_pos hs] at h hl
      exact keep_ends l c h hl
    · rename_i hs
      rw [if_neg hs] at hl
      cases hN : N.same (nmAt l (c + 1 - 1)) (nmAt l (c + 1)) with
      | false => rfl
      | true => exact absurd ⟨hl, hN⟩ hs
end M
end Go.Proofs.YtpgebiopckmgbabGreat

/- Names of one letter, written and read again, plain. -/
namespace Go.Proofs.YtpgebiopckmgbabGreat
namespace M
set_option maxRecDepth 5000 in
theorem by_pre {a b : List UInt8} (h : a <+: b) {p : Nat} (hp : p < a.length) : by_ b p = by_ a p := by
  obtain ⟨t, rfl⟩ := h
  simp [by_, List.getElem?_append_left hp]
set_option maxRecDepth 5000 in
theorem by_at (a : List UInt8) (x : UInt8) (t : List UInt8) : by_ (a ++ x :: t) a.length = x.toNat := by
  simp [by_]
set_option maxRecDepth 5000 in
theorem wn_one1 {b : List UInt8} {p : Nat} {ch : UInt8} (hp : p + 3 ≤ b.length) (h : by_ b p = 1) (h1 : by_ b (p + 1) = ch.toNat) (h2 : by_ b (p + 2) = 0) : wn b p p [] = some ([[ch]], p + 3) := by
  have hl : (lab b p).length = 1 := by rw [lab_len (by omega), h]
  have he : lab b p = [ch] := by
    unfold lab
    rw [h, List.drop_eq_getElem_cons (by omega)]
    have h3 : b[p + 1].toNat = ch.toNat := by
      rw [← h1]; simp [by_, List.getElem?_eq_getElem (show p + 1 < b.length by omega)]
    simp [UInt8.toNat_inj.1 h3]
  rw [wn, dif_neg (by omega), if_neg (by omega), if_neg (by omega), dif_neg (by omega), if_neg (by rw [size_more]; simp [N.size, hl]), h]
  rw [wn, dif_neg (by omega), if_pos (by rw [show p + 1 + 1 = p + 2 by omega]; exact h2), he]
  rfl
set_option maxRecDepth 5000 in
theorem wn_ptr1 {b : List UInt8} {p q e : Nat} {nm : List (List UInt8)} (hp : p + 2 ≤ b.length) (hq : q < 16384) (h : by_ b p = (49152 + q) / 256) (h2 : by_ b (p + 1) = q % 256) (hqp : q < p) (hn : wn b q q [] = some (nm, e)) : wn b p p [] = some (nm, p + 2) := by
  have hpl : plc b p = q := by unfold plc; rw [h, h2]; omega
  rw [wn, dif_neg (by omega), if_neg (by omega), if_pos (by omega), if_neg (by omega), dif_neg (by omega), hpl, hn]
  rfl
/- what the map says of names of one letter is written so -/
def Ones1 (mp : List UInt8 → Option Nat) (out : List UInt8) : Prop := ∀ (ch : UInt8) (p : Nat), mp [1, ch, 0] = some p → p < 16384 ∧ p + 3 ≤ out.length ∧ by_ out p = 1 ∧ by_ out (p + 1) = ch.toNat ∧ by_ out (p + 2) = 0
set_option maxRecDepth 5000 in
theorem Ones1.pre {mp : List UInt8 → Option Nat} {a b : List UInt8} (h : Ones1 mp a) (hp : a <+: b) : Ones1 mp b := by
  intro ch p e
  obtain ⟨h1, h2, h3, h4, h5⟩ := h ch p e
  have hl := hp.length_le
  exact ⟨h1, by omega, (by_pre hp (by omega)).trans h3, (by_pre hp (by omega)).trans h4, (by_pre hp (by omega)).trans h5⟩
set_option maxRecDepth 5000 in
theorem wname_one (ch : UInt8) (mp : List UInt8 → Option Nat) (out : List UInt8) (h : Ones1 mp out) (hl : out.length < 16384) :
    out <+: (wname [[ch]] mp out).2 ∧ Ones1 (wname [[ch]] mp out).1 (wname [[ch]] mp out).2 ∧ ∀ b, (wname [[ch]] mp out).2 <+: b → wn b out.length out.length [] = some ([[ch]], (wname [[ch]] mp out).2.length) := by
  have hw : N.wire [[ch]] = [1, ch, 0] := rfl
  cases hm : mp [1, ch, 0] with
  | some p =>
    have e : wname [[ch]] mp out = (mp, out ++ D.p16 (49152 + p)) := by unfold wname; rw [hw, hm]
    obtain ⟨h1, h2, h3, h4, h5⟩ := h ch p hm
    rw [e]
    dsimp only
    have hpre : out <+: out ++ D.p16 (49152 + p) := List.prefix_append _ _
    refine ⟨hpre, h.pre hpre, fun b hb => ?_⟩
    have hob := hpre.trans hb
    have hlb := hb.length_le
    have hl2 : (out ++ D.p16 (49152 + p)).length = out.length + 2 := by simp [D.p16]
    rw [hl2] at hlb ⊢
    have a1 : by_ (out ++ D.p16 (49152 + p)) out.length = (49152 + p) / 256 := by
      unfold D.p16; rw [by_at, UInt8.toNat_ofNat']; omega
    have a2 : by_ (out ++ D.p16 (49152 + p)) (out.length + 1) = p % 256 := by
      have := by_at (out ++ [UInt8.ofNat ((49152 + p) / 256)]) (UInt8.ofNat (49152 + p)) []
      simp only [List.append_assoc, List.singleton_append, List.length_append, List.length_cons, List.length_nil] at this
      unfold D.p16
      rw [this, UInt8.toNat_ofNat']; omega
    have r0 := wn_one1 (b := b) (p := p) (ch := ch) (by omega) ((by_pre hob (by omega)).trans h3) ((by_pre hob (by omega)).trans h4) ((by_pre hob (by omega)).trans h5)
    exact wn_ptr1 (by omega) h1 ((by_pre hb (by omega)).trans a1) ((by_pre hb (by omega)).trans a2) (by omega) r0
  | none =>
    have e : wname [[ch]] mp out = (wput mp [1, ch, 0] out.length, out ++ [1, ch] ++ [0]) := by
      unfold wname; rw [hw, hm]
      simp only [if_pos hl, wname]
      rfl
    rw [e]
    dsimp only
    have e3 : out ++ [1, ch] ++ [0] = out ++ [1, ch, 0] := by simp
    rw [e3]
    have hpre : out <+: out ++ [1, ch, 0] := List.prefix_append _ _
    have hl3 : (out ++ [1, ch, 0]).length = out.length + 3 := by simp
    have a0 : by_ (out ++ [1, ch, 0]) out.length = 1 := by_at _ _ _
    have a1 : by_ (out ++ [1, ch, 0]) (out.length + 1) = ch.toNat := by
      have := by_at (out ++ [1]) ch [0]
      simpa using this
    have a2 : by_ (out ++ [1, ch, 0]) (out.length + 2) = 0 := by
      have := by_at (out ++ [1, ch]) 0 []
      simpa using this
    refine ⟨hpre, ?_, fun b hb => ?_⟩
    · intro c2 p hp
      unfold wput at hp
      split at hp
      · rename_i hc
        have hp' := Option.some.inj hp
        subst hp'
        have hcc : c2 = ch := by simpa using hc
        subst hcc
        exact ⟨hl, by omega, a0, a1, a2⟩
      · exact h.pre hpre c2 p hp
    · have hlb := hb.length_le
      rw [hl3] at hlb ⊢
      exact wn_one1 (by omega) ((by_pre hb (by omega)).trans a0) ((by_pre hb (by omega)).trans a1) ((by_pre hb (by omega)).trans a2)
end M
end Go.Proofs.YtpgebiopckmgbabGreat

/- Records of one-letter names, written and read again, plain. -/
namespace Go.Proofs.YtpgebiopckmgbabGreat
namespace M
def RecAt (b : List UInt8) (q q' : Nat) (x : R) : Prop := ∃ e, wn b q q [] = some (x.name, e) ∧ v16 b e = x.type ∧ v16 b (e + 2) = x.cls ∧ v32 b (e + 4) = x.ttl ∧ v16 b (e + 8) = x.data.length ∧ (b.drop (e + 10)).take x.data.length = x.data ∧ q' = e + 10 + x.data.length ∧ q' ≤ b.length
def R.One (x : R) : Prop := (∃ ch, x.name = [[ch]]) ∧ x.type < 65536 ∧ x.cls < 65536 ∧ x.ttl < 4294967296 ∧ x.data.length < 65536
set_option maxRecDepth 5000 in
theorem p16_at {a b : List UInt8} {n p : Nat} (h : a ++ D.p16 n <+: b) (hn : n < 65536) (hp : p = a.length) : v16 b p = n := by
  subst hp
  have hl : (a ++ D.p16 n).length = a.length + 2 := by simp [D.p16]
  have a1 : by_ (a ++ D.p16 n) a.length = (UInt8.ofNat (n / 256)).toNat := by unfold D.p16; rw [by_at]
  have a2 : by_ (a ++ D.p16 n) (a.length + 1) = (UInt8.ofNat n).toNat := by
    have := by_at (a ++ [UInt8.ofNat (n / 256)]) (UInt8.ofNat n) []
    simp only [List.append_assoc, List.singleton_append, List.length_append, List.length_cons, List.length_nil] at this
    unfold D.p16
    exact this
  unfold v16
  rw [by_pre h (by omega), by_pre h (by omega), a1, a2, UInt8.toNat_ofNat', UInt8.toNat_ofNat']
  omega
set_option maxRecDepth 5000 in
theorem wrec_one (x : R) (hx : x.One) (mp : List UInt8 → Option Nat) (out : List UInt8) (h : Ones1 mp out) (hl : out.length < 16384) :
    out <+: (wrec x mp out).2 ∧ Ones1 (wrec x mp out).1 (wrec x mp out).2 ∧ ∀ b, (wrec x mp out).2 <+: b → RecAt b out.length (wrec x mp out).2.length x := by
  obtain ⟨⟨ch, hch⟩, ht, hc, htt, hd⟩ := hx
  obtain ⟨n1, n2, n3⟩ := wname_one ch mp out h hl
  rw [← hch] at n1 n2 n3
  unfold wrec
  dsimp only
  generalize (wname x.name mp out).2 = N at n1 n2 n3 ⊢
  generalize (wname x.name mp out).1 = mp' at n2 ⊢
  have p6 : N ++ D.p16 x.type ++ D.p16 x.cls ++ D.p16 (x.ttl / 65536) ++ D.p16 (x.ttl % 65536) ++ D.p16 x.data.length <+: N ++ D.p16 x.type ++ D.p16 x.cls ++ D.p16 (x.ttl / 65536) ++ D.p16 (x.ttl % 65536) ++ D.p16 x.data.length ++ x.data := List.prefix_append _ _
  have p5 : N ++ D.p16 x.type ++ D.p16 x.cls ++ D.p16 (x.ttl / 65536) ++ D.p16 (x.ttl % 65536) <+: N ++ D.p16 x.type ++ D.p16 x.cls ++ D.p16 (x.ttl / 65536) ++ D.p16 (x.ttl % 65536) ++ D.p16 x.data.length ++ x.data := (List.prefix_append _ _).trans p6
  have p4 : N ++ D.p16 x.type ++ D.p16 x.cls ++ D.p16 (x.ttl / 65536) <+: N ++ D.p16 x.type ++ D.p16 x.cls ++ D.p16 (x.ttl / 65536) ++ D.p16 (x.ttl % 65536) ++ D.p16 x.data.length ++ x.data := (List.prefix_append _ _).trans p5
  have p3 : N ++ D.p16 x.type ++ D.p16 x.cls <+: N ++ D.p16 x.type ++ D.p16 x.cls ++ D.p16 (x.ttl / 65536) ++ D.p16 (x.ttl % 65536) ++ D.p16 x.data.length ++ x.data := (List.prefix_append _ _).trans p4
  have p2 : N ++ D.p16 x.type <+: N ++ D.p16 x.type ++ D.p16 x.cls ++ D.p16 (x.ttl / 65536) ++ D.p16 (x.ttl % 65536) ++ D.p16 x.data.length ++ x.data := (List.prefix_append _ _).trans p3
  have p1 : N <+: N ++ D.p16 x.type ++ D.p16 x.cls ++ D.p16 (x.ttl / 65536) ++ D.p16 (x.ttl % 65536) ++ D.p16 x.data.length ++ x.data := (List.prefix_append _ _).trans p2
  have hlen : (N ++ D.p16 x.type ++ D.p16 x.cls ++ D.p16 (x.ttl / 65536) ++ D.p16 (x.ttl % 65536) ++ D.p16 x.data.length ++ x.data).length = N.length + 10 + x.data.length := by simp only [List.length_append, p16_len]
  refine ⟨n1.trans p1, n2.pre p1, fun b hb => ?_⟩
  refine ⟨N.length, n3 b (p1.trans hb), p16_at (p2.trans hb) ht rfl, p16_at (p3.trans hb) hc (by simp only [List.length_append, p16_len]), ?_, p16_at (p6.trans hb) hd (by simp only [List.length_append, p16_len]), ?_, hlen, hb.length_le⟩
  · have e1 : v16 b (N.length + 4) = x.ttl / 65536 := p16_at (p4.trans hb) (by omega) (by simp only [List.length_append, p16_len])
    have e2 : v16 b (N.length + 4 + 2) = x.ttl % 65536 := p16_at (p5.trans hb) (by omega) (by simp only [List.length_append, p16_len])
    unfold v32
    rw [e1, e2]; omega
  · obtain ⟨t, rfl⟩ := hb
    have h10 : (N ++ D.p16 x.type ++ D.p16 x.cls ++ D.p16 (x.ttl / 65536) ++ D.p16 (x.ttl % 65536) ++ D.p16 x.data.length).length = N.length + 10 := by simp only [List.length_append, p16_len]
    rw [List.append_assoc _ x.data t, List.drop_left' h10, List.take_left' rfl]
set_option maxRecDepth 5000 in
theorem wname_grows : ∀ (n : List (List UInt8)) (mp : List UInt8 → Option Nat) (out : List UInt8), out.length ≤ (wname n mp out).2.length
  | [], mp, out => by simp [wname]
  | l :: r, mp, out => by
    unfold wname
    cases mp (N.wire (l :: r)) with
    | some p => simp
    | none =>
      refine Nat.le_trans ?_ (wname_grows r _ _)
      simp
set_option maxRecDepth 5000 in
theorem wrec_grows (x : R) (mp : List UInt8 → Option Nat) (out : List UInt8) : out.length ≤ (wrec x mp out).2.length := by
  have h := wname_grows x.name mp out
  simp only [wrec, List.length_append]; omega
set_option maxRecDepth 5000 in
theorem wrs_long (lim : Int) : ∀ (l : List R) (mp : List UInt8 → Option Nat) (out : List UInt8), out.length ≤ (wrs lim l mp out).2.1.length
  | [], mp, out => Nat.le_refl _
  | x :: r, mp, out => by
    have h := wrec_grows x mp out
    unfold wrs
    split
    · exact h
    · exact Nat.le_trans h (wrs_long lim r _ _)
set_option maxRecDepth 5000 in
theorem wrs_grows (y : R) (r : List R) (mp : List UInt8 → Option Nat) (out : List UInt8) (hl : (wrs 65535 (y :: r) mp out).2.1.length < 16384) : (wrs 65535 (y :: r) mp out).2.1 = (wrs 65535 r (wrec y mp out).1 (wrec y mp out).2).2.1 ∧ (wrec y mp out).2.length < 16384 := by
  have e : wrs 65535 (y :: r) mp out = if (65535 : Int) < ((wrec y mp out).2.length : Int) then ((wrec y mp out).1, (wrec y mp out).2, 0) else ((wrs 65535 r (wrec y mp out).1 (wrec y mp out).2).1, (wrs 65535 r (wrec y mp out).1 (wrec y mp out).2).2.1, (wrs 65535 r (wrec y mp out).1 (wrec y mp out).2).2.2 + 1) := rfl
  rw [e] at hl ⊢
  by_cases hc : (65535 : Int) < ((wrec y mp out).2.length : Int)
  · rw [if_pos hc] at hl
    dsimp only at hl
    omega
  · rw [if_neg hc] at hl ⊢
    dsimp only at hl ⊢
    have h := wrs_long 65535 r (wrec y mp out).1 (wrec y mp out).2
    exact ⟨rfl, by omega⟩
/- the records' places -/
set_option maxRecDepth 5000 in
theorem wrs_recs : ∀ (l : List R) (mp : List UInt8 → Option Nat) (out : List UInt8), (∀ x ∈ l, x.One) → Ones1 mp out → (wrs 65535 l mp out).2.1.length < 16384 →
    out <+: (wrs 65535 l mp out).2.1 ∧ ∃ pl : Nat → Nat, pl 0 = out.length ∧ pl l.length = (wrs 65535 l mp out).2.1.length ∧ ∀ b, (wrs 65535 l mp out).2.1 <+: b → ∀ j x, l[j]? = some x → RecAt b (pl j) (pl (j + 1)) x
  | [], mp, out, _, _, _ => ⟨List.prefix_refl _, fun _ => out.length, rfl, rfl, fun b hb j x hx => by simp at hx⟩
  | y :: r, mp, out, ho, hm, hl => by
    have hw := wrs_grows y r mp out hl
    obtain ⟨h1, h2⟩ := hw
    rw [h1] at hl ⊢
    have ho0 : out.length < 16384 := by
      have h3 := wrec_grows y mp out
      omega
    obtain ⟨a1, a2, a3⟩ := wrec_one y (ho y List.mem_cons_self) mp out hm ho0
    obtain ⟨b1, pl, b2, b3, b4⟩ := wrs_recs r (wrec y mp out).1 (wrec y mp out).2 (fun x hx => ho x (List.mem_cons_of_mem _ hx)) a2 hl
    refine ⟨a1.trans b1, fun j => match j with | 0 => out.length | j + 1 => pl j, rfl, b3, fun b hb j x hx => ?_⟩
    cases j with
    | zero =>
      cases hx
      show RecAt b out.length (pl 0) y
      rw [b2]; exact a3 b (b1.trans hb)
    | succ j => exact b4 b hb j x hx
end M
end Go.Proofs.YtpgebiopckmgbabGreat

/- What the law WireShort makes, plain: its records, how many of them are kept, the bytes they are written as. -/
namespace Go.Proofs.YtpgebiopckmgbabGreat
namespace M
def sRec (kk i j : Nat) : R := ⟨[[UInt8.ofNat (97 + i)]], 99, 1, 0, List.replicate kk 0 ++ [UInt8.ofNat j]⟩
def sRow (kk i j : Nat) : List R := (List.range j).map (sRec kk i)
def sAll (kk : Nat) : Nat → List R
  | 0 => []
  | i + 1 => sAll kk i ++ sRow kk i (1 + i % 3)
def cnt : Nat → Nat
  | 0 => 0
  | i + 1 => cnt i + (1 + i % 3)
set_option maxRecDepth 5000 in
theorem sRow_next (kk i j : Nat) : sRow kk i (j + 1) = sRow kk i j ++ [sRec kk i j] := by
  unfold sRow; rw [List.range_succ, List.map_append]; rfl
set_option maxRecDepth 5000 in
theorem sAll_len (kk : Nat) : ∀ i, (sAll kk i).length = cnt i
  | 0 => rfl
  | i + 1 => by simp only [sAll, cnt, List.length_append, sAll_len kk i, sRow, List.length_map, List.length_range]
set_option maxRecDepth 5000 in
theorem cnt_le : ∀ i, i ≤ 7 → cnt i ≤ 13 := by decide
set_option maxRecDepth 5000 in
theorem sAll_mem (kk : Nat) : ∀ i x, x ∈ sAll kk i → ∃ i' j', i' < i ∧ x = sRec kk i' j'
  | 0, x, h => by simp [sAll] at h
  | i + 1, x, h => by
    simp only [sAll, List.mem_append] at h
    rcases h with h | h
    · obtain ⟨i', j', h1, h2⟩ := sAll_mem kk i x h
      exact ⟨i', j', by omega, h2⟩
    · simp only [sRow, List.mem_map] at h
      obtain ⟨j', _, h2⟩ := h
      exact ⟨i, j', by omega, h2.symm⟩
set_option maxRecDepth 5000 in
theorem sRec_one (kk i j : Nat) (hk : kk ≤ 255) : (sRec kk i j).One := ⟨⟨_, rfl⟩, by show 99 < 65536; omega, by show 1 < 65536; omega, by show 0 < 4294967296; omega, by simp [sRec]; omega⟩
set_option maxRecDepth 5000 in
theorem keep_all (l : List R) : keep l l.length = l.length := by
  cases h : l.length with
  | zero => rfl
  | succ c => unfold keep; rw [if_neg (by omega)]
set_option maxRecDepth 5000 in
theorem hdr_at {b : List UInt8} {i f n9 : Nat} (h : hdr i f 0 n9 0 0 <+: b) (hi : i < 65536) (hf : f < 65536) (h9 : n9 < 65536) : v16 b 0 = i ∧ v16 b 2 = f ∧ v16 b 4 = 0 ∧ v16 b 6 = n9 ∧ v16 b 8 = 0 ∧ v16 b 10 = 0 := by
  unfold hdr at h
  have p5 : D.p16 i ++ D.p16 f ++ D.p16 0 ++ D.p16 n9 ++ D.p16 0 ++ D.p16 0 <+: b := h
  have p4 := (List.prefix_append _ _).trans p5
  have p3 := (List.prefix_append _ _).trans p4
  have p2 := (List.prefix_append _ _).trans p3
  have p1 := (List.prefix_append _ _).trans p2
  have p0 := (List.prefix_append _ _).trans p1
  have p00 : [] ++ D.p16 i <+: b := by simpa using p0
  refine ⟨p16_at p00 hi rfl, p16_at p1 hf ?_, p16_at p2 (by omega) ?_, p16_at p3 h9 ?_, p16_at p4 (by omega) ?_, p16_at p5 (by omega) ?_⟩ <;> simp [D.p16]
set_option maxRecDepth 5000 in
theorem hdr_len (i f n9 : Nat) : (hdr i f 0 n9 0 0).length = 12 := by simp [hdr, D.p16]
set_option maxRecDepth 5000 in
theorem fl_lt (tc : Bool) : fl 0 0 true false tc false false < 65536 := by cases tc <;> decide
set_option maxRecDepth 5000 in
theorem nmAt_one {kk i : Nat} {q : Nat} (h : q < (sAll kk i).length) : ∃ i' j', i' < i ∧ (sAll kk i)[q]? = some (sRec kk i' j') := by
  obtain ⟨i', j', h1, h2⟩ := sAll_mem kk i _ (List.getElem_mem h)
  exact ⟨i', j', h1, by rw [List.getElem?_eq_getElem h, h2]⟩
structure Short (kk i : Nat) (lim : Int) (q f : Nat) (tc : Bool) (out : List UInt8) : Prop where
  qle : q ≤ cnt i
  fl' : f < 65536
  len : (out.length : Int) ≤ lim
  l12 : 12 ≤ out.length
  v0 : v16 out 0 = 0
  v2 : v16 out 2 = f
  v4 : v16 out 4 = 0
  v6 : v16 out 6 = q
  v8 : v16 out 8 = 0
  v10 : v16 out 10 = 0
  recs : ∃ pl : Nat → Nat, pl 0 = 12 ∧ pl q = out.length ∧ ∀ j x, ((sAll kk i).take q)[j]? = some x → RecAt out (pl j) (pl (j + 1)) x ∧ x.type = 99 ∧ x.cls = 1 ∧ x.ttl < 2147483648 ∧ x.data.length ≤ 8192
  tc' : tc = decide (q < cnt i)
  ends : 0 < q → q < cnt i → N.same (nmAt (sAll kk i) (q - 1)) (nmAt (sAll kk i) q) = false
set_option maxRecDepth 5000 in
theorem short_of (kk i : Nat) (hk : kk ≤ 255) (hi : i ≤ 7) (lim : Int) (h1 : 512 ≤ lim) (h2 : lim ≤ 3000) (n : Nat) (hn : fits lim (sAll kk i) = n) (q : Nat) (hq : keep (sAll kk i) n = q) (tc : Bool) (htc : decide (n < (sAll kk i).length) = tc) (f : Nat) (hf : fl 0 0 true false tc false false = f)
    (out : List UInt8) (hout : (wrs 65535 ((sAll kk i).take q) (fun _ => none) (hdr 0 f 0 q 0 0)).2.1 = out) : Short kk i lim q f tc out := by
  have hlen := sAll_len kk i
  have hc := cnt_le i hi
  have hnl : n ≤ (sAll kk i).length := by rw [← hn]; exact wrs_le lim _ _ _
  have hqn : q ≤ n := by rw [← hq]; exact keep_le _ _
  have hf2 : f < 65536 := by rw [← hf]; exact fl_lt tc
  have hol : (out.length : Int) ≤ lim := by
    rw [← hout]
    refine wrs_first lim (by omega) (sAll kk i) _ (hdr 0 32768 0 (sAll kk i).length 0 0) _ q (by rw [hdr_len, hdr_len]) (by rw [hdr_len]; omega) ?_
    unfold fits at hn
    rw [hn]; exact hqn
  have hone : ∀ x ∈ (sAll kk i).take q, x.One := fun x hx => by
    obtain ⟨i', j', _, rfl⟩ := sAll_mem kk i x (List.mem_of_mem_take hx)
    exact sRec_one kk i' j' hk
  obtain ⟨hp, pl, e0, e1, hr⟩ := wrs_recs ((sAll kk i).take q) (fun _ => none) (hdr 0 f 0 q 0 0) hone (fun ch p h => by cases h) (by rw [hout]; omega)
  rw [hout] at hp e1 hr
  obtain ⟨a0, a2, a4, a6, a8, a10⟩ := hdr_at hp (by omega) hf2 (by omega)
  have htl : ((sAll kk i).take q).length = q := by rw [List.length_take]; omega
  refine ⟨by omega, hf2, hol, ?_, a0, a2, a4, a6, a8, a10, ⟨pl, by rw [e0, hdr_len], by rw [← e1, htl], fun j x hx => ?_⟩, ?_, fun g1 g2 => ?_⟩
  · have := hp.length_le
    rw [hdr_len] at this; exact this
  · have hm := List.mem_of_getElem? hx
    obtain ⟨i', j', _, e⟩ := sAll_mem kk i x (List.mem_of_mem_take hm)
    refine ⟨hr out (List.prefix_refl _) j x hx, ?_⟩
    rw [e]
    exact ⟨rfl, rfl, by show 0 < 2147483648; omega, by simp [sRec]; omega⟩
  · rw [← htc]
    by_cases h : n < (sAll kk i).length
    · rw [decide_eq_true h, decide_eq_true (by omega)]
    · have hnn : n = (sAll kk i).length := by omega
      have hqq : q = (sAll kk i).length := by rw [← hq, hnn, keep_all]
      rw [decide_eq_false h, decide_eq_false (by omega)]
  · have h := keep_ends (sAll kk i) n
    rw [hq] at h
    exact h g1 (by omega)
end M
end Go.Proofs.YtpgebiopckmgbabGreat
