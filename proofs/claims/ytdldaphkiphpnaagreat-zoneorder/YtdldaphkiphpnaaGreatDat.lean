/- Data of records, plain (a text of stage 5, at this seat). -/
import Derived.Test.YtdldaphkiphpnaaGreatNmB
import Derived.Test.YtdldaphkiphpnaaGreatTS
/- stage5/Dat -/
/- Data of records, plain: readings of bytes, their parts, the bytes of parts, canonical forms; that what is read is written as it was, and what is written is read. -/
namespace Go.Proofs.YtdldaphkiphpnaaGreat
namespace D
def by_ (k : Nat) (b : List UInt8) : Option (List UInt8 × List UInt8) := if b.length < k then none else some (b.take k, b.drop k)
def n8 : List UInt8 → Option (Nat × List UInt8)
  | x :: r => some (x.toNat, r)
  | _ => none
def n16 : List UInt8 → Option (Nat × List UInt8)
  | x :: y :: r => some (x.toNat * 256 + y.toNat, r)
  | _ => none
def n32 (b : List UInt8) : Option (Nat × List UInt8) := (n16 b).bind fun p => (n16 p.2).map fun q => (p.1 * 65536 + q.1, q.2)
def cnt (b : List UInt8) : Option (List UInt8 × List UInt8) := (n8 b).bind fun p => by_ p.1 p.2
def nm (b : List UInt8) : Option (List (List UInt8) × List UInt8) := (N.opn b).bind fun n => if N.size n ≤ 255 then some (n, b.drop (N.size n)) else none
def p16 (n : Nat) : List UInt8 := [UInt8.ofNat (n / 256), UInt8.ofNat n]
def p32 (n : Nat) : List UInt8 := p16 (n / 65536) ++ p16 (n % 65536)
def pc (b : List UInt8) : List UInt8 := UInt8.ofNat b.length :: b
structure Soa where
  main : List (List UInt8)
  box : List (List UInt8)
  a : Nat
  b : Nat
  c : Nat
  d : Nat
  e : Nat
structure Sig where
  type : Nat
  alg : Nat
  labels : Nat
  ttl : Nat
  expire : Nat
  begin_ : Nat
  tag : Nat
  signer : List (List UInt8)
  sig : List UInt8
structure Chain where
  hash : Nat
  flags : Nat
  iter : Nat
  salt : List UInt8
  next : List UInt8
  types : List UInt16
structure Key where
  flags : Nat
  proto : Nat
  alg : Nat
  key : List UInt8
def soa (l : List UInt8) : Option (Soa × List UInt8) :=
  (nm l).bind fun m => (nm m.2).bind fun x => (n32 x.2).bind fun a => (n32 a.2).bind fun b => (n32 b.2).bind fun c => (n32 c.2).bind fun d => (n32 d.2).map fun e => (⟨m.1, x.1, a.1, b.1, c.1, d.1, e.1⟩, e.2)
def sig (l : List UInt8) : Option (Sig × List UInt8) :=
  (n16 l).bind fun t => (n8 t.2).bind fun a => (n8 a.2).bind fun k => (n32 k.2).bind fun x => (n32 x.2).bind fun y => (n32 y.2).bind fun z => (n16 z.2).bind fun g => (nm g.2).map fun s => (⟨t.1, a.1, k.1, x.1, y.1, z.1, g.1, s.1, s.2⟩, [])
def chain (l : List UInt8) : Option (Chain × List UInt8) :=
  (n8 l).bind fun h => (n8 h.2).bind fun f => (n16 f.2).bind fun i => (cnt i.2).bind fun s => (cnt s.2).bind fun n => if n.1.length = 0 then none else (T.opn 0 n.2).map fun t => (⟨h.1, f.1, i.1, s.1, n.1, t⟩, [])
def key (l : List UInt8) : Option (Key × List UInt8) :=
  (n16 l).bind fun f => (n8 f.2).bind fun p => (n8 p.2).map fun a => (⟨f.1, p.1, a.1, a.2⟩, [])
def soaB (s : Soa) : List UInt8 := N.wire s.main ++ N.wire s.box ++ p32 s.a ++ p32 s.b ++ p32 s.c ++ p32 s.d ++ p32 s.e
def sigB (s : Sig) : List UInt8 := p16 s.type ++ [UInt8.ofNat s.alg, UInt8.ofNat s.labels] ++ p32 s.ttl ++ p32 s.expire ++ p32 s.begin_ ++ p16 s.tag ++ N.wire s.signer ++ s.sig
def chainB (c : Chain) : List UInt8 := [UInt8.ofNat c.hash, UInt8.ofNat c.flags] ++ p16 c.iter ++ pc c.salt ++ pc c.next ++ T.bmp c.types
def keyB (k : Key) : List UInt8 := p16 k.flags ++ [UInt8.ofNat k.proto, UInt8.ofNat k.alg] ++ k.key
/- names that may be -/
def Good (n : List (List UInt8)) : Prop := [] ∉ n ∧ (∀ l ∈ n, l.length ≤ 63) ∧ N.size n ≤ 255
def Soa.Ok (s : Soa) : Prop := Good s.main ∧ Good s.box ∧ s.a < 4294967296 ∧ s.b < 4294967296 ∧ s.c < 4294967296 ∧ s.d < 4294967296 ∧ s.e < 4294967296
def Sig.Ok (s : Sig) : Prop := s.type < 65536 ∧ s.alg < 256 ∧ s.labels < 256 ∧ s.ttl < 4294967296 ∧ s.expire < 4294967296 ∧ s.begin_ < 4294967296 ∧ s.tag < 65536 ∧ Good s.signer
def Chain.Ok (c : Chain) : Prop := c.hash < 256 ∧ c.flags < 256 ∧ c.iter < 65536 ∧ c.salt.length ≤ 255 ∧ c.next.length ≤ 255 ∧ c.next ≠ [] ∧ T.Rising c.types
def Key.Ok (k : Key) : Prop := k.flags < 65536 ∧ k.proto < 256 ∧ k.alg < 256
set_option maxRecDepth 5000 in
theorem u8_nat (x : UInt8) : UInt8.ofNat x.toNat = x := by simp
set_option maxRecDepth 5000 in
theorem nat_u8 (n : Nat) (h : n < 256) : (UInt8.ofNat n).toNat = n := by rw [UInt8.toNat_ofNat']; omega
/- what is read is written as it was -/
set_option maxRecDepth 5000 in
theorem n8_back {b r : List UInt8} {x : Nat} (h : n8 b = some (x, r)) : b = UInt8.ofNat x :: r ∧ x < 256 := by
  match b, h with
  | y :: r', h => cases h; exact ⟨by rw [u8_nat], y.toNat_lt⟩
set_option maxRecDepth 5000 in
theorem p16_of (x y : UInt8) : p16 (x.toNat * 256 + y.toNat) = [x, y] := by
  have hx := x.toNat_lt
  have hy := y.toNat_lt
  unfold p16
  rw [show (x.toNat * 256 + y.toNat) / 256 = x.toNat by omega, u8_nat]
  congr 2
  apply UInt8.toNat_inj.1
  rw [UInt8.toNat_ofNat']; omega
set_option maxRecDepth 5000 in
theorem n16_back {b r : List UInt8} {x : Nat} (h : n16 b = some (x, r)) : b = p16 x ++ r ∧ x < 65536 := by
  match b, h with
  | y :: z :: r', h =>
    cases h
    have hx := y.toNat_lt
    have hy := z.toNat_lt
    exact ⟨by rw [p16_of]; rfl, by omega⟩
set_option maxRecDepth 5000 in
theorem n32_back {b r : List UInt8} {x : Nat} (h : n32 b = some (x, r)) : b = p32 x ++ r ∧ x < 4294967296 := by
  unfold n32 at h
  rw [Option.bind_eq_some_iff] at h
  obtain ⟨⟨u, r1⟩, h1, h⟩ := h
  rw [Option.map_eq_some_iff] at h
  obtain ⟨⟨v, r2⟩, h2, h⟩ := h
  cases h
  obtain ⟨e1, l1⟩ := n16_back h1
  obtain ⟨e2, l2⟩ := n16_back h2
  replace e2 : r1 = p16 v ++ r2 := e2
  refine ⟨?_, by omega⟩
  unfold p32
  rw [show (u * 65536 + v) / 65536 = u by omega, show (u * 65536 + v) % 65536 = v by omega, e1, e2, List.append_assoc]
set_option maxRecDepth 5000 in
theorem by_back {b x r : List UInt8} {k : Nat} (h : by_ k b = some (x, r)) : b = x ++ r ∧ x.length = k := by
  unfold by_ at h
  split at h
  · cases h
  · cases h; exact ⟨by rw [List.take_append_drop], by rw [List.length_take]; omega⟩
set_option maxRecDepth 5000 in
theorem cnt_back {b x r : List UInt8} (h : cnt b = some (x, r)) : b = pc x ++ r ∧ x.length ≤ 255 := by
  unfold cnt at h
  rw [Option.bind_eq_some_iff] at h
  obtain ⟨⟨k, r1⟩, h1, h⟩ := h
  obtain ⟨e1, l1⟩ := n8_back h1
  obtain ⟨e2, l2⟩ := by_back h
  replace e2 : r1 = x ++ r := e2
  replace l2 : x.length = k := l2
  refine ⟨?_, by omega⟩
  unfold pc
  rw [e1, l2, e2]; rfl
set_option maxRecDepth 5000 in
theorem opn_back : ∀ (b : List UInt8) (n : List (List UInt8)), N.opn b = some n → b = N.wire n ++ b.drop (N.size n)
  | b, n, h => by
    match b with
    | [] => rw [N.opn_nil] at h; cases h
    | k :: r =>
      rw [N.opn] at h
      split at h
      · rename_i hk
        cases h
        have : k = 0 := UInt8.toNat_inj.1 hk
        subst this
        simp [N.wire, N.body, N.size]
      · split at h
        · cases h
        · rename_i hk hk2
          rw [Option.map_eq_some_iff] at h
          obtain ⟨m, hm, rfl⟩ := h
          have ih := opn_back (r.drop k.toNat) m hm
          have hl : (r.take k.toNat).length = k.toNat := by rw [List.length_take]; omega
          have e1 : N.size (r.take k.toNat :: m) = N.size m + k.toNat + 1 := by simp only [N.size, List.map_cons, List.sum_cons, hl]; omega
          have e2 : N.wire (r.take k.toNat :: m) = k :: (r.take k.toNat ++ N.wire m) := by
            simp only [N.wire, N.body, List.flatMap_cons, hl, u8_nat, List.cons_append, List.append_assoc]
          rw [e1, e2, List.drop_succ_cons, List.cons_append, List.append_assoc, Nat.add_comm (N.size m), ← List.drop_drop, ← ih, List.take_append_drop]
termination_by b => b.length
decreasing_by subst_vars; simp only [List.length_drop, List.length_cons]; omega
set_option maxRecDepth 5000 in
theorem nm_back {b r : List UInt8} {n : List (List UInt8)} (h : nm b = some (n, r)) : b = N.wire n ++ r ∧ Good n := by
  unfold nm at h
  rw [Option.bind_eq_some_iff] at h
  obtain ⟨m, h1, h⟩ := h
  split at h
  · rename_i hs
    cases h
    obtain ⟨a, b', _⟩ := N.opn_small _ _ h1
    exact ⟨opn_back _ _ h1, a, b', hs⟩
  · cases h
set_option maxRecDepth 5000 in
theorem soa_back {l r : List UInt8} {s : Soa} (h : soa l = some (s, r)) : l = soaB s ++ r ∧ s.Ok := by
  simp only [soa, Option.bind_eq_some_iff, Option.map_eq_some_iff, Prod.exists] at h
  obtain ⟨m, r1, h1, x, r2, h2, a, r3, h3, b, r4, h4, c, r5, h5, d, r6, h6, e, r7, h7, h⟩ := h
  cases h
  obtain ⟨e1, g1⟩ := nm_back h1
  obtain ⟨e2, g2⟩ := nm_back h2
  obtain ⟨e3, g3⟩ := n32_back h3
  obtain ⟨e4, g4⟩ := n32_back h4
  obtain ⟨e5, g5⟩ := n32_back h5
  obtain ⟨e6, g6⟩ := n32_back h6
  obtain ⟨e7, g7⟩ := n32_back h7
  refine ⟨?_, g1, g2, g3, g4, g5, g6, g7⟩
  rw [e1, e2, e3, e4, e5, e6, e7]
  simp [soaB]
set_option maxRecDepth 5000 in
theorem sig_back {l r : List UInt8} {s : Sig} (h : sig l = some (s, r)) : l = sigB s ++ r ∧ r = [] ∧ s.Ok := by
  simp only [sig, Option.bind_eq_some_iff, Option.map_eq_some_iff, Prod.exists] at h
  obtain ⟨t, r1, h1, a, r2, h2, k, r3, h3, x, r4, h4, y, r5, h5, z, r6, h6, g, r7, h7, n, r8, h8, h⟩ := h
  cases h
  obtain ⟨e1, g1⟩ := n16_back h1
  obtain ⟨e2, g2⟩ := n8_back h2
  obtain ⟨e3, g3⟩ := n8_back h3
  obtain ⟨e4, g4⟩ := n32_back h4
  obtain ⟨e5, g5⟩ := n32_back h5
  obtain ⟨e6, g6⟩ := n32_back h6
  obtain ⟨e7, g7⟩ := n16_back h7
  obtain ⟨e8, g8⟩ := nm_back h8
  refine ⟨?_, rfl, g1, g2, g3, g4, g5, g6, g7, g8⟩
  rw [e1, e2, e3, e4, e5, e6, e7, e8]
  simp [sigB]
set_option maxRecDepth 5000 in
theorem chain_back {l r : List UInt8} {c : Chain} (h : chain l = some (c, r)) : l = chainB c ++ r ∧ r = [] ∧ c.Ok := by
  simp only [chain, Option.bind_eq_some_iff, Prod.exists] at h
  obtain ⟨a, r1, h1, f, r2, h2, i, r3, h3, s, r4, h4, n, r5, h5, h⟩ := h
  split at h
  · cases h
  · rename_i hn
    simp only [Option.map_eq_some_iff] at h
    obtain ⟨t, h6, h⟩ := h
    cases h
    obtain ⟨e1, g1⟩ := n8_back h1
    obtain ⟨e2, g2⟩ := n8_back h2
    obtain ⟨e3, g3⟩ := n16_back h3
    obtain ⟨e4, g4⟩ := cnt_back h4
    obtain ⟨e5, g5⟩ := cnt_back h5
    obtain ⟨e6, g6, _⟩ := T.bmp_opn _ _ _ _ (Nat.le_refl _) h6
    refine ⟨?_, rfl, g1, g2, g3, g4, g5, fun e => hn (by have e' : n = [] := e; rw [e']; rfl), g6⟩
    rw [e1, e2, e3, e4, e5]
    simp [chainB, e6]
set_option maxRecDepth 5000 in
theorem key_back {l r : List UInt8} {k : Key} (h : key l = some (k, r)) : l = keyB k ++ r ∧ r = [] ∧ k.Ok := by
  simp only [key, Option.bind_eq_some_iff, Option.map_eq_some_iff, Prod.exists] at h
  obtain ⟨f, r1, h1, p, r2, h2, a, r3, h3, h⟩ := h
  cases h
  obtain ⟨e1, g1⟩ := n16_back h1
  obtain ⟨e2, g2⟩ := n8_back h2
  obtain ⟨e3, g3⟩ := n8_back h3
  refine ⟨?_, rfl, g1, g2, g3⟩
  rw [e1, e2, e3]
  simp [keyB]
/- what is written is read -/
set_option maxRecDepth 5000 in
theorem n8_fwd (x : Nat) (r : List UInt8) (h : x < 256) : n8 (UInt8.ofNat x :: r) = some (x, r) := by
  show some ((UInt8.ofNat x).toNat, r) = _
  rw [nat_u8 x h]
set_option maxRecDepth 5000 in
theorem n16_fwd (x : Nat) (r : List UInt8) (h : x < 65536) : n16 (p16 x ++ r) = some (x, r) := by
  show some ((UInt8.ofNat (x / 256)).toNat * 256 + (UInt8.ofNat x).toNat, r) = _
  rw [UInt8.toNat_ofNat', UInt8.toNat_ofNat']
  congr 2; omega
set_option maxRecDepth 5000 in
theorem n32_fwd (x : Nat) (r : List UInt8) (h : x < 4294967296) : n32 (p32 x ++ r) = some (x, r) := by
  unfold n32 p32
  rw [List.append_assoc, n16_fwd _ _ (by omega)]
  simp only [Option.bind_some]
  rw [n16_fwd _ _ (by omega)]
  simp only [Option.map_some]
  congr 2; omega
set_option maxRecDepth 5000 in
theorem by_fwd (x r : List UInt8) (k : Nat) (h : x.length = k) : by_ k (x ++ r) = some (x, r) := by
  unfold by_
  rw [if_neg (by rw [List.length_append]; omega), ← h, List.take_left, List.drop_left]
set_option maxRecDepth 5000 in
theorem cnt_fwd (x r : List UInt8) (h : x.length ≤ 255) : cnt (pc x ++ r) = some (x, r) := by
  unfold cnt pc
  rw [List.cons_append, n8_fwd _ _ (by omega)]
  exact by_fwd x r _ rfl
set_option maxRecDepth 5000 in
theorem nm_fwd (n : List (List UInt8)) (r : List UInt8) (h : Good n) : nm (N.wire n ++ r) = some (n, r) := by
  unfold nm
  rw [N.opn_wire n r h.1 h.2.1, Option.bind_some, if_pos h.2.2, ← N.wire_len, List.drop_left]
set_option maxRecDepth 5000 in
theorem soa_fwd (s : Soa) (r : List UInt8) (h : s.Ok) : soa (soaB s ++ r) = some (s, r) := by
  obtain ⟨g1, g2, g3, g4, g5, g6, g7⟩ := h
  unfold soa soaB
  simp only [List.append_assoc]
  simp only [nm_fwd _ _ g1, nm_fwd _ _ g2, n32_fwd _ _ g3, n32_fwd _ _ g4, n32_fwd _ _ g5, n32_fwd _ _ g6, n32_fwd _ _ g7, Option.bind_some, Option.map_some]
set_option maxRecDepth 5000 in
theorem sig_fwd (s : Sig) (h : s.Ok) : sig (sigB s) = some (s, []) := by
  obtain ⟨g1, g2, g3, g4, g5, g6, g7, g8⟩ := h
  unfold sig sigB
  simp only [List.append_assoc, List.cons_append, List.nil_append]
  simp only [n16_fwd _ _ g1, n8_fwd _ _ g2, n8_fwd _ _ g3, n32_fwd _ _ g4, n32_fwd _ _ g5, n32_fwd _ _ g6, n16_fwd _ _ g7, nm_fwd _ _ g8, Option.bind_some, Option.map_some]
set_option maxRecDepth 5000 in
theorem chain_fwd (c : Chain) (h : c.Ok) : chain (chainB c) = some (c, []) := by
  obtain ⟨g1, g2, g3, g4, g5, g6, g7⟩ := h
  have g6' : ¬ c.next.length = 0 := fun e => g6 (List.eq_nil_of_length_eq_zero e)
  have hb : T.opn 0 (T.bmp c.types) = some c.types := T.opn_bmp _ _ _ (Nat.le_refl _) g7 (fun _ _ => Nat.zero_le _)
  unfold chain chainB
  simp only [List.append_assoc, List.cons_append, List.nil_append]
  simp only [n8_fwd _ _ g1, n8_fwd _ _ g2, n16_fwd _ _ g3, cnt_fwd _ _ g4, cnt_fwd _ _ g5, Option.bind_some, Option.map_some, if_neg g6', hb]
set_option maxRecDepth 5000 in
theorem key_fwd (k : Key) (h : k.Ok) : key (keyB k) = some (k, []) := by
  obtain ⟨g1, g2, g3⟩ := h
  unfold key keyB
  simp only [List.append_assoc, List.cons_append, List.nil_append]
  simp only [n16_fwd _ _ g1, n8_fwd _ _ g2, n8_fwd _ _ g3, Option.bind_some, Option.map_some]
end D
end Go.Proofs.YtdldaphkiphpnaaGreat

