/- journal.appendNumber, journal.number. -/
import Derived.Test.YtidocfajhhpfdaaDoorJcr
namespace Go.Proofs.YtidocfajhhpfdaaDoor
open Go.RowKit
set_option maxRecDepth 5000 in
theorem be_get : ∀ (k n j : Nat), j < k → (J.be k n)[j]? = some (J.byt n (k - 1 - j))
  | 0, _, _, h => by omega
  | k + 1, n, 0, _ => by simp [J.be]
  | k + 1, n, j + 1, h => by
    rw [J.be, List.getElem?_cons_succ, be_get k n j (by omega), show k + 1 - 1 - (j + 1) = k - 1 - j by omega]
set_option maxRecDepth 5000 in
theorem be_take (k n j : Nat) (h : j < k) : (J.be k n).take (j + 1) = (J.be k n).take j ++ [J.byt n (k - 1 - j)] := by
  rw [List.take_add_one, be_get k n j h]; rfl
set_option maxRecDepth 5000 in
theorem byt_val (n i : Nat) : (n : Int) / 2 ^ (8 * i) % 256 = ((J.byt n i).toNat : Int) := by
  unfold J.byt
  have : ((2 : Int) ^ (8 * i)) = ((2 ^ (8 * i) : Nat) : Int) := by simp
  rw [this, ← Int.natCast_ediv]
  simp
/- a slice that may be appended to: the call's own, or one that is full -/
def Gro (w : World) (base : Nat) (v : Value) (l : List UInt8) : Prop := OwnB w base v l ∨ ∃ ad, v = .slice (some ad) l.length l.length ∧ SlL w (some ad) l ∧ 0 < l.length
set_option maxRecDepth 5000 in
theorem Gro.alloc {w : World} {base : Nat} {v : Value} {l : List UInt8} (h : Gro w base v l) (o : Obj) : Gro (w.alloc o) base v l := by
  rcases h with h | ⟨ad, h1, h2, h3⟩
  · exact Or.inl (h.alloc o)
  · exact Or.inr ⟨ad, h1, h2.alloc o, h3⟩
set_option maxRecDepth 5000 in
theorem run_append_full (w : World) (ty : TypeId) (ad : Addr) (l : List UInt8) (hs : SlL w (some ad) l) (ax : Addr) (c : Nat) (l2 : List UInt8) (hx : SlL w (some ax) l2) (hl2 : 0 < l2.length) (hb : l.length + l2.length ≤ 1099511627776) :
    ∃ v' w', (Builtin.append_ #[22, 22] ty #[.slice (some ad) l.length l.length, .slice (some ax) l2.length c]).run Tryd.prog w = .ok v' w' ∧ OwnB w' w.heap.size v' (l ++ l2) ∧ Below w.heap.size w w' := by
  obtain ⟨i0, hi, hz0, hz1, hz2⟩ := info_parts infoB
  have src : ∀ (ad : Addr) (l : List UInt8), SlL w (some ad) l → ∀ (j : Nat) (v : Value), (vb l)[j]? = some v → w.cell? (ad.add j) = some v := by
    intro ad l hs j u hu
    have hj : j < l.length := by have := (List.getElem?_eq_some_iff.1 hu).1; rwa [vb_len] at this
    obtain ⟨b, o', e, _, hc⟩ := hs (by omega)
    cases e
    rw [Addr.add_mid, hc j hj, ← vb_get l j hj, hu]
  have hfit := growslice_fits (need := l.length + l2.length) (old := l.length) (bytes := i0.bytes) (by omega) (by rw [hz2]; omega)
  have hr := run_append_grow (P := Tryd.prog) (w := w) 22 ty 5 i0 (.int .u8 0) Tryd.underlying22 hi hz0 ad l.length l.length (vb l) (by rw [vb_len, hz1, Nat.mul_one]) (src ad l hs) ax l2.length c (vb l2) (by rw [vb_len, hz1, Nat.mul_one]) (src ax l2 hx) (by omega) (by omega) (by omega)
  have hge := grownCap_ge w (l.length + l2.length) l.length 5
  have hcm := grownCap_le_maxLen w (l.length + l2.length) l.length 5 (by unfold maxLen; omega)
  refine ⟨_, _, hr, ⟨by rw [vb_len, Nat.mul_one], .inr ⟨w.heap.size, grownCap w (l.length + l2.length) l.length 5, _, by rw [List.length_append], Nat.le_refl _, heap_alloc_new w.drew _, by rw [List.length_append]; exact hge, hcm, ?_, ?_⟩⟩, (Below.refl w.heap.size w).drew.alloc (Nat.le_refl _) _⟩
  · simp only [Array.size_append, List.size_toArray, size_zeroCells, vb_len]
    have : (Value.int .u8 0).cells.size = 1 := rfl
    rw [this]; omega
  · simp only [Array.toList_append]
    rw [← vb_app, Nat.mul_one, ← vb_len (l ++ l2)]
    exact List.take_left
set_option maxRecDepth 5000 in
theorem wpList_append_G {w : World} {ops : Array Oper} {rest : List Oper} {o : Oper} {a : Act} {Q : Exit → Act → World → Prop} (hgd : o.guard = none) (s x : Operand)
    (ho : o.op = .call { callee := .builtin .append, args := #[s, x], argTypes := #[22, 22] }) (base : Nat) (v : Value) (l : List UInt8) (hs : a.eval s = v) (hown : Gro w base v l)
    (ax : Addr) (m c : Nat) (l2 : List UInt8) (hx : a.eval x = .slice (some ax) m c) (hm : l2.length = m) (h0 : 0 < m) (hsrc : SlL w (some ax) l2) (hbound : l.length + m ≤ 1099511627776) (hbase : base ≤ w.heap.size)
    (h : ∀ v' w', OwnB w' base v' (l ++ l2) → Below base w w' → wpList Tryd.prog ops Q rest (a.put o.dst v') w') : wpList Tryd.prog ops Q (o :: rest) a w := by
  rcases hown with hown | ⟨ad, rfl, h1, _⟩
  · exact wpList_append_B hgd s x ho base v l hs hown (some ax) m c l2 hx hm hsrc (by intro h; cases h) hbound hbase fun v' w' hO hG => h v' w' hO (grown_below hown hG (Below.refl _ _) hbase)
  · subst hm
    refine wpList_plain hgd fun _ hK => ?_
    obtain ⟨v', w', hr, hO, hB⟩ := run_append_full w o.type ad l h1 ax c l2 hsrc h0 hbound
    unfold Oper.wp execOp
    simp only [ho, resolve, invoke, builtin, Sem.run_bind, Sem.run_pure, Result.andThen_ok, List.map_toArray, List.map_cons, List.map_nil, hs, hx, hr]
    refine hK _ _ (h v' w' ?_ (hB.mono hbase))
    have h0 : w'.ownsRow w.heap.size 5 1 v' (l ++ l2).length (vb (l ++ l2)) := hO
    refine ⟨h0.1, ?_⟩
    rcases h0.2 with h1 | ⟨g, cap, cur, e, h1, h2⟩
    · exact Or.inl h1
    · exact Or.inr ⟨g, cap, cur, e, by omega, h2⟩
set_option maxHeartbeats 1000000 in
set_option maxRecDepth 5000 in
theorem appNum_any (w : World) (base : Nat) (v : Value) (l : List UInt8) (k n : Nat) (hown : Gro w base v l) (hk : k ≤ 8) (hk0 : 0 < k) (hb : l.length + k ≤ 1000000000) (hbase : base ≤ w.heap.size) :
    Calls Tryd.prog 69 #[v, .int .i64 (k : Int), .int .u64 (n : Int)] w fun e w' => ∃ v', e = .returned v' ∧ OwnB w' base v' (l ++ J.be k n) ∧ Below base w w' := by
  have HO := hide hown
  clear hown
  go_enter Tryd.func69, Tryd.ntmps69
  go_wp2
  go_loopw [0, 7] (fun v i wr => ∃ j : Nat, j ≤ k ∧ i = .int .i64 ((k : Int) - 1 - (j : Int)) ∧ Gro wr base v (l ++ (J.be k n).take j) ∧ (0 < j → OwnB wr base v (l ++ (J.be k n).take j)) ∧ Below base w wr) (fun v i wr => (intOf i + 1).toNat)
  case atStart => exact ⟨0, by omega, by go_num, by simpa using HO.out, fun h => by omega, Below.refl _ _⟩
  case round =>
    obtain ⟨j, hj, rfl, hO, hO', hB⟩ := hrel
    by_cases hlt : j < k
    · obtain ⟨i, hi⟩ : ∃ i : Nat, (k : Int) - 1 - (j : Int) = (i : Int) := ⟨k - 1 - j, by omega⟩
      rw [hi]
      have hi7 : i ≤ 7 := by omega
      have ei : k - 1 - j = i := by omega
      have E := hide (be_take k n j hlt)
      rw [ei] at E
      have HO2 := hide hO
      have HB2 := hide hB
      have hbv := hide (byt_val n i)
      have hL : Hid ((l ++ (J.be k n).take j).length ≤ l.length + k) := by show _ ≤ _; simp [J.be_len]; omega
      obtain ⟨m, hm⟩ : ∃ m, m = l ++ (J.be k n).take j := ⟨_, rfl⟩
      rw [← hm] at HO2 hL
      have HM := hide hm
      clear hO hO' hB ei hm
      go_wp2_with (at_builtin; refine wpList_append_G rfl (.tmp 14) (.tmp 20) rfl base _ m rfl (by exact HO2.out.alloc _) _ _ _ [J.byt n i] rfl rfl (by omega) (by exact SlL.oneI _ _ _ _ hbv.out) (by have := hL.out; omega) (by have := HB2.out.size; simp; omega) ?_; intro v4 w4 hO4 hG4; have hB4 := hide (HB2.out.trans ((((Below.refl base wr).alloc (by have := HB2.out.size; omega) _)).trans hG4)); have HO4 := hide hO4; clear hG4 hO4)
      go_roundw
      case rel => exact ⟨j + 1, by omega, by go_num, by rw [E.out, ← List.append_assoc, ← HM.out]; exact Or.inl HO4.out, fun _ => by rw [E.out, ← List.append_assoc, ← HM.out]; exact HO4.out, hB4.out⟩
      case measure => simp [intOf]
    · have hjk : j = k := by omega
      have hO2 := hO' (by omega)
      rw [hjk, List.take_of_length_le (by rw [J.be_len]; omega)] at hO2
      have HO2 := hide hO2
      have HB2 := hide hB
      have hi : (k : Int) - 1 - (j : Int) = -1 := by omega
      rw [hi]
      clear hO hO' hO2 hB hi hjk hj hlt
      go_wp2
      go_ret
      exact ⟨_, rfl, HO2.out, HB2.out⟩
set_option maxRecDepth 5000 in
theorem b_or64 (n x : Nat) (hn : n < 72057594037927936) (hx : x < 256) : bits .or .u64 ((n * 256 : Nat) : Int) (x : Int) = ((n * 256 + x : Nat) : Int) := by
  show IntKind.u64.wrap ((BitVec.ofInt 64 ((n * 256 : Nat) : Int) ||| BitVec.ofInt 64 (x : Int)).toNat : Int) = _
  rw [BitVec.ofInt_natCast, BitVec.ofInt_natCast, BitVec.toNat_or, BitVec.toNat_ofNat, BitVec.toNat_ofNat, Nat.mod_eq_of_lt (by omega), Nat.mod_eq_of_lt (by omega)]
  have h := Nat.two_pow_add_eq_or_of_lt (i := 8) (b := x) (by omega) n
  rw [show (2 : Nat) ^ 8 * n = n * 256 by omega] at h
  rw [← h, IntKind.wrap_u64]
  omega
set_option maxRecDepth 5000 in
theorem nm_take (l : List UInt8) (k : Nat) (hk : k < l.length) : J.num (l.take (k + 1)) = J.num (l.take k) * 256 + (l.getD k 0).toNat := by
  unfold J.num J.nm
  rw [List.take_add_one, List.foldl_append, List.getElem?_eq_getElem hk]
  simp [List.getD_eq_getElem?_getD, hk]
set_option maxHeartbeats 1000000 in
set_option maxRecDepth 5000 in
theorem number_any (w : World) (ao : Option Addr) (c m : Nat) (l : List UInt8) (hm : l.length = m) (hl : m ≤ 8) (hs : SlL w ao l) :
    Calls Tryd.prog 50 #[.slice ao m c] w fun e w' => e = .returned (.int .u64 (J.num l : Int)) ∧ w' = w := by
  subst hm
  have HS := hide hs
  clear hs
  go_enter Tryd.func50, Tryd.ntmps50
  go_wp2
  go_loopw [3, 8] (fun q i wr => wr = w ∧ ∃ k : Nat, k ≤ l.length ∧ i = .int .i64 (k : Int) ∧ q = .int .u64 (J.num (l.take k) : Int)) (fun q i wr => l.length - (intOf i).toNat)
  case atStart => exact ⟨rfl, 0, by omega, rfl, rfl⟩
  case round =>
    obtain ⟨hw, k, hk, rfl, rfl⟩ := hrel
    rw [hw]
    clear hw
    by_cases hlt : k < l.length
    · obtain ⟨b, o, rfl, hb, hc⟩ := HS.out (by omega)
      have c1 := hc k hlt
      have hlt' : (k : Int) < (l.length : Int) := by omega
      have E := hide (nm_take l k hlt)
      have hn : J.num (l.take k) < 72057594037927936 := by
        have h1 := J.num_lt (l.take k)
        rw [List.length_take, Nat.min_eq_left hk] at h1
        have h2 : 256 ^ k ≤ 256 ^ 7 := Nat.pow_le_pow_right (by omega) (by omega)
        omega
      generalize J.num (l.take k) = q at E hn
      generalize l.getD k 0 = x at E c1
      have hx : x.toNat < 256 := x.toNat_lt
      have f1 : (q : Int) * 256 = ((q * 256 : Nat) : Int) := by omega
      have f2 := b_or64 q x.toNat hn hx
      have f3 : IntKind.u64.wrap ((q * 256 : Nat) : Int) = ((q * 256 : Nat) : Int) := by rw [IntKind.wrap_u64]; omega
      have F : Hid (J.num (l.take (k + 1)) = q * 256 + x.toNat) := E.out
      have f4 : (q : Int) * 256 % 18446744073709551616 = ((q * 256 : Nat) : Int) := by omega
      generalize q * 256 + x.toNat = z at f2 F
      obtain ⟨y, hy⟩ : ∃ y, y = q * 256 := ⟨_, rfl⟩
      rw [← hy] at f1 f2 f3 f4
      clear hc E hy
      go_wp2
      go_roundw
      case rel => exact ⟨trivial, k + 1, by omega, by go_num, by rw [F.out]⟩
      case measure => simp [intOf]; omega
    · have hlt' : ¬ (k : Int) < (l.length : Int) := by omega
      have E : Hid (J.num (l.take k) = J.num l) := by
        show _ = _
        rw [List.take_of_length_le (by omega)]
      generalize J.num (l.take k) = z at E
      go_wp2
      go_ret
      exact ⟨by rw [E.out]; rfl, rfl⟩
end Go.Proofs.YtidocfajhhpfdaaDoor
