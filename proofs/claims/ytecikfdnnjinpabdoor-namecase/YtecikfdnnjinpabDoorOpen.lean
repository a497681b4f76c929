/- name.openSize, name.Open: the name at the beginning of bytes. -/
import Derived.Test.YtecikfdnnjinpabDoorWire
namespace Go.Proofs.YtecikfdnnjinpabDoor
open Go.RowKit
namespace N
def opn (b : List UInt8) : Option (List (List UInt8)) :=
  match b with
  | [] => none
  | k :: r => if k.toNat = 0 then some [] else if 63 < k.toNat ∨ r.length < k.toNat then none else (opn (r.drop k.toNat)).map (r.take k.toNat :: ·)
termination_by b.length
decreasing_by simp only [List.length_drop, List.length_cons]; omega
theorem opn_nil : opn [] = none := by rw [opn]
theorem opn_out (b : List UInt8) (j : Nat) (h : b.length ≤ j) : opn (b.drop j) = none := by rw [List.drop_eq_nil_of_le h, opn_nil]
theorem opn_zero (b : List UInt8) (j : Nat) (h : j < b.length) (hk : (b.getD j 0).toNat = 0) : opn (b.drop j) = some [] := by
  rw [drop_at b j h, opn, if_pos hk]
theorem opn_great (b : List UInt8) (j : Nat) (h : j < b.length) (hk : 63 < (b.getD j 0).toNat) : opn (b.drop j) = none := by
  rw [drop_at b j h, opn, if_neg (by omega), if_pos (Or.inl hk)]
theorem opn_next (b : List UInt8) (j : Nat) (h : j < b.length) (h0 : (b.getD j 0).toNat ≠ 0) (hk : (b.getD j 0).toNat ≤ 63) :
    opn (b.drop j) = (opn (b.drop (j + 1 + (b.getD j 0).toNat))).map ((b.drop (j + 1)).take (b.getD j 0).toNat :: ·) := by
  rw [drop_at b j h, opn, if_neg h0]
  by_cases h1 : (b.drop (j + 1)).length < (b.getD j 0).toNat
  · rw [if_pos (Or.inr h1)]
    rw [List.length_drop] at h1
    rw [opn_out b _ (by omega)]; rfl
  · rw [if_neg (by omega), List.drop_drop]
theorem opn_small : ∀ (b : List UInt8) (n : List (List UInt8)), opn b = some n → [] ∉ n ∧ (∀ l ∈ n, l.length ≤ 63) ∧ size n ≤ b.length
  | b, n, h => by
    match b with
    | [] => rw [opn_nil] at h; cases h
    | k :: r =>
      rw [opn] at h
      split at h
      · cases h; exact ⟨by simp, fun l hl => by simp at hl, by simp [size]⟩
      · rename_i hk
        split at h
        · cases h
        · rename_i hk2
          rw [Option.map_eq_some_iff] at h
          obtain ⟨m, hm, rfl⟩ := h
          obtain ⟨h1, h2, h3⟩ := opn_small (r.drop k.toNat) m hm
          have hl : (r.take k.toNat).length = k.toNat := by rw [List.length_take]; omega
          refine ⟨?_, ?_, ?_⟩
          · intro e
            rcases List.mem_cons.1 e with e1 | e1
            · rw [← e1] at hl; simp at hl; omega
            · exact h1 e1
          · intro l e
            rcases List.mem_cons.1 e with e1 | e1
            · rw [e1, hl]; omega
            · exact h2 l e1
          · have e2 : size (r.take k.toNat :: m) = (k.toNat + 1) + size m := by simp only [size, List.map_cons, List.sum_cons, hl]; omega
            rw [List.length_drop] at h3
            rw [e2, List.length_cons]; omega
termination_by b => b.length
decreasing_by subst_vars; simp only [List.length_drop, List.length_cons]; omega
theorem opn_wire : ∀ (n : List (List UInt8)) (behind : List UInt8), [] ∉ n → (∀ l ∈ n, l.length ≤ 63) → opn (wire n ++ behind) = some n
  | [], behind, _, _ => by
    show opn (0 :: behind) = _
    rw [opn, if_pos (by rfl)]
  | l :: n, behind, h0, h1 => by
    have hl := h1 l (by simp)
    have hl0 : l ≠ [] := fun e => h0 (by rw [e]; simp)
    have hk : (UInt8.ofNat l.length).toNat = l.length := by rw [UInt8.toNat_ofNat']; omega
    have hp : 0 < l.length := List.length_pos_iff.2 hl0
    have e : wire (l :: n) ++ behind = UInt8.ofNat l.length :: (l ++ (wire n ++ behind)) := by simp [wire, body]
    rw [e, opn, hk, if_neg (by omega), if_neg (by rw [List.length_append]; omega), List.drop_left, List.take_left, opn_wire n behind (fun e => h0 (by simp [e])) (fun x hx => h1 x (by simp [hx]))]
    rfl
def szO : Option (List (List UInt8)) → Int
  | some n => (size n : Int)
  | none => 0
theorem map_map (r : Option (List (List UInt8))) (n : List (List UInt8)) (x : List UInt8) : (r.map (x :: ·)).map (n ++ ·) = r.map ((n ++ [x]) ++ ·) := by
  cases r <;> simp
theorem size_one (n : List (List UInt8)) (x : List UInt8) : size (n ++ [x]) = size n + (x.length + 1) := by rw [size_app]; simp
end N
set_option maxRecDepth 3000 in
set_option maxHeartbeats 400000 in
theorem openSize_any (b : List UInt8) (ao : Option Addr) (len cap : Nat) (w : World) (hl : Hid (b.length = len)) (hs : SlL w ao b) (hm : len ≤ 1000000000) :
    Calls Tryd.prog 26 #[.slice ao len cap] w fun e w' => e = .returned (.tuple #[.int .i64 (N.szO (N.opn b)), .bool (N.opn b).isSome]) ∧ w' = w := by
  have HS := hide hs
  clear hs
  go_enter Tryd.func26, Tryd.ntmps26
  go_wp2
  go_loopw [4] (fun i wr => ∃ (j : Nat) (n : List (List UInt8)), i = .int .i64 (j : Int) ∧ j ≤ 1000000100 ∧ Hid (N.opn b = (N.opn (b.drop j)).map (n ++ ·)) ∧ Hid (j ≤ len → j + 1 = N.size n) ∧ wr = w) (fun i _ => len + 1 - (intOf i).toNat)
  case atStart => exact ⟨0, [], rfl, by omega, (by show _ = _; simp), (fun _ => rfl), rfl⟩
  case round =>
    obtain ⟨j, n, rfl, hj, HO, HZ, rfl⟩ := hrel
    by_cases hlt : j < len
    · obtain ⟨b1, o1, rfl, _, hc1⟩ := HS.out (by have := hl.out; omega)
      have hx := hc1 j (by have := hl.out; omega)
      have hz0 := N.opn_zero b j (by have := hl.out; omega)
      have hgr := N.opn_great b j (by have := hl.out; omega)
      have hnx := N.opn_next b j (by have := hl.out; omega)
      clear hc1
      have hk := (b.getD j 0).toNat_lt
      generalize (b.getD j 0).toNat = k at hx hz0 hgr hnx hk
      rcases Nat.lt_or_ge 63 k with h63 | h63
      · have HR : Hid (N.opn b = none) := by rw [HO.out, hgr h63]; exact rfl
        clear hz0 hgr hnx
        go_wp2
        go_ret2
        exact ⟨by rw [HR.out]; rfl, rfl⟩
      · by_cases h0 : k = 0
        · have HR : Hid (N.opn b = some n) := by rw [HO.out, hz0 h0]; show _ = _; simp
          clear hz0 hgr hnx
          subst h0
          have HZ2 := hide (HZ.out (by omega))
          clear HZ
          go_wp2
          go_ret2
          refine ⟨?_, rfl⟩
          rw [HR.out]
          show _ = Ending.returned (.tuple #[.int .i64 (N.size n : Int), .bool true])
          rw [← HZ2.out]; rfl
        · have HR : Hid (N.opn b = (N.opn (b.drop (j + 1 + k))).map ((n ++ [(b.drop (j + 1)).take k]) ++ ·)) := by
            rw [HO.out, hnx h0 h63, N.map_map]; exact rfl
          have HZ2 : Hid (j + 1 + k ≤ len → j + 1 + k + 1 = N.size (n ++ [(b.drop (j + 1)).take k])) := by
            intro hh
            have := HZ.out (by omega)
            rw [N.size_one, List.length_take, List.length_drop, hl.out]
            omega
          clear hz0 hgr hnx HZ HO
          have hne : ((k : Int) == 0) = false := by simp; omega
          go_wp2
          go_roundw
          case rel => exact ⟨j + 1 + k, _, by go_num, by omega, HR, HZ2, trivial⟩
          case measure => simp [intOf]; omega
    · have HR : Hid (N.opn b = none) := by rw [HO.out, N.opn_out b j (by have := hl.out; omega)]; exact rfl
      go_wp2
      go_ret2
      exact ⟨by rw [HR.out]; rfl, rfl⟩
theorem slice_mid {w : World} {ao : Option Addr} {l : List UInt8} {len cap k m : Nat} {x y : Int} (hx : x = (k : Int)) (hy : y = ((k + m : Nat) : Int)) (hs : SlL w ao l) (hl : l.length = len) (hk : k + m ≤ len) (hc : len ≤ cap) :
    ∃ ao', (∀ W, (Instr.slice 23 (.slice ao len cap) (some (.int .i64 x)) (some (.int .i64 y)) none).run Tryd.prog W = .ok (.slice ao' m (cap - k)) W) ∧ SlL w ao' ((l.drop k).take m) := by
  subst hx hy
  refine ⟨if cap = k then ao else ao.map (·.add (k * 1)), fun W => ?_, fun hn => ?_⟩
  · rw [run_slice_lh W 23 ao len cap Tryd.underlying23 .i64 .i64 (k : Int) ((k + m : Nat) : Int) (by omega) (by omega) (by omega)]
    have hz : (sizeOf (Tryd.prog.elem 23)).run Tryd.prog W = .ok 1 W := Tryd.sizeOf5 W
    rw [hz]
    simp only [Result.andThen, sliced, Int.toNat_natCast]
    rw [show k + m - k = m by omega]
  · have hn2 := hn
    rw [List.length_take, List.length_drop] at hn2
    obtain ⟨b, o, rfl, hlt, hcell⟩ := hs (by omega)
    rw [if_neg (by omega)]
    obtain ⟨b', o', e, h1, h2⟩ := (SlL.part (w := w) (b := b) (o := o) (k := k) (l := l) m (fun _ => ⟨b, o, rfl, hlt, hcell⟩) (by omega)) hn
    refine ⟨b', o', ?_, h1, h2⟩
    rw [← e, Option.map_some, Nat.mul_one, addr_add]
theorem openSize_some (b : List UInt8) (n : List (List UInt8)) (ao : Option Addr) (len cap : Nat) (w : World) (hl : Hid (b.length = len)) (hs : SlL w ao b) (hm : len ≤ 1000000000) (hr : Hid (N.opn b = some n)) :
    Calls Tryd.prog 26 #[.slice ao len cap] w fun e w' => e = .returned (.tuple #[.int .i64 (N.size n : Int), .bool true]) ∧ w' = w :=
  (openSize_any b ao len cap w hl hs hm).mono fun _ _ h => by rw [hr.out] at h; exact h
theorem openSize_none (b : List UInt8) (ao : Option Addr) (len cap : Nat) (w : World) (hl : Hid (b.length = len)) (hs : SlL w ao b) (hm : len ≤ 1000000000) (hr : Hid (N.opn b = none)) :
    Calls Tryd.prog 26 #[.slice ao len cap] w fun e w' => e = .returned (.tuple #[.int .i64 0, .bool false]) ∧ w' = w :=
  (openSize_any b ao len cap w hl hs hm).mono fun _ _ h => by rw [hr.out] at h; exact h
/- what an opening answers -/
def Opened (b : List UInt8) (B : Nat) (w : World) (e : Ending) (w' : World) : Prop :=
  ((∃ n v, N.opn b = some n ∧ N.size n ≤ 255 ∧ e = .returned (.tuple #[v, .int .i64 (N.size n : Int), .int .i64 0]) ∧ OwnS w' B v n) ∨ (N.opn b = none ∧ e = .returned (.tuple #[.slice none 0 0, .int .i64 0, .int .i64 30])) ∨
    (∃ n, N.opn b = some n ∧ 255 < N.size n ∧ e = .returned (.tuple #[.slice none 0 0, .int .i64 0, .int .i64 31]))) ∧ Below B w w'
set_option maxRecDepth 3000 in
set_option maxHeartbeats 400000 in
theorem open_any (b : List UInt8) (ao : Option Addr) (len cap : Nat) (w : World) (hl : Hid (b.length = len)) (hs : SlL w ao b) (hm : len ≤ 1000000000) (hcap : len ≤ cap) :
    Calls Tryd.prog 14 #[.slice ao len cap] w fun e w' => Opened b w.heap.size w e w' := by
  have HS := hide hs
  clear hs
  obtain ⟨r, hr⟩ : ∃ r, N.opn b = r := ⟨_, rfl⟩
  have HR := hide hr
  clear hr
  cases r with
  | none =>
    go_enter Tryd.func14, Tryd.ntmps14
    go_wp2_with (go_at_call 26; refine (openSize_none b ao len cap _ hl HS.out hm HR).mono ?_; rintro e w1 ⟨rfl, rfl⟩)
    go_ret3
    exact ⟨Or.inr (Or.inl ⟨HR.out, rfl⟩), Below.refl _ _⟩
  | some n0 =>
    obtain ⟨he0, h63, hszb⟩ := N.opn_small b n0 HR.out
    rw [hl.out] at hszb
    have hpos : 1 ≤ N.size n0 := by unfold N.size; omega
    by_cases h255 : 255 < N.size n0
    · clear he0 h63
      go_enter Tryd.func14, Tryd.ntmps14
      go_wp2_with (go_at_call 26; refine (openSize_some b n0 ao len cap _ hl HS.out hm HR).mono ?_; rintro e w1 ⟨rfl, rfl⟩)
      go_ret3
      exact ⟨Or.inr (Or.inr ⟨n0, HR.out, h255, rfl⟩), Below.refl _ _⟩
    · clear he0 h63
      go_enter Tryd.func14, Tryd.ntmps14
      go_wp2_with (go_at_call 26; refine (openSize_some b n0 ao len cap _ hl HS.out hm HR).mono ?_; rintro e w1 ⟨rfl, rfl⟩)
      go_loopw [8, 7] (fun i v wr => ∃ (j : Nat) (n m : List (List UInt8)), i = .int .i64 (j : Int) ∧ j < len ∧ Hid (N.opn (b.drop j) = some m) ∧ Hid (n0 = n ++ m) ∧ n.length ≤ j ∧ OwnS wr w1.heap.size v n ∧ Below w1.heap.size w1 wr) (fun i _ _ => len - (intOf i).toNat)
      case atStart => exact ⟨0, [], n0, rfl, by omega, HR, rfl, by simp, OwnS.nil _ _, Below.refl _ _⟩
      case round =>
        obtain ⟨j, n, m, rfl, hj, HO, HN, hnl, hO, hB⟩ := hrel
        have hz := hB.size
        obtain ⟨b1, o1, rfl, hb1, hc1⟩ := HS.out (by have := hl.out; omega)
        have hx := (hB.cell (p := ⟨b1, o1 + j, none⟩) hb1).trans (hc1 j (by have := hl.out; omega))
        have hz0 := N.opn_zero b j (by have := hl.out; omega)
        have hgr := N.opn_great b j (by have := hl.out; omega)
        have hnx := N.opn_next b j (by have := hl.out; omega)
        clear hc1
        have hk := (b.getD j 0).toNat_lt
        generalize (b.getD j 0).toNat = k at hx hz0 hgr hnx hk
        by_cases h0 : k = 0
        · have HM : Hid (n0 = n) := by
            have := hz0 h0
            rw [HO.out] at this
            cases this
            have h2 := HN.out
            rw [List.append_nil] at h2; exact h2
          clear hz0 hgr hnx HN
          subst h0
          go_wp2
          go_ret3
          have e := HM.out
          subst e
          exact ⟨Or.inl ⟨n0, _, HR.out, by omega, rfl, hO⟩, hB⟩
        · have h63 : k ≤ 63 := by
            rcases Nat.lt_or_ge 63 k with h | h
            · have := hgr h
              rw [HO.out] at this; cases this
            · exact h
          have h1 := hnx h0 h63
          rw [HO.out] at h1
          have h2 := h1.symm
          rw [Option.map_eq_some_iff] at h2
          obtain ⟨m', hm', hmm⟩ := h2
          have hkl : j + 1 + k < len := by
            rcases Nat.lt_or_ge (j + 1 + k) len with h | h
            · exact h
            · rw [N.opn_out b _ (by have := hl.out; omega)] at hm'; cases hm'
          obtain ⟨ao', hsl, hs'⟩ := slice_mid (k := j + 1) (m := k) (x := (j : Int) + 1) (y := (j : Int) + 1 + (k : Int)) (by omega) (by omega) (HS.out.below hB (Nat.le_refl _)) hl.out (by omega) hcap
          have hst := run_str k (cap - (j + 1)) hs' (by rw [List.length_take, List.length_drop, hl.out]; omega)
          have HN2 : Hid (n0 = (n ++ [(b.drop (j + 1)).take k]) ++ m') := by rw [HN.out, ← hmm]; show _ = _; simp
          have HO2 := hide hm'
          generalize (b.drop (j + 1)).take k = x at hst HN2
          have hne : ((k : Int) != 0) = true := by simp; omega
          clear hz0 hgr hnx h1 hmm hm' hs' HN HO
          go_wp2_with (at_builtin; refine wpList_append_S rfl (.tmp 32) (.tmp 39) rfl w1.heap.size _ n rfl (by exact hO.alloc _) _ _ _ [x] rfl rfl (SlS.one _ _ _) (by simp; omega) (by simp; omega) ?_; intro v4 w4 hO4 hG4; have hB4 := grown_belowS (hO.alloc _) hG4 (hB.alloc hz _) (by simp; omega); clear hG4 hO)
          go_roundw
          case rel => exact ⟨j + 1 + k, _, m', by go_num, by omega, HO2, HN2, by simp; omega, hO4, hB4⟩
          case measure => simp [intOf]; omega
end Go.Proofs.YtecikfdnnjinpabDoor
