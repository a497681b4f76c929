/- signetref3.CheckData. -/
import Derived.Test.YtagopkmehlpjpaaRefS
import Derived.Test.YtagopkmehlpjpaaRefI
import Derived.Test.YtagopkmehlpjpaaRefH
namespace Go.Proofs.Ytagopkmehlpjpaa
open Go.RowKit
namespace D
def ok (t : Nat) (b : List UInt8) : Bool := (can t b).any fun p => decide (p.2 = [])
set_option maxRecDepth 5000 in
theorem code_ok {t : Nat} {b : List UInt8} (h : b.length ≤ 8192) : codeOf (full b (can t b)) = if ok t b then 0 else 50 := by
  unfold ok full
  rw [if_neg (by omega)]
  cases can t b with
  | none => rfl
  | some p => by_cases hp : p.2 = [] <;> simp [hp, codeOf]
set_option maxRecDepth 5000 in
theorem code_map {α β : Type} (l : List UInt8) (o : Option (α × List UInt8)) (f : α → β) : codeOf (full l (o.map fun p => (f p.1, p.2))) = codeOf (full l o) := by
  unfold full
  split
  · rfl
  · cases o with
    | none => rfl
    | some p => by_cases hp : p.2 = [] <;> simp [hp, codeOf]
set_option maxRecDepth 5000 in
theorem by_is (k : Nat) (b : List UInt8) : ((by_ k b).any fun p => decide (p.2 = [])) = decide (b.length = k) := by
  unfold by_
  split
  · rename_i h; simp; omega
  · rename_i h
    simp only [Option.any_some, List.drop_eq_nil_iff, decide_eq_decide]
    omega
set_option maxRecDepth 5000 in
theorem ok_1 (b : List UInt8) : ok 1 b = decide (b.length = 4) := by_is 4 b
set_option maxRecDepth 5000 in
theorem ok_28 (b : List UInt8) : ok 28 b = decide (b.length = 16) := by_is 16 b
set_option maxRecDepth 5000 in
theorem small_is (b : List UInt8) : ((small b).any fun p => decide (p.2 = [])) = wholeB b := by
  unfold small wholeB
  cases nm b <;> rfl
set_option maxRecDepth 5000 in
theorem ok_2 (b : List UInt8) : ok 2 b = wholeB b := small_is b
set_option maxRecDepth 5000 in
theorem ok_5 (b : List UInt8) : ok 5 b = wholeB b := small_is b
set_option maxRecDepth 5000 in
theorem whole_nil : wholeB [] = false := by simp [wholeB, nm, N.opn]
set_option maxRecDepth 5000 in
theorem ok_15 (b : List UInt8) : ok 15 b = (decide (2 < b.length) && wholeB (b.drop 2)) := by
  have e : can 15 b = (by_ 2 b).bind fun p => (small p.2).map fun q => (p.1 ++ q.1, q.2) := rfl
  unfold ok
  rw [e]
  unfold by_
  split
  · rename_i h; simp; intro; omega
  · rename_i h
    rw [← small_is]
    simp only [Option.bind_some]
    have g : (((small (b.drop 2)).map fun q => (b.take 2 ++ q.1, q.2)).any fun p => decide (p.2 = [])) = (small (b.drop 2)).any fun p => decide (p.2 = []) := by cases small (b.drop 2) <;> rfl
    rw [g]
    by_cases h2 : 2 < b.length
    · simp [h2]
    · have : b.drop 2 = [] := List.drop_eq_nil_of_le (by omega)
      rw [this, small_is, whole_nil]; simp
def tz (l : List UInt8) : Bool := decide (l = []) || tok l
set_option maxRecDepth 5000 in
theorem tz_next (b : List UInt8) (j : Nat) (h : j < b.length) :
    (j + 1 + (b.getD j 0).toNat ≤ b.length ∧ tz (b.drop j) = tz (b.drop (j + 1 + (b.getD j 0).toNat))) ∨ (b.length < j + 1 + (b.getD j 0).toNat ∧ tz (b.drop j) = false) := by
  have hd : b.drop j = b.getD j 0 :: b.drop (j + 1) := by
    rw [List.drop_eq_getElem_cons h]
    congr 1
    simp [List.getD_eq_getElem?_getD, h]
  generalize b.getD j 0 = k at hd
  have hr : (b.drop (j + 1)).length = b.length - (j + 1) := List.length_drop
  rw [hd]
  rcases Nat.lt_or_ge (b.drop (j + 1)).length k.toNat with h1 | h1
  · right
    refine ⟨by omega, ?_⟩
    unfold tz
    rw [tok, if_pos h1]; simp
  · left
    refine ⟨by omega, ?_⟩
    have e : b.drop (j + 1 + k.toNat) = (b.drop (j + 1)).drop k.toNat := by rw [List.drop_drop]
    rw [e]
    unfold tz
    rw [tok, if_neg (by omega)]
    split
    · rename_i h2
      have : (b.drop (j + 1)).drop k.toNat = [] := List.drop_eq_nil_of_le (by omega)
      rw [this]; simp
    · rename_i h2
      have : (b.drop (j + 1)).drop k.toNat ≠ [] := fun q => by rw [List.drop_eq_nil_iff] at q; omega
      rw [decide_eq_false this]
      simp
set_option maxRecDepth 5000 in
theorem tz_tok (b : List UInt8) (h : b ≠ []) : tok b = tz b := by unfold tz; simp [h]
set_option maxRecDepth 5000 in
theorem ok_16 (b : List UInt8) : ok 16 b = tok b := by
  have e : can 16 b = txt b := rfl
  unfold ok
  rw [e]
  unfold txt
  split
  · rename_i h; rw [h]; rfl
  · rename_i h; simp at h; rw [h]; rfl
set_option maxRecDepth 5000 in
theorem ok_43 (b : List UInt8) : ok 43 b = decide (5 ≤ b.length) := by
  have e : can 43 b = (by_ 5 b).map fun p => (p.1 ++ p.2, []) := rfl
  unfold ok
  rw [e]
  unfold by_
  split
  · rename_i h; simp; omega
  · rename_i h; simp; omega
set_option maxRecDepth 5000 in
theorem ok_51 (b : List UInt8) : ok 51 b = (decide (5 ≤ b.length) && decide (b.length = 5 + (b.getD 4 0).toNat)) := by
  have e : can 51 b = (by_ 4 b).bind fun p => (cnt p.2).map fun q => (p.1 ++ pc q.1, q.2) := rfl
  unfold ok
  rw [e]
  match b with
  | [] => rfl
  | [_] => rfl
  | [_, _] => rfl
  | [_, _, _] => rfl
  | [_, _, _, _] => rfl
  | x0 :: x1 :: x2 :: x3 :: x4 :: r =>
    have e1 : by_ 4 (x0 :: x1 :: x2 :: x3 :: x4 :: r) = some ([x0, x1, x2, x3], x4 :: r) := by
      unfold by_; rw [if_neg (by simp)]; rfl
    rw [e1]
    simp only [Option.bind_some]
    have e2 : cnt (x4 :: r) = by_ x4.toNat r := rfl
    have g : (((cnt (x4 :: r)).map fun q => ([x0, x1, x2, x3] ++ pc q.1, q.2)).any fun p => decide (p.2 = [])) = (cnt (x4 :: r)).any fun p => decide (p.2 = []) := by cases cnt (x4 :: r) <;> rfl
    rw [g, e2, by_is]
    simp
    omega
end D
set_option maxHeartbeats 400000 in
set_option maxRecDepth 5000 in
theorem chk_1 (b : List UInt8) (ao : Option Addr) (len cap : Nat) (w : World) (hl : Hid (b.length = len)) (_hs : SlL w ao b) (_hc : len ≤ cap) (_hnil : ao = none → cap = 0) (h8 : len ≤ 8192) :
    Calls Try.prog 15 #[.int .u16 1, .slice ao len cap] w fun e w' => e = .returned (.int .i64 (codeOf (D.full b (D.can 1 b)))) ∧ Below w.heap.size w w' := by
  have hlen := hl.out
  have HC : Hid (codeOf (D.full b (D.can 1 b)) = if D.ok 1 b then 0 else 50) := D.code_ok (by omega)
  have h9 : ¬ (8192 : Int) < (len : Int) := by omega
  clear _hs
  by_cases h : len = 4
  · have HK : Hid (D.ok 1 b = true) := by show _ = _; rw [D.ok_1]; exact decide_eq_true (by omega)
    have e1 : ((len : Int) == 4) = true := beq_iff_eq.2 (by omega)
    go_enter Try.func15, Try.ntmps15
    go_wp2
    go_ret
    exact ⟨by rw [HC.out, HK.out]; rfl, Below.refl _ _⟩
  · have HK : Hid (D.ok 1 b = false) := by show _ = _; rw [D.ok_1]; exact decide_eq_false (by omega)
    have e1 : ((len : Int) == 4) = false := beq_eq_false_iff_ne.2 (by omega)
    go_enter Try.func15, Try.ntmps15
    go_wp2
    go_ret
    exact ⟨by rw [HC.out, HK.out]; rfl, Below.refl _ _⟩
set_option maxHeartbeats 400000 in
set_option maxRecDepth 5000 in
theorem chk_28 (b : List UInt8) (ao : Option Addr) (len cap : Nat) (w : World) (hl : Hid (b.length = len)) (_hs : SlL w ao b) (_hc : len ≤ cap) (_hnil : ao = none → cap = 0) (h8 : len ≤ 8192) :
    Calls Try.prog 15 #[.int .u16 28, .slice ao len cap] w fun e w' => e = .returned (.int .i64 (codeOf (D.full b (D.can 28 b)))) ∧ Below w.heap.size w w' := by
  have hlen := hl.out
  have HC : Hid (codeOf (D.full b (D.can 28 b)) = if D.ok 28 b then 0 else 50) := D.code_ok (by omega)
  have h9 : ¬ (8192 : Int) < (len : Int) := by omega
  clear _hs
  by_cases h : len = 16
  · have HK : Hid (D.ok 28 b = true) := by show _ = _; rw [D.ok_28]; exact decide_eq_true (by omega)
    have e1 : ((len : Int) == 16) = true := beq_iff_eq.2 (by omega)
    go_enter Try.func15, Try.ntmps15
    go_wp2
    go_ret
    exact ⟨by rw [HC.out, HK.out]; rfl, Below.refl _ _⟩
  · have HK : Hid (D.ok 28 b = false) := by show _ = _; rw [D.ok_28]; exact decide_eq_false (by omega)
    have e1 : ((len : Int) == 16) = false := beq_eq_false_iff_ne.2 (by omega)
    go_enter Try.func15, Try.ntmps15
    go_wp2
    go_ret
    exact ⟨by rw [HC.out, HK.out]; rfl, Below.refl _ _⟩
set_option maxHeartbeats 400000 in
set_option maxRecDepth 5000 in
theorem chk_2 (b : List UInt8) (ao : Option Addr) (len cap : Nat) (w : World) (hl : Hid (b.length = len)) (hs : SlL w ao b) (hc : len ≤ cap) (_hnil : ao = none → cap = 0) (h8 : len ≤ 8192) :
    Calls Try.prog 15 #[.int .u16 2, .slice ao len cap] w fun e w' => e = .returned (.int .i64 (codeOf (D.full b (D.can 2 b)))) ∧ Below w.heap.size w w' := by
  have hlen := hl.out
  have HC : Hid (codeOf (D.full b (D.can 2 b)) = if D.ok 2 b then 0 else 50) := D.code_ok (by omega)
  have HK : Hid (D.ok 2 b = wholeB b) := D.ok_2 b
  have h9 : ¬ (8192 : Int) < (len : Int) := by omega
  have HS := hide hs
  clear hs
  go_enter Try.func15, Try.ntmps15
  go_wp2_with fail
  refine (whole_any b ao len cap _ hl (by exact HS.out) (by omega) hc).mono ?_
  rintro e w1 ⟨rfl, hb⟩
  generalize wholeB b = x at HK ⊢
  cases x
  · go_wp2
    go_ret
    exact ⟨by rw [HC.out, HK.out]; rfl, hb⟩
  · go_wp2
    go_ret
    exact ⟨by rw [HC.out, HK.out]; rfl, hb⟩
set_option maxHeartbeats 400000 in
set_option maxRecDepth 5000 in
theorem chk_5 (b : List UInt8) (ao : Option Addr) (len cap : Nat) (w : World) (hl : Hid (b.length = len)) (hs : SlL w ao b) (hc : len ≤ cap) (_hnil : ao = none → cap = 0) (h8 : len ≤ 8192) :
    Calls Try.prog 15 #[.int .u16 5, .slice ao len cap] w fun e w' => e = .returned (.int .i64 (codeOf (D.full b (D.can 5 b)))) ∧ Below w.heap.size w w' := by
  have hlen := hl.out
  have HC : Hid (codeOf (D.full b (D.can 5 b)) = if D.ok 5 b then 0 else 50) := D.code_ok (by omega)
  have HK : Hid (D.ok 5 b = wholeB b) := D.ok_5 b
  have h9 : ¬ (8192 : Int) < (len : Int) := by omega
  have HS := hide hs
  clear hs
  go_enter Try.func15, Try.ntmps15
  go_wp2_with fail
  refine (whole_any b ao len cap _ hl (by exact HS.out) (by omega) hc).mono ?_
  rintro e w1 ⟨rfl, hb⟩
  generalize wholeB b = x at HK ⊢
  cases x
  · go_wp2
    go_ret
    exact ⟨by rw [HC.out, HK.out]; rfl, hb⟩
  · go_wp2
    go_ret
    exact ⟨by rw [HC.out, HK.out]; rfl, hb⟩
set_option maxHeartbeats 400000 in
set_option maxRecDepth 5000 in
theorem chk_15 (b : List UInt8) (ao : Option Addr) (len cap : Nat) (w : World) (hl : Hid (b.length = len)) (hs : SlL w ao b) (hc : len ≤ cap) (_hnil : ao = none → cap = 0) (h8 : len ≤ 8192) :
    Calls Try.prog 15 #[.int .u16 15, .slice ao len cap] w fun e w' => e = .returned (.int .i64 (codeOf (D.full b (D.can 15 b)))) ∧ Below w.heap.size w w' := by
  have hlen := hl.out
  have HC : Hid (codeOf (D.full b (D.can 15 b)) = if D.ok 15 b then 0 else 50) := D.code_ok (by omega)
  have HK : Hid (D.ok 15 b = (decide (2 < b.length) && wholeB (b.drop 2))) := D.ok_15 b
  have h9 : ¬ (8192 : Int) < (len : Int) := by omega
  by_cases h2 : 2 < len
  · obtain ⟨blk, o, rfl, hblt, hcell⟩ := hs (by omega)
    obtain ⟨ad2, r2, s2⟩ := cut_tl 2 hs hl.out (by omega) hc
    replace r2 : ∀ W, (Instr.slice 23 (.slice (some ⟨blk, o, none⟩) len cap) (some (.int .i64 2)) none none).run Try.prog W = .ok (.slice (some ad2) (len - 2) (cap - 2)) W := r2
    have S2 := hide s2
    have hd : Hid ((b.drop 2).length = len - 2) := by show _ = _; rw [List.length_drop]; omega
    rw [hlen, decide_eq_true h2, Bool.true_and] at HK
    have i2 : (2 : Int) < (len : Int) := by omega
    clear hs hcell s2 h2
    go_enter Try.func15, Try.ntmps15
    go_wp2_with fail
    refine (whole_any (b.drop 2) (some ad2) (len - 2) (cap - 2) _ hd (by exact S2.out) (by omega) (by omega)).mono ?_
    rintro e w1 ⟨rfl, hb⟩
    generalize wholeB (b.drop 2) = x at HK ⊢
    cases x
    · go_wp2
      go_ret
      exact ⟨by rw [HC.out, HK.out]; rfl, hb⟩
    · go_wp2
      go_ret
      exact ⟨by rw [HC.out, HK.out]; rfl, hb⟩
  · rw [hlen, decide_eq_false h2, Bool.false_and] at HK
    have i2 : ¬ (2 : Int) < (len : Int) := by omega
    clear hs h2
    go_enter Try.func15, Try.ntmps15
    go_wp2
    go_ret
    exact ⟨by rw [HC.out, HK.out]; rfl, Below.refl _ _⟩
set_option maxHeartbeats 400000 in
set_option maxRecDepth 5000 in
theorem chk_6 (b : List UInt8) (ao : Option Addr) (len cap : Nat) (w : World) (hl : Hid (b.length = len)) (hs : SlL w ao b) (hc : len ≤ cap) (hnil : ao = none → cap = 0) (h8 : len ≤ 8192) :
    Calls Try.prog 15 #[.int .u16 6, .slice ao len cap] w fun e w' => e = .returned (.int .i64 (codeOf (D.full b (D.can 6 b)))) ∧ Below w.heap.size w w' := by
  have HC : Hid (codeOf (D.full b (D.can 6 b)) = codeOf (D.full b (D.soa b))) := D.code_map b (D.soa b) (fun p => D.soaB p.low)
  have h9 : ¬ (8192 : Int) < (len : Int) := by omega
  have HS := hide hs
  clear hs
  go_enter Try.func15, Try.ntmps15
  go_wp2_with fail
  refine (sSoa_any b ao len cap _ hl (by exact HS.out) hc hnil h8).mono ?_
  rintro e w1 ⟨⟨x, v, ho, rfl, hv⟩ | ⟨ho, rfl⟩, hb⟩
  · have HO := hide ho
    obtain ⟨_, _, _, _, rfl, _⟩ := hv
    clear ho
    go_wp2
    go_ret
    exact ⟨by rw [HC.out, HO.out]; rfl, hb.alloc hb.size _⟩
  · have HO := hide ho
    clear ho
    go_wp2
    go_ret
    exact ⟨by rw [HC.out, HO.out]; rfl, hb.alloc hb.size _⟩
set_option maxHeartbeats 400000 in
set_option maxRecDepth 5000 in
theorem chk_46 (b : List UInt8) (ao : Option Addr) (len cap : Nat) (w : World) (hl : Hid (b.length = len)) (hs : SlL w ao b) (hc : len ≤ cap) (hnil : ao = none → cap = 0) (h8 : len ≤ 8192) :
    Calls Try.prog 15 #[.int .u16 46, .slice ao len cap] w fun e w' => e = .returned (.int .i64 (codeOf (D.full b (D.can 46 b)))) ∧ Below w.heap.size w w' := by
  have HC : Hid (codeOf (D.full b (D.can 46 b)) = codeOf (D.full b (D.sig b))) := D.code_map b (D.sig b) (fun p => D.sigB p.low)
  have h9 : ¬ (8192 : Int) < (len : Int) := by omega
  have HS := hide hs
  clear hs
  go_enter Try.func15, Try.ntmps15
  go_wp2_with fail
  refine (sSig_any b ao len cap _ hl (by exact HS.out) hc hnil h8).mono ?_
  rintro e w1 ⟨⟨x, v, ho, rfl, hv⟩ | ⟨ho, rfl⟩, hb⟩
  · have HO := hide ho
    obtain ⟨_, _, _, _, rfl, _⟩ := hv
    clear ho
    go_wp2
    go_ret
    exact ⟨by rw [HC.out, HO.out]; rfl, hb.alloc hb.size _⟩
  · have HO := hide ho
    clear ho
    go_wp2
    go_ret
    exact ⟨by rw [HC.out, HO.out]; rfl, hb.alloc hb.size _⟩
set_option maxHeartbeats 400000 in
set_option maxRecDepth 5000 in
theorem chk_48 (b : List UInt8) (ao : Option Addr) (len cap : Nat) (w : World) (hl : Hid (b.length = len)) (hs : SlL w ao b) (hc : len ≤ cap) (_hnil : ao = none → cap = 0) (h8 : len ≤ 8192) :
    Calls Try.prog 15 #[.int .u16 48, .slice ao len cap] w fun e w' => e = .returned (.int .i64 (codeOf (D.full b (D.can 48 b)))) ∧ Below w.heap.size w w' := by
  have HC : Hid (codeOf (D.full b (D.can 48 b)) = codeOf (D.full b (D.key b))) := D.code_map b (D.key b) (D.keyB)
  have h9 : ¬ (8192 : Int) < (len : Int) := by omega
  have HS := hide hs
  clear hs
  go_enter Try.func15, Try.ntmps15
  go_wp2_with fail
  refine (sKey_any b ao len cap _ hl (by exact HS.out) hc h8).mono ?_
  rintro e w1 ⟨⟨x, v, ho, rfl, hv⟩ | ⟨ho, rfl⟩, hb⟩
  · have HO := hide ho
    obtain ⟨_, _, rfl, _⟩ := hv
    clear ho
    go_wp2
    go_ret
    exact ⟨by rw [HC.out, HO.out]; rfl, hb.alloc hb.size _⟩
  · have HO := hide ho
    clear ho
    go_wp2
    go_ret
    exact ⟨by rw [HC.out, HO.out]; rfl, hb.alloc hb.size _⟩
set_option maxHeartbeats 400000 in
set_option maxRecDepth 5000 in
theorem chk_50 (b : List UInt8) (ao : Option Addr) (len cap : Nat) (w : World) (hl : Hid (b.length = len)) (hs : SlL w ao b) (hc : len ≤ cap) (_hnil : ao = none → cap = 0) (h8 : len ≤ 8192) :
    Calls Try.prog 15 #[.int .u16 50, .slice ao len cap] w fun e w' => e = .returned (.int .i64 (codeOf (D.full b (D.can 50 b)))) ∧ Below w.heap.size w w' := by
  have HC : Hid (codeOf (D.full b (D.can 50 b)) = codeOf (D.full b (D.chain b))) := D.code_map b (D.chain b) (D.chainB)
  have h9 : ¬ (8192 : Int) < (len : Int) := by omega
  have HS := hide hs
  clear hs
  go_enter Try.func15, Try.ntmps15
  go_wp2_with fail
  refine (sChain_any b ao len cap _ hl (by exact HS.out) hc h8).mono ?_
  rintro e w1 ⟨⟨x, v, ho, rfl, hv⟩ | ⟨ho, rfl⟩, hb⟩
  · have HO := hide ho
    obtain ⟨_, _, _, _, _, _, rfl, _⟩ := hv
    clear ho
    go_wp2
    go_ret
    exact ⟨by rw [HC.out, HO.out]; rfl, hb.alloc hb.size _⟩
  · have HO := hide ho
    clear ho
    go_wp2
    go_ret
    exact ⟨by rw [HC.out, HO.out]; rfl, hb.alloc hb.size _⟩
set_option maxHeartbeats 400000 in
set_option maxRecDepth 5000 in
theorem chk_43 (b : List UInt8) (ao : Option Addr) (len cap : Nat) (w : World) (hl : Hid (b.length = len)) (_hs : SlL w ao b) (_hc : len ≤ cap) (_hnil : ao = none → cap = 0) (h8 : len ≤ 8192) :
    Calls Try.prog 15 #[.int .u16 43, .slice ao len cap] w fun e w' => e = .returned (.int .i64 (codeOf (D.full b (D.can 43 b)))) ∧ Below w.heap.size w w' := by
  have hlen := hl.out
  have HC : Hid (codeOf (D.full b (D.can 43 b)) = if D.ok 43 b then 0 else 50) := D.code_ok (by omega)
  have h9 : ¬ (8192 : Int) < (len : Int) := by omega
  clear _hs
  by_cases h : 5 ≤ len
  · have HK : Hid (D.ok 43 b = true) := by show _ = _; rw [D.ok_43]; exact decide_eq_true (by omega)
    have e1 : (5 : Int) ≤ (len : Int) := by omega
    go_enter Try.func15, Try.ntmps15
    go_wp2
    go_ret
    exact ⟨by rw [HC.out, HK.out]; rfl, Below.refl _ _⟩
  · have HK : Hid (D.ok 43 b = false) := by show _ = _; rw [D.ok_43]; exact decide_eq_false (by omega)
    have e1 : ¬ (5 : Int) ≤ (len : Int) := by omega
    go_enter Try.func15, Try.ntmps15
    go_wp2
    go_ret
    exact ⟨by rw [HC.out, HK.out]; rfl, Below.refl _ _⟩
set_option maxHeartbeats 400000 in
set_option maxRecDepth 5000 in
theorem chk_51 (b : List UInt8) (ao : Option Addr) (len cap : Nat) (w : World) (hl : Hid (b.length = len)) (hs : SlL w ao b) (_hc : len ≤ cap) (_hnil : ao = none → cap = 0) (h8 : len ≤ 8192) :
    Calls Try.prog 15 #[.int .u16 51, .slice ao len cap] w fun e w' => e = .returned (.int .i64 (codeOf (D.full b (D.can 51 b)))) ∧ Below w.heap.size w w' := by
  have hlen := hl.out
  have HC : Hid (codeOf (D.full b (D.can 51 b)) = if D.ok 51 b then 0 else 50) := D.code_ok (by omega)
  have hk := D.ok_51 b
  have h9 : ¬ (8192 : Int) < (len : Int) := by omega
  by_cases h : 5 ≤ len
  · have e1 : (5 : Int) ≤ (len : Int) := by omega
    obtain ⟨blk, o, rfl, hblt, hcell⟩ := hs (by omega)
    have c4 := hcell 4 (by omega)
    have hy := (b.getD 4 0).toNat_lt
    rw [hlen, decide_eq_true h, Bool.true_and] at hk
    generalize (b.getD 4 0).toNat = y at hk c4 hy
    have i4 : (4 : Int) < (len : Int) := by omega
    clear hs hcell
    by_cases h5 : len = 5 + y
    · have HK : Hid (D.ok 51 b = true) := by show _ = _; rw [hk]; exact decide_eq_true h5
      have e2 : ((len : Int) == 5 + (y : Int)) = true := beq_iff_eq.2 (by omega)
      clear hk
      go_enter Try.func15, Try.ntmps15
      go_wp2
      go_ret
      exact ⟨by rw [HC.out, HK.out]; rfl, Below.refl _ _⟩
    · have HK : Hid (D.ok 51 b = false) := by show _ = _; rw [hk]; exact decide_eq_false h5
      have e2 : ((len : Int) == 5 + (y : Int)) = false := beq_eq_false_iff_ne.2 (by omega)
      clear hk
      go_enter Try.func15, Try.ntmps15
      go_wp2
      go_ret
      exact ⟨by rw [HC.out, HK.out]; rfl, Below.refl _ _⟩
  · have HK : Hid (D.ok 51 b = false) := by show _ = _; rw [hk, hlen, decide_eq_false h, Bool.false_and]
    have e1 : ¬ (5 : Int) ≤ (len : Int) := by omega
    clear hs hk
    go_enter Try.func15, Try.ntmps15
    go_wp2
    go_ret
    exact ⟨by rw [HC.out, HK.out]; rfl, Below.refl _ _⟩
set_option maxHeartbeats 400000 in
set_option maxRecDepth 5000 in
theorem chk_16 (b : List UInt8) (ao : Option Addr) (len cap : Nat) (w : World) (hl : Hid (b.length = len)) (hs : SlL w ao b) (_hc : len ≤ cap) (_hnil : ao = none → cap = 0) (h8 : len ≤ 8192) :
    Calls Try.prog 15 #[.int .u16 16, .slice ao len cap] w fun e w' => e = .returned (.int .i64 (codeOf (D.full b (D.can 16 b)))) ∧ Below w.heap.size w w' := by
  have hlen := hl.out
  have HC : Hid (codeOf (D.full b (D.can 16 b)) = if D.ok 16 b then 0 else 50) := D.code_ok (by omega)
  have HK : Hid (D.ok 16 b = D.tok b) := D.ok_16 b
  have h9 : ¬ (8192 : Int) < (len : Int) := by omega
  have HS := hide hs
  clear hs
  go_enter Try.func15, Try.ntmps15
  go_wp2
  go_loopw [8] (fun i wr => ∃ j : Nat, i = .int .i64 (j : Int) ∧ j ≤ len + 256 ∧ Hid ((j ≤ b.length ∧ D.tz b = D.tz (b.drop j)) ∨ (b.length < j ∧ D.tz b = false)) ∧ wr = w) (fun i _ => len + 256 - (intOf i).toNat)
  case atStart => exact ⟨0, rfl, by omega, Or.inl ⟨by omega, rfl⟩, rfl⟩
  case round =>
    obtain ⟨j, rfl, hj, hI, rfl⟩ := hrel
    by_cases hlt : j < len
    · obtain ⟨b1, o1, rfl, hb1, hc1⟩ := HS.out (by omega)
      have hx := hc1 j (by omega)
      have hn := D.tz_next b j (by omega)
      have hy := (b.getD j 0).toNat_lt
      clear hc1
      generalize (b.getD j 0).toNat = y at hx hn hy
      have HN := hide hn
      clear hn
      have hjl : (j : Int) < (len : Int) := by omega
      go_wp2
      go_roundw
      case rel =>
        refine ⟨j + 1 + y, by go_num, by omega, ?_, trivial⟩
        rcases hI.out with ⟨_, h1⟩ | ⟨h1, _⟩
        · rcases HN.out with ⟨g1, g2⟩ | ⟨g1, g2⟩
          · exact Or.inl ⟨g1, h1.trans g2⟩
          · exact Or.inr ⟨g1, h1.trans g2⟩
        · omega
      case measure => simp [intOf]; omega
    · have hjl : ¬ (j : Int) < (len : Int) := by omega
      by_cases h0 : len = 0
      · have h00 : ¬ (0 : Int) < (len : Int) := by omega
        have hb : b = [] := List.eq_nil_of_length_eq_zero (by omega)
        have HT : Hid (D.tok b = false) := by show _ = _; rw [hb, D.tok]
        clear hb
        go_wp2
        go_ret
        exact ⟨by rw [HC.out, HK.out, HT.out]; rfl, Below.refl _ _⟩
      · have h00 : (0 : Int) < (len : Int) := by omega
        have hb : b ≠ [] := fun q => by rw [q] at hlen; simp at hlen; omega
        by_cases he : j = len
        · have HT : Hid (D.tok b = true) := by
            show _ = _
            rw [D.tz_tok b hb]
            rcases hI.out with ⟨_, h1⟩ | ⟨h1, _⟩
            · rw [h1, List.drop_eq_nil_of_le (by omega)]; rfl
            · omega
          have e2 : ((j : Int) == (len : Int)) = true := beq_iff_eq.2 (by omega)
          clear hI hb
          go_wp2
          go_ret
          exact ⟨by rw [HC.out, HK.out, HT.out]; rfl, Below.refl _ _⟩
        · have HT : Hid (D.tok b = false) := by
            show _ = _
            rw [D.tz_tok b hb]
            rcases hI.out with ⟨_, h1⟩ | ⟨_, h1⟩
            · omega
            · exact h1
          have e2 : ((j : Int) == (len : Int)) = false := beq_eq_false_iff_ne.2 (by omega)
          clear hI hb
          go_wp2
          go_ret
          exact ⟨by rw [HC.out, HK.out, HT.out]; rfl, Below.refl _ _⟩
set_option maxHeartbeats 400000 in
set_option maxRecDepth 5000 in
theorem chk_else (t : Nat) (b : List UInt8) (ao : Option Addr) (len cap : Nat) (w : World) (_hl : Hid (b.length = len)) (_hs : SlL w ao b) (_hc : len ≤ cap) (_hnil : ao = none → cap = 0) (h8 : len ≤ 8192) (h1 : t ≠ 1) (h28 : t ≠ 28) (h2 : t ≠ 2) (h5 : t ≠ 5) (h15 : t ≠ 15) (h6 : t ≠ 6) (h16 : t ≠ 16) (h43 : t ≠ 43) (h46 : t ≠ 46) (h48 : t ≠ 48) (h50 : t ≠ 50) (h51 : t ≠ 51) :
    Calls Try.prog 15 #[.int .u16 (t : Int), .slice ao len cap] w fun e w' => e = .returned (.int .i64 0) ∧ Below w.heap.size w w' := by
  have b1 : ((t : Int) == 1) = false := beq_eq_false_iff_ne.2 (by omega)
  have b28 : ((t : Int) == 28) = false := beq_eq_false_iff_ne.2 (by omega)
  have b2 : ((t : Int) == 2) = false := beq_eq_false_iff_ne.2 (by omega)
  have b5 : ((t : Int) == 5) = false := beq_eq_false_iff_ne.2 (by omega)
  have b15 : ((t : Int) == 15) = false := beq_eq_false_iff_ne.2 (by omega)
  have b6 : ((t : Int) == 6) = false := beq_eq_false_iff_ne.2 (by omega)
  have b16 : ((t : Int) == 16) = false := beq_eq_false_iff_ne.2 (by omega)
  have b43 : ((t : Int) == 43) = false := beq_eq_false_iff_ne.2 (by omega)
  have b46 : ((t : Int) == 46) = false := beq_eq_false_iff_ne.2 (by omega)
  have b48 : ((t : Int) == 48) = false := beq_eq_false_iff_ne.2 (by omega)
  have b50 : ((t : Int) == 50) = false := beq_eq_false_iff_ne.2 (by omega)
  have b51 : ((t : Int) == 51) = false := beq_eq_false_iff_ne.2 (by omega)
  have h9 : ¬ (8192 : Int) < (len : Int) := by omega
  clear h1 h28 h2 h5 h15 h6 h16 h43 h46 h48 h50 h51 _hs
  go_enter Try.func15, Try.ntmps15
  go_wp2
  go_ret
  exact ⟨rfl, Below.refl _ _⟩
set_option maxRecDepth 5000 in
theorem sCheck_any (t : Nat) (b : List UInt8) (ao : Option Addr) (len cap : Nat) (w : World) (hl : Hid (b.length = len)) (hs : SlL w ao b) (hc : len ≤ cap) (hnil : ao = none → cap = 0) (h8 : len ≤ 8192) :
    Calls Try.prog 15 #[.int .u16 (t : Int), .slice ao len cap] w fun e w' => e = .returned (.int .i64 (codeOf (D.full b (D.can t b)))) ∧ Below w.heap.size w w' := by
  by_cases h1 : t = 1
  · subst h1; exact chk_1 b ao len cap w hl hs hc hnil h8
  by_cases h28 : t = 28
  · subst h28; exact chk_28 b ao len cap w hl hs hc hnil h8
  by_cases h2 : t = 2
  · subst h2; exact chk_2 b ao len cap w hl hs hc hnil h8
  by_cases h5 : t = 5
  · subst h5; exact chk_5 b ao len cap w hl hs hc hnil h8
  by_cases h15 : t = 15
  · subst h15; exact chk_15 b ao len cap w hl hs hc hnil h8
  by_cases h6 : t = 6
  · subst h6; exact chk_6 b ao len cap w hl hs hc hnil h8
  by_cases h16 : t = 16
  · subst h16; exact chk_16 b ao len cap w hl hs hc hnil h8
  by_cases h43 : t = 43
  · subst h43; exact chk_43 b ao len cap w hl hs hc hnil h8
  by_cases h46 : t = 46
  · subst h46; exact chk_46 b ao len cap w hl hs hc hnil h8
  by_cases h48 : t = 48
  · subst h48; exact chk_48 b ao len cap w hl hs hc hnil h8
  by_cases h50 : t = 50
  · subst h50; exact chk_50 b ao len cap w hl hs hc hnil h8
  by_cases h51 : t = 51
  · subst h51; exact chk_51 b ao len cap w hl hs hc hnil h8
  have e : codeOf (D.full b (D.can t b)) = 0 := by
    have e1 : D.can t b = some (b, []) := by simp [D.can, h1, h28, h2, h5, h15, h6, h16, h43, h46, h48, h50, h51]
    rw [e1, D.full_some (by rw [hl.out]; exact h8) rfl]; rfl
  rw [e]
  exact chk_else t b ao len cap w hl hs hc hnil h8 h1 h28 h2 h5 h15 h6 h16 h43 h46 h48 h50 h51
end Go.Proofs.Ytagopkmehlpjpaa
