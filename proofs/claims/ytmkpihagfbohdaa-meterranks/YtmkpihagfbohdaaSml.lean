/- The small functions over floats, walked: bits and back, NaN, Order, Bits, told, the reference's. -/
import Derived.Test.YtmkpihagfbohdaaChecked
import Derived.Test.YtmkpihagfbohdaaFlo
import Derived.WalkKit
import Derived.WalkLawsBesides
import Derived.Laws.Externs
namespace Go.Proofs.Ytmkpihagfbohdaa
open Go.RowKit
set_option maxRecDepth 5000 in
theorem run_frombits (n : Int) (w : World) : (callFunc 33 #[.int .u64 n]).run Try.prog w = .ok (.value (.float .f64 n.toNat)) w := by
  rw [run_callFunc_extern (e := Extern.MathFloatBits.float64frombits) Try.func33 (by kernel_rfl) (by kernel_rfl) (by kernel_rfl) rfl]
  rfl
set_option maxRecDepth 5000 in
theorem run_tobits (n : Nat) (w : World) : (callFunc 35 #[.float .f64 n]).run Try.prog w = .ok (.value (.int .u64 n)) w := by
  rw [run_callFunc_extern (e := Extern.MathFloatBits.float64bits) Try.func35 (by kernel_rfl) (by kernel_rfl) (by kernel_rfl) rfl]
  rfl
set_option maxRecDepth 5000 in
theorem hnot (x : Bool) (w : World) : (Op.unary .not (.bool x)).run Try.prog w = .ok (.bool (!x)) w := rfl
namespace F
set_option maxRecDepth 5000 in
theorem order_self (a : Nat) : FloatKind.f64.format.order a a = if nan a then none else some .eq := by
  unfold nan Ieee.Format.order
  generalize FloatKind.f64.format.read a = d
  cases d with
  | number s m i => simp [Ieee.Datum.order, Ieee.Datum.isNaN]
  | infinity s => simp [Ieee.Datum.order, Ieee.Datum.isNaN]
  | nan s t => simp [Ieee.Datum.order, Ieee.Datum.isNaN]
set_option maxRecDepth 5000 in
theorem neq_self (a : Nat) : (FloatKind.f64.format.order a a != some .eq) = nan a := by
  rw [order_self]; cases nan a <;> rfl
set_option maxRecDepth 5000 in
theorem eql_self (a : Nat) : (FloatKind.f64.format.order a a == some .eq) = !nan a := by
  rw [order_self]; cases nan a <;> rfl
/- the bits by which it is told -/
def norm (b : Nat) : Nat := if nan b then 9221120237041090561 else b
set_option maxRecDepth 5000 in
theorem norm_lt {b : Nat} (h : b < 2 ^ 64) : norm b < 2 ^ 64 := by unfold norm; split <;> omega
set_option maxRecDepth 5000 in
theorem nan_told : nan 9221120237041090561 = true := by kernel_rfl
set_option maxRecDepth 5000 in
theorem nan_norm (b : Nat) : nan (norm b) = nan b := by
  unfold norm
  cases h : nan b
  · simp [h]
  · simp [nan_told]
set_option maxRecDepth 5000 in
theorem norm_norm (b : Nat) : norm (norm b) = norm b := by
  unfold norm
  cases h : nan b
  · simp [h]
  · simp [nan_told]
end F
set_option maxRecDepth 5000 in
theorem isNaN_any (a : Nat) (w : World) : Calls Try.prog 32 #[.float .f64 a] w fun e w' => e = .returned (.bool (F.nan a)) ∧ w' = w := by
  have h1 := F.neq_self a
  go_enter Try.func32, Try.ntmps32
  go_wp2
  go_ret
  exact ⟨rfl, rfl⟩
set_option maxRecDepth 5000 in
theorem rnan_any (a : Nat) (w : World) : Calls Try.prog 34 #[.float .f64 a] w fun e w' => e = .returned (.bool (F.nan a)) ∧ w' = w := by
  have h1 := F.neq_self a
  go_enter Try.func34, Try.ntmps34
  go_wp2
  go_ret
  exact ⟨rfl, rfl⟩
set_option maxRecDepth 5000 in
theorem bits_any (a : Nat) (w : World) : Calls Try.prog 13 #[.float .f64 a] w fun e w' => e = .returned (.int .u64 (F.norm a : Nat)) ∧ w' = w := by
  have hb := run_tobits a
  unfold F.norm
  cases hn : F.nan a
  all_goals
    go_enter Try.func13, Try.ntmps13
    go_wp2_with (go_at_call 32; refine (isNaN_any _ _).mono ?_; rintro e w' ⟨rfl, rfl⟩; rw [hn])
    go_ret
    exact ⟨rfl, rfl⟩
set_option maxRecDepth 5000 in
theorem rbits_any (a : Nat) (w : World) : Calls Try.prog 14 #[.float .f64 a] w fun e w' => e = .returned (.int .u64 (F.norm a : Nat)) ∧ w' = w := by
  have hb := run_tobits a
  unfold F.norm
  cases hn : F.nan a
  all_goals
    go_enter Try.func14, Try.ntmps14
    go_wp2_with (go_at_call 34; refine (rnan_any _ _).mono ?_; rintro e w' ⟨rfl, rfl⟩; rw [hn])
    go_ret
    exact ⟨rfl, rfl⟩
set_option maxRecDepth 5000 in
theorem at_any (n : Int) (w : World) : Calls Try.prog 11 #[.int .u64 n] w fun e w' => e = .returned (.float .f64 n.toNat) ∧ w' = w := by
  have hb := run_frombits n
  go_enter Try.func11, Try.ntmps11
  go_wp2
  go_ret
  exact ⟨rfl, rfl⟩
set_option maxRecDepth 5000 in
theorem same_any (a b : Nat) (w : World) : Calls Try.prog 16 #[.float .f64 a, .float .f64 b] w fun e w' => e = .returned (.bool ((F.norm a : Int) == (F.norm b : Int))) ∧ w' = w := by
  go_enter Try.func16, Try.ntmps16
  go_wp2_with (go_at_call 14; refine (rbits_any _ _).mono ?_; rintro e w' ⟨rfl, rfl⟩)
  go_ret
  exact ⟨rfl, rfl⟩
set_option maxRecDepth 5000 in
theorem nanF_any (w : World) : Calls Try.prog 28 #[] w fun e w' => e = .returned (.float .f64 9221120237041090561) ∧ w' = w := by
  have hb := run_frombits 9221120237041090561
  go_enter Try.func28, Try.ntmps28
  go_wp2
  go_ret
  exact ⟨rfl, rfl⟩
set_option maxRecDepth 5000 in
theorem told_any (a : Nat) (w : World) : Calls Try.prog 36 #[.float .f64 a] w fun e w' => e = .returned (.float .f64 (F.norm a)) ∧ w' = w := by
  have hb := run_frombits (F.norm a : Nat)
  go_enter Try.func36, Try.ntmps36
  go_wp2_with (go_at_call 13; refine (bits_any _ _).mono ?_; rintro e w' ⟨rfl, rfl⟩)
  go_ret
  exact ⟨rfl, rfl⟩
set_option maxRecDepth 5000 in
theorem one_any (b : Bool) (w : World) : Calls Try.prog 30 #[.bool b] w fun e w' => e = .returned (.int .i64 b.toNat) ∧ w' = w := by
  cases b
  all_goals
    go_enter Try.func30, Try.ntmps30
    go_wp2
    go_ret
    exact ⟨rfl, rfl⟩
set_option maxRecDepth 5000 in
theorem signbit_any (a : Nat) (ha : a < 2 ^ 64) (w : World) : Calls Try.prog 31 #[.float .f64 a] w fun e w' => e = .returned (.bool (decide (9223372036854775808 ≤ a))) ∧ w' = w := by
  have hb := run_tobits a
  obtain ⟨z, hw, hz⟩ : ∃ z, IntKind.i64.wrap (a : Int) = z ∧ decide (9223372036854775808 ≤ a) = decide (z < 0) := by
    refine ⟨_, rfl, ?_⟩
    rw [IntKind.wrap_i64]
    by_cases h : 9223372036854775808 ≤ a
    · rw [decide_eq_true h, decide_eq_true (by omega)]
    · rw [decide_eq_false h, decide_eq_false (by omega)]
  rw [hz]
  go_enter Try.func31, Try.ntmps31
  go_wp2
  go_ret
  exact ⟨rfl, rfl⟩
namespace F
/- where a number stands: NaN behind all, -0 ahead of 0 -/
def okey (b : Nat) : Int := if nan b then 18446744073709551616 else if b < 9223372036854775808 then (b : Int) else -((b : Int) - 9223372036854775808) - 1
def cmp (a b : Nat) : Int := if okey a < okey b then -1 else if okey b < okey a then 1 else 0
set_option maxRecDepth 5000 in
theorem okey_nan {b : Nat} (h : nan b = true) : okey b = 18446744073709551616 := by unfold okey; rw [h]; rfl
set_option maxRecDepth 5000 in
theorem okey_num {b : Nat} (h : nan b = false) : okey b = if b < 9223372036854775808 then (b : Int) else -((b : Int) - 9223372036854775808) - 1 := by unfold okey; rw [h]; rfl
set_option maxRecDepth 5000 in
theorem okey_lt {b : Nat} (hb : b < 2 ^ 64) (h : nan b = false) : okey b < 18446744073709551616 := by rw [okey_num h]; split <;> omega
set_option maxRecDepth 5000 in
theorem okey_inj {a b : Nat} (ha : a < 2 ^ 64) (hb : b < 2 ^ 64) (h : okey a = okey b) : norm a = norm b := by
  unfold norm
  cases na : nan a
  · cases nb : nan b
    · rw [okey_num na, okey_num nb] at h
      simp only [Bool.false_eq_true, if_false]
      split at h <;> split at h <;> omega
    · have := okey_lt ha na; rw [okey_nan nb] at h; omega
  · cases nb : nan b
    · have := okey_lt hb nb; rw [okey_nan na] at h; omega
    · rfl
set_option maxRecDepth 5000 in
theorem okey_norm {a : Nat} : okey (norm a) = okey a := by
  unfold norm
  cases na : nan a
  · simp
  · simp [okey_nan na, okey_nan nan_told]
set_option maxRecDepth 5000 in
theorem cmp_none {a b : Nat} (ha : a < 2 ^ 64) (hb : b < 2 ^ 64) (h : FloatKind.f64.format.order a b = none) : cmp a b = ((nan a).toNat : Int) - ((nan b).toNat : Int) := by
  rw [order_key ha hb] at h
  unfold cmp
  cases na : nan a
  · cases nb : nan b
    · rw [na, nb] at h; cases h
    · have := okey_lt ha na; rw [okey_nan nb, if_pos (by omega)]; rfl
  · cases nb : nan b
    · have := okey_lt hb nb; rw [okey_nan na, if_neg (by omega), if_pos (by omega)]; rfl
    · rw [okey_nan na, okey_nan nb]; rfl
set_option maxRecDepth 5000 in
theorem num_of {a b : Nat} (ha : a < 2 ^ 64) (hb : b < 2 ^ 64) {c : Ordering} (h : FloatKind.f64.format.order a b = some c) : nan a = false ∧ nan b = false ∧ compare (key a) (key b) = c := by
  rw [order_key ha hb] at h
  cases na : nan a
  · cases nb : nan b
    · rw [na, nb] at h
      simp only [Bool.or_self, Bool.false_eq_true, if_false, Option.some.injEq] at h
      exact ⟨rfl, rfl, h⟩
    · rw [na, nb] at h; cases h
  · rw [na] at h; simp at h
set_option maxRecDepth 5000 in
theorem key_okey {a : Nat} (h : nan a = false) : okey a = if a < 9223372036854775808 then key a else key a - 1 := by
  rw [okey_num h]; unfold key
  by_cases x : a < 9223372036854775808
  · rw [if_pos x, if_pos x, if_pos (by omega)]
  · rw [if_neg x, if_neg x, if_neg (by omega)]; omega
set_option maxRecDepth 5000 in
theorem key_sign (a : Nat) : (a < 9223372036854775808 → 0 ≤ key a) ∧ (¬ a < 9223372036854775808 → key a ≤ 0) := by
  unfold key
  constructor <;> intro x
  · rw [if_pos (by omega)]; omega
  · rw [if_neg (by omega)]; omega
set_option maxRecDepth 5000 in
theorem cmp_lt {a b : Nat} (ha : a < 2 ^ 64) (hb : b < 2 ^ 64) (h : FloatKind.f64.format.order a b = some .lt) : cmp a b = -1 := by
  obtain ⟨na, nb, hc⟩ := num_of ha hb h
  have hc := Int.compare_eq_lt.1 hc
  have ka := key_sign a
  have kb := key_sign b
  unfold cmp
  rw [key_okey na, key_okey nb, if_pos]
  by_cases xa : a < 9223372036854775808 <;> by_cases xb : b < 9223372036854775808
  · rw [if_pos xa, if_pos xb]; omega
  · have := ka.1 xa; have := kb.2 xb; omega
  · rw [if_neg xa, if_pos xb]; omega
  · rw [if_neg xa, if_neg xb]; omega
set_option maxRecDepth 5000 in
theorem cmp_gt {a b : Nat} (ha : a < 2 ^ 64) (hb : b < 2 ^ 64) (h : FloatKind.f64.format.order a b = some .gt) : cmp a b = 1 := by
  obtain ⟨na, nb, hc⟩ := num_of ha hb h
  have hc := Int.compare_eq_gt.1 hc
  have ka := key_sign a
  have kb := key_sign b
  unfold cmp
  rw [key_okey na, key_okey nb]
  by_cases xa : a < 9223372036854775808 <;> by_cases xb : b < 9223372036854775808
  · rw [if_pos xa, if_pos xb, if_neg (by omega), if_pos (by omega)]
  · rw [if_pos xa, if_neg xb, if_neg (by omega), if_pos (by omega)]
  · have := ka.2 xa; have := kb.1 xb; omega
  · rw [if_neg xa, if_neg xb, if_neg (by omega), if_pos (by omega)]
set_option maxRecDepth 5000 in
theorem cmp_eq {a b : Nat} (ha : a < 2 ^ 64) (hb : b < 2 ^ 64) (h : FloatKind.f64.format.order a b = some .eq) : cmp a b = ((decide (9223372036854775808 ≤ b)).toNat : Int) - ((decide (9223372036854775808 ≤ a)).toNat : Int) := by
  obtain ⟨na, nb, hc⟩ := num_of ha hb h
  have hc := Int.compare_eq_eq.1 hc
  unfold cmp
  rw [key_okey na, key_okey nb, hc]
  by_cases xa : a < 9223372036854775808 <;> by_cases xb : b < 9223372036854775808
  · rw [if_pos xa, if_pos xb, if_neg (by omega), if_neg (by omega), show decide (9223372036854775808 ≤ a) = false from decide_eq_false (by omega), show decide (9223372036854775808 ≤ b) = false from decide_eq_false (by omega)]; rfl
  · rw [if_pos xa, if_neg xb, if_neg (by omega), if_pos (by omega), show decide (9223372036854775808 ≤ a) = false from decide_eq_false (by omega), show decide (9223372036854775808 ≤ b) = true from decide_eq_true (by omega)]; rfl
  · rw [if_neg xa, if_pos xb, if_pos (by omega), show decide (9223372036854775808 ≤ a) = true from decide_eq_true (by omega), show decide (9223372036854775808 ≤ b) = false from decide_eq_false (by omega)]; rfl
  · rw [if_neg xa, if_neg xb, if_neg (by omega), if_neg (by omega), show decide (9223372036854775808 ≤ a) = true from decide_eq_true (by omega), show decide (9223372036854775808 ≤ b) = true from decide_eq_true (by omega)]; rfl
end F
set_option maxRecDepth 5000 in
theorem order_any (a b : Nat) (ha : a < 2 ^ 64) (hb : b < 2 ^ 64) (w : World) : Calls Try.prog 10 #[.float .f64 a, .float .f64 b] w fun e w' => e = .returned (.int .i64 (F.cmp a b)) ∧ w' = w := by
  have hx : ∀ x : Bool, (x.toNat : Int) ≤ 1 := fun x => by cases x <;> decide
  cases ho : FloatKind.f64.format.order a b with
  | none =>
    rw [F.cmp_none ha hb ho]
    have h1 : (FloatKind.f64.format.order a b == some .lt) = false := by rw [ho]; rfl
    have h2 : (FloatKind.f64.format.order a b == some .gt) = false := by rw [ho]; rfl
    have h3 : (FloatKind.f64.format.order a b == some .eq) = false := by rw [ho]; rfl
    clear ho
    have k1 := hx (F.nan a)
    have k2 := hx (F.nan b)
    go_enter Try.func10, Try.ntmps10
    go_wp2_with (first | (go_at_call 32; refine (isNaN_any _ _).mono ?_; rintro e w' ⟨rfl, rfl⟩) | (go_at_call 30; refine (one_any _ _).mono ?_; rintro e w' ⟨rfl, rfl⟩))
    go_ret
    exact ⟨rfl, rfl⟩
  | some c =>
    cases c
    · rw [F.cmp_lt ha hb ho]
      have h1 : (FloatKind.f64.format.order a b == some .lt) = true := by rw [ho]; rfl
      clear ho
      go_enter Try.func10, Try.ntmps10
      go_wp2
      go_ret
      exact ⟨rfl, rfl⟩
    · rw [F.cmp_eq ha hb ho]
      have h1 : (FloatKind.f64.format.order a b == some .lt) = false := by rw [ho]; rfl
      have h2 : (FloatKind.f64.format.order a b == some .gt) = false := by rw [ho]; rfl
      have h3 : (FloatKind.f64.format.order a b == some .eq) = true := by rw [ho]; rfl
      clear ho
      have k1 := hx (decide (9223372036854775808 ≤ a))
      have k2 := hx (decide (9223372036854775808 ≤ b))
      go_enter Try.func10, Try.ntmps10
      go_wp2_with (first | (go_at_call 31; first | (refine (signbit_any b hb _).mono ?_; rintro e w' ⟨rfl, rfl⟩) | (refine (signbit_any a ha _).mono ?_; rintro e w' ⟨rfl, rfl⟩)) | (go_at_call 30; refine (one_any _ _).mono ?_; rintro e w' ⟨rfl, rfl⟩))
      go_ret
      exact ⟨rfl, rfl⟩
    · rw [F.cmp_gt ha hb ho]
      have h1 : (FloatKind.f64.format.order a b == some .lt) = false := by rw [ho]; rfl
      have h2 : (FloatKind.f64.format.order a b == some .gt) = true := by rw [ho]; rfl
      clear ho
      go_enter Try.func10, Try.ntmps10
      go_wp2
      go_ret
      exact ⟨rfl, rfl⟩
set_option maxRecDepth 5000 in
theorem rorder_any (a b : Nat) (ha : a < 2 ^ 64) (hb : b < 2 ^ 64) (w : World) : Calls Try.prog 12 #[.float .f64 a, .float .f64 b] w fun e w' => e = .returned (.int .i64 (F.cmp a b)) ∧ w' = w := by
  have ba := run_tobits a
  have bb := run_tobits b
  cases ho : FloatKind.f64.format.order a b with
  | none =>
    rw [F.cmp_none ha hb ho]
    rw [F.order_key ha hb] at ho
    cases na : F.nan a
    · cases nb : F.nan b
      · rw [na, nb] at ho; cases ho
      · clear ho
        go_enter Try.func12, Try.ntmps12
        go_wp2_with (go_at_call 34; refine (rnan_any _ _).mono ?_; rintro e w' ⟨rfl, rfl⟩; first | rw [na] | rw [nb])
        go_ret
        exact ⟨rfl, rfl⟩
    · cases nb : F.nan b
      all_goals
        clear ho
        go_enter Try.func12, Try.ntmps12
        go_wp2_with (go_at_call 34; refine (rnan_any _ _).mono ?_; rintro e w' ⟨rfl, rfl⟩; first | rw [na] | rw [nb])
        go_ret
        exact ⟨rfl, rfl⟩
  | some c =>
    obtain ⟨na, nb, _⟩ := F.num_of ha hb ho
    cases c
    · rw [F.cmp_lt ha hb ho]
      have h1 : (FloatKind.f64.format.order a b == some .lt) = true := by rw [ho]; rfl
      clear ho
      go_enter Try.func12, Try.ntmps12
      go_wp2_with (go_at_call 34; refine (rnan_any _ _).mono ?_; rintro e w' ⟨rfl, rfl⟩; first | rw [na] | rw [nb])
      go_ret
      exact ⟨rfl, rfl⟩
    · rw [F.cmp_eq ha hb ho]
      have h1 : (FloatKind.f64.format.order a b == some .lt) = false := by rw [ho]; rfl
      have h2 : (FloatKind.f64.format.order a b == some .gt) = false := by rw [ho]; rfl
      have qa : (a : Int) / 9223372036854775808 = ((decide (9223372036854775808 ≤ a)).toNat : Int) := by
        by_cases h : 9223372036854775808 ≤ a
        · rw [decide_eq_true h]; show _ = (1 : Int); omega
        · rw [decide_eq_false h]; show _ = (0 : Int); omega
      have qb : (b : Int) / 9223372036854775808 = ((decide (9223372036854775808 ≤ b)).toNat : Int) := by
        by_cases h : 9223372036854775808 ≤ b
        · rw [decide_eq_true h]; show _ = (1 : Int); omega
        · rw [decide_eq_false h]; show _ = (0 : Int); omega
      clear ho
      cases da : decide (9223372036854775808 ≤ a) <;> cases db : decide (9223372036854775808 ≤ b)
      all_goals
        rw [da] at qa
        rw [db] at qb
        go_enter Try.func12, Try.ntmps12
        go_wp2_with (go_at_call 34; refine (rnan_any _ _).mono ?_; rintro e w' ⟨rfl, rfl⟩; first | rw [na] | rw [nb])
        go_ret
        exact ⟨rfl, rfl⟩
    · rw [F.cmp_gt ha hb ho]
      have h1 : (FloatKind.f64.format.order a b == some .lt) = false := by rw [ho]; rfl
      have h2 : (FloatKind.f64.format.order a b == some .gt) = true := by rw [ho]; rfl
      clear ho
      go_enter Try.func12, Try.ntmps12
      go_wp2_with (go_at_call 34; refine (rnan_any _ _).mono ?_; rintro e w' ⟨rfl, rfl⟩; first | rw [na] | rw [nb])
      go_ret
      exact ⟨rfl, rfl⟩
end Go.Proofs.Ytmkpihagfbohdaa
