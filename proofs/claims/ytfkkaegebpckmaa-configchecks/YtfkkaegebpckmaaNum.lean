/- Slices of slices of bytes; config.number16, number32; bytes.Clone. -/
import Derived.Test.YtfkkaegebpckmaaApd
namespace Go.Proofs.Ytfkkaegebpckmaa
open Go.RowKit
/- a slice of bytes that lie below block B -/
def SlB (B : Nat) (w : World) (ao : Option Addr) (l : List UInt8) : Prop := 0 < l.length → ∃ b o, ao = some ⟨b, o, none⟩ ∧ b < B ∧ ∀ j, j < l.length → w.cell? ⟨b, o + j, none⟩ = some (.int .u8 (l.getD j 0).toNat)
set_option maxRecDepth 5000 in
theorem SlB.sl {B : Nat} {w : World} {ao : Option Addr} {l : List UInt8} (h : SlB B w ao l) (hB : B ≤ w.heap.size) : SlL w ao l := fun hn => by
  obtain ⟨b, o, e, hlt, hc⟩ := h hn
  exact ⟨b, o, e, Nat.lt_of_lt_of_le hlt hB, hc⟩
set_option maxRecDepth 5000 in
theorem SlL.slB {w : World} {ao : Option Addr} {l : List UInt8} (h : SlL w ao l) : SlB w.heap.size w ao l := h
set_option maxRecDepth 5000 in
theorem SlB.part {B : Nat} {w : World} {ao : Option Addr} {l : List UInt8} {cap k : Nat} (m : Nat) (h : SlB B w ao l) (hk : k + m ≤ l.length) (hc : l.length ≤ cap) : SlB B w (if cap = k then ao else ao.map (·.add (k * 1))) ((l.drop k).take m) := fun hn => by
  rw [List.length_take, List.length_drop] at hn
  obtain ⟨b, o, rfl, hlt, hc'⟩ := h (by omega)
  rw [if_neg (by omega)]
  refine ⟨b, o + k, by rw [Option.map_some, Nat.mul_one, addr_add], hlt, fun j hj => ?_⟩
  rw [List.length_take, List.length_drop] at hj
  rw [show o + k + j = o + (k + j) by omega, hc' (k + j) (by omega)]
  have hjm : j < m := by omega
  simp [List.getD_eq_getElem?_getD, List.getElem?_drop, hjm]
set_option maxRecDepth 5000 in
theorem cut_hd {w : World} {b o : Nat} {l : List UInt8} {len cap : Nat} (k : Nat) (hs : SlL w (some ⟨b, o, none⟩) l) (hl : l.length = len) (hk : k ≤ len) (hc : len ≤ cap) :
    ∃ ad, (∀ W, (Instr.slice 25 (.slice (some ⟨b, o, none⟩) len cap) none (some (.int .i64 (k : Int))) none).run Try.prog W = .ok (.slice (some ad) k cap) W) ∧ SlL w (some ad) (l.take k) := by
  subst hl
  have h := hs.slB
  refine ⟨if cap = 0 then ⟨b, o, none⟩ else (⟨b, o, none⟩ : Addr).add (0 * 1), fun W => ?_, ?_⟩
  · rw [run_slice_h W 25 _ l.length cap Try.underlying25 .i64 (k : Int) (by omega) (by omega)]
    have hz : (sizeOf (Try.prog.elem 25)).run Try.prog W = .ok 1 W := Try.sizeOf5 W
    rw [hz]
    simp only [Result.andThen, sliced, Int.toNat_natCast, Nat.sub_zero, Option.map_some]
    split <;> rfl
  · have := SlB.sl (h.part (k := 0) (cap := cap) k (by omega) hc) (Nat.le_refl _)
    rw [List.drop_zero] at this
    split
    · rename_i h0; rwa [if_pos h0] at this
    · rename_i h0; rwa [if_neg h0, Option.map_some] at this
set_option maxRecDepth 5000 in
theorem cut_tl {w : World} {b o : Nat} {l : List UInt8} {len cap : Nat} (k : Nat) (hs : SlL w (some ⟨b, o, none⟩) l) (hl : l.length = len) (hk : k ≤ len) (hc : len ≤ cap) :
    ∃ ad, (∀ W, (Instr.slice 25 (.slice (some ⟨b, o, none⟩) len cap) (some (.int .i64 (k : Int))) none none).run Try.prog W = .ok (.slice (some ad) (len - k) (cap - k)) W) ∧ SlL w (some ad) (l.drop k) := by
  subst hl
  have h := hs.slB
  refine ⟨if cap = k then ⟨b, o, none⟩ else (⟨b, o, none⟩ : Addr).add (k * 1), fun W => ?_, ?_⟩
  · rw [run_slice_l W 25 _ l.length cap Try.underlying25 .i64 (k : Int) (by omega) (by omega)]
    have hz : (sizeOf (Try.prog.elem 25)).run Try.prog W = .ok 1 W := Try.sizeOf5 W
    rw [hz]
    simp only [Result.andThen, sliced, Int.toNat_natCast, Option.map_some]
    split <;> rfl
  · have := SlB.sl (h.part (k := k) (cap := cap) (l.length - k) (by omega) hc) (Nat.le_refl _)
    rw [List.take_of_length_le (by rw [List.length_drop]; omega)] at this
    split
    · rename_i h0; rwa [if_pos h0] at this
    · rename_i h0; rwa [if_neg h0, Option.map_some] at this
set_option maxRecDepth 5000 in
theorem cut_mid {w : World} {b o : Nat} {l : List UInt8} {len cap : Nat} (k m : Nat) (hs : SlL w (some ⟨b, o, none⟩) l) (hl : l.length = len) (hk : k + m ≤ len) (hc : len ≤ cap) :
    ∃ ad, (∀ W, (Instr.slice 25 (.slice (some ⟨b, o, none⟩) len cap) (some (.int .i64 (k : Int))) (some (.int .i64 ((k + m : Nat) : Int))) none).run Try.prog W = .ok (.slice (some ad) m (cap - k)) W) ∧ SlL w (some ad) ((l.drop k).take m) := by
  subst hl
  have h := hs.slB
  refine ⟨if cap = k then ⟨b, o, none⟩ else (⟨b, o, none⟩ : Addr).add (k * 1), fun W => ?_, ?_⟩
  · rw [run_slice_lh W 25 _ l.length cap Try.underlying25 .i64 .i64 (k : Int) ((k + m : Nat) : Int) (by omega) (by omega) (by omega)]
    have hz : (sizeOf (Try.prog.elem 25)).run Try.prog W = .ok 1 W := Try.sizeOf5 W
    rw [hz]
    simp only [Result.andThen, sliced, Int.toNat_natCast, Option.map_some]
    rw [show k + m - k = m by omega]
    split <;> rfl
  · have := SlB.sl (h.part (k := k) (cap := cap) m (by omega) hc) (Nat.le_refl _)
    split
    · rename_i h0; rwa [if_pos h0] at this
    · rename_i h0; rwa [if_neg h0, Option.map_some] at this
set_option maxRecDepth 5000 in
theorem quiet_drew {P : Program} {f : FuncId} {args : Array Value} {w : World} {n : Nat} {v : Value}
    (h : Calls P f args (w.drewN n) fun e w' => e = .returned v ∧ ∃ k, w' = (w.drewN n).drewN k) : Calls P f args (w.drewN n) fun e w'' => e = .returned v ∧ ∃ m, w'' = w.drewN m :=
  h.mono fun _ _ ⟨he, k, hk⟩ => ⟨he, n + k, by rw [hk, World.drewN_drewN]⟩
namespace D
set_option maxRecDepth 5000 in
theorem gv2 (l : List UInt8) (h : 2 ≤ l.length) : gv (l.take 2) = (l.getD 0 0).toNat * 256 + (l.getD 1 0).toNat := by
  match l, h with
  | x :: y :: l, _ => simp [gv]
set_option maxRecDepth 5000 in
theorem gv4 (l : List UInt8) (h : 4 ≤ l.length) : gv (l.take 4) = gv (l.take 2) * 65536 + gv ((l.drop 2).take 2) := by
  match l, h with
  | x :: y :: z :: u :: l, _ => simp [gv]; omega
end D
set_option maxRecDepth 5000 in
theorem or_8_16 (x y : Nat) (hx : x < 256) (hy : y < 256) : bits .or .u16 ((x : Int) * 256) (y : Int) = ((x * 256 + y : Nat) : Int) := by
  have := u16_or_nat (x * 256) y (by omega) (by omega)
  rw [nat_join 8 (x * 256) y (by omega) (by omega), Int.natCast_mul] at this
  exact this
set_option maxRecDepth 5000 in
theorem or_16_32 (x y : Nat) (hx : x < 65536) (hy : y < 65536) : bits .or .u32 ((x : Int) * 65536) (y : Int) = ((x * 65536 + y : Nat) : Int) := by
  have := u32_or_nat (x * 65536) y (by omega) (by omega)
  rw [nat_join 16 (x * 65536) y (by omega) (by omega), Int.natCast_mul] at this
  exact this
set_option maxRecDepth 5000 in
theorem number16_any (l : List UInt8) (ao : Option Addr) (len cap : Nat) (w : World) (hl : Hid (l.length = len)) (hs : SlL w ao l) (h2 : 2 ≤ len) :
    Calls Try.prog 30 #[.slice ao len cap] w fun e w' => e = .returned (.int .u16 (D.gv (l.take 2) : Int)) ∧ ∃ m, w' = w.drewN m := by
  obtain ⟨b1, o1, rfl, _, hc⟩ := hs (by have := hl.out; omega)
  have h0 := hc 0 (by have := hl.out; omega)
  have h1 := hc 1 (by have := hl.out; omega)
  rw [Nat.add_zero] at h0
  have hx := (l.getD 0 0).toNat_lt
  have hy := (l.getD 1 0).toNat_lt
  have hor := or_8_16 _ _ hx hy
  have HG := hide (D.gv2 l (by have := hl.out; omega))
  clear hc
  generalize (l.getD 0 0).toNat = x at *
  generalize (l.getD 1 0).toNat = y at *
  go_enter Try.func30, Try.ntmps30
  go_wp2
  go_quiet (fail)
  go_wp2
  go_ret
  exact ⟨by rw [HG.out]; simp, _, rfl⟩
set_option maxRecDepth 5000 in
theorem number32_any (l : List UInt8) (ao : Option Addr) (len cap : Nat) (w : World) (hl : Hid (l.length = len)) (hs : SlL w ao l) (h4 : 4 ≤ len) (hc : len ≤ cap) :
    Calls Try.prog 28 #[.slice ao len cap] w fun e w' => e = .returned (.int .u32 (D.gv (l.take 4) : Int)) ∧ ∃ m, w' = w.drewN m := by
  have HS := hide hs
  obtain ⟨b1, o1, rfl, _, _⟩ := hs (by have := hl.out; omega)
  obtain ⟨ad, hsl, hs2⟩ := cut_tl 2 hs hl.out (by omega) hc
  have hsl2 : ∀ W, (Instr.slice 25 (.slice (some ⟨b1, o1, none⟩) len cap) (some (.int .i64 2)) none none).run Try.prog W = .ok (.slice (some ad) (len - 2) (cap - 2)) W := hsl
  clear hsl
  have HS2 := hide hs2
  have hl2 : Hid ((l.drop 2).length = len - 2) := by show _ = _; rw [List.length_drop, hl.out]
  have h2 : 2 ≤ len - 2 := by omega
  have HG := hide (D.gv4 l (by have := hl.out; omega))
  have hx : D.gv (l.take 2) < 65536 := by have := D.gv_lt (l.take 2); rw [List.length_take, hl.out, Nat.min_eq_left (by omega)] at this; exact this
  have hy : D.gv ((l.drop 2).take 2) < 65536 := by have := D.gv_lt ((l.drop 2).take 2); rw [List.length_take, List.length_drop, hl.out, Nat.min_eq_left (by omega)] at this; exact this
  have hor := or_16_32 _ _ hx hy
  have HC1 : Hid (∀ n, Calls Try.prog 30 #[.slice (some ⟨b1, o1, none⟩) len cap] (w.drewN n) fun e w' => e = .returned (.int .u16 (D.gv (l.take 2) : Int)) ∧ ∃ m, w' = (w.drewN n).drewN m) := fun n => number16_any l _ len cap (w.drewN n) hl HS.out (by omega)
  have HC2 : Hid (∀ n, Calls Try.prog 30 #[.slice (some ad) (len - 2) (cap - 2)] (w.drewN n) fun e w' => e = .returned (.int .u16 (D.gv ((l.drop 2).take 2) : Int)) ∧ ∃ m, w' = (w.drewN n).drewN m) := fun n => number16_any (l.drop 2) _ (len - 2) (cap - 2) (w.drewN n) hl2 HS2.out h2
  clear hs hs2
  generalize D.gv (l.take 2) = x at *
  generalize D.gv ((l.drop 2).take 2) = y at *
  generalize len - 2 = len2 at *
  generalize cap - 2 = cap2 at *
  go_enter Try.func28, Try.ntmps28
  go_wp2
  go_quiet ((go_at_call 30; first | with_reducible exact quiet_drew (HC1.out _) | with_reducible exact quiet_drew (HC2.out _)))
  go_wp2
  go_ret
  exact ⟨by rw [HG.out]; simp, _, rfl⟩
set_option maxRecDepth 5000 in
theorem equalIn_nil (w : World) (d : Nat) (t e : TypeId) (a : Option Addr) (l c : Nat) (h : Try.prog.underlying t = some (.slice e)) : (Op.equalIn (d + 1) t (.slice a l c) (.slice none 0 0)).run Try.prog w = .ok a.isNone w := by
  cases a <;> simp [Op.equalIn, run_underlying h]
set_option maxRecDepth 5000 in
theorem eql_nil (w : World) (t e : TypeId) (a : Option Addr) (l c : Nat) (h : Try.prog.underlying t = some (.slice e)) : (binOp .eql t (.slice a l c) (.slice none 0 0)).run Try.prog w = .ok (.bool a.isNone) w := by
  have h2 : (Op.equal t (.slice a l c) (.slice none 0 0)).run Try.prog w = .ok a.isNone w := equalIn_nil w 9999 t e a l c h
  simp [binOp, h2]
set_option maxRecDepth 5000 in
theorem clone_any (l : List UInt8) (ao : Option Addr) (len cap : Nat) (w : World) (hl : Hid (l.length = len)) (hs : SlL w ao l) (hnil : ao = none → cap = 0) (hn : len ≤ 1000000000) :
    Calls Try.prog 29 #[.slice ao len cap] w fun e w' => ∃ v, e = .returned v ∧ OwnB w' w.heap.size v l ∧ Below w.heap.size w w' := by
  have heq : ∀ W, (binOp .eql 25 (.slice ao len cap) (.slice none 0 0)).run Try.prog W = .ok (.bool ao.isNone) W := fun W => eql_nil W 25 5 ao len cap Try.underlying25
  cases ao with
  | none =>
    have h0 : l = [] := by
      rcases Nat.eq_zero_or_pos l.length with h | h
      · exact List.eq_nil_of_length_eq_zero h
      · obtain ⟨b, o, e, _⟩ := hs h; cases e
    subst h0
    clear hs
    obtain rfl := hnil rfl
    obtain rfl : len = 0 := hl.out.symm
    clear hnil
    replace heq : ∀ W, (binOp .eql 25 (.slice none 0 0) (.slice none 0 0)).run Try.prog W = .ok (.bool true) W := heq
    go_enter Try.func29, Try.ntmps29
    go_wp2
    go_ret
    exact ⟨_, rfl, OwnB.nil _ _, Below.refl _ _⟩
  | some a =>
    have HS := hide hs
    clear hs
    clear hnil
    replace heq : ∀ W, (binOp .eql 25 (.slice (some a) len cap) (.slice none 0 0)).run Try.prog W = .ok (.bool false) W := heq
    go_enter Try.func29, Try.ntmps29
    have hO : OwnB (w.alloc (.cells #[] 5)) w.heap.size (.slice (some ⟨w.heap.size, 0, none⟩) 0 0) [] := ⟨rfl, Or.inr ⟨w.heap.size, 0, #[], rfl, Nat.le_refl _, heap_alloc_last w _, Nat.le_refl _, by unfold maxLen; omega, rfl, rfl⟩⟩
    have hb := (Below.refl w.heap.size w).alloc (Nat.le_refl _) (.cells #[] 5)
    go_wp2_with (at_builtin; refine wpList_append_B rfl (.tmp 5) (.tmp 6) rfl w.heap.size _ [] rfl (by exact hO) _ _ _ l rfl hl.out (by exact HS.out.alloc _) (by intro h; cases h) (by simp; omega) (by simp) ?_; intro v4 w4 hO4 hG4; have hB4 := grown_below hO hG4 hb (by simp); clear hG4 hO hb)
    go_ret
    exact ⟨_, rfl, hO4, hB4⟩
end Go.Proofs.Ytfkkaegebpckmaa
