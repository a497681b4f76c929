/- journal.Crc; signetlaw12.crc. -/
import Derived.Test.YtidocfajhhpfdaaDoorDsy
import Derived.Test.YtidocfajhhpfdaaDoorJpm
import Derived.WalkSpells
import Derived.WalkLawsBesides
import Derived.Deep.QuietTactic
namespace Go.Proofs.YtidocfajhhpfdaaDoor
open Go.RowKit
/- the table of the sums, where it was laid -/
def Tab (w : World) : Prop := 0 < w.heap.size ∧ ∀ i, i < 16 → w.cell? ⟨0, i, none⟩ = some (.int .u32 ((J.tb i).toNat : Int))
set_option maxRecDepth 5000 in
theorem Tab.below {B : Nat} {w w' : World} (h : Tab w) (hb : Below B w w') (hB : 0 < B) : Tab w' := ⟨Nat.lt_of_lt_of_le h.1 hb.size, fun i hi => (hb.cell (p := ⟨0, i, none⟩) hB).trans (h.2 i hi)⟩
set_option maxRecDepth 5000 in
theorem Tab.mv {D S M : Nat} {w w' : World} (h : Tab w) (hm : Mv D S M w w') (hD : 0 < D) (hS : 0 < S) (hM : 0 < M) : Tab w' :=
  ⟨Nat.lt_of_lt_of_le h.1 hm.size, fun i hi => by
    have e : w'.heap[0]? = w.heap[0]? := hm.block 0 h.1 (by omega) (by omega) (by omega)
    have := h.2 i hi
    unfold World.cell? at this ⊢
    rw [e]; exact this⟩
set_option maxRecDepth 5000 in
theorem Tab.drew {w : World} (h : Tab w) : Tab w.drew := h
set_option maxRecDepth 5000 in
theorem of32 (x : BitVec 32) : BitVec.ofInt 32 (x.toNat : Int) = x := by simp
set_option maxRecDepth 5000 in
theorem wr32 (x : BitVec 32) : IntKind.u32.wrap (x.toNat : Int) = (x.toNat : Int) := by rw [IntKind.wrap_u32]; omega
set_option maxRecDepth 5000 in
theorem b_xor (x y : BitVec 32) : bits .xor .u32 (x.toNat : Int) (y.toNat : Int) = ((x ^^^ y).toNat : Int) := by
  show IntKind.u32.wrap ((BitVec.ofInt 32 (x.toNat : Int) ^^^ BitVec.ofInt 32 (y.toNat : Int)).toNat : Int) = _
  rw [of32, of32]; exact wr32 _
set_option maxRecDepth 5000 in
theorem b_and (x y : BitVec 32) : bits .and .u32 (x.toNat : Int) (y.toNat : Int) = ((x &&& y).toNat : Int) := by
  show IntKind.u32.wrap ((BitVec.ofInt 32 (x.toNat : Int) &&& BitVec.ofInt 32 (y.toNat : Int)).toNat : Int) = _
  rw [of32, of32]; exact wr32 _
set_option maxRecDepth 5000 in
theorem b_and15 (x : BitVec 32) : bits .and .u32 (x.toNat : Int) 15 = ((x.toNat % 16 : Nat) : Int) := by
  have h := b_and x 15#32
  rw [show ((15#32).toNat : Int) = 15 by rfl] at h
  rw [h, BitVec.toNat_and]
  have : x.toNat &&& (15#32).toNat = x.toNat % 16 := Nat.and_two_pow_sub_one_eq_mod x.toNat 4
  rw [this]
set_option maxRecDepth 5000 in
theorem b_and1 (x : BitVec 32) : bits .and .u32 (x.toNat : Int) 1 = ((x.toNat % 2 : Nat) : Int) := by
  have h := b_and x 1#32
  rw [show ((1#32).toNat : Int) = 1 by rfl] at h
  rw [h, BitVec.toNat_and]
  have : x.toNat &&& (1#32).toNat = x.toNat % 2 := Nat.and_two_pow_sub_one_eq_mod x.toNat 1
  rw [this]
set_option maxRecDepth 5000 in
theorem b_not (x : BitVec 32) : bits .xor .u32 4294967295 (x.toNat : Int) = ((~~~ x).toNat : Int) := by
  have h := b_xor (BitVec.allOnes 32) x
  rw [show ((BitVec.allOnes 32).toNat : Int) = 4294967295 from by decide, BitVec.allOnes_xor] at h
  exact h
set_option maxRecDepth 5000 in
theorem b_shr (x : BitVec 32) (n : Nat) : (x.toNat : Int) / ((2 ^ n : Nat) : Int) = ((x >>> n).toNat : Int) := by
  rw [BitVec.toNat_ushiftRight, Nat.shiftRight_eq_div_pow, Int.natCast_ediv]
set_option maxRecDepth 5000 in
theorem b_byte (c : BitVec 32) (x : UInt8) : bits .xor .u32 (c.toNat : Int) (x.toNat : Int) = ((J.sx c x).toNat : Int) := by
  have h := b_xor c (BitVec.ofNat 32 x.toNat)
  rw [show ((BitVec.ofNat 32 x.toNat).toNat : Int) = (x.toNat : Int) by
    have := x.toNat_lt
    rw [BitVec.toNat_ofNat, Nat.mod_eq_of_lt (by omega)]] at h
  exact h
set_option maxRecDepth 5000 in
theorem run_snoc (c : BitVec 32) (l : List UInt8) (k : Nat) (hk : k < l.length) : J.run c (l.take (k + 1)) = J.st8 (J.run c (l.take k)) (l.getD k 0) := by
  unfold J.run
  rw [List.take_add_one, List.foldl_append, List.getElem?_eq_getElem hk]
  simp [List.getD_eq_getElem?_getD, hk]
set_option maxHeartbeats 1000000 in
set_option maxRecDepth 5000 in
theorem crc_tab (w : World) (ht : Tab w) (ao : Option Addr) (c : Nat) (l : List UInt8) (hl : l.length ≤ 1000000000000) (hs : SlL w ao l) :
    Calls Tryd.prog 10 #[.slice ao l.length c] w fun e w' => e = .returned (.int .u32 (J.crc l : Int)) ∧ w' = w := by
  have HT := hide ht
  have HS := hide hs
  clear ht hs
  go_enter Tryd.func10, Tryd.ntmps10
  go_wp2
  go_loopw [3, 8] (fun q i wr => wr = w ∧ ∃ k : Nat, k ≤ l.length ∧ i = .int .i64 (k : Int) ∧ q = .int .u32 ((J.run 4294967295#32 (l.take k)).toNat : Int)) (fun q i wr => l.length - (intOf i).toNat)
  case atStart => exact ⟨rfl, 0, by omega, rfl, rfl⟩
  case round =>
    obtain ⟨hw, k, hk, rfl, rfl⟩ := hrel
    rw [hw]
    clear hw
    by_cases hlt : k < l.length
    · obtain ⟨b, o, rfl, hb, hc⟩ := HS.out (by omega)
      have c1 := hc k hlt
      have hlt' : (k : Int) < (l.length : Int) := by omega
      have E := hide (run_snoc 4294967295#32 l k hlt)
      clear hc
      generalize hq : J.run 4294967295#32 (l.take k) = q at E
      clear hq
      generalize hx : l.getD k 0 = x at E c1
      clear hx
      have e1 := b_byte q x
      obtain ⟨q1, hq1⟩ : ∃ q1, q1 = J.sx q x := ⟨_, rfl⟩
      rw [← hq1] at e1
      have e2 := b_and15 q1
      have e3 := b_shr q1 4
      rw [show ((2 ^ 4 : Nat) : Int) = 16 from by decide] at e3
      have hi1 : q1.toNat % 16 < 16 := J.low_lt q1
      have c2 := HT.out.2 _ hi1
      have e4 := b_xor (q1 >>> 4) (J.tb (q1.toNat % 16))
      rw [← J.st4_tab] at e4
      obtain ⟨i1, hi1e⟩ : ∃ i1, i1 = q1.toNat % 16 := ⟨_, rfl⟩
      rw [← hi1e] at e2 hi1 c2 e4
      generalize J.tb i1 = t1 at c2 e4
      generalize q1 >>> 4 = s1 at e3 e4
      obtain ⟨q2, hq2⟩ : ∃ q2, q2 = J.st4 q1 := ⟨_, rfl⟩
      rw [← hq2] at e4
      have e5 := b_and15 q2
      have e6 := b_shr q2 4
      rw [show ((2 ^ 4 : Nat) : Int) = 16 from by decide] at e6
      have hi2 : q2.toNat % 16 < 16 := J.low_lt q2
      have c3 := HT.out.2 _ hi2
      have e7 := b_xor (q2 >>> 4) (J.tb (q2.toNat % 16))
      rw [← J.st4_tab] at e7
      obtain ⟨i2, hi2e⟩ : ∃ i2, i2 = q2.toNat % 16 := ⟨_, rfl⟩
      rw [← hi2e] at e5 hi2 c3 e7
      generalize J.tb i2 = t2 at c3 e7
      generalize q2 >>> 4 = s2 at e6 e7
      have E2 : Hid (J.run 4294967295#32 (l.take (k + 1)) = J.st4 q2) := by
        show _ = _
        rw [E.out, J.st8, ← hq1, ← hq2]
      generalize J.st4 q2 = q3 at e7 E2
      clear hi1e hi2e hq1 hq2 E
      have hb8 : (x.toNat : Int) < 256 := by have := x.toNat_lt; omega
      go_wp2
      go_roundw
      case rel => exact ⟨trivial, k + 1, by omega, by go_num, by rw [E2.out]⟩
      case measure => simp [intOf]; omega
    · have hlt' : ¬ (k : Int) < (l.length : Int) := by omega
      have hk' : k = l.length := by omega
      have e1 := b_not (J.run 4294967295#32 (l.take k))
      have E : Hid ((~~~ (J.run 4294967295#32 (l.take k))).toNat = J.crc l) := by
        show _ = _
        rw [hk', List.take_length]; rfl
      generalize (~~~ (J.run 4294967295#32 (l.take k))).toNat = z at e1 E
      clear hk'
      go_wp2
      go_ret
      refine ⟨?_, rfl⟩
      show Ending.returned (.int .u32 (bits .xor .u32 IntKind.u32.max _)) = _
      rw [show IntKind.u32.max = 4294967295 from rfl, e1, E.out]
/- the reference: bit by bit -/
def stn : Nat → BitVec 32 → BitVec 32
  | 0, c => c
  | n + 1, c => J.st1 (stn n c)
set_option maxRecDepth 5000 in
theorem stn8 (c : BitVec 32) : stn 8 c = J.st4 (J.st4 c) := rfl
set_option maxRecDepth 5000 in
theorem lsb_mod (c : BitVec 32) : c.getLsbD 0 = decide (c.toNat % 2 = 1) := by
  rw [BitVec.getLsbD, Nat.testBit_eq_decide_div_mod_eq, Nat.pow_zero, Nat.div_one]
set_option maxHeartbeats 1000000 in
set_option maxRecDepth 5000 in
theorem lcrc_any (w : World) (ao : Option Addr) (c : Nat) (l : List UInt8) (hl : l.length ≤ 1000000000000) (hs : SlL w ao l) :
    Calls Tryd.prog 11 #[.slice ao l.length c] w fun e w' => e = .returned (.int .u32 (J.crc l : Int)) ∧ w' = w := by
  have HS := hide hs
  clear hs
  go_enter Tryd.func11, Tryd.ntmps11
  go_wp2
  go_loopw [3, 4] (fun q i wr => wr = w ∧ ∃ k : Nat, k ≤ l.length ∧ i = .int .i64 (k : Int) ∧ q = .int .u32 ((J.run 4294967295#32 (l.take k)).toNat : Int)) (fun q i wr => l.length - (intOf i).toNat)
  case atStart => exact ⟨rfl, 0, by omega, rfl, rfl⟩
  case round =>
    obtain ⟨hw, k, hk, rfl, rfl⟩ := hrel
    rw [hw]
    clear hw
    by_cases hlt : k < l.length
    · obtain ⟨b, o, rfl, hb, hc⟩ := HS.out (by omega)
      have c1 := hc k hlt
      have hlt' : (k : Int) < (l.length : Int) := by omega
      have E := hide (run_snoc 4294967295#32 l k hlt)
      clear hc
      generalize hq : J.run 4294967295#32 (l.take k) = q at E
      clear hq
      generalize hx : l.getD k 0 = x at E c1
      clear hx
      have e1 := b_byte q x
      have E2 : Hid (J.run 4294967295#32 (l.take (k + 1)) = stn 8 (J.sx q x)) := by
        show _ = _
        rw [E.out]; rfl
      clear E
      generalize J.sx q x = q1 at e1 E2
      have hb8 : (x.toNat : Int) < 256 := by have := x.toNat_lt; omega
      go_wp2
      go_loopw [3, 5] (fun q i wr => wr = w ∧ ∃ m : Nat, m ≤ 8 ∧ i = .int .i64 (m : Int) ∧ q = .int .u32 ((stn m q1).toNat : Int)) (fun q i wr => 8 - (intOf i).toNat)
      case atStart => exact ⟨rfl, 0, by omega, rfl, rfl⟩
      case round =>
        obtain ⟨hw, m, hm, rfl, rfl⟩ := hrel
        rw [hw]
        clear hw
        by_cases hml : m < 8
        · have hml' : (m : Int) < 8 := by omega
          have EM : Hid (stn (m + 1) q1 = J.st1 (stn m q1)) := rfl
          generalize stn m q1 = y at EM
          have f1 := b_and1 y
          have f2 := b_shr y 1
          rw [show ((2 ^ 1 : Nat) : Int) = 2 from by decide] at f2
          by_cases ho : y.toNat % 2 = 1
          · have f3 := b_xor (y >>> 1) 3988292384#32
            rw [show ((3988292384#32).toNat : Int) = 3988292384 by rfl] at f3
            have EN : Hid (stn (m + 1) q1 = y >>> 1 ^^^ 3988292384#32) := by
              show _ = _
              rw [EM.out, J.st1, lsb_mod, ho]; rfl
            generalize y >>> 1 ^^^ 3988292384#32 = z at f3 EN
            generalize y >>> 1 = y1 at f2 f3
            rw [ho] at f1
            have f1' : bits .and .u32 (y.toNat : Int) 1 = 1 := f1
            clear f1 ho EM
            go_wp2
            go_roundw
            case rel => exact ⟨trivial, m + 1, by omega, by go_num, by rw [EN.out]⟩
            case measure => simp [intOf]; omega
          · have ho' : y.toNat % 2 = 0 := by omega
            have EN : Hid (stn (m + 1) q1 = y >>> 1) := by
              show _ = _
              rw [EM.out, J.st1, lsb_mod, ho']; simp
            generalize y >>> 1 = y1 at f2 EN
            rw [ho'] at f1
            have f1' : bits .and .u32 (y.toNat : Int) 1 = 0 := f1
            clear f1 ho ho' EM
            go_wp2
            go_roundw
            case rel => exact ⟨trivial, m + 1, by omega, by go_num, by rw [EN.out]⟩
            case measure => simp [intOf]; omega
        · have hml' : ¬ (m : Int) < 8 := by omega
          have hm8 : m = 8 := by omega
          subst hm8
          go_wp2
          go_roundw
          case rel => exact ⟨trivial, k + 1, by omega, by go_num, by rw [E2.out]⟩
          case measure => simp [intOf]; omega
    · have hlt' : ¬ (k : Int) < (l.length : Int) := by omega
      have hk' : k = l.length := by omega
      have e1 := b_not (J.run 4294967295#32 (l.take k))
      have E : Hid ((~~~ (J.run 4294967295#32 (l.take k))).toNat = J.crc l) := by
        show _ = _
        rw [hk', List.take_length]; rfl
      generalize (~~~ (J.run 4294967295#32 (l.take k))).toNat = z at e1 E
      clear hk'
      go_wp2
      go_ret
      refine ⟨?_, rfl⟩
      show Ending.returned (.int .u32 (bits .xor .u32 IntKind.u32.max _)) = _
      rw [show IntKind.u32.max = 4294967295 from rfl, e1, E.out]
end Go.Proofs.YtidocfajhhpfdaaDoor
