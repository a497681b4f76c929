/- rtype.Parse. -/
import Derived.Test.YtikjhacgihohiaaDoorTxt
import Derived.Shelf.SlicesE.Kit
namespace Go.Proofs.YtikjhacgihohiaaDoor
open Go.RowKit
namespace T
def parseFrom (l : List (Nat × List UInt8)) (s : List UInt8) : Option Nat := match l.find? (fun p => p.2 == s) with
  | some p => some p.1
  | none => if Lib.hasPrefix s typeW then num (s.drop 4) else none
theorem parseFrom_hit (j : Nat) (hj : j < 14) (s : List UInt8) (h : wordAt j = s) : parseFrom (tab.drop j) s = some (kindAt j) := by rw [drop_tab j hj]; simp [parseFrom, h]
theorem parseFrom_miss (j : Nat) (hj : j < 14) (s : List UInt8) (h : wordAt j ≠ s) : parseFrom (tab.drop j) s = parseFrom (tab.drop (j + 1)) s := by rw [drop_tab j hj]; simp [parseFrom, h]
def pv : Option Nat → Value
  | some n => .tuple #[.int .u16 (n : Int), .bool true]
  | none => .tuple #[.int .u16 0, .bool false]
end T
set_option maxRecDepth 3000 in
set_option maxHeartbeats 3200000 in
theorem parse_any (s : List UInt8) (hs : s.length ≤ 1000000) (w : World) (G : Glob w) :
    Calls Tryd.prog 9 #[.string ⟨s.toArray⟩] w fun e w' => e = .returned (T.pv (T.parseOf s)) ∧ Below w.heap.size w w' := by
  obtain ⟨ty, fr, hk⟩ := G.known
  have hinfo := info44
  have hidx := idx_at
  go_enter Tryd.func9, Tryd.ntmps9
  generalize kv = A at hk hinfo hidx
  go_wp2_with (refine wpList_load_row rfl 44 (.global 0) rfl 0 rfl ty A fr _ hk Tryd.underlying44 rfl hinfo ?_)
  clear hk hinfo
  have HI := hide hidx
  clear hidx
  go_loopw [11] (fun v W => ∃ j : Nat, v = .int .i64 (j : Int) ∧ j ≤ 14 ∧ Below w.heap.size w W ∧ T.parseFrom (T.tab.drop j) s = T.parseOf s) (fun v _ => 14 - (intOf v).toNat)
  case atStart => exact ⟨0, rfl, by omega, Below.refl _ _, rfl⟩
  case round =>
    obtain ⟨j, rfl, hj, hB, hT⟩ := hrel
    have hz := hB.size
    have HT := hide hT
    clear hT
    by_cases h14 : j < 14
    · have hi := HI.out j h14 wr
      have e14 : (j : Int) < 14 := by omega
      by_cases h : T.wordAt j = s
      · have e1 : (T.wordAt j == s) = true := by rw [h]; simp
        have e2 : T.parseOf s = some (T.kindAt j) := by rw [← HT.out]; exact T.parseFrom_hit j h14 _ h
        have HE := hide e2
        clear e2 h
        generalize T.kindAt j = kj at hi HE
        generalize T.wordAt j = sj at hi e1
        go_wp2
        go_ret2
        exact ⟨by rw [HE.out]; rfl, hB.alloc hz _⟩
      · have e1 : (T.wordAt j == s) = false := by simpa using h
        have e2 := (T.parseFrom_miss j h14 _ h).symm.trans HT.out
        have HE := hide e2
        clear e2 h
        generalize T.kindAt j = kj at hi
        generalize T.wordAt j = sj at hi e1
        go_wp2
        go_roundw
        case rel => exact ⟨j + 1, by go_num, by omega, hB.alloc hz _, HE.out⟩
        case measure => simp [intOf]; omega
    · obtain rfl : j = 14 := by omega
      have e2 : T.parseOf s = if Lib.hasPrefix s T.typeW then T.num (s.drop 4) else none := HT.out.symm
      have cc := fun W => Tryd.strings_CutPrefix ⟨s.toArray⟩ ⟨#[84, 89, 80, 69]⟩ W
      have et : Lib.trimPrefix s T.typeW = if Lib.hasPrefix s T.typeW then s.drop 4 else s := rfl
      have es : (⟨s.toArray⟩ : ByteArray).data.toList = s := by simp
      have ep : (⟨#[84, 89, 80, 69]⟩ : ByteArray).data.toList = T.typeW := rfl
      rw [es, ep, et] at cc
      clear HT es ep et
      cases hp : Lib.hasPrefix s T.typeW with
      | false =>
        rw [hp] at cc e2
        have HE := hide e2
        clear e2 hp
        go_wp2_with (go_at_call 21; refine (cc _).mono ?_; rintro e w2 ⟨rfl, rfl⟩)
        go_ret2
        exact ⟨by rw [HE.out]; rfl, hB⟩
      | true =>
        rw [hp] at cc e2
        simp only [if_true] at cc e2
        obtain ⟨d, hd⟩ : ∃ d, s.drop 4 = d := ⟨_, rfl⟩
        rw [hd] at cc e2
        have hdl : d.length ≤ 1000000 := by rw [← hd, List.length_drop]; omega
        have hdz : (⟨d.toArray⟩ : ByteArray).size ≤ 1000000 := hdl
        have hdd : (⟨d.toArray⟩ : ByteArray).data.toList = d := by simp
        have G2 := G.same hB
        clear hp hd
        cases hq : Lib.parseUintB 16 d with
        | ok n =>
          have hn : n < 65536 := by have := Lib.parseUintB_le hq; omega
          have cu := fun W => Tryd.strconv_ParseUint_10_at16_ok ⟨d.toArray⟩ (by omega) n (by rw [hdd]; exact hq) W
          have e3 : T.num d = if Lib.decDigits n = d then some n else none := by unfold T.num; rw [hq]
          rw [e3] at e2
          have HE := hide e2
          have en : IntKind.u16.wrap (n : Int) = (n : Int) := by rw [IntKind.wrap_u16]; omega
          clear e2 e3 hq hdd hdz
          go_wp2_with (first
            | (go_at_call 21; refine (cc _).mono ?_; rintro e w2 ⟨rfl, rfl⟩)
            | (go_at_call 22; refine (cu _).mono ?_; rintro e w3 ⟨rfl, hw3⟩))
          have hB3 : Below w2.heap.size w2 w3 := by
            rcases hw3 with rfl | rfl
            · exact Below.refl _ _
            · exact Go.Joins.below_bytesWorld _ _ _ _ (Nat.le_refl _)
          clear hw3
          have cn := number_any n hn w3 (G2.same hB3)
          have hb3 := hB.trans (hB3.mono hz)
          have hz3 := hb3.size
          by_cases hq : Lib.decDigits n = d
          · have e5 : (Lib.decDigits n == d) = true := by rw [hq]; simp
            rw [if_pos hq] at HE
            clear hq
            generalize Lib.decDigits n = dn at cn e5
            refine cn.mono ?_
            rintro e w4 ⟨rfl, hB4⟩
            go_wp2
            go_ret2
            exact ⟨by rw [HE.out]; rfl, hb3.trans (hB4.mono hz3)⟩
          · have e5 : (Lib.decDigits n == d) = false := by simpa using hq
            rw [if_neg hq] at HE
            clear hq
            generalize Lib.decDigits n = dn at cn e5
            refine cn.mono ?_
            rintro e w4 ⟨rfl, hB4⟩
            go_wp2
            go_ret2
            exact ⟨by rw [HE.out]; rfl, hb3.trans (hB4.mono hz3)⟩
        | «syntax» =>
          obtain ⟨te, pe, hv⟩ := G2.syn
          have cu := Tryd.strconv_ParseUint_10_at16_syntax ⟨d.toArray⟩ (by omega) (by rw [hdd]; exact hq) _ wr hv (Or.inr ⟨te, pe, rfl⟩)
          have e3 : T.num d = none := by unfold T.num; rw [hq]
          rw [e3] at e2
          have HE := hide e2
          clear e2 e3 hq hdd hdz hv
          go_wp2_with (first
            | (go_at_call 21; refine (cc _).mono ?_; rintro e w2 ⟨rfl, rfl⟩)
            | (go_at_call 22; refine cu.mono ?_; rintro e w3 ⟨N, rfl, hN, hN2, hB3⟩))
          go_ret2
          exact ⟨by rw [HE.out]; rfl, hB.trans (hB3.mono hz)⟩
        | range =>
          obtain ⟨te, pe, hv⟩ := G2.rng
          have cu := Tryd.strconv_ParseUint_10_at16_range ⟨d.toArray⟩ (by omega) (by rw [hdd]; exact hq) _ wr hv (Or.inr ⟨te, pe, rfl⟩)
          have e3 : T.num d = none := by unfold T.num; rw [hq]
          rw [e3] at e2
          have HE := hide e2
          clear e2 e3 hq hdd hdz hv
          go_wp2_with (first
            | (go_at_call 21; refine (cc _).mono ?_; rintro e w2 ⟨rfl, rfl⟩)
            | (go_at_call 22; refine cu.mono ?_; rintro e w3 ⟨N, rfl, hN, hN2, hB3⟩))
          go_ret2
          exact ⟨by rw [HE.out]; rfl, hB.trans (hB3.mono hz)⟩
end Go.Proofs.YtikjhacgihohiaaDoor
