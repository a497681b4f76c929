/- What the packages' variables hold; rtype.Text. -/
import Derived.Test.YtikjhacgihohiaaDoorHalf
import Derived.Test.YtikjhacgihohiaaDoorTxt0
import Derived.Test.YtikjhacgihohiaaDoorShelf
import Derived.Lib.SmallJoins
import Derived.Sort.WalkA
namespace Go.Proofs.YtikjhacgihohiaaDoor
open Go.RowKit
namespace T
def kindAt (j : Nat) : Nat := (tab.getD j (0, [])).1
def wordAt (j : Nat) : List UInt8 := (tab.getD j (0, [])).2
def textFrom (l : List (Nat × List UInt8)) (t : Nat) : List UInt8 := match l.find? (fun p => p.1 == t) with
  | some p => p.2
  | none => typeW ++ Lib.decDigits t
theorem drop_tab (j : Nat) (hj : j < 14) : tab.drop j = (kindAt j, wordAt j) :: tab.drop (j + 1) := by
  rcases (by omega : j = 0 ∨ j = 1 ∨ j = 2 ∨ j = 3 ∨ j = 4 ∨ j = 5 ∨ j = 6 ∨ j = 7 ∨ j = 8 ∨ j = 9 ∨ j = 10 ∨ j = 11 ∨ j = 12 ∨ j = 13) with rfl | rfl | rfl | rfl | rfl | rfl | rfl | rfl | rfl | rfl | rfl | rfl | rfl | rfl <;> rfl
theorem kindAt_lt (j : Nat) (hj : j < 14) : kindAt j < 65536 := by
  rcases (by omega : j = 0 ∨ j = 1 ∨ j = 2 ∨ j = 3 ∨ j = 4 ∨ j = 5 ∨ j = 6 ∨ j = 7 ∨ j = 8 ∨ j = 9 ∨ j = 10 ∨ j = 11 ∨ j = 12 ∨ j = 13) with rfl | rfl | rfl | rfl | rfl | rfl | rfl | rfl | rfl | rfl | rfl | rfl | rfl | rfl <;> decide
theorem textFrom_hit (j : Nat) (hj : j < 14) (t : Nat) (h : kindAt j = t) : textFrom (tab.drop j) t = wordAt j := by rw [drop_tab j hj]; simp [textFrom, h]
theorem textFrom_miss (j : Nat) (hj : j < 14) (t : Nat) (h : kindAt j ≠ t) : textFrom (tab.drop j) t = textFrom (tab.drop (j + 1)) t := by rw [drop_tab j hj]; simp [textFrom, h]
end T
def kvs : Nat → List Value
  | 0 => []
  | k + 1 => kvs k ++ [.int .u16 (T.kindAt k : Int), .string ⟨(T.wordAt k).toArray⟩]
def kv : Array Value := (kvs 14).toArray
theorem kv_at (j : Nat) (hj : j < 14) : kv.extract (j * 2) (j * 2 + 2) = #[.int .u16 (T.kindAt j : Int), .string ⟨(T.wordAt j).toArray⟩] := by
  rcases (by omega : j = 0 ∨ j = 1 ∨ j = 2 ∨ j = 3 ∨ j = 4 ∨ j = 5 ∨ j = 6 ∨ j = 7 ∨ j = 8 ∨ j = 9 ∨ j = 10 ∨ j = 11 ∨ j = 12 ∨ j = 13) with rfl | rfl | rfl | rfl | rfl | rfl | rfl | rfl | rfl | rfl | rfl | rfl | rfl | rfl <;> rfl
theorem size43 : (Tryd.prog.info? 43).map (·.size) = some 2 := by kernel_rfl
theorem info44 : (Tryd.prog.info? 44).map (·.size) = some kv.size := by kernel_rfl
theorem idx_at (j : Nat) (hj : j < 14) (w : World) : (Instr.index 44 (.agg kv) (.int .i64 (j : Int))).run Tryd.prog w = .ok (.agg #[.int .u16 (T.kindAt j : Int), .string ⟨(T.wordAt j).toArray⟩]) w := by
  rw [← kv_at j hj]
  have hs : (sizeOf 43).run Tryd.prog w = .ok 2 w := Tryd.sizeOf43 w
  have ha : (isAgg 43).run Tryd.prog w = .ok true w := Tryd.isAgg43 w
  have hu : (underlying 44).run Tryd.prog w = .ok (.array 14 43) w := run_underlying Tryd.underlying44 w
  have h2 : (j : Int) < 14 := by omega
  unfold Instr.index
  simp [asIntOf, part, Sem.run_bind, hj]
/- what the variables of the packages hold -/
structure Glob (w : World) : Prop where
  size : 6 ≤ w.heap.size
  known : ∃ ty fr, w.heap[0]? = some (.cells kv ty fr)
  syn : ∃ te pe, w.cell? ⟨1, 0, none⟩ = some (.iface te pe)
  rng : ∃ te pe, w.cell? ⟨2, 0, none⟩ = some (.iface te pe)
  pow : Lib.TabIs Tryd.prog w "internal/strconv.uint64pow10" .u64 Lib.pow10Tab
theorem Glob.below {B : Nat} {w w' : World} (h : Glob w) (hb : Below B w w') (hB : w.heap.size ≤ B) : Glob w' where
  size := Nat.le_trans h.size hb.size
  known := by obtain ⟨ty, fr, e⟩ := h.known; exact ⟨ty, fr, (hb.block _ (by have := h.size; omega)).trans e⟩
  syn := by obtain ⟨te, pe, e⟩ := h.syn; exact ⟨te, pe, (hb.cell (p := ⟨1, 0, none⟩) (by have := h.size; show 1 < B; omega)).trans e⟩
  rng := by obtain ⟨te, pe, e⟩ := h.rng; exact ⟨te, pe, (hb.cell (p := ⟨2, 0, none⟩) (by have := h.size; show 2 < B; omega)).trans e⟩
  pow := Go.Joins.tab_stays (g := 3) (by kernel_rfl) h.pow hb hB
theorem Glob.same {w w' : World} (h : Glob w) (hb : Below w.heap.size w w') : Glob w' := h.below hb (Nat.le_refl _)
theorem below_grow (w : World) (k : Nat) (os : Array Obj) : Below w.heap.size w (Go.Sort.grow (w.drewN k) os) :=
  ⟨rfl, rfl, rfl, by rw [Go.Sort.size_grow]; exact Nat.le_add_right _ _, fun j hj => by rw [Go.Sort.heap_grow_old (w.drewN k) os (by exact hj)]; rfl⟩
theorem number_any (t : Nat) (ht : t < 65536) (w : World) (G : Glob w) :
    Calls Tryd.prog 20 #[.int .u16 (t : Int)] w fun e w' => e = .returned (.string ⟨(Lib.decDigits t).toArray⟩) ∧ Below w.heap.size w w' := by
  have c := Tryd.strconv_Itoa (t : Int) (by omega) (by omega) w G.pow
  rw [show Lib.itoa (t : Int) = Lib.decDigits t by unfold Lib.itoa; rw [if_neg (by omega), Int.toNat_natCast]] at c
  go_enter Tryd.func20, Tryd.ntmps20
  go_wp2_with (go_at_call 32; refine c.mono ?_; rintro e w' ⟨rfl, k, os, rfl⟩)
  go_ret
  exact ⟨rfl, below_grow w k os⟩
theorem str_app (a b : List UInt8) : (⟨a.toArray⟩ : ByteArray) ++ ⟨b.toArray⟩ = ⟨(a ++ b).toArray⟩ := by
  apply ByteArray.ext
  simp
set_option maxHeartbeats 1600000 in
theorem text_any (t : UInt16) (w : World) (G : Glob w) :
    Calls Tryd.prog 8 #[.int .u16 (t.toNat : Int)] w fun e w' => e = .returned (.string ⟨(T.textOf t.toNat).toArray⟩) ∧ Below w.heap.size w w' := by
  obtain ⟨ty, fr, hk⟩ := G.known
  have hinfo := info44
  have hidx := idx_at
  go_enter Tryd.func8, Tryd.ntmps8
  generalize kv = A at hk hinfo hidx
  go_wp2_with (refine wpList_load_row rfl 44 (.global 0) rfl 0 rfl ty A fr _ hk Tryd.underlying44 rfl hinfo ?_)
  clear hk hinfo
  have HI := hide hidx
  clear hidx
  go_loopw [6] (fun v W => ∃ j : Nat, v = .int .i64 (j : Int) ∧ j ≤ 14 ∧ Below w.heap.size w W ∧ T.textFrom (T.tab.drop j) t.toNat = T.textOf t.toNat) (fun v _ => 14 - (intOf v).toNat)
  case atStart => exact ⟨0, rfl, by omega, Below.refl _ _, rfl⟩
  case round =>
    obtain ⟨j, rfl, hj, hB, hT⟩ := hrel
    have hz := hB.size
    have HT := hide hT
    clear hT
    by_cases h14 : j < 14
    · have hi := HI.out j h14 wr
      have e14 : (j : Int) < 14 := by omega
      by_cases h : T.kindAt j = t.toNat
      · have e1 : ((T.kindAt j : Int) == (t.toNat : Int)) = true := by rw [h]; simp
        have e2 : T.textOf t.toNat = T.wordAt j := by rw [← HT.out]; exact T.textFrom_hit j h14 _ h
        have HE := hide e2
        clear e2 h
        generalize T.kindAt j = kj at hi e1
        generalize T.wordAt j = sj at hi HE
        go_wp2
        go_ret
        exact ⟨by rw [HE.out]; rfl, hB.alloc hz _⟩
      · have e1 : ((T.kindAt j : Int) == (t.toNat : Int)) = false := by simp; omega
        have e2 := (T.textFrom_miss j h14 _ h).symm.trans HT.out
        have HE := hide e2
        clear e2 h
        generalize T.kindAt j = kj at hi e1
        generalize T.wordAt j = sj at hi
        go_wp2
        go_roundw
        case rel => exact ⟨j + 1, by go_num, by omega, hB.alloc hz _, HE.out⟩
        case measure => simp [intOf]; omega
    · obtain rfl : j = 14 := by omega
      have e2 : T.textOf t.toNat = T.typeW ++ Lib.decDigits t.toNat := HT.out.symm
      have cn := number_any t.toNat t.toNat_lt wr (G.same hB)
      have HE := hide e2
      have hdl := T.dec_len t.toNat t.toNat_lt
      clear e2 HT
      generalize Lib.decDigits t.toNat = d at cn HE hdl
      have hds : (⟨d.toArray⟩ : ByteArray).size ≤ 5 := hdl
      have hcat : ∀ W, (Op.stringOp .add ⟨#[84, 89, 80, 69]⟩ ⟨d.toArray⟩).run Tryd.prog W = .ok (.string ⟨(T.typeW ++ d).toArray⟩) W := fun W => by
        rw [run_string_add_sum W _ _ (by have : (⟨#[84, 89, 80, 69]⟩ : ByteArray).size = 4 := rfl; omega)]
        exact congrArg (fun x => Result.ok (Value.string x) W) (str_app T.typeW d)
      go_wp2_with (go_at_call 20; refine cn.mono ?_; rintro e w2 ⟨rfl, hB2⟩)
      go_ret
      refine ⟨?_, hB.trans (hB2.mono hz)⟩
      rw [HE.out]; rfl
end Go.Proofs.YtikjhacgihohiaaDoor
