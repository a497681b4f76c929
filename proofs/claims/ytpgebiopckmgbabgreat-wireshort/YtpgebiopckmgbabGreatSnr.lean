/- wire.soundRecords, of records that can be written. -/
import Derived.Test.YtpgebiopckmgbabGreatWrs
namespace Go.Proofs.YtpgebiopckmgbabGreat
open Go.RowKit
set_option maxRecDepth 5000 in
theorem soundR1_good (x : M.R) (na da : Option Addr) (nc dc : Nat) (w : World) (hs : SlS w na x.name) (hg : x.Ok) :
    Calls Tryz.prog 44 #[.agg #[.slice na x.name.length nc, .int .u16 (x.type : Int), .int .u16 (x.cls : Int), .int .u32 (x.ttl : Int), .slice da x.data.length dc]] w fun e w' => e = .returned (.bool false) ∧ Below w.heap.size w w' := by
  have HS := hide hs
  have HC := hide (good_chk hg.1)
  have HM := hide (good_small2 hg.1)
  have hd := hg.2.2.2.2
  have q1 : decide ((65535 : Int) < (x.data.length : Int)) = false := by simp; omega
  have B0 := hide ((Below.refl w.heap.size w).alloc (Nat.le_refl _) (.cells #[.slice na x.name.length nc, .int .u16 (x.type : Int), .int .u16 (x.cls : Int), .int .u32 (x.ttl : Int), .slice da x.data.length dc] 39))
  clear hs hg
  go_enter Tryz.func44, Tryz.ntmps44
  go_wp2_with fail
  refine (check_any x.name na x.name.length nc _ rfl (by exact HS.out.below B0.out (Nat.le_refl _)) HM).mono ?_
  rw [HC.out]
  rintro e w1 ⟨rfl, rfl⟩
  go_wp2
  go_ret
  exact ⟨rfl, B0.out⟩
set_option maxRecDepth 5000 in
theorem idxR_good (l : List RX) (a : Option Addr) (c : Nat) (w : World) (hs : SlR w a l) (hl : l.length ≤ 100000) (hg : ∀ x ∈ l, x.r.Ok) :
    Calls Tryz.prog 54 #[.slice a l.length c, .func (.func 44) #[] #[]] w fun e w' => e = .returned (.int .i64 (-1)) ∧ Below w.heap.size w w' := by
  have HS := hide hs
  have HG := hide hg
  clear hs hg
  go_enter Tryz.func54, Tryz.ntmps54
  go_wp2
  go_loopw [8] (fun i wr => ∃ j : Nat, i = .int .i64 (j : Int) ∧ j ≤ l.length ∧ Below w.heap.size w wr) (fun i _ => l.length - (intOf i).toNat)
  case atStart => exact ⟨0, rfl, by omega, Below.refl _ _⟩
  case round =>
    obtain ⟨j, rfl, hj, hB⟩ := hrel
    by_cases hlt : j < l.length
    · obtain ⟨g, o, rfl, hgl, hcell⟩ := (HS.out.below hB) (by omega)
      obtain ⟨x, hx⟩ : ∃ x, l[j]? = some x := ⟨_, List.getElem?_eq_getElem hlt⟩
      obtain ⟨m3, m4, m5, m6, m7, sx, _⟩ := hcell j x hx
      have hgx := HG.out x (List.mem_of_getElem? hx)
      have q1 : (j : Int) < (l.length : Int) := by omega
      have SX := hide sx
      have BB := hide hB
      clear hcell sx hB hx
      go_wp2_with fail
      refine (soundR1_good x.r x.na x.da x.nc x.dc _ (by exact SX.out) hgx).mono ?_
      rintro e w1 ⟨rfl, hb1⟩
      have B1 := hide (BB.out.trans (hb1.mono BB.out.size))
      clear hb1
      go_wp2
      go_roundw
      case rel => exact ⟨j + 1, by go_num, by omega, B1.out⟩
      case measure => simp [intOf]; omega
    · obtain rfl : j = l.length := by omega
      go_wp2
      go_ret
      exact ⟨rfl, hB⟩
set_option maxRecDepth 5000 in
theorem conR_good (l : List RX) (a : Option Addr) (c : Nat) (w : World) (hs : SlR w a l) (hl : l.length ≤ 100000) (hg : ∀ x ∈ l, x.r.Ok) :
    Calls Tryz.prog 45 #[.slice a l.length c, .func (.func 44) #[] #[]] w fun e w' => e = .returned (.bool false) ∧ Below w.heap.size w w' := by
  have HS := hide hs
  clear hs
  go_enter Tryz.func45, Tryz.ntmps45
  go_wp2_with fail
  refine (idxR_good l a c _ (by exact HS.out) hl hg).mono ?_
  rintro e w1 ⟨rfl, hb⟩
  go_wp2
  go_ret
  exact ⟨rfl, hb⟩
set_option maxRecDepth 5000 in
theorem soundR_good (l : List RX) (a : Option Addr) (c : Nat) (w : World) (hs : SlR w a l) (hl : l.length ≤ 65535) (hg : ∀ x ∈ l, x.r.Ok) :
    Calls Tryz.prog 26 #[.slice a l.length c] w fun e w' => e = .returned (.bool true) ∧ Below w.heap.size w w' := by
  have HS := hide hs
  have q1 : (l.length : Int) ≤ 65535 := by omega
  clear hs
  go_enter Tryz.func26, Tryz.ntmps26
  go_wp2_with fail
  refine (conR_good l a c _ (by exact HS.out) (by omega) hg).mono ?_
  rintro e w1 ⟨rfl, hb⟩
  go_wp2
  go_ret
  exact ⟨rfl, hb⟩
end Go.Proofs.YtpgebiopckmgbabGreat
