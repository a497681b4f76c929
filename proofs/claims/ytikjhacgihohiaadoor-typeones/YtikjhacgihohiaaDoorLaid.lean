/- The variables that the rows list, as the walks want them; words and bytes that came in. -/
import Derived.Test.YtikjhacgihohiaaDoorTxt
import Derived.Test.YtikjhacgihohiaaDoorRows
import Derived.ProofKit
import Derived.LaidMore
import Derived.OpenShut
import Derived.Lay
import Derived.Stop.Joined
import Derived.Lib.LaidU8T
import Derived.Lib.LaidTab
import Derived.Deep.Strs
namespace Go.Proofs.YtikjhacgihohiaaDoor
open Go.ChangeShapes Go.WideShapes Go.ChangeAt Go.WideMaps Go.WideElems Go.RowKit Go.Deep
def laidL : List (String × DataW Unit) := [("math/bits.deBruijn32tab", Rows.laid_math_bits_deBruijn32tab), ("math/bits.deBruijn64tab", Rows.laid_math_bits_deBruijn64tab), ("internal/strconv.uint64pow10", Rows.laid_internal_strconv_uint64pow10), ("strconv.ErrRange", Rows.laid_strconv_ErrRange), ("strconv.ErrSyntax", Rows.laid_strconv_ErrSyntax), ("signet/rtype.known", Rows.laid_signet_rtype_known)]
theorem ownK : ownKnob Tryd.prog.godebug = none := by kernel_rfl
theorem laidOutT : laidOutB Tryd.prog = true := by kernel_rfl
theorem cellsU8 : Tryd.prog.cellsOf 5 = 1 := by kernel_rfl
theorem cellsU16 : Tryd.prog.cellsOf 22 = 1 := by kernel_rfl
theorem cellsStr : Tryd.prog.cellsOf 9 = 1 := by kernel_rfl
theorem cells43 : Tryd.prog.cellsOf 43 = 2 := by kernel_rfl
theorem cells44 : Tryd.prog.cellsOf 44 = 28 := by kernel_rfl
theorem pow_is : Rows.laid_internal_strconv_uint64pow10 = (Lib.tabData .u64 Lib.pow10Tab : DataW Unit) := by kernel_rfl
set_option maxRecDepth 100000 in
theorem pair_of {w : World} {fuel : Nat} {cs : List Value} {x : DataW Unit × List MemPlace} (h : DataW.trod (fun _ => ()) Tryd.prog w 0 (fun _ => true) false fuel 43 cs = some x) :
    ∃ n s, cs = [.int .u16 n, .string s] ∧ x.1 = .agg [.lit (.int .u16 n), .lit (.string s.data.toList)] := by
  obtain ⟨y0, y1, n, rfl, hl, h0, h1⟩ := trod_struct2 Tryd.underlying43 h
  obtain ⟨z, e0, rfl, _⟩ := DataW.trod_int Tryd.underlying22 h0
  obtain ⟨s, e1, rfl, _⟩ := DataW.trod_string Tryd.underlying9 h1
  rw [cells43] at hl
  match cs, hl with
  | [a, b], _ =>
    simp [cellsU16, cellsStr] at e0 e1
    exact ⟨z, s, by rw [e0, e1], rfl⟩
theorem known_is : Rows.laid_signet_rtype_known = (DataW.agg (T.tab.map fun p => .agg [.lit (.int .u16 (p.1 : Int)), .lit (.string p.2)]) : DataW Unit) := by kernel_rfl
set_option maxRecDepth 100000 in
theorem known_cells {w : World} {fuel : Nat} {cs : List Value} {p : List MemPlace} (h : DataW.trod (fun _ => ()) Tryd.prog w 0 (fun _ => true) false fuel 44 cs = some (Rows.laid_signet_rtype_known, p)) : cs = kvs 14 := by
  obtain ⟨xs, m, rfl, hx, hl, hn, hf⟩ := DataW.trod_array Tryd.underlying44 h
  rw [cells44] at hl
  have hx1 : xs.map (·.1) = T.tab.map fun p => DataW.agg [.lit (.int .u16 (p.1 : Int)), .lit (.string p.2)] := by
    have := congrArg Prod.fst hx
    rw [known_is] at this
    exact (DataW.agg.inj this).symm
  have key : ∀ k, k ≤ 14 → cs.take (2 * k) = kvs k := by
    intro k
    induction k with
    | zero => intro _; simp [kvs]
    | succ k ih =>
      intro hk
      have hxk : k < xs.length := by omega
      have h1 := hf k (by omega)
      rw [cells43, List.getElem?_eq_getElem hxk] at h1
      obtain ⟨n, s, e1, e2⟩ := pair_of h1
      have e3 : (xs.map (·.1))[k]? = some (DataW.agg [.lit (.int .u16 n), .lit (.string s.data.toList)]) := by
        rw [List.getElem?_map, List.getElem?_eq_getElem hxk]; exact congrArg some e2
      have htab : T.tab[k]? = some (T.kindAt k, T.wordAt k) := by
        have hk14 : k < 14 := by omega
        clear e3 e2 e1 h1 hxk ih hx1 hf hn hl hx h
        rcases (by omega : k = 0 ∨ k = 1 ∨ k = 2 ∨ k = 3 ∨ k = 4 ∨ k = 5 ∨ k = 6 ∨ k = 7 ∨ k = 8 ∨ k = 9 ∨ k = 10 ∨ k = 11 ∨ k = 12 ∨ k = 13) with rfl | rfl | rfl | rfl | rfl | rfl | rfl | rfl | rfl | rfl | rfl | rfl | rfl | rfl <;> rfl
      rw [hx1, List.getElem?_map, htab] at e3
      simp only [Option.map_some, Option.some.injEq, DataW.agg.injEq, List.cons.injEq, DataW.lit.injEq, Lit.int.injEq, Lit.string.injEq, true_and, and_true] at e3
      obtain ⟨rfl, e4⟩ := e3
      rw [show 2 * (k + 1) = 2 * k + 2 by omega, List.take_add, ih (by omega), show 2 * k = k * 2 by omega, e1]
      show _ = kvs k ++ _
      rw [e4]
  have := key 14 (Nat.le_refl _)
  rwa [List.take_of_length_le (by omega)] at this
theorem block_of_var {W : World} {n : String} {g : Nat} {cs : Array Value} (hg : Tryd.prog.globalNamed n = some g) (h : W.var? Tryd.prog n = some cs) : ∃ ty fr, W.heap[g]? = some (.cells cs ty fr) := by
  simp only [World.var?, hg, Option.bind_some] at h
  split at h
  · rename_i ty fr e
    cases h; exact ⟨_, _, e⟩
  · cases h
theorem err_of {W : World} {n name : String} {g : Nat} {d : DataW Unit} (hg : Tryd.prog.globalNamed n = some g) (hty : (Tryd.prog.globals[g]?).map (·.type) = some 49) (h : Lib.VarReads Tryd.prog W n (.iface name d)) : ∃ te pe, W.cell? ⟨g, 0, none⟩ = some (.iface te pe) := by
  obtain ⟨g', t, cs, fuel, p, hg', ht, hv, hd⟩ := h
  obtain rfl := Option.some.inj (hg.symm.trans hg')
  obtain rfl := Option.some.inj (hty.symm.trans ht)
  obtain ⟨_, u, v, e, _⟩ := iface_of_trod Tryd.underlying49 hd
  refine ⟨u, v, ?_⟩
  rw [World.var?_cell hg hv 0, ← Array.getElem?_toList, e]
  rfl
set_option maxRecDepth 100000 in
theorem glob_of_laid {W : World} (h : laidMetH Tryd.prog laidL W) : Glob W := by
  rw [MakeChecks.laidMetH_plain _ _ _ (by kernel_rfl)] at h
  have h64 : Lib.VarReads Tryd.prog W "math/bits.deBruijn64tab" Rows.laid_math_bits_deBruijn64tab := Lib.laidMet.reads h (by simp [laidL])
  have hpow : Lib.VarReads Tryd.prog W "internal/strconv.uint64pow10" Rows.laid_internal_strconv_uint64pow10 := Lib.laidMet.reads h (by simp [laidL])
  have hr : Lib.VarReads Tryd.prog W "strconv.ErrRange" Rows.laid_strconv_ErrRange := Lib.laidMet.reads h (by simp [laidL])
  have hs : Lib.VarReads Tryd.prog W "strconv.ErrSyntax" Rows.laid_strconv_ErrSyntax := Lib.laidMet.reads h (by simp [laidL])
  have hk : Lib.VarReads Tryd.prog W "signet/rtype.known" Rows.laid_signet_rtype_known := Lib.laidMet.reads h (by simp [laidL])
  refine ⟨?_, ?_, err_of (by kernel_rfl) (by kernel_rfl) hs, err_of (by kernel_rfl) (by kernel_rfl) hr, ?_⟩
  · obtain ⟨g', t, cs, fuel, p, hg', ht, hv, hd⟩ := h64
    obtain ⟨ty, fr, e⟩ := block_of_var (g := 5) (by kernel_rfl) hv
    exact (Array.getElem?_eq_some_iff.1 e).1
  · obtain ⟨g', t, cs, fuel, p, hg', ht, hv, hd⟩ := hk
    obtain rfl := Option.some.inj ((show Tryd.prog.globalNamed "signet/rtype.known" = some 0 by kernel_rfl).symm.trans hg')
    obtain rfl := Option.some.inj ((show (Tryd.prog.globals[0]?).map (·.type) = some 44 by kernel_rfl).symm.trans ht)
    obtain ⟨ty, fr, e⟩ := block_of_var (g := 0) (by kernel_rfl) hv
    refine ⟨ty, fr, ?_⟩
    rw [e, show cs = kv from by rw [← Array.toArray_toList (xs := cs), known_cells hd]; rfl]
  · obtain ⟨g', t, cs, fuel, p, hg', ht, hv, hd⟩ := hpow
    obtain rfl := Option.some.inj ((show Tryd.prog.globalNamed "internal/strconv.uint64pow10" = some 3 by kernel_rfl).symm.trans hg')
    obtain rfl := Option.some.inj ((show (Tryd.prog.globals[3]?).map (·.type) = some 112 by kernel_rfl).symm.trans ht)
    rw [pow_is] at hd
    unfold Lib.TabIs
    rw [hv, ← Lib.cells_of_tab Tryd.underlying112 Tryd.underlying47 (by kernel_rfl) (by kernel_rfl) hd]
theorem byte_of {a : Int} (h : (Lit.int .u8 a).wf = true) : ∃ b : UInt8, a = (b.toNat : Int) := by
  have hb := bounds_u8 h
  exact ⟨UInt8.ofNat a.toNat, by rw [UInt8.toNat_ofNat']; omega⟩
theorem word_of {a : Int} (h : (Lit.int .u16 a).wf = true) : ∃ b : UInt16, a = (b.toNat : Int) := by
  have hb := bounds_u16 h
  exact ⟨UInt16.ofNat a.toNat, by rw [UInt16.toNat_ofNat']; omega⟩
theorem open_bytes {H : Type} {enc : TypeId × Value → H} {W : World} {a0 : Option Addr} {len cap : Nat} {d : DataW H} {p : List MemPlace} (h0 : DataW.Trod enc Tryd.prog W 0 (fun _ => true) true 29 (.slice a0 len cap) d p) :
    ∃ bs : List UInt8, bs.length = len ∧ SlL W a0 bs ∧ (a0 = none → cap = 0) ∧ len ≤ cap ∧ cap ≤ maxLen := by
  obtain ⟨fuel, hf⟩ := h0
  rcases open_ints Tryd.underlying29 Tryd.underlying5 cellsU8 hf with ⟨hcs, hx⟩ | ⟨a, len', cap', zs, hcs, _, hl, hm, hz, hx, hcell, hwz⟩
  · simp [Value.cells] at hcs
    obtain ⟨rfl, rfl, rfl⟩ := hcs
    exact ⟨[], rfl, SlL.nil _ _, fun _ => rfl, Nat.le_refl _, Nat.zero_le _⟩
  · simp [Value.cells] at hcs
    obtain ⟨rfl, rfl, rfl⟩ := hcs
    simp only [if_true] at hz
    have hlen : ((zs.take len).map fun z => UInt8.ofNat z.toNat).length = len := by simp; omega
    refine ⟨(zs.take len).map fun z => UInt8.ofNat z.toNat, hlen, fun hn => ?_, fun h => (by cases h), hl, hm⟩
    rw [hlen] at hn
    obtain ⟨b, off, rfl, hc⟩ := ints_at hcell (by omega)
    refine ⟨b, off, rfl, block_lt_of_cell (hc 0 (by omega)), fun j hj => ?_⟩
    rw [hlen] at hj
    rw [hc j (by omega)]
    have hjz : j < zs.length := by omega
    have hw := bounds_u8 (hwz _ (List.getElem_mem hjz))
    have e1 : zs.getD j 0 = zs[j] := by simp [hjz]
    have e2 : ((zs.take len).map fun z => UInt8.ofNat z.toNat).getD j 0 = UInt8.ofNat (zs[j]).toNat := by
      simp [hj, hjz]
    rw [e1, e2, UInt8.toNat_ofNat']
    congr 2
    omega
theorem open_words {H : Type} {enc : TypeId × Value → H} {W : World} {a0 : Option Addr} {len cap : Nat} {d : DataW H} {p : List MemPlace} (h0 : DataW.Trod enc Tryd.prog W 0 (fun _ => true) true 28 (.slice a0 len cap) d p) :
    ∃ bs : List UInt16, bs.length = len ∧ SlH W a0 bs ∧ (a0 = none → cap = 0) ∧ len ≤ cap ∧ cap ≤ maxLen := by
  obtain ⟨fuel, hf⟩ := h0
  rcases open_ints Tryd.underlying28 Tryd.underlying22 cellsU16 hf with ⟨hcs, hx⟩ | ⟨a, len', cap', zs, hcs, _, hl, hm, hz, hx, hcell, hwz⟩
  · simp [Value.cells] at hcs
    obtain ⟨rfl, rfl, rfl⟩ := hcs
    exact ⟨[], rfl, SlH.nil _ _, fun _ => rfl, Nat.le_refl _, Nat.zero_le _⟩
  · simp [Value.cells] at hcs
    obtain ⟨rfl, rfl, rfl⟩ := hcs
    simp only [if_true] at hz
    have hlen : ((zs.take len).map fun z => UInt16.ofNat z.toNat).length = len := by simp; omega
    refine ⟨(zs.take len).map fun z => UInt16.ofNat z.toNat, hlen, fun hn => ?_, fun h => (by cases h), hl, hm⟩
    rw [hlen] at hn
    obtain ⟨b, off, rfl, hc⟩ := ints_at hcell (by omega)
    refine ⟨b, off, rfl, block_lt_of_cell (hc 0 (by omega)), fun j hj => ?_⟩
    rw [hlen] at hj
    rw [hc j (by omega)]
    have hjz : j < zs.length := by omega
    have hw := bounds_u16 (hwz _ (List.getElem_mem hjz))
    have e1 : zs.getD j 0 = zs[j] := by simp [hjz]
    have e2 : ((zs.take len).map fun z => UInt16.ofNat z.toNat).getD j 0 = UInt16.ofNat (zs[j]).toNat := by
      simp [hj, hjz]
    rw [e1, e2, UInt16.toNat_ofNat']
    congr 2
    omega
end Go.Proofs.YtikjhacgihohiaaDoor
