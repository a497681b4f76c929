/- The seat's records: signetseat.Record. -/
import Derived.Test.YtdldaphkiphpnaaGreatZsx
import Derived.Test.YtdldaphkiphpnaaGreatZlv
import Derived.Deep.RegionHeld3
import Derived.Laws.ResultCell
import Derived.Deep.RegionWith
namespace Go.Proofs.YtdldaphkiphpnaaGreat
open Go.RowKit
set_option maxRecDepth 5000 in
theorem infoRcs : (Tryz.prog.info? 39).map (·.size) = some 5 := by kernel_rfl
set_option maxRecDepth 5000 in
theorem results_rc {fn : Func} {p : Tmp} (h : fn.results = #[.cell p 39]) (tmps : Array Value) (w : World) (g : Nat) (cs : Array Value) (hs : cs.size = 5) (hp : tmps.getD p undef = .pointer (some ⟨g, 0, none⟩)) (hg : RowAt w g 39 cs) :
    (results fn tmps).run Tryz.prog w = .ok (.agg cs) w :=
  results_cell_row h tmps w g 39 cs (0, 0) _ hp hg Tryz.underlying39 rfl (by rw [hs]; exact infoRcs)
set_option maxRecDepth 5000 in
theorem and3 (k : Nat) (hk : k < 4294967296) : bits .and .u32 ((k : Int) / 16777216) 3 = ((k / 16777216 % 4 : Nat) : Int) := by
  have h : ∀ x : Nat, x < 256 → bits .and .u32 (x : Int) 3 = ((x % 4 : Nat) : Int) := by decide +kernel
  have := h (k / 16777216) (by omega)
  rw [← this]; rfl
set_option maxRecDepth 5000 in
theorem ttl_get (k : Nat) : ((#[.int .u32 30, .int .u32 30, .int .u32 60, .int .u32 5] : Array Value))[k / 16777216 % 4]? = some (.int .u32 (Z.ttlK k : Int)) := by
  have h : ∀ j, j < 4 → ((#[.int .u32 30, .int .u32 30, .int .u32 60, .int .u32 5] : Array Value))[j]? = some (.int .u32 (([30, 30, 60, 5].getD j 0 : Nat) : Int))
    | 0, _ => rfl | 1, _ => rfl | 2, _ => rfl | 3, _ => rfl
    | j + 4, h => absurd h (by omega)
  exact h _ (Nat.mod_lt _ (by decide))
set_option maxRecDepth 5000 in
theorem rz_facts {W : World} {g : Nat} (h : RowAt W g 39 #[.slice none 0 0, .int .u16 0, .int .u16 0, .int .u32 0, .slice none 0 0]) : W.cell? ⟨g, 0, none⟩ = some (.slice none 0 0) ∧ W.cell? ⟨g, 1, none⟩ = some (.int .u16 0) ∧ W.cell? ⟨g, 2, none⟩ = some (.int .u16 0) ∧ W.cell? ⟨g, 3, none⟩ = some (.int .u32 0) ∧ W.cell? ⟨g, 4, none⟩ = some (.slice none 0 0) ∧
    W.frozen? ⟨g, 0, none⟩ = false ∧ W.frozen? ⟨g, 1, none⟩ = false ∧ W.frozen? ⟨g, 2, none⟩ = false ∧ W.frozen? ⟨g, 3, none⟩ = false ∧ W.frozen? ⟨g, 4, none⟩ = false :=
  ⟨h.cell 0, h.cell 1, h.cell 2, h.cell 3, h.cell 4, h.frozen 0, h.frozen 1, h.frozen 2, h.frozen 3, h.frozen 4⟩
set_option maxRecDepth 5000 in
theorem rz_bel {W W' : World} {g : Nat} {t : TypeId} {c : Array Value} (hb : Below W.heap.size W W') (h : RowAt W g t c) : RowAt W' g t c := h.below hb h.lt
set_option maxRecDepth 5000 in
theorem lit_cell2 {W W' : World} {g j tl : Nat} (hb : Below W.heap.size W W') (h : RowAt W g 35 #[.int .u32 30, .int .u32 30, .int .u32 60, .int .u32 5]) (hget : (#[.int .u32 30, .int .u32 30, .int .u32 60, .int .u32 5] : Array Value)[j]? = some (.int .u32 (tl : Int))) : W'.cell? ⟨g, j, none⟩ = some (.int .u32 (tl : Int)) := by
  rw [(rz_bel hb h).cell]; exact hget
set_option maxRecDepth 5000 in
theorem cell_bel {W W' : World} {B : Nat} {p : Addr} {v : Value} (h : Below B W W') (hB : W.heap.size ≤ B) (hc : W.cell? p = some v) (hp : p.block < W.heap.size) : W'.cell? p = some v := by
  rw [← hc]; exact World.cell?_of_block (h.block _ (Nat.lt_of_lt_of_le hp hB))
def RecD (w wc : World) (o : List (List UInt8)) (t tl : Nat) (d : List UInt8) : Prop := ∃ na nc da dc, RowAt wc w.heap.size 39 #[.slice na o.length nc, .int .u16 (t : Int), .int .u16 1, .int .u32 (tl : Int), .slice da d.length dc] ∧ TyS wc na o ∧ o.length ≤ nc ∧ TyL wc da d ∧ (da = none → dc = 0) ∧ d.length ≤ dc ∧ Below w.heap.size w wc
set_option maxRecDepth 5000 in
theorem bel_of {w X W' : World} (h : Below w.heap.size w X) (hb : Below X.heap.size X W') : Below w.heap.size w W' := h.trans (hb.mono h.size)
set_option maxRecDepth 5000 in
theorem RecD.mk' {w wz : World} {o : List (List UInt8)} {t tl c3 c4 : Nat} {d : List UInt8} {a3 a4 : Option Addr} (h : RowAt wz w.heap.size 39 #[.slice none 0 0, .int .u16 0, .int .u16 0, .int .u32 0, .slice none 0 0]) (hb : Below w.heap.size w wz) (T3 : TyS wz a3 o) (h3 : o.length ≤ c3) (T4 : TyL wz a4 d) (h4 : a4 = none → c4 = 0) (h5 : d.length ≤ c4) :
    RecD w (((((wz.setCell ⟨w.heap.size, 0, none⟩ (.slice a3 o.length c3)).setCell ⟨w.heap.size, 1, none⟩ (.int .u16 (t : Int))).setCell ⟨w.heap.size, 2, none⟩ (.int .u16 1)).setCell ⟨w.heap.size, 3, none⟩ (.int .u32 (tl : Int))).setCell ⟨w.heap.size, 4, none⟩ (.slice a4 d.length c4)) o t tl d := by
  have r1 := h.set 0 (.slice a3 o.length c3)
  have r2 := r1.set 1 (.int .u16 (t : Int))
  have r3 := r2.set 2 (.int .u16 1)
  have r4 := r3.set 3 (.int .u32 (tl : Int))
  have k := ((((KB.setCell h (by decide) 0 (.slice a3 o.length c3)).trans (KB.setCell r1 (by decide) 1 (.int .u16 (t : Int)))).trans (KB.setCell r2 (by decide) 2 (.int .u16 1))).trans (KB.setCell r3 (by decide) 3 (.int .u32 (tl : Int)))).trans (KB.setCell r4 (by decide) 4 (.slice a4 d.length c4))
  exact ⟨a3, c3, a4, c4, r4.set 4 _, T3.kb k, h3, T4.kb k, h4, h5, ((((hb.setCell (p := ⟨w.heap.size, 0, none⟩) (Nat.le_refl _) _).setCell (p := ⟨w.heap.size, 1, none⟩) (Nat.le_refl _) _).setCell (p := ⟨w.heap.size, 2, none⟩) (Nat.le_refl _) _).setCell (p := ⟨w.heap.size, 3, none⟩) (Nat.le_refl _) _).setCell (p := ⟨w.heap.size, 4, none⟩) (Nat.le_refl _) _⟩
set_option maxRecDepth 100000 in
set_option maxHeartbeats 2000000 in
theorem seatRecord_any (k : Nat) (hk : k < 4294967296) (w : World) : Calls Tryz.prog 38 #[.int .u32 (k : Int)] w fun e w' => ∃ na nc da dc, e = .returned (.agg #[.slice na (Z.owner (k % 256)).length nc, .int .u16 (Z.typeK (k / 256 % 256) : Int), .int .u16 1, .int .u32 (Z.ttlK k : Int), .slice da (Z.dataK (Z.typeK (k / 256 % 256)) (k / 65536 % 256)).length dc]) ∧
      SlS w' na (Z.owner (k % 256)) ∧ (Z.owner (k % 256)).length ≤ nc ∧ SlL w' da (Z.dataK (Z.typeK (k / 256 % 256)) (k / 65536 % 256)) ∧ (da = none → dc = 0) ∧ (Z.dataK (Z.typeK (k / 256 % 256)) (k / 65536 % 256)).length ≤ dc ∧ Below w.heap.size w w' := by
  obtain ⟨t, ht⟩ : ∃ t, t = Z.typeK (k / 256 % 256) := ⟨_, rfl⟩
  obtain ⟨o, ho⟩ : ∃ o, o = Z.owner (k % 256) := ⟨_, rfl⟩
  obtain ⟨d, hd⟩ : ∃ d, d = Z.dataK t (k / 65536 % 256) := ⟨_, rfl⟩
  rw [← ht, ← ho, ← hd]
  have h1 : IntKind.u8.wrap ((k : Int) / 256) = ((k / 256 % 256 : Nat) : Int) := by rw [IntKind.wrap_u8]; omega
  have h2 : IntKind.u8.wrap (k : Int) = ((k % 256 : Nat) : Int) := by rw [IntKind.wrap_u8]; omega
  have h3 : IntKind.u8.wrap ((k : Int) / 65536) = ((k / 65536 % 256 : Nat) : Int) := by rw [IntKind.wrap_u8]; omega
  have h4 := and3 k hk
  obtain ⟨j, hj⟩ : ∃ j, j = k / 16777216 % 4 := ⟨_, rfl⟩
  rw [← hj] at h4
  have hj4 : j < 4 := by rw [hj]; exact Nat.mod_lt _ (by decide)
  have hjb : (j : Int) < 4 := by omega
  have hget := ttl_get k
  rw [← hj] at hget
  obtain ⟨tl, htl⟩ : ∃ tl, tl = Z.ttlK k := ⟨_, rfl⟩
  rw [← htl] at hget ⊢
  have hget2 : ∀ h : j < (#[.int .u32 30, .int .u32 30, .int .u32 60, .int .u32 5] : Array Value).size, (#[.int .u32 30, .int .u32 30, .int .u32 60, .int .u32 5] : Array Value)[j] = .int .u32 (tl : Int) := fun h => by
    rw [Array.getElem?_eq_getElem h] at hget
    exact Option.some.inj hget
  have e1 : (k : Int) / 256 % 256 = ((k / 256 % 256 : Nat) : Int) := by omega
  have e2 : (k : Int) % 256 = ((k % 256 : Nat) : Int) := by omega
  have e3 : (k : Int) / 65536 % 256 = ((k / 65536 % 256 : Nat) : Int) := by omega
  have E1 := hide e1
  have E2 := hide e2
  have E3 := hide e3
  have HT := hide ht
  clear e1 e2 e3 ht hj htl h1
  go_enter Tryz.func38, Tryz.ntmps38
  go_upto_region 2 with (go_at_call 22; rw [E1.out]; refine (seatType_any (k / 256 % 256) (by omega) _).mono ?_; rintro e w1 ⟨he, hB1⟩; rw [HT.out.symm] at he; subst he)
  have HR1 := hide ((RowAt.new w 39 #[.slice none 0 0, .int .u16 0, .int .u16 0, .int .u32 0, .slice none 0 0]).below hB1 (by simp))
  have HB1 := hide hB1
  have HBW := hide (((Below.refl _ w).alloc (Nat.le_refl _) _).trans (hB1.mono (by simp)))
  clear hB1
  have HO := hide ho
  have HD := hide hd
  clear ho hd
  have hown := fun W => owner_any (k % 256) (by omega) W
  rw [← HO.out] at hown
  have hdat := fun W => seatData_any t (k / 65536 % 256) (by omega) W
  rw [← HD.out] at hdat
  have HOW := hide hown
  have HDA := hide hdat
  clear hown hdat
  go_cut [2] from 4 (fun s2 wc => s2 = .pointer (some ⟨w.heap.size, 0, none⟩) ∧ RecD w wc o t tl d)
  case first =>
    go_region_with (first
      | (go_at_call 21; (first | rw [E2.out] | skip); refine (HOW.out _).mono ?_; rintro e w3 ⟨v3, rfl, hO3, hB3⟩; obtain ⟨a3, c3, rfl, hT3, hn3, hc3⟩ := hO3.ty; have b3 : Below w.heap.size w w3 := bel_of (by first | exact HBW.out | exact HBW.out.drew | exact HBW.out.drew.alloc HBW.out.drew.size _ | exact (HBW.out.alloc HBW.out.size _).drew) hB3; have hR3 : RowAt w3 w.heap.size 39 #[.slice none 0 0, .int .u16 0, .int .u16 0, .int .u32 0, .slice none 0 0] := rz_bel hB3 (by first | exact HR1.out | exact HR1.out.alloc _); (first | have l3 : w3.cell? ⟨w1.heap.size, j, none⟩ = some (.int .u32 (tl : Int)) := lit_cell2 hB3 (by exact RowAt.new w1 _ _) hget | skip))
      | (go_at_call 67; (first | rw [E3.out] | skip); refine (HDA.out _).mono ?_; rintro e w4 ⟨v4, rfl, hO4, hB4⟩; obtain ⟨a4, c4, rfl, hT4, hn4, hc4⟩ := hO4.ty; have b4 : Below w.heap.size w w4 := bel_of (by first | exact b3 | exact b3.alloc b3.size _) hB4; have T4 : TyS w4 a3 o := hT3.kb ((by first | exact KB.refl _ | exact KB.alloc _ _ : KB w3 _).trans (KB.of_below hB4)); have hR4 : RowAt w4 w.heap.size 39 #[.slice none 0 0, .int .u16 0, .int .u16 0, .int .u32 0, .slice none 0 0] := rz_bel hB4 (by first | exact hR3 | exact hR3.alloc _); obtain ⟨x0, x1, x2, x3, x4, f0, f1, f2, f3, f4⟩ := rz_facts hR4; obtain ⟨y0, y1, y2, y3, y4, g0, g1, g2, g3, g4⟩ := rz_facts (hR4.alloc (.cells #[.int .u32 30, .int .u32 30, .int .u32 60, .int .u32 5] 35)); (first | have l4 : w4.cell? ⟨w3.heap.size, j, none⟩ = some (.int .u32 (tl : Int)) := lit_cell2 hB4 (by exact RowAt.new w3 _ _) hget | have l4 : w4.cell? ⟨w1.heap.size, j, none⟩ = some (.int .u32 (tl : Int)) := cell_bel hB4 (Nat.le_refl _) l3 (by have := hB3.size; simp at this; show w1.heap.size < _; omega) | skip))
      | fail)
    all_goals go_wp2_with fail
    all_goals go_meet
    all_goals first
      | exact ⟨rfl, RecD.mk' hR4 b4 T4 hc3 hT4 hn4 hc4⟩
      | exact ⟨rfl, RecD.mk' (hR4.alloc _) (b4.alloc b4.size _) (T4.kb (KB.alloc _ _)) hc3 (hT4.kb (KB.alloc _ _)) hn4 hc4⟩
  case rest =>
    obtain ⟨rfl, na, nc, da, dc, hr, h1, h2, h3, h4, h5, h6⟩ := hcut
    go_wp2
    refine bodyPost_ret (v := .agg _) (results_rc Tryz.results38 _ _ w.heap.size _ rfl rfl hr) rfl ⟨na, nc, da, dc, rfl, h1.1, h2, h3.1, h4, h5, h6⟩
end Go.Proofs.YtdldaphkiphpnaaGreat
