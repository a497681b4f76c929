/- journal.openHead of a head. -/
import Derived.Test.YtidocfajhhpfdaaDoorJsb
namespace Go.Proofs.YtidocfajhhpfdaaDoor
open Go.RowKit
namespace J
set_option maxRecDepth 5000 in
theorem hb_parts (h : H) (sz : Nat) (h1 : h.c < 18446744073709551616) (h2 : h.a < 2) (h3 : h.u < 4294967296) (h4 : h.b < 4294967296) :
    num (((hb h sz).drop 8).take 8) = h.c ∧ num (((hb h sz).drop 16).take 4) = h.a ∧ num (((hb h sz).drop 20).take 4) = h.u ∧ num (((hb h sz).drop 24).take 4) = h.b := by
  have e0 : hb h sz = mark ++ (be 8 h.c ++ (be 4 h.a ++ (be 4 h.u ++ (be 4 h.b ++ (List.replicate (sz - 32) 0 ++ be 4 (crc (hpre h sz))))))) := by simp [hb, hpre]
  have l16 : (mark ++ be 8 h.c).length = 16 := by simp [be_len, mark_len]
  have l20 : (mark ++ be 8 h.c ++ be 4 h.a).length = 20 := by simp [be_len, mark_len]
  have l24 : (mark ++ be 8 h.c ++ be 4 h.a ++ be 4 h.u).length = 24 := by simp [be_len, mark_len]
  refine ⟨?_, ?_, ?_, ?_⟩
  · rw [e0, List.drop_left' mark_len, List.take_left' (be_len 8 _), num_be, Nat.mod_eq_of_lt (by omega)]
  · rw [e0, ← List.append_assoc, List.drop_left' l16, List.take_left' (be_len 4 _), num_be, Nat.mod_eq_of_lt (by omega)]
  · rw [e0, ← List.append_assoc, ← List.append_assoc, List.drop_left' l20, List.take_left' (be_len 4 _), num_be, Nat.mod_eq_of_lt (by omega)]
  · rw [e0, ← List.append_assoc, ← List.append_assoc, ← List.append_assoc, List.drop_left' l24, List.take_left' (be_len 4 _), num_be, Nat.mod_eq_of_lt (by omega)]
end J
set_option maxRecDepth 5000 in
theorem run_str {W : World} {ao : Option Addr} {l : List UInt8} (n cap : Nat) (hs : SlL W ao l) (hl : l.length = n) : (convert 22 9 (.slice ao n cap)).run Tryd.prog W = .ok (.string ⟨l.toArray⟩) W := by
  subst hl
  cases ao with
  | none =>
    have h0 : l = [] := by
      rcases Nat.eq_zero_or_pos l.length with h | h
      · exact List.eq_nil_of_length_eq_zero h
      · obtain ⟨b, o, e, _⟩ := hs h; cases e
    subst h0
    exact run_convert_bytes_nil W 22 5 Tryd.underlying22 Tryd.underlying5 0 cap 9 Tryd.underlying9
  | some a =>
    refine run_convert_bytes_back W 22 9 5 a cap l Tryd.underlying22 Tryd.underlying5 Tryd.underlying9 ?_
    intro j hj
    obtain ⟨b, o', e, _, hc⟩ := hs (by omega)
    cases e
    rw [Addr.add_mid, hc j hj]
    simp [List.getD_eq_getElem?_getD, hj]
set_option maxRecDepth 5000 in
theorem str_eq (l m : List UInt8) : (l == m) = decide (l = m) := by
  rw [Bool.eq_iff_iff]
  simp
set_option maxRecDepth 5000 in
theorem bEqual_any (w : World) (ao ao' : Option Addr) (n n' c c' : Nat) (l m : List UInt8) (hl : l.length = n) (hm : m.length = n') (hs : SlL w ao l) (hs' : SlL w ao' m) :
    Calls Tryd.prog 67 #[.slice ao n c, .slice ao' n' c'] w fun e w' => e = .returned (.bool (decide (l = m))) ∧ w' = w := by
  have h1 := run_str n c hs hl
  have h2 := run_str n' c' hs' hm
  have h3 := str_eq l m
  generalize decide (l = m) = Y at h3
  clear hs hs' hl hm
  go_enter Tryd.func67, Tryd.ntmps67
  go_wp2
  go_ret
  exact ⟨by rw [← h3]; rfl, rfl⟩
set_option maxRecDepth 5000 in
theorem hBytes_any (w : World) (ao ao' : Option Addr) (n n' c c' : Nat) (l m : List UInt8) (hl : l.length = n) (hm : m.length = n') (hs : SlL w ao l) (hs' : SlL w ao' m) :
    Calls Tryd.prog 36 #[.slice ao n c, .slice ao' n' c'] w fun e w' => e = .returned (.bool (decide (l = m))) ∧ w' = w := by
  have h1 := run_str n c hs hl
  have h2 := run_str n' c' hs' hm
  have h3 := str_eq l m
  generalize decide (l = m) = Y at h3
  clear hs hs' hl hm
  go_enter Tryd.func36, Tryd.ntmps36
  go_wp2
  go_ret
  exact ⟨by rw [← h3]; rfl, rfl⟩
set_option maxRecDepth 5000 in
theorem infoHead : (Tryd.prog.info? 67).map (·.size) = some 4 := by kernel_rfl
set_option maxRecDepth 5000 in
theorem setRow_same {w : World} {g : Nat} {t : TypeId} {c : Array Value} (h : RowAt w g t c) (c' : Array Value) : RowAt (w.setRow g c') g t c' := setRow_heap w g c c' t _ h
set_option maxRecDepth 5000 in
theorem below_setRow {B g : Nat} {w0 w : World} (hb : Below B w0 w) (hBg : B ≤ g) (cs : Array Value) : Below B w0 (w.setRow g cs) :=
  hb.trans ⟨rfl, rfl, rfl, by simp, fun k hk => by simp only [World.setRow, Array.getElem?_modify]; rw [if_neg (by omega)]⟩
set_option maxRecDepth 5000 in
theorem wpList_store_absR {ops : Array Oper} {rest : List Oper} {o : Oper} {a : Act} {w : World} {Q : Exit → Act → World → Prop} (hgd : o.guard = none) (ty : TypeId) (x y : Operand) (ho : o.op = .store ty x y)
    (g : Nat) (cells : Array Value) (hx : a.eval x = .pointer (some ⟨g, 0, none⟩)) (hy : a.eval y = .agg cells) (t : TypeId) (old : Array Value) (hg : RowAt w g t old)
    (hi : (Tryd.prog.info? ty).map (·.size) = some cells.size) (ho2 : old.size = cells.size) (h1 : cells.all (·.oneCell') = true) (B : Nat) (hB : B ≤ g)
    (h : ∀ w', RowAt w' g t cells → Below B w w' → wpList Tryd.prog ops Q rest (a.put o.dst undef) w') : wpList Tryd.prog ops Q (o :: rest) a w :=
  wpList_plain hgd fun _ hK => by
    unfold Oper.wp execOp
    simp only [ho, hx, hy, Instr.storeAt, Instr.sureAddr, Sem.run_bind, Sem.run_pure, Result.andThen_ok, run_storeVar_row w g t ty old cells hg hi ho2 h1]
    exact hK _ _ (h _ (setRow_same hg _) (below_setRow (Below.refl _ _) hB _))
set_option maxRecDepth 5000 in
theorem OwnB.slAny {w : World} {base : Nat} {a : Option Addr} {n c : Nat} {l : List UInt8} (h : OwnB w base (.slice a n c) l) : SlL w a l := fun hl => by
  obtain ⟨g, cap, e, _, _, _, hlt, hc⟩ := h.form hl
  injection e with e1 e2 e3
  subst e1
  exact ⟨g, 0, rfl, hlt, fun j hj => by rw [Nat.zero_add]; exact hc j hj⟩
set_option maxHeartbeats 4000000 in
set_option maxRecDepth 5000 in
theorem openHead_ok (w : World) (ht : Tab w) (h : J.H) (hh : HOk h) (sz ab g o c : Nat) (hz1 : 64 ≤ sz) (hz2 : sz ≤ 4096) (hc : sz ≤ c) (hu : h.u ≤ ab) (hab : ab ≤ 1000000000) (hs : SlL w (some ⟨g, o, none⟩) (J.hb h sz)) :
    Calls Tryd.prog 48 #[.slice (some ⟨g, o, none⟩) sz c, .int .i64 (ab : Int)] w fun e w' => e = .returned (.agg (hrow h)) ∧ Below w.heap.size w w' := by
  obtain ⟨p1, p2, p3, p4⟩ := J.hb_parts h sz (by have := hh.c; omega) hh.a hh.u (by have := hh.b; omega)
  have hbl := J.hb_len h sz (by omega)
  have hnum : ∀ (i m : Nat), i + m ≤ sz → m ≤ 8 → ∀ W, Below w.heap.size w W → ∀ cc, Calls Tryd.prog 50 #[.slice (some ⟨g, o + i, none⟩) m cc] W fun e w' => e = .returned (.int .u64 (J.num (((J.hb h sz).drop i).take m) : Int)) ∧ w' = W := fun i m hi hm W hW cc =>
    number_any W _ cc m _ (by rw [List.length_take, List.length_drop, hbl]; omega) hm ((hs.below hW (Nat.le_refl _)).sub i m)
  have sx1 : ∀ W : World, (Instr.sliceAt 22 (.slice (some ⟨g, o, none⟩) sz c) (some (.int .i64 8)) none none).run Tryd.prog W = .ok (.slice (some ⟨g, o + 8, none⟩) (sz - 8) (c - 8)) W := by
    have := sl_suf g o sz c 8 (by omega)
    rw [if_neg (by omega)] at this; exact this
  have sx2 : ∀ W : World, (Instr.sliceAt 22 (.slice (some ⟨g, o + 8, none⟩) (sz - 8) (c - 8)) (some (.int .i64 8)) (some (.int .i64 12)) none).run Tryd.prog W = .ok (.slice (some ⟨g, o + 16, none⟩) 4 (c - 8 - 8)) W := sl_mid g (o + 8) (sz - 8) (c - 8) 8 12 (by omega) (by omega) (by omega)
  have sx3 : ∀ W : World, (Instr.sliceAt 22 (.slice (some ⟨g, o + 8, none⟩) (sz - 8) (c - 8)) (some (.int .i64 12)) (some (.int .i64 16)) none).run Tryd.prog W = .ok (.slice (some ⟨g, o + 20, none⟩) 4 (c - 8 - 12)) W := sl_mid g (o + 8) (sz - 8) (c - 8) 12 16 (by omega) (by omega) (by omega)
  have sx4 : ∀ W : World, (Instr.sliceAt 22 (.slice (some ⟨g, o + 8, none⟩) (sz - 8) (c - 8)) (some (.int .i64 16)) (some (.int .i64 20)) none).run Tryd.prog W = .ok (.slice (some ⟨g, o + 24, none⟩) 4 (c - 8 - 16)) W := sl_mid g (o + 8) (sz - 8) (c - 8) 16 20 (by omega) (by omega) (by omega)
  have sx5 : ∀ W : World, (Instr.sliceAt 22 (.slice (some ⟨g, o + 8, none⟩) (sz - 8) (c - 8)) none (some (.int .i64 8)) none).run Tryd.prog W = .ok (.slice (some ⟨g, o + 8, none⟩) 8 (c - 8)) W := sl_pre g (o + 8) (sz - 8) (c - 8) 8 (by omega)
  generalize c - 8 - 8 = ca at sx2
  generalize c - 8 - 12 = cb at sx3
  generalize c - 8 - 16 = cd at sx4
  generalize c - 8 = ce at sx1 sx2 sx3 sx4 sx5
  generalize sz - 8 = sa at sx1 sx2 sx3 sx4 sx5
  have HS := hide hs
  have HT := hide ht
  have hpos := ht.1
  have HH := hide hh
  have HBL := hide hbl
  have g1 := hh.c
  have g2 := hh.a
  have g3 := hh.u
  have g4 := hh.b
  obtain ⟨C, A, U, Bl⟩ := h
  simp only at p1 p2 p3 p4 hu g1 g2 g3 g4
  clear hs ht hh hbl hc
  have B1 : Hid (Below w.heap.size w (w.alloc (.cells #[.int .u64 0, .int .i64 0, .int .i64 0, .int .i64 0] 67))) := (Below.refl _ w).alloc (Nat.le_refl _) _
  have R1 : Hid (RowAt (w.alloc (.cells #[.int .u64 0, .int .i64 0, .int .i64 0, .int .i64 0] 67)) w.heap.size 67 #[.int .u64 0, .int .i64 0, .int .i64 0, .int .i64 0]) := RowAt.new w _ _
  go_enter Tryd.func48, Tryd.ntmps48
  go_wp2
  generalize w.alloc (.cells #[.int .u64 0, .int .i64 0, .int .i64 0, .int .i64 0] 67) = w1 at B1 R1 ⊢
  have HN := hide hnum
  have HP := hide (And.intro p1 (And.intro p2 (And.intro p3 p4)))
  clear hnum p1 p2 p3 p4
  go_region_held3 (fun _ => True) (first | trivial) (first | (go_at_call 50; refine (HN.out _ _ (by omega) (by omega) _ (by first | exact B1.out | exact B1.out.drew | exact below_drewN B1.out _) _).mono ?_; rintro e w' ⟨rfl, hw⟩; rw [hw]; clear hw w'; (first | rw [HP.out.2.1] | rw [HP.out.2.2.1] | rw [HP.out.2.2.2])))
  have B2 : Hid (Below w.heap.size w w1.drew) := B1.out.drew
  have R2 : Hid (RowAt w1.drew w.heap.size 67 #[.int .u64 0, .int .i64 0, .int .i64 0, .int .i64 0]) := R1.out.drew
  generalize w1.drew = w2 at B2 R2 ⊢
  clear B1 R1
  have i1 : decide ((2 : Int) ≤ (A : Int)) = false := by simp; omega
  have i2 : decide (ab < U) = false := by simp; omega
  have i2a : decide ((1048576 : Int) < (Bl : Int)) = false := by simp; omega
  have i3 : IntKind.u64.wrap (ab : Int) = (ab : Int) := by rw [IntKind.wrap_u64]; omega
  have i4 : IntKind.i64.wrap (A : Int) = (A : Int) := by rw [IntKind.wrap_i64]; omega
  have i5 : IntKind.i64.wrap (U : Int) = (U : Int) := by rw [IntKind.wrap_i64]; omega
  have i6 : IntKind.i64.wrap (Bl : Int) = (Bl : Int) := by rw [IntKind.wrap_i64]; omega
  go_wp2_with (go_at_call 50; refine (HN.out _ _ (by omega) (by omega) _ B2.out _).mono ?_; rintro e w' ⟨rfl, hw⟩; rw [hw]; clear hw w'; rw [HP.out.1])
  all_goals (have R3 : Hid (RowAt (w2.alloc (.cells #[.int .u64 (C : Int), .int .i64 (A : Int), .int .i64 (U : Int), .int .i64 (Bl : Int)] 67)) w2.heap.size 67 #[.int .u64 (C : Int), .int .i64 (A : Int), .int .i64 (U : Int), .int .i64 (Bl : Int)]) := (RowAt.new w2 _ _))
  all_goals (have B3 : Hid (Below w2.heap.size w2 (w2.alloc (.cells #[.int .u64 (C : Int), .int .i64 (A : Int), .int .i64 (U : Int), .int .i64 (Bl : Int)] 67))) := ((Below.refl _ w2).alloc (Nat.le_refl _) _))
  all_goals generalize (w2.alloc (.cells #[.int .u64 (C : Int), .int .i64 (A : Int), .int .i64 (U : Int), .int .i64 (Bl : Int)] 67)) = w3 at R3 B3 ⊢
  all_goals (have BB3 := hide (B2.out.trans (B3.out.mono B2.out.size)))
  all_goals (have R23 := hide (R2.out.below B3.out R2.out.lt))
  all_goals (have hhb := hbytes_any w3 (HT.out.below BB3.out hpos) ⟨C, A, U, Bl⟩ HH.out sz hz1 hz2; unfold hrow at hhb; simp only at hhb)
  all_goals (have x0 : w3.cell? ⟨w2.heap.size, 0, none⟩ = some (.int .u64 (C : Int)) := R3.out.cell 0; have x1 : w3.cell? ⟨w2.heap.size, 1, none⟩ = some (.int .i64 (A : Int)) := R3.out.cell 1; have x2 : w3.cell? ⟨w2.heap.size, 2, none⟩ = some (.int .i64 (U : Int)) := R3.out.cell 2; have x3 : w3.cell? ⟨w2.heap.size, 3, none⟩ = some (.int .i64 (Bl : Int)) := R3.out.cell 3)
  all_goals (clear sx1 sx2 sx3 sx4 sx5 B3 R2 HP HN; have hsz4 : (Tryd.prog.info? 67).map (·.size) = some 4 := infoHead)
  all_goals (go_wp2_with (first
    | (go_at_call 68; refine hhb.mono ?_; rintro e w4 ⟨v4, rfl, O4, b4⟩; obtain ⟨a4, c4, hv4⟩ := O4.slice; rw [HBL.out] at hv4; rw [hv4] at O4 ⊢; have R4 := hide (R3.out.below b4 R3.out.lt); have R24 := hide (R23.out.below b4 R23.out.lt); have BB4 := hide (BB3.out.trans (b4.mono BB3.out.size)); have S4 := hide (OwnB.slAny O4); have SS4 := hide (HS.out.below BB4.out (Nat.le_refl _)); clear O4 hv4 b4 x0 x1 x2 x3; have y0 : w4.cell? ⟨w2.heap.size, 0, none⟩ = some (.int .u64 (C : Int)) := R4.out.cell 0; have y1 : w4.cell? ⟨w2.heap.size, 1, none⟩ = some (.int .i64 (A : Int)) := R4.out.cell 1; have y2 : w4.cell? ⟨w2.heap.size, 2, none⟩ = some (.int .i64 (U : Int)) := R4.out.cell 2; have y3 : w4.cell? ⟨w2.heap.size, 3, none⟩ = some (.int .i64 (Bl : Int)) := R4.out.cell 3; have q0 : w4.cell? ⟨w.heap.size, 0, none⟩ = some (.int .u64 0) := R24.out.cell 0; have q1 : w4.cell? ⟨w.heap.size, 1, none⟩ = some (.int .i64 0) := R24.out.cell 1; have q2 : w4.cell? ⟨w.heap.size, 2, none⟩ = some (.int .i64 0) := R24.out.cell 2; have q3 : w4.cell? ⟨w.heap.size, 3, none⟩ = some (.int .i64 0) := R24.out.cell 3; have f0 := R24.out.frozen 0; have f1 := R24.out.frozen 1; have f2 := R24.out.frozen 2; have f3 := R24.out.frozen 3)
    | (go_at_call 67; refine (bEqual_any w4 _ _ sz sz _ _ _ _ HBL.out HBL.out SS4.out S4.out).mono ?_; rintro e w' ⟨rfl, hw⟩; rw [hw]; clear hw w'; rw [decide_eq_true rfl])
    | fail))
  all_goals (
    have R5 : RowAt ((((w4.setCell ⟨w.heap.size, 0, none⟩ (.int .u64 (C : Int))).setCell ⟨w.heap.size, 1, none⟩ (.int .i64 (A : Int))).setCell ⟨w.heap.size, 2, none⟩ (.int .i64 (U : Int))).setCell ⟨w.heap.size, 3, none⟩ (.int .i64 (Bl : Int))) w.heap.size 67 #[.int .u64 (C : Int), .int .i64 (A : Int), .int .i64 (U : Int), .int .i64 (Bl : Int)] := (((R24.out.set 0 (.int .u64 (C : Int))).set 1 (.int .i64 (A : Int))).set 2 (.int .i64 (U : Int))).set 3 (.int .i64 (Bl : Int))
    exact bodyPost_ret (v := .agg #[.int .u64 (C : Int), .int .i64 (A : Int), .int .i64 (U : Int), .int .i64 (Bl : Int)]) (results_cell_row Tryd.results48 _ _ w.heap.size 67 _ (0, 0) _ rfl R5 Tryd.underlying67 rfl (by exact infoHead)) rfl ⟨rfl, (((BB4.out.setCell (by simp) _).setCell (by simp) _).setCell (by simp) _).setCell (by simp) _⟩)
end Go.Proofs.YtidocfajhhpfdaaDoor
