/- journal.framesSize, journal.frames. -/
import Derived.Test.YtidocfajhhpfdaaDoorJhd
namespace Go.Proofs.YtidocfajhhpfdaaDoor
open Go.RowKit
namespace J
set_option maxRecDepth 5000 in
theorem frl_snoc (r : List UInt8) : ∀ (l : List (List UInt8)) (k : Nat), frl k (l ++ [r]) = if r = [] then frl k l else frl k l ++ [(k + l.length, r)]
  | [], k => by
    by_cases h : r = []
    · simp [frl, h]
    · simp [frl, h]
  | x :: l, k => by
    have ih := frl_snoc r l (k + 1)
    rw [List.cons_append, frl, frl, List.length_cons, ih, show k + (l.length + 1) = k + 1 + l.length by omega]
    by_cases hx : x = []
    · rw [if_pos hx, if_pos hx]
    · rw [if_neg hx, if_neg hx]
      by_cases h : r = []
      · simp [h]
      · simp [h]
set_option maxRecDepth 5000 in
theorem fsz_snoc (l : List (List UInt8)) (r : List UInt8) : fsz (l ++ [r]) = fsz l + (if r = [] then 0 else r.length + 12) := by simp [fsz]
set_option maxRecDepth 5000 in
theorem fsz_take (l : List (List UInt8)) (k : Nat) : fsz (l.take k) ≤ fsz l := by
  have h := congrArg fsz (List.take_append_drop k l)
  have e : ∀ a b, fsz (a ++ b) = fsz a + fsz b := fun a b => by simp [fsz]
  rw [e] at h; omega
end J
/- the address of a slice of lists of bytes -/
def SlBs (w : World) (ao : Option Addr) (L : List (List UInt8)) : Prop := 0 < L.length → ∃ b o, ao = some ⟨b, o, none⟩ ∧ b < w.heap.size ∧ ∀ j, j < L.length → ∃ a c, w.cell? ⟨b, o + j, none⟩ = some (.slice a (L.getD j []).length c) ∧ SlL w a (L.getD j []) ∧ (a = none → c = 0)
set_option maxRecDepth 5000 in
theorem SlBs.below {B : Nat} {w w' : World} {ao : Option Addr} {L : List (List UInt8)} (h : SlBs w ao L) (hb : Below B w w') (hB : w.heap.size ≤ B) : SlBs w' ao L := fun hn => by
  obtain ⟨b, o, e, hlt, hc⟩ := h hn
  refine ⟨b, o, e, Nat.lt_of_lt_of_le hlt hb.size, fun j hj => ?_⟩
  obtain ⟨a, c, h1, h2, h3⟩ := hc j hj
  exact ⟨a, c, (hb.cell (p := ⟨b, o + j, none⟩) (Nat.lt_of_lt_of_le hlt hB)).trans h1, h2.below hb hB, h3⟩
set_option maxRecDepth 5000 in
theorem take_snoc (L : List (List UInt8)) (k : Nat) (hk : k < L.length) : L.take (k + 1) = L.take k ++ [L.getD k []] := by
  rw [List.take_add_one, List.getElem?_eq_getElem hk]; simp [List.getD_eq_getElem?_getD, hk]
set_option maxHeartbeats 1000000 in
set_option maxRecDepth 5000 in
theorem framesSize_any (w : World) (ao : Option Addr) (c : Nat) (L : List (List UInt8)) (hl : J.fsz L ≤ 1000000000000) (hl2 : L.length ≤ 1000000000000) (hs : SlBs w ao L) :
    Calls Tryd.prog 56 #[.slice ao L.length c] w fun e w' => e = .returned (.int .i64 (J.fsz L : Int)) ∧ w' = w := by
  have HS := hide hs
  clear hs
  go_enter Tryd.func56, Tryd.ntmps56
  go_wp2
  go_loopw [3, 8] (fun q i wr => wr = w ∧ ∃ k : Nat, k ≤ L.length ∧ i = .int .i64 (k : Int) ∧ q = .int .i64 (J.fsz (L.take k) : Int)) (fun q i wr => L.length - (intOf i).toNat)
  case atStart => exact ⟨rfl, 0, by omega, rfl, rfl⟩
  case round =>
    obtain ⟨hw, k, hk, rfl, rfl⟩ := hrel
    rw [hw]
    clear hw
    by_cases hlt : k < L.length
    · obtain ⟨b, o, rfl, hb, hc⟩ := HS.out (by omega)
      obtain ⟨a, c2, c1, _, _⟩ := hc k hlt
      have hlt' : (k : Int) < (L.length : Int) := by omega
      have E := hide (J.fsz_snoc (L.take k) (L.getD k []))
      rw [← take_snoc L k hlt] at E
      have hb1 := J.fsz_take L (k + 1)
      clear hc
      rw [E.out] at hb1
      generalize J.fsz (L.take k) = q at E hb1
      generalize L.getD k [] = x at E c1 hb1
      have F : Hid (J.fsz (L.take (k + 1)) = q + (if x.length = 0 then 0 else x.length + 12)) := by
        show _ = _
        rw [E.out]
        by_cases hx : x = []
        · simp [hx]
        · rw [if_neg hx, if_neg (by intro h; exact hx (List.eq_nil_of_length_eq_zero h))]
      have hb2 : x.length = 0 ∨ q + (x.length + 12) ≤ J.fsz L := by
        by_cases hx : x = []
        · left; simp [hx]
        · right; rw [if_neg hx] at hb1; exact hb1
      generalize x.length = n at c1 F hb2
      clear E hb1
      by_cases h0 : n = 0
      · subst h0
        go_wp2
        go_roundw
        case rel => exact ⟨trivial, k + 1, by omega, by go_num, by rw [F.out]; rfl⟩
        case measure => simp [intOf]; omega
      · have h0' : (0 : Int) < (n : Int) := by omega
        have F2 : Hid (J.fsz (L.take (k + 1)) = q + (n + 12)) := by show _ = _; rw [F.out, if_neg h0]
        have hb3 : q + (n + 12) ≤ J.fsz L := by rcases hb2 with h | h; exact absurd h h0; exact h
        clear F hb2 h0
        go_wp2
        go_roundw
        case rel => exact ⟨trivial, k + 1, by omega, by go_num, by rw [F2.out]; congr 1⟩
        case measure => simp [intOf]; omega
    · have hlt' : ¬ (k : Int) < (L.length : Int) := by omega
      have E : Hid (J.fsz (L.take k) = J.fsz L) := by
        show _ = _
        rw [List.take_of_length_le (by omega)]
      generalize J.fsz (L.take k) = z at E
      go_wp2
      go_ret
      exact ⟨by rw [E.out]; rfl, rfl⟩
set_option maxRecDepth 5000 in
theorem make_cap (n : Nat) (hn : n ≤ 1000000000000) (W : World) : (Instr.makeSlice 22 (.int .i64 0) (.int .i64 (n : Int))).run Tryd.prog W = .ok (.slice (some ⟨W.heap.size, 0, none⟩) 0 n) (W.alloc (.cells (vb (List.replicate n 0)).toArray 5)) := by
  obtain ⟨i0, hi, hz0, hz1, hz2⟩ := info_parts infoB
  rw [run_make (P := Tryd.prog) W 22 5 i0 (.int .u8 0) Tryd.underlying22 hi hz0 .i64 .i64 0 n (by omega) (by omega) (by rw [hz2]; omega) (by omega)]
  rw [Int.toNat_natCast, hz1, Nat.mul_one]
  have e : (Value.int .u8 0).cells = #[.int .u8 0] := rfl
  have e2 : madeCells #[.int .u8 0] n = (vb (List.replicate n 0)).toArray := by
    apply Array.toList_inj.1
    rw [toList_madeCells_one]
    simp [vb]
  rw [e, e2]
  rfl
set_option maxRecDepth 5000 in
theorem OwnB.cap (W : World) (n : Nat) (hn : n ≤ 1000000000000) (base : Nat) (hb : base ≤ W.heap.size) : OwnB (W.alloc (.cells (vb (List.replicate n 0)).toArray 5)) base (.slice (some ⟨W.heap.size, 0, none⟩) 0 n) [] :=
  ⟨rfl, Or.inr ⟨W.heap.size, n, _, rfl, hb, heap_alloc_last W _, Nat.zero_le _, by unfold maxLen; omega, by simp [vb], by simp [vb]⟩⟩
set_option maxRecDepth 5000 in
theorem OwnB.slice {w : World} {base : Nat} {v : Value} {l : List UInt8} (h : OwnB w base v l) : ∃ a c, v = .slice a l.length c := by
  have h0 : w.ownsRow base 5 1 v l.length (vb l) := h
  rcases h0.2 with ⟨rfl, e⟩ | ⟨g, cap, cur, rfl, _⟩
  · exact ⟨none, 0, by rw [e]⟩
  · exact ⟨_, _, rfl⟩
set_option maxRecDepth 5000 in
theorem OwnB.tail {w : World} {base g cap : Nat} {l : List UInt8} (h : OwnB w base (.slice (some ⟨g, 0, none⟩) l.length cap) l) (k : Nat) : SlL w (some ⟨g, k, none⟩) (l.drop k) := fun hl => by
  rw [List.length_drop] at hl
  obtain ⟨g', cap', e, _, _, _, hlt, hc⟩ := h.form (by omega)
  simp only [Value.slice.injEq, Option.some.injEq, Addr.mk.injEq, and_true, true_and] at e
  obtain ⟨rfl, rfl⟩ := e
  refine ⟨g, k, rfl, hlt, fun j hj => ?_⟩
  rw [List.length_drop] at hj
  rw [hc (k + j) (by omega)]
  simp [List.getD_eq_getElem?_getD]
set_option maxHeartbeats 2000000 in
set_option maxRecDepth 5000 in
theorem frames_any (w : World) (ht : Tab w) (ao : Option Addr) (c B : Nat) (L : List (List UInt8)) (hl : J.fsz L ≤ 1000000000) (hl2 : L.length ≤ 1000000000) (hB : B ≤ 1000000000000) (hs : SlBs w ao L) :
    Calls Tryd.prog 57 #[.int .i64 (B : Int), .slice ao L.length c] w fun e w' => ∃ v', e = .returned v' ∧ OwnB w' w.heap.size v' (J.enc (J.frl B L)) ∧ Below w.heap.size w w' := by
  have HS := hide hs
  have HT := hide ht
  have hpos : 0 < w.heap.size := ht.1
  have hfs := framesSize_any w ao c L (by omega) (by omega) hs
  have hmk := make_cap (J.fsz L) (by omega)
  have hO0 := hide (OwnB.cap w (J.fsz L) (by omega) w.heap.size (Nat.le_refl _))
  clear hs ht
  obtain ⟨N, hN⟩ : ∃ N, N = J.fsz L := ⟨_, rfl⟩
  rw [← hN] at hfs hmk hO0 hl
  have HN := hide hN
  clear hN
  generalize hob : (Obj.cells (vb (List.replicate N 0)).toArray 5) = ob at hmk hO0
  clear hob
  go_enter Tryd.func57, Tryd.ntmps57
  go_wp2_with (go_at_call 56; refine hfs.mono ?_; rintro e w' ⟨rfl, hw⟩; rw [hw]; clear hw w')
  go_loopw [5, 14] (fun v i wr => ∃ k : Nat, k ≤ L.length ∧ i = .int .i64 (k : Int) ∧ OwnB wr w.heap.size v (J.enc (J.frl B (L.take k))) ∧ Below w.heap.size w wr) (fun v i wr => L.length - (intOf i).toNat)
  case atStart => exact ⟨0, by omega, rfl, by simpa [J.frl, J.enc] using hO0.out, (Below.refl _ w).alloc (Nat.le_refl _) _⟩
  case round =>
    obtain ⟨k, hk, rfl, hO, hBw⟩ := hrel
    by_cases hlt : k < L.length
    · obtain ⟨b, o, rfl, hb, hc⟩ := HS.out (by omega)
      obtain ⟨a, c2, c1, hx, hxn⟩ := hc k hlt
      replace c1 := (hBw.cell (p := ⟨b, o + k, none⟩) hb).trans c1
      have hlt' : (k : Int) < (L.length : Int) := by omega
      have E := hide (J.frl_snoc (L.getD k []) (L.take k) B)
      rw [← take_snoc L k hlt] at E
      rw [show B + (L.take k).length = B + k by rw [List.length_take]; omega] at E
      have hen := J.frl_len B (L.take (k + 1))
      have hen2 := J.fsz_take L (k + 1)
      rw [← hen, ← HN.out] at hen2
      clear hc hen
      obtain ⟨K, hK⟩ : ∃ K, K = B + k := ⟨_, rfl⟩
      obtain ⟨F, hF⟩ : ∃ F, F = J.frl B (L.take k) := ⟨_, rfl⟩
      rw [← hK] at E
      have hK2 : (B : Int) + (k : Int) = (K : Int) := by omega
      have hKb : K ≤ 2000000000000 := by omega
      rw [← hF] at E hO
      generalize L.getD k [] = x at E c1 hx
      have HO := hide hO
      have HX := hide hx
      have HXN := hide hxn
      have HBw := hide hBw
      clear hO hx hxn hBw hK hF
      by_cases h0 : x = []
      · have E2 : Hid (J.frl B (L.take (k + 1)) = F) := by show _ = _; rw [E.out, if_pos h0]
        subst h0
        clear E hen2 hK2
        go_wp2
        go_roundw
        case rel => exact ⟨k + 1, by omega, by go_num, by rw [E2.out]; exact HO.out, HBw.out⟩
        case measure => simp [intOf]; omega
      · have E2 : Hid (J.frl B (L.take (k + 1)) = F ++ [(K, x)]) := by show _ = _; rw [E.out, if_neg h0]
        rw [E2.out] at hen2
        have hen3 : (J.enc F).length + (x.length + 12) ≤ N := by
          rw [J.enc_app, List.length_append] at hen2
          simpa [J.enc, J.fr_len] using hen2
        have h1 : ((x.length : Int) == 0) = false := by
          have : 0 < x.length := List.length_pos_iff.2 h0
          simp; omega
        obtain ⟨gv, cv, hv⟩ := HO.out.slice
        rw [hv] at HO ⊢
        clear hv E
        obtain ⟨E0, hE0⟩ : ∃ E0, E0 = J.enc F := ⟨_, rfl⟩
        have HE0 := hide hE0
        rw [← hE0] at HO hen3 ⊢
        clear hE0 hen2
        have hzw : w.heap.size ≤ wr.heap.size := HBw.out.size
        have hw1 : IntKind.u64.wrap (K : Int) = (K : Int) := by rw [IntKind.wrap_u64]; omega
        have hw2 : IntKind.u64.wrap (x.length : Int) = (x.length : Int) := by rw [IntKind.wrap_u64]; omega
        go_wp2_with fail
        refine (show Calls Tryd.prog 69 #[.slice gv E0.length cv, .int .i64 4, .int .u64 (K : Int)] wr _ from appNum_any wr w.heap.size _ E0 4 K (Or.inl HO.out) (by omega) (by omega) (by omega) hzw).mono ?_
        rintro e w2 ⟨v2, rfl, O2, b2⟩
        have l2 : (E0 ++ J.be 4 K).length = E0.length + 4 := by rw [List.length_append, J.be_len]
        have bb2 := hide (HBw.out.trans b2)
        have z2 : w.heap.size ≤ w2.heap.size := bb2.out.size
        have HO2 := hide O2
        clear O2 b2 HO
        go_wp2_with fail
        refine (show Calls Tryd.prog 69 #[v2, .int .i64 4, .int .u64 (x.length : Int)] w2 _ from appNum_any w2 w.heap.size _ _ 4 x.length (Or.inl HO2.out) (by omega) (by omega) (by rw [l2]; omega) z2).mono ?_
        rintro e w3 ⟨v3, rfl, O3, b3⟩
        have l3 : (E0 ++ J.be 4 K ++ J.be 4 x.length).length = E0.length + 8 := by rw [List.length_append, J.be_len, l2]
        have bb3 := hide (bb2.out.trans b3)
        have z3 : w.heap.size ≤ w3.heap.size := bb3.out.size
        have HO3 := hide O3
        have HX3 := hide (HX.out.below bb3.out (Nat.le_refl _))
        clear O3 b3 HO2
        have eF : Hid (E0 ++ J.be 4 K ++ J.be 4 x.length ++ x = E0 ++ J.fpre K x) := by show _ = _; simp [J.fpre]
        go_wp2_with (at_builtin; refine wpList_append_B rfl (.tmp 35) (.tmp 36) rfl w.heap.size _ _ rfl HO3.out _ _ _ x rfl rfl HX3.out HXN.out (by rw [l3]; omega) z3 ?_; intro v4 w4 O4 G4; have b4 := grown_below HO3.out G4 (Below.refl _ _) z3; have bb4 := hide (bb3.out.trans b4); have z4 : w.heap.size ≤ w4.heap.size := bb4.out.size; have T4 := hide (HT.out.below bb4.out hpos); rw [eF.out] at O4; have l4 : (E0 ++ J.fpre K x).length = E0.length + 8 + x.length := (by rw [← eF.out, List.length_append, l3]); obtain ⟨g4, c4, hv4, hq1, hq2, hq⟩ := O4.form (by omega); clear hq1 hq; rw [hv4] at O4; have S4 := hide (O4.tail E0.length); rw [List.drop_left] at S4; rw [l4] at O4 hv4 hq2; rw [hv4]; have HO4 := hide O4; clear O4 G4 b4 HO3 HX3 hv4)
        have l5 : (J.fpre K x).length = 8 + x.length := by simp [J.fpre, J.be_len]; omega
        refine (crc_at w4 T4.out _ _ _ (J.fpre K x) (by rw [l5]; omega) (by omega) S4.out).mono ?_
        rintro e w' ⟨rfl, hw'⟩
        rw [hw']
        clear hw' w' S4 T4
        have hcl := J.crc_lt (J.fpre K x)
        have E3 : Hid (E0 ++ J.fpre K x ++ J.be 4 (J.crc (J.fpre K x)) = J.enc (F ++ [(K, x)])) := by
          show _ = _
          rw [J.enc_app, ← HE0.out, List.append_assoc]; simp [J.enc, J.fr]
        generalize J.crc (J.fpre K x) = X at hcl E3
        have hw5 : IntKind.u64.wrap (X : Int) = (X : Int) := by rw [IntKind.wrap_u64]; omega
        go_wp2_with fail
        refine (show Calls Tryd.prog 69 #[.slice (some ⟨g4, 0, none⟩) (E0.length + 8 + x.length) c4, .int .i64 4, .int .u64 (X : Int)] w4 _ from appNum_any w4 w.heap.size _ _ 4 X (Or.inl HO4.out) (by omega) (by omega) (by rw [l4]; omega) z4).mono ?_
        rintro e w5 ⟨v5, rfl, O5, b5⟩
        rw [E3.out] at O5
        have HO5 := hide O5
        have bb5 := hide (bb4.out.trans b5)
        clear O5 b5 HO4
        go_wp2
        go_roundw
        case rel => exact ⟨k + 1, by omega, by go_num, by rw [E2.out]; exact HO5.out, bb5.out⟩
        case measure => simp [intOf]; omega
    · have hlt' : ¬ (k : Int) < (L.length : Int) := by omega
      rw [List.take_of_length_le (by omega)] at hO
      have HO := hide hO
      have HBw := hide hBw
      clear hO hBw
      go_wp2
      go_ret
      exact ⟨_, rfl, HO.out, HBw.out⟩
end Go.Proofs.YtidocfajhhpfdaaDoor
