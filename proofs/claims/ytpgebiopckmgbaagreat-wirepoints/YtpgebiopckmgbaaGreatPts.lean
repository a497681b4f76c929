/- The law WirePoints, given what known answers. -/
import Derived.Test.YtpgebiopckmgbaaGreatRfm
import Derived.Test.YtpgebiopckmgbaaGreatCct
namespace Go.Proofs.YtpgebiopckmgbaaGreat
open Go.RowKit
namespace M
set_option maxRecDepth 5000 in
theorem qs_all (b : List UInt8) : ∀ (k p : Nat) (l : List Q) (r : Nat), qs b k p = some (l, r) → l.length = k ∧ ∀ q ∈ l, Good q.name := by
  intro k
  induction k with
  | zero => intro p l r h; cases h; exact ⟨rfl, fun q hq => by cases hq⟩
  | succ k ih =>
    intro p l r h
    unfold qs at h
    rw [Option.bind_eq_some_iff] at h
    obtain ⟨⟨q, p1⟩, h1, h2⟩ := h
    rw [Option.map_eq_some_iff] at h2
    obtain ⟨⟨l1, r1⟩, h3, h4⟩ := h2
    cases h4
    obtain ⟨e1, e2⟩ := ih p1 l1 _ h3
    refine ⟨by simp [e1], fun x hx => ?_⟩
    rcases List.mem_cons.1 hx with rfl | hx
    · unfold qn at h1
      rw [Option.bind_eq_some_iff] at h1
      obtain ⟨⟨n, p2⟩, g1, g2⟩ := h1
      rw [Option.bind_eq_some_iff] at g2
      obtain ⟨t, _, g3⟩ := g2
      rw [Option.map_eq_some_iff] at g3
      obtain ⟨c, _, g4⟩ := g3
      cases g4
      exact (wn_good b p p [] good_nil n p2 g1).1
    · exact e2 x hx
set_option maxRecDepth 5000 in
theorem msgq_all {b : List UInt8} {i f : Nat} {l : List Q} (h : msgq b = some (i, f, l)) : l.length < 65536 ∧ ∀ q ∈ l, Good q.name := by
  unfold msgq at h
  split at h
  · cases h
  · rw [Option.bind_eq_some_iff] at h
    obtain ⟨⟨l1, r⟩, h1, h2⟩ := h
    split at h2
    · cases h2
      obtain ⟨e1, e2⟩ := qs_all b _ _ _ _ h1
      exact ⟨by rw [e1]; exact num_lt b 4, e2⟩
    · cases h2
set_option maxRecDepth 5000 in
theorem msgq_id {b : List UInt8} {i f : Nat} {l : List Q} (h : msgq b = some (i, f, l)) : i = num b 0 ∧ f = num b 2 := by
  unfold msgq at h
  split at h
  · cases h
  · rw [Option.bind_eq_some_iff] at h
    obtain ⟨⟨l1, r⟩, h1, h2⟩ := h
    split at h2
    · cases h2; exact ⟨rfl, rfl⟩
    · cases h2
def hdr (n : Nat) : List UInt8 := [0, 1, 0, 0, 0, UInt8.ofNat n, 0, 0, 0, 0, 0, 0]
set_option maxRecDepth 5000 in
theorem hdr_nums (n : Nat) (r : List UInt8) : num (hdr n ++ r) 2 = 0 ∧ num (hdr n ++ r) 6 = 0 ∧ num (hdr n ++ r) 8 = 0 ∧ num (hdr n ++ r) 10 = 0 := ⟨rfl, rfl, rfl, rfl⟩
end M
set_option maxRecDepth 5000 in
theorem mcells_zero (i : Nat) (v : Value) : mcells i 0 v = #[.int .u16 (i : Int), .bool false, .int .i64 0, .bool false, .bool false, .bool false, .bool false, .int .i64 0, v, .slice none 0 0, .slice none 0 0, .slice none 0 0, .bool false, .int .u16 0, .bool false] := by
  have h1 : M.g1 0 = false := by decide
  have h2 : M.g2 0 = 0 := by decide +kernel
  have h3 : M.g3 0 = false := by decide
  have h4 : M.g4 0 = false := by decide
  have h5 : M.g5 0 = false := by decide
  have h6 : M.g6 0 = false := by decide
  have h7 : M.g7 0 = 0 := by decide +kernel
  unfold mcells
  rw [h1, h2, h3, h4, h5, h6, h7]
set_option maxRecDepth 5000 in
theorem OwnB.lit (w : World) (l : List UInt8) (A : Array Value) (base : Nat) (hA : A = (vb l).toArray) (hb : base ≤ w.heap.size) (hl : l.length ≤ 1000) : OwnB (w.alloc (.cells A 5)) base (.slice (some ⟨w.heap.size, 0, none⟩) l.length l.length) l := by
  subst hA
  refine ⟨by rw [vb_len, Nat.mul_one], Or.inr ⟨w.heap.size, l.length, _, rfl, hb, heap_alloc_last w _, Nat.le_refl _, by unfold maxLen; omega, by simp [vb_len], ?_⟩⟩
  have h := vb_len l
  simp only [Nat.mul_one]
  exact List.take_of_length_le (by rw [h]; exact Nat.le_refl _)
set_option maxRecDepth 5000 in
theorem slQ_len {w : World} {base : Nat} {ao : Option Addr} {c n : Nat} {l : List (Option Addr × Nat × M.Q)} (hn : l.length = n) (h : OwnQ w base (.slice ao n c) l) : SlQ w ao l := by
  subst hn; exact h.slQ
set_option maxRecDepth 5000 in
theorem wrap64_small (x : Int) (h0 : 0 ≤ x) (h1 : x < 1000) : wrap64 x = x := by unfold wrap64; omega
set_option maxRecDepth 5000 in
theorem pt_byte (j y : Nat) (hj : j ≤ 30) : wrap64 ((12 : Int) + (y : Int) % (12 + 8 * (j : Int) - 12 + 4)) % 256 = ((UInt8.ofNat (12 + y % (8 * j + 4))).toNat : Int) := by
  have e : (12 + 8 * (j : Int) - 12 + 4) = ((8 * j + 4 : Nat) : Int) := by omega
  have hm : y % (8 * j + 4) < 8 * j + 4 := Nat.mod_lt _ (by omega)
  rw [e, ← Int.natCast_emod]
  generalize y % (8 * j + 4) = m at hm
  have hw : wrap64 ((12 : Int) + (m : Int)) = (12 : Int) + (m : Int) := wrap64_small _ (by omega) (by omega)
  rw [hw, UInt8.toNat_ofNat', Nat.mod_eq_of_lt (by omega)]
  have h2 : ((12 : Int) + (m : Int)) % 256 = 12 + m := Int.emod_eq_of_lt (by omega) (by omega)
  rw [h2]; simp
set_option maxHeartbeats 3200000 in
set_option maxRecDepth 5000 in
theorem points_walk (hK : ∀ W : World, Calls Tryz.prog 9 #[] W fun e w' => e = .returned (.bool true) ∧ Below W.heap.size W w') (l : List UInt8) (ao : Option Addr) (cap at_ : Nat) (w : World) (hs : SlL w ao l) :
    Calls Tryz.prog 7 #[.slice ao l.length cap, .int .u8 (at_ : Int)] w fun e w' => e = .returned (.bool true) ∧ Below w.heap.size w w' := by
  have HS := hide hs
  clear hs
  go_enter Tryz.func7, Tryz.ntmps7
  go_wp2_with fail
  refine (hK _).mono ?_
  rintro e w1 ⟨rfl, hb1⟩
  have B1 := hide hb1
  clear hb1
  rcases Nat.lt_or_ge 30 l.length with hlt | hge
  · have q1 : (30 : Int) < (l.length : Int) := by omega
    go_wp2
    go_ret
    exact ⟨rfl, B1.out⟩
  have q1 : ¬ (30 : Int) < (l.length : Int) := by omega
  have H0 : Hid (OwnB (w1.alloc (.cells #[.int .u8 0, .int .u8 1, .int .u8 0, .int .u8 0, .int .u8 0, .int .u8 (l.length : Int), .int .u8 0, .int .u8 0, .int .u8 0, .int .u8 0, .int .u8 0, .int .u8 0] 5)) w.heap.size (.slice (some ⟨w1.heap.size, 0, none⟩) 12 12) (M.hdr l.length ++ [])) := by
    rw [List.append_nil]
    exact OwnB.lit w1 (M.hdr l.length) _ w.heap.size (by simp [vb, M.hdr]; omega) B1.out.size (by simp [M.hdr])
  have B2 := hide (B1.out.alloc B1.out.size (.cells #[.int .u8 0, .int .u8 1, .int .u8 0, .int .u8 0, .int .u8 0, .int .u8 (l.length : Int), .int .u8 0, .int .u8 0, .int .u8 0, .int .u8 0, .int .u8 0, .int .u8 0] 5))
  go_wp2
  go_loopw [5, 6] (fun bv iv wr => ∃ (j : Nat) (r : List UInt8), iv = .int .i64 (j : Int) ∧ j ≤ l.length ∧ OwnB wr w.heap.size bv (M.hdr l.length ++ r) ∧ r.length = 8 * j ∧ Below w.heap.size w wr) (fun _ iv _ => l.length - (intOf iv).toNat)
  case atStart => exact ⟨0, [], rfl, by omega, H0.out, rfl, B2.out⟩
  case round =>
    clear H0 B2
    obtain ⟨j, r, rfl, hj, hO, hr, hB⟩ := hrel
    have hbl : (M.hdr l.length ++ r).length = 12 + 8 * j := by simp [M.hdr, hr]; omega
    obtain ⟨av, cv, rfl, hsl, hnl, hle, hmx⟩ := OwnB.open hO
    have OO := hide hO
    have BB := hide hB
    have zz : w.heap.size ≤ wr.heap.size := hB.size
    by_cases hlt : j < l.length
    · obtain ⟨g, o, rfl, hg, hcell⟩ := (HS.out.below hB (Nat.le_refl _)) (by omega)
      have x0 := hcell j hlt
      have hy := (l.getD j 0).toNat_lt
      have q2 : (j : Int) < (l.length : Int) := by omega
      clear hcell hsl hO hB hnl
      rw [hbl] at OO ⊢
      generalize (l.getD j 0).toNat = y at x0 hy
      have HX : Hid ((97 : Int) + (j : Int) % 20 = ((UInt8.ofNat (97 + j % 20)).toNat : Int)) := by show _ = _; rw [UInt8.toNat_ofNat']; omega
      have HY : Hid (wrap64 ((12 : Int) + (y : Int) % (12 + 8 * (j : Int) - 12 + 4)) % 256 = ((UInt8.ofNat (12 + y % (8 * j + 4))).toNat : Int)) := by
        exact pt_byte j y (by omega)
      go_wp2_with (at_builtin; refine wpList_append_B rfl (.tmp 38) (.tmp 45) rfl w.heap.size _ (M.hdr l.length ++ r) rfl (by exact OO.out.alloc _) _ _ _ [1, UInt8.ofNat (97 + j % 20), 192, UInt8.ofNat (12 + y % (8 * j + 4)), 0, 1, 0, 1] rfl rfl (by exact SlL.litm wr [1, UInt8.ofNat (97 + j % 20), 192, UInt8.ofNat (12 + y % (8 * j + 4)), 0, 1, 0, 1] _ 5 (0, 0) (by simp only [vb, List.map_cons, List.map_nil, ← HX.out, ← HY.out]; rfl)) (by intro h; cases h) (by rw [hbl]; simp; omega) (by simp; omega) ?_; intro v4 w4 hO4 hG4; have K4 := hide (Kp.app OO.out hG4 zz); have O4 := hide hO4; clear hO4 hG4)
      go_roundw
      case rel => exact ⟨j + 1, r ++ [1, UInt8.ofNat (97 + j % 20), 192, UInt8.ofNat (12 + y % (8 * j + 4)), 0, 1, 0, 1], by go_num, by omega, by rw [← List.append_assoc]; exact O4.out, by simp [hr]; omega, BB.out.trans K4.out.1⟩
      case measure => simp [intOf]; omega
    · obtain rfl : j = l.length := by omega
      obtain ⟨z2, z6, z8, z10⟩ := M.hdr_nums l.length r
      have h12 : 12 ≤ (M.hdr l.length ++ r).length := by rw [hbl]; omega
      have h65 : (M.hdr l.length ++ r).length ≤ 65535 := by rw [hbl]; omega
      generalize M.hdr l.length ++ r = b at hsl hnl hle OO z2 z6 z8 z10 h12 h65 ⊢
      have SB := hide hsl
      have NB := hide hnl
      have Z2 := hide z2
      have ZZ := hide (⟨z6, z8, z10⟩ : M.num b 6 = 0 ∧ M.num b 8 = 0 ∧ M.num b 10 = 0)
      clear hsl hnl hO hB OO z2 z6 z8 z10 hbl
      go_wp2_with fail
      refine (read_any b av cv _ (by exact SB.out) hle NB.out h65 (fun _ => ZZ.out)).mono ?_
      rintro e w2 ⟨⟨i, f, l1, v, ho, rfl, hO1⟩ | ⟨ho, rfl⟩, hb2⟩
      · obtain ⟨av1, cv1, rfl⟩ := hO1.form
        obtain rfl : f = 0 := (M.msgq_id ho).2.trans Z2.out
        obtain ⟨hlen, hgood⟩ := M.msgq_all ho
        have hlen1 : l1.length < 65536 := by simpa using hlen
        have hnm : ∀ x ∈ l1, x.2.2.name.length ≤ 100000 := fun x hx => by
          have h1 := hgood x.2.2 (List.mem_map.2 ⟨x, hx, rfl⟩)
          have h2 := len_le_size x.2.2.name
          have h3 := h1.2.2
          omega
        clear hlen hgood
        rw [mcells_zero]
        have b3 : Below wr.heap.size wr (w2.alloc (.cells #[.int .u16 (i : Int), .bool false, .int .i64 0, .bool false, .bool false, .bool false, .bool false, .int .i64 0, .slice av1 l1.length cv1, .slice none 0 0, .slice none 0 0, .slice none 0 0, .bool false, .int .u16 0, .bool false] 28)) := hb2.alloc hb2.size _
        have r3 := RowAt.new w2 28 #[.int .u16 (i : Int), .bool false, .int .i64 0, .bool false, .bool false, .bool false, .bool false, .int .i64 0, .slice av1 l1.length cv1, .slice none 0 0, .slice none 0 0, .slice none 0 0, .bool false, .int .u16 0, .bool false]
        have B3 := hide b3
        have R3 := hide r3
        have q3 := hide ((hO1.slQ).below ((Below.refl _ w2).alloc (Nat.le_refl _) (.cells #[.int .u16 (i : Int), .bool false, .int .i64 0, .bool false, .bool false, .bool false, .bool false, .int .i64 0, .slice av1 l1.length cv1, .slice none 0 0, .slice none 0 0, .slice none 0 0, .bool false, .int .u16 0, .bool false] 28)))
        clear b3 r3 hb2 hO1
        go_wp2_with fail
        refine (rfread_any b av cv _ (by exact SB.out.below B3.out (Nat.le_refl _)) hle NB.out h65 h12 Z2.out ZZ.out).mono ?_
        rintro e w3 ⟨⟨l2, v2, ho2, rfl, hO2⟩ | ⟨ho2, rfl⟩, hb3⟩
        rotate_left
        · rw [ho] at ho2; cases ho2
        obtain ⟨av2, cv2, rfl⟩ := hO2.form
        rw [ho] at ho2
        have hinj := Option.some.inj ho2
        simp only [Prod.mk.injEq] at hinj
        obtain ⟨hi, _, hmap⟩ := hinj
        have hl2 : l2.length = l1.length := by have h := congrArg List.length hmap; simpa using h.symm
        rw [← hi, hl2]
        rw [hl2] at hO2
        have s2 := hide ((slQ_len hl2 hO2).below ((Below.refl _ w3).alloc (Nat.le_refl _) (.cells #[.int .u16 (i : Int), .bool false, .int .i64 0, .bool false, .bool false, .bool false, .bool false, .int .i64 0, .slice av2 l1.length cv2, .slice none 0 0, .slice none 0 0, .slice none 0 0, .bool false, .int .u16 0, .bool false] 28)))
        have b4 := hb3.alloc hb3.size (.cells #[.int .u16 (i : Int), .bool false, .int .i64 0, .bool false, .bool false, .bool false, .bool false, .int .i64 0, .slice av2 l1.length cv2, .slice none 0 0, .slice none 0 0, .slice none 0 0, .bool false, .int .u16 0, .bool false] 28)
        have r4 := R3.out.below b4 R3.out.lt
        have y0 : (w3.alloc (.cells #[.int .u16 (i : Int), .bool false, .int .i64 0, .bool false, .bool false, .bool false, .bool false, .int .i64 0, .slice av2 l1.length cv2, .slice none 0 0, .slice none 0 0, .slice none 0 0, .bool false, .int .u16 0, .bool false] 28)).cell? ⟨w2.heap.size, 0, none⟩ = some (.int .u16 (i : Int)) := r4.cell 0
        have y1 : (w3.alloc (.cells #[.int .u16 (i : Int), .bool false, .int .i64 0, .bool false, .bool false, .bool false, .bool false, .int .i64 0, .slice av2 l1.length cv2, .slice none 0 0, .slice none 0 0, .slice none 0 0, .bool false, .int .u16 0, .bool false] 28)).cell? ⟨w2.heap.size, 1, none⟩ = some (.bool false) := r4.cell 1
        have y2 : (w3.alloc (.cells #[.int .u16 (i : Int), .bool false, .int .i64 0, .bool false, .bool false, .bool false, .bool false, .int .i64 0, .slice av2 l1.length cv2, .slice none 0 0, .slice none 0 0, .slice none 0 0, .bool false, .int .u16 0, .bool false] 28)).cell? ⟨w2.heap.size, 2, none⟩ = some (.int .i64 0) := r4.cell 2
        have y3 : (w3.alloc (.cells #[.int .u16 (i : Int), .bool false, .int .i64 0, .bool false, .bool false, .bool false, .bool false, .int .i64 0, .slice av2 l1.length cv2, .slice none 0 0, .slice none 0 0, .slice none 0 0, .bool false, .int .u16 0, .bool false] 28)).cell? ⟨w2.heap.size, 3, none⟩ = some (.bool false) := r4.cell 3
        have y4 : (w3.alloc (.cells #[.int .u16 (i : Int), .bool false, .int .i64 0, .bool false, .bool false, .bool false, .bool false, .int .i64 0, .slice av2 l1.length cv2, .slice none 0 0, .slice none 0 0, .slice none 0 0, .bool false, .int .u16 0, .bool false] 28)).cell? ⟨w2.heap.size, 4, none⟩ = some (.bool false) := r4.cell 4
        have y5 : (w3.alloc (.cells #[.int .u16 (i : Int), .bool false, .int .i64 0, .bool false, .bool false, .bool false, .bool false, .int .i64 0, .slice av2 l1.length cv2, .slice none 0 0, .slice none 0 0, .slice none 0 0, .bool false, .int .u16 0, .bool false] 28)).cell? ⟨w2.heap.size, 5, none⟩ = some (.bool false) := r4.cell 5
        have y6 : (w3.alloc (.cells #[.int .u16 (i : Int), .bool false, .int .i64 0, .bool false, .bool false, .bool false, .bool false, .int .i64 0, .slice av2 l1.length cv2, .slice none 0 0, .slice none 0 0, .slice none 0 0, .bool false, .int .u16 0, .bool false] 28)).cell? ⟨w2.heap.size, 6, none⟩ = some (.bool false) := r4.cell 6
        have y7 : (w3.alloc (.cells #[.int .u16 (i : Int), .bool false, .int .i64 0, .bool false, .bool false, .bool false, .bool false, .int .i64 0, .slice av2 l1.length cv2, .slice none 0 0, .slice none 0 0, .slice none 0 0, .bool false, .int .u16 0, .bool false] 28)).cell? ⟨w2.heap.size, 7, none⟩ = some (.int .i64 0) := r4.cell 7
        have y8 : (w3.alloc (.cells #[.int .u16 (i : Int), .bool false, .int .i64 0, .bool false, .bool false, .bool false, .bool false, .int .i64 0, .slice av2 l1.length cv2, .slice none 0 0, .slice none 0 0, .slice none 0 0, .bool false, .int .u16 0, .bool false] 28)).cell? ⟨w2.heap.size, 8, none⟩ = some (.slice av1 l1.length cv1) := r4.cell 8
        have y9 : (w3.alloc (.cells #[.int .u16 (i : Int), .bool false, .int .i64 0, .bool false, .bool false, .bool false, .bool false, .int .i64 0, .slice av2 l1.length cv2, .slice none 0 0, .slice none 0 0, .slice none 0 0, .bool false, .int .u16 0, .bool false] 28)).cell? ⟨w2.heap.size, 9, none⟩ = some (.slice none 0 0) := r4.cell 9
        have y10 : (w3.alloc (.cells #[.int .u16 (i : Int), .bool false, .int .i64 0, .bool false, .bool false, .bool false, .bool false, .int .i64 0, .slice av2 l1.length cv2, .slice none 0 0, .slice none 0 0, .slice none 0 0, .bool false, .int .u16 0, .bool false] 28)).cell? ⟨w2.heap.size, 10, none⟩ = some (.slice none 0 0) := r4.cell 10
        have y11 : (w3.alloc (.cells #[.int .u16 (i : Int), .bool false, .int .i64 0, .bool false, .bool false, .bool false, .bool false, .int .i64 0, .slice av2 l1.length cv2, .slice none 0 0, .slice none 0 0, .slice none 0 0, .bool false, .int .u16 0, .bool false] 28)).cell? ⟨w2.heap.size, 11, none⟩ = some (.slice none 0 0) := r4.cell 11
        have y12 : (w3.alloc (.cells #[.int .u16 (i : Int), .bool false, .int .i64 0, .bool false, .bool false, .bool false, .bool false, .int .i64 0, .slice av2 l1.length cv2, .slice none 0 0, .slice none 0 0, .slice none 0 0, .bool false, .int .u16 0, .bool false] 28)).cell? ⟨w2.heap.size, 12, none⟩ = some (.bool false) := r4.cell 12
        have y13 : (w3.alloc (.cells #[.int .u16 (i : Int), .bool false, .int .i64 0, .bool false, .bool false, .bool false, .bool false, .int .i64 0, .slice av2 l1.length cv2, .slice none 0 0, .slice none 0 0, .slice none 0 0, .bool false, .int .u16 0, .bool false] 28)).cell? ⟨w2.heap.size, 13, none⟩ = some (.int .u16 0) := r4.cell 13
        have y14 : (w3.alloc (.cells #[.int .u16 (i : Int), .bool false, .int .i64 0, .bool false, .bool false, .bool false, .bool false, .int .i64 0, .slice av2 l1.length cv2, .slice none 0 0, .slice none 0 0, .slice none 0 0, .bool false, .int .u16 0, .bool false] 28)).cell? ⟨w2.heap.size, 14, none⟩ = some (.bool false) := r4.cell 14
        have s1 := hide (q3.out.below b4)
        have B4 := hide (BB.out.trans ((B3.out.trans (b4.mono B3.out.size)).mono BB.out.size))
        clear r4 b4 hb3 R3 B3 q3 hO2 ho2 hi
        go_wp2_with fail
        refine (hMessage_same i false false false false false 0 0 l1 l2 av1 av2 cv1 cv2 _ (by exact s1.out) (by exact s2.out) hmap.symm (by omega) hnm).mono ?_
        rintro e w5 ⟨rfl, hb5⟩
        go_wp2
        go_ret
        exact ⟨rfl, B4.out.trans (hb5.mono B4.out.size)⟩
      · unfold zmsg
        have b3 : Below wr.heap.size wr (w2.alloc (.cells #[.int .u16 0, .bool false, .int .i64 0, .bool false, .bool false, .bool false, .bool false, .int .i64 0, .slice none 0 0, .slice none 0 0, .slice none 0 0, .slice none 0 0, .bool false, .int .u16 0, .bool false] 28)) := hb2.alloc hb2.size _
        have r3 := RowAt.new w2 28 #[.int .u16 0, .bool false, .int .i64 0, .bool false, .bool false, .bool false, .bool false, .int .i64 0, .slice none 0 0, .slice none 0 0, .slice none 0 0, .slice none 0 0, .bool false, .int .u16 0, .bool false]
        have B3 := hide b3
        have R3 := hide r3
        clear b3 r3 hb2
        go_wp2_with fail
        refine (rfread_any b av cv _ (by exact SB.out.below B3.out (Nat.le_refl _)) hle NB.out h65 h12 Z2.out ZZ.out).mono ?_
        rintro e w3 ⟨⟨l2, v2, ho2, rfl, hO2⟩ | ⟨ho2, rfl⟩, hb3⟩
        · rw [ho] at ho2; cases ho2
        unfold zmsg
        have b4 := hb3.alloc hb3.size (.cells #[.int .u16 0, .bool false, .int .i64 0, .bool false, .bool false, .bool false, .bool false, .int .i64 0, .slice none 0 0, .slice none 0 0, .slice none 0 0, .slice none 0 0, .bool false, .int .u16 0, .bool false] 28)
        have r4 := R3.out.below b4 R3.out.lt
        have y0 : (w3.alloc (.cells #[.int .u16 0, .bool false, .int .i64 0, .bool false, .bool false, .bool false, .bool false, .int .i64 0, .slice none 0 0, .slice none 0 0, .slice none 0 0, .slice none 0 0, .bool false, .int .u16 0, .bool false] 28)).cell? ⟨w2.heap.size, 0, none⟩ = some (.int .u16 0) := r4.cell 0
        have y1 : (w3.alloc (.cells #[.int .u16 0, .bool false, .int .i64 0, .bool false, .bool false, .bool false, .bool false, .int .i64 0, .slice none 0 0, .slice none 0 0, .slice none 0 0, .slice none 0 0, .bool false, .int .u16 0, .bool false] 28)).cell? ⟨w2.heap.size, 1, none⟩ = some (.bool false) := r4.cell 1
        have y2 : (w3.alloc (.cells #[.int .u16 0, .bool false, .int .i64 0, .bool false, .bool false, .bool false, .bool false, .int .i64 0, .slice none 0 0, .slice none 0 0, .slice none 0 0, .slice none 0 0, .bool false, .int .u16 0, .bool false] 28)).cell? ⟨w2.heap.size, 2, none⟩ = some (.int .i64 0) := r4.cell 2
        have y3 : (w3.alloc (.cells #[.int .u16 0, .bool false, .int .i64 0, .bool false, .bool false, .bool false, .bool false, .int .i64 0, .slice none 0 0, .slice none 0 0, .slice none 0 0, .slice none 0 0, .bool false, .int .u16 0, .bool false] 28)).cell? ⟨w2.heap.size, 3, none⟩ = some (.bool false) := r4.cell 3
        have y4 : (w3.alloc (.cells #[.int .u16 0, .bool false, .int .i64 0, .bool false, .bool false, .bool false, .bool false, .int .i64 0, .slice none 0 0, .slice none 0 0, .slice none 0 0, .slice none 0 0, .bool false, .int .u16 0, .bool false] 28)).cell? ⟨w2.heap.size, 4, none⟩ = some (.bool false) := r4.cell 4
        have y5 : (w3.alloc (.cells #[.int .u16 0, .bool false, .int .i64 0, .bool false, .bool false, .bool false, .bool false, .int .i64 0, .slice none 0 0, .slice none 0 0, .slice none 0 0, .slice none 0 0, .bool false, .int .u16 0, .bool false] 28)).cell? ⟨w2.heap.size, 5, none⟩ = some (.bool false) := r4.cell 5
        have y6 : (w3.alloc (.cells #[.int .u16 0, .bool false, .int .i64 0, .bool false, .bool false, .bool false, .bool false, .int .i64 0, .slice none 0 0, .slice none 0 0, .slice none 0 0, .slice none 0 0, .bool false, .int .u16 0, .bool false] 28)).cell? ⟨w2.heap.size, 6, none⟩ = some (.bool false) := r4.cell 6
        have y7 : (w3.alloc (.cells #[.int .u16 0, .bool false, .int .i64 0, .bool false, .bool false, .bool false, .bool false, .int .i64 0, .slice none 0 0, .slice none 0 0, .slice none 0 0, .slice none 0 0, .bool false, .int .u16 0, .bool false] 28)).cell? ⟨w2.heap.size, 7, none⟩ = some (.int .i64 0) := r4.cell 7
        have y8 : (w3.alloc (.cells #[.int .u16 0, .bool false, .int .i64 0, .bool false, .bool false, .bool false, .bool false, .int .i64 0, .slice none 0 0, .slice none 0 0, .slice none 0 0, .slice none 0 0, .bool false, .int .u16 0, .bool false] 28)).cell? ⟨w2.heap.size, 8, none⟩ = some (.slice none 0 0) := r4.cell 8
        have y9 : (w3.alloc (.cells #[.int .u16 0, .bool false, .int .i64 0, .bool false, .bool false, .bool false, .bool false, .int .i64 0, .slice none 0 0, .slice none 0 0, .slice none 0 0, .slice none 0 0, .bool false, .int .u16 0, .bool false] 28)).cell? ⟨w2.heap.size, 9, none⟩ = some (.slice none 0 0) := r4.cell 9
        have y10 : (w3.alloc (.cells #[.int .u16 0, .bool false, .int .i64 0, .bool false, .bool false, .bool false, .bool false, .int .i64 0, .slice none 0 0, .slice none 0 0, .slice none 0 0, .slice none 0 0, .bool false, .int .u16 0, .bool false] 28)).cell? ⟨w2.heap.size, 10, none⟩ = some (.slice none 0 0) := r4.cell 10
        have y11 : (w3.alloc (.cells #[.int .u16 0, .bool false, .int .i64 0, .bool false, .bool false, .bool false, .bool false, .int .i64 0, .slice none 0 0, .slice none 0 0, .slice none 0 0, .slice none 0 0, .bool false, .int .u16 0, .bool false] 28)).cell? ⟨w2.heap.size, 11, none⟩ = some (.slice none 0 0) := r4.cell 11
        have y12 : (w3.alloc (.cells #[.int .u16 0, .bool false, .int .i64 0, .bool false, .bool false, .bool false, .bool false, .int .i64 0, .slice none 0 0, .slice none 0 0, .slice none 0 0, .slice none 0 0, .bool false, .int .u16 0, .bool false] 28)).cell? ⟨w2.heap.size, 12, none⟩ = some (.bool false) := r4.cell 12
        have y13 : (w3.alloc (.cells #[.int .u16 0, .bool false, .int .i64 0, .bool false, .bool false, .bool false, .bool false, .int .i64 0, .slice none 0 0, .slice none 0 0, .slice none 0 0, .slice none 0 0, .bool false, .int .u16 0, .bool false] 28)).cell? ⟨w2.heap.size, 13, none⟩ = some (.int .u16 0) := r4.cell 13
        have y14 : (w3.alloc (.cells #[.int .u16 0, .bool false, .int .i64 0, .bool false, .bool false, .bool false, .bool false, .int .i64 0, .slice none 0 0, .slice none 0 0, .slice none 0 0, .slice none 0 0, .bool false, .int .u16 0, .bool false] 28)).cell? ⟨w2.heap.size, 14, none⟩ = some (.bool false) := r4.cell 14
        have B4 := hide (BB.out.trans ((B3.out.trans (b4.mono B3.out.size)).mono BB.out.size))
        clear r4 b4 hb3 R3 B3 ho2
        go_wp2_with fail
        refine (hMessage_same 0 false false false false false 0 0 [] [] none none 0 0 _ (fun h => by simp at h) (fun h => by simp at h) rfl (by simp) (fun x hx => by cases hx)).mono ?_
        rintro e w5 ⟨rfl, hb5⟩
        go_wp2
        go_ret
        exact ⟨rfl, B4.out.trans (hb5.mono B4.out.size)⟩
end Go.Proofs.YtpgebiopckmgbaaGreat
