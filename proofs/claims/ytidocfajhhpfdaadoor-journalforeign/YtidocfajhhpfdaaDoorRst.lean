/- The law JournalResets. -/
import Derived.Test.YtidocfajhhpfdaaDoorJbt
namespace Go.Proofs.YtidocfajhhpfdaaDoor
open Go.RowKit
set_option maxRecDepth 5000 in
theorem J.fsz_bound (m : Nat) : ∀ R : List (List UInt8), (∀ k, k < R.length → (R.getD k []).length ≤ m) → J.fsz R ≤ R.length * (m + 12)
  | [], _ => by simp [J.fsz]
  | r :: R, h => by
    have h0 := h 0 (by simp)
    have ih := J.fsz_bound m R (fun k hk => by have := h (k + 1) (by simp; omega); simpa using this)
    have e : J.fsz (r :: R) = (if r = [] then 0 else r.length + 12) + J.fsz R := by simp [J.fsz]
    rw [e, List.length_cons, Nat.succ_mul]
    have h1 : r.length ≤ m := by simpa using h0
    split <;> omega
set_option maxRecDepth 5000 in
theorem lit_u8 (w : World) (x y : UInt8) : SlL (w.alloc (.cells #[.int .u8 (x.toNat : Int), .int .u8 (y.toNat : Int)] 5)) (some ⟨w.heap.size, 0, none⟩) [x, y] := fun _ => by
  have h := RowAt.new w 5 #[.int .u8 (x.toNat : Int), .int .u8 (y.toNat : Int)]
  refine ⟨_, 0, rfl, h.lt, fun j hj => ?_⟩
  have : j = 0 ∨ j = 1 := by have : j < 2 := hj; omega
  rcases this with rfl | rfl
  · exact h.cell 0
  · exact h.cell 1
set_option maxHeartbeats 2000000 in
set_option maxRecDepth 5000 in
theorem resets_walk (w : World) (ht : Tab w) (x y z : UInt8) :
    Calls Tryd.prog 7 #[.int .u8 (x.toNat : Int), .int .u8 (y.toNat : Int), .int .u8 (z.toNat : Int)] w fun e w' => e = .returned (.bool true) ∧ Below w.heap.size w w' := by
  have hk := known_any w ht
  have HT := hide ht
  have hpos := ht.1
  clear ht
  have hx256 := x.toNat_lt
  have hz256 := z.toNat_lt
  go_enter Tryd.func7, Tryd.ntmps7
  go_wp2_with (first | (go_at_call 9; refine hk.mono ?_; rintro e w1 ⟨rfl, hB⟩; have B1 := hide hB; clear hB) | fail)
  refine (new_at FF w1 (fun _ h => h.elim) 60 512 60 512 (by omega) (by omega) (by omega) (by omega) (by decide) (by decide)).mono ?_
  rintro e w2 ⟨rfl, hD, hB2, hs2⟩
  have D2 : Hid (DiskAt FF w2 (w1.heap.size + 2) w1.heap.size (w1.heap.size + 1) (K.St.new 60 512)) := hD
  have B2 := hide (B1.out.trans (hB2.mono B1.out.size))
  have z1 := B1.out.size
  have HS2 := hide hs2
  clear hD hB2 hk hs2
  go_wp2_with fail
  refine (open_new w2 (HT.out.below B2.out hpos) _ _ _ 60 512 (by omega) D2.out (by have := HS2.out; omega)).mono ?_
  rintro e w3 ⟨v3, M3, rfl, J3, D3, V3, z3, O3⟩
  obtain ⟨a3, c3, hv3⟩ := O3.slice
  rw [hv3]
  have W3 : Hid (JW w (w1.heap.size + 2) w1.heap.size w2.heap.size M3 (newS 60 512) h0 [] w3) := ⟨V3.below B2.out B2.out.size (by omega) (by omega) (by omega), by omega, by omega, by have := HS2.out; omega, by have := HS2.out; omega, D3, newS_is 60 512 (by omega), J3⟩
  have zz3 : w2.heap.size ≤ w3.heap.size := V3.size
  clear J3 D3 V3 z3 O3 hv3 D2
  have he1 : ∀ (g : Nat) (W : World), (binOp .eql 31 (.pointer (some ⟨g, 0, none⟩)) (.pointer none)).run Tryd.prog W = .ok (.bool false) W := fun _ _ => rfl
  go_wp2_with fail
  have b4 : Below w3.heap.size w3 (w3.alloc (.cells #[.int .u8 (y.toNat : Int), .int .u8 (x.toNat : Int)] 5)) := (Below.refl _ w3).alloc (Nat.le_refl _) _
  have W4 := hide (W3.out.below b4)
  have z4 := b4.size
  have S4 := hide (lit_u8 w3 y x)
  generalize (w3.alloc (.cells #[.int .u8 (y.toNat : Int), .int .u8 (x.toNat : Int)] 5)) = w4 at W4 S4 z4 ⊢
  refine (batch_any w4 (x.toNat : Int) (by omega) (by omega) (some ⟨w3.heap.size, 0, none⟩) 2 [y, x] (by simp) S4.out).mono ?_
  rintro e w5 ⟨v5, rfl, R, O5, hRl, hRk, b5⟩
  have HRl : Hid (R.length = 2) := hRl
  have hfz : J.fsz R ≤ 534 := by
    have := J.fsz_bound 255 R (fun k hk => by rw [hRk k (by rw [← hRl]; exact hk)]; have := ([y, x].getD k 0).toNat_lt; omega)
    rw [HRl.out] at this; omega
  obtain ⟨a5, c5, hv5⟩ := O5.slice
  rw [hv5] at O5 ⊢
  have W5 := hide (W4.out.below b5)
  have O5H := hide O5
  clear O5 hv5 b5 b4 hRk W3 W4 S4
  obtain ⟨T, hT⟩ : ∃ T, T = z.toNat % 6 + 1 := ⟨_, rfl⟩
  have hT1 : (z.toNat : Int) % 6 + 1 = (T : Int) := by omega
  have hT6 : T ≤ 6 ∧ 1 ≤ T := by omega
  obtain ⟨D, hDe⟩ : ∃ D, D = w1.heap.size + 2 := ⟨_, rfl⟩
  rw [← hDe] at W5 ⊢
  obtain ⟨SS, hSe⟩ : ∃ SS, SS = w1.heap.size := ⟨_, rfl⟩
  rw [← hSe] at W5
  have hSlt : SS < w4.heap.size := by have := HS2.out; omega
  generalize w2.heap.size = bJ at W5 ⊢
  generalize w4.heap.size = B4 at O5H hSlt
  have hars : ∀ s : K.St, s.n = 60 → s.sz = 512 → J.arb s = 14848 := fun s h1 h2 => by unfold J.arb J.ars; rw [h1, h2]
  clear hDe hSe zz3 z4 hRl hT
  go_wp2
  go_loopw [12] (fun q wr => ∃ i : Nat, i ≤ T ∧ q = .int .i64 (i : Int) ∧ ∃ M s h L, JW w D SS bJ M s h L wr ∧ s.n = 60 ∧ s.sz = 512 ∧ h.c ≤ i * 801 ∧ h.b ≤ 2 ∧ (0 < i → L = R) ∧ OwnBs wr B4 (.slice a5 R.length c5) R) (fun q wr => T - (intOf q).toNat)
  case atStart => exact ⟨0, by omega, rfl, _, _, _, _, W5.out, newS_n 60 512, newS_sz 60 512, Nat.le_refl _, Nat.zero_le _, fun h => absurd h (by omega), O5H.out⟩
  case round =>
    obtain ⟨wA, rfl⟩ : ∃ wA, wA = wr := ⟨wr, rfl⟩
    obtain ⟨i, hi, rfl, MA, sA, hA, LA, WA, nA, zA, cA, bA, rA, OA⟩ := hrel
    by_cases hiT : i < T
    · have hiT' : (i : Int) < (T : Int) := by omega
      have WAH := hide WA
      have OAH := hide OA
      clear WA OA W5 O5H
      go_wp2
      go_loopw [13, 14] (fun f q wr => ∃ (k : Nat) (fb : Bool), k ≤ 800 ∧ q = .int .i64 (k : Int) ∧ f = .bool fb ∧ ∃ M s h L, JW w D SS bJ M s h L wr ∧ s.n = 60 ∧ s.sz = 512 ∧ h.c ≤ i * 801 + k ∧ h.b ≤ 2 + 2 * k ∧ OwnBs wr B4 (.slice a5 R.length c5) R) (fun f q wr => 800 - (intOf q).toNat)
      case atStart => exact ⟨0, false, by omega, rfl, rfl, MA, sA, hA, LA, WAH.out, nA, zA, cA, bA, OAH.out⟩
      case round =>
        obtain ⟨k, fb, hk8, rfl, rfl, M, s, h, L, WB, nB, zB, cB, bB, OB⟩ := hrel
        have hab := hars s nB zB
        by_cases hgo : k < 800 ∧ fb = false
        · obtain ⟨hk, rfl⟩ := hgo
          have hk' : (k : Int) < 800 := by omega
          have WBH := hide WB
          have OBH := hide OB
          clear WB OB WAH OAH
          go_wp2_with fail
          refine (commit_is wr (WBH.out.tab HT.out) D SS M bJ s h L WBH.out.is WBH.out.dk WBH.out.jr (WBH.out.pos HT.out) a5 c5 R OBH.out.sl (by omega) (by have := HRl.out; omega) (by omega)).mono ?_
          rintro e w' (⟨_, rfl, M', s', hl⟩ | ⟨_, rfl, hb⟩)
          · have W' := hide (WBH.out.laid hl)
            have O' := hide (hl.keepBs WBH.out.dk WBH.out.jr OBH.out hSlt)
            have n' := hl.n.trans nB
            have z' := hl.sz.trans zB
            clear hl WBH OBH
            go_wp2
            go_roundw
            case rel => exact ⟨k + 1, false, by omega, by go_num, rfl, M', s', _, _, W'.out, n', z', by show h.c + 1 ≤ _; omega, by show h.b + R.length ≤ _; have := HRl.out; omega, O'.out⟩
            case measure => simp [intOf]; omega
          · have W' := hide (WBH.out.below hb)
            have O' := hide (OBH.out.bel hb)
            clear hb WBH OBH
            go_wp2
            go_roundw
            case rel => exact ⟨k + 1, true, by omega, by go_num, rfl, M, s, h, L, W'.out, nB, zB, by omega, by omega, O'.out⟩
            case measure => simp [intOf]; omega
        · have WBH := hide WB
          have OBH := hide OB
          have hstop : (decide ((k : Int) < 800) && !fb) = false := by
            by_cases h1 : k < 800
            · cases fb
              · exact absurd ⟨h1, rfl⟩ hgo
              · simp
            · simp; omega
          have hrs := reset_is wr (WB.tab HT.out) D SS M bJ s h L WB.is WB.dk WB.jr (WB.pos HT.out) a5 c5 R OB.sl (by omega) (by have := HRl.out; omega) (by omega)
          clear WB OB WAH OAH
          have hcases : (k < 800 ∧ fb = true) ∨ k = 800 := by
            by_cases h1 : k < 800
            · cases fb
              · exact absurd ⟨h1, rfl⟩ hgo
              · exact Or.inl ⟨h1, rfl⟩
            · exact Or.inr (by omega)
          rcases hcases with ⟨h1, rfl⟩ | rfl
          · have h1' : (k : Int) < 800 := by omega
            go_wp2_with fail
            refine hrs.mono ?_
            rintro e w' ⟨xx, rfl, hx⟩
            obtain ⟨_, rfl, M', s', hl⟩ := hx.resolve_right (fun h => absurd h.1 (by omega))
            have W' := hide (WBH.out.laid hl)
            have O' := hide (hl.keepBs WBH.out.dk WBH.out.jr OBH.out hSlt)
            have n' := hl.n.trans nB
            have z' := hl.sz.trans zB
            clear hl WBH OBH hrs hx
            go_wp2
            go_roundw
            case rel => exact ⟨i + 1, by omega, by go_num, M', s', _, _, W'.out, n', z', by show h.c + 1 ≤ _; omega, by show 0 + R.length ≤ _; have := HRl.out; omega, fun _ => rfl, O'.out⟩
            case measure => simp [intOf]; omega
          · go_wp2_with fail
            refine hrs.mono ?_
            rintro e w' ⟨xx, rfl, hx⟩
            obtain ⟨_, rfl, M', s', hl⟩ := hx.resolve_right (fun h => absurd h.1 (by omega))
            have W' := hide (WBH.out.laid hl)
            have O' := hide (hl.keepBs WBH.out.dk WBH.out.jr OBH.out hSlt)
            have n' := hl.n.trans nB
            have z' := hl.sz.trans zB
            clear hl WBH OBH hrs hx
            go_wp2
            go_roundw
            case rel => exact ⟨i + 1, by omega, by go_num, M', s', _, _, W'.out, n', z', by show h.c + 1 ≤ _; omega, by show 0 + R.length ≤ _; have := HRl.out; omega, fun _ => rfl, O'.out⟩
            case measure => simp [intOf]; omega
    · have hiT' : ¬ (i : Int) < (T : Int) := by omega
      have eL := rA (by omega)
      subst eL
      have WAH := hide WA
      have OAH := hide OA
      clear WA OA W5 O5H rA
      go_wp2_with fail
      refine (open_is wA (WAH.out.tab HT.out) D SS MA sA WAH.out.dk hA LA WAH.out.is (WAH.out.pos HT.out)).mono ?_
      rintro e w6 ⟨v6, M6, rfl, J6, D6, V6, z6, O6⟩
      obtain ⟨a6, c6, hv6⟩ := O6.slice
      rw [hv6] at O6 ⊢
      have W6 := hide (WAH.out.opened V6 z6 D6 J6)
      have S6 := hide O6.sl
      have O6b : Hid (SlBs w6 a5 LA) := by
        obtain ⟨sv, uv, hdk⟩ := WAH.out.dk
        refine OwnBs.sl (base := B4) (n := LA.length) (c := c5) (OAH.out.kept V6.size (fun g o ho hb => ?_))
        have hlt : g < wA.heap.size := (Array.getElem?_eq_some_iff.1 ho).1
        have hrow := hdk.row
        have hsur := hdk.sure
        unfold RowAt at hrow hsur
        refine V6.block g hlt (fun e => ?_) (fun e => ?_) ?_
        · rw [e, hrow] at ho; injection ho with ho
          rcases hb with ⟨c, fr, hb⟩ | ⟨_, c, fr, hb⟩ <;> (rw [hb] at ho; injection ho with _ ho _; exact absurd ho (by decide))
        · rcases hb with ⟨c, fr, hb⟩ | ⟨hg, _⟩
          · rw [e, hsur] at ho; injection ho with ho; rw [hb] at ho; injection ho with _ ho _; exact absurd ho (by decide)
          · omega
        · rcases hb with ⟨c, fr, rfl⟩ | ⟨_, c, fr, rfl⟩
          · exact hdk.un.row_ne ho
          · exact hdk.un.row_ne ho
      clear J6 D6 V6 z6 O6 hv6 WAH OAH
      have hne1 : ∀ (g : Nat) (W : World), (binOp .neq 31 (.pointer (some ⟨g, 0, none⟩)) (.pointer none)).run Tryd.prog W = .ok (.bool true) W := fun _ _ => rfl
      have hbl := blobs_same w6 a6 a5 c6 c5 LA.length LA.length LA rfl rfl (by have := HRl.out; omega) S6.out O6b.out
      go_wp2_with (go_at_call 17; refine hbl.mono ?_; rintro e w7 ⟨rfl, m, hw7⟩; have BW7 : Hid (Below w.heap.size w w7) := (by rw [hw7]; exact below_drewN W6.out.bl m); clear hw7)
      go_ret
      exact ⟨rfl, BW7.out⟩
end Go.Proofs.YtidocfajhhpfdaaDoor
