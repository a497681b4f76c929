/- The law JournalKeeps. -/
import Derived.Test.YtidocfajhhpfdaaDoorJkk
namespace Go.Proofs.YtidocfajhhpfdaaDoor
open Go.RowKit
/- lists that were made behind the disk are kept where the disk alone moves -/
set_option maxRecDepth 5000 in
theorem Mv.keepBs {W W' : World} {D S M B : Nat} {s : K.St} (hm : Mv D S M W W') (hd : DiskAt FF W D S M s) {v : Value} {R : List (List UInt8)} (hv : OwnBs W B v R) (hS : S < B) : OwnBs W' B v R := by
  obtain ⟨sv, uv, hk⟩ := hd
  refine hv.kept hm.size (fun g o ho hb => ?_)
  have hlt : g < W.heap.size := (Array.getElem?_eq_some_iff.1 ho).1
  have hrow := hk.row
  have hsur := hk.sure
  unfold RowAt at hrow hsur
  refine hm.block g hlt (fun e => ?_) (fun e => ?_) ?_
  · rw [e, hrow] at ho; injection ho with ho
    rcases hb with ⟨c, fr, hb⟩ | ⟨_, c, fr, hb⟩ <;> (rw [hb] at ho; injection ho with _ ho _; exact absurd ho (by decide))
  · rcases hb with ⟨c, fr, hb⟩ | ⟨hg, _⟩
    · rw [e, hsur] at ho; injection ho with ho; rw [hb] at ho; injection ho with _ ho _; exact absurd ho (by decide)
    · omega
  · rcases hb with ⟨c, fr, rfl⟩ | ⟨_, c, fr, rfl⟩
    · exact hk.un.row_ne ho
    · exact hk.un.row_ne ho
set_option maxRecDepth 5000 in
theorem OwnBs.drewN {w : World} {B : Nat} {v : Value} {L : List (List UInt8)} (h : OwnBs w B v L) (m : Nat) : OwnBs (w.drewN m) B v L := h.bel (below_drewN (Below.refl _ _) m)
set_option maxRecDepth 5000 in
theorem room_new (N : Nat) : J.room (newS N 512) h0 = min ((N - 2) / 2 * 512 - 12) 16777216 := by
  unfold J.room J.arb J.ars
  rw [newS_n, newS_sz]; rfl
set_option maxHeartbeats 4000000 in
set_option maxRecDepth 5000 in
theorem keeps_walk (w : World) (ht : Tab w) (x : UInt8) (ao : Option Addr) (c : Nat) (A : List (Int × List UInt8)) (hm : A.length ≤ 9223372036854775807) (hA : AcL w ao A) :
    Calls Tryd.prog 4 #[.int .u8 (x.toNat : Int), .slice ao A.length c] w fun e w' => e = .returned (.bool true) ∧ Below w.heap.size w w' := by
  have hk := known_any w ht
  have HT := hide ht
  have hpos := ht.1
  have HA := hide hA
  have hli : ∀ W, Below w.heap.size w W → Calls Tryd.prog 12 #[.slice ao A.length c] W fun e w' => e = .returned (.bool (lightB A)) ∧ w' = W := fun W hW => light_any W ao c A hm (HA.out.below hW (Nat.le_refl _))
  clear ht hA
  have hx256 := x.toNat_lt
  cases hl : lightB A
  · rw [hl] at hli
    clear hl
    go_enter Tryd.func4, Tryd.ntmps4
    go_wp2_with (first
      | (go_at_call 9; refine hk.mono ?_; rintro e w1 ⟨rfl, hB⟩; have B1 := hide hB; clear hB)
      | (go_at_call 12; refine (hli _ B1.out).mono ?_; rintro e w' ⟨rfl, hw⟩; rw [hw]; clear hw w')
      | fail)
    go_ret
    exact ⟨rfl, B1.out⟩
  rw [hl] at hli
  obtain ⟨h30, h6⟩ := lightB_get hl
  have H6 := hide h6
  clear hl h6
  obtain ⟨N, hN⟩ : ∃ N : Nat, N = 60 + x.toNat := ⟨_, rfl⟩
  have hNi : (60 : Int) + (x.toNat : Int) = (N : Int) := by omega
  have hN1 : 60 ≤ N ∧ N ≤ 315 := by omega
  clear hN
  go_enter Tryd.func4, Tryd.ntmps4
  go_wp2_with (first
    | (go_at_call 9; refine hk.mono ?_; rintro e w1 ⟨rfl, hB⟩; have B1 := hide hB; clear hB)
    | (go_at_call 12; refine (hli _ B1.out).mono ?_; rintro e w' ⟨rfl, hw⟩; rw [hw]; clear hw w')
    | fail)
  refine (new_at FF w1 (fun _ h => h.elim) (N : Int) 512 N 512 (by omega) (by omega) (by omega) (by omega) (by omega) (by decide)).mono ?_
  rintro e w2 ⟨rfl, hD, hB2, hs2⟩
  have D2 : Hid (DiskAt FF w2 (w1.heap.size + 2) w1.heap.size (w1.heap.size + 1) (K.St.new N 512)) := hD
  have B2 := hide (B1.out.trans (hB2.mono B1.out.size))
  have z1 := B1.out.size
  have HS2 := hide hs2
  clear hD hB2 hk hs2 hli
  go_wp2_with fail
  refine (open_new w2 (HT.out.below B2.out hpos) _ _ _ N 512 (by omega) D2.out (by have := HS2.out; omega)).mono ?_
  rintro e w3 ⟨v3, M3, rfl, J3, D3, V3, z3, O3⟩
  obtain ⟨a3, c3, hv3⟩ := O3.slice
  rw [hv3]
  have W3 : Hid (JW w (w1.heap.size + 2) w1.heap.size w2.heap.size M3 (newS N 512) h0 [] w3) := ⟨V3.below B2.out B2.out.size (by omega) (by omega) (by omega), by omega, by omega, by have := HS2.out; omega, by have := HS2.out; omega, D3, newS_is N 512 (by omega), J3⟩
  have zz3 : w2.heap.size ≤ w3.heap.size := V3.size
  clear J3 D3 V3 z3 O3 hv3 D2
  obtain ⟨D, hDe⟩ : ∃ D, D = w1.heap.size + 2 := ⟨_, rfl⟩
  rw [← hDe] at W3 ⊢
  obtain ⟨SS, hSe⟩ : ∃ SS, SS = w1.heap.size := ⟨_, rfl⟩
  rw [← hSe] at W3
  have hSlt : SS < w3.heap.size := by have := HS2.out; omega
  obtain ⟨B4, hB4⟩ : ∃ B4, B4 = w3.heap.size := ⟨_, rfl⟩
  rw [← hB4] at hSlt
  have HB4 : Hid (B4 ≤ w3.heap.size) := by show _ ≤ _; omega
  generalize w2.heap.size = bJ at W3 ⊢
  clear hDe hSe zz3 HS2 hB4 z1
  have he1 : ∀ (g : Nat) (W : World), (binOp .eql 31 (.pointer (some ⟨g, 0, none⟩)) (.pointer none)).run Tryd.prog W = .ok (.bool false) W := fun _ _ => rfl
  have hrm := room_any w3 D SS M3 bJ (newS N 512) h0 false W3.out.dk W3.out.is.n8 W3.out.is.u W3.out.is.ok.b W3.out.jr
  rw [room_new] at hrm
  obtain ⟨R0, hR0⟩ : ∃ R0, R0 = min ((N - 2) / 2 * 512 - 12) 16777216 := ⟨_, rfl⟩
  rw [← hR0] at hrm
  have hR1 : N * 128 ≤ R0 + 1024 := by omega
  have hR2 : R0 ≤ 16777216 := by omega
  have hR3 : ¬ (R0 : Int) < (N : Int) * 512 / 4 - 1024 := by omega
  clear hR0
  go_wp2_with (first
    | (go_at_call 15; refine hrm.mono ?_; rintro e w4 ⟨rfl, hb4⟩; have W4 := hide (W3.out.below hb4); have z4 : Hid (B4 ≤ w4.heap.size) := Nat.le_trans HB4.out hb4.size; clear hb4)
    | fail)
  clear hrm hR1 hR2 hR3 W3 HB4 hNi
  have harb : ∀ s : K.St, s.n = N → s.sz = 512 → J.arb s = (N - 2) / 2 * 512 := fun s h1 h2 => by unfold J.arb J.ars; rw [h1, h2]
  have hne1 : ∀ (g : Nat) (W : World), (binOp .neq 31 (.pointer (some ⟨g, 0, none⟩)) (.pointer none)).run Tryd.prog W = .ok (.bool true) W := fun _ _ => rfl
  go_loopw [6, 9, 10, 11] (fun jv al cm q wr => ∃ (i bJ M : Nat) (s : K.St) (h : J.H) (L : List (List UInt8)), i ≤ A.length ∧ q = .int .i64 (i : Int) ∧ jv = .pointer (some ⟨bJ, 0, none⟩) ∧ cm = .int .u64 (h.c : Int) ∧ JW w D SS bJ M s h L wr ∧ s.n = N ∧ s.sz = 512 ∧ h.c ≤ i ∧ h.b ≤ 6 * i ∧ OwnBs wr B4 al L ∧ B4 ≤ wr.heap.size) (fun jv al cm q wr => A.length - (intOf q).toNat)
  case atStart => exact ⟨0, bJ, M3, newS N 512, h0, [], by omega, rfl, rfl, rfl, W4.out, newS_n N 512, newS_sz N 512, Nat.le_refl _, Nat.le_refl _, OwnBs.nil _ _, z4.out⟩
  case round =>
    obtain ⟨i, bJ', M, s, h, L, hi, rfl, rfl, rfl, hW, hsn, hsz, hci, hbi, hO, hB4⟩ := hrel
    obtain ⟨wA, rfl⟩ : ∃ wA, wA = wr := ⟨wr, rfl⟩
    have WA := hide hW
    have OA := hide hO
    have hab := harb s hsn hsz
    obtain ⟨aL, cL, hvL⟩ := hO.slice
    rw [hvL] at OA ⊢
    have hu := hW.is.u
    have hLl := hide hW.is.len
    have HSN := hide (And.intro hsn hsz)
    have HPW := hide hW.is.pw
    clear hW hO hvL W4 hsn hsz
    by_cases hlt : i < A.length
    · have hlt' : (i : Int) < (A.length : Int) := by omega
      obtain ⟨b, o, rfl, hb, hc⟩ := (HA.out.below WA.out.bl (Nat.le_refl _)) (by omega)
      obtain ⟨c1, a2, cc2, c2, hls, _⟩ := hc i hlt
      have hl6 := H6.out i hlt
      generalize (A.getD i (0, [])).1 = X at c1
      generalize (A.getD i (0, [])).2 = ls at c2 hls hl6
      have HLS := hide hls
      clear hc hls
      go_wp2_with fail
      refine (batch_any wA (i : Int) (by omega) (by omega) a2 cc2 ls (by omega) HLS.out).mono ?_
      rintro e w5 ⟨v5, rfl, R, O5, hRl, hRk, b5⟩
      have hR255 : ∀ k, k < R.length → (R.getD k []).length ≤ 255 := fun k hk => by rw [hRk k (by omega)]; have := (ls.getD k 0).toNat_lt; omega
      have hsz2 := J.sz2_bound 255 R hR255
      have hfz2 := J.fsz_sz2 R
      have hln2 := J.sz2_len R
      have hRl6 : R.length ≤ 6 := by omega
      have hX6 : J.sz2 R ≤ 1626 := by
        have : R.length * (255 + 16) ≤ 6 * (255 + 16) := Nat.mul_le_mul_right _ hRl6
        omega
      obtain ⟨a5, c5, hv5⟩ := O5.slice
      rw [hv5] at O5 ⊢
      have W5 := hide (WA.out.below b5)
      have OB5 := hide (OA.out.bel b5)
      have O5H := hide (O5.low hB4)
      have z5 : Hid (B4 ≤ w5.heap.size) := Nat.le_trans hB4 b5.size
      have k1 : w5.cell? ⟨b, o + i * 2, none⟩ = some (.int .i64 X) := (b5.cell (p := ⟨b, o + i * 2, none⟩) (Nat.lt_of_lt_of_le hb (Nat.le_refl _))).trans c1
      clear O5 hv5 b5 hRk hR255 hsz2 WA OA c1 c2 HLS hB4 hl6 hRl
      have hrm := room_any w5 D SS M bJ' s h false W5.out.dk W5.out.is.n8 W5.out.is.u W5.out.is.ok.b W5.out.jr
      obtain ⟨Rm, hRm⟩ : ∃ Rm, Rm = J.room s h := ⟨_, rfl⟩
      rw [← hRm] at hrm
      have hRmE : Rm = min ((N - 2) / 2 * 512 - h.u - 12) ((1048576 - h.b) * 16) := by rw [hRm, J.room, hab]
      rw [hab] at hu
      clear hRm
      have hblt : b < w5.heap.size := block_lt_of_cell k1
      go_wp2_with fail
      refine hrm.mono ?_
      rintro e w6 ⟨rfl, b6⟩
      have W6 := hide (W5.out.below b6)
      have OB6 := hide (OB5.out.bel b6)
      have O6H := hide (O5H.out.bel b6)
      have z6 : Hid (B4 ≤ w6.heap.size) := Nat.le_trans z5.out b6.size
      have k2 : w6.cell? ⟨b, o + i * 2, none⟩ = some (.int .i64 X) := (b6.cell (p := ⟨b, o + i * 2, none⟩) hblt).trans k1
      clear b6 hrm W5 OB5 O5H z5 k1 hblt
      by_cases h5 : X = 5
      · subst h5
        have hop := open_is w6 (W6.out.tab HT.out) D SS M s W6.out.dk h L W6.out.is (W6.out.pos HT.out)
        go_wp2_with fail
        refine hop.mono ?_
        rintro e w7 ⟨v7, M7, rfl, J7, D7, V7, z7, O7⟩
        obtain ⟨a7, c7, hv7⟩ := O7.slice
        rw [hv7] at O7 ⊢
        have W7 := hide (W6.out.opened V7 z7 D7 J7)
        have OB7 := hide (V7.keepBs W6.out.dk OB6.out hSlt)
        have zz7 : Hid (B4 ≤ w7.heap.size) := Nat.le_trans z6.out V7.size
        have hbl := blobs_same w7 a7 aL c7 cL L.length L.length L rfl rfl (by have := hLl.out; omega) O7.sl OB7.out.sl
        generalize w6.heap.size = bJ7 at W7 ⊢
        clear J7 D7 V7 z7 O7 hv7 hop W6 OB6 O6H z6 k2
        go_wp2_with (first
          | (go_at_call 17; refine hbl.mono ?_; rintro e w8 ⟨rfl, m, hw8⟩; have W8 : Hid (JW w D SS bJ7 M7 s.synced h L w8) := (by rw [hw8]; exact W7.out.below (below_drewN (Below.refl _ _) m)); have OB8 : Hid (OwnBs w8 B4 (.slice aL L.length cL) L) := (by rw [hw8]; exact OB7.out.drewN m); have zz8 : Hid (B4 ≤ w8.heap.size) := (by rw [hw8]; exact zz7.out); have hcm := commits_any w8 D bJ7 h false W8.out.jr; clear hw8)
          | (go_at_call 18; refine hcm.mono ?_; rintro e w' ⟨rfl, hw⟩; rw [hw]; clear hw w')
          | fail)
        go_roundw
        case rel => exact ⟨i + 1, bJ7, M7, s.synced, h, L, by omega, by go_num, rfl, rfl, W8.out, by rw [synced_n HPW.out]; exact HSN.out.1, by rw [synced_sz HPW.out]; exact HSN.out.2, by omega, by omega, OB8.out, zz8.out⟩
        case measure => simp [intOf]; omega
      have e5 : (X == 5) = false := by simp [h5]
      obtain ⟨C1, hC1⟩ : ∃ C1 : Nat, (h.c : Int) + 1 = (C1 : Int) := ⟨h.c + 1, by omega⟩
      have HC1 : Hid (C1 = h.c + 1) := by show _ = _; omega
      by_cases h4 : X = 4
      · subst h4
        have hrs := reset_is w6 (W6.out.tab HT.out) D SS M bJ' s h L W6.out.is W6.out.dk W6.out.jr (W6.out.pos HT.out) a5 c5 R O6H.out.sl (by omega) (by omega) (by omega)
        go_wp2_with fail
        refine hrs.mono ?_
        rintro e w7 ⟨xx, rfl, hx⟩
        obtain ⟨_, rfl, M', s', hl⟩ := hx.resolve_right (fun h => absurd h.1 (by omega))
        have W7 := hide (W6.out.laid hl)
        have O7 := hide (hl.keepBs W6.out.dk W6.out.jr O6H.out hSlt)
        have n' := hide (hl.n.trans HSN.out.1)
        have z' := hide (hl.sz.trans HSN.out.2)
        have zz7 : Hid (B4 ≤ w7.heap.size) := Nat.le_trans z6.out hl.mv.size
        have hcm : Calls Tryd.prog 18 #[.pointer (some ⟨bJ', 0, none⟩)] w7 fun e w' => e = .returned (.int .u64 (C1 : Int)) ∧ w' = w7 := by rw [HC1.out]; exact commits_any w7 D bJ' _ false W7.out.jr
        clear hl hx hrs W6 O6H OB6 z6 k2
        go_wp2_with (first
          | (go_at_call 18; refine hcm.mono ?_; rintro e w' ⟨rfl, hw⟩; rw [hw]; clear hw w')
          | fail)
        go_roundw
        case rel => exact ⟨i + 1, bJ', M', s', _, R, by omega, by go_num, rfl, by rw [HC1.out]; rfl, W7.out, n'.out, z'.out, by show h.c + 1 ≤ _; omega, by show 0 + R.length ≤ _; omega, O7.out, zz7.out⟩
        case measure => simp [intOf]; omega
      · have e4 : (X == 4) = false := by simp [h4]
        have hcs := commit_is w6 (W6.out.tab HT.out) D SS M bJ' s h L W6.out.is W6.out.dk W6.out.jr (W6.out.pos HT.out) a5 c5 R O6H.out.sl (by omega) (by omega) (by omega)
        have hszc : ∀ W, SlBs W a5 R → Calls Tryd.prog 20 #[.slice a5 R.length c5] W fun e w' => e = .returned (.int .i64 (J.sz2 R : Int)) ∧ w' = W := fun W hW => size_any2 W a5 c5 R (by omega) hW
        rw [hab] at hcs
        obtain ⟨Z2, hZ2⟩ : ∃ Z2, Z2 = J.sz2 R := ⟨_, rfl⟩
        rw [← hZ2] at hszc hfz2 hln2 hX6
        clear hZ2
        go_wp2_with fail
        refine hcs.mono ?_
        rintro e w7 (⟨hroom, rfl, M', s', hl⟩ | ⟨hfull, rfl, hb7⟩)
        · have W7 := hide (W6.out.laid hl)
          have O7 := hide (hl.keepBs W6.out.dk W6.out.jr O6H.out hSlt)
          have OB7 := hide (hl.keepBs W6.out.dk W6.out.jr OB6.out hSlt)
          have n' := hide (hl.n.trans HSN.out.1)
          have z' := hide (hl.sz.trans HSN.out.2)
          have zz7 : Hid (B4 ≤ w7.heap.size) := Nat.le_trans z6.out hl.mv.size
          have hLn : L.length ≤ 1000 := by have := hLl.out; omega
          clear hl hcs W6 O6H OB6 z6 k2
          go_wp2_with (first
            | (at_builtin; refine wpList_append_Bs rfl (.tmp 93) (.tmp 94) rfl w7.heap.size _ _ rfl O8.out _ _ _ B4 R rfl rfl OC8.out (by simp; omega) z8.out ?_; intro v9 w9 P9 _ _ b9; have b79 := B8.out.trans b9; obtain ⟨a9, c9, hv9⟩ := P9.slice; rw [hv9] at P9; rw [hv9]; have O9 := hide (P9.low zz7.out); have OC9 := hide (O7.out.bel b79); have W9 := hide (W7.out.below b79); have zz9 : Hid (B4 ≤ w9.heap.size) := Nat.le_trans zz7.out b79.size; have hrm9 := room_any w9 D SS M' bJ' s' _ false W9.out.dk W9.out.is.n8 W9.out.is.u W9.out.is.ok.b W9.out.jr; clear P9 b9 b79 hv9 O8 B8 z8 OC8)
            | (at_builtin; refine wpList_append_Bs rfl (.const (.slice none 0 0)) (.tmp 92) rfl w7.heap.size _ [] rfl (OwnBs.nil _ _) _ _ _ B4 L rfl rfl OB7.out (by simp; omega) (Nat.le_refl _) ?_; intro v8 w8 P8 _ _ b8; obtain ⟨a8, c8, hv8⟩ := P8.slice; rw [hv8] at P8; rw [hv8]; have O8 := hide P8; have B8 := hide b8; have z8 := hide b8.size; have OC8 := hide (O7.out.bel b8); clear P8 b8 hv8)
            | fail)
          have hrE : J.room s' (nextH h R) = min ((N - 2) / 2 * 512 - (h.u + J.fsz R) - 12) ((1048576 - (h.b + R.length)) * 16) := by
            unfold J.room
            rw [harb s' n'.out z'.out]; rfl
          obtain ⟨Rn, hRn⟩ : ∃ Rn, Rn = J.room s' (nextH h R) := ⟨_, rfl⟩
          rw [← hRn] at hrm9 hrE
          have hRb : (Rm : Int) ≤ 16777216 ∧ (Rn : Int) ≤ 16777216 := by omega
          have hcmp : ¬ (Rn : Int) < (Rm : Int) - (Z2 : Int) - 1024 := by omega
          clear hRn hrE
          refine hrm9.mono ?_
          rintro e w10 ⟨rfl, b10⟩
          have W10 := hide (W9.out.below b10)
          have O10 := hide (O9.out.bel b10)
          have S10 := hide (OC9.out.bel b10).sl
          have zz10 : Hid (B4 ≤ w10.heap.size) := Nat.le_trans zz9.out b10.size
          have hcm : Calls Tryd.prog 18 #[.pointer (some ⟨bJ', 0, none⟩)] w10 fun e w' => e = .returned (.int .u64 (C1 : Int)) ∧ w' = w10 := by rw [HC1.out]; exact commits_any w10 D bJ' _ false W10.out.jr
          clear hrm9 b10 W9 O9 OC9 zz9 W7 O7 OB7 zz7
          go_wp2_with (first
            | (go_at_call 20; refine (hszc _ S10.out).mono ?_; rintro e w' ⟨rfl, hw⟩; rw [hw]; clear hw w')
            | (go_at_call 18; refine hcm.mono ?_; rintro e w' ⟨rfl, hw⟩; rw [hw]; clear hw w')
            | fail)
          go_roundw
          case rel => exact ⟨i + 1, bJ', M', s', _, L ++ R, by omega, by go_num, rfl, by rw [HC1.out]; rfl, W10.out, n'.out, z'.out, by show h.c + 1 ≤ _; omega, by show h.b + R.length ≤ _; omega, by first | exact O10.out | simpa using O10.out, zz10.out⟩
          case measure => simp [intOf]; omega
        · have W7 := hide (W6.out.below hb7)
          have OB7 := hide (OB6.out.bel hb7)
          have S7 := hide (O6H.out.bel hb7).sl
          have zz7 : Hid (B4 ≤ w7.heap.size) := Nat.le_trans z6.out hb7.size
          have hRb : (Rm : Int) ≤ 16777216 := by omega
          have hcmp : ¬ (Z2 : Int) + 1024 ≤ (Rm : Int) := by omega
          have hcm := commits_any w7 D bJ' h false W7.out.jr
          clear hb7 hcs W6 O6H OB6 z6 k2 hC1
          go_wp2_with (first
            | (go_at_call 20; refine (hszc _ S7.out).mono ?_; rintro e w' ⟨rfl, hw⟩; rw [hw]; clear hw w')
            | (go_at_call 18; refine hcm.mono ?_; rintro e w' ⟨rfl, hw⟩; rw [hw]; clear hw w')
            | fail)
          go_roundw
          case rel => exact ⟨i + 1, bJ', M, s, h, L, by omega, by go_num, rfl, rfl, W7.out, HSN.out.1, HSN.out.2, by omega, by omega, OB7.out, zz7.out⟩
          case measure => simp [intOf]; omega
    · have hlt' : ¬ (i : Int) < (A.length : Int) := by omega
      have hop := open_is wA (WA.out.tab HT.out) D SS M s WA.out.dk h L WA.out.is (WA.out.pos HT.out)
      go_wp2_with fail
      refine hop.mono ?_
      rintro e w7 ⟨v7, M7, rfl, J7, D7, V7, z7, O7⟩
      obtain ⟨a7, c7, hv7⟩ := O7.slice
      rw [hv7] at O7 ⊢
      have W7 := hide (WA.out.opened V7 z7 D7 J7)
      have OB7 := hide (V7.keepBs WA.out.dk OA.out hSlt)
      have hbl := blobs_same w7 a7 aL c7 cL L.length L.length L rfl rfl (by have := hLl.out; omega) O7.sl OB7.out.sl
      clear J7 D7 V7 z7 O7 hv7 hop WA OA
      go_wp2_with (go_at_call 17; refine hbl.mono ?_; rintro e w8 ⟨rfl, m, hw8⟩; have BW8 : Hid (Below w.heap.size w w8) := (by rw [hw8]; exact below_drewN W7.out.bl m); clear hw8)
      go_ret
      exact ⟨rfl, BW8.out⟩
end Go.Proofs.YtidocfajhhpfdaaDoor
