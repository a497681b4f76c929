/- ZonePlays walked. Made by gzpw.py. -/
import Derived.Test.YtbkegikdmmnkaaaGreatRnm
import Derived.Test.YtbkegikdmmnkaaaGreatDuo
namespace Go.Proofs.YtbkegikdmmnkaaaGreat
set_option maxRecDepth 5000
open Go.RowKit
theorem slM_em {w : World} {base : Nat} {a : Option Addr} {n c : Nat} {M : List (List (List UInt8))} (h : OwnL 28 1 EM w base (.slice a n c) M) : SlM w a M := fun hn => by
 obtain ⟨g, rfl, h1, h2, _, hc⟩ := h.get hn
 refine ⟨g, 0, rfl, h2, fun j hj => ?_⟩
 have e : M.getD j [] = M[j] := by rw [List.getD_eq_getElem?_getD, List.getElem?_eq_getElem hj]; rfl
 obtain ⟨us, hu, ⟨a', c', hE, hT, _⟩, ht⟩ := hc j M[j] (List.getElem?_eq_getElem hj)
 rw [e]
 refine ⟨a', c', ?_, hT.1⟩
 have := ht 0 (by omega)
 rw [hE] at this
 rw [Nat.zero_add]
 simpa using this
def AcT.run (A : List (List UInt8)) (l : List AcT) : List Z.R := l.foldl (AcT.act A) []
theorem AcT.run_snoc (A : List (List UInt8)) (l : List AcT) (j : Nat) (x : AcT) (hx : l[j]? = some x) : AcT.run A (l.take (j + 1)) = AcT.act A (AcT.run A (l.take j)) x := by
 unfold AcT.run
 rw [List.take_add_one, hx, List.foldl_append]
 rfl
theorem SlA.cells {w : World} {b o : Nat} {l : List AcT} (h : SlA w (some ⟨b, o, none⟩) l) {j : Nat} {x : AcT} (hx : l[j]? = some x) : ∃ na nc da dc, b < w.heap.size /\ AcS w x na nc da dc /\ ∀ k, k < 9 -> w.cell? ⟨b, o + j * 9 + k, none⟩ = (acRow x na nc da dc)[k]? := by
 obtain ⟨b', o', e, hlt, hc⟩ := h (by have := (List.getElem?_eq_some_iff.1 hx).1; omega)
 injection e with e; injection e with e1 e2 _
 subst e1; subst e2
 obtain ⟨na, nc, da, dc, h1, h2⟩ := hc j x hx
 exact ⟨na, nc, da, dc, hlt, h1, h2⟩
theorem RZAt.empty (W : World) (base : Nat) (a : Option Addr) (n c : Nat) (hn : n = Z.exA.length) (hs : SlS W a Z.exA) (hc : n <= c) : RZAt (W.alloc (.cells #[.slice a n c, .slice none 0 0] 33)) base W.heap.size Z.exA [] := by
 subst hn
 exact ⟨⟨a, c, none, 0, RowAt.new W _ _, hs.below ((Below.refl _ W).alloc (Nat.le_refl _) _) (Nat.le_refl _), hc, RL.nil _ _ _ _ (fun _ => rfl)⟩, List.Pairwise.nil, fun x hx => (by cases hx), Nat.zero_le _, fun x hx => (by cases hx), fun x hx => (by cases hx), fun x hx => (by cases hx)⟩
set_option maxRecDepth 20000 in
set_option maxHeartbeats 1500000 in
theorem zonePlays_walk (l : List AcT) (ao : Option Addr) (len cap : Nat) (w : World) (hl : Hid (l.length = len)) (hs : SlA w ao l) (hok : Hid (∀ x ∈ l, x.Ok)) (hm : len <= 9223372036854775807) :
 Calls Tryz.prog 3 #[.slice ao len cap] w fun e w' => e = .returned (.bool true) /\ Below w.heap.size w w' := by
 have HS := hide hs
 obtain ⟨B, hB⟩ : ∃ B, B = w.heap.size := ⟨_, rfl⟩
 have HBe := hide hB
 have hT0 : True := trivial
 clear hs hB
 go_enter Tryz.func3, Tryz.ntmps3
 go_wp2_with (first
  | (go_at_call 12; have hq := HZ1.out; clear hq; refine (apex_any w1).mono ?_; rintro e wb ⟨vb, rfl, hOb, hBb⟩; obtain ⟨ab, cb, rfl, hSb, _, hcb, _⟩ := hOb.open)
  | (go_at_call 11; refine (znew_live (fun i => i < B) wa (fun i hi => by have := hB0a.size; have := HBe.out; omega) Z.exA aa _ ca (hide rfl) hSa (hide exA_small)).mono ?_; rintro e w1 ⟨V, rfl, _, hZ1, hB1⟩; rw [exA_low] at hZ1; have hb1 := hB0a.trans (hB1.mono hB0a.size); have HZ1 := hide hZ1; have HB1 := hide hb1; clear hZ1 hB1 hb1)
  | (go_at_call 12; have hq := HLI.out; clear hq; refine (apex_any w0).mono ?_; rintro e wa ⟨va, rfl, hOa, hBa⟩; obtain ⟨aa, ca, rfl, hSa, _, hca, _⟩ := hOa.open; have hB0a := HB0.out.trans (hBa.mono HB0.out.size))
  | (go_at_call 10; have hq := HB0.out; clear hq; refine (zlight_any l ao len cap w0 hl (HS.out.below HB0.out (Nat.le_refl _)) hm).mono ?_; rintro e wq ⟨t, rfl, ht, hwq⟩; have hwq2 := hwq.symm; subst hwq2; have HLI := hide ht; clear ht hwq; cases t)
  | (go_at_call 9; have hT0q := hT0; clear hT0q hT0; refine (known_any w).mono ?_; rintro e w0 ⟨rfl, hB0⟩; have HB0 := hide hB0; clear hB0)
  | fail)
 ·go_ret
  exact ⟨rfl, HB0.out⟩
 ·obtain ⟨h40, hli⟩ := HLI.out trivial
  have HL := hide hli
  have hw3 := RZAt.empty wb wb.heap.size ab _ cb rfl hSb hcb
  have hb3 : Below wb.heap.size wb (wb.alloc (.cells #[.slice ab Z.exA.length cb, .slice none 0 0] 33)) := (Below.refl _ wb).alloc (Nat.le_refl _) _
  have hsz : B <= w1.heap.size := by have := HB1.out.size; have := HBe.out; omega
  have hD : Duo B (wb.alloc (.cells #[.slice ab Z.exA.length cb, .slice none 0 0] 33)) V wb.heap.size wb.heap.size Z.exA [] 0 := ⟨(HZ1.out.bel hBb).bel hb3, hw3, Nat.le_trans hsz hBb.size, Nat.le_trans hsz hBb.size, hb3.size⟩
  have hBw : Below B w (wb.alloc (.cells #[.slice ab Z.exA.length cb, .slice none 0 0] 33)) := by
   rw [HBe.out]
   exact HB1.out.trans ((hBb.trans (hb3.mono hBb.size)).mono HB1.out.size)
  obtain ⟨m, hmm⟩ : ∃ m, m = wb.heap.size := ⟨_, rfl⟩
  rw [<- hmm] at hD ⊢
  obtain ⟨base, hbs⟩ : ∃ base, base = m := ⟨_, rfl⟩
  have hD : Duo B (wb.alloc (.cells #[.slice ab Z.exA.length cb, .slice none 0 0] 33)) V base m Z.exA [] 0 := by rw [hbs]; exact hD
  have HD0 := hide hD
  have HBW := hide hBw
  clear hw3 hb3 hsz hD hBw hmm hbs hli hBb hOb hSb hcb hB0a hBa hOa hSa hca HZ1 HB1 HB0 HLI
  go_loopw [5] (fun i wr => ∃ j : Nat, i = .int .i64 (j : Int) /\ j <= len /\ Duo B wr V base m Z.exA (AcT.run Z.exA (l.take j)) (j * 300) /\ Below B w wr) (fun i _ => len - (intOf i).toNat)
  case atStart => exact ⟨0, rfl, by omega, HD0.out, HBW.out⟩
  case round =>
   obtain ⟨j, rfl, hj, hD, hB⟩ := hrel
   have HD := hide hD
   have HB := hide hB
   clear hD hB HD0 HBW
   by_cases hlt : j < len
   ·have hjl : j < l.length := by have := hl.out; omega
    obtain ⟨x, hx⟩ : ∃ x, l[j]? = some x := ⟨_, List.getElem?_eq_getElem hjl⟩
    have hxl : x ∈ l := List.mem_of_getElem? hx
    obtain ⟨b, o, rfl, _, _⟩ := HS.out (by omega)
    obtain ⟨na, nc, da, dc, hblt, hac, hcc⟩ := HS.out.cells hx
    obtain ⟨nl, hnl⟩ : ∃ nl, nl = x.n.length := ⟨_, rfl⟩
    obtain ⟨dl, hdl⟩ : ∃ dl, dl = x.d.length := ⟨_, rfl⟩
    obtain ⟨wh, hwh⟩ : ∃ wh, wh = x.what := ⟨_, rfl⟩
    unfold acRow at hcc
    rw [<- hnl, <- hdl, <- hwh] at hcc
    have SAll : Hid (∀ w', Below B w w' -> w'.cell? ⟨b, o + j * 9, none⟩ = some (.int .i64 wh) /\ w'.cell? ⟨b, o + j * 9 + 1, none⟩ = some (.int .u32 (x.k : Int)) /\ w'.cell? ⟨b, o + j * 9 + 2, none⟩ = some (.bool x.raw) /\ w'.cell? ⟨b, o + j * 9 + 3, none⟩ = some (.slice na nl nc) /\ w'.cell? ⟨b, o + j * 9 + 4, none⟩ = some (.int .u16 (x.t : Int)) /\ w'.cell? ⟨b, o + j * 9 + 5, none⟩ = some (.int .u16 (x.cl : Int)) /\ w'.cell? ⟨b, o + j * 9 + 6, none⟩ = some (.int .u32 (x.ttl : Int)) /\ w'.cell? ⟨b, o + j * 9 + 7, none⟩ = some (.slice da dl dc) /\ w'.cell? ⟨b, o + j * 9 + 8, none⟩ = some (.int .u16 (x.t2 : Int))) := hide fun W hW => by
     have hk : ∀ i, i < 9 -> W.cell? ⟨b, o + j * 9 + i, none⟩ = w.cell? ⟨b, o + j * 9 + i, none⟩ := fun i _ => World.cell?_of_block (hW.block b (by rw [HBe.out]; exact hblt))
     exact ⟨(hk 0 (by omega)).trans (hcc 0 (by omega)), (hk 1 (by omega)).trans (hcc 1 (by omega)), (hk 2 (by omega)).trans (hcc 2 (by omega)), (hk 3 (by omega)).trans (hcc 3 (by omega)), (hk 4 (by omega)).trans (hcc 4 (by omega)), (hk 5 (by omega)).trans (hcc 5 (by omega)), (hk 6 (by omega)).trans (hcc 6 (by omega)), (hk 7 (by omega)).trans (hcc 7 (by omega)), (hk 8 (by omega)).trans (hcc 8 (by omega))⟩
    obtain ⟨L, hL⟩ : ∃ L, L = AcT.run Z.exA (l.take j) := ⟨_, rfl⟩
    rw [<- hL] at HD
    have hdo : ∀ W, Below wr.heap.size wr W -> Calls Tryz.prog 13 #[.pointer (some ⟨V, 0, none⟩), .pointer (some ⟨m, 0, none⟩), .agg #[.int .i64 wh, .int .u32 (x.k : Int), .bool x.raw, .slice na nl nc, .int .u16 (x.t : Int), .int .u16 (x.cl : Int), .int .u32 (x.ttl : Int), .slice da dl dc, .int .u16 (x.t2 : Int)]] W fun e w' => e = .returned (.bool true) /\ Duo B w' V base m Z.exA (AcT.act Z.exA L x) (j * 300 + 300) /\ Below B W w' := fun W hW => does_any B W V base m Z.exA L (j * 300) (HD.out.bel hW) (hide exA_small) x (hok.out x hxl) (HL.out x hxl) wh (hide hwh.symm) na nl nc da dl dc (hide hnl) (hide hdl) (hac.below (HB.out.trans (hW.mono (HD.out.le))) (by rw [HBe.out]; exact Nat.le_refl _)) (by omega)
    obtain ⟨L', hL'⟩ : ∃ L', L' = AcT.act Z.exA L x := ⟨_, rfl⟩
    rw [<- hL'] at hdo
    have HDO := hide hdo
    have HX := hide hx
    have HLE := hide hL
    have HLE2 := hide hL'
    have hjk : (j : Int) < (len : Int) := by omega
    clear hx hxl hblt hac hcc hnl hdl hwh hL hL' hdo
    go_wp2
    refine wp_region_X (S := fun w' => w'.cell? ⟨b, o + j * 9, none⟩ = some (.int .i64 wh) /\ w'.cell? ⟨b, o + j * 9 + 1, none⟩ = some (.int .u32 (x.k : Int)) /\ w'.cell? ⟨b, o + j * 9 + 2, none⟩ = some (.bool x.raw) /\ w'.cell? ⟨b, o + j * 9 + 3, none⟩ = some (.slice na nl nc) /\ w'.cell? ⟨b, o + j * 9 + 4, none⟩ = some (.int .u16 (x.t : Int)) /\ w'.cell? ⟨b, o + j * 9 + 5, none⟩ = some (.int .u16 (x.cl : Int)) /\ w'.cell? ⟨b, o + j * 9 + 6, none⟩ = some (.int .u32 (x.ttl : Int)) /\ w'.cell? ⟨b, o + j * 9 + 7, none⟩ = some (.slice da dl dc) /\ w'.cell? ⟨b, o + j * 9 + 8, none⟩ = some (.int .u16 (x.t2 : Int))) (jS := 1000) (by kernel_rfl) ?_
    have BA : Hid (Below wr.heap.size wr wr.drew) := hide ((Below.refl _ wr).drew)
    have SA := hide (SAll.out _ (HB.out.trans (BA.out.mono HD.out.le)))
    generalize wr.drew = w1d at BA SA ⊢
    refine tk gt0 SA.out ?_
    refine tk gt1 SA.out ?_
    refine tk gt2 SA.out ?_
    refine tk gt3 SA.out ?_
    refine tk gt4 SA.out ?_
    refine tk gt5 SA.out ?_
    refine rdy gt6 (fun K hKK => ?_)
    refine step_fng (by rfl) _ _ (by go_simp) (HDO.out _ BA.out) (by rintro e w' ⟨rfl, _⟩; exact ⟨_, rfl⟩) ?_
    rintro _ w6 ⟨he, hD6, hB6⟩
    cases he
    have hB06 := HB.out.trans ((BA.out.mono HD.out.le).trans hB6)
    have SB := hide (SAll.out _ hB06)
    obtain ⟨aa6, ac6, a6, c6, hrow6, _, _, _⟩ := hD6.r.row
    have HLEN := hide (zlen_live hD6.z)
    obtain ⟨k6, hk6⟩ : ∃ k6, k6 = L'.length := ⟨_, rfl⟩
    rw [<- hk6] at hrow6 HLEN
    have p1 : w6.cell? ⟨m, 1, none⟩ = some (.slice a6 k6 c6) := hrow6.cell 1
    have HD6 := hide hD6
    have HB6 := hide hB06
    refine kk hKK (Or.inr SB.out) ?_
    clear hKK hD6 hB6 hB06 hrow6 hk6 SA BA
    refine tk gt7 SB.out ?_
    refine tk gt8 SB.out ?_
    refine tk gt9 SB.out ?_
    refine tk gt11 SB.out ?_
    refine tk gt12 SB.out ?_
    refine tk gt13 SB.out ?_
    refine wpAnyX_ready (rs := [10, 14]) (by kernel_rfl) (by simp) (AllX.cons gt10 (fun K hKK => ?br2) (AllX.cons gt14 (fun K hKK => ?br3) AllX.nil))
    case br2 =>
     refine step_fng (by rfl) _ _ (by go_simp) HLEN.out (by rintro e w' ⟨rfl, _⟩; exact ⟨_, rfl⟩) ?_
     rintro _ w7 ⟨he, hw7⟩
     cases he
     subst hw7
     refine kk hKK (Or.inr SB.out) ?_
     clear hKK
     refine rdy gt14 (fun K hKK => ?_)
     go_simp
     refine kk hKK (Or.inr SB.out) ?_
     clear hKK
     refine tk gt15 SB.out ?_
     refine tk gt16 SB.out ?_
     refine tk gt17 SB.out ?_
     refine wpAnyX_done (by kernel_rfl) ?_ _
     go_wp2
     go_roundw
     case rel =>
      refine ⟨j + 1, by go_num, by omega, ?_, HB6.out⟩
      rw [AcT.run_snoc Z.exA l j x HX.out, <- HLE.out, <- HLE2.out]
      exact HD6.out.mono (by omega)
     case measure => simp [intOf]; omega
    case br3 =>
     go_simp
     refine kk hKK (Or.inr SB.out) ?_
     clear hKK
     refine tk gt15 SB.out ?_
     refine rdy gt10 (fun K hKK => ?_)
     refine step_fng (by rfl) _ _ (by go_simp) HLEN.out (by rintro e w' ⟨rfl, _⟩; exact ⟨_, rfl⟩) ?_
     rintro _ w7 ⟨he, hw7⟩
     cases he
     subst hw7
     refine kk hKK (Or.inr SB.out) ?_
     clear hKK
     refine tk gt16 SB.out ?_
     refine tk gt17 SB.out ?_
     refine wpAnyX_done (by kernel_rfl) ?_ _
     go_wp2
     go_roundw
     case rel =>
      refine ⟨j + 1, by go_num, by omega, ?_, HB6.out⟩
      rw [AcT.run_snoc Z.exA l j x HX.out, <- HLE.out, <- HLE2.out]
      exact HD6.out.mono (by omega)
     case measure => simp [intOf]; omega
   ·obtain rfl : j = len := by omega
    have hT : l.take j = l := List.take_of_length_le (by have := hl.out; omega)
    rw [hT] at HD
    obtain ⟨L, hL⟩ : ∃ L, L = AcT.run Z.exA l := ⟨_, rfl⟩
    rw [<- hL] at HD
    obtain ⟨aa, ac, a, c, hrow, _, _, hRL⟩ := HD.out.r.row
    obtain ⟨k, hk⟩ : ∃ k, k = L.length := ⟨_, rfl⟩
    rw [<- hk] at hrow
    have hk2 : k <= 2000 := by rw [hk]; exact HD.out.z.num
    have HK := hide hk
    have HROW := hide hrow
    have HRL := hide hRL
    have HSH : Hid (∀ x ∈ L, x.p.length <= 128) := hide fun x hx => (HD.out.r.okk x hx).2.2.2.2
    obtain ⟨M, hM⟩ : ∃ M, M = (Z.paths L).map List.reverse := ⟨_, rfl⟩
    have HM := hide hM
    obtain ⟨mm, hmm⟩ : ∃ mm, mm = M.length := ⟨_, rfl⟩
    have HML := hide hmm
    have hm9 : mm <= 9223372036854775807 := by
     have := Z.paths_len L
     rw [hmm, hM, List.length_map]; omega
    have HNA : Hid (∀ n ∈ M, n.length <= 9223372036854775807) := hide fun n hn => by
     rw [hM] at hn
     obtain ⟨p, hp, rfl⟩ := List.mem_map.1 hn
     obtain ⟨y, hy, rfl⟩ := ((Z.paths_rise HD.out.r.rise HD.out.r.lows).2 p).1 hp
     have := HSH.out y hy
     rw [List.length_reverse]; omega
    have hK : j * 300 <= 1000000 := by omega
    clear hT hL hrow hRL hk hM hmm
    go_wp2
    refine wp_region_X (S := fun w' => w'.cell? ⟨m, 1, none⟩ = some (.slice a k c)) (jS := 1000) (by kernel_rfl) ?_
    have BA : Hid (Below wr.heap.size wr wr.drew) := hide ((Below.refl _ wr).drew)
    have SAll : Hid (∀ w', Below wr.heap.size wr w' -> w'.cell? ⟨m, 1, none⟩ = some (.slice a k c)) := hide fun W hW => (HROW.out.below hW HROW.out.lt).cell 1
    have SA := hide (SAll.out _ BA.out)
    generalize wr.drew = w1d at BA SA ⊢
    refine tk gt0 SA.out ?_
    refine tk gt2 SA.out ?_
    refine tk gt3 SA.out ?_
    refine tk gt4 SA.out ?_
    refine tk gt5 SA.out ?_
    refine rdy gt1 (fun K hKK => ?_)
    refine step_fng (by rfl) _ _ (by go_simp) (zrecords_live (HD.out.bel BA.out).z hK) (by rintro e w' ⟨v, rfl, _⟩; exact ⟨_, rfl⟩) ?_
    rintro _ w2 ⟨v, he, hO, hb⟩
    cases he
    obtain ⟨av, cv, hv, _, _⟩ := hO.slice
    rw [<- HK.out] at hv
    subst hv
    have HRL1 := hide (RL.of_own hO)
    clear hO
    have B1 := hide (BA.out.trans (hb.mono BA.out.size))
    have SA1 := hide (SAll.out _ B1.out)
    refine kk hKK (Or.inr SA1.out) ?_
    clear hKK hb
    refine rdy gt6 (fun K hKK => ?_)
    refine step_fng (by rfl) _ _ (by go_simp) (hrecords_same L av a k cv c _ _ w2 (hide HK.out) HRL1.out (HRL.out.bel B1.out) (by omega) HSH) (by rintro e w' ⟨rfl, _⟩; exact ⟨_, rfl⟩) ?_
    rintro _ w3 ⟨he, hb⟩
    cases he
    have B2 := hide (B1.out.trans (hb.mono B1.out.size))
    have SA2 := hide (SAll.out _ B2.out)
    refine kk hKK (Or.inr SA2.out) ?_
    clear hKK hb
    refine tk gt7 SA2.out ?_
    refine tk gt8 SA2.out ?_
    refine tk gt10 SA2.out ?_
    refine rdy gt9 (fun K hKK => ?_)
    refine step_fng (by rfl) _ _ (by go_simp) (znames_live (HD.out.bel B2.out).z hK) (by rintro e w' ⟨v, rfl, _⟩; exact ⟨_, rfl⟩) ?_
    rintro _ w4 ⟨v, he, hO, hb⟩
    cases he
    rw [<- HM.out] at hO
    obtain ⟨an, cn1, hv, _, _⟩ := hO.slice
    rw [<- HML.out] at hv
    subst hv
    have HO1 := hide hO
    clear hO
    have B3 := hide (B2.out.trans (hb.mono B2.out.size))
    have SA3 := hide (SAll.out _ B3.out)
    refine kk hKK (Or.inr SA3.out) ?_
    clear hKK hb
    refine rdy gt11 (fun K hKK => ?_)
    refine step_fng (by rfl) _ _ (by go_simp) (mNames_any _ base m Z.exA L (HD.out.bel B3.out).r) (by rintro e w' ⟨v, rfl, _⟩; exact ⟨_, rfl⟩) ?_
    rintro _ w5 ⟨v, he, hO, hb⟩
    cases he
    rw [<- HM.out] at hO
    obtain ⟨am, cm1, hv, _, _⟩ := hO.slice
    rw [<- HML.out] at hv
    subst hv
    have HO2 := hide hO
    have HO3 := hide (HO1.out.bel (fun _ _ h => h.kb (KB.of_below hb)) hb)
    clear hO HO1
    have B4 := hide (B3.out.trans (hb.mono B3.out.size))
    have SA4 := hide (SAll.out _ B4.out)
    refine kk hKK (Or.inr SA4.out) ?_
    clear hKK hb
    refine rdy gt12 (fun K hKK => ?_)
    have hhn := hnames_any M M an am mm mm cn1 cm1 w5 (hide HML.out.symm) (hide HML.out.symm) (slM_em HO3.out) (slM_en HO2.out) hm9 hm9 HNA HNA
    rw [decide_eq_true (rfl : M = M)] at hhn
    refine step_fng (by rfl) _ _ (by go_simp) hhn (by rintro e w' ⟨rfl, _⟩; exact ⟨_, rfl⟩) ?_
    rintro _ w6 ⟨he, hk6⟩
    cases he
    have B5 : Hid (Below wr.heap.size wr w6) := by obtain ⟨q, rfl⟩ := hk6; exact hide (below_drewN B4.out q)
    have SA5 := hide (SAll.out _ B5.out)
    refine kk hKK (Or.inr SA5.out) ?_
    clear hKK hk6 hhn
    refine tk gt13 SA5.out ?_
    refine tk gt14 SA5.out ?_
    refine wpAnyX_done (by kernel_rfl) ?_ _
    go_wp2
    go_ret
    exact ⟨by simp, by rw [<- HBe.out]; exact HB.out.trans (B5.out.mono HD.out.le)⟩
end Go.Proofs.YtbkegikdmmnkaaaGreat
