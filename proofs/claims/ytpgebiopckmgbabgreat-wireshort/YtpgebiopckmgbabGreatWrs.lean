/- (*wire.writer).records. -/
import Derived.Test.YtpgebiopckmgbabGreatWrc
namespace Go.Proofs.YtpgebiopckmgbabGreat
open Go.RowKit
namespace M
def R.Ok (x : R) : Prop := Good x.name ∧ x.type < 65536 ∧ x.cls < 65536 ∧ x.ttl < 4294967296 ∧ x.data.length ≤ 5000
/- records behind what was written, until there are more than lim bytes; how many have room -/
def wrs (lim : Int) : List R → (List UInt8 → Option Nat) → List UInt8 → (List UInt8 → Option Nat) × List UInt8 × Nat
  | [], mp, out => (mp, out, 0)
  | x :: r, mp, out => if lim < ((wrec x mp out).2.length : Int) then ((wrec x mp out).1, (wrec x mp out).2, 0) else ((wrs lim r (wrec x mp out).1 (wrec x mp out).2).1, (wrs lim r (wrec x mp out).1 (wrec x mp out).2).2.1, (wrs lim r (wrec x mp out).1 (wrec x mp out).2).2.2 + 1)
end M
/- a record in memory: where its name and its data lie -/
structure RX where
  na : Option Addr
  nc : Nat
  da : Option Addr
  dc : Nat
  r : M.R
def SlR (w : World) (ao : Option Addr) (l : List RX) : Prop := 0 < l.length → ∃ g o, ao = some ⟨g, o, none⟩ ∧ g < w.heap.size ∧ ∀ j x, l[j]? = some x →
  w.cell? ⟨g, o + j * 5, none⟩ = some (.slice x.na x.r.name.length x.nc) ∧ w.cell? ⟨g, o + j * 5 + 1, none⟩ = some (.int .u16 (x.r.type : Int)) ∧ w.cell? ⟨g, o + j * 5 + 2, none⟩ = some (.int .u16 (x.r.cls : Int)) ∧ w.cell? ⟨g, o + j * 5 + 3, none⟩ = some (.int .u32 (x.r.ttl : Int)) ∧ w.cell? ⟨g, o + j * 5 + 4, none⟩ = some (.slice x.da x.r.data.length x.dc) ∧ SlS w x.na x.r.name ∧ SlL w x.da x.r.data ∧ (x.da = none → x.dc = 0)
set_option maxRecDepth 5000 in
theorem SlR.below {w w' : World} {ao : Option Addr} {l : List RX} (h : SlR w ao l) (hb : Below w.heap.size w w') : SlR w' ao l := by
  intro hl
  obtain ⟨g, o, e, hg, hc⟩ := h hl
  refine ⟨g, o, e, Nat.lt_of_lt_of_le hg hb.size, fun j x hx => ?_⟩
  obtain ⟨h1, h2, h3, h4, h5, h6, h7, h8⟩ := hc j x hx
  exact ⟨(hb.cell (p := ⟨g, _, none⟩) hg).trans h1, (hb.cell (p := ⟨g, _, none⟩) hg).trans h2, (hb.cell (p := ⟨g, _, none⟩) hg).trans h3, (hb.cell (p := ⟨g, _, none⟩) hg).trans h4, (hb.cell (p := ⟨g, _, none⟩) hg).trans h5, h6.below hb (Nat.le_refl _), h7.below hb (Nat.le_refl _), h8⟩
set_option maxRecDepth 5000 in
theorem bnd6 {k n : Nat} (h : k < n) (hn : n ≤ 100) : 40000 + 6000 * (k + 1) ≤ 640000 := by omega
set_option maxRecDepth 3000 in
set_option maxHeartbeats 2000000 in
theorem wsrecs {base W b K : Nat} {out : List UInt8} {mp : List UInt8 → Option Nat} {w0 wb : World} (h : WS base W b out mp K w0 wb) (l : List RX) (ao : Option Addr) (n c : Nat) (hn : Hid (l.length = n)) (wl : World) (hs : SlR wb ao l) (hty : ∀ ad, ao = some ad → ∃ cur, wb.heap[ad.block]? = some (.cells cur 39)) (hm : ∀ x ∈ l, SlS wl x.na x.r.name ∧ SlL wl x.da x.r.data) (hwl : Below wl.heap.size wl wb) (hB : wl.heap.size ≤ base) (hok : ∀ x ∈ l, x.r.Ok) (lim : Int)
    (hbW : base ≤ W) (hbb : base ≤ b) (hbne : b ≠ W) (hz : base ≤ wb.heap.size) (hl : n ≤ 100) (hout : out.length ≤ 40000) (hK : K ≤ 200000) :
    Calls Tryz.prog 17 #[.pointer (some ⟨W, 0, none⟩), .slice ao n c, .int .i64 lim] wb fun e w' => e = .returned (.int .i64 ((M.wrs lim (l.map (·.r)) mp out).2.2 : Int)) ∧ (M.wrs lim (l.map (·.r)) mp out).2.1.length ≤ 640000 ∧ ∃ K', K' ≤ 300000 ∧ WS base W b (M.wrs lim (l.map (·.r)) mp out).2.1 (M.wrs lim (l.map (·.r)) mp out).1 K' w0 w' := by
  have HS := hide hs
  have HBL := hide hwl
  have HTY := hide hty
  have HMM := hide hm
  have HNB : Hid (∀ (k : Nat) (cur : Array Value), wb.heap[k]? = some (.cells cur 39) → k ≠ W ∧ k ≠ b) := by
    obtain ⟨v, hR, _, hM, _⟩ := h
    intro k cur hk
    refine ⟨?_, ?_⟩
    · rintro rfl
      unfold RowAt at hR
      rw [hk] at hR; cases hR
    · rintro rfl
      obtain ⟨es, cl, h1⟩ := hM.obj
      rw [hk] at h1; cases h1
  have HOK := hide hok
  have HW0 := hide h
  have HWR := hide h.re
  obtain ⟨res, HRES⟩ : ∃ res, Hid (M.wrs lim (l.map (·.r)) mp out = res) := ⟨_, rfl⟩
  clear h hs hwl hok hty hm
  obtain rfl := hn.out
  go_enter Tryz.func17, Tryz.ntmps17
  go_wp2
  go_loopw [11] (fun u wx => ∃ (k : Nat) (mp' : List UInt8 → Option Nat) (out' : List UInt8) (K' : Nat), k ≤ l.length ∧ u = .int .i64 (k : Int) ∧ Hid (WS base W b out' mp' K' wb wx) ∧ Hid (res = ((M.wrs lim ((l.map (·.r)).drop k) mp' out').1, (M.wrs lim ((l.map (·.r)).drop k) mp' out').2.1, (M.wrs lim ((l.map (·.r)).drop k) mp' out').2.2 + k)) ∧ out'.length ≤ 40000 + 6000 * k ∧ K' ≤ 200000 + 1000 * k) (fun u _ => l.length - (intOf u).toNat)
  case atStart => exact ⟨0, mp, out, K, by omega, rfl, HWR, HRES.out.symm, by omega, by omega⟩
  case round =>
    obtain ⟨k, mp', out', K', hk, rfl, HW, HRS, ho, hK'⟩ := hrel
    have hzx := HW.out.size
    have hWl := HW.out.lt
    by_cases hlt : k < l.length
    · obtain ⟨x, hx⟩ : ∃ x, l[k]? = some x := ⟨l[k], by simp [hlt]⟩
      have hxo := HOK.out x (List.mem_of_getElem? hx)
      obtain ⟨g, o, rfl, hglt, hcell⟩ := HS.out (by omega)
      obtain ⟨q0, q1, q2, q3, q4, _, _, q7⟩ := hcell k x hx
      obtain ⟨q5, q6⟩ := HMM.out x (List.mem_of_getElem? hx)
      obtain ⟨cur, hcur⟩ := HTY.out _ rfl
      clear hcell
      obtain ⟨xna, xnc, xda, xdc, r⟩ := x
      simp only at q0 q1 q2 q3 q4 q5 q6 q7 hxo
      obtain ⟨_, _, _, _, hKn⟩ := HW.out
      have hbx : Below wl.heap.size wl wr := HBL.out.trans (hKn.1.mono (by omega))
      have hnb := HNB.out g cur hcur
      have hblk : wr.heap[g]? = wb.heap[g]? := by
        have h9 := hKn.2 g _ hcur hnb.1 hnb.2 (fun c fr e => by cases e)
        rw [h9]; exact hcur.symm
      have c0 : wr.cell? ⟨g, o + k * 5, none⟩ = _ := (World.cell?_of_block (w := wb) (a := ⟨g, o + k * 5, none⟩) hblk).trans q0
      have c1 : wr.cell? ⟨g, o + k * 5 + 1, none⟩ = _ := (World.cell?_of_block (w := wb) (a := ⟨g, o + k * 5 + 1, none⟩) hblk).trans q1
      have c2 : wr.cell? ⟨g, o + k * 5 + 2, none⟩ = _ := (World.cell?_of_block (w := wb) (a := ⟨g, o + k * 5 + 2, none⟩) hblk).trans q2
      have c3 : wr.cell? ⟨g, o + k * 5 + 3, none⟩ = _ := (World.cell?_of_block (w := wb) (a := ⟨g, o + k * 5 + 3, none⟩) hblk).trans q3
      have c4 : wr.cell? ⟨g, o + k * 5 + 4, none⟩ = _ := (World.cell?_of_block (w := wb) (a := ⟨g, o + k * 5 + 4, none⟩) hblk).trans q4
      have hdk : decide ((k : Int) < (l.length : Int)) = true := by simp; omega
      obtain ⟨nl, HNL⟩ : ∃ nl, Hid (r.name.length = nl) := ⟨_, rfl⟩
      obtain ⟨dl, HDL⟩ : ∃ dl, Hid (r.data.length = dl) := ⟨_, rfl⟩
      rw [HNL.out] at c0
      rw [HDL.out] at c4
      have hzw : base ≤ wr.heap.size := by omega
      have HA := hide (HW.out.alloc (.cells #[.slice xna nl xnc, .int .u16 (r.type : Int), .int .u16 (r.cls : Int), .int .u32 (r.ttl : Int), .slice xda dl xdc] 39) hzw)
      have HSN : Hid (SlS (wr.alloc (.cells #[.slice xna nl xnc, .int .u16 (r.type : Int), .int .u16 (r.cls : Int), .int .u32 (r.ttl : Int), .slice xda dl xdc] 39)) xna r.name) := q5.below (hbx.alloc hbx.size _) (Nat.le_refl _)
      have HSD : Hid (SlB base (wr.alloc (.cells #[.slice xna nl xnc, .int .u16 (r.type : Int), .int .u16 (r.cls : Int), .int .u32 (r.ttl : Int), .slice xda dl xdc] 39)) xda r.data) := by
        intro hn0
        obtain ⟨b1, o1, e1, hb1, hc1⟩ := q6 hn0
        exact ⟨b1, o1, e1, by omega, fun j hj => ((hbx.alloc hbx.size _).cell (p := ⟨b1, o1 + j, none⟩) hb1).trans (hc1 j hj)⟩
      have HNI := hide q7
      have HXO := hide hxo
      have hx2 := hxo.2.1
      have hx3 := hxo.2.2.1
      have hx4 := hxo.2.2.2.1
      have hx5 := hxo.2.2.2.2
      rw [HDL.out] at hx5
      have hxs := hxo.1.2.2
      have hwl := M.wrec_len r mp' out'
      rw [HDL.out] at hwl
      have HDR : Hid (M.wrs lim ((l.map (·.r)).drop k) mp' out' = M.wrs lim (r :: (l.map (·.r)).drop (k + 1)) mp' out') := by
        have h1 : (l.map (·.r)).drop k = r :: (l.map (·.r)).drop (k + 1) := by
          rw [List.drop_eq_getElem_cons (by simpa using hlt)]
          have : l[k] = ⟨xna, xnc, xda, xdc, r⟩ := by rw [List.getElem?_eq_getElem hlt] at hx; exact Option.some.inj hx
          simp [this]
        show _ = _; rw [h1]
      clear q0 q1 q2 q3 q4 q5 q6 q7 hxo hx hKn hbx hcur hnb hblk
      go_wp2_with fail
      generalize (wr.alloc (.cells #[.slice xna nl xnc, .int .u16 (r.type : Int), .int .u16 (r.cls : Int), .int .u32 (r.ttl : Int), .slice xda dl xdc] 39)) = A at HA HSN HSD ⊢
      refine (wsrec HA.out r xna xda nl dl xnc xdc HNL HDL HSN.out HSD.out HNI.out HXO.out.1 hx2 hx3 hx4 (by omega) hbW hbb hbne (by have := HA.out.size; omega) (by omega) (by omega)).mono ?_
      rintro e w2 ⟨rfl, K2, hK2, hW2⟩
      have HW2 := hide hW2
      obtain ⟨v2, hR2, hO2, _, _⟩ := hW2
      obtain ⟨a2, c2', rfl, _⟩ := hO2.open
      have HL2 : Hid ((M.wrec r mp' out').2.length ≤ 40000 + 6000 * (k + 1)) := by show _ ≤ _; omega
      obtain ⟨o2, HO2⟩ : ∃ o2, Hid ((M.wrec r mp' out').2 = o2) := ⟨_, rfl⟩
      obtain ⟨m2, HM2⟩ : ∃ m2, Hid ((M.wrec r mp' out').1 = m2) := ⟨_, rfl⟩
      rw [HO2.out] at HW2 hR2 HL2
      rw [HM2.out] at HW2
      have z0 : w2.cell? ⟨W, 0, none⟩ = some (.slice a2 o2.length c2') := hR2.cell 0
      have HDR2 : Hid (M.wrs lim ((l.map (·.r)).drop k) mp' out' = if lim < (o2.length : Int) then (m2, o2, 0) else ((M.wrs lim ((l.map (·.r)).drop (k + 1)) m2 o2).1, (M.wrs lim ((l.map (·.r)).drop (k + 1)) m2 o2).2.1, (M.wrs lim ((l.map (·.r)).drop (k + 1)) m2 o2).2.2 + 1)) := by
        show _ = _; rw [HDR.out]; simp only [M.wrs]; rw [HO2.out, HM2.out]
      clear hR2 hO2 c0 c1 c2 c3 c4 HDR HA HSN HSD
      have hl2 := HL2.out
      have hle : o2.length ≤ 640000 := Nat.le_trans hl2 (bnd6 hlt hl)
      have hKe : K2 ≤ 300000 := by omega
      by_cases hlim : lim < (o2.length : Int)
      · have hd2 : decide (lim < (o2.length : Int)) = true := by simp; omega
        go_wp2
        go_ret
        have h1 := HRS.out
        rw [HDR2.out, if_pos hlim] at h1
        rw [HRES.out, h1]
        refine ⟨by simp, hle, K2, hKe, ?_⟩
        exact HW0.out.tr HW2.out
      · have hd2 : decide (lim < (o2.length : Int)) = false := by simp; omega
        have h1 := HRS.out
        rw [HDR2.out, if_neg hlim] at h1
        have HRS2 : Hid (res = ((M.wrs lim ((l.map (·.r)).drop (k + 1)) m2 o2).1, (M.wrs lim ((l.map (·.r)).drop (k + 1)) m2 o2).2.1, (M.wrs lim ((l.map (·.r)).drop (k + 1)) m2 o2).2.2 + (k + 1))) := by
          show _ = _; rw [h1]; simp; omega
        clear h1
        go_wp2
        go_roundw
        case rel => exact ⟨k + 1, m2, o2, K2, by omega, by go_num, HW2, HRS2, hl2, by omega⟩
        case measure => simp [intOf]; omega
    · obtain rfl : k = l.length := by omega
      have hdk : decide ((l.length : Int) < (l.length : Int)) = false := by simp
      have h1 := HRS.out
      rw [List.drop_eq_nil_of_le (by simp)] at h1
      have HE : Hid (res = (mp', out', l.length)) := by show _ = _; rw [h1]; simp [M.wrs]
      clear h1
      go_wp2
      go_ret
      rw [HRES.out, HE.out]
      exact ⟨rfl, by show out'.length ≤ _; omega, K', by omega, HW0.out.tr HW.out⟩
end Go.Proofs.YtpgebiopckmgbabGreat
