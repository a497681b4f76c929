/- signetref15.Names. Made by grnm.py. -/
import Derived.Test.YtbkegikdmmnkaaaGreatZsw
import Derived.Test.YtbkegikdmmnkaaaGreatDuo
import Derived.Deep.RegionHeld3
import Derived.Test.YtbkegikdmmnkaaaGreatZnr
import Derived.Test.YtbkegikdmmnkaaaGreatAkA
import Derived.Test.YtbkegikdmmnkaaaGreatRdq
import Derived.Test.YtbkegikdmmnkaaaGreatMks
import Derived.Deep.Cut
namespace Go.Proofs.YtbkegikdmmnkaaaGreat
set_option maxRecDepth 5000
open Go.RowKit
namespace AcT
theorem rn_small {x : AcT} (h : LightA x) : N.Small x.rn := by
 unfold rn; split
 ·exact h.1.small
 ·exact Z.owner_small _
theorem rn_len {x : AcT} (h : LightA x) : x.rn.length <= 200 := by
 unfold rn; split
 ·exact h.1.1
 ·have := (Z.owner_good (x.k % 256)).2.2.1; omega
theorem rt_lt {x : AcT} (h : x.Ok) : x.rt < 65536 := by
 unfold rt; split
 ·exact h.t
 ·exact Z.typeK_lt _
theorem rttl_lt {x : AcT} (h : x.Ok) : x.rttl < 4294967296 := by
 unfold rttl; split
 ·exact h.ttl
 ·exact Z.ttlK_lt _
theorem rd_len {x : AcT} (h : LightA x) : x.rd.length <= 8192 := by
 unfold rd; split
 ·have := h.2; omega
 ·obtain ⟨c, hc⟩ := Z.data_ok (x.k / 65536 % 256) (x.k / 256 % 256) (Nat.mod_lt _ (by decide))
  exact (cn_len hc).2.1
def act (A : List (List UInt8)) (L : List Z.R) (x : AcT) : List Z.R :=
 if x.what = 0 \/ x.what = 1 \/ x.what = 2 \/ x.what = 3 then (Z.putR A L x.rn x.rt x.rcl x.rttl x.rd).2.2
 else if x.what = 4 \/ x.what = 5 then (Z.dropR L x.rn x.rt x.rd).2
 else Z.dropSet L (path x.rn) x.t2
end AcT
theorem RM.row {m : Nat} {w w' : World} {g : Nat} {t : TypeId} {c : Array Value} (k : ∀ b, RM b m w w') (hr : RowAt w g t c) (hne : g ≠ m) : RowAt w' g t c := by
 have h : w'.heap[g]? = w.heap[g]? := (k w.heap.size).keep g hr.lt hne (Or.inl hr.lt)
 exact h.trans hr
set_option maxRecDepth 20000 in
set_option maxHeartbeats 1500000 in
theorem does_put (B : Nat) (w : World) (Zb base m : Nat) (A : List (List UInt8)) (L : List Z.R) (K : Nat) (D : Duo B w Zb base m A L K) (hA : Hid (N.Small A)) (x : AcT) (hx : x.Ok) (hli : LightA x) (wh : Int) (hwh : Hid (x.what = wh)) (na : Option Addr) (nl nc : Nat) (da : Option Addr) (dl dc : Nat) (hnl : Hid (nl = x.n.length)) (hdl : Hid (dl = x.d.length)) (hs : AcS w x na nc da dc) (hK : K + 300 <= 1000000) (hw : wh = 0 \/ wh = 1 \/ wh = 2 \/ wh = 3) :
 Calls Tryz.prog 13 #[.pointer (some ⟨Zb, 0, none⟩), .pointer (some ⟨m, 0, none⟩), .agg #[.int .i64 wh, .int .u32 (x.k : Int), .bool x.raw, .slice na nl nc, .int .u16 (x.t : Int), .int .u16 (x.cl : Int), .int .u32 (x.ttl : Int), .slice da dl dc, .int .u16 (x.t2 : Int)]] w fun e w' => e = .returned (.bool true) /\ Duo B w' Zb base m A (AcT.act A L x) (K + 300) /\ Below B w w' := by
 obtain ⟨w1, hw1⟩ : ∃ w1, w1 = w.alloc (.cells #[.int .i64 wh, .int .u32 (x.k : Int), .bool x.raw, .slice na nl nc, .int .u16 (x.t : Int), .int .u16 (x.cl : Int), .int .u32 (x.ttl : Int), .slice da dl dc, .int .u16 (x.t2 : Int)] 41) := ⟨_, rfl⟩
 have hb1 : Below w.heap.size w w1 := by rw [hw1]; exact (Below.refl _ w).alloc (Nat.le_refl _) _
 have hr1 : RowAt w1 w.heap.size 41 #[.int .i64 wh, .int .u32 (x.k : Int), .bool x.raw, .slice na nl nc, .int .u16 (x.t : Int), .int .u16 (x.cl : Int), .int .u32 (x.ttl : Int), .slice da dl dc, .int .u16 (x.t2 : Int)] := by rw [hw1]; exact RowAt.new w _ _
 have hrec := lrecord_any x na nl nc da dl dc w1 hx hnl hdl (hs.below hb1 (Nat.le_refl _))
 rw [hwh.out] at hrec
 obtain ⟨L', hL'⟩ : ∃ L', L' = AcT.act A L x := ⟨_, rfl⟩
 have hact : L' = (Z.putR A L x.rn x.rt x.rcl x.rttl x.rd).2.2 := by rw [hL']; unfold AcT.act; rw [hwh.out]; rw [if_pos hw]
 rw [<- hL']
 have b1 := AcT.rn_small hli
 have b2 := AcT.rn_len hli
 have b3 := AcT.rt_lt hx
 have b4 := AcT.rttl_lt hx
 have b5 := AcT.rd_len hli
 have b6 := hx.t2
 obtain ⟨rn, hrn⟩ : ∃ rn, rn = x.rn := ⟨_, rfl⟩
 obtain ⟨rt, hrt⟩ : ∃ rt, rt = x.rt := ⟨_, rfl⟩
 obtain ⟨rcl, hrcl⟩ : ∃ rcl, rcl = x.rcl := ⟨_, rfl⟩
 obtain ⟨rttl, hrttl⟩ : ∃ rttl, rttl = x.rttl := ⟨_, rfl⟩
 obtain ⟨rd, hrd⟩ : ∃ rd, rd = x.rd := ⟨_, rfl⟩
 rw [<- hrn, <- hrt, <- hrcl, <- hrttl, <- hrd] at hrec
 rw [<- hrn] at b1 b2
 rw [<- hrt] at b3
 rw [<- hrttl] at b4
 rw [<- hrd] at b5
 obtain ⟨rl, hrl⟩ : ∃ rl, rl = rn.length := ⟨_, rfl⟩
 obtain ⟨rdl, hrdl⟩ : ∃ rdl, rdl = rd.length := ⟨_, rfl⟩
 rw [<- hrl, <- hrdl] at hrec
 have HB1 := hide hb1
 have HR1 := hide hr1
 have HW1 := hide hw1
 have HD := hide (D.bel hb1)
 have HD0 := hide D
 obtain ⟨P, hP⟩ : ∃ P, P = Z.putR A L rn rt rcl rttl rd := ⟨_, rfl⟩
 rw [<- hrn, <- hrt, <- hrcl, <- hrttl, <- hrd, <- hP] at hact
 obtain ⟨p1, hp1⟩ : ∃ p1, p1 = P.1 := ⟨_, rfl⟩
 obtain ⟨p2, hp2⟩ : ∃ p2, p2 = P.2.1 := ⟨_, rfl⟩
 have HZP : Hid (∀ (W : World) (ra : Option Addr) (rc : Nat) (ea : Option Addr) (ec : Nat), Below w1.heap.size w1 W -> SlS W ra rn -> rl <= rc -> SlL W ea rd -> (ea = none -> ec = 0) -> rdl <= ec -> Calls Tryz.prog 45 #[.pointer (some ⟨Zb, 0, none⟩), .agg #[.slice ra rl rc, .int .u16 (rt : Int), .int .u16 (rcl : Int), .int .u32 (rttl : Int), .slice ea rdl ec]] W fun e w' => e = .returned (.tuple #[.bool p1, .int .i64 (p2 : Int)]) /\ ZLive (fun i => i < B) w' Zb A L' (K + 300) /\ ZKp (fun i => i < B) W w') := hide fun W ra rc ea ec hW h1 h2 h3 h4 h5 => by
  have h := zput_live (HD.out.bel hW).z hA rn ra rl rc (hide hrl.symm) h2 h1 (hide b1) rt rcl rttl rd ea rdl ec (hide hrdl.symm) h3 h4 h5 b3 b4 (by omega)
  unfold recV at h
  rw [<- hP, <- hp1, <- hp2, <- hact] at h
  exact h.mono fun e w' ⟨k1, k2, k3⟩ => ⟨k1, k2.mono (by omega), k3⟩
 have HMP : Hid (∀ (W W0 : World) (ra : Option Addr) (rc : Nat) (ea : Option Addr) (ec : Nat), Below w1.heap.size w1 W0 -> ZKp (fun i => i < B) W0 W -> SlS W ra rn -> rl <= rc -> SlL W ea rd -> (ea = none -> ec = 0) -> rdl <= ec -> Calls Tryz.prog 46 #[.pointer (some ⟨m, 0, none⟩), .agg #[.slice ra rl rc, .int .u16 (rt : Int), .int .u16 (rcl : Int), .int .u32 (rttl : Int), .slice ea rdl ec]] W fun e w' => e = .returned (.tuple #[.bool p1, .int .i64 (p2 : Int)]) /\ RZAt w' base m A L' /\ RM base m W w') := hide fun W W0 ra rc ea ec hW0 hW h1 h2 h3 h4 h5 => by
  have h := mPut_any W base m A L ((HD.out.bel hW0).r.zk hW) (Nat.le_trans (HD.out.bel hW0).bs hW.size) hA rn ra rl rc (hide hrl.symm) h2 h1 (hide b1) rt rcl rttl rd ea rdl ec (hide hrdl.symm) h3 h4 h5 (by rw [hrdl]; exact b5) b3 b4
  unfold recV at h
  rw [<- hP, <- hp1, <- hp2, <- hact] at h
  exact h
 unfold recV at hrec
 have HREC := hide hrec
 have hll := HD.out.z.lt
 clear D hs hrec hr1 hb1 hw1 hL' hrn hrt hrcl hrttl hrd b1 b2 b3 b4 b5 b6 hrl hrdl hx hli hact hll hP hp1 hp2 hK
 have hq0 : True := trivial
 rcases hw with rfl | rfl | rfl | rfl
 all_goals
  go_enter Tryz.func13, Tryz.ntmps13
  go_wp2_with (first
   | (go_at_call 46; have hq := HK5.out; clear hq; refine (HMP.out w5 w3 ra rc ea ec HB3.out HK5.out (HK5.out.ss _ _ HSS.out) h2 (HK5.out.sl _ _ HSL.out) h4 h5).mono ?_; rintro e w6 ⟨rfl, hR6, hM6⟩)
   | (go_at_call 45; have hq := HX3.out; clear hq; rw [<- HW3.out]; refine (HZP.out w3 ra rc ea ec HB3.out HSS.out h2 HSL.out h4 h5).mono ?_; rintro e w5 ⟨rfl, hZ5, hK5⟩; have hx5 := hK5.row HX3.out (by decide) (by decide); have g0 := hx5.cell 0; have g1 := hx5.cell 1; have g2 := hx5.cell 2; have g3 := hx5.cell 3; have g4 := hx5.cell 4; have HK5 := hide hK5; have HZ5 := hide hZ5; clear hK5 hZ5 hx5)
   | (go_at_call 49; rw [<- HW1.out]; refine HREC.out.mono ?_; rintro e w2 ⟨ra, rc, ea, ec, rfl, h1, h2, h3, h4, h5, hb2⟩; obtain ⟨w3, hw3⟩ : ∃ w3, w3 = w2.alloc (.cells #[.slice ra rl rc, .int .u16 (rt : Int), .int .u16 (rcl : Int), .int .u32 (rttl : Int), .slice ea rdl ec] 39) := ⟨_, rfl⟩; have hb3 : Below w1.heap.size w1 w3 := (by rw [hw3]; exact hb2.alloc hb2.size _); have hX : RowAt w3 w2.heap.size 39 #[.slice ra rl rc, .int .u16 (rt : Int), .int .u16 (rcl : Int), .int .u32 (rttl : Int), .slice ea rdl ec] := (by rw [hw3]; exact RowAt.new w2 _ _); have hA3 := HR1.out.below hb3 HR1.out.lt; have hss := h1.below (show Below w2.heap.size w2 w3 by rw [hw3]; exact (Below.refl _ w2).alloc (Nat.le_refl _) _) (Nat.le_refl _); have hsl := h3.below (show Below w2.heap.size w2 w3 by rw [hw3]; exact (Below.refl _ w2).alloc (Nat.le_refl _) _) (Nat.le_refl _); have HB3 := hide hb3; have HX3 := hide hX; have HA3 := hide hA3; have HSS := hide hss; have HSL := hide hsl; have HW3 := hide hw3; have a0 : (w2.alloc (.cells #[.slice ra rl rc, .int .u16 (rt : Int), .int .u16 (rcl : Int), .int .u32 (rttl : Int), .slice ea rdl ec] 39)).cell? ⟨w.heap.size, 0, none⟩ = some (.int .i64 _) := (by rw [<- hw3]; exact hA3.cell 0); have r0 : (w2.alloc (.cells #[.slice ra rl rc, .int .u16 (rt : Int), .int .u16 (rcl : Int), .int .u32 (rttl : Int), .slice ea rdl ec] 39)).cell? ⟨w2.heap.size, 0, none⟩ = some (.slice ra rl rc) := (by rw [<- hw3]; exact hX.cell 0); clear hb2 h1 h3 hb3 hX hA3 hss hsl hw3)
   | fail)
  go_ret
  have D3 := HD.out.bel HB3.out
  obtain ⟨D6, hB6⟩ := D3.step HK5.out HZ5.out hR6 hM6
  exact ⟨by simp, D6, ((HB1.out.trans (HB3.out.mono HB1.out.size)).mono HD0.out.le).trans hB6⟩
set_option maxRecDepth 20000 in
set_option maxHeartbeats 1500000 in
theorem does_drop (B : Nat) (w : World) (Zb base m : Nat) (A : List (List UInt8)) (L : List Z.R) (K : Nat) (D : Duo B w Zb base m A L K) (_hA : Hid (N.Small A)) (x : AcT) (hx : x.Ok) (hli : LightA x) (wh : Int) (hwh : Hid (x.what = wh)) (na : Option Addr) (nl nc : Nat) (da : Option Addr) (dl dc : Nat) (hnl : Hid (nl = x.n.length)) (hdl : Hid (dl = x.d.length)) (hs : AcS w x na nc da dc) (_hK : K + 300 <= 1000000) (hw : wh = 4 \/ wh = 5) :
 Calls Tryz.prog 13 #[.pointer (some ⟨Zb, 0, none⟩), .pointer (some ⟨m, 0, none⟩), .agg #[.int .i64 wh, .int .u32 (x.k : Int), .bool x.raw, .slice na nl nc, .int .u16 (x.t : Int), .int .u16 (x.cl : Int), .int .u32 (x.ttl : Int), .slice da dl dc, .int .u16 (x.t2 : Int)]] w fun e w' => e = .returned (.bool true) /\ Duo B w' Zb base m A (AcT.act A L x) (K + 300) /\ Below B w w' := by
 obtain ⟨w1, hw1⟩ : ∃ w1, w1 = w.alloc (.cells #[.int .i64 wh, .int .u32 (x.k : Int), .bool x.raw, .slice na nl nc, .int .u16 (x.t : Int), .int .u16 (x.cl : Int), .int .u32 (x.ttl : Int), .slice da dl dc, .int .u16 (x.t2 : Int)] 41) := ⟨_, rfl⟩
 have hb1 : Below w.heap.size w w1 := by rw [hw1]; exact (Below.refl _ w).alloc (Nat.le_refl _) _
 have hr1 : RowAt w1 w.heap.size 41 #[.int .i64 wh, .int .u32 (x.k : Int), .bool x.raw, .slice na nl nc, .int .u16 (x.t : Int), .int .u16 (x.cl : Int), .int .u32 (x.ttl : Int), .slice da dl dc, .int .u16 (x.t2 : Int)] := by rw [hw1]; exact RowAt.new w _ _
 have hrec := lrecord_any x na nl nc da dl dc w1 hx hnl hdl (hs.below hb1 (Nat.le_refl _))
 rw [hwh.out] at hrec
 obtain ⟨L', hL'⟩ : ∃ L', L' = AcT.act A L x := ⟨_, rfl⟩
 have hact : L' = (Z.dropR L x.rn x.rt x.rd).2 := by rw [hL']; unfold AcT.act; rw [hwh.out]; rw [if_neg (by omega), if_pos (by omega)]
 rw [<- hL']
 have b1 := AcT.rn_small hli
 have b3 := AcT.rt_lt hx
 have b5 := AcT.rd_len hli
 obtain ⟨rn, hrn⟩ : ∃ rn, rn = x.rn := ⟨_, rfl⟩
 obtain ⟨rt, hrt⟩ : ∃ rt, rt = x.rt := ⟨_, rfl⟩
 obtain ⟨rcl, hrcl⟩ : ∃ rcl, rcl = x.rcl := ⟨_, rfl⟩
 obtain ⟨rttl, hrttl⟩ : ∃ rttl, rttl = x.rttl := ⟨_, rfl⟩
 obtain ⟨rd, hrd⟩ : ∃ rd, rd = x.rd := ⟨_, rfl⟩
 rw [<- hrn, <- hrt, <- hrcl, <- hrttl, <- hrd] at hrec
 rw [<- hrn] at b1
 rw [<- hrt] at b3
 rw [<- hrd] at b5
 obtain ⟨rl, hrl⟩ : ∃ rl, rl = rn.length := ⟨_, rfl⟩
 obtain ⟨rdl, hrdl⟩ : ∃ rdl, rdl = rd.length := ⟨_, rfl⟩
 rw [<- hrl, <- hrdl] at hrec
 have HB1 := hide hb1
 have HR1 := hide hr1
 have HW1 := hide hw1
 have HD := hide (D.bel hb1)
 have HD0 := hide D
 obtain ⟨P, hP⟩ : ∃ P, P = Z.dropR L rn rt rd := ⟨_, rfl⟩
 rw [<- hrn, <- hrt, <- hrd, <- hP] at hact
 obtain ⟨p1, hp1⟩ : ∃ p1, p1 = P.1 := ⟨_, rfl⟩
 have HZP : Hid (∀ (W : World) (ra : Option Addr) (rc : Nat) (ea : Option Addr) (ec : Nat), Below w1.heap.size w1 W -> SlS W ra rn -> rl <= rc -> SlL W ea rd -> (ea = none -> ec = 0) -> rdl <= ec -> Calls Tryz.prog 50 #[.pointer (some ⟨Zb, 0, none⟩), .agg #[.slice ra rl rc, .int .u16 (rt : Int), .int .u16 (rcl : Int), .int .u32 (rttl : Int), .slice ea rdl ec]] W fun e w' => e = .returned (.bool p1) /\ ZLive (fun i => i < B) w' Zb A L' (K + 300) /\ ZKp (fun i => i < B) W w') := hide fun W ra rc ea ec hW h1 _ h3 h4 h5 => by
  have h := zdrop_live (HD.out.bel hW).z rn ra rl rc (hide hrl.symm) h1 (hide b1) rt rcl rttl rd ea rdl ec (hide hrdl.symm) h3 h4 h5 b3
  unfold recV at h
  rw [<- hP, <- hp1, <- hact] at h
  exact h.mono fun e w' ⟨k1, k2, k3⟩ => ⟨k1, k2.mono (by omega), k3⟩
 have HMP : Hid (∀ (W W0 : World) (ra : Option Addr) (rc : Nat) (ea : Option Addr) (ec : Nat), Below w1.heap.size w1 W0 -> ZKp (fun i => i < B) W0 W -> SlS W ra rn -> rl <= rc -> SlL W ea rd -> (ea = none -> ec = 0) -> rdl <= ec -> Calls Tryz.prog 51 #[.pointer (some ⟨m, 0, none⟩), .agg #[.slice ra rl rc, .int .u16 (rt : Int), .int .u16 (rcl : Int), .int .u32 (rttl : Int), .slice ea rdl ec]] W fun e w' => e = .returned (.bool p1) /\ RZAt w' base m A L' /\ ∀ b, RM b m W w') := hide fun W W0 ra rc ea ec hW0 hW h1 _ h3 h4 h5 => by
  have h := mDrop_any W base m A L ((HD.out.bel hW0).r.zk hW) (Nat.le_trans (HD.out.bel hW0).bs hW.size) rn ra rl rc (hide hrl.symm) h1 (hide b1) rt rcl rttl rd ea rdl ec (hide hrdl.symm) h3 h4 h5 (by rw [hrdl]; exact b5)
  unfold recV at h
  rw [<- hP, <- hp1, <- hact] at h
  exact h
 unfold recV at hrec
 have HREC := hide hrec
 have hll := HD.out.z.lt
 clear D hs hrec hr1 hb1 hw1 hL' hrn hrt hrcl hrttl hrd b1 b3 b5 hrl hrdl hx hli hact hll hP hp1
 rcases hw with rfl | rfl
 all_goals
  go_enter Tryz.func13, Tryz.ntmps13
  go_wp2_with (first
   | (go_at_call 49; rw [<- HW1.out]; refine HREC.out.mono ?_; rintro e w2 ⟨ra, rc, ea, ec, rfl, h1, h2, h3, h4, h5, hb2⟩; obtain ⟨w3, hw3⟩ : ∃ w3, w3 = w2.alloc (.cells #[.slice ra rl rc, .int .u16 (rt : Int), .int .u16 (rcl : Int), .int .u32 (rttl : Int), .slice ea rdl ec] 39) := ⟨_, rfl⟩; have hb3 : Below w1.heap.size w1 w3 := (by rw [hw3]; exact hb2.alloc hb2.size _); have hX : RowAt w3 w2.heap.size 39 #[.slice ra rl rc, .int .u16 (rt : Int), .int .u16 (rcl : Int), .int .u32 (rttl : Int), .slice ea rdl ec] := (by rw [hw3]; exact RowAt.new w2 _ _); have hA3 := HR1.out.below hb3 HR1.out.lt; have hss := h1.below (show Below w2.heap.size w2 w3 by rw [hw3]; exact (Below.refl _ w2).alloc (Nat.le_refl _) _) (Nat.le_refl _); have hsl := h3.below (show Below w2.heap.size w2 w3 by rw [hw3]; exact (Below.refl _ w2).alloc (Nat.le_refl _) _) (Nat.le_refl _); have HB12 := hide hb2; have HB3 := hide hb3; have HX3 := hide hX; have HA3 := hide hA3; have HSS := hide hss; have HSL := hide hsl; have HW3 := hide hw3; have a0 : (w2.alloc (.cells #[.slice ra rl rc, .int .u16 (rt : Int), .int .u16 (rcl : Int), .int .u32 (rttl : Int), .slice ea rdl ec] 39)).cell? ⟨w.heap.size, 0, none⟩ = some (.int .i64 _) := (by rw [<- hw3]; exact hA3.cell 0); clear hb2 h1 h3 hb3 hX hA3 hss hsl hw3)
   | fail)
  rw [<- HW3.out]
  have BA : Hid (Below w3.heap.size w3 w3.drew) := hide ((Below.refl _ w3).drew)
  have SAll : Hid (∀ w', Below w3.heap.size w3 w' -> w'.cell? ⟨w2.heap.size, 0, none⟩ = some (.slice ra rl rc) /\ w'.cell? ⟨w2.heap.size, 1, none⟩ = some (.int .u16 (rt : Int)) /\ w'.cell? ⟨w2.heap.size, 2, none⟩ = some (.int .u16 (rcl : Int)) /\ w'.cell? ⟨w2.heap.size, 3, none⟩ = some (.int .u32 (rttl : Int)) /\ w'.cell? ⟨w2.heap.size, 4, none⟩ = some (.slice ea rdl ec)) := hide fun W hW => ⟨(HX3.out.below hW HX3.out.lt).cell 0, (HX3.out.below hW HX3.out.lt).cell 1, (HX3.out.below hW HX3.out.lt).cell 2, (HX3.out.below hW HX3.out.lt).cell 3, (HX3.out.below hW HX3.out.lt).cell 4⟩
  have SA := hide (SAll.out _ BA.out)
  have HBD := hide (HB3.out.trans (BA.out.mono HB3.out.size))
  have HXD := hide (HX3.out.below BA.out HX3.out.lt)
  have HAD := hide (HA3.out.below BA.out HA3.out.lt)
  have HSD := hide (HSS.out.below BA.out (Nat.le_refl _))
  have HLD := hide (HSL.out.below BA.out (Nat.le_refl _))
  have hmx : m < w1.heap.size := by
   obtain ⟨_, _, _, _, h, _⟩ := HD.out.r.row
   exact h.lt
  have hm2 : w2.heap.size ≠ m := by have := HB12.out.size; omega
  have hma : w.heap.size ≠ m := by
   obtain ⟨_, _, _, _, h, _⟩ := HD0.out.r.row
   have := h.lt
   omega
  refine wp_region_X (S := fun w' => w'.cell? ⟨w2.heap.size, 0, none⟩ = some (.slice ra rl rc) /\ w'.cell? ⟨w2.heap.size, 1, none⟩ = some (.int .u16 (rt : Int)) /\ w'.cell? ⟨w2.heap.size, 2, none⟩ = some (.int .u16 (rcl : Int)) /\ w'.cell? ⟨w2.heap.size, 3, none⟩ = some (.int .u32 (rttl : Int)) /\ w'.cell? ⟨w2.heap.size, 4, none⟩ = some (.slice ea rdl ec)) (jS := 1000) (by kernel_rfl) ?_
  generalize w3.drew = w1d at BA SA HBD HXD HAD HSD HLD ⊢
  refine tk gt0 SA.out ?_
  refine tk gt1 SA.out ?_
  refine tk gt3 SA.out ?_
  refine tk gt4 SA.out ?_
  refine rdy gt2 (fun K hKK => ?_)
  refine step_fng (by rfl) _ _ (by go_simp) (HZP.out w1d ra rc ea ec HBD.out HSD.out h2 HLD.out h4 h5) (by rintro e w' ⟨rfl, _⟩; exact ⟨_, rfl⟩) ?_
  rintro _ w5 ⟨he, hZ5, hK5⟩
  cases he
  have HX5 := hide (hK5.row HXD.out (by decide) (by decide))
  have HA5 := hide (hK5.row HAD.out (by decide) (by decide))
  have SB : Hid (w5.cell? ⟨w2.heap.size, 0, none⟩ = some (.slice ra rl rc) /\ w5.cell? ⟨w2.heap.size, 1, none⟩ = some (.int .u16 (rt : Int)) /\ w5.cell? ⟨w2.heap.size, 2, none⟩ = some (.int .u16 (rcl : Int)) /\ w5.cell? ⟨w2.heap.size, 3, none⟩ = some (.int .u32 (rttl : Int)) /\ w5.cell? ⟨w2.heap.size, 4, none⟩ = some (.slice ea rdl ec)) := hide ⟨HX5.out.cell 0, HX5.out.cell 1, HX5.out.cell 2, HX5.out.cell 3, HX5.out.cell 4⟩
  have HZ5 := hide hZ5
  have HK5 := hide hK5
  refine kk hKK (Or.inr SB.out) ?_
  clear hKK hZ5 hK5 SA
  refine rdy gt5 (fun K hKK => ?_)
  refine step_fng (by rfl) _ _ (by go_simp) (HMP.out w5 w1d ra rc ea ec HBD.out HK5.out (HK5.out.ss _ _ HSD.out) h2 (HK5.out.sl _ _ HLD.out) h4 h5) (by rintro e w' ⟨rfl, _⟩; exact ⟨_, rfl⟩) ?_
  rintro _ w6 ⟨he, hR6, hM6⟩
  cases he
  have HX6 := hide (RM.row hM6 HX5.out hm2)
  have HA6 := hide (RM.row hM6 HA5.out hma)
  have SC : Hid (w6.cell? ⟨w2.heap.size, 0, none⟩ = some (.slice ra rl rc) /\ w6.cell? ⟨w2.heap.size, 1, none⟩ = some (.int .u16 (rt : Int)) /\ w6.cell? ⟨w2.heap.size, 2, none⟩ = some (.int .u16 (rcl : Int)) /\ w6.cell? ⟨w2.heap.size, 3, none⟩ = some (.int .u32 (rttl : Int)) /\ w6.cell? ⟨w2.heap.size, 4, none⟩ = some (.slice ea rdl ec)) := hide ⟨HX6.out.cell 0, HX6.out.cell 1, HX6.out.cell 2, HX6.out.cell 3, HX6.out.cell 4⟩
  have HR6 := hide hR6
  have HM6 := hide (hM6 base)
  refine kk hKK (Or.inr SC.out) ?_
  clear hKK hR6 hM6 SB
  refine tk gt6 SC.out ?_
  refine tk gt7 SC.out ?_
  refine wpAnyX_done (by kernel_rfl) ?_ _
  go_wp2
  go_ret
  obtain ⟨D6, hB6⟩ := (HD.out.bel HBD.out).step HK5.out HZ5.out HR6.out HM6.out
  exact ⟨by simp, D6, ((HB1.out.trans (HBD.out.mono HB1.out.size)).mono HD0.out.le).trans hB6⟩
set_option maxRecDepth 20000 in
set_option maxHeartbeats 1500000 in
theorem does_set (B : Nat) (w : World) (Zb base m : Nat) (A : List (List UInt8)) (L : List Z.R) (K : Nat) (D : Duo B w Zb base m A L K) (_hA : Hid (N.Small A)) (x : AcT) (hx : x.Ok) (hli : LightA x) (wh : Int) (hwh : Hid (x.what = wh)) (na : Option Addr) (nl nc : Nat) (da : Option Addr) (dl dc : Nat) (hnl : Hid (nl = x.n.length)) (hdl : Hid (dl = x.d.length)) (hs : AcS w x na nc da dc) (hK : K + 300 <= 1000000) (hw : ¬ (wh = 0) /\ ¬ (wh = 1) /\ ¬ (wh = 2) /\ ¬ (wh = 3) /\ ¬ (wh = 4) /\ ¬ (wh = 5)) :
 Calls Tryz.prog 13 #[.pointer (some ⟨Zb, 0, none⟩), .pointer (some ⟨m, 0, none⟩), .agg #[.int .i64 wh, .int .u32 (x.k : Int), .bool x.raw, .slice na nl nc, .int .u16 (x.t : Int), .int .u16 (x.cl : Int), .int .u32 (x.ttl : Int), .slice da dl dc, .int .u16 (x.t2 : Int)]] w fun e w' => e = .returned (.bool true) /\ Duo B w' Zb base m A (AcT.act A L x) (K + 300) /\ Below B w w' := by
 obtain ⟨w1, hw1⟩ : ∃ w1, w1 = w.alloc (.cells #[.int .i64 wh, .int .u32 (x.k : Int), .bool x.raw, .slice na nl nc, .int .u16 (x.t : Int), .int .u16 (x.cl : Int), .int .u32 (x.ttl : Int), .slice da dl dc, .int .u16 (x.t2 : Int)] 41) := ⟨_, rfl⟩
 have hb1 : Below w.heap.size w w1 := by rw [hw1]; exact (Below.refl _ w).alloc (Nat.le_refl _) _
 have hr1 : RowAt w1 w.heap.size 41 #[.int .i64 wh, .int .u32 (x.k : Int), .bool x.raw, .slice na nl nc, .int .u16 (x.t : Int), .int .u16 (x.cl : Int), .int .u32 (x.ttl : Int), .slice da dl dc, .int .u16 (x.t2 : Int)] := by rw [hw1]; exact RowAt.new w _ _
 have hrec := lrecord_any x na nl nc da dl dc w1 hx hnl hdl (hs.below hb1 (Nat.le_refl _))
 rw [hwh.out] at hrec
 obtain ⟨L', hL'⟩ : ∃ L', L' = AcT.act A L x := ⟨_, rfl⟩
 have hact : L' = Z.dropSet L (path x.rn) x.t2 := by rw [hL']; unfold AcT.act; rw [hwh.out]; rw [if_neg (by omega), if_neg (by omega)]
 rw [<- hL']
 have b1 := AcT.rn_small hli
 have b2 := AcT.rn_len hli
 have b3 := AcT.rt_lt hx
 have b4 := AcT.rttl_lt hx
 have b5 := AcT.rd_len hli
 have b6 := hx.t2
 obtain ⟨rn, hrn⟩ : ∃ rn, rn = x.rn := ⟨_, rfl⟩
 obtain ⟨rt, hrt⟩ : ∃ rt, rt = x.rt := ⟨_, rfl⟩
 obtain ⟨rcl, hrcl⟩ : ∃ rcl, rcl = x.rcl := ⟨_, rfl⟩
 obtain ⟨rttl, hrttl⟩ : ∃ rttl, rttl = x.rttl := ⟨_, rfl⟩
 obtain ⟨rd, hrd⟩ : ∃ rd, rd = x.rd := ⟨_, rfl⟩
 rw [<- hrn, <- hrt, <- hrcl, <- hrttl, <- hrd] at hrec
 rw [<- hrn] at b1 b2
 rw [<- hrt] at b3
 rw [<- hrttl] at b4
 rw [<- hrd] at b5
 obtain ⟨rl, hrl⟩ : ∃ rl, rl = rn.length := ⟨_, rfl⟩
 obtain ⟨rdl, hrdl⟩ : ∃ rdl, rdl = rd.length := ⟨_, rfl⟩
 rw [<- hrl, <- hrdl] at hrec
 have HB1 := hide hb1
 have HR1 := hide hr1
 have HW1 := hide hw1
 have HD := hide (D.bel hb1)
 have HD0 := hide D
 rw [<- hrn] at hact
 obtain ⟨p1, hp1⟩ : ∃ p1 : Nat, p1 = L.length - (Z.dropSet L (path rn) x.t2).length := ⟨_, rfl⟩
 have HZP : Hid (∀ (W : World) (ra : Option Addr) (rc : Nat), Below w1.heap.size w1 W -> SlS W ra rn -> Calls Tryz.prog 52 #[.pointer (some ⟨Zb, 0, none⟩), .slice ra rl rc, .int .u16 (x.t2 : Int)] W fun e w' => e = .returned (.int .i64 (p1 : Int)) /\ ZLive (fun i => i < B) w' Zb A L' (K + 300) /\ ZKp (fun i => i < B) W w') := hide fun W ra rc hW h1 => by
  have h := zdropSet_live (HD.out.bel hW).z (by omega) rn ra rl rc (hide hrl.symm) h1 (hide b1) x.t2 b6
  rw [<- hp1, <- hact] at h
  exact h.mono fun e w' ⟨k1, k2, k3⟩ => ⟨k1, k2.mono (by omega), k3⟩
 have HMP : Hid (∀ (W W0 : World) (ra : Option Addr) (rc : Nat), Below w1.heap.size w1 W0 -> ZKp (fun i => i < B) W0 W -> SlS W ra rn -> Calls Tryz.prog 53 #[.pointer (some ⟨m, 0, none⟩), .slice ra rl rc, .int .u16 (x.t2 : Int)] W fun e w' => e = .returned (.int .i64 (p1 : Int)) /\ RZAt w' base m A L' /\ ∀ b, RM b m W w') := hide fun W W0 ra rc hW0 hW h1 => by
  have h := mDropSet_any W base m A L ((HD.out.bel hW0).r.zk hW) (Nat.le_trans (HD.out.bel hW0).bs hW.size) rn ra rl rc (hide hrl.symm) h1 (hide b1) x.t2
  rw [<- hp1, <- hact] at h
  exact h
 unfold recV at hrec
 have HREC := hide hrec
 have hll := HD.out.z.lt
 clear D hs hrec hr1 hb1 hw1 hL' hrn hrt hrcl hrttl hrd b1 b2 b3 b4 b5 b6 hrl hrdl hx hli hact hll hp1 hK
 obtain ⟨n0, n1, n2, n3, n4, n5⟩ := hw
 go_enter Tryz.func13, Tryz.ntmps13
 go_wp2_with (first
  | (go_at_call 49; rw [<- HW1.out]; refine HREC.out.mono ?_; rintro e w2 ⟨ra, rc, ea, ec, rfl, h1, _, h3, _, _, hb2⟩; obtain ⟨w3, hw3⟩ : ∃ w3, w3 = w2.alloc (.cells #[.slice ra rl rc, .int .u16 (rt : Int), .int .u16 (rcl : Int), .int .u32 (rttl : Int), .slice ea rdl ec] 39) := ⟨_, rfl⟩; have hb3 : Below w1.heap.size w1 w3 := (by rw [hw3]; exact hb2.alloc hb2.size _); have hX : RowAt w3 w2.heap.size 39 #[.slice ra rl rc, .int .u16 (rt : Int), .int .u16 (rcl : Int), .int .u32 (rttl : Int), .slice ea rdl ec] := (by rw [hw3]; exact RowAt.new w2 _ _); have hA3 := HR1.out.below hb3 HR1.out.lt; have hss := h1.below (show Below w2.heap.size w2 w3 by rw [hw3]; exact (Below.refl _ w2).alloc (Nat.le_refl _) _) (Nat.le_refl _); have hsl := h3.below (show Below w2.heap.size w2 w3 by rw [hw3]; exact (Below.refl _ w2).alloc (Nat.le_refl _) _) (Nat.le_refl _); have HB12 := hide hb2; have HB3 := hide hb3; have HX3 := hide hX; have HA3 := hide hA3; have HSS := hide hss; have HSL := hide hsl; have HW3 := hide hw3; have a0 : (w2.alloc (.cells #[.slice ra rl rc, .int .u16 (rt : Int), .int .u16 (rcl : Int), .int .u32 (rttl : Int), .slice ea rdl ec] 39)).cell? ⟨w.heap.size, 0, none⟩ = some (.int .i64 _) := (by rw [<- hw3]; exact hA3.cell 0); clear hb2 h1 h3 hb3 hX hA3 hss hsl hw3)
  | fail)
 rw [<- HW3.out]
 have BA : Hid (Below w3.heap.size w3 w3.drew) := hide ((Below.refl _ w3).drew)
 have SAll : Hid (∀ w', Below w3.heap.size w3 w' -> w'.cell? ⟨w2.heap.size, 0, none⟩ = some (.slice ra rl rc) /\ w'.cell? ⟨w.heap.size, 8, none⟩ = some (.int .u16 (x.t2 : Int))) := hide fun W hW => ⟨(HX3.out.below hW HX3.out.lt).cell 0, (HA3.out.below hW HA3.out.lt).cell 8⟩
 have SA := hide (SAll.out _ BA.out)
 have HBD := hide (HB3.out.trans (BA.out.mono HB3.out.size))
 have HXD := hide (HX3.out.below BA.out HX3.out.lt)
 have HAD := hide (HA3.out.below BA.out HA3.out.lt)
 have HSD := hide (HSS.out.below BA.out (Nat.le_refl _))
 have HLD := hide (HSL.out.below BA.out (Nat.le_refl _))
 have hmx : m < w1.heap.size := by
  obtain ⟨_, _, _, _, h, _⟩ := HD.out.r.row
  exact h.lt
 have hm2 : w2.heap.size ≠ m := by have := HB12.out.size; omega
 have hma : w.heap.size ≠ m := by
  obtain ⟨_, _, _, _, h, _⟩ := HD0.out.r.row
  have := h.lt
  omega
 refine wp_region_X (S := fun w' => w'.cell? ⟨w2.heap.size, 0, none⟩ = some (.slice ra rl rc) /\ w'.cell? ⟨w.heap.size, 8, none⟩ = some (.int .u16 (x.t2 : Int))) (jS := 1000) (by kernel_rfl) ?_
 generalize w3.drew = w1d at BA SA HBD HXD HAD HSD HLD ⊢
 refine tk gt0 SA.out ?_
 refine tk gt1 SA.out ?_
 refine tk gt2 SA.out ?_
 refine tk gt3 SA.out ?_
 refine tk gt4 SA.out ?_
 refine tk gt6 SA.out ?_
 refine tk gt7 SA.out ?_
 refine tk gt8 SA.out ?_
 refine tk gt9 SA.out ?_
 refine tk gt10 SA.out ?_
 refine rdy gt5 (fun K hKK => ?_)
 refine step_fng (by rfl) _ _ (by go_simp) (HZP.out w1d ra rc HBD.out HSD.out) (by rintro e w' ⟨rfl, _⟩; exact ⟨_, rfl⟩) ?_
 rintro _ w5 ⟨he, hZ5, hK5⟩
 cases he
 have HX5 := hide (hK5.row HXD.out (by decide) (by decide))
 have HA5 := hide (hK5.row HAD.out (by decide) (by decide))
 have SB : Hid (w5.cell? ⟨w2.heap.size, 0, none⟩ = some (.slice ra rl rc) /\ w5.cell? ⟨w.heap.size, 8, none⟩ = some (.int .u16 (x.t2 : Int))) := hide ⟨HX5.out.cell 0, HA5.out.cell 8⟩
 have HZ5 := hide hZ5
 have HK5 := hide hK5
 refine kk hKK (Or.inr SB.out) ?_
 clear hKK hZ5 hK5 SA
 refine rdy gt11 (fun K hKK => ?_)
 refine step_fng (by rfl) _ _ (by go_simp) (HMP.out w5 w1d ra rc HBD.out HK5.out (HK5.out.ss _ _ HSD.out)) (by rintro e w' ⟨rfl, _⟩; exact ⟨_, rfl⟩) ?_
 rintro _ w6 ⟨he, hR6, hM6⟩
 cases he
 have HX6 := hide (RM.row hM6 HX5.out hm2)
 have HA6 := hide (RM.row hM6 HA5.out hma)
 have SC : Hid (w6.cell? ⟨w2.heap.size, 0, none⟩ = some (.slice ra rl rc) /\ w6.cell? ⟨w.heap.size, 8, none⟩ = some (.int .u16 (x.t2 : Int))) := hide ⟨HX6.out.cell 0, HA6.out.cell 8⟩
 have HR6 := hide hR6
 have HM6 := hide (hM6 base)
 refine kk hKK (Or.inr SC.out) ?_
 clear hKK hR6 hM6 SB
 refine tk gt12 SC.out ?_
 refine tk gt13 SC.out ?_
 refine wpAnyX_done (by kernel_rfl) ?_ _
 go_wp2
 go_ret
 obtain ⟨D6, hB6⟩ := (HD.out.bel HBD.out).step HK5.out HZ5.out HR6.out HM6.out
 exact ⟨by simp, D6, ((HB1.out.trans (HBD.out.mono HB1.out.size)).mono HD0.out.le).trans hB6⟩
theorem does_any (B : Nat) (w : World) (Zb base m : Nat) (A : List (List UInt8)) (L : List Z.R) (K : Nat) (D : Duo B w Zb base m A L K) (hA : Hid (N.Small A)) (x : AcT) (hx : x.Ok) (hli : LightA x) (wh : Int) (hwh : Hid (x.what = wh)) (na : Option Addr) (nl nc : Nat) (da : Option Addr) (dl dc : Nat) (hnl : Hid (nl = x.n.length)) (hdl : Hid (dl = x.d.length)) (hs : AcS w x na nc da dc) (hK : K + 300 <= 1000000) :
 Calls Tryz.prog 13 #[.pointer (some ⟨Zb, 0, none⟩), .pointer (some ⟨m, 0, none⟩), .agg #[.int .i64 wh, .int .u32 (x.k : Int), .bool x.raw, .slice na nl nc, .int .u16 (x.t : Int), .int .u16 (x.cl : Int), .int .u32 (x.ttl : Int), .slice da dl dc, .int .u16 (x.t2 : Int)]] w fun e w' => e = .returned (.bool true) /\ Duo B w' Zb base m A (AcT.act A L x) (K + 300) /\ Below B w w' := by
 by_cases h0 : wh = 0 \/ wh = 1 \/ wh = 2 \/ wh = 3
 ·exact does_put B w Zb base m A L K D hA x hx hli wh hwh na nl nc da dl dc hnl hdl hs hK h0
 ·by_cases h4 : wh = 4 \/ wh = 5
  ·exact does_drop B w Zb base m A L K D hA x hx hli wh hwh na nl nc da dl dc hnl hdl hs hK h4
  ·exact does_set B w Zb base m A L K D hA x hx hli wh hwh na nl nc da dl dc hnl hdl hs hK (by omega)
end Go.Proofs.YtbkegikdmmnkaaaGreat
namespace Go.Proofs.YtbkegikdmmnkaaaGreat
set_option maxRecDepth 5000
open Go.RowKit
set_option maxRecDepth 3000 in
theorem hname_any (n m : List (List UInt8)) (ao bo : Option Addr) (la lb ca cb : Nat) (w : World) (hla : Hid (n.length = la)) (hlb : Hid (m.length = lb)) (hsa : SlS w ao n) (hsb : SlS w bo m) (hma : la <= 9223372036854775807) (hmb : lb <= 9223372036854775807) :
 Calls Tryz.prog 28 #[.slice ao la ca, .slice bo lb cb] w fun e w' => e = .returned (.bool (decide (n = m))) /\ ∃ k, w' = w.drewN k := by
 have HSA := hide hsa
 have HSB := hide hsb
 clear hsa hsb
 by_cases hab : la = lb
 ·subst hab
  go_enter Tryz.func28, Tryz.ntmps28
  go_wp2
  go_loopw [5] (fun i wr => ∃ j : Nat, i = .int .i64 (j : Int) /\ j <= la /\ Hid (n.take j = m.take j) /\ ∃ k, wr = w.drewN k) (fun i _ => la - (intOf i).toNat)
  case atStart => exact ⟨0, rfl, by omega, hide rfl, 0, rfl⟩
  case round =>
   obtain ⟨j, rfl, hj, HE, hm⟩ := hrel
   have HM := hide hm
   clear hm
   by_cases hlt : j < la
   ·obtain ⟨b1, o1, rfl, _, hc1⟩ := HSA.out (by have := hla.out; omega)
    obtain ⟨b2, o2, rfl, _, hc2⟩ := HSB.out (by have := hlb.out; omega)
    have hx1 : wr.cell? ⟨b1, o1 + j, none⟩ = some (.string ⟨(n.getD j []).toArray⟩) := by
     obtain ⟨m, rfl⟩ := HM.out
     exact hc1 j (by have := hla.out; omega)
    have hx2 : wr.cell? ⟨b2, o2 + j, none⟩ = some (.string ⟨(m.getD j []).toArray⟩) := by
     obtain ⟨m, rfl⟩ := HM.out
     exact hc2 j (by have := hlb.out; omega)
    clear hc1 hc2
    obtain ⟨x, hx⟩ : ∃ x, x = n.getD j [] := ⟨_, rfl⟩
    obtain ⟨y, hy⟩ : ∃ y, y = m.getD j [] := ⟨_, rfl⟩
    rw [<- hx] at hx1
    rw [<- hy] at hx2
    have HX := hide hx
    have HY := hide hy
    clear hx hy
    have hj1 : (j : Int) < (la : Int) := by omega
    by_cases hq : x = y
    ·have HQ := hide hq
     subst hq
     go_wp2
     go_quiet (fail)
     go_wp2
     go_roundw
     case rel =>
      refine ⟨j + 1, by go_num, by omega, hide ?_, drew_more _ HM.out⟩
      have h1 : j < n.length := by have := hla.out; omega
      have h2 : j < m.length := by have := hlb.out; omega
      have e1 := HX.out
      have e2 := HY.out
      rw [List.getD_eq_getElem?_getD, List.getElem?_eq_getElem h1] at e1
      rw [List.getD_eq_getElem?_getD, List.getElem?_eq_getElem h2] at e2
      rw [List.take_succ_eq_append_getElem h1, List.take_succ_eq_append_getElem h2, HE.out]
      have e3 : n[j] = m[j] := e1.symm.trans e2
      rw [e3]
     case measure => simp [intOf]; omega
    ·have hq1 : (x == y) = false := by simp [hq]
     have hq2 : decide (x = y) = false := by simp [hq]
     have hres : decide (n = m) = false := by
      refine decide_eq_false fun e => hq ?_
      rw [HX.out, HY.out, e]
     go_wp2
     go_quiet (fail)
     go_wp2
     go_ret
     exact ⟨by rw [hres]; rfl, drew_more _ HM.out⟩
   ·obtain rfl : j = la := by omega
    have hres : decide (n = m) = true := by
     have h := HE.out
     rw [List.take_of_length_le (by have := hla.out; omega), List.take_of_length_le (by have := hlb.out; omega)] at h
     exact decide_eq_true h
    go_wp2
    go_ret
    exact ⟨by rw [hres]; rfl, HM.out⟩
 ·have hres : decide (n = m) = false := by
   refine decide_eq_false fun e => hab ?_
   rw [<- hla.out, <- hlb.out, e]
  have hab1 : ¬ ((la : Int) = (lb : Int)) := by omega
  go_enter Tryz.func28, Tryz.ntmps28
  go_wp2
  go_ret
  exact ⟨by rw [hres]; rfl, 0, rfl⟩
set_option maxRecDepth 20000 in
set_option maxHeartbeats 1000000 in
theorem hrecord_same (n : List (List UInt8)) (d : List UInt8) (a1 a2 b1 b2 : Option Addr) (l c1 c2 dl e1 e2 t s : Nat) (w : World) (hl : Hid (n.length = l)) (hs1 : SlS w a1 n) (hs2 : SlS w a2 n) (hm : l <= 9223372036854775807) (hdl : Hid (d.length = dl)) (hb1 : SlL w b1 d) (hb2 : SlL w b2 d) :
 Calls Tryz.prog 54 #[.agg #[.slice a1 l c1, .int .u16 (t : Int), .int .u16 1, .int .u32 (s : Int), .slice b1 dl e1], .agg #[.slice a2 l c2, .int .u16 (t : Int), .int .u16 1, .int .u32 (s : Int), .slice b2 dl e2]] w fun e w' => e = .returned (.bool true) /\ Below w.heap.size w w' := by
 obtain ⟨wB, hwB⟩ : ∃ wB, wB = (w.alloc (.cells #[.slice a1 l c1, .int .u16 (t : Int), .int .u16 1, .int .u32 (s : Int), .slice b1 dl e1] 39)).alloc (.cells #[.slice a2 l c2, .int .u16 (t : Int), .int .u16 1, .int .u32 (s : Int), .slice b2 dl e2] 39) := ⟨_, rfl⟩
 have hr1 : RowAt wB w.heap.size 39 #[.slice a1 l c1, .int .u16 (t : Int), .int .u16 1, .int .u32 (s : Int), .slice b1 dl e1] := by rw [hwB]; exact (RowAt.new w _ _).alloc _
 have hr2 : RowAt wB (w.heap.size + 1) 39 #[.slice a2 l c2, .int .u16 (t : Int), .int .u16 1, .int .u32 (s : Int), .slice b2 dl e2] := by
  rw [hwB]
  have := RowAt.new (w.alloc (.cells #[.slice a1 l c1, .int .u16 (t : Int), .int .u16 1, .int .u32 (s : Int), .slice b1 dl e1] 39)) 39 #[.slice a2 l c2, .int .u16 (t : Int), .int .u16 1, .int .u32 (s : Int), .slice b2 dl e2]
  rw [World.size_alloc] at this
  exact this
 have hb : Below w.heap.size w wB := by rw [hwB]; exact ((Below.refl _ w).alloc (Nat.le_refl _) _).alloc (by simp) _
 have hnm := hname_any n n a1 a2 l l c1 c2 wB hl hl (hs1.below hb (Nat.le_refl _)) (hs2.below hb (Nat.le_refl _)) hm hm
 rw [decide_eq_true (rfl : n = n)] at hnm
 have HR1 := hide hr1
 have HR2 := hide hr2
 have HB := hide hb
 have HW := hide hwB
 have HB1 := hide (hb1.below hb (Nat.le_refl _))
 have HB2 := hide (hb2.below hb (Nat.le_refl _))
 clear hr1 hr2 hb hwB hb1 hb2 hs1 hs2
 have z1 : wB.cell? ⟨w.heap.size, 0, none⟩ = some (.slice a1 l c1) := HR1.out.cell 0
 have z2 : wB.cell? ⟨w.heap.size + 1, 0, none⟩ = some (.slice a2 l c2) := HR2.out.cell 0
 go_enter Tryz.func54, Tryz.ntmps54
 go_wp2_with (first
  | (go_at_call 28; rw [<- HW.out]; refine hnm.mono ?_; rintro e w1 ⟨rfl, hk⟩; have HBW : Hid (Below w.heap.size w w1) := (by obtain ⟨q, rfl⟩ := hk; exact hide (below_drewN HB.out q)); have hbq : Below wB.heap.size wB w1 := (by obtain ⟨q, rfl⟩ := hk; exact below_drewN (Below.refl _ wB) q); have x1 : w1.cell? ⟨w.heap.size, 1, none⟩ = some (.int .u16 (t : Int)) := (HR1.out.below hbq HR1.out.lt).cell 1; have x2 : w1.cell? ⟨w.heap.size, 2, none⟩ = some (.int .u16 1) := (HR1.out.below hbq HR1.out.lt).cell 2; have x3 : w1.cell? ⟨w.heap.size, 3, none⟩ = some (.int .u32 (s : Int)) := (HR1.out.below hbq HR1.out.lt).cell 3; have x4 : w1.cell? ⟨w.heap.size, 4, none⟩ = some (.slice b1 dl e1) := (HR1.out.below hbq HR1.out.lt).cell 4; have y1 : w1.cell? ⟨w.heap.size + 1, 1, none⟩ = some (.int .u16 (t : Int)) := (HR2.out.below hbq HR2.out.lt).cell 1; have y2 : w1.cell? ⟨w.heap.size + 1, 2, none⟩ = some (.int .u16 1) := (HR2.out.below hbq HR2.out.lt).cell 2; have y3 : w1.cell? ⟨w.heap.size + 1, 3, none⟩ = some (.int .u32 (s : Int)) := (HR2.out.below hbq HR2.out.lt).cell 3; have y4 : w1.cell? ⟨w.heap.size + 1, 4, none⟩ = some (.slice b2 dl e2) := (HR2.out.below hbq HR2.out.lt).cell 4; have HBY := hide (bytes_same d b1 b2 dl dl e1 e2 w1 (HB1.out.below hbq (Nat.le_refl _)) (HB2.out.below hbq (Nat.le_refl _)) hdl hdl); clear hk hbq)
  | (go_at_call 95; refine HBY.out.mono ?_; rintro e w2 ⟨rfl, rfl⟩)
  | fail)
 go_ret
 exact ⟨rfl, HBW.out⟩
set_option maxRecDepth 20000 in
set_option maxHeartbeats 1500000 in
theorem hrecords_same (L : List Z.R) (a b : Option Addr) (k c1 c2 base1 base2 : Nat) (w : World) (hk : Hid (k = L.length)) (h1 : RL w base1 a c1 L) (h2 : RL w base2 b c2 L) (hkb : k <= 100000) (hsm : Hid (∀ x ∈ L, x.p.length <= 128)) :
 Calls Tryz.prog 15 #[.slice a k c1, .slice b k c2] w fun e w' => e = .returned (.bool true) /\ Below w.heap.size w w' := by
 have H1 := hide h1
 have H2 := hide h2
 clear h1 h2
 go_enter Tryz.func15, Tryz.ntmps15
 go_wp2
 go_loopw [5] (fun i wr => ∃ j : Nat, i = .int .i64 (j : Int) /\ j <= k /\ Below w.heap.size w wr) (fun i _ => k - (intOf i).toNat)
 case atStart => exact ⟨0, rfl, by omega, Below.refl _ _⟩
 case round =>
  obtain ⟨j, rfl, hj, hB⟩ := hrel
  have HB := hide hB
  clear hB
  by_cases hlt : j < k
  ·have hjL : j < L.length := by have := hk.out; omega
   obtain ⟨x, hx⟩ : ∃ x, L[j]? = some x := ⟨_, List.getElem?_eq_getElem hjL⟩
   have hxl := hsm.out x (List.mem_of_getElem? hx)
   have r1 := H1.out.bel HB.out
   have r2 := H2.out.bel HB.out
   obtain ⟨g, na, nc, da, dc, rfl, q0, q1, q2, q3, q4, hT, _, _, hTd, _, _⟩ := r1.at_ hx
   obtain ⟨gb, nb, nd, db, dd, rfl, p0, p1, p2, p3, p4, hU, _, _, hUd, _, _⟩ := r2.at_ hx
   have hg1 := RL.blk r1 (by omega)
   have hg2 := RL.blk r2 (by omega)
   have hrec : ∀ W, Below wr.heap.size wr W -> Calls Tryz.prog 54 #[.agg #[.slice na x.p.length nc, .int .u16 (x.t : Int), .int .u16 1, .int .u32 (x.ttl : Int), .slice da x.d.length dc], .agg #[.slice nb x.p.length nd, .int .u16 (x.t : Int), .int .u16 1, .int .u32 (x.ttl : Int), .slice db x.d.length dd]] W fun e w' => e = .returned (.bool true) /\ Below W.heap.size W w' := fun W hW => hrecord_same x.p.reverse x.d na nb da db x.p.length nc nd x.d.length dc dd x.t x.ttl W (hide (List.length_reverse)) (hT.1.below hW (Nat.le_refl _)) (hU.1.below hW (Nat.le_refl _)) (by omega) (hide rfl) (hTd.1.below hW (Nat.le_refl _)) (hUd.1.below hW (Nat.le_refl _))
   obtain ⟨pl, hpl⟩ : ∃ pl, pl = x.p.length := ⟨_, rfl⟩
   obtain ⟨dl, hdl⟩ : ∃ dl, dl = x.d.length := ⟨_, rfl⟩
   obtain ⟨xt, hxt⟩ : ∃ xt, xt = x.t := ⟨_, rfl⟩
   obtain ⟨xl, hxl2⟩ : ∃ xl, xl = x.ttl := ⟨_, rfl⟩
   rw [<- hpl] at q0 p0 hrec
   rw [<- hdl] at q4 p4 hrec
   rw [<- hxt] at q1 p1 hrec
   rw [<- hxl2] at q3 p3 hrec
   have HREC := hide hrec
   have SAll : Hid (∀ w', Below wr.heap.size wr w' -> w'.cell? ⟨g, j * 5, none⟩ = some (.slice na pl nc) /\ w'.cell? ⟨g, j * 5 + 1, none⟩ = some (.int .u16 (xt : Int)) /\ w'.cell? ⟨g, j * 5 + 2, none⟩ = some (.int .u16 1) /\ w'.cell? ⟨g, j * 5 + 3, none⟩ = some (.int .u32 (xl : Int)) /\ w'.cell? ⟨g, j * 5 + 4, none⟩ = some (.slice da dl dc) /\ w'.cell? ⟨gb, j * 5, none⟩ = some (.slice nb pl nd) /\ w'.cell? ⟨gb, j * 5 + 1, none⟩ = some (.int .u16 (xt : Int)) /\ w'.cell? ⟨gb, j * 5 + 2, none⟩ = some (.int .u16 1) /\ w'.cell? ⟨gb, j * 5 + 3, none⟩ = some (.int .u32 (xl : Int)) /\ w'.cell? ⟨gb, j * 5 + 4, none⟩ = some (.slice db dl dd)) := hide fun W hW => ⟨cell_bm hW q0 hg1, cell_bm hW q1 hg1, cell_bm hW q2 hg1, cell_bm hW q3 hg1, cell_bm hW q4 hg1, cell_bm hW p0 hg2, cell_bm hW p1 hg2, cell_bm hW p2 hg2, cell_bm hW p3 hg2, cell_bm hW p4 hg2⟩
   have hjk : (j : Int) < (k : Int) := by omega
   clear hx hxl r1 r2 q0 q1 q2 q3 q4 p0 p1 p2 p3 p4 hT hTd hU hUd hg1 hg2 hrec hpl hdl hxt hxl2
   go_wp2
   refine wp_region_X (S := fun w' => w'.cell? ⟨g, j * 5, none⟩ = some (.slice na pl nc) /\ w'.cell? ⟨g, j * 5 + 1, none⟩ = some (.int .u16 (xt : Int)) /\ w'.cell? ⟨g, j * 5 + 2, none⟩ = some (.int .u16 1) /\ w'.cell? ⟨g, j * 5 + 3, none⟩ = some (.int .u32 (xl : Int)) /\ w'.cell? ⟨g, j * 5 + 4, none⟩ = some (.slice da dl dc) /\ w'.cell? ⟨gb, j * 5, none⟩ = some (.slice nb pl nd) /\ w'.cell? ⟨gb, j * 5 + 1, none⟩ = some (.int .u16 (xt : Int)) /\ w'.cell? ⟨gb, j * 5 + 2, none⟩ = some (.int .u16 1) /\ w'.cell? ⟨gb, j * 5 + 3, none⟩ = some (.int .u32 (xl : Int)) /\ w'.cell? ⟨gb, j * 5 + 4, none⟩ = some (.slice db dl dd)) (jS := 1000) (by kernel_rfl) ?_
   have BA : Hid (Below wr.heap.size wr wr.drew) := hide ((Below.refl _ wr).drew)
   have SA := hide (SAll.out _ BA.out)
   generalize wr.drew = w1d at BA SA ⊢
   refine tk gt0 SA.out ?_
   refine tk gt1 SA.out ?_
   refine tk gt2 SA.out ?_
   refine tk gt3 SA.out ?_
   refine tk gt4 SA.out ?_
   refine tk gt5 SA.out ?_
   refine tk gt6 SA.out ?_
   refine tk gt7 SA.out ?_
   refine rdy gt8 (fun K hKK => ?_)
   refine step_fng (by rfl) _ _ (by go_simp) (HREC.out _ BA.out) (by rintro e w' ⟨rfl, _⟩; exact ⟨_, rfl⟩) ?_
   rintro _ w2 ⟨he, hb2⟩
   cases he
   have B2 := hide (BA.out.trans (hb2.mono BA.out.size))
   have SB := hide (SAll.out _ B2.out)
   refine kk hKK (Or.inr SB.out) ?_
   clear hKK hb2 SA BA
   refine tk gt9 SB.out ?_
   refine wpAnyX_done (by kernel_rfl) ?_ _
   go_wp2
   go_roundw
   case rel => exact ⟨j + 1, by go_num, by omega, HB.out.trans (B2.out.mono HB.out.size)⟩
   case measure => simp [intOf]; omega
  ·obtain rfl : j = k := by omega
   go_wp2
   go_ret
   exact ⟨rfl, HB.out⟩
def SlM (w : World) (ao : Option Addr) (L : List (List (List UInt8))) : Prop := 0 < L.length -> ∃ b o, ao = some ⟨b, o, none⟩ /\ b < w.heap.size /\ ∀ j, j < L.length -> ∃ a c, w.cell? ⟨b, o + j, none⟩ = some (.slice a (L.getD j []).length c) /\ SlS w a (L.getD j [])
set_option maxRecDepth 5000 in
theorem drew_two (w : World) (a b : Nat) : (w.drewN a).drewN b = w.drewN (a + b) := by
 show ({ w with drawn := w.drawn + a + b } : World) = { w with drawn := w.drawn + (a + b) }
 rw [Nat.add_assoc]
set_option maxRecDepth 3000 in
theorem hnames_any (L M : List (List (List UInt8))) (ao bo : Option Addr) (la lb ca cb : Nat) (w : World) (hla : Hid (L.length = la)) (hlb : Hid (M.length = lb)) (hsa : SlM w ao L) (hsb : SlM w bo M) (hma : la <= 9223372036854775807) (hmb : lb <= 9223372036854775807) (hna : Hid (∀ n ∈ L, n.length <= 9223372036854775807)) (hnb : Hid (∀ n ∈ M, n.length <= 9223372036854775807)) :
 Calls Tryz.prog 17 #[.slice ao la ca, .slice bo lb cb] w fun e w' => e = .returned (.bool (decide (L = M))) /\ ∃ k, w' = w.drewN k := by
 have HSA := hide hsa
 have HSB := hide hsb
 clear hsa hsb
 by_cases hab : la = lb
 ·subst hab
  go_enter Tryz.func17, Tryz.ntmps17
  go_wp2
  go_loopw [5] (fun i wr => ∃ j : Nat, i = .int .i64 (j : Int) /\ j <= la /\ Hid (L.take j = M.take j) /\ ∃ k, wr = w.drewN k) (fun i _ => la - (intOf i).toNat)
  case atStart => exact ⟨0, rfl, by omega, hide rfl, 0, rfl⟩
  case round =>
   obtain ⟨j, rfl, hj, HE, hm⟩ := hrel
   have HM := hide hm
   clear hm
   by_cases hlt : j < la
   ·obtain ⟨b1, o1, rfl, _, hc1⟩ := HSA.out (by have := hla.out; omega)
    obtain ⟨b2, o2, rfl, _, hc2⟩ := HSB.out (by have := hlb.out; omega)
    obtain ⟨a1, c1, hd1, hs1⟩ := hc1 j (by have := hla.out; omega)
    obtain ⟨a2, c2, hd2, hs2⟩ := hc2 j (by have := hlb.out; omega)
    have h1 : j < L.length := by have := hla.out; omega
    have h2 : j < M.length := by have := hlb.out; omega
    have e1 : L.getD j [] = L[j] := by rw [List.getD_eq_getElem?_getD, List.getElem?_eq_getElem h1]; rfl
    have e2 : M.getD j [] = M[j] := by rw [List.getD_eq_getElem?_getD, List.getElem?_eq_getElem h2]; rfl
    have hm1 : (L.getD j []).length <= 9223372036854775807 := by rw [e1]; exact hna.out _ (List.getElem_mem _)
    have hm2 : (M.getD j []).length <= 9223372036854775807 := by rw [e2]; exact hnb.out _ (List.getElem_mem _)
    have hstep : L[j] = M[j] -> L.take (j + 1) = M.take (j + 1) := fun e => by
     rw [List.take_succ_eq_append_getElem h1, List.take_succ_eq_append_getElem h2, HE.out, e]
    rw [<- e1, <- e2] at hstep
    clear hc1 hc2 e1 e2 h1 h2
    obtain ⟨x, hx⟩ : ∃ x, x = L.getD j [] := ⟨_, rfl⟩
    obtain ⟨y, hy⟩ : ∃ y, y = M.getD j [] := ⟨_, rfl⟩
    rw [<- hx] at hd1 hs1 hm1 hstep
    rw [<- hy] at hd2 hs2 hm2 hstep
    have HSTEP := hide hstep
    have HX := hide hx
    have HY := hide hy
    clear hx hy hstep
    obtain ⟨nx, hnx⟩ : ∃ nx, nx = x.length := ⟨_, rfl⟩
    obtain ⟨ny, hny⟩ : ∃ ny, ny = y.length := ⟨_, rfl⟩
    rw [<- hnx] at hd1 hm1
    rw [<- hny] at hd2 hm2
    have HNX : Hid (x.length = nx) := hide hnx.symm
    have HNY : Hid (y.length = ny) := hide hny.symm
    clear hnx hny
    have f1 : wr.cell? ⟨b1, o1 + j, none⟩ = some (.slice a1 nx c1) := by obtain ⟨m, rfl⟩ := HM.out; exact hd1
    have f2 : wr.cell? ⟨b2, o2 + j, none⟩ = some (.slice a2 ny c2) := by obtain ⟨m, rfl⟩ := HM.out; exact hd2
    have HS1 : Hid (SlS wr a1 x) := by obtain ⟨m, rfl⟩ := HM.out; exact hide hs1
    have HS2 : Hid (SlS wr a2 y) := by obtain ⟨m, rfl⟩ := HM.out; exact hide hs2
    clear hd1 hd2 hs1 hs2
    have hj1 : (j : Int) < (la : Int) := by omega
    obtain ⟨r, hr⟩ : ∃ r, r = decide (x = y) := ⟨_, rfl⟩
    have HR := hide hr
    clear hr
    go_wp2
    go_cut [26] from 27 (fun s26 wc => s26 = .bool (!r) /\ ∃ k, wc = wr.drewN k)
    case first =>
     go_region_held3 (fun w' => w'.cell? ⟨b1, o1 + j, none⟩ = some (.slice a1 nx c1) /\ w'.cell? ⟨b2, o2 + j, none⟩ = some (.slice a2 ny c2)) (exact ⟨f1, f2⟩) ((go_at_call 28; refine (hname_any x y a1 a2 nx ny c1 c2 _ HNX HNY (by exact HS1.out) (by exact HS2.out) hm1 hm2).mono ?_; rintro e wq ⟨he, k, rfl⟩; rw [<- HR.out] at he; subst he))
     all_goals go_wp2_with fail
     all_goals go_meet
     all_goals exact ⟨rfl, _, rfl⟩
    case rest =>
     obtain ⟨rfl, hk⟩ := hcut
     have HK := hide hk
     clear hk
     have HM2 : Hid (∃ k, wc = w.drewN k) := by
      obtain ⟨m, rfl⟩ := HM.out
      obtain ⟨k, rfl⟩ := HK.out
      exact hide ⟨_, drew_two _ _ _⟩
     cases r with
     | true =>
      go_wp2
      go_roundw
      case rel => exact ⟨j + 1, by go_num, by omega, hide (HSTEP.out (of_decide_eq_true HR.out.symm)), HM2.out⟩
      case measure => simp [intOf]; omega
     | false =>
      have hres : decide (L = M) = false := by
       refine decide_eq_false fun e => of_decide_eq_false HR.out.symm ?_
       rw [HX.out, HY.out, e]
      go_wp2
      go_ret
      exact ⟨by rw [hres]; rfl, HM2.out⟩
   ·obtain rfl : j = la := by omega
    have hres : decide (L = M) = true := by
     have h := HE.out
     rw [List.take_of_length_le (by have := hla.out; omega), List.take_of_length_le (by have := hlb.out; omega)] at h
     exact decide_eq_true h
    go_wp2
    go_ret
    exact ⟨by rw [hres]; rfl, HM.out⟩
 ·have hres : decide (L = M) = false := by
   refine decide_eq_false fun e => hab ?_
   rw [<- hla.out, <- hlb.out, e]
  have hab1 : ¬ ((la : Int) = (lb : Int)) := by omega
  go_enter Tryz.func17, Tryz.ntmps17
  go_wp2
  go_ret
  exact ⟨by rw [hres]; rfl, 0, rfl⟩
end Go.Proofs.YtbkegikdmmnkaaaGreat
namespace Go.Proofs.YtbkegikdmmnkaaaGreat
set_option maxRecDepth 5000
open Go.RowKit
theorem bel_al (w : World) (o : Obj) : Below w.heap.size w (w.alloc o) := (Below.refl _ w).alloc (Nat.le_refl _) o
theorem paths_snoc (L : List Z.R) (j : Nat) (x : Z.R) (hx : L[j]? = some x) : Z.paths (L.take (j + 1)) = Z.dd1 (Z.paths (L.take j)) x.p := by
 unfold Z.paths
 rw [List.take_add_one, hx, List.map_append, List.foldl_append]
 rfl
theorem slM_en {w : World} {base : Nat} {a : Option Addr} {n c : Nat} {M : List (List (List UInt8))} (h : OwnL 28 1 EN w base (.slice a n c) M) : SlM w a M := fun hn => by
 obtain ⟨g, rfl, h1, h2, _, hc⟩ := h.get hn
 refine ⟨g, 0, rfl, h2, fun j hj => ?_⟩
 have e : M.getD j [] = M[j] := by rw [List.getD_eq_getElem?_getD, List.getElem?_eq_getElem hj]; rfl
 obtain ⟨us, hu, ⟨a', c', hE, hT, _⟩, ht⟩ := hc j M[j] (List.getElem?_eq_getElem hj)
 rw [e]
 refine ⟨a', c', ?_, hT.1⟩
 have := ht 0 (by omega)
 rw [hE] at this
 rw [Nat.zero_add]
 simpa using this
set_option maxRecDepth 20000 in
set_option maxHeartbeats 1500000 in
theorem mNames_any (w : World) (base m : Nat) (A : List (List UInt8)) (L : List Z.R) (hR : RZAt w base m A L) :
 Calls Tryz.prog 19 #[.pointer (some ⟨m, 0, none⟩)] w fun e w' => ∃ v, e = .returned v /\ OwnL 28 1 EN w' w.heap.size v ((Z.paths L).map List.reverse) /\ Below w.heap.size w w' := by
 obtain ⟨aa, ac, a, c, hrow, _, _, hRL⟩ := hR.row
 obtain ⟨k, hk⟩ : ∃ k, k = L.length := ⟨_, rfl⟩
 rw [<- hk] at hrow
 have hkb : k <= 2000 := by rw [hk]; exact hR.num
 have HR := hide hR
 have HRL := hide hRL
 have HROW := hide hrow
 have HK := hide hk
 clear hR hRL hrow hk
 go_enter Tryz.func19, Tryz.ntmps19
 go_wp2
 go_loopw [3, 4] (fun v i wr => ∃ j : Nat, i = .int .i64 (j : Int) /\ j <= k /\ Below w.heap.size w wr /\ OwnL 28 1 EN wr w.heap.size v ((Z.paths (L.take j)).map List.reverse)) (fun _ i _ => k - (intOf i).toNat)
 case atStart => exact ⟨0, rfl, by omega, Below.refl _ _, by simpa [Z.paths] using OwnL.nil 28 1 EN w w.heap.size⟩
 case round =>
  obtain ⟨j, rfl, hj, hB, hO⟩ := hrel
  have hrr := HROW.out.below hB HROW.out.lt
  have y1 : wr.cell? ⟨m, 1, none⟩ = some (.slice a k c) := hrr.cell 1
  have HB := hide hB
  have HO := hide hO
  have HRR := hide hrr
  clear hB hO
  by_cases hlt : j < k
  ·have hjL : j < L.length := by have := HK.out; omega
   obtain ⟨x, hx⟩ : ∃ x, L[j]? = some x := ⟨_, List.getElem?_eq_getElem hjL⟩
   have hxL : x ∈ L := List.mem_of_getElem? hx
   have hrl0 := HRL.out.bel HB.out
   obtain ⟨g, na, nc, da, dc, rfl, q0, _, _, _, _, hT, hnc, hnn, _, _, _⟩ := hrl0.at_ hx
   have hgl := RL.blk hrl0 (by omega)
   have hsn := paths_snoc L j x hx
   obtain ⟨M, hM⟩ : ∃ M, M = Z.paths (L.take j) := ⟨_, rfl⟩
   rw [<- hM] at hsn HO
   have hMl : M.length <= 2000 := by
    rw [hM]
    have := Z.paths_len (L.take j)
    rw [List.length_take] at this
    omega
   have hMx : ∀ p ∈ M, ∃ y ∈ L, y.p = p := fun p hp => by
    rw [hM] at hp
    obtain ⟨y, hy, e⟩ := ((Z.paths_rise (HR.out.rise.sublist (List.take_sublist j L)) (fun z hz => HR.out.lows z (List.mem_of_mem_take hz))).2 p).1 hp
    exact ⟨y, List.mem_of_mem_take hy, e⟩
   obtain ⟨av, cv, hv, hvn, hvc⟩ := HO.out.slice
   rw [List.length_map] at hv hvc
   obtain ⟨q, hq⟩ : ∃ q, q = M.length := ⟨_, rfl⟩
   rw [<- hq] at hv hvc
   subst hv
   obtain ⟨pl, hpl⟩ : ∃ pl, pl = x.p.length := ⟨_, rfl⟩
   rw [<- hpl] at q0 hnc
   have HT := hide hT
   have HPL := hide hpl
   have HNC := hide hnc
   have HNN := hide hnn
   have HQ := hide hq
   have HSN := hide hsn
   have HML := hide hMl
   obtain ⟨hb, hhb⟩ : ∃ hb : Bool, hb = !decide (M.getLast? = some x.p) := ⟨_, rfl⟩
   have hdd : Z.dd1 M x.p = if hb = true then M ++ [x.p] else M := by
    unfold Z.dd1
    rw [hhb]
    by_cases h : M.getLast? = some x.p
    ·rw [if_pos h, if_neg (by simp [h])]
    ·rw [if_neg h, if_pos (by simp [h])]
   have HDD := hide hdd
   have hjk : (j : Int) < (k : Int) := by omega
   clear hq hpl hnc hnn hT
   go_wp2
   go_cut [34] from 47 (fun s34 wc => s34 = .bool hb /\ Below wr.heap.size wr wc)
   case first =>
    by_cases hM0 : M = []
    ·have hbt : hb = true := by rw [hhb, hM0]; rfl
     have hq0 : q = 0 := by rw [HQ.out, hM0]; rfl
     subst hbt
     subst hq0
     clear hhb hdd hsn hMx hM hxL hrl0
     refine wp_region_X (S := fun w' => w'.cell? ⟨m, 1, none⟩ = some (.slice (some ⟨g, 0, none⟩) k c)) (jS := 1000) (by kernel_rfl) ?_
     have BA : Hid (Below wr.heap.size wr wr.drew) := hide ((Below.refl _ wr).drew)
     have SA : Hid (wr.drew.cell? ⟨m, 1, none⟩ = some (.slice (some ⟨g, 0, none⟩) k c)) := hide (hrr.cell 1)
     generalize wr.drew = w1d at BA SA ⊢
     refine tk gt0 SA.out ?_
     refine tk gt1 SA.out ?_
     refine tk gt2 SA.out ?_
     refine tk gt3 SA.out ?_
     refine tu gt4 SA.out ?_
     refine tu gt5 SA.out ?_
     refine tu gt6 SA.out ?_
     refine tu gt7 SA.out ?_
     refine tu gt8 SA.out ?_
     refine tu gt9 SA.out ?_
     refine tu gt10 SA.out ?_
     refine tu gt11 SA.out ?_
     refine tu gt12 SA.out ?_
     refine tu gt13 SA.out ?_
     refine tu gt14 SA.out ?_
     refine tu gt15 SA.out ?_
     refine tu gt16 SA.out ?_
     refine tu gt17 SA.out ?_
     refine tu gt18 SA.out ?_
     refine tu gt19 SA.out ?_
     refine tk gt20 SA.out ?_
     refine wpAnyX_done (by kernel_rfl) ?_ _
     go_wp2_with fail
     go_meet
     exact ⟨rfl, BA.out⟩
    ·obtain ⟨q1, hq1⟩ : ∃ q1, q = q1 + 1 := ⟨q - 1, by have := List.length_pos_iff.2 hM0; have := HQ.out; omega⟩
     have hwq : IntKind.i64.wrap ((q : Int) - 1) = (q1 : Int) := by have := HQ.out; rw [IntKind.wrap_i64]; omega
     have hq1m : q1 < M.length := by have := HQ.out; omega
     obtain ⟨p, hp⟩ : ∃ p, M[q1]? = some p := ⟨_, List.getElem?_eq_getElem hq1m⟩
     have hlast : M.getLast? = some p := by
      rw [List.getLast?_eq_getElem?]
      rw [show M.length - 1 = q1 by have := HQ.out; omega]; exact hp
     obtain ⟨y, hyL, hyp⟩ := hMx p (List.mem_of_getElem? hp)
     obtain ⟨gl, rfl, _, hgl2, _, hgc⟩ := HO.out.get (by rw [List.length_map]; omega)
     obtain ⟨us, _, ⟨la, lc, rfl, hTl, _, hlc2⟩, hus⟩ := hgc q1 p.reverse (by rw [List.getElem?_map, hp]; rfl)
     have hlc : wr.cell? ⟨gl, q1, none⟩ = some (.slice la p.reverse.length lc) := by
      have := hus 0 (by omega)
      rw [Nat.mul_one, Nat.add_zero] at this
      exact this
     have hlow : Z.Low p := by rw [<- hyp]; exact HR.out.lows y hyL
     have hsmp : N.Small p.reverse := by rw [<- hyp]; exact HR.out.small hyL
     have hpl8 : p.reverse.length <= 128 := by rw [<- hyp, List.length_reverse]; exact (HR.out.okk y hyL).2.2.2.2
     have hsame : ∀ W, Below wr.heap.size wr W -> Calls Tryz.prog 57 #[.slice la p.reverse.length lc, .slice na pl nc] W fun e w' => e = .returned (.bool (N.same p.reverse x.p.reverse)) /\ Below W.heap.size W w' := fun W hW => rSame_any p.reverse x.p.reverse la na p.reverse.length pl lc nc W (hide rfl) (hide (by rw [List.length_reverse]; exact HPL.out.symm)) (hTl.1.below hW (Nat.le_refl _)) (HT.out.1.below hW (Nat.le_refl _)) (by omega) (Sane.small hsmp) (Sane.small (HR.out.small hxL))
     rw [same_path hlow, path_rev (HR.out.lows x hxL)] at hsame
     obtain ⟨ll, hll⟩ : ∃ ll, ll = p.reverse.length := ⟨_, rfl⟩
     rw [<- hll] at hlc hsame
     have hbe : hb = !decide (p = x.p) := by rw [hhb, hlast]; simp
     obtain ⟨sb, hsb⟩ : ∃ sb, sb = decide (p = x.p) := ⟨_, rfl⟩
     rw [<- hsb] at hsame hbe
     subst hbe
     have HSAME := hide hsame
     have hq1i : (q1 : Int) < (q : Int) := by omega
     have hq0 : ¬ ((q : Int) = 0) := by omega
     have hqb : ((q : Int) == 0) = false := by simp; omega
     have hqn : ¬ (q = 0) := by omega
     have HQ1 := hide hq1
     clear hhb hdd hsn hMx hM hxL hrl0 hsame hsb hll hlow hsmp hTl hgc hus hlast hp hyL hyp hq1m hpl8 hM0 hq1
     refine wp_region_X (S := fun w' => w'.cell? ⟨m, 1, none⟩ = some (.slice (some ⟨g, 0, none⟩) k c) /\ w'.cell? ⟨gl, q1, none⟩ = some (.slice la ll lc) /\ w'.cell? ⟨g, j * 5, none⟩ = some (.slice na pl nc)) (jS := 1000) (by kernel_rfl) ?_
     have BA : Hid (Below wr.heap.size wr wr.drew) := hide ((Below.refl _ wr).drew)
     have SAll : Hid (∀ w', Below wr.heap.size wr w' -> w'.cell? ⟨m, 1, none⟩ = some (.slice (some ⟨g, 0, none⟩) k c) /\ w'.cell? ⟨gl, q1, none⟩ = some (.slice la ll lc) /\ w'.cell? ⟨g, j * 5, none⟩ = some (.slice na pl nc)) := hide fun W hW => ⟨(HRR.out.below hW HRR.out.lt).cell 1, cell_bm hW hlc hgl2, cell_bm hW q0 hgl⟩
     have SA := hide (SAll.out _ BA.out)
     generalize wr.drew = w1d at BA SA ⊢
     refine tk gt0 SA.out ?_
     refine tk gt1 SA.out ?_
     refine tk gt2 SA.out ?_
     refine tk gt3 SA.out ?_
     refine tk gt4 SA.out ?_
     refine tk gt5 SA.out ?_
     refine tk gt6 SA.out ?_
     refine tk gt7 SA.out ?_
     refine tk gt8 SA.out ?_
     refine tk gt9 SA.out ?_
     refine tk gt10 SA.out ?_
     refine tk gt11 SA.out ?_
     refine tk gt12 SA.out ?_
     refine tk gt13 SA.out ?_
     refine tk gt14 SA.out ?_
     refine tk gt15 SA.out ?_
     refine tk gt16 SA.out ?_
     refine tk gt17 SA.out ?_
     refine rdy gt18 (fun K hKK => ?_)
     refine step_fng (by rfl) _ _ (by go_simp) (HSAME.out _ BA.out) (by rintro e w' ⟨rfl, _⟩; exact ⟨_, rfl⟩) ?_
     rintro _ w2 ⟨he, hb2⟩
     cases he
     have B2 := hide (BA.out.trans (hb2.mono BA.out.size))
     have SB := hide (SAll.out _ B2.out)
     refine kk hKK (Or.inr SB.out) ?_
     clear hKK hb2 SA BA
     refine tk gt19 SB.out ?_
     refine tk gt20 SB.out ?_
     refine wpAnyX_done (by kernel_rfl) ?_ _
     go_wp2_with fail
     go_meet
     exact ⟨rfl, B2.out⟩
   case rest =>
    obtain ⟨rfl, hbc⟩ := hcut
    have hBc := HB.out.trans (hbc.mono HB.out.size)
    have hOc := HO.out.bel (fun _ _ h => h.kb (KB.of_below hbc)) hbc
    have hrc := HRR.out.below hbc HRR.out.lt
    have z1 : wc.cell? ⟨m, 1, none⟩ = some (.slice (some ⟨g, 0, none⟩) k c) := hrc.cell 1
    have z0 := cell_bm hbc q0 hgl
    have HTc := hide (HT.out.kb (KB.of_below hbc))
    have HBc := hide hBc
    have HOc := hide hOc
    clear hbc hBc hOc hhb hdd hMx hM hxL hrl0 q0 hgl hsn
    cases hb with
    | false =>
     have e : Z.paths (L.take (j + 1)) = M := by rw [HSN.out, HDD.out]; rfl
     have HE := hide e
     clear e
     go_wp2
     go_roundw
     case rel => exact ⟨j + 1, by go_num, by omega, HBc.out, by rw [HE.out]; exact HOc.out⟩
     case measure => simp [intOf]; omega
    | true =>
     have e : (Z.paths (L.take (j + 1))).map List.reverse = M.map List.reverse ++ [x.p.reverse] := by rw [HSN.out, HDD.out, if_pos rfl, List.map_append]; rfl
     have HE := hide e
     clear e
     go_wp2_with (at_builtin; (refine wpList_appL rfl (.tmp 35) (.tmp 44) 46 rfl Tryz.underlying46 (.slice none 0 0) 24 (info_parts infoNs) rfl (by decide) (by decide) (by decide) w.heap.size _ (M.map List.reverse) rfl (HOc.out.bel (fun _ _ h => h.kb (KB.alloc _ _)) (bel_al wc _)) ⟨wc.heap.size, 0, none⟩ 1 x.p.reverse [.slice na pl nc] rfl (cell_one_new _ _ _) rfl (by simp [Value.oneCell']) ⟨na, nc, by rw [List.length_reverse, <- HPL.out], HTc.out.kb (KB.alloc _ _), HNN.out, by rw [List.length_reverse, <- HPL.out]; exact HNC.out⟩ (fun _ _ _ k h => h.kb k) (by rw [List.length_map]; have := HML.out; omega) (by have := HBc.out.size; simp; omega) ?_); intro v5 w5 hO5 hG5 hK5 hB5)
     go_roundw
     case rel => exact ⟨j + 1, by go_num, by omega, (HBc.out.alloc HBc.out.size _).trans hB5, by rw [HE.out]; exact hO5⟩
     case measure => simp [intOf]; omega
  ·obtain rfl : j = k := by omega
   have e : L.take j = L := List.take_of_length_le (by have := HK.out; omega)
   rw [e] at HO
   go_wp2
   go_ret
   exact ⟨_, rfl, HO.out, HB.out⟩
end Go.Proofs.YtbkegikdmmnkaaaGreat
