/- wire.takeOpt, the closure of message, where an OPT may be. -/
import Derived.Test.YtpgebiopckmgbabGreatRcd
import Derived.BigRegion
namespace Go.Proofs.YtpgebiopckmgbabGreat
open Go.RowKit
def mc15 (i : Nat) (x1 : Bool) (op : Int) (x3 x4 x5 x6 : Bool) (cd : Int) (q a n d : Value) (ed : Bool) (sz : Nat) (xd : Bool) : Array Value := #[.int .u16 (i : Int), .bool x1, .int .i64 op, .bool x3, .bool x4, .bool x5, .bool x6, .int .i64 cd, q, a, n, d, .bool ed, .int .u16 (sz : Int), .bool xd]
set_option maxRecDepth 3000 in
set_option maxHeartbeats 800000 in
theorem takeOpt_ok (mB i : Nat) (x1 : Bool) (op : Int) (x3 x4 x5 x6 : Bool) (cd : Nat) (q a n d : Value) (na : Option Addr) (nc t cl ttl : Nat) (da : Option Addr) (ln dc : Nat) (xd : Bool) (w : World) (hR : RowAt w mB 32 (mc15 i x1 op x3 x4 x5 x6 (cd : Int) q a n d false 0 false)) (hcd : cd < 16) (ht : ttl < 4294967296)
    (hdo : Hid ((bits .and .u32 (ttl : Int) 32768 != 0) = xd)) (CD : Nat) (hCD : Hid (cd + ttl / 16777216 * 16 = CD)) :
    Calls Tryz.prog 38 #[.pointer (some ⟨mB, 0, none⟩), .agg (rec5 na 0 nc t cl ttl da ln dc)] w fun e w' => e = .returned (.tuple #[]) ∧ RowAt w' mB 32 (mc15 i x1 op x3 x4 x5 x6 (CD : Int) q a n d true cl xd) ∧ Mv mB w w' := by
  have hlt := hR.lt
  have hne : mB ≠ w.heap.size := by omega
  have c12 : w.cell? ⟨mB, 12, none⟩ = some (.bool false) := hR.cell 12
  have c13 : w.cell? ⟨mB, 13, none⟩ = some (.int .u16 0) := hR.cell 13
  have c14 : w.cell? ⟨mB, 14, none⟩ = some (.bool false) := hR.cell 14
  have c7 : w.cell? ⟨mB, 7, none⟩ = some (.int .i64 (cd : Int)) := hR.cell 7
  have x0 : (rec5 na 0 nc t cl ttl da ln dc)[0]? = some (.slice na 0 nc) := rfl
  have x2 : (rec5 na 0 nc t cl ttl da ln dc)[2]? = some (.int .u16 (cl : Int)) := rfl
  have y3 : (rec5 na 0 nc t cl ttl da ln dc)[3]? = some (.int .u32 (ttl : Int)) := rfl
  have f12 := hR.frozen 12
  have f13 := hR.frozen 13
  have f14 := hR.frozen 14
  have f7 := hR.frozen 7
  have R0 := hide hR
  obtain ⟨Z, HZ⟩ : ∃ Z, Hid (ttl / 16777216 = Z) := ⟨_, hide rfl⟩
  have hZ : ((ttl : Int) / 16777216) = (Z : Int) := by have := HZ.out; omega
  have hZ256 : Z < 256 := by have := HZ.out; omega
  have hCDe : cd + Z * 16 = CD := by have := hCD.out; rw [HZ.out] at this; exact this
  have hdo' := hdo.out
  have hw1 : IntKind.i64.wrap ((Z : Int) * 16) = ((Z * 16 : Nat) : Int) := by rw [IntKind.wrap_i64]; omega
  have hw2 : IntKind.i64.wrap ((cd : Int) + ((Z * 16 : Nat) : Int)) = (CD : Int) := by rw [IntKind.wrap_i64]; omega
  have hw3 : IntKind.i64.wrap (Z : Int) = (Z : Int) := by rw [IntKind.wrap_i64]; omega
  clear hR hCDe
  go_enter Tryz.func38, Tryz.ntmps38
  go_wp2_with fail
  go_region
  all_goals go_wp2
  have r1 := R0.out.set 12 (.bool true)
  have r2 := r1.set 13 (.int .u16 (cl : Int))
  have r3 := r2.set 14 (.bool xd)
  have r4 := r3.set 7 (.int .i64 ((cd : Int) + (Z : Int) * 16))
  have hm := (((Mv.set mB 12 w (.bool true)).trans (Mv.set mB 13 _ (.int .u16 (cl : Int)))).trans (Mv.set mB 14 _ (.bool xd))).trans (Mv.set mB 7 _ (.int .i64 ((cd : Int) + (Z : Int) * 16)))
  have e : (cd : Int) + (Z : Int) * 16 = (CD : Int) := by have := hCD.out; rw [HZ.out] at this; omega
  rw [e] at r4 hm ⊢
  generalize World.setCell _ ⟨mB, 7, none⟩ _ = F at r4 hm ⊢
  have hb : Below F.heap.size F (F.alloc (.cells (rec5 na 0 nc t cl ttl da ln dc) 39)).drew := ((Below.refl _ _).alloc (Nat.le_refl _) _).drew
  have RF := hide (r4.below hb r4.lt)
  have MF := hide (hm.trans (Mv.of hb))
  clear hb r1 r2 r3 r4 hm
  simp [bodyPost, results, Tryz.results38, go_sem]
  exact ⟨by exact RF.out, by exact MF.out⟩
set_option maxRecDepth 5000 in
theorem message1_ok (mB i : Nat) (x1 : Bool) (op : Int) (x3 x4 x5 x6 : Bool) (cd : Nat) (q a n d : Value) (na : Option Addr) (nc t cl ttl : Nat) (da : Option Addr) (ln dc : Nat) (xd : Bool) (w : World) (hR : RowAt w mB 32 (mc15 i x1 op x3 x4 x5 x6 (cd : Int) q a n d false 0 false)) (hcd : cd < 16) (ht : ttl < 4294967296)
    (hdo : Hid ((bits .and .u32 (ttl : Int) 32768 != 0) = xd)) (CD : Nat) (hCD : Hid (cd + ttl / 16777216 * 16 = CD)) :
    Calls Tryz.prog 37 #[.agg (rec5 na 0 nc t cl ttl da ln dc), .pointer (some ⟨mB, 0, none⟩)] w fun e w' => e = .returned (.tuple #[]) ∧ RowAt w' mB 32 (mc15 i x1 op x3 x4 x5 x6 (CD : Int) q a n d true cl xd) ∧ Mv mB w w' := by
  have R0 := hide (hR.alloc (.cells (rec5 na 0 nc t cl ttl da ln dc) 39))
  have S0 := hide (RowAt.new w 39 (rec5 na 0 nc t cl ttl da ln dc))
  have M0 := hide (Mv.of (T := mB) ((Below.refl w.heap.size w).alloc (Nat.le_refl _) (.cells (rec5 na 0 nc t cl ttl da ln dc) 39)))
  clear hR
  go_enter Tryz.func37, Tryz.ntmps37
  go_wp2_with (refine wpList_load_row rfl 39 (.tmp 2) rfl w.heap.size rfl 39 _ (0, 0) _ (by exact S0.out) Tryz.underlying39 rfl (by exact infoRs) ?_)
  refine (takeOpt_ok mB i x1 op x3 x4 x5 x6 cd q a n d na nc t cl ttl da ln dc xd _ (by exact R0.out) hcd ht hdo CD hCD).mono ?_
  rintro e w1 ⟨rfl, hR1, hm1⟩
  have RF := hide hR1
  have MF := hide (M0.out.trans hm1)
  clear hR1 hm1
  go_wp2
  simp [bodyPost, results, Tryz.results37, go_sem]
  exact ⟨by exact RF.out, by exact MF.out⟩
end Go.Proofs.YtpgebiopckmgbabGreat
