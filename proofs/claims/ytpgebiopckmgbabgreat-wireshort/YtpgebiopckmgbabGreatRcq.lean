/- (*wire.reader): number32, bytes, where they are there. -/
import Derived.Test.YtpgebiopckmgbabGreatQst
import Derived.Test.YtpgebiopckmgbabGreatChq
namespace Go.Proofs.YtpgebiopckmgbabGreat
open Go.RowKit
set_option maxRecDepth 5000 in
theorem n16_ok (B T : Nat) (ao : Option Addr) (c : Nat) (b : List UInt8) (p : Nat) (w : World) (hR : RdW B T ao c b p w) (h : p + 2 ≤ b.length) :
    Calls Tryz.prog 32 #[.pointer (some ⟨T, 0, none⟩)] w fun e w' => e = .returned (.int .u16 ((M.by_ b p * 256 + M.by_ b (p + 1) : Nat) : Int)) ∧ RdW B T ao c b (p + 2) w' ∧ Mv T w w' := by
  have HN : M.n16 b p = some (M.by_ b p * 256 + M.by_ b (p + 1), p + 2) := if_neg (by omega)
  refine (n16_any B T ao c b p w hR).mono ?_
  rintro e w1 ⟨⟨x, q, v, ho, rfl, rfl, hr⟩ | ⟨ho, rfl⟩, hm⟩
  · rw [HN] at ho; cases ho; exact ⟨rfl, hr, hm⟩
  · rw [HN] at ho; cases ho
def M.v16 (b : List UInt8) (p : Nat) : Nat := M.by_ b p * 256 + M.by_ b (p + 1)
set_option maxRecDepth 5000 in
theorem M.v16_lt (b : List UInt8) (p : Nat) : M.v16 b p < 65536 := by
  have hy : M.by_ b p < 256 := (b.getD p 0).toNat_lt
  have hz : M.by_ b (p + 1) < 256 := (b.getD (p + 1) 0).toNat_lt
  unfold M.v16; omega
def M.v32 (b : List UInt8) (p : Nat) : Nat := M.v16 b p * 65536 + M.v16 b (p + 2)
set_option maxRecDepth 5000 in
theorem n32_ok (B T : Nat) (ao : Option Addr) (c : Nat) (b : List UInt8) (p : Nat) (w : World) (hR : RdW B T ao c b p w) (h : p + 4 ≤ b.length) :
    Calls Tryz.prog 57 #[.pointer (some ⟨T, 0, none⟩)] w fun e w' => e = .returned (.int .u32 (M.v32 b p : Int)) ∧ RdW B T ao c b (p + 4) w' ∧ Mv T w w' := by
  have hx := M.v16_lt b p
  have hy := M.v16_lt b (p + 2)
  obtain ⟨x, HX⟩ : ∃ x, Hid (M.v16 b p = x) := ⟨_, hide rfl⟩
  obtain ⟨y, HY⟩ : ∃ y, Hid (M.v16 b (p + 2) = y) := ⟨_, hide rfl⟩
  rw [HX.out] at hx
  rw [HY.out] at hy
  have hor := or_32 x y hx hy
  have HV : Hid (M.v32 b p = x * 65536 + y) := by show _ = _; unfold M.v32; rw [HX.out, HY.out]
  go_enter Tryz.func57, Tryz.ntmps57
  go_wp2_with fail
  refine (n16_ok B T ao c b p _ hR (by omega)).mono ?_
  rintro e w1 ⟨rfl, hr1, hm1⟩
  rw [show M.by_ b p * 256 + M.by_ b (p + 1) = x from HX.out]
  go_wp2_with fail
  refine (n16_ok B T ao c b (p + 2) _ hr1 (by omega)).mono ?_
  rintro e w2 ⟨rfl, hr2, hm2⟩
  rw [show M.by_ b (p + 2) * 256 + M.by_ b (p + 2 + 1) = y from HY.out]
  go_wp2
  go_ret
  refine ⟨?_, hr2, hm1.trans hm2⟩
  rw [HV.out, Int.natCast_add, Int.natCast_mul]; rfl
set_option maxRecDepth 5000 in
theorem wbytes_ok (B T : Nat) (ao : Option Addr) (c : Nat) (b : List UInt8) (p k : Nat) (w : World) (hR : RdW B T ao c b p w) (h : p + k ≤ b.length) (hk : k ≤ 1000000) :
    Calls Tryz.prog 58 #[.pointer (some ⟨T, 0, none⟩), .int .i64 (k : Int)] w fun e w' => ∃ v, e = .returned v ∧ OwnB w' w.heap.size v ((b.drop p).take k) ∧ RdW B T ao c b (p + k) w' ∧ Mv T w w' := by
  have hB := hR.2.2.2.2.2.2.2
  have hlen : ((b.drop p).take k).length = k := by rw [List.length_take, List.length_drop]; omega
  have HLN := hide hlen
  clear hlen
  go_enter Tryz.func58, Tryz.ntmps58
  go_wp2_with fail
  refine (take_any B T ao c b p k _ hR hk).mono ?_
  rintro e w1 ⟨⟨hle, a', rfl, hs, hn, hr⟩ | ⟨hlt, rfl⟩, hm⟩
  · have HS := hide (SlB.sl hs hr.2.2.2.2.2.2.2)
    have HNN := hide hn
    have HR := hide hr
    have HM := hide hm
    clear hs hn hr hm
    go_wp2_with fail
    refine (clone_any _ a' k (c - p) _ HLN (by exact HS.out) HNN.out (by omega)).mono ?_
    rintro e w2 ⟨v, rfl, hO, hb⟩
    have HO := hide hO
    clear hO
    go_wp2
    go_ret
    exact ⟨v, rfl, HO.out.lower HM.out.size, HR.out.below hb, HM.out.trans (Mv.of hb)⟩
  · omega
end Go.Proofs.YtpgebiopckmgbabGreat
