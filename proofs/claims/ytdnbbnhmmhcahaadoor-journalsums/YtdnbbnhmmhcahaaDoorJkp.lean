/- The known journal, plain. -/
import Derived.Test.YtdnbbnhmmhcahaaDoorJbb
namespace Go.Proofs.YtdnbbnhmmhcahaaDoor
open Go.RowKit
set_option maxRecDepth 5000 in
theorem rd_synced {s : K.St} (h : Pw s) (i : Nat) : s.synced.rd i = s.rd i := by
  unfold K.St.synced
  rw [h.spent]
  unfold K.St.rd K.St.old
  cases h1 : s.un i <;> simp [h1]
set_option maxRecDepth 5000 in
theorem rd_put {s : K.St} (h : Pw s) (i j : Nat) (l : List UInt8) : (s.put i l).rd j = if j = i then l else s.rd j := by
  unfold K.St.put
  rw [h.spent]
  unfold K.St.rd K.St.old K.upd
  by_cases e : j = i <;> simp [e]
def L2 : List (List UInt8) := [[97], [98, 99]]
def ks0 : K.St := K.St.new 40 512
def ks1 : K.St := ks0.put 0 (J.hb h0 512)
def ks2 : K.St := ks1.synced
def kN : J.H := nextH h0 L2
def ks3 (k : Nat) : K.St := (((J.puts ks2 (2 + h0.a * J.ars ks2 + 0) (fun x => J.pad ks2.sz (((J.enc (J.frl h0.b L2).1).drop (x * ks2.sz)).take ks2.sz)) (List.range k)).synced.put ((h0.c + 1) % 2) (J.hb (nextH h0 L2) ks2.sz)).synced)
set_option maxRecDepth 5000 in
theorem pw0 : Pw ks0 := ⟨rfl, rfl⟩
set_option maxRecDepth 5000 in
theorem pw1 : Pw ks1 := put_pw pw0 _ _
set_option maxRecDepth 5000 in
theorem pw2 : Pw ks2 := synced_pw pw1
set_option maxRecDepth 5000 in
theorem z2 : ks2.sz = 512 := by unfold ks2; rw [synced_sz pw1]; unfold ks1; rw [put_sz pw0]; rfl
set_option maxRecDepth 5000 in
theorem n2 : ks2.n = 40 := by unfold ks2; rw [synced_n pw1]; unfold ks1; rw [put_n pw0]; rfl
set_option maxRecDepth 5000 in
theorem ars2 : J.ars ks2 = 19 := by unfold J.ars; rw [n2]
set_option maxRecDepth 5000 in
theorem arb2 : J.arb ks2 = 9728 := by unfold J.arb; rw [ars2, z2]
set_option maxRecDepth 5000 in
theorem fsz2 : J.fsz L2 = 27 := by decide
set_option maxRecDepth 5000 in
theorem rd0_2 : ks2.rd 0 = J.hb h0 512 := by unfold ks2; rw [rd_synced pw1]; unfold ks1; rw [rd_put pw0, if_pos rfl]
set_option maxRecDepth 5000 in
theorem enc2_len : (J.enc (J.frl h0.b L2).1).length = 27 := by rw [J.frl_len, fsz2]
set_option maxRecDepth 5000 in
theorem ks3_is : ks3 1 = ((ks2.put 2 (J.pad 512 (J.enc (J.frl 0 L2).1))).synced.put 1 (J.hb kN 512)).synced := by
  unfold ks3
  rw [ars2, z2]
  have e : (fun x => J.pad 512 (((J.enc (J.frl h0.b L2).1).drop (x * 512)).take 512)) 0 = J.pad 512 (J.enc (J.frl 0 L2).1) := by
    show J.pad 512 (((J.enc (J.frl 0 L2).1).drop (0 * 512)).take 512) = _
    rw [Nat.zero_mul, List.drop_zero, List.take_of_length_le (by have := enc2_len; show (J.enc (J.frl 0 L2).1).length ≤ 512; rw [show (J.enc (J.frl 0 L2).1).length = 27 from this]; omega)]
  show ((K.St.synced (ks2.put (2 + 0 * 19 + 0) ((fun x => J.pad 512 (((J.enc (J.frl h0.b L2).1).drop (x * 512)).take 512)) 0))).put 1 (J.hb kN 512)).synced = _
  rw [e]
def kq : K.St := ks2.put 2 (J.pad 512 (J.enc (J.frl 0 L2).1))
set_option maxRecDepth 5000 in
theorem pwq : Pw kq := put_pw pw2 _ _
set_option maxRecDepth 5000 in
theorem pwr : Pw (kq.synced.put 1 (J.hb kN 512)) := put_pw (synced_pw pwq) _ _
set_option maxRecDepth 5000 in
theorem ks3_eq : ks3 1 = (kq.synced.put 1 (J.hb kN 512)).synced := ks3_is
set_option maxRecDepth 5000 in
theorem pw3 : Pw (ks3 1) := by rw [ks3_eq]; exact synced_pw pwr
set_option maxRecDepth 5000 in
theorem z3 : (ks3 1).sz = 512 := by rw [ks3_eq, synced_sz pwr, put_sz (synced_pw pwq), synced_sz pwq, kq, put_sz pw2, z2]
set_option maxRecDepth 5000 in
theorem n3 : (ks3 1).n = 40 := by rw [ks3_eq, synced_n pwr, put_n (synced_pw pwq), synced_n pwq, kq, put_n pw2, n2]
set_option maxRecDepth 5000 in
theorem rd3 (i : Nat) : (ks3 1).rd i = if i = 1 then J.hb kN 512 else if i = 2 then J.pad 512 (J.enc (J.frl 0 L2).1) else ks2.rd i := by
  rw [ks3_eq, rd_synced pwr, rd_put (synced_pw pwq), rd_synced pwq, kq, rd_put pw2]
set_option maxRecDepth 5000 in
theorem ars3 : J.ars (ks3 1) = 19 := by unfold J.ars; rw [n3]
set_option maxRecDepth 5000 in
theorem arb3 : J.arb (ks3 1) = 9728 := by unfold J.arb; rw [ars3, z3]
set_option maxRecDepth 5000 in
theorem kN_ok : HOk kN := ⟨by decide, by decide, by decide, by decide⟩
set_option maxRecDepth 5000 in
theorem enc3 : (J.cat (ks3 1) (2 + kN.a * J.ars (ks3 1)) (J.ars (ks3 1))).take kN.u = J.enc (J.frl 0 L2).1 := by
  have hu : kN.u = 27 := by decide
  have ha : kN.a = 0 := rfl
  rw [ars3, hu, ha]
  have e : J.cat (ks3 1) (2 + 0 * 19) 19 = (ks3 1).rd 2 ++ ((List.range 18).flatMap fun i => (ks3 1).rd (2 + 0 * 19 + (i + 1))) := by
    unfold J.cat
    rw [show (19 : Nat) = 18 + 1 from rfl, List.range_succ_eq_map, List.flatMap_cons, List.flatMap_map]
  rw [e, rd3, if_neg (by decide), if_pos rfl, J.pad, List.append_assoc]
  exact List.take_left' enc2_len
set_option maxRecDepth 5000 in
theorem dec2 : J.dec (J.frl 0 L2).1 kN.b = L2 := by
  have : kN.b = (J.frl 0 L2).2 := rfl
  rw [this, J.dec_frl]; rfl
set_option maxRecDepth 5000 in
theorem fs2_ok : ∀ x ∈ (J.frl 0 L2).1, x.1 < 4294967296 := by decide
set_option maxRecDepth 5000 in
theorem crc9 : J.crc [49, 50, 51, 52, 53, 54, 55, 56, 57] = 3421780262 := by decide +kernel
set_option maxRecDepth 5000 in
theorem k_one (k : Nat) (h : 27 ≤ k * 512 ∧ k * 512 < 27 + 512) : k = 1 := by omega
end Go.Proofs.YtdnbbnhmmhcahaaDoor
