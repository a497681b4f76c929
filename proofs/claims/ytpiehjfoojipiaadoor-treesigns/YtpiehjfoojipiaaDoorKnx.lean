/- The example: the signature of one message does not verify with another. -/
import Derived.Test.YtpiehjfoojipiaaDoorKn1
import Derived.Test.YtpiehjfoojipiaaDoorKn3
import Derived.Test.YtpiehjfoojipiaaDoorKn4
namespace Go.Proofs.YtpiehjfoojipiaaDoor
def f5 (j : Nat) : BitVec 8 := if j = 0 then 5 else 0
set_option maxRecDepth 5000 in
theorem nd_two (f : Nat → BitVec 8) : T.nd f 2 0 = T.upl (O.lst (T.upl (O.lst (O.pub f 0)) (O.lst (O.pub f 1)))) (O.lst (T.upl (O.lst (O.pub f 2)) (O.lst (O.pub f 3)))) := by simp [T.nd]
set_option maxRecDepth 5000 in
theorem clb_two (f X : Nat → BitVec 8) : T.clb 2 X 1 (T.sis f 1 0 2) = T.upl (O.lst (T.upl (O.lst (O.pub f 0)) (O.lst X))) (O.lst (T.upl (O.lst (O.pub f 2)) (O.lst (O.pub f 3)))) := by
  have h1 : T.sis f 1 0 2 = O.lst (O.pub f 0) ++ O.lst (T.upl (O.lst (O.pub f 2)) (O.lst (O.pub f 3))) := by simp [T.sis, T.sib, T.nd]
  rw [h1]
  have hA := O.lst_len (O.pub f 0)
  have hB := O.lst_len (T.upl (O.lst (O.pub f 2)) (O.lst (O.pub f 3)))
  generalize O.lst (T.upl (O.lst (O.pub f 2)) (O.lst (O.pub f 3))) = B at hB
  generalize O.lst (O.pub f 0) = A at hA
  have t1 : (A ++ B).take 8 = A := by rw [List.take_append_of_le_length (by omega), List.take_of_length_le (by omega)]
  have t2 : (A ++ B).drop 8 = B := by rw [List.drop_append, List.drop_of_length_le (by omega), hA]; simp
  have t3 : B.take 8 = B := List.take_of_length_le (by omega)
  rw [T.clb, T.clb, T.clb, t1, t2, t3]
  simp
set_option maxRecDepth 100000 in
theorem tops : (T.upl (O.lst (T.upl [188, 236, 230, 86, 15, 197, 228, 61] [120, 137, 14, 80, 231, 79, 61, 224])) (O.lst (T.upl [79, 5, 188, 211, 82, 73, 10, 153] [3, 5, 147, 174, 16, 102, 48, 120])) 0 == T.upl (O.lst (T.upl [188, 236, 230, 86, 15, 197, 228, 61] [12, 51, 161, 96, 101, 167, 128, 248])) (O.lst (T.upl [79, 5, 188, 211, 82, 73, 10, 153] [3, 5, 147, 174, 16, 102, 48, 120])) 0) = false := by decide +kernel
set_option maxRecDepth 5000 in
theorem lst_head (a b : Nat → BitVec 8) (h : O.lst a = O.lst b) : a 0 = b 0 := by
  have h1 : (O.lst a)[0]? = (O.lst b)[0]? := by rw [h]
  simpa [O.lst] using h1
set_option maxRecDepth 5000 in
theorem sig_mid (f : Nat → BitVec 8) (h leaf : Nat) (m : List (BitVec 8)) : ((T.sig f h leaf m).drop 4).take 512 = O.sigL f leaf (O.dig m) 32 := by
  unfold T.sig
  rw [List.append_assoc, List.drop_append, List.drop_of_length_le (by rw [T.len4_len]; omega), T.len4_len, List.nil_append, Nat.sub_self, List.drop_zero, List.take_append_of_le_length (by rw [O.sigL_len]; omega), List.take_of_length_le (by rw [O.sigL_len]; omega)]
set_option maxRecDepth 5000 in
theorem sig_end (f : Nat → BitVec 8) (h leaf : Nat) (m : List (BitVec 8)) : (T.sig f h leaf m).drop 516 = T.sis f leaf 0 h := by
  unfold T.sig
  have hl5 : (Sha.len4 leaf ++ O.sigL f leaf (O.dig m) 32).length = 516 := by rw [List.length_append, T.len4_len, O.sigL_len]
  rw [List.drop_append, List.drop_of_length_le (by omega), hl5]; simp
set_option maxRecDepth 5000 in
theorem sig_num (f : Nat → BitVec 8) (h leaf : Nat) (m : List (BitVec 8)) (hl : leaf < 4294967296) : T.num (T.sig f h leaf m) = leaf := by
  unfold T.sig
  rw [List.append_assoc, T.num_len4 leaf hl]
set_option maxRecDepth 5000 in
theorem ver_ha : T.ver (O.lst (T.nd f5 2 0)) 2 [104, 97] (T.sig f5 2 1 [104, 105]) = false := by
  unfold T.ver
  rw [decide_eq_false_iff_not]
  rintro ⟨_, _, _, _, _, h⟩
  have h2 := lst_head _ _ h
  rw [show (2 : Int).toNat = 2 from rfl] at h2
  unfold T.top at h2
  rw [sig_mid, sig_end, sig_num _ _ _ _ (by omega), clb_two, nd_two, dig_hi, dig_ha] at h2
  have e0 : O.lst (O.pub f5 0) = [188, 236, 230, 86, 15, 197, 228, 61] := pub5_0
  have e1 : O.lst (O.pub f5 1) = [12, 51, 161, 96, 101, 167, 128, 248] := pub5_1
  have e2 : O.lst (O.pub f5 2) = [79, 5, 188, 211, 82, 73, 10, 153] := pub5_2
  have e3 : O.lst (O.pub f5 3) = [3, 5, 147, 174, 16, 102, 48, 120] := pub5_3
  have e4 : O.lst (O.opened 2257815356 (O.sigL f5 1 2403550022 32)) = [120, 137, 14, 80, 231, 79, 61, 224] := open5
  rw [e0, e1, e2, e3, e4] at h2
  have h3 := tops
  rw [h2, beq_self_eq_true] at h3
  cases h3
set_option maxRecDepth 5000 in
theorem ver_hi : T.ver (O.lst (T.nd f5 2 0)) 2 [104, 105] (T.sig f5 2 1 [104, 105]) = true := T.ver_sig f5 2 1 [104, 105] (by omega) (by decide)
end Go.Proofs.YtpiehjfoojipiaaDoor
