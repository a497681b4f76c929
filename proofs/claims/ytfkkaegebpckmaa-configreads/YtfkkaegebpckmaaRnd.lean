/- What is written is read back; a byte more is nothing: plain. -/
import Derived.Test.YtfkkaegebpckmaaDec
namespace Go.Proofs.Ytfkkaegebpckmaa
open Go.RowKit
namespace D
set_option maxRecDepth 5000 in
theorem gv_p16 (n : Nat) (h : n < 65536) : gv (p16 n) = n := by
  simp only [gv, p16, List.foldl_cons, List.foldl_nil, UInt8.toNat_ofNat']
  omega
set_option maxRecDepth 5000 in
theorem gv_p32 (n : Nat) (h : n < 4294967296) : gv (p32 n) = n := by
  simp only [gv, p32, p16, List.cons_append, List.nil_append, List.foldl_cons, List.foldl_nil, UInt8.toNat_ofNat']
  omega
end D
namespace C
def tl5 (x : Cf) : List UInt8 := D.p16 x.it ++ (lowB x.h :: D.p16 x.sz)
def rst (x : Cf) : List UInt8 := D.p32 x.k ++ (D.p32 x.p ++ (D.p32 x.d ++ (D.p32 x.e ++ (D.p32 x.v ++ (D.p32 x.l ++ (D.p32 x.g ++ (D.p32 x.m ++ (UInt8.ofNat x.salt.length :: (x.salt ++ tl5 x)))))))))
set_option maxRecDepth 5000 in
theorem enc_rst (x : Cf) : enc x = N.wire x.apex ++ rst x := by
  unfold enc rst tl5 tb
  simp only [List.flatMap_cons, List.flatMap_nil, List.append_assoc, List.append_nil, List.cons_append, List.nil_append]
set_option maxRecDepth 5000 in
theorem rst_len (x : Cf) : (rst x).length = 38 + x.salt.length := by
  unfold rst tl5
  simp only [List.length_append, List.length_cons, D.p32_len, D.p16_len]
  omega
set_option maxRecDepth 5000 in
theorem rst_32 (x : Cf) (t : List UInt8) (h : x.salt.length < 256) : ((rst x ++ t).getD 32 0).toNat = x.salt.length := by
  show (UInt8.ofNat x.salt.length).toNat = _
  rw [UInt8.toNat_ofNat']; omega
set_option maxRecDepth 5000 in
theorem mk_rst (x : Cf) (hk : Ok x) (hs : x.salt.length < 256) (h0 : 0 ≤ x.h) (h1 : x.h < 256) : mk x.apex (rst x) = x := by
  have e1 : ((rst x).getD 32 0).toNat = x.salt.length := by have := rst_32 x [] hs; rw [List.append_nil] at this; exact this
  have e2 : (rst x).drop 33 = x.salt ++ tl5 x := rfl
  have e3 : (rst x).drop (33 + x.salt.length) = tl5 x := by rw [← List.drop_drop, e2]; exact List.drop_left
  have e4 : ((rst x).drop 33).take x.salt.length = x.salt := by rw [e2]; exact List.take_left
  have e5 : (((tl5 x).getD 2 0).toNat : Int) = x.h := by
    show ((lowB x.h).toNat : Int) = x.h
    rw [← lowB_nat]; omega
  unfold mk
  rw [e1, e3, e4, e5]
  have f0 : D.gv ((rst x).take 4) = x.k := D.gv_p32 x.k hk.k
  have f1 : D.gv (((rst x).drop 4).take 4) = x.p := D.gv_p32 x.p hk.p
  have f2 : D.gv (((rst x).drop 8).take 4) = x.d := D.gv_p32 x.d hk.d
  have f3 : D.gv (((rst x).drop 12).take 4) = x.e := D.gv_p32 x.e hk.e
  have f4 : D.gv (((rst x).drop 16).take 4) = x.v := D.gv_p32 x.v hk.v
  have f5 : D.gv (((rst x).drop 20).take 4) = x.l := D.gv_p32 x.l hk.l
  have f6 : D.gv (((rst x).drop 24).take 4) = x.g := D.gv_p32 x.g hk.g
  have f7 : D.gv (((rst x).drop 28).take 4) = x.m := D.gv_p32 x.m hk.m
  have f8 : D.gv ((tl5 x).take 2) = x.it := D.gv_p16 x.it hk.it
  have f9 : D.gv (((tl5 x).drop 3).take 2) = x.sz := D.gv_p16 x.sz hk.sz
  rw [f0, f1, f2, f3, f4, f5, f6, f7, f8, f9]
set_option maxRecDepth 5000 in
theorem opn_enc (x : Cf) (t : List UInt8) (hg : Good x) : N.opn (enc x ++ t) = some x.apex ∧ N.size x.apex ≤ 255 ∧ (enc x ++ t).drop (N.size x.apex) = rst x ++ t := by
  obtain ⟨h1, h2, h3⟩ := N.chk_small hg.1
  refine ⟨?_, h2, ?_⟩
  · rw [enc_rst, List.append_assoc]; exact N.opn_wire _ _ h1 h3
  · rw [enc_rst, List.append_assoc, ← N.wire_len]; exact List.drop_left
set_option maxRecDepth 5000 in
theorem dec_enc (x : Cf) (hk : Ok x) (hg : Good x) : dec (enc x) = some x := by
  obtain ⟨h1, h2, h3⟩ := opn_enc x [] hg
  rw [List.append_nil] at h1 h3
  rw [List.append_nil] at h3
  have hs : x.salt.length ≤ 16 := hg.2.2.2.2.2.2.2.2.1
  have hh0 : 0 ≤ x.h := hg.2.2.2.2.2.2.2.2.2.2.1
  have hh1 : x.h ≤ 10 := hg.2.2.2.2.2.2.2.2.2.2.2.1
  rw [dec_some h1 h2, h3, decR_ok (by have := rst_32 x [] (by omega); rw [List.append_nil] at this; rw [this, rst_len]), mk_rst x hk (by omega) hh0 (by omega)]
set_option maxRecDepth 5000 in
theorem dec_more (x : Cf) (hg : Good x) (c : UInt8) : dec (enc x ++ [c]) = none := by
  obtain ⟨h1, h2, h3⟩ := opn_enc x [c] hg
  have hs : x.salt.length ≤ 16 := hg.2.2.2.2.2.2.2.2.1
  rw [dec_some h1 h2, h3, decR_len (by rw [rst_32 x [c] (by omega), List.length_append, rst_len, List.length_singleton]; omega)]
set_option maxRecDepth 5000 in
theorem enc_len (x : Cf) : (enc x).length = N.size x.apex + 38 + x.salt.length := by
  rw [enc_rst, List.length_append, rst_len, N.wire_len]; omega
end C
end Go.Proofs.Ytfkkaegebpckmaa
