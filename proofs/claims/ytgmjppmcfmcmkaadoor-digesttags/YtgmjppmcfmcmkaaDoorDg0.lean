/- Tags of keys, digests, hashes of names, plain; bytes of both kinds (numbers and words of bits) held against one another; sums over bytes. -/
import Derived.Test.YtgmjppmcfmcmkaaDoorNmB
import Derived.Test.YtgmjppmcfmcmkaaDoorRef
namespace Go.Proofs.YtgmjppmcfmcmkaaDoor
open Go.RowKit
namespace G
def bv (l : List UInt8) : List (BitVec 8) := l.map UInt8.toBitVec
set_option maxRecDepth 5000 in
theorem bv_len (l : List UInt8) : (bv l).length = l.length := by simp [bv]
set_option maxRecDepth 5000 in
theorem bv_get (l : List UInt8) (j : Nat) (h : j < l.length) : (bv l).getD j 0 = (l.getD j 0).toBitVec := by simp [bv, h]
def u8s (n : Nat) (f : Nat → BitVec 8) : List UInt8 := (List.range n).map fun j => UInt8.ofBitVec (f j)
set_option maxRecDepth 5000 in
theorem u8s_len (n : Nat) (f : Nat → BitVec 8) : (u8s n f).length = n := by simp [u8s]
set_option maxRecDepth 5000 in
theorem u8s_get (n : Nat) (f : Nat → BitVec 8) (j : Nat) (h : j < n) : (u8s n f).getD j 0 = UInt8.ofBitVec (f j) := by simp [u8s, h]
set_option maxRecDepth 5000 in
theorem u8s_take (n m : Nat) (f : Nat → BitVec 8) (h : m ≤ n) : (u8s n f).take m = u8s m f := by
  simp only [u8s, ← List.map_take, List.take_range, Nat.min_eq_left h]
/- SHA-256, of bytes as numbers -/
def sum (l : List UInt8) : Nat → BitVec 8 := H.Sha.digB (H.Sha.run (H.Sha.padF (bv l)) (H.Sha.nb l.length))
/- what a tag sums of the first j bytes -/
def ts (l : List UInt8) : Nat → Nat
  | 0 => 0
  | j + 1 => ts l j + (if j % 2 = 0 then (l.getD j 0).toNat * 256 else (l.getD j 0).toNat)
set_option maxRecDepth 5000 in
theorem ts_le (l : List UInt8) : ∀ j, ts l j ≤ 65280 * j
  | 0 => by simp [ts]
  | j + 1 => by
    have h := ts_le l j
    have hx := (l.getD j 0).toNat_lt
    simp only [ts]
    split <;> omega
def tag (l : List UInt8) : Nat := (ts l l.length + ts l l.length / 65536) % 65536
set_option maxRecDepth 5000 in
theorem tag_lt (l : List UInt8) : tag l < 65536 := Nat.mod_lt _ (by decide)
def ds (n : List (List UInt8)) (data : List UInt8) : List UInt8 := [UInt8.ofNat (tag data / 256), UInt8.ofNat (tag data), data.getD 3 0, 2] ++ u8s 32 (sum (N.wire (N.lowN n) ++ data))
set_option maxRecDepth 5000 in
theorem ds_len (n : List (List UInt8)) (data : List UInt8) : (ds n data).length = 36 := by simp [ds, u8s_len]
def hsh (n : List (List UInt8)) (salt : List UInt8) : Nat → Nat → BitVec 8
  | 0 => sum (N.wire (N.lowN n) ++ salt)
  | k + 1 => sum (u8s 20 (hsh n salt k) ++ salt)
def rds (i : Int) : Nat := (min (max i 0) 50).toNat
end G
set_option maxRecDepth 5000 in
theorem SlL.bv {w : World} {ao : Option Addr} {l : List UInt8} (h : SlL w ao l) : H.SlL w ao (G.bv l) := fun hn => by
  rw [G.bv_len] at hn
  obtain ⟨b, o, e, hlt, hc⟩ := h hn
  exact ⟨b, o, e, hlt, fun j hj => by rw [G.bv_len] at hj; rw [hc j hj, G.bv_get l j hj]; rfl⟩
set_option maxRecDepth 5000 in
theorem row_sl {w : World} {g : Nat} {t : TypeId} {n m : Nat} {f : Nat → BitVec 8} (h : H.RowAt w g t (H.rowB n f)) (hm : m ≤ n) : SlL w (some ⟨g, 0, none⟩) (G.u8s m f) := fun _ =>
  ⟨g, 0, rfl, h.lt, fun j hj => by rw [G.u8s_len] at hj; rw [Nat.zero_add, h.cell, H.rowB_get _ _ _ (by omega), G.u8s_get m f j hj]; rfl⟩
set_option maxRecDepth 5000 in
theorem dsum_any (l : List UInt8) (ao : Option Addr) (n cap : Nat) (w : World) (hl : Hid (l.length = n)) (hs : SlL w ao l) (hn : n ≤ cap) (hn2 : n < 1152921504606846976) (hT : H.Tab w) :
    Calls Tryd.prog 20 #[.slice ao n cap] w fun e w' => e = .returned (.agg (H.rowB 32 (G.sum l))) ∧ Below w.heap.size w w' := by
  have h := hl.out
  subst h
  refine (H.sum_any (G.bv l) ao l.length cap w (G.bv_len l) ?_ hn hn2 hT).mono fun e w' h => h
  have h := hs.bv.pad
  rw [G.bv_len] at h
  exact h
set_option maxRecDepth 5000 in
theorem rsum_any (l : List UInt8) (ao : Option Addr) (n cap : Nat) (w : World) (hl : Hid (l.length = n)) (hs : SlL w ao l) (hnil : ao = none → cap = 0) (hn : n < 1000000000) :
    Calls Tryd.prog 24 #[.slice ao n cap] w fun e w' => e = .returned (.agg (H.rowB 32 (G.sum l))) ∧ Below w.heap.size w w' := by
  have h := hl.out
  subst h
  exact (H.ref_any (G.bv l) ao l.length cap w (G.bv_len l) hs.bv hnil hn).mono fun e w' h => h
end Go.Proofs.YtgmjppmcfmcmkaaDoor
