/- The plain mathematics of SHA-256 as both Go texts reckon it, over words of 32 bits: no Go in it. -/
import Derived.Laws.BitsAllLaws
namespace Go.Proofs.YtgmjppmcfmcmkaaDoor
namespace H
namespace Sha

def add (x y : BitVec 32) : BitVec 32 := x + y
def xor (x y : BitVec 32) : BitVec 32 := x ^^^ y
def and (x y : BitVec 32) : BitVec 32 := x &&& y
def not (x : BitVec 32) : BitVec 32 := ~~~ x
def shr (x : BitVec 32) (n : Nat) : BitVec 32 := x >>> n
def rotr (x : BitVec 32) (n : Nat) : BitVec 32 := (x >>> n) ||| (x <<< (32 - n))

def ktab : List (BitVec 32) := [0x428a2f98, 0x71374491, 0xb5c0fbcf, 0xe9b5dba5, 0x3956c25b, 0x59f111f1, 0x923f82a4, 0xab1c5ed5,
  0xd807aa98, 0x12835b01, 0x243185be, 0x550c7dc3, 0x72be5d74, 0x80deb1fe, 0x9bdc06a7, 0xc19bf174,
  0xe49b69c1, 0xefbe4786, 0x0fc19dc6, 0x240ca1cc, 0x2de92c6f, 0x4a7484aa, 0x5cb0a9dc, 0x76f988da,
  0x983e5152, 0xa831c66d, 0xb00327c8, 0xbf597fc7, 0xc6e00bf3, 0xd5a79147, 0x06ca6351, 0x14292967,
  0x27b70a85, 0x2e1b2138, 0x4d2c6dfc, 0x53380d13, 0x650a7354, 0x766a0abb, 0x81c2c92e, 0x92722c85,
  0xa2bfe8a1, 0xa81a664b, 0xc24b8b70, 0xc76c51a3, 0xd192e819, 0xd6990624, 0xf40e3585, 0x106aa070,
  0x19a4c116, 0x1e376c08, 0x2748774c, 0x34b0bcb5, 0x391c0cb3, 0x4ed8aa4a, 0x5b9cca4f, 0x682e6ff3,
  0x748f82ee, 0x78a5636f, 0x84c87814, 0x8cc70208, 0x90befffa, 0xa4506ceb, 0xbef9a3f7, 0xc67178f2]
def kt (i : Nat) : BitVec 32 := ktab.getD i 0

def be (a b c d : BitVec 8) : BitVec 32 := (a.setWidth 32 <<< 24) ||| (b.setWidth 32 <<< 16) ||| (c.setWidth 32 <<< 8) ||| d.setWidth 32

def s0 (x : BitVec 32) : BitVec 32 := xor (xor (rotr x 7) (rotr x 18)) (shr x 3)
def s1 (x : BitVec 32) : BitVec 32 := xor (xor (rotr x 17) (rotr x 19)) (shr x 10)

/- the words of the schedule, the last one first -/
def nextw (m : Nat → BitVec 32) (n : Nat) (l : List (BitVec 32)) : BitVec 32 :=
  if n < 16 then m n else add (add (add (l.getD 15 0) (s0 (l.getD 14 0))) (l.getD 6 0)) (s1 (l.getD 1 0))
def schedR (m : Nat → BitVec 32) : Nat → List (BitVec 32)
  | 0 => []
  | n + 1 => nextw m n (schedR m n) :: schedR m n
def ws (m : Nat → BitVec 32) (n : Nat) : BitVec 32 := nextw m n (schedR m n)

set_option maxRecDepth 5000 in
theorem schedR_get (m : Nat → BitVec 32) : ∀ (n j : Nat), j < n → (schedR m n).getD j 0 = ws m (n - 1 - j)
  | 0, j, h => by omega
  | n + 1, 0, _ => by simp [schedR, ws]
  | n + 1, j + 1, h => by
    have := schedR_get m n j (by omega)
    simp only [schedR, List.getD_cons_succ]
    rw [this]; congr 1; omega

set_option maxRecDepth 5000 in
theorem ws_lo (m : Nat → BitVec 32) (n : Nat) (h : n < 16) : ws m n = m n := by simp [ws, nextw, h]
set_option maxRecDepth 5000 in
theorem ws_hi (m : Nat → BitVec 32) (n : Nat) (h : 16 ≤ n) :
    ws m n = add (add (add (ws m (n - 16)) (s0 (ws m (n - 15)))) (ws m (n - 7))) (s1 (ws m (n - 2))) := by
  rw [ws, nextw, if_neg (by omega), schedR_get _ _ _ (by omega), schedR_get _ _ _ (by omega), schedR_get _ _ _ (by omega), schedR_get _ _ _ (by omega)]
  rw [show n - 1 - 15 = n - 16 by omega, show n - 1 - 14 = n - 15 by omega, show n - 1 - 6 = n - 7 by omega, show n - 1 - 1 = n - 2 by omega]

structure St where
  a : BitVec 32
  b : BitVec 32
  c : BitVec 32
  d : BitVec 32
  e : BitVec 32
  f : BitVec 32
  g : BitVec 32
  h : BitVec 32

def e1 (x : BitVec 32) : BitVec 32 := xor (xor (rotr x 6) (rotr x 11)) (rotr x 25)
def e0 (x : BitVec 32) : BitVec 32 := xor (xor (rotr x 2) (rotr x 13)) (rotr x 22)
def ch (e f g : BitVec 32) : BitVec 32 := xor (and e f) (and (not e) g)
def maj (a b c : BitVec 32) : BitVec 32 := xor (xor (and a b) (and a c)) (and b c)
def t1 (s : St) (k w : BitVec 32) : BitVec 32 := add (add (add (add s.h (e1 s.e)) (ch s.e s.f s.g)) k) w
def rnd (s : St) (k w : BitVec 32) : St :=
  ⟨add (add (t1 s k w) (e0 s.a)) (maj s.a s.b s.c), s.a, s.b, s.c, add s.d (t1 s k w), s.e, s.f, s.g⟩
def rnds (W : Nat → BitVec 32) (s : St) : Nat → St
  | 0 => s
  | n + 1 => rnd (rnds W s n) (kt n) (W n)
def plus (s t : St) : St := ⟨add s.a t.a, add s.b t.b, add s.c t.c, add s.d t.d, add s.e t.e, add s.f t.f, add s.g t.g, add s.h t.h⟩
def comp (s : St) (m : Nat → BitVec 32) : St := plus s (rnds (ws m) s 64)
def st0 : St := ⟨0x6a09e667, 0xbb67ae85, 0x3c6ef372, 0xa54ff53a, 0x510e527f, 0x9b05688c, 0x1f83d9ab, 0x5be0cd19⟩

/- the words of the block that begins at byte 'at' of the bytes p -/
def mw (p : Nat → BitVec 8) (at' : Nat) (i : Nat) : BitVec 32 := be (p (at' + 4 * i)) (p (at' + 4 * i + 1)) (p (at' + 4 * i + 2)) (p (at' + 4 * i + 3))
def run (p : Nat → BitVec 8) : Nat → St
  | 0 => st0
  | k + 1 => comp (run p k) (mw p (64 * k))

/- how many blocks a text of n bytes has, and its bytes, padded -/
def nb (n : Nat) : Nat := (n + 8) / 64 + 1
def lenB (n i : Nat) : BitVec 8 := BitVec.ofNat 8 (n * 8 / 2 ^ (8 * (7 - i)))
def padF (bs : List (BitVec 8)) (j : Nat) : BitVec 8 :=
  if j < bs.length then bs.getD j 0
  else if j = bs.length then 0x80
  else if 64 * nb bs.length - 8 ≤ j then lenB bs.length (j - (64 * nb bs.length - 8))
  else 0
def word (s : St) (i : Nat) : BitVec 32 := match i with | 0 => s.a | 1 => s.b | 2 => s.c | 3 => s.d | 4 => s.e | 5 => s.f | 6 => s.g | _ => s.h
def digB (s : St) (i : Nat) : BitVec 8 := (word s (i / 4) >>> (24 - 8 * (i % 4))).setWidth 8
def sum (bs : List (BitVec 8)) : List (BitVec 8) := (List.range 32).map (digB (run (padF bs) (nb bs.length)))

/- what is hashed of a tag and its parts -/
def len4 (n : Nat) : List (BitVec 8) := [BitVec.ofNat 8 (n / 16777216), BitVec.ofNat 8 (n / 65536), BitVec.ofNat 8 (n / 256), BitVec.ofNat 8 n]
def text (tag : BitVec 8) (l : List (List (BitVec 8))) : List (BitVec 8) := tag :: l.flatMap (fun p => len4 p.length ++ p)
def short (tag : BitVec 8) (l : List (List (BitVec 8))) : List (BitVec 8) := (sum (text tag l)).take 8

example : (sum [97, 98, 99]).getD 0 0 = 0xba := by decide +kernel
example : (sum [97, 98, 99]).getD 31 0 = 0xad := by decide +kernel
example : (short 1 [[97], [98]] == short 1 [[97, 98]]) = false := by decide +kernel
end Sha
end H
end Go.Proofs.YtgmjppmcfmcmkaaDoor
