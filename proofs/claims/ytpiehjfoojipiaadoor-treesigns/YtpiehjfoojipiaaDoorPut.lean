/- The plain mathematics of SHA-256 as both Go texts reckon it, over words of 32 bits: no Go in it. -/
import Derived.Laws.BitsAllLaws
import Derived.Test.YtpiehjfoojipiaaDoorRows
import Derived.WalkKit
import Derived.WalkSpells
import Derived.WalkLawsBesides
import Derived.Deep.QuietTactic
import Derived.BigQuiet
import Derived.Deep.MidRow
import Derived.Deep.WholeRow
namespace Go.Proofs.YtpiehjfoojipiaaDoor
namespace Sha

def add (x y : BitVec 32) : BitVec 32 := x + y
def xor (x y : BitVec 32) : BitVec 32 := x ^^^ y
def and (x y : BitVec 32) : BitVec 32 := x &&& y
def not (x : BitVec 32) : BitVec 32 := ~~~ x
def shr (x : BitVec 32) (n : Nat) : BitVec 32 := x >>> n
def rotr (x : BitVec 32) (n : Nat) : BitVec 32 := (x >>> n) ||| (x <<< (32 - n))

def ktab : List (BitVec 32) := [0x428a2f98, 0x71374491, 0xb5c0fbcf, 0xe9b5dba5, 0x3956c25b, 0x59f111f1, 0x923f82a4, 0xab1c5ed5,
  0xd807aa98, 0x12835b01, 0x243185be, 0x550c7dc3, 0x72be5d74, 0x80deb1fe, 0x9bdc06a7, 0xc19bf174,
  0xe49b69c1, 0xefbe4786, 0x0fc19dc6, 0x240ca1cc, 0x2de92c6f, 0x4a7484aa, 0x5cb0a9dc, 0x76f988da,
  0x983e5152, 0xa831c66d, 0xb00327c8, 0xbf597fc7, 0xc6e00bf3, 0xd5a79147, 0x06ca6351, 0x14292967,
  0x27b70a85, 0x2e1b2138, 0x4d2c6dfc, 0x53380d13, 0x650a7354, 0x766a0abb, 0x81c2c92e, 0x92722c85,
  0xa2bfe8a1, 0xa81a664b, 0xc24b8b70, 0xc76c51a3, 0xd192e819, 0xd6990624, 0xf40e3585, 0x106aa070,
  0x19a4c116, 0x1e376c08, 0x2748774c, 0x34b0bcb5, 0x391c0cb3, 0x4ed8aa4a, 0x5b9cca4f, 0x682e6ff3,
  0x748f82ee, 0x78a5636f, 0x84c87814, 0x8cc70208, 0x90befffa, 0xa4506ceb, 0xbef9a3f7, 0xc67178f2]
def kt (i : Nat) : BitVec 32 := ktab.getD i 0

def be (a b c d : BitVec 8) : BitVec 32 := (a.setWidth 32 <<< 24) ||| (b.setWidth 32 <<< 16) ||| (c.setWidth 32 <<< 8) ||| d.setWidth 32

def s0 (x : BitVec 32) : BitVec 32 := xor (xor (rotr x 7) (rotr x 18)) (shr x 3)
def s1 (x : BitVec 32) : BitVec 32 := xor (xor (rotr x 17) (rotr x 19)) (shr x 10)

/- the words of the schedule, the last one first -/
def nextw (m : Nat → BitVec 32) (n : Nat) (l : List (BitVec 32)) : BitVec 32 :=
  if n < 16 then m n else add (add (add (l.getD 15 0) (s0 (l.getD 14 0))) (l.getD 6 0)) (s1 (l.getD 1 0))
def schedR (m : Nat → BitVec 32) : Nat → List (BitVec 32)
  | 0 => []
  | n + 1 => nextw m n (schedR m n) :: schedR m n
def ws (m : Nat → BitVec 32) (n : Nat) : BitVec 32 := nextw m n (schedR m n)

set_option maxRecDepth 5000 in
theorem schedR_get (m : Nat → BitVec 32) : ∀ (n j : Nat), j < n → (schedR m n).getD j 0 = ws m (n - 1 - j)
  | 0, j, h => by omega
  | n + 1, 0, _ => by simp [schedR, ws]
  | n + 1, j + 1, h => by
    have := schedR_get m n j (by omega)
    simp only [schedR, List.getD_cons_succ]
    rw [this]; congr 1; omega

set_option maxRecDepth 5000 in
theorem ws_lo (m : Nat → BitVec 32) (n : Nat) (h : n < 16) : ws m n = m n := by simp [ws, nextw, h]
set_option maxRecDepth 5000 in
theorem ws_hi (m : Nat → BitVec 32) (n : Nat) (h : 16 ≤ n) :
    ws m n = add (add (add (ws m (n - 16)) (s0 (ws m (n - 15)))) (ws m (n - 7))) (s1 (ws m (n - 2))) := by
  rw [ws, nextw, if_neg (by omega), schedR_get _ _ _ (by omega), schedR_get _ _ _ (by omega), schedR_get _ _ _ (by omega), schedR_get _ _ _ (by omega)]
  rw [show n - 1 - 15 = n - 16 by omega, show n - 1 - 14 = n - 15 by omega, show n - 1 - 6 = n - 7 by omega, show n - 1 - 1 = n - 2 by omega]

structure St where
  a : BitVec 32
  b : BitVec 32
  c : BitVec 32
  d : BitVec 32
  e : BitVec 32
  f : BitVec 32
  g : BitVec 32
  h : BitVec 32

def e1 (x : BitVec 32) : BitVec 32 := xor (xor (rotr x 6) (rotr x 11)) (rotr x 25)
def e0 (x : BitVec 32) : BitVec 32 := xor (xor (rotr x 2) (rotr x 13)) (rotr x 22)
def ch (e f g : BitVec 32) : BitVec 32 := xor (and e f) (and (not e) g)
def maj (a b c : BitVec 32) : BitVec 32 := xor (xor (and a b) (and a c)) (and b c)
def t1 (s : St) (k w : BitVec 32) : BitVec 32 := add (add (add (add s.h (e1 s.e)) (ch s.e s.f s.g)) k) w
def rnd (s : St) (k w : BitVec 32) : St :=
  ⟨add (add (t1 s k w) (e0 s.a)) (maj s.a s.b s.c), s.a, s.b, s.c, add s.d (t1 s k w), s.e, s.f, s.g⟩
def rnds (W : Nat → BitVec 32) (s : St) : Nat → St
  | 0 => s
  | n + 1 => rnd (rnds W s n) (kt n) (W n)
def plus (s t : St) : St := ⟨add s.a t.a, add s.b t.b, add s.c t.c, add s.d t.d, add s.e t.e, add s.f t.f, add s.g t.g, add s.h t.h⟩
def comp (s : St) (m : Nat → BitVec 32) : St := plus s (rnds (ws m) s 64)
def st0 : St := ⟨0x6a09e667, 0xbb67ae85, 0x3c6ef372, 0xa54ff53a, 0x510e527f, 0x9b05688c, 0x1f83d9ab, 0x5be0cd19⟩

/- the words of the block that begins at byte 'at' of the bytes p -/
def mw (p : Nat → BitVec 8) (at' : Nat) (i : Nat) : BitVec 32 := be (p (at' + 4 * i)) (p (at' + 4 * i + 1)) (p (at' + 4 * i + 2)) (p (at' + 4 * i + 3))
def run (p : Nat → BitVec 8) : Nat → St
  | 0 => st0
  | k + 1 => comp (run p k) (mw p (64 * k))

/- how many blocks a text of n bytes has, and its bytes, padded -/
def nb (n : Nat) : Nat := (n + 8) / 64 + 1
def lenB (n i : Nat) : BitVec 8 := BitVec.ofNat 8 (n * 8 / 2 ^ (8 * (7 - i)))
def padF (bs : List (BitVec 8)) (j : Nat) : BitVec 8 :=
  if j < bs.length then bs.getD j 0
  else if j = bs.length then 0x80
  else if 64 * nb bs.length - 8 ≤ j then lenB bs.length (j - (64 * nb bs.length - 8))
  else 0
def word (s : St) (i : Nat) : BitVec 32 := match i with | 0 => s.a | 1 => s.b | 2 => s.c | 3 => s.d | 4 => s.e | 5 => s.f | 6 => s.g | _ => s.h
def digB (s : St) (i : Nat) : BitVec 8 := (word s (i / 4) >>> (24 - 8 * (i % 4))).setWidth 8
def sum (bs : List (BitVec 8)) : List (BitVec 8) := (List.range 32).map (digB (run (padF bs) (nb bs.length)))

/- what is hashed of a tag and its parts -/
def len4 (n : Nat) : List (BitVec 8) := [BitVec.ofNat 8 (n / 16777216), BitVec.ofNat 8 (n / 65536), BitVec.ofNat 8 (n / 256), BitVec.ofNat 8 n]
def text (tag : BitVec 8) (l : List (List (BitVec 8))) : List (BitVec 8) := tag :: l.flatMap (fun p => len4 p.length ++ p)
def short (tag : BitVec 8) (l : List (List (BitVec 8))) : List (BitVec 8) := (sum (text tag l)).take 8

example : (sum [97, 98, 99]).getD 0 0 = 0xba := by decide +kernel
example : (sum [97, 98, 99]).getD 31 0 = 0xad := by decide +kernel
example : (short 1 [[97], [98]] == short 1 [[97, 98]]) = false := by decide +kernel
end Sha
end Go.Proofs.YtpiehjfoojipiaaDoor

/- The rotations of both Go texts are the plain rotation of a word, for every word and in every world. -/
namespace Go.Proofs.YtpiehjfoojipiaaDoor
open Go.RowKit

set_option maxRecDepth 5000 in
theorem ofInt_toNat32 (x : BitVec 32) : BitVec.ofInt 32 (x.toNat : Int) = x := by simp
set_option maxRecDepth 5000 in
theorem wrap_toNat32 (x : BitVec 32) : IntKind.u32.wrap (x.toNat : Int) = (x.toNat : Int) := by rw [IntKind.wrap_u32]; omega
set_option maxRecDepth 5000 in
theorem w_and (x y : BitVec 32) : bits .and .u32 (x.toNat : Int) (y.toNat : Int) = ((Sha.and x y).toNat : Int) := by
  show IntKind.u32.wrap ((BitVec.ofInt 32 (x.toNat : Int) &&& BitVec.ofInt 32 (y.toNat : Int)).toNat : Int) = _
  rw [ofInt_toNat32, ofInt_toNat32]; exact wrap_toNat32 _
set_option maxRecDepth 5000 in
theorem w_or (x y : BitVec 32) : bits .or .u32 (x.toNat : Int) (y.toNat : Int) = ((x ||| y).toNat : Int) := by
  show IntKind.u32.wrap ((BitVec.ofInt 32 (x.toNat : Int) ||| BitVec.ofInt 32 (y.toNat : Int)).toNat : Int) = _
  rw [ofInt_toNat32, ofInt_toNat32]; exact wrap_toNat32 _
set_option maxRecDepth 5000 in
theorem w_xor (x y : BitVec 32) : bits .xor .u32 (x.toNat : Int) (y.toNat : Int) = ((Sha.xor x y).toNat : Int) := by
  show IntKind.u32.wrap ((BitVec.ofInt 32 (x.toNat : Int) ^^^ BitVec.ofInt 32 (y.toNat : Int)).toNat : Int) = _
  rw [ofInt_toNat32, ofInt_toNat32]; exact wrap_toNat32 _
set_option maxRecDepth 5000 in
theorem w_not (x : BitVec 32) : bits .xor .u32 4294967295 (x.toNat : Int) = ((Sha.not x).toNat : Int) := by
  have h := w_xor (BitVec.allOnes 32) x
  unfold Sha.xor at h; unfold Sha.not
  rw [show ((BitVec.allOnes 32).toNat : Int) = 4294967295 from by decide, BitVec.allOnes_xor] at h
  exact h
set_option maxRecDepth 5000 in
theorem w_add (x y : BitVec 32) : ((x.toNat : Int) + (y.toNat : Int)) % 4294967296 = ((Sha.add x y).toNat : Int) := by
  unfold Sha.add; rw [BitVec.toNat_add]; omega
set_option maxRecDepth 5000 in
theorem w_shr (x : BitVec 32) (n : Nat) : (x.toNat : Int) / ((2 ^ n : Nat) : Int) = ((x >>> n).toNat : Int) := by
  rw [BitVec.toNat_ushiftRight, Nat.shiftRight_eq_div_pow, Int.natCast_ediv]
set_option maxRecDepth 5000 in
theorem w_shl (x : BitVec 32) (n : Nat) : (x.toNat : Int) * ((2 ^ n : Nat) : Int) % 4294967296 = ((x <<< n).toNat : Int) := by
  rw [BitVec.toNat_shiftLeft, Nat.shiftLeft_eq]
  omega


set_option maxRecDepth 5000 in
theorem w_rot2 (x : BitVec 32) : bits .or .u32 ((x.toNat : Int) * 1073741824 % 4294967296) ((x.toNat : Int) / 4) = ((Sha.rotr x 2).toNat : Int) := by
  have h1 := w_shl x 30
  have h2 := w_shr x 2
  rw [show ((2 ^ 30 : Nat) : Int) = 1073741824 from by decide] at h1
  rw [show ((2 ^ 2 : Nat) : Int) = 4 from by decide] at h2
  rw [h1, h2, w_or, BitVec.or_comm]; rfl
set_option maxRecDepth 5000 in
theorem w_turn2 (x : BitVec 32) : bits .or .u32 ((x.toNat : Int) / 4) ((x.toNat : Int) * 1073741824 % 4294967296) = ((Sha.rotr x 2).toNat : Int) := by
  have h1 := w_shl x 30
  have h2 := w_shr x 2
  rw [show ((2 ^ 30 : Nat) : Int) = 1073741824 from by decide] at h1
  rw [show ((2 ^ 2 : Nat) : Int) = 4 from by decide] at h2
  rw [h1, h2, w_or]; rfl
set_option maxHeartbeats 400000 in
set_option maxRecDepth 5000 in
theorem rot2 (x : BitVec 32) (w : World) :
    Calls Tryd.prog 60 #[.int .u32 x.toNat, .int .i64 (-2)] w fun e w' => e = .returned (.int .u32 (Sha.rotr x 2).toNat) ∧ w' = w := by
  have hk : bits .and .u64 (IntKind.u64.wrap (-2)) 31 = 30 := by decide +kernel
  go_enter Tryd.func60, Tryd.ntmps60
  go_wp2
  go_ret
  exact ⟨congrArg (fun i => Ending.returned (.int .u32 i)) (w_rot2 x), rfl⟩
set_option maxHeartbeats 400000 in
set_option maxRecDepth 5000 in
theorem turn2 (x : BitVec 32) (w : World) :
    Calls Tryd.prog 54 #[.int .u32 x.toNat, .int .i64 2] w fun e w' => e = .returned (.int .u32 (Sha.rotr x 2).toNat) ∧ ∃ k, w' = w.drewN k := by
  go_enter Tryd.func54, Tryd.ntmps54
  go_wp2
  go_quiet (fail)
  go_wp2
  go_ret
  exact ⟨congrArg (fun i => Ending.returned (.int .u32 i)) (w_turn2 x), _, rfl⟩

set_option maxRecDepth 5000 in
theorem w_rot6 (x : BitVec 32) : bits .or .u32 ((x.toNat : Int) * 67108864 % 4294967296) ((x.toNat : Int) / 64) = ((Sha.rotr x 6).toNat : Int) := by
  have h1 := w_shl x 26
  have h2 := w_shr x 6
  rw [show ((2 ^ 26 : Nat) : Int) = 67108864 from by decide] at h1
  rw [show ((2 ^ 6 : Nat) : Int) = 64 from by decide] at h2
  rw [h1, h2, w_or, BitVec.or_comm]; rfl
set_option maxRecDepth 5000 in
theorem w_turn6 (x : BitVec 32) : bits .or .u32 ((x.toNat : Int) / 64) ((x.toNat : Int) * 67108864 % 4294967296) = ((Sha.rotr x 6).toNat : Int) := by
  have h1 := w_shl x 26
  have h2 := w_shr x 6
  rw [show ((2 ^ 26 : Nat) : Int) = 67108864 from by decide] at h1
  rw [show ((2 ^ 6 : Nat) : Int) = 64 from by decide] at h2
  rw [h1, h2, w_or]; rfl
set_option maxHeartbeats 400000 in
set_option maxRecDepth 5000 in
theorem rot6 (x : BitVec 32) (w : World) :
    Calls Tryd.prog 60 #[.int .u32 x.toNat, .int .i64 (-6)] w fun e w' => e = .returned (.int .u32 (Sha.rotr x 6).toNat) ∧ w' = w := by
  have hk : bits .and .u64 (IntKind.u64.wrap (-6)) 31 = 26 := by decide +kernel
  go_enter Tryd.func60, Tryd.ntmps60
  go_wp2
  go_ret
  exact ⟨congrArg (fun i => Ending.returned (.int .u32 i)) (w_rot6 x), rfl⟩
set_option maxHeartbeats 400000 in
set_option maxRecDepth 5000 in
theorem turn6 (x : BitVec 32) (w : World) :
    Calls Tryd.prog 54 #[.int .u32 x.toNat, .int .i64 6] w fun e w' => e = .returned (.int .u32 (Sha.rotr x 6).toNat) ∧ ∃ k, w' = w.drewN k := by
  go_enter Tryd.func54, Tryd.ntmps54
  go_wp2
  go_quiet (fail)
  go_wp2
  go_ret
  exact ⟨congrArg (fun i => Ending.returned (.int .u32 i)) (w_turn6 x), _, rfl⟩

set_option maxRecDepth 5000 in
theorem w_rot7 (x : BitVec 32) : bits .or .u32 ((x.toNat : Int) * 33554432 % 4294967296) ((x.toNat : Int) / 128) = ((Sha.rotr x 7).toNat : Int) := by
  have h1 := w_shl x 25
  have h2 := w_shr x 7
  rw [show ((2 ^ 25 : Nat) : Int) = 33554432 from by decide] at h1
  rw [show ((2 ^ 7 : Nat) : Int) = 128 from by decide] at h2
  rw [h1, h2, w_or, BitVec.or_comm]; rfl
set_option maxRecDepth 5000 in
theorem w_turn7 (x : BitVec 32) : bits .or .u32 ((x.toNat : Int) / 128) ((x.toNat : Int) * 33554432 % 4294967296) = ((Sha.rotr x 7).toNat : Int) := by
  have h1 := w_shl x 25
  have h2 := w_shr x 7
  rw [show ((2 ^ 25 : Nat) : Int) = 33554432 from by decide] at h1
  rw [show ((2 ^ 7 : Nat) : Int) = 128 from by decide] at h2
  rw [h1, h2, w_or]; rfl
set_option maxHeartbeats 400000 in
set_option maxRecDepth 5000 in
theorem rot7 (x : BitVec 32) (w : World) :
    Calls Tryd.prog 60 #[.int .u32 x.toNat, .int .i64 (-7)] w fun e w' => e = .returned (.int .u32 (Sha.rotr x 7).toNat) ∧ w' = w := by
  have hk : bits .and .u64 (IntKind.u64.wrap (-7)) 31 = 25 := by decide +kernel
  go_enter Tryd.func60, Tryd.ntmps60
  go_wp2
  go_ret
  exact ⟨congrArg (fun i => Ending.returned (.int .u32 i)) (w_rot7 x), rfl⟩
set_option maxHeartbeats 400000 in
set_option maxRecDepth 5000 in
theorem turn7 (x : BitVec 32) (w : World) :
    Calls Tryd.prog 54 #[.int .u32 x.toNat, .int .i64 7] w fun e w' => e = .returned (.int .u32 (Sha.rotr x 7).toNat) ∧ ∃ k, w' = w.drewN k := by
  go_enter Tryd.func54, Tryd.ntmps54
  go_wp2
  go_quiet (fail)
  go_wp2
  go_ret
  exact ⟨congrArg (fun i => Ending.returned (.int .u32 i)) (w_turn7 x), _, rfl⟩

set_option maxRecDepth 5000 in
theorem w_rot11 (x : BitVec 32) : bits .or .u32 ((x.toNat : Int) * 2097152 % 4294967296) ((x.toNat : Int) / 2048) = ((Sha.rotr x 11).toNat : Int) := by
  have h1 := w_shl x 21
  have h2 := w_shr x 11
  rw [show ((2 ^ 21 : Nat) : Int) = 2097152 from by decide] at h1
  rw [show ((2 ^ 11 : Nat) : Int) = 2048 from by decide] at h2
  rw [h1, h2, w_or, BitVec.or_comm]; rfl
set_option maxRecDepth 5000 in
theorem w_turn11 (x : BitVec 32) : bits .or .u32 ((x.toNat : Int) / 2048) ((x.toNat : Int) * 2097152 % 4294967296) = ((Sha.rotr x 11).toNat : Int) := by
  have h1 := w_shl x 21
  have h2 := w_shr x 11
  rw [show ((2 ^ 21 : Nat) : Int) = 2097152 from by decide] at h1
  rw [show ((2 ^ 11 : Nat) : Int) = 2048 from by decide] at h2
  rw [h1, h2, w_or]; rfl
set_option maxHeartbeats 400000 in
set_option maxRecDepth 5000 in
theorem rot11 (x : BitVec 32) (w : World) :
    Calls Tryd.prog 60 #[.int .u32 x.toNat, .int .i64 (-11)] w fun e w' => e = .returned (.int .u32 (Sha.rotr x 11).toNat) ∧ w' = w := by
  have hk : bits .and .u64 (IntKind.u64.wrap (-11)) 31 = 21 := by decide +kernel
  go_enter Tryd.func60, Tryd.ntmps60
  go_wp2
  go_ret
  exact ⟨congrArg (fun i => Ending.returned (.int .u32 i)) (w_rot11 x), rfl⟩
set_option maxHeartbeats 400000 in
set_option maxRecDepth 5000 in
theorem turn11 (x : BitVec 32) (w : World) :
    Calls Tryd.prog 54 #[.int .u32 x.toNat, .int .i64 11] w fun e w' => e = .returned (.int .u32 (Sha.rotr x 11).toNat) ∧ ∃ k, w' = w.drewN k := by
  go_enter Tryd.func54, Tryd.ntmps54
  go_wp2
  go_quiet (fail)
  go_wp2
  go_ret
  exact ⟨congrArg (fun i => Ending.returned (.int .u32 i)) (w_turn11 x), _, rfl⟩

set_option maxRecDepth 5000 in
theorem w_rot13 (x : BitVec 32) : bits .or .u32 ((x.toNat : Int) * 524288 % 4294967296) ((x.toNat : Int) / 8192) = ((Sha.rotr x 13).toNat : Int) := by
  have h1 := w_shl x 19
  have h2 := w_shr x 13
  rw [show ((2 ^ 19 : Nat) : Int) = 524288 from by decide] at h1
  rw [show ((2 ^ 13 : Nat) : Int) = 8192 from by decide] at h2
  rw [h1, h2, w_or, BitVec.or_comm]; rfl
set_option maxRecDepth 5000 in
theorem w_turn13 (x : BitVec 32) : bits .or .u32 ((x.toNat : Int) / 8192) ((x.toNat : Int) * 524288 % 4294967296) = ((Sha.rotr x 13).toNat : Int) := by
  have h1 := w_shl x 19
  have h2 := w_shr x 13
  rw [show ((2 ^ 19 : Nat) : Int) = 524288 from by decide] at h1
  rw [show ((2 ^ 13 : Nat) : Int) = 8192 from by decide] at h2
  rw [h1, h2, w_or]; rfl
set_option maxHeartbeats 400000 in
set_option maxRecDepth 5000 in
theorem rot13 (x : BitVec 32) (w : World) :
    Calls Tryd.prog 60 #[.int .u32 x.toNat, .int .i64 (-13)] w fun e w' => e = .returned (.int .u32 (Sha.rotr x 13).toNat) ∧ w' = w := by
  have hk : bits .and .u64 (IntKind.u64.wrap (-13)) 31 = 19 := by decide +kernel
  go_enter Tryd.func60, Tryd.ntmps60
  go_wp2
  go_ret
  exact ⟨congrArg (fun i => Ending.returned (.int .u32 i)) (w_rot13 x), rfl⟩
set_option maxHeartbeats 400000 in
set_option maxRecDepth 5000 in
theorem turn13 (x : BitVec 32) (w : World) :
    Calls Tryd.prog 54 #[.int .u32 x.toNat, .int .i64 13] w fun e w' => e = .returned (.int .u32 (Sha.rotr x 13).toNat) ∧ ∃ k, w' = w.drewN k := by
  go_enter Tryd.func54, Tryd.ntmps54
  go_wp2
  go_quiet (fail)
  go_wp2
  go_ret
  exact ⟨congrArg (fun i => Ending.returned (.int .u32 i)) (w_turn13 x), _, rfl⟩

set_option maxRecDepth 5000 in
theorem w_rot17 (x : BitVec 32) : bits .or .u32 ((x.toNat : Int) * 32768 % 4294967296) ((x.toNat : Int) / 131072) = ((Sha.rotr x 17).toNat : Int) := by
  have h1 := w_shl x 15
  have h2 := w_shr x 17
  rw [show ((2 ^ 15 : Nat) : Int) = 32768 from by decide] at h1
  rw [show ((2 ^ 17 : Nat) : Int) = 131072 from by decide] at h2
  rw [h1, h2, w_or, BitVec.or_comm]; rfl
set_option maxRecDepth 5000 in
theorem w_turn17 (x : BitVec 32) : bits .or .u32 ((x.toNat : Int) / 131072) ((x.toNat : Int) * 32768 % 4294967296) = ((Sha.rotr x 17).toNat : Int) := by
  have h1 := w_shl x 15
  have h2 := w_shr x 17
  rw [show ((2 ^ 15 : Nat) : Int) = 32768 from by decide] at h1
  rw [show ((2 ^ 17 : Nat) : Int) = 131072 from by decide] at h2
  rw [h1, h2, w_or]; rfl
set_option maxHeartbeats 400000 in
set_option maxRecDepth 5000 in
theorem rot17 (x : BitVec 32) (w : World) :
    Calls Tryd.prog 60 #[.int .u32 x.toNat, .int .i64 (-17)] w fun e w' => e = .returned (.int .u32 (Sha.rotr x 17).toNat) ∧ w' = w := by
  have hk : bits .and .u64 (IntKind.u64.wrap (-17)) 31 = 15 := by decide +kernel
  go_enter Tryd.func60, Tryd.ntmps60
  go_wp2
  go_ret
  exact ⟨congrArg (fun i => Ending.returned (.int .u32 i)) (w_rot17 x), rfl⟩
set_option maxHeartbeats 400000 in
set_option maxRecDepth 5000 in
theorem turn17 (x : BitVec 32) (w : World) :
    Calls Tryd.prog 54 #[.int .u32 x.toNat, .int .i64 17] w fun e w' => e = .returned (.int .u32 (Sha.rotr x 17).toNat) ∧ ∃ k, w' = w.drewN k := by
  go_enter Tryd.func54, Tryd.ntmps54
  go_wp2
  go_quiet (fail)
  go_wp2
  go_ret
  exact ⟨congrArg (fun i => Ending.returned (.int .u32 i)) (w_turn17 x), _, rfl⟩

set_option maxRecDepth 5000 in
theorem w_rot18 (x : BitVec 32) : bits .or .u32 ((x.toNat : Int) * 16384 % 4294967296) ((x.toNat : Int) / 262144) = ((Sha.rotr x 18).toNat : Int) := by
  have h1 := w_shl x 14
  have h2 := w_shr x 18
  rw [show ((2 ^ 14 : Nat) : Int) = 16384 from by decide] at h1
  rw [show ((2 ^ 18 : Nat) : Int) = 262144 from by decide] at h2
  rw [h1, h2, w_or, BitVec.or_comm]; rfl
set_option maxRecDepth 5000 in
theorem w_turn18 (x : BitVec 32) : bits .or .u32 ((x.toNat : Int) / 262144) ((x.toNat : Int) * 16384 % 4294967296) = ((Sha.rotr x 18).toNat : Int) := by
  have h1 := w_shl x 14
  have h2 := w_shr x 18
  rw [show ((2 ^ 14 : Nat) : Int) = 16384 from by decide] at h1
  rw [show ((2 ^ 18 : Nat) : Int) = 262144 from by decide] at h2
  rw [h1, h2, w_or]; rfl
set_option maxHeartbeats 400000 in
set_option maxRecDepth 5000 in
theorem rot18 (x : BitVec 32) (w : World) :
    Calls Tryd.prog 60 #[.int .u32 x.toNat, .int .i64 (-18)] w fun e w' => e = .returned (.int .u32 (Sha.rotr x 18).toNat) ∧ w' = w := by
  have hk : bits .and .u64 (IntKind.u64.wrap (-18)) 31 = 14 := by decide +kernel
  go_enter Tryd.func60, Tryd.ntmps60
  go_wp2
  go_ret
  exact ⟨congrArg (fun i => Ending.returned (.int .u32 i)) (w_rot18 x), rfl⟩
set_option maxHeartbeats 400000 in
set_option maxRecDepth 5000 in
theorem turn18 (x : BitVec 32) (w : World) :
    Calls Tryd.prog 54 #[.int .u32 x.toNat, .int .i64 18] w fun e w' => e = .returned (.int .u32 (Sha.rotr x 18).toNat) ∧ ∃ k, w' = w.drewN k := by
  go_enter Tryd.func54, Tryd.ntmps54
  go_wp2
  go_quiet (fail)
  go_wp2
  go_ret
  exact ⟨congrArg (fun i => Ending.returned (.int .u32 i)) (w_turn18 x), _, rfl⟩

set_option maxRecDepth 5000 in
theorem w_rot19 (x : BitVec 32) : bits .or .u32 ((x.toNat : Int) * 8192 % 4294967296) ((x.toNat : Int) / 524288) = ((Sha.rotr x 19).toNat : Int) := by
  have h1 := w_shl x 13
  have h2 := w_shr x 19
  rw [show ((2 ^ 13 : Nat) : Int) = 8192 from by decide] at h1
  rw [show ((2 ^ 19 : Nat) : Int) = 524288 from by decide] at h2
  rw [h1, h2, w_or, BitVec.or_comm]; rfl
set_option maxRecDepth 5000 in
theorem w_turn19 (x : BitVec 32) : bits .or .u32 ((x.toNat : Int) / 524288) ((x.toNat : Int) * 8192 % 4294967296) = ((Sha.rotr x 19).toNat : Int) := by
  have h1 := w_shl x 13
  have h2 := w_shr x 19
  rw [show ((2 ^ 13 : Nat) : Int) = 8192 from by decide] at h1
  rw [show ((2 ^ 19 : Nat) : Int) = 524288 from by decide] at h2
  rw [h1, h2, w_or]; rfl
set_option maxHeartbeats 400000 in
set_option maxRecDepth 5000 in
theorem rot19 (x : BitVec 32) (w : World) :
    Calls Tryd.prog 60 #[.int .u32 x.toNat, .int .i64 (-19)] w fun e w' => e = .returned (.int .u32 (Sha.rotr x 19).toNat) ∧ w' = w := by
  have hk : bits .and .u64 (IntKind.u64.wrap (-19)) 31 = 13 := by decide +kernel
  go_enter Tryd.func60, Tryd.ntmps60
  go_wp2
  go_ret
  exact ⟨congrArg (fun i => Ending.returned (.int .u32 i)) (w_rot19 x), rfl⟩
set_option maxHeartbeats 400000 in
set_option maxRecDepth 5000 in
theorem turn19 (x : BitVec 32) (w : World) :
    Calls Tryd.prog 54 #[.int .u32 x.toNat, .int .i64 19] w fun e w' => e = .returned (.int .u32 (Sha.rotr x 19).toNat) ∧ ∃ k, w' = w.drewN k := by
  go_enter Tryd.func54, Tryd.ntmps54
  go_wp2
  go_quiet (fail)
  go_wp2
  go_ret
  exact ⟨congrArg (fun i => Ending.returned (.int .u32 i)) (w_turn19 x), _, rfl⟩

set_option maxRecDepth 5000 in
theorem w_rot22 (x : BitVec 32) : bits .or .u32 ((x.toNat : Int) * 1024 % 4294967296) ((x.toNat : Int) / 4194304) = ((Sha.rotr x 22).toNat : Int) := by
  have h1 := w_shl x 10
  have h2 := w_shr x 22
  rw [show ((2 ^ 10 : Nat) : Int) = 1024 from by decide] at h1
  rw [show ((2 ^ 22 : Nat) : Int) = 4194304 from by decide] at h2
  rw [h1, h2, w_or, BitVec.or_comm]; rfl
set_option maxRecDepth 5000 in
theorem w_turn22 (x : BitVec 32) : bits .or .u32 ((x.toNat : Int) / 4194304) ((x.toNat : Int) * 1024 % 4294967296) = ((Sha.rotr x 22).toNat : Int) := by
  have h1 := w_shl x 10
  have h2 := w_shr x 22
  rw [show ((2 ^ 10 : Nat) : Int) = 1024 from by decide] at h1
  rw [show ((2 ^ 22 : Nat) : Int) = 4194304 from by decide] at h2
  rw [h1, h2, w_or]; rfl
set_option maxHeartbeats 400000 in
set_option maxRecDepth 5000 in
theorem rot22 (x : BitVec 32) (w : World) :
    Calls Tryd.prog 60 #[.int .u32 x.toNat, .int .i64 (-22)] w fun e w' => e = .returned (.int .u32 (Sha.rotr x 22).toNat) ∧ w' = w := by
  have hk : bits .and .u64 (IntKind.u64.wrap (-22)) 31 = 10 := by decide +kernel
  go_enter Tryd.func60, Tryd.ntmps60
  go_wp2
  go_ret
  exact ⟨congrArg (fun i => Ending.returned (.int .u32 i)) (w_rot22 x), rfl⟩
set_option maxHeartbeats 400000 in
set_option maxRecDepth 5000 in
theorem turn22 (x : BitVec 32) (w : World) :
    Calls Tryd.prog 54 #[.int .u32 x.toNat, .int .i64 22] w fun e w' => e = .returned (.int .u32 (Sha.rotr x 22).toNat) ∧ ∃ k, w' = w.drewN k := by
  go_enter Tryd.func54, Tryd.ntmps54
  go_wp2
  go_quiet (fail)
  go_wp2
  go_ret
  exact ⟨congrArg (fun i => Ending.returned (.int .u32 i)) (w_turn22 x), _, rfl⟩

set_option maxRecDepth 5000 in
theorem w_rot25 (x : BitVec 32) : bits .or .u32 ((x.toNat : Int) * 128 % 4294967296) ((x.toNat : Int) / 33554432) = ((Sha.rotr x 25).toNat : Int) := by
  have h1 := w_shl x 7
  have h2 := w_shr x 25
  rw [show ((2 ^ 7 : Nat) : Int) = 128 from by decide] at h1
  rw [show ((2 ^ 25 : Nat) : Int) = 33554432 from by decide] at h2
  rw [h1, h2, w_or, BitVec.or_comm]; rfl
set_option maxRecDepth 5000 in
theorem w_turn25 (x : BitVec 32) : bits .or .u32 ((x.toNat : Int) / 33554432) ((x.toNat : Int) * 128 % 4294967296) = ((Sha.rotr x 25).toNat : Int) := by
  have h1 := w_shl x 7
  have h2 := w_shr x 25
  rw [show ((2 ^ 7 : Nat) : Int) = 128 from by decide] at h1
  rw [show ((2 ^ 25 : Nat) : Int) = 33554432 from by decide] at h2
  rw [h1, h2, w_or]; rfl
set_option maxHeartbeats 400000 in
set_option maxRecDepth 5000 in
theorem rot25 (x : BitVec 32) (w : World) :
    Calls Tryd.prog 60 #[.int .u32 x.toNat, .int .i64 (-25)] w fun e w' => e = .returned (.int .u32 (Sha.rotr x 25).toNat) ∧ w' = w := by
  have hk : bits .and .u64 (IntKind.u64.wrap (-25)) 31 = 7 := by decide +kernel
  go_enter Tryd.func60, Tryd.ntmps60
  go_wp2
  go_ret
  exact ⟨congrArg (fun i => Ending.returned (.int .u32 i)) (w_rot25 x), rfl⟩
set_option maxHeartbeats 400000 in
set_option maxRecDepth 5000 in
theorem turn25 (x : BitVec 32) (w : World) :
    Calls Tryd.prog 54 #[.int .u32 x.toNat, .int .i64 25] w fun e w' => e = .returned (.int .u32 (Sha.rotr x 25).toNat) ∧ ∃ k, w' = w.drewN k := by
  go_enter Tryd.func54, Tryd.ntmps54
  go_wp2
  go_quiet (fail)
  go_wp2
  go_ret
  exact ⟨congrArg (fun i => Ending.returned (.int .u32 i)) (w_turn25 x), _, rfl⟩

set_option maxRecDepth 5000 in
theorem rot_any (x : BitVec 32) (n : Int) (w : World) (h : n = -2 ∨ n = -6 ∨ n = -7 ∨ n = -11 ∨ n = -13 ∨ n = -17 ∨ n = -18 ∨ n = -19 ∨ n = -22 ∨ n = -25) :
    Calls Tryd.prog 60 #[.int .u32 x.toNat, .int .i64 n] w fun e w' => e = .returned (.int .u32 (Sha.rotr x n.natAbs).toNat) ∧ w' = w := by
  rcases h with rfl | rfl | rfl | rfl | rfl | rfl | rfl | rfl | rfl | rfl
  · exact rot2 x w
  · exact rot6 x w
  · exact rot7 x w
  · exact rot11 x w
  · exact rot13 x w
  · exact rot17 x w
  · exact rot18 x w
  · exact rot19 x w
  · exact rot22 x w
  · exact rot25 x w

set_option maxRecDepth 5000 in
theorem turn_any (x : BitVec 32) (n : Int) (w : World) (h : n = 2 ∨ n = 6 ∨ n = 7 ∨ n = 11 ∨ n = 13 ∨ n = 17 ∨ n = 18 ∨ n = 19 ∨ n = 22 ∨ n = 25) :
    Calls Tryd.prog 54 #[.int .u32 x.toNat, .int .i64 n] w fun e w' => e = .returned (.int .u32 (Sha.rotr x n.natAbs).toNat) ∧ ∃ k, w' = w.drewN k := by
  rcases h with rfl | rfl | rfl | rfl | rfl | rfl | rfl | rfl | rfl | rfl
  · exact turn2 x w
  · exact turn6 x w
  · exact turn7 x w
  · exact turn11 x w
  · exact turn13 x w
  · exact turn17 x w
  · exact turn18 x w
  · exact turn19 x w
  · exact turn22 x w
  · exact turn25 x w

set_option maxRecDepth 5000 in
theorem w_be (a b c d : BitVec 8) : bits .or .u32 (bits .or .u32 (bits .or .u32 ((a.toNat : Int) * 16777216) ((b.toNat : Int) * 65536)) ((c.toNat : Int) * 256)) (d.toNat : Int) = ((Sha.be a b c d).toNat : Int) := by
  have ha : (a.toNat : Int) * (16777216 : Int) = ((a.setWidth 32 <<< 24).toNat : Int) := by
    rw [BitVec.toNat_shiftLeft, BitVec.toNat_setWidth, Nat.shiftLeft_eq]; omega
  have hb : (b.toNat : Int) * (65536 : Int) = ((b.setWidth 32 <<< 16).toNat : Int) := by
    rw [BitVec.toNat_shiftLeft, BitVec.toNat_setWidth, Nat.shiftLeft_eq]; omega
  have hc : (c.toNat : Int) * (256 : Int) = ((c.setWidth 32 <<< 8).toNat : Int) := by
    rw [BitVec.toNat_shiftLeft, BitVec.toNat_setWidth, Nat.shiftLeft_eq]; omega
  have hd : (d.toNat : Int) = ((d.setWidth 32).toNat : Int) := by
    rw [BitVec.toNat_setWidth]; omega
  rw [ha, hb, hc, hd, w_or, w_or, w_or]; rfl
set_option maxRecDepth 5000 in
theorem w_shr3 (x : BitVec 32) : (x.toNat : Int) / 8 = ((Sha.shr x 3).toNat : Int) := by have := w_shr x 3; simpa [Sha.shr] using this
set_option maxRecDepth 5000 in
theorem w_shr10 (x : BitVec 32) : (x.toNat : Int) / 1024 = ((Sha.shr x 10).toNat : Int) := by have := w_shr x 10; simpa [Sha.shr] using this

end Go.Proofs.YtpiehjfoojipiaaDoor

/- Rows of memory that a call made itself, as the loops of the sums leave them: a block whose first cells are known. -/
namespace Go.Proofs.YtpiehjfoojipiaaDoor
open Go.RowKit

/- block g of wr is a row of the type t, whose cells are c, none of them frozen -/
def RowAt (wr : World) (g : Nat) (t : TypeId) (c : Array Value) : Prop := wr.heap[g]? = some (.cells c t (0, 0))
set_option maxRecDepth 5000 in
theorem RowAt.cell {wr : World} {g : Nat} {t : TypeId} {c : Array Value} (h : RowAt wr g t c) (j : Nat) : wr.cell? ⟨g, j, none⟩ = c[j]? := cell_of_row wr g j c t (0, 0) h
set_option maxRecDepth 5000 in
theorem RowAt.frozen {wr : World} {g : Nat} {t : TypeId} {c : Array Value} (h : RowAt wr g t c) (j : Nat) : wr.frozen? ⟨g, j, none⟩ = false := frozen_of_row wr g j c t h
set_option maxRecDepth 5000 in
theorem RowAt.set {wr : World} {g : Nat} {t : TypeId} {c : Array Value} (h : RowAt wr g t c) (j : Nat) (v : Value) : RowAt (wr.setCell ⟨g, j, none⟩ v) g t (c.setIfInBounds j v) := heap_setCell_same wr g j c t v h
set_option maxRecDepth 5000 in
theorem RowAt.other {wr : World} {g : Nat} {t : TypeId} {c : Array Value} (h : RowAt wr g t c) (a : Addr) (v : Value) (hne : g ≠ a.block) : RowAt (wr.setCell a v) g t c := by
  unfold RowAt; rw [heap_setCell_other _ _ _ _ hne]; exact h
set_option maxRecDepth 5000 in
theorem heap_drewN (w : World) (n : Nat) : (w.drewN n).heap = w.heap := rfl
set_option maxRecDepth 5000 in
theorem RowAt.drewN {wr : World} {g : Nat} {t : TypeId} {c : Array Value} (h : RowAt wr g t c) (n : Nat) : RowAt (wr.drewN n) g t c := by
  exact h
set_option maxRecDepth 5000 in
theorem RowAt.drew {wr : World} {g : Nat} {t : TypeId} {c : Array Value} (h : RowAt wr g t c) : RowAt wr.drew g t c := h
set_option maxRecDepth 5000 in
theorem RowAt.below {w w' : World} {B g : Nat} {t : TypeId} {c : Array Value} (h : RowAt w g t c) (hb : Below B w w') (hg : g < B) : RowAt w' g t c := by
  unfold RowAt; rw [hb.block g hg]; exact h
set_option maxRecDepth 5000 in
theorem RowAt.new (w : World) (t : TypeId) (c : Array Value) : RowAt (w.alloc (.cells c t)) w.heap.size t c := heap_alloc_last w _
set_option maxRecDepth 5000 in
theorem RowAt.alloc {w : World} {g : Nat} {t : TypeId} {c : Array Value} (h : RowAt w g t c) (o : Obj) : RowAt (w.alloc o) g t c := by
  have hlt : g < w.heap.size := (Array.getElem?_eq_some_iff.1 h).1
  unfold RowAt; rw [Below.heap_alloc _ _ _ hlt]; exact h
set_option maxRecDepth 5000 in
theorem RowAt.lt {w : World} {g : Nat} {t : TypeId} {c : Array Value} (h : RowAt w g t c) : g < w.heap.size := (Array.getElem?_eq_some_iff.1 h).1
set_option maxRecDepth 5000 in
theorem below_drewN {B : Nat} {w wr : World} (h : Below B w wr) (n : Nat) : Below B w (wr.drewN n) := ⟨h.os, h.tape, h.output, h.size, h.block⟩

/- the first k cells of c are the words f 0, f 1 .. -/
def First (k : Nat) (f : Nat → Value) (c : Array Value) : Prop := ∀ j, j < k → c[j]? = some (f j)
set_option maxRecDepth 5000 in
theorem First.step {k : Nat} {f : Nat → Value} {c : Array Value} (h : First k f c) (hk : k < c.size) : First (k + 1) f (c.setIfInBounds k (f k)) := fun j hj => by
  rw [Array.getElem?_setIfInBounds]
  by_cases e : k = j
  · subst e; simp [hk]
  · rw [if_neg e]; exact h j (by omega)
set_option maxRecDepth 5000 in
theorem First.whole {k : Nat} {f : Nat → Value} {c : Array Value} (h : First k f c) (hk : c.size = k) : c = ((List.range k).map f).toArray := by
  apply Array.ext_getElem?
  intro j
  by_cases e : j < k
  · rw [h j e]; simp [e]
  · rw [Array.getElem?_eq_none (by omega)]; simp [e]

/- a call's own row at the block g (the first free number was B), its first k cells known -/
structure Own (B : Nat) (w wr : World) (g : Nat) (t : TypeId) (n k : Nat) (f : Nat → Value) : Prop where
  below : Below B w wr
  size : g < wr.heap.size
  row : ∃ c, RowAt wr g t c ∧ c.size = n ∧ First k f c
set_option maxRecDepth 5000 in
theorem Own.cell {B : Nat} {w wr : World} {g : Nat} {t : TypeId} {n k : Nat} {f : Nat → Value} (h : Own B w wr g t n k f) (j : Nat) (hj : j < k) : wr.cell? ⟨g, j, none⟩ = some (f j) := by
  obtain ⟨c, hr, _, hf⟩ := h.row
  rw [hr.cell, hf j hj]
set_option maxRecDepth 5000 in
theorem Own.some {B : Nat} {w wr : World} {g : Nat} {t : TypeId} {n k : Nat} {f : Nat → Value} (h : Own B w wr g t n k f) (j : Nat) (hj : j < n) : ∃ v, wr.cell? ⟨g, j, none⟩ = some v := by
  obtain ⟨c, hr, hs, _⟩ := h.row
  exact ⟨c[j]'(by omega), by rw [hr.cell]; simp [hs, hj]⟩
set_option maxRecDepth 5000 in
theorem Own.frozen {B : Nat} {w wr : World} {g : Nat} {t : TypeId} {n k : Nat} {f : Nat → Value} (h : Own B w wr g t n k f) (j : Nat) : wr.frozen? ⟨g, j, none⟩ = false := by
  obtain ⟨c, hr, _, _⟩ := h.row
  exact hr.frozen j
set_option maxRecDepth 5000 in
theorem Own.step {B : Nat} {w wr : World} {g : Nat} {t : TypeId} {n k : Nat} {f : Nat → Value} (h : Own B w wr g t n k f) (hB : B ≤ g) (hk : k < n) : Own B w (wr.setCell ⟨g, k, none⟩ (f k)) g t n (k + 1) f := by
  obtain ⟨c, hr, hs, hf⟩ := h.row
  exact ⟨h.below.setCell hB _, by simp [World.setCell]; exact h.size, _, hr.set k (f k), by simp [hs], hf.step (by omega)⟩
set_option maxRecDepth 5000 in
theorem Own.drewN {B : Nat} {w wr : World} {g : Nat} {t : TypeId} {n k : Nat} {f : Nat → Value} (h : Own B w wr g t n k f) (m : Nat) : Own B w (wr.drewN m) g t n k f := by
  obtain ⟨c, hr, hs, hf⟩ := h.row
  exact ⟨below_drewN h.below m, h.size, c, hr.drewN m, hs, hf⟩
set_option maxRecDepth 5000 in
theorem Own.drew {B : Nat} {w wr : World} {g : Nat} {t : TypeId} {n k : Nat} {f : Nat → Value} (h : Own B w wr g t n k f) : Own B w wr.drew g t n k f := h.drewN 1
set_option maxRecDepth 5000 in
theorem own_fst (w : World) (A : Array Value) (t : TypeId) (o : Obj) (f : Nat → Value) : Own w.heap.size w ((w.alloc (.cells A t)).alloc o) w.heap.size t A.size 0 f :=
  ⟨((Below.refl _ _).alloc (Nat.le_refl _) _).alloc (by simp) _, by simp; omega, A, (RowAt.new _ _ _).alloc _, rfl, fun j hj => by omega⟩
set_option maxRecDepth 5000 in
theorem own_snd (w : World) (A : Array Value) (t : TypeId) (o : Obj) (f : Nat → Value) : Own w.heap.size w ((w.alloc o).alloc (.cells A t)) (w.heap.size + 1) t A.size 0 f :=
  ⟨((Below.refl _ _).alloc (Nat.le_refl _) _).alloc (by simp) _, by simp, A, by have := RowAt.new (w.alloc o) t A; simpa using this, rfl, fun j hj => by omega⟩
set_option maxRecDepth 5000 in
theorem Own.set {B : Nat} {w wr : World} {g : Nat} {t : TypeId} {n k : Nat} {f : Nat → Value} (h : Own B w wr g t n k f) (a : Addr) (v : Value) (hB : B ≤ a.block) (hne : g ≠ a.block) : Own B w (wr.setCell a v) g t n k f := by
  obtain ⟨c, hr, hs, hf⟩ := h.row
  exact ⟨h.below.setCell hB _, by simp [World.setCell]; exact h.size, c, hr.other a v hne, hs, hf⟩
/- a whole row, by value, out of and into a block -/
set_option maxRecDepth 5000 in
theorem setRow_same {w : World} {g : Nat} {t : TypeId} {c : Array Value} (h : RowAt w g t c) (c' : Array Value) : RowAt (w.setRow g c') g t c' := by
  unfold RowAt at *
  simp only [World.setRow, Array.getElem?_modify]
  rw [if_pos trivial, h]; rfl
set_option maxRecDepth 5000 in
theorem setRow_other {w : World} {g g' : Nat} {t : TypeId} {c : Array Value} (h : RowAt w g t c) (c' : Array Value) (hne : g ≠ g') : RowAt (w.setRow g' c') g t c := by
  unfold RowAt at *
  simp only [World.setRow, Array.getElem?_modify]
  rw [if_neg (fun e => hne e.symm)]; exact h
set_option maxRecDepth 5000 in
theorem below_setRow {B g : Nat} {w0 w : World} (hb : Below B w0 w) (hBg : B ≤ g) (cs : Array Value) : Below B w0 (w.setRow g cs) :=
  hb.trans ⟨rfl, rfl, rfl, by simp, fun k hk => by simp only [World.setRow, Array.getElem?_modify]; rw [if_neg (by omega)]⟩
set_option maxRecDepth 5000 in
theorem wpList_load_rowAt {P : Program} {ops : Array Oper} {rest : List Oper} {o : Oper} {a : Act} {w : World} {Q : Exit → Act → World → Prop} (hgd : o.guard = none) (ty : TypeId) (x : Operand) (ho : o.op = .load ty x)
    (g : Nat) (hx : a.eval x = .pointer (some ⟨g, 0, none⟩)) (t : TypeId) (cs : Array Value) (d : TypeDesc) (hg : RowAt w g t cs)
    (hu : P.underlying ty = some d) (hd : (match d with | .struct _ | .array _ _ => true | _ => false) = true) (hi : (P.info? ty).map (·.size) = some cs.size)
    (h : wpList P ops Q rest (a.put o.dst (.agg cs)) w) : wpList P ops Q (o :: rest) a w :=
  wpList_load_row hgd ty x ho g hx t cs (0, 0) d hg hu hd hi h
set_option maxRecDepth 5000 in
theorem wpList_store_rowAt {P : Program} {ops : Array Oper} {rest : List Oper} {o : Oper} {a : Act} {w : World} {Q : Exit → Act → World → Prop} (hgd : o.guard = none) (ty : TypeId) (x y : Operand) (ho : o.op = .store ty x y)
    (g : Nat) (cells : Array Value) (hx : a.eval x = .pointer (some ⟨g, 0, none⟩)) (hy : a.eval y = .agg cells) (t : TypeId) (old : Array Value) (hg : RowAt w g t old)
    (hi : (P.info? ty).map (·.size) = some cells.size) (ho2 : old.size = cells.size) (h1 : cells.all (·.oneCell') = true)
    (h : wpList P ops Q rest (a.put o.dst undef) (w.setRow g cells)) : wpList P ops Q (o :: rest) a w :=
  wpList_plain hgd fun _ hK => by
    unfold Oper.wp execOp
    simp only [ho, hx, hy, Instr.storeAt, Instr.sureAddr, Sem.run_bind, Sem.run_pure, Result.andThen_ok, run_storeVar_row w g t ty old cells hg hi ho2 h1]
    exact hK _ _ h
set_option maxRecDepth 5000 in
theorem results_rowAt {P : Program} {fn : Func} {p : Tmp} {ty : TypeId} (h : fn.results = #[.cell p ty]) (tmps : Array Value) (w : World) (g : Nat) (t : TypeId) (cs : Array Value) (d : TypeDesc)
    (hp : tmps.getD p undef = .pointer (some ⟨g, 0, none⟩)) (hg : RowAt w g t cs)
    (hu : P.underlying ty = some d) (hd : (match d with | .struct _ | .array _ _ => true | _ => false) = true) (hi : (P.info? ty).map (·.size) = some cs.size) :
    (results fn tmps).run P w = .ok (.agg cs) w := results_cell_row h tmps w g t cs (0, 0) d hp hg hu hd hi
/- words and bytes as rows -/
def fw (f : Nat → BitVec 32) (j : Nat) : Value := .int .u32 (f j).toNat
def fb (f : Nat → BitVec 8) (j : Nat) : Value := .int .u8 (f j).toNat
def rowW (n : Nat) (f : Nat → BitVec 32) : Array Value := ((List.range n).map (fw f)).toArray
def rowB (n : Nat) (f : Nat → BitVec 8) : Array Value := ((List.range n).map (fb f)).toArray
set_option maxRecDepth 5000 in
theorem rowW_size (n : Nat) (f : Nat → BitVec 32) : (rowW n f).size = n := by simp [rowW]
set_option maxRecDepth 5000 in
theorem rowB_size (n : Nat) (f : Nat → BitVec 8) : (rowB n f).size = n := by simp [rowB]
set_option maxRecDepth 5000 in
theorem rowW_one (n : Nat) (f : Nat → BitVec 32) : (rowW n f).all (·.oneCell') = true := all_oneCell_toArray (fun v hv => by
  simp only [List.mem_map] at hv; obtain ⟨j, _, rfl⟩ := hv; rfl)
set_option maxRecDepth 5000 in
theorem rowB_one (n : Nat) (f : Nat → BitVec 8) : (rowB n f).all (·.oneCell') = true := all_oneCell_toArray (fun v hv => by
  simp only [List.mem_map] at hv; obtain ⟨j, _, rfl⟩ := hv; rfl)
set_option maxRecDepth 5000 in
theorem rowW_get (n : Nat) (f : Nat → BitVec 32) (j : Nat) (h : j < n) : (rowW n f)[j]? = some (.int .u32 (f j).toNat) := by simp [rowW, fw, h]
set_option maxRecDepth 5000 in
theorem rowB_get (n : Nat) (f : Nat → BitVec 8) (j : Nat) (h : j < n) : (rowB n f)[j]? = some (.int .u8 (f j).toNat) := by simp [rowB, fb, h]
set_option maxRecDepth 5000 in
theorem Own.wholeW {B : Nat} {w wr : World} {g : Nat} {t : TypeId} {n : Nat} {f : Nat → BitVec 32} (h : Own B w wr g t n n (fw f)) : RowAt wr g t (rowW n f) := by
  obtain ⟨c, hr, hs, hf⟩ := h.row
  have := hf.whole hs
  subst this; exact hr
set_option maxRecDepth 5000 in
theorem Own.wholeB {B : Nat} {w wr : World} {g : Nat} {t : TypeId} {n : Nat} {f : Nat → BitVec 8} (h : Own B w wr g t n n (fb f)) : RowAt wr g t (rowB n f) := by
  obtain ⟨c, hr, hs, hf⟩ := h.row
  have := hf.whole hs
  subst this; exact hr
set_option maxRecDepth 5000 in
theorem w_sum4 (a b c d : BitVec 32) : ((a.toNat : Int) + (b.toNat : Int) + (c.toNat : Int) + (d.toNat : Int)) % 4294967296 = ((Sha.add (Sha.add (Sha.add a b) c) d).toNat : Int) := by
  rw [← w_add, ← w_add, ← w_add]; omega
set_option maxRecDepth 5000 in
theorem w_sum5 (a b c d e : BitVec 32) : ((a.toNat : Int) + (b.toNat : Int) + (c.toNat : Int) + (d.toNat : Int) + (e.toNat : Int)) % 4294967296 = ((Sha.add (Sha.add (Sha.add (Sha.add a b) c) d) e).toNat : Int) := by
  rw [← w_add, ← w_add, ← w_add, ← w_add]; omega
set_option maxRecDepth 5000 in
theorem w_sum3 (a b c : BitVec 32) : ((a.toNat : Int) + (b.toNat : Int) + (c.toNat : Int)) % 4294967296 = ((Sha.add (Sha.add a b) c).toNat : Int) := by
  rw [← w_add, ← w_add]; omega
end Go.Proofs.YtpiehjfoojipiaaDoor

/- The state of eight words as a row, the table of the rounds as it lies in memory, a whole store that leaves the world under a new name. -/
namespace Go.Proofs.YtpiehjfoojipiaaDoor
open Go.RowKit
def rowS (s : Sha.St) : Array Value := #[.int .u32 s.a.toNat, .int .u32 s.b.toNat, .int .u32 s.c.toNat, .int .u32 s.d.toNat, .int .u32 s.e.toNat, .int .u32 s.f.toNat, .int .u32 s.g.toNat, .int .u32 s.h.toNat]
set_option maxRecDepth 5000 in
theorem rowS_size (s : Sha.St) : (rowS s).size = 8 := rfl
set_option maxRecDepth 5000 in
theorem rowS_one (s : Sha.St) : (rowS s).all (·.oneCell') = true := by kernel_rfl
def Tab (w : World) : Prop := 0 < w.heap.size ∧ ∀ i, i < 64 → w.cell? ⟨0, i, none⟩ = some (.int .u32 (Sha.kt i).toNat)
set_option maxRecDepth 5000 in
theorem Tab.below {B : Nat} {w w' : World} (h : Tab w) (hb : Below B w w') (hB : 0 < B) : Tab w' :=
  ⟨Nat.lt_of_lt_of_le h.1 hb.size, fun i hi => (hb.cell (p := ⟨0, i, none⟩) hB).trans (h.2 i hi)⟩
set_option maxRecDepth 5000 in
theorem Tab.alloc {w : World} (h : Tab w) (o : Obj) : Tab (w.alloc o) := h.below ((Below.refl w.heap.size w).alloc (Nat.le_refl _) o) h.1
set_option maxRecDepth 5000 in
theorem wpList_store_abs {P : Program} {ops : Array Oper} {rest : List Oper} {o : Oper} {a : Act} {w : World} {Q : Exit → Act → World → Prop} (hgd : o.guard = none) (ty : TypeId) (x y : Operand) (ho : o.op = .store ty x y)
    (g : Nat) (cells : Array Value) (hx : a.eval x = .pointer (some ⟨g, 0, none⟩)) (hy : a.eval y = .agg cells) (t : TypeId) (old : Array Value) (hg : RowAt w g t old)
    (hi : (P.info? ty).map (·.size) = some cells.size) (ho2 : old.size = cells.size) (h1 : cells.all (·.oneCell') = true) (B : Nat) (hB : B ≤ g)
    (h : ∀ w', RowAt w' g t cells → (∀ g' t' c, g' ≠ g → RowAt w g' t' c → RowAt w' g' t' c) → w'.heap.size = w.heap.size → Below B w w' → wpList P ops Q rest (a.put o.dst undef) w') : wpList P ops Q (o :: rest) a w :=
  wpList_store_rowAt hgd ty x y ho g cells hx hy t old hg hi ho2 h1 (h _ (setRow_same hg _) (fun _ _ _ hne hr => setRow_other hr _ hne) (by simp) (below_setRow (Below.refl _ _) hB _))
end Go.Proofs.YtpiehjfoojipiaaDoor

/- hash.putWord writes a word's four bytes, the highest first, into the row that its slice lies in, and turns nothing else. -/
namespace Go.Proofs.YtpiehjfoojipiaaDoor
open Go.RowKit
def put4 (c : Array Value) (o : Nat) (x : Int) : Array Value :=
  (((c.setIfInBounds o (.int .u8 (x / 16777216))).setIfInBounds (o + 1) (.int .u8 (x / 65536 % 256))).setIfInBounds (o + 2) (.int .u8 (x / 256 % 256))).setIfInBounds (o + 3) (.int .u8 (x % 256))
set_option maxRecDepth 5000 in
theorem put4_size (c : Array Value) (o : Nat) (x : Int) : (put4 c o x).size = c.size := by simp [put4]
set_option maxRecDepth 5000 in
theorem put4_out (c : Array Value) (o : Nat) (x : Int) (j : Nat) (h : j < o ∨ o + 4 ≤ j) : (put4 c o x)[j]? = c[j]? := by
  simp only [put4, Array.getElem?_setIfInBounds]
  rw [if_neg (by omega), if_neg (by omega), if_neg (by omega), if_neg (by omega)]
set_option maxRecDepth 5000 in
theorem put4_in (c : Array Value) (o : Nat) (x : Int) (ho : o + 4 ≤ c.size) : (put4 c o x)[o]? = some (.int .u8 (x / 16777216)) ∧ (put4 c o x)[o + 1]? = some (.int .u8 (x / 65536 % 256)) ∧ (put4 c o x)[o + 2]? = some (.int .u8 (x / 256 % 256)) ∧ (put4 c o x)[o + 3]? = some (.int .u8 (x % 256)) := by
  simp only [put4, Array.getElem?_setIfInBounds, Array.size_setIfInBounds]
  refine ⟨?_, ?_, ?_, ?_⟩
  · rw [if_neg (by omega), if_neg (by omega), if_neg (by omega), if_pos trivial, if_pos (by omega)]
  · rw [if_neg (by omega), if_neg (by omega), if_pos trivial, if_pos (by omega)]
  · rw [if_neg (by omega), if_pos trivial, if_pos (by omega)]
  · rw [if_pos trivial, if_pos (by omega)]
/- what a store into block g leaves -/
structure Only (g : Nat) (t : TypeId) (c : Array Value) (w w' : World) : Prop where
  row : RowAt w' g t c
  below : Below g w w'
  other : ∀ k, k ≠ g → w'.heap[k]? = w.heap[k]?
  size : w'.heap.size = w.heap.size
set_option maxRecDepth 5000 in
theorem Only.rowAt {g : Nat} {t : TypeId} {c : Array Value} {w w' : World} (h : Only g t c w w') {g' : Nat} {t' : TypeId} {c' : Array Value} (hr : RowAt w g' t' c') (hne : g' ≠ g) : RowAt w' g' t' c' := by
  unfold RowAt; rw [h.other g' hne]; exact hr
set_option maxHeartbeats 400000 in
set_option maxRecDepth 5000 in
theorem put_any (x : Int) (w : World) (g o n cap : Nat) (t : TypeId) (c : Array Value) (h0 : 0 ≤ x) (h1 : x < 4294967296) (hr : RowAt w g t c) (ho : o + 4 ≤ c.size) (hn : 4 ≤ n) (hm : n ≤ 9223372036854775807) :
    Calls Tryd.prog 49 #[.slice (some ⟨g, o, none⟩) n cap, .int .u32 x] w fun e w' => e = .returned (.tuple #[]) ∧ Only g t (put4 c o x) w w' := by
  have c0 : w.cell? ⟨g, o, none⟩ = some c[o] := (hr.cell o).trans (by simp)
  have c1 : w.cell? ⟨g, o + 1, none⟩ = some c[o + 1] := (hr.cell _).trans (by simp)
  have c2 : w.cell? ⟨g, o + 2, none⟩ = some c[o + 2] := (hr.cell _).trans (by simp)
  have c3 : w.cell? ⟨g, o + 3, none⟩ = some c[o + 3] := (hr.cell _).trans (by simp)
  have f0 := hr.frozen o
  have f1 := hr.frozen (o + 1)
  have f2 := hr.frozen (o + 2)
  have f3 := hr.frozen (o + 3)
  go_enter Tryd.func49, Tryd.ntmps49
  go_wp2
  go_end0
  refine ⟨rfl, ⟨?_, ?_, ?_, ?_⟩⟩
  · exact (((hr.set _ _).set _ _).set _ _).set _ _
  · exact ((((Below.refl g w).setCell (Nat.le_refl _) _).setCell (Nat.le_refl _) _).setCell (Nat.le_refl _) _).setCell (Nat.le_refl _) _
  · intro k hk
    rw [heap_setCell_other _ _ _ _ hk, heap_setCell_other _ _ _ _ hk, heap_setCell_other _ _ _ _ hk, heap_setCell_other _ _ _ _ hk]
  · simp [World.setCell]
end Go.Proofs.YtpiehjfoojipiaaDoor
