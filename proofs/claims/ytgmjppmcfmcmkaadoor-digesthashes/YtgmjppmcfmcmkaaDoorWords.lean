/- The rotations of both Go texts are the plain rotation of a word, for every word and in every world. -/
import Derived.Test.YtgmjppmcfmcmkaaDoorRows
import Derived.Test.YtgmjppmcfmcmkaaDoorSha
import Derived.WalkKit
import Derived.WalkSpells
import Derived.WalkLawsBesides
import Derived.Deep.QuietTactic
import Derived.BigQuiet
namespace Go.Proofs.YtgmjppmcfmcmkaaDoor
namespace H
open Go.RowKit

set_option maxRecDepth 5000 in
theorem ofInt_toNat32 (x : BitVec 32) : BitVec.ofInt 32 (x.toNat : Int) = x := by simp
set_option maxRecDepth 5000 in
theorem wrap_toNat32 (x : BitVec 32) : IntKind.u32.wrap (x.toNat : Int) = (x.toNat : Int) := by rw [IntKind.wrap_u32]; omega
set_option maxRecDepth 5000 in
theorem w_and (x y : BitVec 32) : bits .and .u32 (x.toNat : Int) (y.toNat : Int) = ((Sha.and x y).toNat : Int) := by
  show IntKind.u32.wrap ((BitVec.ofInt 32 (x.toNat : Int) &&& BitVec.ofInt 32 (y.toNat : Int)).toNat : Int) = _
  rw [ofInt_toNat32, ofInt_toNat32]; exact wrap_toNat32 _
set_option maxRecDepth 5000 in
theorem w_or (x y : BitVec 32) : bits .or .u32 (x.toNat : Int) (y.toNat : Int) = ((x ||| y).toNat : Int) := by
  show IntKind.u32.wrap ((BitVec.ofInt 32 (x.toNat : Int) ||| BitVec.ofInt 32 (y.toNat : Int)).toNat : Int) = _
  rw [ofInt_toNat32, ofInt_toNat32]; exact wrap_toNat32 _
set_option maxRecDepth 5000 in
theorem w_xor (x y : BitVec 32) : bits .xor .u32 (x.toNat : Int) (y.toNat : Int) = ((Sha.xor x y).toNat : Int) := by
  show IntKind.u32.wrap ((BitVec.ofInt 32 (x.toNat : Int) ^^^ BitVec.ofInt 32 (y.toNat : Int)).toNat : Int) = _
  rw [ofInt_toNat32, ofInt_toNat32]; exact wrap_toNat32 _
set_option maxRecDepth 5000 in
theorem w_not (x : BitVec 32) : bits .xor .u32 4294967295 (x.toNat : Int) = ((Sha.not x).toNat : Int) := by
  have h := w_xor (BitVec.allOnes 32) x
  unfold Sha.xor at h; unfold Sha.not
  rw [show ((BitVec.allOnes 32).toNat : Int) = 4294967295 from by decide, BitVec.allOnes_xor] at h
  exact h
set_option maxRecDepth 5000 in
theorem w_add (x y : BitVec 32) : ((x.toNat : Int) + (y.toNat : Int)) % 4294967296 = ((Sha.add x y).toNat : Int) := by
  unfold Sha.add; rw [BitVec.toNat_add]; omega
set_option maxRecDepth 5000 in
theorem w_shr (x : BitVec 32) (n : Nat) : (x.toNat : Int) / ((2 ^ n : Nat) : Int) = ((x >>> n).toNat : Int) := by
  rw [BitVec.toNat_ushiftRight, Nat.shiftRight_eq_div_pow, Int.natCast_ediv]
set_option maxRecDepth 5000 in
theorem w_shl (x : BitVec 32) (n : Nat) : (x.toNat : Int) * ((2 ^ n : Nat) : Int) % 4294967296 = ((x <<< n).toNat : Int) := by
  rw [BitVec.toNat_shiftLeft, Nat.shiftLeft_eq]
  omega


set_option maxRecDepth 5000 in
theorem w_rot2 (x : BitVec 32) : bits .or .u32 ((x.toNat : Int) * 1073741824 % 4294967296) ((x.toNat : Int) / 4) = ((Sha.rotr x 2).toNat : Int) := by
  have h1 := w_shl x 30
  have h2 := w_shr x 2
  rw [show ((2 ^ 30 : Nat) : Int) = 1073741824 from by decide] at h1
  rw [show ((2 ^ 2 : Nat) : Int) = 4 from by decide] at h2
  rw [h1, h2, w_or, BitVec.or_comm]; rfl
set_option maxRecDepth 5000 in
theorem w_turn2 (x : BitVec 32) : bits .or .u32 ((x.toNat : Int) / 4) ((x.toNat : Int) * 1073741824 % 4294967296) = ((Sha.rotr x 2).toNat : Int) := by
  have h1 := w_shl x 30
  have h2 := w_shr x 2
  rw [show ((2 ^ 30 : Nat) : Int) = 1073741824 from by decide] at h1
  rw [show ((2 ^ 2 : Nat) : Int) = 4 from by decide] at h2
  rw [h1, h2, w_or]; rfl
set_option maxHeartbeats 400000 in
set_option maxRecDepth 5000 in
theorem rot2 (x : BitVec 32) (w : World) :
    Calls Tryd.prog 44 #[.int .u32 x.toNat, .int .i64 (-2)] w fun e w' => e = .returned (.int .u32 (Sha.rotr x 2).toNat) ∧ w' = w := by
  have hk : bits .and .u64 (IntKind.u64.wrap (-2)) 31 = 30 := by decide +kernel
  go_enter Tryd.func44, Tryd.ntmps44
  go_wp2
  go_ret
  exact ⟨congrArg (fun i => Ending.returned (.int .u32 i)) (w_rot2 x), rfl⟩
set_option maxHeartbeats 400000 in
set_option maxRecDepth 5000 in
theorem turn2 (x : BitVec 32) (w : World) :
    Calls Tryd.prog 40 #[.int .u32 x.toNat, .int .i64 2] w fun e w' => e = .returned (.int .u32 (Sha.rotr x 2).toNat) ∧ ∃ k, w' = w.drewN k := by
  go_enter Tryd.func40, Tryd.ntmps40
  go_wp2
  go_quiet (fail)
  go_wp2
  go_ret
  exact ⟨congrArg (fun i => Ending.returned (.int .u32 i)) (w_turn2 x), _, rfl⟩

set_option maxRecDepth 5000 in
theorem w_rot6 (x : BitVec 32) : bits .or .u32 ((x.toNat : Int) * 67108864 % 4294967296) ((x.toNat : Int) / 64) = ((Sha.rotr x 6).toNat : Int) := by
  have h1 := w_shl x 26
  have h2 := w_shr x 6
  rw [show ((2 ^ 26 : Nat) : Int) = 67108864 from by decide] at h1
  rw [show ((2 ^ 6 : Nat) : Int) = 64 from by decide] at h2
  rw [h1, h2, w_or, BitVec.or_comm]; rfl
set_option maxRecDepth 5000 in
theorem w_turn6 (x : BitVec 32) : bits .or .u32 ((x.toNat : Int) / 64) ((x.toNat : Int) * 67108864 % 4294967296) = ((Sha.rotr x 6).toNat : Int) := by
  have h1 := w_shl x 26
  have h2 := w_shr x 6
  rw [show ((2 ^ 26 : Nat) : Int) = 67108864 from by decide] at h1
  rw [show ((2 ^ 6 : Nat) : Int) = 64 from by decide] at h2
  rw [h1, h2, w_or]; rfl
set_option maxHeartbeats 400000 in
set_option maxRecDepth 5000 in
theorem rot6 (x : BitVec 32) (w : World) :
    Calls Tryd.prog 44 #[.int .u32 x.toNat, .int .i64 (-6)] w fun e w' => e = .returned (.int .u32 (Sha.rotr x 6).toNat) ∧ w' = w := by
  have hk : bits .and .u64 (IntKind.u64.wrap (-6)) 31 = 26 := by decide +kernel
  go_enter Tryd.func44, Tryd.ntmps44
  go_wp2
  go_ret
  exact ⟨congrArg (fun i => Ending.returned (.int .u32 i)) (w_rot6 x), rfl⟩
set_option maxHeartbeats 400000 in
set_option maxRecDepth 5000 in
theorem turn6 (x : BitVec 32) (w : World) :
    Calls Tryd.prog 40 #[.int .u32 x.toNat, .int .i64 6] w fun e w' => e = .returned (.int .u32 (Sha.rotr x 6).toNat) ∧ ∃ k, w' = w.drewN k := by
  go_enter Tryd.func40, Tryd.ntmps40
  go_wp2
  go_quiet (fail)
  go_wp2
  go_ret
  exact ⟨congrArg (fun i => Ending.returned (.int .u32 i)) (w_turn6 x), _, rfl⟩

set_option maxRecDepth 5000 in
theorem w_rot7 (x : BitVec 32) : bits .or .u32 ((x.toNat : Int) * 33554432 % 4294967296) ((x.toNat : Int) / 128) = ((Sha.rotr x 7).toNat : Int) := by
  have h1 := w_shl x 25
  have h2 := w_shr x 7
  rw [show ((2 ^ 25 : Nat) : Int) = 33554432 from by decide] at h1
  rw [show ((2 ^ 7 : Nat) : Int) = 128 from by decide] at h2
  rw [h1, h2, w_or, BitVec.or_comm]; rfl
set_option maxRecDepth 5000 in
theorem w_turn7 (x : BitVec 32) : bits .or .u32 ((x.toNat : Int) / 128) ((x.toNat : Int) * 33554432 % 4294967296) = ((Sha.rotr x 7).toNat : Int) := by
  have h1 := w_shl x 25
  have h2 := w_shr x 7
  rw [show ((2 ^ 25 : Nat) : Int) = 33554432 from by decide] at h1
  rw [show ((2 ^ 7 : Nat) : Int) = 128 from by decide] at h2
  rw [h1, h2, w_or]; rfl
set_option maxHeartbeats 400000 in
set_option maxRecDepth 5000 in
theorem rot7 (x : BitVec 32) (w : World) :
    Calls Tryd.prog 44 #[.int .u32 x.toNat, .int .i64 (-7)] w fun e w' => e = .returned (.int .u32 (Sha.rotr x 7).toNat) ∧ w' = w := by
  have hk : bits .and .u64 (IntKind.u64.wrap (-7)) 31 = 25 := by decide +kernel
  go_enter Tryd.func44, Tryd.ntmps44
  go_wp2
  go_ret
  exact ⟨congrArg (fun i => Ending.returned (.int .u32 i)) (w_rot7 x), rfl⟩
set_option maxHeartbeats 400000 in
set_option maxRecDepth 5000 in
theorem turn7 (x : BitVec 32) (w : World) :
    Calls Tryd.prog 40 #[.int .u32 x.toNat, .int .i64 7] w fun e w' => e = .returned (.int .u32 (Sha.rotr x 7).toNat) ∧ ∃ k, w' = w.drewN k := by
  go_enter Tryd.func40, Tryd.ntmps40
  go_wp2
  go_quiet (fail)
  go_wp2
  go_ret
  exact ⟨congrArg (fun i => Ending.returned (.int .u32 i)) (w_turn7 x), _, rfl⟩

set_option maxRecDepth 5000 in
theorem w_rot11 (x : BitVec 32) : bits .or .u32 ((x.toNat : Int) * 2097152 % 4294967296) ((x.toNat : Int) / 2048) = ((Sha.rotr x 11).toNat : Int) := by
  have h1 := w_shl x 21
  have h2 := w_shr x 11
  rw [show ((2 ^ 21 : Nat) : Int) = 2097152 from by decide] at h1
  rw [show ((2 ^ 11 : Nat) : Int) = 2048 from by decide] at h2
  rw [h1, h2, w_or, BitVec.or_comm]; rfl
set_option maxRecDepth 5000 in
theorem w_turn11 (x : BitVec 32) : bits .or .u32 ((x.toNat : Int) / 2048) ((x.toNat : Int) * 2097152 % 4294967296) = ((Sha.rotr x 11).toNat : Int) := by
  have h1 := w_shl x 21
  have h2 := w_shr x 11
  rw [show ((2 ^ 21 : Nat) : Int) = 2097152 from by decide] at h1
  rw [show ((2 ^ 11 : Nat) : Int) = 2048 from by decide] at h2
  rw [h1, h2, w_or]; rfl
set_option maxHeartbeats 400000 in
set_option maxRecDepth 5000 in
theorem rot11 (x : BitVec 32) (w : World) :
    Calls Tryd.prog 44 #[.int .u32 x.toNat, .int .i64 (-11)] w fun e w' => e = .returned (.int .u32 (Sha.rotr x 11).toNat) ∧ w' = w := by
  have hk : bits .and .u64 (IntKind.u64.wrap (-11)) 31 = 21 := by decide +kernel
  go_enter Tryd.func44, Tryd.ntmps44
  go_wp2
  go_ret
  exact ⟨congrArg (fun i => Ending.returned (.int .u32 i)) (w_rot11 x), rfl⟩
set_option maxHeartbeats 400000 in
set_option maxRecDepth 5000 in
theorem turn11 (x : BitVec 32) (w : World) :
    Calls Tryd.prog 40 #[.int .u32 x.toNat, .int .i64 11] w fun e w' => e = .returned (.int .u32 (Sha.rotr x 11).toNat) ∧ ∃ k, w' = w.drewN k := by
  go_enter Tryd.func40, Tryd.ntmps40
  go_wp2
  go_quiet (fail)
  go_wp2
  go_ret
  exact ⟨congrArg (fun i => Ending.returned (.int .u32 i)) (w_turn11 x), _, rfl⟩

set_option maxRecDepth 5000 in
theorem w_rot13 (x : BitVec 32) : bits .or .u32 ((x.toNat : Int) * 524288 % 4294967296) ((x.toNat : Int) / 8192) = ((Sha.rotr x 13).toNat : Int) := by
  have h1 := w_shl x 19
  have h2 := w_shr x 13
  rw [show ((2 ^ 19 : Nat) : Int) = 524288 from by decide] at h1
  rw [show ((2 ^ 13 : Nat) : Int) = 8192 from by decide] at h2
  rw [h1, h2, w_or, BitVec.or_comm]; rfl
set_option maxRecDepth 5000 in
theorem w_turn13 (x : BitVec 32) : bits .or .u32 ((x.toNat : Int) / 8192) ((x.toNat : Int) * 524288 % 4294967296) = ((Sha.rotr x 13).toNat : Int) := by
  have h1 := w_shl x 19
  have h2 := w_shr x 13
  rw [show ((2 ^ 19 : Nat) : Int) = 524288 from by decide] at h1
  rw [show ((2 ^ 13 : Nat) : Int) = 8192 from by decide] at h2
  rw [h1, h2, w_or]; rfl
set_option maxHeartbeats 400000 in
set_option maxRecDepth 5000 in
theorem rot13 (x : BitVec 32) (w : World) :
    Calls Tryd.prog 44 #[.int .u32 x.toNat, .int .i64 (-13)] w fun e w' => e = .returned (.int .u32 (Sha.rotr x 13).toNat) ∧ w' = w := by
  have hk : bits .and .u64 (IntKind.u64.wrap (-13)) 31 = 19 := by decide +kernel
  go_enter Tryd.func44, Tryd.ntmps44
  go_wp2
  go_ret
  exact ⟨congrArg (fun i => Ending.returned (.int .u32 i)) (w_rot13 x), rfl⟩
set_option maxHeartbeats 400000 in
set_option maxRecDepth 5000 in
theorem turn13 (x : BitVec 32) (w : World) :
    Calls Tryd.prog 40 #[.int .u32 x.toNat, .int .i64 13] w fun e w' => e = .returned (.int .u32 (Sha.rotr x 13).toNat) ∧ ∃ k, w' = w.drewN k := by
  go_enter Tryd.func40, Tryd.ntmps40
  go_wp2
  go_quiet (fail)
  go_wp2
  go_ret
  exact ⟨congrArg (fun i => Ending.returned (.int .u32 i)) (w_turn13 x), _, rfl⟩

set_option maxRecDepth 5000 in
theorem w_rot17 (x : BitVec 32) : bits .or .u32 ((x.toNat : Int) * 32768 % 4294967296) ((x.toNat : Int) / 131072) = ((Sha.rotr x 17).toNat : Int) := by
  have h1 := w_shl x 15
  have h2 := w_shr x 17
  rw [show ((2 ^ 15 : Nat) : Int) = 32768 from by decide] at h1
  rw [show ((2 ^ 17 : Nat) : Int) = 131072 from by decide] at h2
  rw [h1, h2, w_or, BitVec.or_comm]; rfl
set_option maxRecDepth 5000 in
theorem w_turn17 (x : BitVec 32) : bits .or .u32 ((x.toNat : Int) / 131072) ((x.toNat : Int) * 32768 % 4294967296) = ((Sha.rotr x 17).toNat : Int) := by
  have h1 := w_shl x 15
  have h2 := w_shr x 17
  rw [show ((2 ^ 15 : Nat) : Int) = 32768 from by decide] at h1
  rw [show ((2 ^ 17 : Nat) : Int) = 131072 from by decide] at h2
  rw [h1, h2, w_or]; rfl
set_option maxHeartbeats 400000 in
set_option maxRecDepth 5000 in
theorem rot17 (x : BitVec 32) (w : World) :
    Calls Tryd.prog 44 #[.int .u32 x.toNat, .int .i64 (-17)] w fun e w' => e = .returned (.int .u32 (Sha.rotr x 17).toNat) ∧ w' = w := by
  have hk : bits .and .u64 (IntKind.u64.wrap (-17)) 31 = 15 := by decide +kernel
  go_enter Tryd.func44, Tryd.ntmps44
  go_wp2
  go_ret
  exact ⟨congrArg (fun i => Ending.returned (.int .u32 i)) (w_rot17 x), rfl⟩
set_option maxHeartbeats 400000 in
set_option maxRecDepth 5000 in
theorem turn17 (x : BitVec 32) (w : World) :
    Calls Tryd.prog 40 #[.int .u32 x.toNat, .int .i64 17] w fun e w' => e = .returned (.int .u32 (Sha.rotr x 17).toNat) ∧ ∃ k, w' = w.drewN k := by
  go_enter Tryd.func40, Tryd.ntmps40
  go_wp2
  go_quiet (fail)
  go_wp2
  go_ret
  exact ⟨congrArg (fun i => Ending.returned (.int .u32 i)) (w_turn17 x), _, rfl⟩

set_option maxRecDepth 5000 in
theorem w_rot18 (x : BitVec 32) : bits .or .u32 ((x.toNat : Int) * 16384 % 4294967296) ((x.toNat : Int) / 262144) = ((Sha.rotr x 18).toNat : Int) := by
  have h1 := w_shl x 14
  have h2 := w_shr x 18
  rw [show ((2 ^ 14 : Nat) : Int) = 16384 from by decide] at h1
  rw [show ((2 ^ 18 : Nat) : Int) = 262144 from by decide] at h2
  rw [h1, h2, w_or, BitVec.or_comm]; rfl
set_option maxRecDepth 5000 in
theorem w_turn18 (x : BitVec 32) : bits .or .u32 ((x.toNat : Int) / 262144) ((x.toNat : Int) * 16384 % 4294967296) = ((Sha.rotr x 18).toNat : Int) := by
  have h1 := w_shl x 14
  have h2 := w_shr x 18
  rw [show ((2 ^ 14 : Nat) : Int) = 16384 from by decide] at h1
  rw [show ((2 ^ 18 : Nat) : Int) = 262144 from by decide] at h2
  rw [h1, h2, w_or]; rfl
set_option maxHeartbeats 400000 in
set_option maxRecDepth 5000 in
theorem rot18 (x : BitVec 32) (w : World) :
    Calls Tryd.prog 44 #[.int .u32 x.toNat, .int .i64 (-18)] w fun e w' => e = .returned (.int .u32 (Sha.rotr x 18).toNat) ∧ w' = w := by
  have hk : bits .and .u64 (IntKind.u64.wrap (-18)) 31 = 14 := by decide +kernel
  go_enter Tryd.func44, Tryd.ntmps44
  go_wp2
  go_ret
  exact ⟨congrArg (fun i => Ending.returned (.int .u32 i)) (w_rot18 x), rfl⟩
set_option maxHeartbeats 400000 in
set_option maxRecDepth 5000 in
theorem turn18 (x : BitVec 32) (w : World) :
    Calls Tryd.prog 40 #[.int .u32 x.toNat, .int .i64 18] w fun e w' => e = .returned (.int .u32 (Sha.rotr x 18).toNat) ∧ ∃ k, w' = w.drewN k := by
  go_enter Tryd.func40, Tryd.ntmps40
  go_wp2
  go_quiet (fail)
  go_wp2
  go_ret
  exact ⟨congrArg (fun i => Ending.returned (.int .u32 i)) (w_turn18 x), _, rfl⟩

set_option maxRecDepth 5000 in
theorem w_rot19 (x : BitVec 32) : bits .or .u32 ((x.toNat : Int) * 8192 % 4294967296) ((x.toNat : Int) / 524288) = ((Sha.rotr x 19).toNat : Int) := by
  have h1 := w_shl x 13
  have h2 := w_shr x 19
  rw [show ((2 ^ 13 : Nat) : Int) = 8192 from by decide] at h1
  rw [show ((2 ^ 19 : Nat) : Int) = 524288 from by decide] at h2
  rw [h1, h2, w_or, BitVec.or_comm]; rfl
set_option maxRecDepth 5000 in
theorem w_turn19 (x : BitVec 32) : bits .or .u32 ((x.toNat : Int) / 524288) ((x.toNat : Int) * 8192 % 4294967296) = ((Sha.rotr x 19).toNat : Int) := by
  have h1 := w_shl x 13
  have h2 := w_shr x 19
  rw [show ((2 ^ 13 : Nat) : Int) = 8192 from by decide] at h1
  rw [show ((2 ^ 19 : Nat) : Int) = 524288 from by decide] at h2
  rw [h1, h2, w_or]; rfl
set_option maxHeartbeats 400000 in
set_option maxRecDepth 5000 in
theorem rot19 (x : BitVec 32) (w : World) :
    Calls Tryd.prog 44 #[.int .u32 x.toNat, .int .i64 (-19)] w fun e w' => e = .returned (.int .u32 (Sha.rotr x 19).toNat) ∧ w' = w := by
  have hk : bits .and .u64 (IntKind.u64.wrap (-19)) 31 = 13 := by decide +kernel
  go_enter Tryd.func44, Tryd.ntmps44
  go_wp2
  go_ret
  exact ⟨congrArg (fun i => Ending.returned (.int .u32 i)) (w_rot19 x), rfl⟩
set_option maxHeartbeats 400000 in
set_option maxRecDepth 5000 in
theorem turn19 (x : BitVec 32) (w : World) :
    Calls Tryd.prog 40 #[.int .u32 x.toNat, .int .i64 19] w fun e w' => e = .returned (.int .u32 (Sha.rotr x 19).toNat) ∧ ∃ k, w' = w.drewN k := by
  go_enter Tryd.func40, Tryd.ntmps40
  go_wp2
  go_quiet (fail)
  go_wp2
  go_ret
  exact ⟨congrArg (fun i => Ending.returned (.int .u32 i)) (w_turn19 x), _, rfl⟩

set_option maxRecDepth 5000 in
theorem w_rot22 (x : BitVec 32) : bits .or .u32 ((x.toNat : Int) * 1024 % 4294967296) ((x.toNat : Int) / 4194304) = ((Sha.rotr x 22).toNat : Int) := by
  have h1 := w_shl x 10
  have h2 := w_shr x 22
  rw [show ((2 ^ 10 : Nat) : Int) = 1024 from by decide] at h1
  rw [show ((2 ^ 22 : Nat) : Int) = 4194304 from by decide] at h2
  rw [h1, h2, w_or, BitVec.or_comm]; rfl
set_option maxRecDepth 5000 in
theorem w_turn22 (x : BitVec 32) : bits .or .u32 ((x.toNat : Int) / 4194304) ((x.toNat : Int) * 1024 % 4294967296) = ((Sha.rotr x 22).toNat : Int) := by
  have h1 := w_shl x 10
  have h2 := w_shr x 22
  rw [show ((2 ^ 10 : Nat) : Int) = 1024 from by decide] at h1
  rw [show ((2 ^ 22 : Nat) : Int) = 4194304 from by decide] at h2
  rw [h1, h2, w_or]; rfl
set_option maxHeartbeats 400000 in
set_option maxRecDepth 5000 in
theorem rot22 (x : BitVec 32) (w : World) :
    Calls Tryd.prog 44 #[.int .u32 x.toNat, .int .i64 (-22)] w fun e w' => e = .returned (.int .u32 (Sha.rotr x 22).toNat) ∧ w' = w := by
  have hk : bits .and .u64 (IntKind.u64.wrap (-22)) 31 = 10 := by decide +kernel
  go_enter Tryd.func44, Tryd.ntmps44
  go_wp2
  go_ret
  exact ⟨congrArg (fun i => Ending.returned (.int .u32 i)) (w_rot22 x), rfl⟩
set_option maxHeartbeats 400000 in
set_option maxRecDepth 5000 in
theorem turn22 (x : BitVec 32) (w : World) :
    Calls Tryd.prog 40 #[.int .u32 x.toNat, .int .i64 22] w fun e w' => e = .returned (.int .u32 (Sha.rotr x 22).toNat) ∧ ∃ k, w' = w.drewN k := by
  go_enter Tryd.func40, Tryd.ntmps40
  go_wp2
  go_quiet (fail)
  go_wp2
  go_ret
  exact ⟨congrArg (fun i => Ending.returned (.int .u32 i)) (w_turn22 x), _, rfl⟩

set_option maxRecDepth 5000 in
theorem w_rot25 (x : BitVec 32) : bits .or .u32 ((x.toNat : Int) * 128 % 4294967296) ((x.toNat : Int) / 33554432) = ((Sha.rotr x 25).toNat : Int) := by
  have h1 := w_shl x 7
  have h2 := w_shr x 25
  rw [show ((2 ^ 7 : Nat) : Int) = 128 from by decide] at h1
  rw [show ((2 ^ 25 : Nat) : Int) = 33554432 from by decide] at h2
  rw [h1, h2, w_or, BitVec.or_comm]; rfl
set_option maxRecDepth 5000 in
theorem w_turn25 (x : BitVec 32) : bits .or .u32 ((x.toNat : Int) / 33554432) ((x.toNat : Int) * 128 % 4294967296) = ((Sha.rotr x 25).toNat : Int) := by
  have h1 := w_shl x 7
  have h2 := w_shr x 25
  rw [show ((2 ^ 7 : Nat) : Int) = 128 from by decide] at h1
  rw [show ((2 ^ 25 : Nat) : Int) = 33554432 from by decide] at h2
  rw [h1, h2, w_or]; rfl
set_option maxHeartbeats 400000 in
set_option maxRecDepth 5000 in
theorem rot25 (x : BitVec 32) (w : World) :
    Calls Tryd.prog 44 #[.int .u32 x.toNat, .int .i64 (-25)] w fun e w' => e = .returned (.int .u32 (Sha.rotr x 25).toNat) ∧ w' = w := by
  have hk : bits .and .u64 (IntKind.u64.wrap (-25)) 31 = 7 := by decide +kernel
  go_enter Tryd.func44, Tryd.ntmps44
  go_wp2
  go_ret
  exact ⟨congrArg (fun i => Ending.returned (.int .u32 i)) (w_rot25 x), rfl⟩
set_option maxHeartbeats 400000 in
set_option maxRecDepth 5000 in
theorem turn25 (x : BitVec 32) (w : World) :
    Calls Tryd.prog 40 #[.int .u32 x.toNat, .int .i64 25] w fun e w' => e = .returned (.int .u32 (Sha.rotr x 25).toNat) ∧ ∃ k, w' = w.drewN k := by
  go_enter Tryd.func40, Tryd.ntmps40
  go_wp2
  go_quiet (fail)
  go_wp2
  go_ret
  exact ⟨congrArg (fun i => Ending.returned (.int .u32 i)) (w_turn25 x), _, rfl⟩

set_option maxRecDepth 5000 in
theorem rot_any (x : BitVec 32) (n : Int) (w : World) (h : n = -2 ∨ n = -6 ∨ n = -7 ∨ n = -11 ∨ n = -13 ∨ n = -17 ∨ n = -18 ∨ n = -19 ∨ n = -22 ∨ n = -25) :
    Calls Tryd.prog 44 #[.int .u32 x.toNat, .int .i64 n] w fun e w' => e = .returned (.int .u32 (Sha.rotr x n.natAbs).toNat) ∧ w' = w := by
  rcases h with rfl | rfl | rfl | rfl | rfl | rfl | rfl | rfl | rfl | rfl
  · exact rot2 x w
  · exact rot6 x w
  · exact rot7 x w
  · exact rot11 x w
  · exact rot13 x w
  · exact rot17 x w
  · exact rot18 x w
  · exact rot19 x w
  · exact rot22 x w
  · exact rot25 x w

set_option maxRecDepth 5000 in
theorem turn_any (x : BitVec 32) (n : Int) (w : World) (h : n = 2 ∨ n = 6 ∨ n = 7 ∨ n = 11 ∨ n = 13 ∨ n = 17 ∨ n = 18 ∨ n = 19 ∨ n = 22 ∨ n = 25) :
    Calls Tryd.prog 40 #[.int .u32 x.toNat, .int .i64 n] w fun e w' => e = .returned (.int .u32 (Sha.rotr x n.natAbs).toNat) ∧ ∃ k, w' = w.drewN k := by
  rcases h with rfl | rfl | rfl | rfl | rfl | rfl | rfl | rfl | rfl | rfl
  · exact turn2 x w
  · exact turn6 x w
  · exact turn7 x w
  · exact turn11 x w
  · exact turn13 x w
  · exact turn17 x w
  · exact turn18 x w
  · exact turn19 x w
  · exact turn22 x w
  · exact turn25 x w

set_option maxRecDepth 5000 in
theorem w_be (a b c d : BitVec 8) : bits .or .u32 (bits .or .u32 (bits .or .u32 ((a.toNat : Int) * 16777216) ((b.toNat : Int) * 65536)) ((c.toNat : Int) * 256)) (d.toNat : Int) = ((Sha.be a b c d).toNat : Int) := by
  have ha : (a.toNat : Int) * (16777216 : Int) = ((a.setWidth 32 <<< 24).toNat : Int) := by
    rw [BitVec.toNat_shiftLeft, BitVec.toNat_setWidth, Nat.shiftLeft_eq]; omega
  have hb : (b.toNat : Int) * (65536 : Int) = ((b.setWidth 32 <<< 16).toNat : Int) := by
    rw [BitVec.toNat_shiftLeft, BitVec.toNat_setWidth, Nat.shiftLeft_eq]; omega
  have hc : (c.toNat : Int) * (256 : Int) = ((c.setWidth 32 <<< 8).toNat : Int) := by
    rw [BitVec.toNat_shiftLeft, BitVec.toNat_setWidth, Nat.shiftLeft_eq]; omega
  have hd : (d.toNat : Int) = ((d.setWidth 32).toNat : Int) := by
    rw [BitVec.toNat_setWidth]; omega
  rw [ha, hb, hc, hd, w_or, w_or, w_or]; rfl
set_option maxRecDepth 5000 in
theorem w_shr3 (x : BitVec 32) : (x.toNat : Int) / 8 = ((Sha.shr x 3).toNat : Int) := by have := w_shr x 3; simpa [Sha.shr] using this
set_option maxRecDepth 5000 in
theorem w_shr10 (x : BitVec 32) : (x.toNat : Int) / 1024 = ((Sha.shr x 10).toNat : Int) := by have := w_shr x 10; simpa [Sha.shr] using this

end H
end Go.Proofs.YtgmjppmcfmcmkaaDoor
