/- signethelp.Soa, Sig, Chain, KeyData: the same things are told to be the same. -/
import Derived.Test.YtagopkmehlpjpaaKnown
namespace Go.Proofs.Ytagopkmehlpjpaa
open Go.RowKit
set_option maxHeartbeats 1600000 in
set_option maxRecDepth 5000 in
theorem hSoa_same (s : D.Soa) (a0 b0 a1 b1 : Option Addr) (c0 d0 c1 d1 : Nat) (w : World) (ha0 : SlS w a0 s.main) (hb0 : SlS w b0 s.main) (hl0 : s.main.length ≤ 100000) (ha1 : SlS w a1 s.box) (hb1 : SlS w b1 s.box) (hl1 : s.box.length ≤ 100000) :
    Calls Try.prog 20 #[.agg #[.slice a0 s.main.length c0, .slice a1 s.box.length c1, .int .u32 (s.a : Int), .int .u32 (s.b : Int), .int .u32 (s.c : Int), .int .u32 (s.d : Int), .int .u32 (s.e : Int)], .agg #[.slice b0 s.main.length d0, .slice b1 s.box.length d1, .int .u32 (s.a : Int), .int .u32 (s.b : Int), .int .u32 (s.c : Int), .int .u32 (s.d : Int), .int .u32 (s.e : Int)]] w fun e w' => e = .returned (.bool true) ∧ Below w.heap.size w w' := by
  have SA0 := hide ha0
  have SB0 := hide hb0
  have SA1 := hide ha1
  have SB1 := hide hb1
  clear ha0 hb0 ha1 hb1
  have RA := hide ((RowAt.new w 43 #[.slice a0 s.main.length c0, .slice a1 s.box.length c1, .int .u32 (s.a : Int), .int .u32 (s.b : Int), .int .u32 (s.c : Int), .int .u32 (s.d : Int), .int .u32 (s.e : Int)]).alloc (.cells #[.slice b0 s.main.length d0, .slice b1 s.box.length d1, .int .u32 (s.a : Int), .int .u32 (s.b : Int), .int .u32 (s.c : Int), .int .u32 (s.d : Int), .int .u32 (s.e : Int)] 43))
  have rb := RowAt.new (w.alloc (.cells #[.slice a0 s.main.length c0, .slice a1 s.box.length c1, .int .u32 (s.a : Int), .int .u32 (s.b : Int), .int .u32 (s.c : Int), .int .u32 (s.d : Int), .int .u32 (s.e : Int)] 43)) 43 #[.slice b0 s.main.length d0, .slice b1 s.box.length d1, .int .u32 (s.a : Int), .int .u32 (s.b : Int), .int .u32 (s.c : Int), .int .u32 (s.d : Int), .int .u32 (s.e : Int)]
  rw [World.size_alloc] at rb
  have RB := hide rb
  have BW := hide (((Below.refl w.heap.size w).alloc (Nat.le_refl _) (.cells #[.slice a0 s.main.length c0, .slice a1 s.box.length c1, .int .u32 (s.a : Int), .int .u32 (s.b : Int), .int .u32 (s.c : Int), .int .u32 (s.d : Int), .int .u32 (s.e : Int)] 43)).alloc (by simp) (.cells #[.slice b0 s.main.length d0, .slice b1 s.box.length d1, .int .u32 (s.a : Int), .int .u32 (s.b : Int), .int .u32 (s.c : Int), .int .u32 (s.d : Int), .int .u32 (s.e : Int)] 43))
  clear rb
  go_enter Try.func20, Try.ntmps20
  go_wp2_with fail
  refine (name_same s.main a0 b0 s.main.length s.main.length c0 d0 _ rfl rfl (by exact SA0.out.below BW.out (Nat.le_refl _)) (by exact SB0.out.below BW.out (Nat.le_refl _)) (by omega)).mono ?_
  rintro e w1 ⟨rfl, hd1⟩
  have hb1 := drew_below ((w.alloc (.cells #[.slice a0 s.main.length c0, .slice a1 s.box.length c1, .int .u32 (s.a : Int), .int .u32 (s.b : Int), .int .u32 (s.c : Int), .int .u32 (s.d : Int), .int .u32 (s.e : Int)] 43)).alloc (.cells #[.slice b0 s.main.length d0, .slice b1 s.box.length d1, .int .u32 (s.a : Int), .int .u32 (s.b : Int), .int .u32 (s.c : Int), .int .u32 (s.d : Int), .int .u32 (s.e : Int)] 43)).heap.size hd1
  have RA1 := hide (RA.out.below hb1 RA.out.lt)
  have RB1 := hide (RB.out.below hb1 RB.out.lt)
  have BW1 := hide (BW.out.trans (hb1.mono BW.out.size))
  have p1_0 : w1.cell? ⟨w.heap.size, 0, none⟩ = some (.slice a0 s.main.length c0) := RA1.out.cell 0
  have q1_0 : w1.cell? ⟨w.heap.size + 1, 0, none⟩ = some (.slice b0 s.main.length d0) := RB1.out.cell 0
  have p1_1 : w1.cell? ⟨w.heap.size, 1, none⟩ = some (.slice a1 s.box.length c1) := RA1.out.cell 1
  have q1_1 : w1.cell? ⟨w.heap.size + 1, 1, none⟩ = some (.slice b1 s.box.length d1) := RB1.out.cell 1
  have p1_2 : w1.cell? ⟨w.heap.size, 2, none⟩ = some (.int .u32 (s.a : Int)) := RA1.out.cell 2
  have q1_2 : w1.cell? ⟨w.heap.size + 1, 2, none⟩ = some (.int .u32 (s.a : Int)) := RB1.out.cell 2
  have p1_3 : w1.cell? ⟨w.heap.size, 3, none⟩ = some (.int .u32 (s.b : Int)) := RA1.out.cell 3
  have q1_3 : w1.cell? ⟨w.heap.size + 1, 3, none⟩ = some (.int .u32 (s.b : Int)) := RB1.out.cell 3
  have p1_4 : w1.cell? ⟨w.heap.size, 4, none⟩ = some (.int .u32 (s.c : Int)) := RA1.out.cell 4
  have q1_4 : w1.cell? ⟨w.heap.size + 1, 4, none⟩ = some (.int .u32 (s.c : Int)) := RB1.out.cell 4
  have p1_5 : w1.cell? ⟨w.heap.size, 5, none⟩ = some (.int .u32 (s.d : Int)) := RA1.out.cell 5
  have q1_5 : w1.cell? ⟨w.heap.size + 1, 5, none⟩ = some (.int .u32 (s.d : Int)) := RB1.out.cell 5
  have p1_6 : w1.cell? ⟨w.heap.size, 6, none⟩ = some (.int .u32 (s.e : Int)) := RA1.out.cell 6
  have q1_6 : w1.cell? ⟨w.heap.size + 1, 6, none⟩ = some (.int .u32 (s.e : Int)) := RB1.out.cell 6
  clear hd1 hb1
  go_wp2_with fail
  refine (name_same s.box a1 b1 s.box.length s.box.length c1 d1 _ rfl rfl (by exact SA1.out.below BW1.out (Nat.le_refl _)) (by exact SB1.out.below BW1.out (Nat.le_refl _)) (by omega)).mono ?_
  rintro e w2 ⟨rfl, hd2⟩
  have hb2 := drew_below (w1).heap.size hd2
  have RA2 := hide (RA1.out.below hb2 RA1.out.lt)
  have RB2 := hide (RB1.out.below hb2 RB1.out.lt)
  have BW2 := hide (BW1.out.trans (hb2.mono BW1.out.size))
  have p2_0 : w2.cell? ⟨w.heap.size, 0, none⟩ = some (.slice a0 s.main.length c0) := RA2.out.cell 0
  have q2_0 : w2.cell? ⟨w.heap.size + 1, 0, none⟩ = some (.slice b0 s.main.length d0) := RB2.out.cell 0
  have p2_1 : w2.cell? ⟨w.heap.size, 1, none⟩ = some (.slice a1 s.box.length c1) := RA2.out.cell 1
  have q2_1 : w2.cell? ⟨w.heap.size + 1, 1, none⟩ = some (.slice b1 s.box.length d1) := RB2.out.cell 1
  have p2_2 : w2.cell? ⟨w.heap.size, 2, none⟩ = some (.int .u32 (s.a : Int)) := RA2.out.cell 2
  have q2_2 : w2.cell? ⟨w.heap.size + 1, 2, none⟩ = some (.int .u32 (s.a : Int)) := RB2.out.cell 2
  have p2_3 : w2.cell? ⟨w.heap.size, 3, none⟩ = some (.int .u32 (s.b : Int)) := RA2.out.cell 3
  have q2_3 : w2.cell? ⟨w.heap.size + 1, 3, none⟩ = some (.int .u32 (s.b : Int)) := RB2.out.cell 3
  have p2_4 : w2.cell? ⟨w.heap.size, 4, none⟩ = some (.int .u32 (s.c : Int)) := RA2.out.cell 4
  have q2_4 : w2.cell? ⟨w.heap.size + 1, 4, none⟩ = some (.int .u32 (s.c : Int)) := RB2.out.cell 4
  have p2_5 : w2.cell? ⟨w.heap.size, 5, none⟩ = some (.int .u32 (s.d : Int)) := RA2.out.cell 5
  have q2_5 : w2.cell? ⟨w.heap.size + 1, 5, none⟩ = some (.int .u32 (s.d : Int)) := RB2.out.cell 5
  have p2_6 : w2.cell? ⟨w.heap.size, 6, none⟩ = some (.int .u32 (s.e : Int)) := RA2.out.cell 6
  have q2_6 : w2.cell? ⟨w.heap.size + 1, 6, none⟩ = some (.int .u32 (s.e : Int)) := RB2.out.cell 6
  clear p1_0 q1_0 p1_1 q1_1 p1_2 q1_2 p1_3 q1_3 p1_4 q1_4 p1_5 q1_5 p1_6 q1_6 RA1 RB1
  clear hd2 hb2
  go_wp2
  go_ret
  exact ⟨by simp, BW2.out⟩
set_option maxHeartbeats 1600000 in
set_option maxRecDepth 5000 in
theorem hSig_same (s : D.Sig) (a7 b7 : Option Addr) (c7 d7 : Nat) (va vb : Value) (w : World) (ha7 : SlS w a7 s.signer) (hb7 : SlS w b7 s.signer) (hl7 : s.signer.length ≤ 100000) :
    Calls Try.prog 24 #[.agg #[.int .u16 (s.type : Int), .int .u8 (s.alg : Int), .int .u8 (s.labels : Int), .int .u32 (s.ttl : Int), .int .u32 (s.expire : Int), .int .u32 (s.begin_ : Int), .int .u16 (s.tag : Int), .slice a7 s.signer.length c7, va], .agg #[.int .u16 (s.type : Int), .int .u8 (s.alg : Int), .int .u8 (s.labels : Int), .int .u32 (s.ttl : Int), .int .u32 (s.expire : Int), .int .u32 (s.begin_ : Int), .int .u16 (s.tag : Int), .slice b7 s.signer.length d7, vb]] w fun e w' => e = .returned (.bool true) ∧ Below w.heap.size w w' := by
  have SA7 := hide ha7
  have SB7 := hide hb7
  clear ha7 hb7
  have RA := hide ((RowAt.new w 51 #[.int .u16 (s.type : Int), .int .u8 (s.alg : Int), .int .u8 (s.labels : Int), .int .u32 (s.ttl : Int), .int .u32 (s.expire : Int), .int .u32 (s.begin_ : Int), .int .u16 (s.tag : Int), .slice a7 s.signer.length c7, va]).alloc (.cells #[.int .u16 (s.type : Int), .int .u8 (s.alg : Int), .int .u8 (s.labels : Int), .int .u32 (s.ttl : Int), .int .u32 (s.expire : Int), .int .u32 (s.begin_ : Int), .int .u16 (s.tag : Int), .slice b7 s.signer.length d7, vb] 51))
  have rb := RowAt.new (w.alloc (.cells #[.int .u16 (s.type : Int), .int .u8 (s.alg : Int), .int .u8 (s.labels : Int), .int .u32 (s.ttl : Int), .int .u32 (s.expire : Int), .int .u32 (s.begin_ : Int), .int .u16 (s.tag : Int), .slice a7 s.signer.length c7, va] 51)) 51 #[.int .u16 (s.type : Int), .int .u8 (s.alg : Int), .int .u8 (s.labels : Int), .int .u32 (s.ttl : Int), .int .u32 (s.expire : Int), .int .u32 (s.begin_ : Int), .int .u16 (s.tag : Int), .slice b7 s.signer.length d7, vb]
  rw [World.size_alloc] at rb
  have RB := hide rb
  have BW := hide (((Below.refl w.heap.size w).alloc (Nat.le_refl _) (.cells #[.int .u16 (s.type : Int), .int .u8 (s.alg : Int), .int .u8 (s.labels : Int), .int .u32 (s.ttl : Int), .int .u32 (s.expire : Int), .int .u32 (s.begin_ : Int), .int .u16 (s.tag : Int), .slice a7 s.signer.length c7, va] 51)).alloc (by simp) (.cells #[.int .u16 (s.type : Int), .int .u8 (s.alg : Int), .int .u8 (s.labels : Int), .int .u32 (s.ttl : Int), .int .u32 (s.expire : Int), .int .u32 (s.begin_ : Int), .int .u16 (s.tag : Int), .slice b7 s.signer.length d7, vb] 51))
  clear rb
  go_enter Try.func24, Try.ntmps24
  go_wp2_with fail
  refine (name_same s.signer a7 b7 s.signer.length s.signer.length c7 d7 _ rfl rfl (by exact SA7.out.below BW.out (Nat.le_refl _)) (by exact SB7.out.below BW.out (Nat.le_refl _)) (by omega)).mono ?_
  rintro e w1 ⟨rfl, hd1⟩
  have hb1 := drew_below ((w.alloc (.cells #[.int .u16 (s.type : Int), .int .u8 (s.alg : Int), .int .u8 (s.labels : Int), .int .u32 (s.ttl : Int), .int .u32 (s.expire : Int), .int .u32 (s.begin_ : Int), .int .u16 (s.tag : Int), .slice a7 s.signer.length c7, va] 51)).alloc (.cells #[.int .u16 (s.type : Int), .int .u8 (s.alg : Int), .int .u8 (s.labels : Int), .int .u32 (s.ttl : Int), .int .u32 (s.expire : Int), .int .u32 (s.begin_ : Int), .int .u16 (s.tag : Int), .slice b7 s.signer.length d7, vb] 51)).heap.size hd1
  have RA1 := hide (RA.out.below hb1 RA.out.lt)
  have RB1 := hide (RB.out.below hb1 RB.out.lt)
  have BW1 := hide (BW.out.trans (hb1.mono BW.out.size))
  have p1_0 : w1.cell? ⟨w.heap.size, 0, none⟩ = some (.int .u16 (s.type : Int)) := RA1.out.cell 0
  have q1_0 : w1.cell? ⟨w.heap.size + 1, 0, none⟩ = some (.int .u16 (s.type : Int)) := RB1.out.cell 0
  have p1_1 : w1.cell? ⟨w.heap.size, 1, none⟩ = some (.int .u8 (s.alg : Int)) := RA1.out.cell 1
  have q1_1 : w1.cell? ⟨w.heap.size + 1, 1, none⟩ = some (.int .u8 (s.alg : Int)) := RB1.out.cell 1
  have p1_2 : w1.cell? ⟨w.heap.size, 2, none⟩ = some (.int .u8 (s.labels : Int)) := RA1.out.cell 2
  have q1_2 : w1.cell? ⟨w.heap.size + 1, 2, none⟩ = some (.int .u8 (s.labels : Int)) := RB1.out.cell 2
  have p1_3 : w1.cell? ⟨w.heap.size, 3, none⟩ = some (.int .u32 (s.ttl : Int)) := RA1.out.cell 3
  have q1_3 : w1.cell? ⟨w.heap.size + 1, 3, none⟩ = some (.int .u32 (s.ttl : Int)) := RB1.out.cell 3
  have p1_4 : w1.cell? ⟨w.heap.size, 4, none⟩ = some (.int .u32 (s.expire : Int)) := RA1.out.cell 4
  have q1_4 : w1.cell? ⟨w.heap.size + 1, 4, none⟩ = some (.int .u32 (s.expire : Int)) := RB1.out.cell 4
  have p1_5 : w1.cell? ⟨w.heap.size, 5, none⟩ = some (.int .u32 (s.begin_ : Int)) := RA1.out.cell 5
  have q1_5 : w1.cell? ⟨w.heap.size + 1, 5, none⟩ = some (.int .u32 (s.begin_ : Int)) := RB1.out.cell 5
  have p1_6 : w1.cell? ⟨w.heap.size, 6, none⟩ = some (.int .u16 (s.tag : Int)) := RA1.out.cell 6
  have q1_6 : w1.cell? ⟨w.heap.size + 1, 6, none⟩ = some (.int .u16 (s.tag : Int)) := RB1.out.cell 6
  have p1_7 : w1.cell? ⟨w.heap.size, 7, none⟩ = some (.slice a7 s.signer.length c7) := RA1.out.cell 7
  have q1_7 : w1.cell? ⟨w.heap.size + 1, 7, none⟩ = some (.slice b7 s.signer.length d7) := RB1.out.cell 7
  have p1_8 : w1.cell? ⟨w.heap.size, 8, none⟩ = some (va) := RA1.out.cell 8
  have q1_8 : w1.cell? ⟨w.heap.size + 1, 8, none⟩ = some (vb) := RB1.out.cell 8
  clear hd1 hb1
  go_wp2
  go_ret
  exact ⟨by simp, BW1.out⟩
set_option maxHeartbeats 1600000 in
set_option maxRecDepth 5000 in
theorem hChain_same (s : D.Chain) (a3 b3 a4 b4 a5 b5 : Option Addr) (c3 d3 c4 d4 c5 d5 : Nat) (w : World) (ha3 : SlL w a3 s.salt) (hb3 : SlL w b3 s.salt) (ha4 : SlL w a4 s.next) (hb4 : SlL w b4 s.next) (ha5 : SlH w a5 s.types) (hb5 : SlH w b5 s.types) (hl5 : s.types.length ≤ 1000000) :
    Calls Try.prog 28 #[.agg #[.int .u8 (s.hash : Int), .int .u8 (s.flags : Int), .int .u16 (s.iter : Int), .slice a3 s.salt.length c3, .slice a4 s.next.length c4, .slice a5 s.types.length c5], .agg #[.int .u8 (s.hash : Int), .int .u8 (s.flags : Int), .int .u16 (s.iter : Int), .slice b3 s.salt.length d3, .slice b4 s.next.length d4, .slice b5 s.types.length d5]] w fun e w' => e = .returned (.bool true) ∧ Below w.heap.size w w' := by
  have SA3 := hide ha3
  have SB3 := hide hb3
  have SA4 := hide ha4
  have SB4 := hide hb4
  have SA5 := hide ha5
  have SB5 := hide hb5
  clear ha3 hb3 ha4 hb4 ha5 hb5
  have RA := hide ((RowAt.new w 60 #[.int .u8 (s.hash : Int), .int .u8 (s.flags : Int), .int .u16 (s.iter : Int), .slice a3 s.salt.length c3, .slice a4 s.next.length c4, .slice a5 s.types.length c5]).alloc (.cells #[.int .u8 (s.hash : Int), .int .u8 (s.flags : Int), .int .u16 (s.iter : Int), .slice b3 s.salt.length d3, .slice b4 s.next.length d4, .slice b5 s.types.length d5] 60))
  have rb := RowAt.new (w.alloc (.cells #[.int .u8 (s.hash : Int), .int .u8 (s.flags : Int), .int .u16 (s.iter : Int), .slice a3 s.salt.length c3, .slice a4 s.next.length c4, .slice a5 s.types.length c5] 60)) 60 #[.int .u8 (s.hash : Int), .int .u8 (s.flags : Int), .int .u16 (s.iter : Int), .slice b3 s.salt.length d3, .slice b4 s.next.length d4, .slice b5 s.types.length d5]
  rw [World.size_alloc] at rb
  have RB := hide rb
  have BW := hide (((Below.refl w.heap.size w).alloc (Nat.le_refl _) (.cells #[.int .u8 (s.hash : Int), .int .u8 (s.flags : Int), .int .u16 (s.iter : Int), .slice a3 s.salt.length c3, .slice a4 s.next.length c4, .slice a5 s.types.length c5] 60)).alloc (by simp) (.cells #[.int .u8 (s.hash : Int), .int .u8 (s.flags : Int), .int .u16 (s.iter : Int), .slice b3 s.salt.length d3, .slice b4 s.next.length d4, .slice b5 s.types.length d5] 60))
  clear rb
  go_enter Try.func28, Try.ntmps28
  go_wp2_with fail
  refine (bytes_same s.salt a3 b3 s.salt.length s.salt.length c3 d3 _ (by exact SA3.out.below BW.out (Nat.le_refl _)) (by exact SB3.out.below BW.out (Nat.le_refl _)) rfl rfl).mono ?_
  rintro e w1 ⟨rfl, hd1⟩
  have hb1 : Below ((w.alloc (.cells #[.int .u8 (s.hash : Int), .int .u8 (s.flags : Int), .int .u16 (s.iter : Int), .slice a3 s.salt.length c3, .slice a4 s.next.length c4, .slice a5 s.types.length c5] 60)).alloc (.cells #[.int .u8 (s.hash : Int), .int .u8 (s.flags : Int), .int .u16 (s.iter : Int), .slice b3 s.salt.length d3, .slice b4 s.next.length d4, .slice b5 s.types.length d5] 60)).heap.size ((w.alloc (.cells #[.int .u8 (s.hash : Int), .int .u8 (s.flags : Int), .int .u16 (s.iter : Int), .slice a3 s.salt.length c3, .slice a4 s.next.length c4, .slice a5 s.types.length c5] 60)).alloc (.cells #[.int .u8 (s.hash : Int), .int .u8 (s.flags : Int), .int .u16 (s.iter : Int), .slice b3 s.salt.length d3, .slice b4 s.next.length d4, .slice b5 s.types.length d5] 60)) w1 := by rw [hd1]; exact Below.refl _ _
  have RA1 := hide (RA.out.below hb1 RA.out.lt)
  have RB1 := hide (RB.out.below hb1 RB.out.lt)
  have BW1 := hide (BW.out.trans (hb1.mono BW.out.size))
  have p1_0 : w1.cell? ⟨w.heap.size, 0, none⟩ = some (.int .u8 (s.hash : Int)) := RA1.out.cell 0
  have q1_0 : w1.cell? ⟨w.heap.size + 1, 0, none⟩ = some (.int .u8 (s.hash : Int)) := RB1.out.cell 0
  have p1_1 : w1.cell? ⟨w.heap.size, 1, none⟩ = some (.int .u8 (s.flags : Int)) := RA1.out.cell 1
  have q1_1 : w1.cell? ⟨w.heap.size + 1, 1, none⟩ = some (.int .u8 (s.flags : Int)) := RB1.out.cell 1
  have p1_2 : w1.cell? ⟨w.heap.size, 2, none⟩ = some (.int .u16 (s.iter : Int)) := RA1.out.cell 2
  have q1_2 : w1.cell? ⟨w.heap.size + 1, 2, none⟩ = some (.int .u16 (s.iter : Int)) := RB1.out.cell 2
  have p1_3 : w1.cell? ⟨w.heap.size, 3, none⟩ = some (.slice a3 s.salt.length c3) := RA1.out.cell 3
  have q1_3 : w1.cell? ⟨w.heap.size + 1, 3, none⟩ = some (.slice b3 s.salt.length d3) := RB1.out.cell 3
  have p1_4 : w1.cell? ⟨w.heap.size, 4, none⟩ = some (.slice a4 s.next.length c4) := RA1.out.cell 4
  have q1_4 : w1.cell? ⟨w.heap.size + 1, 4, none⟩ = some (.slice b4 s.next.length d4) := RB1.out.cell 4
  have p1_5 : w1.cell? ⟨w.heap.size, 5, none⟩ = some (.slice a5 s.types.length c5) := RA1.out.cell 5
  have q1_5 : w1.cell? ⟨w.heap.size + 1, 5, none⟩ = some (.slice b5 s.types.length d5) := RB1.out.cell 5
  clear hd1 hb1
  go_wp2_with fail
  refine (bytes_same s.next a4 b4 s.next.length s.next.length c4 d4 _ (by exact SA4.out.below BW1.out (Nat.le_refl _)) (by exact SB4.out.below BW1.out (Nat.le_refl _)) rfl rfl).mono ?_
  rintro e w2 ⟨rfl, hd2⟩
  have hb2 : Below (w1).heap.size (w1) w2 := by rw [hd2]; exact Below.refl _ _
  have RA2 := hide (RA1.out.below hb2 RA1.out.lt)
  have RB2 := hide (RB1.out.below hb2 RB1.out.lt)
  have BW2 := hide (BW1.out.trans (hb2.mono BW1.out.size))
  have p2_0 : w2.cell? ⟨w.heap.size, 0, none⟩ = some (.int .u8 (s.hash : Int)) := RA2.out.cell 0
  have q2_0 : w2.cell? ⟨w.heap.size + 1, 0, none⟩ = some (.int .u8 (s.hash : Int)) := RB2.out.cell 0
  have p2_1 : w2.cell? ⟨w.heap.size, 1, none⟩ = some (.int .u8 (s.flags : Int)) := RA2.out.cell 1
  have q2_1 : w2.cell? ⟨w.heap.size + 1, 1, none⟩ = some (.int .u8 (s.flags : Int)) := RB2.out.cell 1
  have p2_2 : w2.cell? ⟨w.heap.size, 2, none⟩ = some (.int .u16 (s.iter : Int)) := RA2.out.cell 2
  have q2_2 : w2.cell? ⟨w.heap.size + 1, 2, none⟩ = some (.int .u16 (s.iter : Int)) := RB2.out.cell 2
  have p2_3 : w2.cell? ⟨w.heap.size, 3, none⟩ = some (.slice a3 s.salt.length c3) := RA2.out.cell 3
  have q2_3 : w2.cell? ⟨w.heap.size + 1, 3, none⟩ = some (.slice b3 s.salt.length d3) := RB2.out.cell 3
  have p2_4 : w2.cell? ⟨w.heap.size, 4, none⟩ = some (.slice a4 s.next.length c4) := RA2.out.cell 4
  have q2_4 : w2.cell? ⟨w.heap.size + 1, 4, none⟩ = some (.slice b4 s.next.length d4) := RB2.out.cell 4
  have p2_5 : w2.cell? ⟨w.heap.size, 5, none⟩ = some (.slice a5 s.types.length c5) := RA2.out.cell 5
  have q2_5 : w2.cell? ⟨w.heap.size + 1, 5, none⟩ = some (.slice b5 s.types.length d5) := RB2.out.cell 5
  clear p1_0 q1_0 p1_1 q1_1 p1_2 q1_2 p1_3 q1_3 p1_4 q1_4 p1_5 q1_5 RA1 RB1
  clear hd2 hb2
  go_wp2_with fail
  refine (htypes_any s.types s.types a5 b5 s.types.length c5 s.types.length d5 _ (by exact SA5.out.below BW2.out (Nat.le_refl _)) (by exact SB5.out.below BW2.out (Nat.le_refl _)) rfl rfl (by omega)).mono ?_
  rw [decide_eq_true rfl]
  rintro e w3 ⟨rfl, hb3⟩
  have RA3 := hide (RA2.out.below hb3 RA2.out.lt)
  have RB3 := hide (RB2.out.below hb3 RB2.out.lt)
  have BW3 := hide (BW2.out.trans (hb3.mono BW2.out.size))
  have p3_0 : w3.cell? ⟨w.heap.size, 0, none⟩ = some (.int .u8 (s.hash : Int)) := RA3.out.cell 0
  have q3_0 : w3.cell? ⟨w.heap.size + 1, 0, none⟩ = some (.int .u8 (s.hash : Int)) := RB3.out.cell 0
  have p3_1 : w3.cell? ⟨w.heap.size, 1, none⟩ = some (.int .u8 (s.flags : Int)) := RA3.out.cell 1
  have q3_1 : w3.cell? ⟨w.heap.size + 1, 1, none⟩ = some (.int .u8 (s.flags : Int)) := RB3.out.cell 1
  have p3_2 : w3.cell? ⟨w.heap.size, 2, none⟩ = some (.int .u16 (s.iter : Int)) := RA3.out.cell 2
  have q3_2 : w3.cell? ⟨w.heap.size + 1, 2, none⟩ = some (.int .u16 (s.iter : Int)) := RB3.out.cell 2
  have p3_3 : w3.cell? ⟨w.heap.size, 3, none⟩ = some (.slice a3 s.salt.length c3) := RA3.out.cell 3
  have q3_3 : w3.cell? ⟨w.heap.size + 1, 3, none⟩ = some (.slice b3 s.salt.length d3) := RB3.out.cell 3
  have p3_4 : w3.cell? ⟨w.heap.size, 4, none⟩ = some (.slice a4 s.next.length c4) := RA3.out.cell 4
  have q3_4 : w3.cell? ⟨w.heap.size + 1, 4, none⟩ = some (.slice b4 s.next.length d4) := RB3.out.cell 4
  have p3_5 : w3.cell? ⟨w.heap.size, 5, none⟩ = some (.slice a5 s.types.length c5) := RA3.out.cell 5
  have q3_5 : w3.cell? ⟨w.heap.size + 1, 5, none⟩ = some (.slice b5 s.types.length d5) := RB3.out.cell 5
  clear p2_0 q2_0 p2_1 q2_1 p2_2 q2_2 p2_3 q2_3 p2_4 q2_4 p2_5 q2_5 RA2 RB2
  clear hb3
  go_wp2
  go_ret
  exact ⟨by simp, BW3.out⟩
set_option maxHeartbeats 1600000 in
set_option maxRecDepth 5000 in
theorem hKeyData_same (s : D.Key) (a3 b3 : Option Addr) (c3 d3 : Nat) (w : World) (ha3 : SlL w a3 s.key) (hb3 : SlL w b3 s.key) :
    Calls Try.prog 32 #[.agg #[.int .u16 (s.flags : Int), .int .u8 (s.proto : Int), .int .u8 (s.alg : Int), .slice a3 s.key.length c3], .agg #[.int .u16 (s.flags : Int), .int .u8 (s.proto : Int), .int .u8 (s.alg : Int), .slice b3 s.key.length d3]] w fun e w' => e = .returned (.bool true) ∧ Below w.heap.size w w' := by
  have SA3 := hide ha3
  have SB3 := hide hb3
  clear ha3 hb3
  have RA := hide ((RowAt.new w 68 #[.int .u16 (s.flags : Int), .int .u8 (s.proto : Int), .int .u8 (s.alg : Int), .slice a3 s.key.length c3]).alloc (.cells #[.int .u16 (s.flags : Int), .int .u8 (s.proto : Int), .int .u8 (s.alg : Int), .slice b3 s.key.length d3] 68))
  have rb := RowAt.new (w.alloc (.cells #[.int .u16 (s.flags : Int), .int .u8 (s.proto : Int), .int .u8 (s.alg : Int), .slice a3 s.key.length c3] 68)) 68 #[.int .u16 (s.flags : Int), .int .u8 (s.proto : Int), .int .u8 (s.alg : Int), .slice b3 s.key.length d3]
  rw [World.size_alloc] at rb
  have RB := hide rb
  have BW := hide (((Below.refl w.heap.size w).alloc (Nat.le_refl _) (.cells #[.int .u16 (s.flags : Int), .int .u8 (s.proto : Int), .int .u8 (s.alg : Int), .slice a3 s.key.length c3] 68)).alloc (by simp) (.cells #[.int .u16 (s.flags : Int), .int .u8 (s.proto : Int), .int .u8 (s.alg : Int), .slice b3 s.key.length d3] 68))
  clear rb
  go_enter Try.func32, Try.ntmps32
  go_wp2_with fail
  refine (bytes_same s.key a3 b3 s.key.length s.key.length c3 d3 _ (by exact SA3.out.below BW.out (Nat.le_refl _)) (by exact SB3.out.below BW.out (Nat.le_refl _)) rfl rfl).mono ?_
  rintro e w1 ⟨rfl, hd1⟩
  have hb1 : Below ((w.alloc (.cells #[.int .u16 (s.flags : Int), .int .u8 (s.proto : Int), .int .u8 (s.alg : Int), .slice a3 s.key.length c3] 68)).alloc (.cells #[.int .u16 (s.flags : Int), .int .u8 (s.proto : Int), .int .u8 (s.alg : Int), .slice b3 s.key.length d3] 68)).heap.size ((w.alloc (.cells #[.int .u16 (s.flags : Int), .int .u8 (s.proto : Int), .int .u8 (s.alg : Int), .slice a3 s.key.length c3] 68)).alloc (.cells #[.int .u16 (s.flags : Int), .int .u8 (s.proto : Int), .int .u8 (s.alg : Int), .slice b3 s.key.length d3] 68)) w1 := by rw [hd1]; exact Below.refl _ _
  have RA1 := hide (RA.out.below hb1 RA.out.lt)
  have RB1 := hide (RB.out.below hb1 RB.out.lt)
  have BW1 := hide (BW.out.trans (hb1.mono BW.out.size))
  have p1_0 : w1.cell? ⟨w.heap.size, 0, none⟩ = some (.int .u16 (s.flags : Int)) := RA1.out.cell 0
  have q1_0 : w1.cell? ⟨w.heap.size + 1, 0, none⟩ = some (.int .u16 (s.flags : Int)) := RB1.out.cell 0
  have p1_1 : w1.cell? ⟨w.heap.size, 1, none⟩ = some (.int .u8 (s.proto : Int)) := RA1.out.cell 1
  have q1_1 : w1.cell? ⟨w.heap.size + 1, 1, none⟩ = some (.int .u8 (s.proto : Int)) := RB1.out.cell 1
  have p1_2 : w1.cell? ⟨w.heap.size, 2, none⟩ = some (.int .u8 (s.alg : Int)) := RA1.out.cell 2
  have q1_2 : w1.cell? ⟨w.heap.size + 1, 2, none⟩ = some (.int .u8 (s.alg : Int)) := RB1.out.cell 2
  have p1_3 : w1.cell? ⟨w.heap.size, 3, none⟩ = some (.slice a3 s.key.length c3) := RA1.out.cell 3
  have q1_3 : w1.cell? ⟨w.heap.size + 1, 3, none⟩ = some (.slice b3 s.key.length d3) := RB1.out.cell 3
  clear hd1 hb1
  go_wp2
  go_ret
  exact ⟨by simp, BW1.out⟩
end Go.Proofs.Ytagopkmehlpjpaa
