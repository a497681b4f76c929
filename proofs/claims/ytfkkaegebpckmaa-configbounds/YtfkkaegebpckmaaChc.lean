/- config.Check. -/
import Derived.Test.YtfkkaegebpckmaaCfg
namespace Go.Proofs.Ytfkkaegebpckmaa
open Go.RowKit
set_option maxHeartbeats 1500000 in
set_option maxRecDepth 5000 in
theorem cCheck_any (x : C.Cf) (a0 a9 : Option Addr) (la c0 ls c9 : Nat) (w : World) (hla : Hid (x.apex.length = la)) (hls : Hid (x.salt.length = ls)) (hs : SlS w a0 x.apex) (hm : Hid (N.Small x.apex)) (hz9 : ls ≤ 9223372036854775807) :
    Calls Try.prog 9 #[.agg #[.slice a0 la c0, .int .u32 (x.k : Int), .int .u32 (x.p : Int), .int .u32 (x.d : Int), .int .u32 (x.e : Int), .int .u32 (x.v : Int), .int .u32 (x.l : Int), .int .u32 (x.g : Int), .int .u32 (x.m : Int), .slice a9 ls c9, .int .u16 (x.it : Int), .int .i64 x.h, .int .u16 (x.sz : Int)]] w fun e w' => ∃ c : Int, e = .returned (.int .i64 c) ∧ (c = 0 ∧ C.Good x ∨ c = 100 ∧ ¬ C.Good x) ∧ Below w.heap.size w w' := by
  have HS := hide hs
  clear hs
  obtain ⟨M, hmax, hM⟩ := C.run_max x.k x.p x.d x.e x.m x.g x.l x.v
  obtain ⟨H1, H2, hmx, hmn, hH⟩ := C.run_clip x.h
  obtain ⟨ck, hck⟩ : ∃ ck, N.chk x.apex = ck := ⟨_, rfl⟩
  obtain ⟨SZ, hSZ⟩ : ∃ SZ, N.size x.apex = SZ := ⟨_, rfl⟩
  obtain ⟨hg1, hg2⟩ := C.good_iff hck hla.out hSZ hM hls.out hH
  have HG := hide hg1
  have HT := hide hg2
  have HCK := hide hck
  have HSZ := hide hSZ
  clear hM hH hg1 hg2 hck hSZ
  go_enter Try.func9, Try.ntmps9
  go_wp2_with (first
    | (go_at_call 20; refine (check_any x.apex a0 la c0 _ hla (by exact HS.out.alloc _) hm).mono ?_; rintro e w' ⟨rfl, rfl⟩; rw [HCK.out])
    | (go_at_call 21; refine (wire_any x.apex a0 la c0 _ hla (by exact HS.out.alloc _) hm).mono ?_; rintro e w1 ⟨v1, rfl, hO1, hB1⟩; obtain ⟨a1, c1, rfl, _, _, _, _⟩ := hO1.open; rw [N.wire_len]; have HB1 := hide hB1; obtain ⟨q0, q1, q2, q3, q4, q5, q6, q7, q8, q9, q10, q11, q12⟩ := ((CfAt.new w x a0 a9 la c0 ls c9).below hB1 (by simp)).cells; clear hO1 hB1; rw [HSZ.out]))
  all_goals
    go_ret
    refine ⟨_, rfl, ?_, ?_⟩
    · first
        | exact Or.inr ⟨rfl, fun hg => by have hg := HG.out.1 hg; have ht := HT.out; simp only [bne_iff_ne, ne_eq, bne_eq_false_iff_eq, beq_iff_eq, beq_eq_false_iff_ne] at *; omega⟩
        | exact Or.inl ⟨rfl, HG.out.2 (by have ht := HT.out; simp only [ne_eq, bne_eq_false_iff_eq, beq_eq_false_iff_ne] at *; omega)⟩
    · first
        | exact (Below.refl _ _).alloc (Nat.le_refl _) _
        | exact ((Below.refl w.heap.size w).alloc (Nat.le_refl _) _).trans (HB1.out.mono (by simp))
end Go.Proofs.Ytfkkaegebpckmaa
