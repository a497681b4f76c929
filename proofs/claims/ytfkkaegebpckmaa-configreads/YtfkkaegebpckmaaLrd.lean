/- The law ConfigReads. -/
import Derived.Test.YtfkkaegebpckmaaKno
import Derived.Test.YtfkkaegebpckmaaOpr
namespace Go.Proofs.Ytfkkaegebpckmaa
open Go.RowKit
set_option maxHeartbeats 4000000 in
set_option maxRecDepth 5000 in
theorem reads_walk (b : List UInt8) (ao : Option Addr) (len cap : Nat) (w : World) (hl : Hid (b.length = len)) (hs : SlL w ao b) (hcap : len ≤ cap) (hm : len ≤ 9223372036854775807) :
    Calls Try.prog 5 #[.slice ao len cap] w fun e w' => e = .returned (.bool true) ∧ Below w.heap.size w w' := by
  have HS := hide hs
  clear hs
  rcases Nat.lt_or_ge 1000 len with h1000 | h1000
  · go_enter Try.func5, Try.ntmps5
    go_wp2_with (go_at_call 7; refine (known_any _).mono ?_; rintro e w1 ⟨rfl, hb1⟩)
    go_ret
    exact ⟨rfl, hb1⟩
  · go_enter Try.func5, Try.ntmps5
    go_wp2_with (go_at_call 7; refine (known_any _).mono ?_; rintro e w1 ⟨rfl, hb1⟩; have B1 := hide hb1; clear hb1)
    refine (cOpen_any b ao len cap w1 hl (HS.out.below B1.out (Nat.le_refl _)) (by omega) hcap).mono ?_
    rintro e w2 ⟨x, c, a0, a9, la, c0, ls, c9, rfl, hd, hla, hls, hs0, hs9, _, hlab, hb2⟩
    have B2 := hide (B1.out.trans (hb2.mono B1.out.size))
    have HD := hide hd
    have HLA := hide hla
    have HLS := hide hls
    have S0 := hide hs0
    have S9 := hide hs9
    clear hd hla hls hs0 hs9 hb2
    go_wp2_with fail
    refine (rcOpen_any b ao len cap _ hl (by exact HS.out.below (B2.out.alloc B2.out.size _) (Nat.le_refl _)) (by omega) hcap).mono ?_
    rintro e w3 ⟨x', c', a01, a91, la1, c01, ls1, c91, rfl, hd', hla1, hls1, hs01, hs91, _, _, hb3⟩
    obtain ⟨hxx, hcc⟩ : x = x' ∧ c = c' := by
      rcases HD.out with ⟨e1, e2⟩ | ⟨e1, e2, e3⟩
      · rcases hd' with ⟨f1, f2⟩ | ⟨f1, _⟩
        · rw [e1] at f1; exact ⟨Option.some.inj f1, e2.trans f2.symm⟩
        · rw [e1] at f1; cases f1
      · rcases hd' with ⟨f1, _⟩ | ⟨_, f2, f3⟩
        · rw [e1] at f1; cases f1
        · exact ⟨e2.trans f2.symm, e3.trans f3.symm⟩
    subst hxx
    subst hcc
    have A3 := hide ((CfAt.new w2 x a0 a9 la c0 ls c9).below hb3 (by simp))
    have B23 : Hid (Below w2.heap.size w2 w3) := ((Below.refl w2.heap.size w2).alloc (Nat.le_refl _) _).trans (hb3.mono (by simp))
    have HLA1 := hide hla1
    have HLS1 := hide hls1
    have S01 := hide hs01
    have S91 := hide hs91
    obtain ⟨q0, q1, q2, q3, q4, q5, q6, q7, q8, q9, q10, q11, q12⟩ := A3.out.cells
    have hlt3 := A3.out.lt
    clear hd' hla1 hls1 hs01 hs91 hb3 HD
    go_wp2_with (go_at_call 15; refine (hConfig_same x a0 a9 a01 a91 la c0 ls c9 la1 c01 ls1 c91 _ HLA HLA1 HLS HLS1 (by exact (S0.out.below B23.out (Nat.le_refl _)).alloc _) (by exact S01.out.alloc _) (by exact (S9.out.below B23.out (Nat.le_refl _)).alloc _) (by exact S91.out.alloc _) (by omega)).mono ?_; rintro e w4 ⟨rfl, hb4⟩; have B4 : Hid (Below w3.heap.size w3 w4) := ((Below.refl w3.heap.size w3).alloc (Nat.le_refl _) _).trans (hb4.mono (by simp)); clear hb4)
    go_ret
    exact ⟨rfl, B2.out.trans ((B23.out.mono B2.out.size).trans (B4.out.mono (by have := B2.out.size; have := B23.out.size; omega)))⟩
end Go.Proofs.Ytfkkaegebpckmaa
