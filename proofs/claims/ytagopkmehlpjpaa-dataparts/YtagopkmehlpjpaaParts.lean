/- signetlaw5.DataParts: the walk. -/
import Derived.Test.YtagopkmehlpjpaaRefS
import Derived.Test.YtagopkmehlpjpaaRefI
import Derived.Test.YtagopkmehlpjpaaRefH
import Derived.Test.YtagopkmehlpjpaaWhlS
import Derived.Test.YtagopkmehlpjpaaWhlG
import Derived.Test.YtagopkmehlpjpaaWhlC
import Derived.Test.YtagopkmehlpjpaaHelpD
namespace Go.Proofs.Ytagopkmehlpjpaa
open Go.RowKit
set_option maxRecDepth 5000 in
theorem len_size (n : List (List UInt8)) : n.length ≤ N.size n := by
  have := len_sum n
  unfold N.size; omega
/- what was read, or the struct of noughts, with its code -/
set_option maxRecDepth 5000 in
theorem pick_ex {α : Type} (o : Option α) (z : α) : ∃ (s : α) (cd : Int), (o = some s ∧ cd = 0) ∨ (o = none ∧ s = z ∧ cd = 50) := by
  cases o with
  | none => exact ⟨z, 50, Or.inr ⟨rfl, rfl, rfl⟩⟩
  | some s => exact ⟨s, 0, Or.inl ⟨rfl, rfl⟩⟩
set_option maxRecDepth 5000 in
theorem Ans.pick {α : Type} {o : Option α} {V : Nat → α → Value → World → Prop} {Z : Value} {w w' : World} {e : Ending} {s z : α} {cd : Int} (h : Ans o V Z w e w') (hz : ∀ base W, V base z Z W) (hos : (o = some s ∧ cd = 0) ∨ (o = none ∧ s = z ∧ cd = 50)) :
    ∃ v, e = .returned (.tuple #[v, .int .i64 cd]) ∧ V w.heap.size s v w' ∧ Below w.heap.size w w' := by
  obtain ⟨⟨x, v, ho, he, hx⟩ | ⟨ho, he⟩, hb⟩ := h
  · rcases hos with ⟨h1, rfl⟩ | ⟨h1, _⟩
    · rw [ho] at h1; cases h1; exact ⟨v, he, hx, hb⟩
    · rw [ho] at h1; cases h1
  · rcases hos with ⟨h1, rfl⟩ | ⟨h1, rfl, rfl⟩
    · rw [ho] at h1; cases h1
    · exact ⟨Z, he, hz _ _, hb⟩
set_option maxHeartbeats 8000000 in
set_option maxRecDepth 5000 in
theorem parts_walk (b : List UInt8) (ao : Option Addr) (len cap : Nat) (w : World) (hl : Hid (b.length = len)) (hs : SlL w ao b) (hc : len ≤ cap) (hnil : ao = none → cap = 0) :
    Calls Try.prog 4 #[.slice ao len cap] w fun e w' => e = .returned (.bool true) ∧ Below w.heap.size w w' := by
  have HS := hide hs
  have NI := hide hnil
  clear hs hnil
  go_enter Try.func4, Try.ntmps4
  go_wp2_with fail
  refine (known_any _).mono ?_
  rintro e w1 ⟨rfl, hb1⟩
  have T0 := hide hb1
  clear hb1
  rcases Nat.lt_or_ge 3000 len with hlt | hge
  · have hlt' : (3000 : Int) < (len : Int) := by omega
    go_wp2
    go_ret
    exact ⟨rfl, T0.out⟩
  have hlt' : ¬ (3000 : Int) < (len : Int) := by omega
  all_goals
    obtain ⟨s, cd, hos⟩ := pick_ex (D.full b (D.soa b)) (⟨[], [], 0, 0, 0, 0, 0⟩ : D.Soa)
    have BD : Hid (s.main.length ≤ 100000 ∧ s.box.length ≤ 100000) := by
      rcases hos with h | ⟨_, h, _⟩
      · have g := (D.soa_back (D.full_iff.1 h.1).2).2; have l1 := (good_small g.1).1; have l2 := (good_small g.2.1).1; have := len_size s.main; have := len_size s.box; have := g.1.2.2; have := g.2.1.2.2; exact ⟨by omega, by omega⟩
      · show s.main.length ≤ 100000 ∧ s.box.length ≤ 100000; subst h; simp
    have HOS := hide hos
    clear hos
    go_wp2_with fail
    refine (Soa_any b ao len cap _ hl (by exact HS.out.below T0.out (Nat.le_refl _)) hc NI.out).mono ?_
    rintro e wA hans
    obtain ⟨v, rfl, ⟨a1, c1, a2, c2, rfl, hO1, hO2⟩, hb⟩ := hans.pick (fun _ _ => ⟨none, 0, none, 0, rfl, OwnS.nil _ _, OwnS.nil _ _⟩) HOS.out
    have TB := hide (T0.out.trans (hb.mono T0.out.size))
    have al := (Below.refl wA.heap.size wA).alloc (Nat.le_refl _) (.cells #[.slice a1 s.main.length c1, .slice a2 s.box.length c2, .int .u32 (s.a : Int), .int .u32 (s.b : Int), .int .u32 (s.c : Int), .int .u32 (s.d : Int), .int .u32 (s.e : Int)] 43)
    have RA := hide (RowAt.new wA 43 #[.slice a1 s.main.length c1, .slice a2 s.box.length c2, .int .u32 (s.a : Int), .int .u32 (s.b : Int), .int .u32 (s.c : Int), .int .u32 (s.d : Int), .int .u32 (s.e : Int)])
    have TA := hide (TB.out.trans (al.mono TB.out.size))
    have SA1 := hide ((OwnS.sl hO1).below al (Nat.le_refl _))
    have SA2 := hide ((OwnS.sl hO2).below al (Nat.le_refl _))
    clear al hb hans hO1 hO2 TB
    go_wp2_with fail
    refine (sSoa_any b ao len cap _ hl (by exact HS.out.below TA.out (Nat.le_refl _)) hc NI.out (by omega)).mono ?_
    rintro e wB hans
    obtain ⟨v, rfl, ⟨b1, d1, b2, d2, rfl, hP1, hP2⟩, hb⟩ := hans.pick (fun _ _ => ⟨none, 0, none, 0, rfl, OwnS.nil _ _, OwnS.nil _ _⟩) HOS.out
    have RA2 := hide ((RA.out.below hb RA.out.lt).alloc (.cells #[.slice b1 s.main.length d1, .slice b2 s.box.length d2, .int .u32 (s.a : Int), .int .u32 (s.b : Int), .int .u32 (s.c : Int), .int .u32 (s.d : Int), .int .u32 (s.e : Int)] 43))
    have RB := hide (RowAt.new wB 43 #[.slice b1 s.main.length d1, .slice b2 s.box.length d2, .int .u32 (s.a : Int), .int .u32 (s.b : Int), .int .u32 (s.c : Int), .int .u32 (s.d : Int), .int .u32 (s.e : Int)])
    have al := (Below.refl wB.heap.size wB).alloc (Nat.le_refl _) (.cells #[.slice b1 s.main.length d1, .slice b2 s.box.length d2, .int .u32 (s.a : Int), .int .u32 (s.b : Int), .int .u32 (s.c : Int), .int .u32 (s.d : Int), .int .u32 (s.e : Int)] 43)
    have gl : wA.heap.size < wB.heap.size := Nat.lt_of_lt_of_le (by simp) hb.size
    have TC := hide ((TA.out.trans (hb.mono TA.out.size)).trans (al.mono (Nat.le_trans TA.out.size hb.size)))
    replace SA1 := hide (SA1.out.below hb (Nat.le_refl _))
    replace SA2 := hide (SA2.out.below hb (Nat.le_refl _))
    replace SA1 := hide (SA1.out.below al (Nat.le_refl _))
    replace SA2 := hide (SA2.out.below al (Nat.le_refl _))
    have SB1 := hide ((OwnS.sl hP1).below al (Nat.le_refl _))
    have SB2 := hide ((OwnS.sl hP2).below al (Nat.le_refl _))
    have p0 : (wB.alloc (.cells #[.slice b1 s.main.length d1, .slice b2 s.box.length d2, .int .u32 (s.a : Int), .int .u32 (s.b : Int), .int .u32 (s.c : Int), .int .u32 (s.d : Int), .int .u32 (s.e : Int)] 43)).cell? ⟨wA.heap.size, 0, none⟩ = some (.slice a1 s.main.length c1) := RA2.out.cell 0
    have p1 : (wB.alloc (.cells #[.slice b1 s.main.length d1, .slice b2 s.box.length d2, .int .u32 (s.a : Int), .int .u32 (s.b : Int), .int .u32 (s.c : Int), .int .u32 (s.d : Int), .int .u32 (s.e : Int)] 43)).cell? ⟨wA.heap.size, 1, none⟩ = some (.slice a2 s.box.length c2) := RA2.out.cell 1
    have p2 : (wB.alloc (.cells #[.slice b1 s.main.length d1, .slice b2 s.box.length d2, .int .u32 (s.a : Int), .int .u32 (s.b : Int), .int .u32 (s.c : Int), .int .u32 (s.d : Int), .int .u32 (s.e : Int)] 43)).cell? ⟨wA.heap.size, 2, none⟩ = some (.int .u32 (s.a : Int)) := RA2.out.cell 2
    have p3 : (wB.alloc (.cells #[.slice b1 s.main.length d1, .slice b2 s.box.length d2, .int .u32 (s.a : Int), .int .u32 (s.b : Int), .int .u32 (s.c : Int), .int .u32 (s.d : Int), .int .u32 (s.e : Int)] 43)).cell? ⟨wA.heap.size, 3, none⟩ = some (.int .u32 (s.b : Int)) := RA2.out.cell 3
    have p4 : (wB.alloc (.cells #[.slice b1 s.main.length d1, .slice b2 s.box.length d2, .int .u32 (s.a : Int), .int .u32 (s.b : Int), .int .u32 (s.c : Int), .int .u32 (s.d : Int), .int .u32 (s.e : Int)] 43)).cell? ⟨wA.heap.size, 4, none⟩ = some (.int .u32 (s.c : Int)) := RA2.out.cell 4
    have p5 : (wB.alloc (.cells #[.slice b1 s.main.length d1, .slice b2 s.box.length d2, .int .u32 (s.a : Int), .int .u32 (s.b : Int), .int .u32 (s.c : Int), .int .u32 (s.d : Int), .int .u32 (s.e : Int)] 43)).cell? ⟨wA.heap.size, 5, none⟩ = some (.int .u32 (s.d : Int)) := RA2.out.cell 5
    have p6 : (wB.alloc (.cells #[.slice b1 s.main.length d1, .slice b2 s.box.length d2, .int .u32 (s.a : Int), .int .u32 (s.b : Int), .int .u32 (s.c : Int), .int .u32 (s.d : Int), .int .u32 (s.e : Int)] 43)).cell? ⟨wA.heap.size, 6, none⟩ = some (.int .u32 (s.e : Int)) := RA2.out.cell 6
    clear al hb hans RA TA hP1 hP2
    go_wp2_with fail
    refine (hSoa_same s a1 b1 a2 b2 c1 d1 c2 d2 _ (by exact SA1.out) (by exact SB1.out) (by exact BD.out.1) (by exact SA2.out) (by exact SB2.out) (by exact BD.out.2)).mono ?_
    rintro e wC ⟨rfl, hb⟩
    have RA3 := hide (RA2.out.below hb RA2.out.lt)
    have RB3 := hide (RB.out.below hb RB.out.lt)
    replace SA1 := hide (SA1.out.below hb (Nat.le_refl _))
    replace SA2 := hide (SA2.out.below hb (Nat.le_refl _))
    replace SB1 := hide (SB1.out.below hb (Nat.le_refl _))
    replace SB2 := hide (SB2.out.below hb (Nat.le_refl _))
    have TD := hide (TC.out.trans (hb.mono TC.out.size))
    clear hb p0 p1 p2 p3 p4 p5 p6 RA2 RB TC
    have p0 : wC.cell? ⟨wA.heap.size, 0, none⟩ = some (.slice a1 s.main.length c1) := RA3.out.cell 0
    have p1 : wC.cell? ⟨wA.heap.size, 1, none⟩ = some (.slice a2 s.box.length c2) := RA3.out.cell 1
    have p2 : wC.cell? ⟨wA.heap.size, 2, none⟩ = some (.int .u32 (s.a : Int)) := RA3.out.cell 2
    have p3 : wC.cell? ⟨wA.heap.size, 3, none⟩ = some (.int .u32 (s.b : Int)) := RA3.out.cell 3
    have p4 : wC.cell? ⟨wA.heap.size, 4, none⟩ = some (.int .u32 (s.c : Int)) := RA3.out.cell 4
    have p5 : wC.cell? ⟨wA.heap.size, 5, none⟩ = some (.int .u32 (s.d : Int)) := RA3.out.cell 5
    have p6 : wC.cell? ⟨wA.heap.size, 6, none⟩ = some (.int .u32 (s.e : Int)) := RA3.out.cell 6
    have q0 : wC.cell? ⟨wB.heap.size, 0, none⟩ = some (.slice b1 s.main.length d1) := RB3.out.cell 0
    have q1 : wC.cell? ⟨wB.heap.size, 1, none⟩ = some (.slice b2 s.box.length d2) := RB3.out.cell 1
    have q2 : wC.cell? ⟨wB.heap.size, 2, none⟩ = some (.int .u32 (s.a : Int)) := RB3.out.cell 2
    have q3 : wC.cell? ⟨wB.heap.size, 3, none⟩ = some (.int .u32 (s.b : Int)) := RB3.out.cell 3
    have q4 : wC.cell? ⟨wB.heap.size, 4, none⟩ = some (.int .u32 (s.c : Int)) := RB3.out.cell 4
    have q5 : wC.cell? ⟨wB.heap.size, 5, none⟩ = some (.int .u32 (s.d : Int)) := RB3.out.cell 5
    have q6 : wC.cell? ⟨wB.heap.size, 6, none⟩ = some (.int .u32 (s.e : Int)) := RB3.out.cell 6
    rcases HOS.out with ⟨h, rfl⟩ | ⟨h, rfl, rfl⟩
    rotate_left
    have T1 := TD
    clear TD h p0 q0 p1 q1 p2 q2 p3 q3 p4 q4 p5 q5 p6 q6 RA3 RB3 HOS BD SA1 SB1 SA2 SB2  gl
    rotate_left
    have g := (D.soa_back (D.full_iff.1 h).2).2
    have hE : D.soaB s = b := by
      have := (D.soa_back (D.full_iff.1 h).2).1
      rw [List.append_nil] at this
      exact this.symm
    have H := hide h
    have HE := hide hE
    clear h hE
    go_wp2_with fail
    refine (soaBytes_any s a1 a2 s.main.length c1 s.box.length c2 _ rfl rfl (by exact SA1.out) (by exact SA2.out) (by have := g.1.2.2; omega) (by have := g.2.1.2.2; omega) g.2.2.1 g.2.2.2.1 g.2.2.2.2.1 g.2.2.2.2.2.1 g.2.2.2.2.2.2).mono ?_
    rw [HE.out]
    rintro e wD ⟨v, rfl, hO, hb⟩
    obtain ⟨a9, c9, rfl, hs9, _⟩ := hO.open
    have S9 := hide hs9
    have TE := hide (TD.out.trans (hb.mono TD.out.size))
    clear hO hs9 hb g
    rw [hl.out]
    go_wp2_with fail
    refine (bytes_same b a9 ao len len c9 cap _ (by exact S9.out) (by exact HS.out.below TE.out (Nat.le_refl _)) hl hl).mono ?_
    rintro e wE ⟨rfl, rfl⟩
    have T1 := TE
    clear TE S9 TD H HE p0 q0 p1 q1 p2 q2 p3 q3 p4 q4 p5 q5 p6 q6 RA3 RB3 HOS BD SA1 SB1 SA2 SB2  gl
  all_goals
    obtain ⟨s, cd, hos⟩ := pick_ex (D.full b (D.sig b)) (⟨0, 0, 0, 0, 0, 0, 0, [], []⟩ : D.Sig)
    have BD : Hid (s.signer.length ≤ 100000) := by
      rcases hos with h | ⟨_, h, _⟩
      · have g := (D.sig_back (D.full_iff.1 h.1).2).2.2.2.2.2.2.2.2.2; have := len_size s.signer; have := g.2.2; show _ ≤ _; omega
      · show s.signer.length ≤ 100000; subst h; simp
    have SL : Hid (s.sig.length ≤ 3000) := by
      rcases hos with h | ⟨_, h, _⟩
      · have g := (D.sig_back (D.full_iff.1 h.1).2).1; have e := congrArg List.length g; have := hl.out; simp only [D.sigB, List.length_append] at e; show _ ≤ _; omega
      · show s.sig.length ≤ 3000; subst h; simp
    have HOS := hide hos
    clear hos
    go_wp2_with fail
    refine (Sig_any b ao len cap _ hl (by exact HS.out.below T1.out (Nat.le_refl _)) hc NI.out).mono ?_
    rintro e wA hans
    obtain ⟨v, rfl, ⟨a1, c1, a2, c2, rfl, hO1, hO2⟩, hb⟩ := hans.pick (fun _ _ => ⟨none, 0, none, 0, rfl, OwnS.nil _ _, OwnB.nil _ _⟩) HOS.out
    have TB := hide (T1.out.trans (hb.mono T1.out.size))
    have al := (Below.refl wA.heap.size wA).alloc (Nat.le_refl _) (.cells #[.int .u16 (s.type : Int), .int .u8 (s.alg : Int), .int .u8 (s.labels : Int), .int .u32 (s.ttl : Int), .int .u32 (s.expire : Int), .int .u32 (s.begin_ : Int), .int .u16 (s.tag : Int), .slice a1 s.signer.length c1, .slice a2 s.sig.length c2] 51)
    have RA := hide (RowAt.new wA 51 #[.int .u16 (s.type : Int), .int .u8 (s.alg : Int), .int .u8 (s.labels : Int), .int .u32 (s.ttl : Int), .int .u32 (s.expire : Int), .int .u32 (s.begin_ : Int), .int .u16 (s.tag : Int), .slice a1 s.signer.length c1, .slice a2 s.sig.length c2])
    have TA := hide (TB.out.trans (al.mono TB.out.size))
    have SA1 := hide ((OwnS.sl hO1).below al (Nat.le_refl _))
    have SA2 := hide (((OwnB.slOf hO2).1).below al (Nat.le_refl _))
    have NA2 := hide (OwnB.slOf hO2).2
    clear al hb hans hO1 hO2 TB
    go_wp2_with fail
    refine (sSig_any b ao len cap _ hl (by exact HS.out.below TA.out (Nat.le_refl _)) hc NI.out (by omega)).mono ?_
    rintro e wB hans
    obtain ⟨v, rfl, ⟨b1, d1, b2, d2, rfl, hP1, hP2⟩, hb⟩ := hans.pick (fun _ _ => ⟨none, 0, none, 0, rfl, OwnS.nil _ _, OwnB.nil _ _⟩) HOS.out
    have RA2 := hide ((RA.out.below hb RA.out.lt).alloc (.cells #[.int .u16 (s.type : Int), .int .u8 (s.alg : Int), .int .u8 (s.labels : Int), .int .u32 (s.ttl : Int), .int .u32 (s.expire : Int), .int .u32 (s.begin_ : Int), .int .u16 (s.tag : Int), .slice b1 s.signer.length d1, .slice b2 s.sig.length d2] 51))
    have RB := hide (RowAt.new wB 51 #[.int .u16 (s.type : Int), .int .u8 (s.alg : Int), .int .u8 (s.labels : Int), .int .u32 (s.ttl : Int), .int .u32 (s.expire : Int), .int .u32 (s.begin_ : Int), .int .u16 (s.tag : Int), .slice b1 s.signer.length d1, .slice b2 s.sig.length d2])
    have al := (Below.refl wB.heap.size wB).alloc (Nat.le_refl _) (.cells #[.int .u16 (s.type : Int), .int .u8 (s.alg : Int), .int .u8 (s.labels : Int), .int .u32 (s.ttl : Int), .int .u32 (s.expire : Int), .int .u32 (s.begin_ : Int), .int .u16 (s.tag : Int), .slice b1 s.signer.length d1, .slice b2 s.sig.length d2] 51)
    have gl : wA.heap.size < wB.heap.size := Nat.lt_of_lt_of_le (by simp) hb.size
    have TC := hide ((TA.out.trans (hb.mono TA.out.size)).trans (al.mono (Nat.le_trans TA.out.size hb.size)))
    replace SA1 := hide (SA1.out.below hb (Nat.le_refl _))
    replace SA2 := hide (SA2.out.below hb (Nat.le_refl _))
    replace SA1 := hide (SA1.out.below al (Nat.le_refl _))
    replace SA2 := hide (SA2.out.below al (Nat.le_refl _))
    have SB1 := hide ((OwnS.sl hP1).below al (Nat.le_refl _))
    have SB2 := hide (((OwnB.slOf hP2).1).below al (Nat.le_refl _))
    have p0 : (wB.alloc (.cells #[.int .u16 (s.type : Int), .int .u8 (s.alg : Int), .int .u8 (s.labels : Int), .int .u32 (s.ttl : Int), .int .u32 (s.expire : Int), .int .u32 (s.begin_ : Int), .int .u16 (s.tag : Int), .slice b1 s.signer.length d1, .slice b2 s.sig.length d2] 51)).cell? ⟨wA.heap.size, 0, none⟩ = some (.int .u16 (s.type : Int)) := RA2.out.cell 0
    have p1 : (wB.alloc (.cells #[.int .u16 (s.type : Int), .int .u8 (s.alg : Int), .int .u8 (s.labels : Int), .int .u32 (s.ttl : Int), .int .u32 (s.expire : Int), .int .u32 (s.begin_ : Int), .int .u16 (s.tag : Int), .slice b1 s.signer.length d1, .slice b2 s.sig.length d2] 51)).cell? ⟨wA.heap.size, 1, none⟩ = some (.int .u8 (s.alg : Int)) := RA2.out.cell 1
    have p2 : (wB.alloc (.cells #[.int .u16 (s.type : Int), .int .u8 (s.alg : Int), .int .u8 (s.labels : Int), .int .u32 (s.ttl : Int), .int .u32 (s.expire : Int), .int .u32 (s.begin_ : Int), .int .u16 (s.tag : Int), .slice b1 s.signer.length d1, .slice b2 s.sig.length d2] 51)).cell? ⟨wA.heap.size, 2, none⟩ = some (.int .u8 (s.labels : Int)) := RA2.out.cell 2
    have p3 : (wB.alloc (.cells #[.int .u16 (s.type : Int), .int .u8 (s.alg : Int), .int .u8 (s.labels : Int), .int .u32 (s.ttl : Int), .int .u32 (s.expire : Int), .int .u32 (s.begin_ : Int), .int .u16 (s.tag : Int), .slice b1 s.signer.length d1, .slice b2 s.sig.length d2] 51)).cell? ⟨wA.heap.size, 3, none⟩ = some (.int .u32 (s.ttl : Int)) := RA2.out.cell 3
    have p4 : (wB.alloc (.cells #[.int .u16 (s.type : Int), .int .u8 (s.alg : Int), .int .u8 (s.labels : Int), .int .u32 (s.ttl : Int), .int .u32 (s.expire : Int), .int .u32 (s.begin_ : Int), .int .u16 (s.tag : Int), .slice b1 s.signer.length d1, .slice b2 s.sig.length d2] 51)).cell? ⟨wA.heap.size, 4, none⟩ = some (.int .u32 (s.expire : Int)) := RA2.out.cell 4
    have p5 : (wB.alloc (.cells #[.int .u16 (s.type : Int), .int .u8 (s.alg : Int), .int .u8 (s.labels : Int), .int .u32 (s.ttl : Int), .int .u32 (s.expire : Int), .int .u32 (s.begin_ : Int), .int .u16 (s.tag : Int), .slice b1 s.signer.length d1, .slice b2 s.sig.length d2] 51)).cell? ⟨wA.heap.size, 5, none⟩ = some (.int .u32 (s.begin_ : Int)) := RA2.out.cell 5
    have p6 : (wB.alloc (.cells #[.int .u16 (s.type : Int), .int .u8 (s.alg : Int), .int .u8 (s.labels : Int), .int .u32 (s.ttl : Int), .int .u32 (s.expire : Int), .int .u32 (s.begin_ : Int), .int .u16 (s.tag : Int), .slice b1 s.signer.length d1, .slice b2 s.sig.length d2] 51)).cell? ⟨wA.heap.size, 6, none⟩ = some (.int .u16 (s.tag : Int)) := RA2.out.cell 6
    have p7 : (wB.alloc (.cells #[.int .u16 (s.type : Int), .int .u8 (s.alg : Int), .int .u8 (s.labels : Int), .int .u32 (s.ttl : Int), .int .u32 (s.expire : Int), .int .u32 (s.begin_ : Int), .int .u16 (s.tag : Int), .slice b1 s.signer.length d1, .slice b2 s.sig.length d2] 51)).cell? ⟨wA.heap.size, 7, none⟩ = some (.slice a1 s.signer.length c1) := RA2.out.cell 7
    have p8 : (wB.alloc (.cells #[.int .u16 (s.type : Int), .int .u8 (s.alg : Int), .int .u8 (s.labels : Int), .int .u32 (s.ttl : Int), .int .u32 (s.expire : Int), .int .u32 (s.begin_ : Int), .int .u16 (s.tag : Int), .slice b1 s.signer.length d1, .slice b2 s.sig.length d2] 51)).cell? ⟨wA.heap.size, 8, none⟩ = some (.slice a2 s.sig.length c2) := RA2.out.cell 8
    clear al hb hans RA TA hP1 hP2
    go_wp2_with fail
    refine (hSig_same s a1 b1 c1 d1 _ _ _ (by exact SA1.out) (by exact SB1.out) (by exact BD.out)).mono ?_
    rintro e wC ⟨rfl, hb⟩
    have RA3 := hide (RA2.out.below hb RA2.out.lt)
    have RB3 := hide (RB.out.below hb RB.out.lt)
    replace SA1 := hide (SA1.out.below hb (Nat.le_refl _))
    replace SA2 := hide (SA2.out.below hb (Nat.le_refl _))
    replace SB1 := hide (SB1.out.below hb (Nat.le_refl _))
    replace SB2 := hide (SB2.out.below hb (Nat.le_refl _))
    have TD := hide (TC.out.trans (hb.mono TC.out.size))
    clear hb p0 p1 p2 p3 p4 p5 p6 p7 p8 RA2 RB TC
    have p0 : wC.cell? ⟨wA.heap.size, 0, none⟩ = some (.int .u16 (s.type : Int)) := RA3.out.cell 0
    have p1 : wC.cell? ⟨wA.heap.size, 1, none⟩ = some (.int .u8 (s.alg : Int)) := RA3.out.cell 1
    have p2 : wC.cell? ⟨wA.heap.size, 2, none⟩ = some (.int .u8 (s.labels : Int)) := RA3.out.cell 2
    have p3 : wC.cell? ⟨wA.heap.size, 3, none⟩ = some (.int .u32 (s.ttl : Int)) := RA3.out.cell 3
    have p4 : wC.cell? ⟨wA.heap.size, 4, none⟩ = some (.int .u32 (s.expire : Int)) := RA3.out.cell 4
    have p5 : wC.cell? ⟨wA.heap.size, 5, none⟩ = some (.int .u32 (s.begin_ : Int)) := RA3.out.cell 5
    have p6 : wC.cell? ⟨wA.heap.size, 6, none⟩ = some (.int .u16 (s.tag : Int)) := RA3.out.cell 6
    have p7 : wC.cell? ⟨wA.heap.size, 7, none⟩ = some (.slice a1 s.signer.length c1) := RA3.out.cell 7
    have p8 : wC.cell? ⟨wA.heap.size, 8, none⟩ = some (.slice a2 s.sig.length c2) := RA3.out.cell 8
    have q0 : wC.cell? ⟨wB.heap.size, 0, none⟩ = some (.int .u16 (s.type : Int)) := RB3.out.cell 0
    have q1 : wC.cell? ⟨wB.heap.size, 1, none⟩ = some (.int .u8 (s.alg : Int)) := RB3.out.cell 1
    have q2 : wC.cell? ⟨wB.heap.size, 2, none⟩ = some (.int .u8 (s.labels : Int)) := RB3.out.cell 2
    have q3 : wC.cell? ⟨wB.heap.size, 3, none⟩ = some (.int .u32 (s.ttl : Int)) := RB3.out.cell 3
    have q4 : wC.cell? ⟨wB.heap.size, 4, none⟩ = some (.int .u32 (s.expire : Int)) := RB3.out.cell 4
    have q5 : wC.cell? ⟨wB.heap.size, 5, none⟩ = some (.int .u32 (s.begin_ : Int)) := RB3.out.cell 5
    have q6 : wC.cell? ⟨wB.heap.size, 6, none⟩ = some (.int .u16 (s.tag : Int)) := RB3.out.cell 6
    have q7 : wC.cell? ⟨wB.heap.size, 7, none⟩ = some (.slice b1 s.signer.length d1) := RB3.out.cell 7
    have q8 : wC.cell? ⟨wB.heap.size, 8, none⟩ = some (.slice b2 s.sig.length d2) := RB3.out.cell 8
    go_wp2_with fail
    refine (bytes_same s.sig a2 b2 s.sig.length s.sig.length c2 d2 _ (by exact SA2.out) (by exact SB2.out) rfl rfl).mono ?_
    rintro e wC' ⟨rfl, rfl⟩
    rcases HOS.out with ⟨h, rfl⟩ | ⟨h, rfl, rfl⟩
    rotate_left
    have T2 := TD
    clear TD h p0 q0 p1 q1 p2 q2 p3 q3 p4 q4 p5 q5 p6 q6 p7 q7 p8 q8 RA3 RB3 HOS BD SL SA1 SB1 SA2 SB2 NA2 gl
    rotate_left
    have g := (D.sig_back (D.full_iff.1 h).2).2.2
    have hE : D.sigB s = b := by
      have := (D.sig_back (D.full_iff.1 h).2).1
      rw [List.append_nil] at this
      exact this.symm
    have H := hide h
    have HE := hide hE
    clear h hE
    go_wp2_with fail
    refine (sigBytes_any s a1 a2 s.signer.length c1 s.sig.length c2 _ rfl rfl (by exact SA1.out) (by exact SA2.out) NA2.out (by have := g.2.2.2.2.2.2.2.2.2; omega) (by have := SL.out; omega) g.1 g.2.1 g.2.2.1 g.2.2.2.1 g.2.2.2.2.1 g.2.2.2.2.2.1 g.2.2.2.2.2.2.1).mono ?_
    rw [HE.out]
    rintro e wD ⟨v, rfl, hO, hb⟩
    obtain ⟨a9, c9, rfl, hs9, _⟩ := hO.open
    have S9 := hide hs9
    have TE := hide (TD.out.trans (hb.mono TD.out.size))
    clear hO hs9 hb g
    rw [hl.out]
    go_wp2_with fail
    refine (bytes_same b a9 ao len len c9 cap _ (by exact S9.out) (by exact HS.out.below TE.out (Nat.le_refl _)) hl hl).mono ?_
    rintro e wE ⟨rfl, rfl⟩
    have T2 := TE
    clear TE S9 TD H HE p0 q0 p1 q1 p2 q2 p3 q3 p4 q4 p5 q5 p6 q6 p7 q7 p8 q8 RA3 RB3 HOS BD SL SA1 SB1 SA2 SB2 NA2 gl
  all_goals
    obtain ⟨s, cd, hos⟩ := pick_ex (D.full b (D.chain b)) (⟨0, 0, 0, [], [], []⟩ : D.Chain)
    have BD : Hid (s.types.length ≤ 70000) := by
      rcases hos with h | ⟨_, h, _⟩
      · have g := D.chain_len (D.full_iff.1 h.1).2; have := hl.out; show _ ≤ _; omega
      · show s.types.length ≤ 70000; subst h; simp
    have HOS := hide hos
    clear hos
    go_wp2_with fail
    refine (Chain_any b ao len cap _ hl (by exact HS.out.below T2.out (Nat.le_refl _)) hc NI.out).mono ?_
    rintro e wA hans
    obtain ⟨v, rfl, ⟨a1, c1, a2, c2, a3, c3, rfl, hO1, hO2, hO3⟩, hb⟩ := hans.pick (fun _ _ => ⟨none, 0, none, 0, none, 0, rfl, OwnB.nil _ _, OwnB.nil _ _, OwnH.nil _ _⟩) HOS.out
    have TB := hide (T2.out.trans (hb.mono T2.out.size))
    have al := (Below.refl wA.heap.size wA).alloc (Nat.le_refl _) (.cells #[.int .u8 (s.hash : Int), .int .u8 (s.flags : Int), .int .u16 (s.iter : Int), .slice a1 s.salt.length c1, .slice a2 s.next.length c2, .slice a3 s.types.length c3] 60)
    have RA := hide (RowAt.new wA 60 #[.int .u8 (s.hash : Int), .int .u8 (s.flags : Int), .int .u16 (s.iter : Int), .slice a1 s.salt.length c1, .slice a2 s.next.length c2, .slice a3 s.types.length c3])
    have TA := hide (TB.out.trans (al.mono TB.out.size))
    have SA1 := hide (((OwnB.slOf hO1).1).below al (Nat.le_refl _))
    have NA1 := hide (OwnB.slOf hO1).2
    have SA2 := hide (((OwnB.slOf hO2).1).below al (Nat.le_refl _))
    have NA2 := hide (OwnB.slOf hO2).2
    have SA3 := hide (((OwnH.slOf hO3).1).below al (Nat.le_refl _))
    have NA3 := hide (OwnH.slOf hO3).2
    clear al hb hans hO1 hO2 hO3 TB
    go_wp2_with fail
    refine (sChain_any b ao len cap _ hl (by exact HS.out.below TA.out (Nat.le_refl _)) hc (by omega)).mono ?_
    rintro e wB hans
    obtain ⟨v, rfl, ⟨b1, d1, b2, d2, b3, d3, rfl, hP1, hP2, hP3⟩, hb⟩ := hans.pick (fun _ _ => ⟨none, 0, none, 0, none, 0, rfl, OwnB.nil _ _, OwnB.nil _ _, OwnH.nil _ _⟩) HOS.out
    have RA2 := hide ((RA.out.below hb RA.out.lt).alloc (.cells #[.int .u8 (s.hash : Int), .int .u8 (s.flags : Int), .int .u16 (s.iter : Int), .slice b1 s.salt.length d1, .slice b2 s.next.length d2, .slice b3 s.types.length d3] 60))
    have RB := hide (RowAt.new wB 60 #[.int .u8 (s.hash : Int), .int .u8 (s.flags : Int), .int .u16 (s.iter : Int), .slice b1 s.salt.length d1, .slice b2 s.next.length d2, .slice b3 s.types.length d3])
    have al := (Below.refl wB.heap.size wB).alloc (Nat.le_refl _) (.cells #[.int .u8 (s.hash : Int), .int .u8 (s.flags : Int), .int .u16 (s.iter : Int), .slice b1 s.salt.length d1, .slice b2 s.next.length d2, .slice b3 s.types.length d3] 60)
    have gl : wA.heap.size < wB.heap.size := Nat.lt_of_lt_of_le (by simp) hb.size
    have TC := hide ((TA.out.trans (hb.mono TA.out.size)).trans (al.mono (Nat.le_trans TA.out.size hb.size)))
    replace SA1 := hide (SA1.out.below hb (Nat.le_refl _))
    replace SA2 := hide (SA2.out.below hb (Nat.le_refl _))
    replace SA3 := hide (SA3.out.below hb (Nat.le_refl _))
    replace SA1 := hide (SA1.out.below al (Nat.le_refl _))
    replace SA2 := hide (SA2.out.below al (Nat.le_refl _))
    replace SA3 := hide (SA3.out.below al (Nat.le_refl _))
    have SB1 := hide (((OwnB.slOf hP1).1).below al (Nat.le_refl _))
    have SB2 := hide (((OwnB.slOf hP2).1).below al (Nat.le_refl _))
    have SB3 := hide (((OwnH.slOf hP3).1).below al (Nat.le_refl _))
    have p0 : (wB.alloc (.cells #[.int .u8 (s.hash : Int), .int .u8 (s.flags : Int), .int .u16 (s.iter : Int), .slice b1 s.salt.length d1, .slice b2 s.next.length d2, .slice b3 s.types.length d3] 60)).cell? ⟨wA.heap.size, 0, none⟩ = some (.int .u8 (s.hash : Int)) := RA2.out.cell 0
    have p1 : (wB.alloc (.cells #[.int .u8 (s.hash : Int), .int .u8 (s.flags : Int), .int .u16 (s.iter : Int), .slice b1 s.salt.length d1, .slice b2 s.next.length d2, .slice b3 s.types.length d3] 60)).cell? ⟨wA.heap.size, 1, none⟩ = some (.int .u8 (s.flags : Int)) := RA2.out.cell 1
    have p2 : (wB.alloc (.cells #[.int .u8 (s.hash : Int), .int .u8 (s.flags : Int), .int .u16 (s.iter : Int), .slice b1 s.salt.length d1, .slice b2 s.next.length d2, .slice b3 s.types.length d3] 60)).cell? ⟨wA.heap.size, 2, none⟩ = some (.int .u16 (s.iter : Int)) := RA2.out.cell 2
    have p3 : (wB.alloc (.cells #[.int .u8 (s.hash : Int), .int .u8 (s.flags : Int), .int .u16 (s.iter : Int), .slice b1 s.salt.length d1, .slice b2 s.next.length d2, .slice b3 s.types.length d3] 60)).cell? ⟨wA.heap.size, 3, none⟩ = some (.slice a1 s.salt.length c1) := RA2.out.cell 3
    have p4 : (wB.alloc (.cells #[.int .u8 (s.hash : Int), .int .u8 (s.flags : Int), .int .u16 (s.iter : Int), .slice b1 s.salt.length d1, .slice b2 s.next.length d2, .slice b3 s.types.length d3] 60)).cell? ⟨wA.heap.size, 4, none⟩ = some (.slice a2 s.next.length c2) := RA2.out.cell 4
    have p5 : (wB.alloc (.cells #[.int .u8 (s.hash : Int), .int .u8 (s.flags : Int), .int .u16 (s.iter : Int), .slice b1 s.salt.length d1, .slice b2 s.next.length d2, .slice b3 s.types.length d3] 60)).cell? ⟨wA.heap.size, 5, none⟩ = some (.slice a3 s.types.length c3) := RA2.out.cell 5
    clear al hb hans RA TA hP1 hP2 hP3
    go_wp2_with fail
    refine (hChain_same s a1 b1 a2 b2 a3 b3 c1 d1 c2 d2 c3 d3 _ (by exact SA1.out) (by exact SB1.out) (by exact SA2.out) (by exact SB2.out) (by exact SA3.out) (by exact SB3.out) (by have := BD.out; omega)).mono ?_
    rintro e wC ⟨rfl, hb⟩
    have RA3 := hide (RA2.out.below hb RA2.out.lt)
    have RB3 := hide (RB.out.below hb RB.out.lt)
    replace SA1 := hide (SA1.out.below hb (Nat.le_refl _))
    replace SA2 := hide (SA2.out.below hb (Nat.le_refl _))
    replace SA3 := hide (SA3.out.below hb (Nat.le_refl _))
    replace SB1 := hide (SB1.out.below hb (Nat.le_refl _))
    replace SB2 := hide (SB2.out.below hb (Nat.le_refl _))
    replace SB3 := hide (SB3.out.below hb (Nat.le_refl _))
    have TD := hide (TC.out.trans (hb.mono TC.out.size))
    clear hb p0 p1 p2 p3 p4 p5 RA2 RB TC
    have p0 : wC.cell? ⟨wA.heap.size, 0, none⟩ = some (.int .u8 (s.hash : Int)) := RA3.out.cell 0
    have p1 : wC.cell? ⟨wA.heap.size, 1, none⟩ = some (.int .u8 (s.flags : Int)) := RA3.out.cell 1
    have p2 : wC.cell? ⟨wA.heap.size, 2, none⟩ = some (.int .u16 (s.iter : Int)) := RA3.out.cell 2
    have p3 : wC.cell? ⟨wA.heap.size, 3, none⟩ = some (.slice a1 s.salt.length c1) := RA3.out.cell 3
    have p4 : wC.cell? ⟨wA.heap.size, 4, none⟩ = some (.slice a2 s.next.length c2) := RA3.out.cell 4
    have p5 : wC.cell? ⟨wA.heap.size, 5, none⟩ = some (.slice a3 s.types.length c3) := RA3.out.cell 5
    have q0 : wC.cell? ⟨wB.heap.size, 0, none⟩ = some (.int .u8 (s.hash : Int)) := RB3.out.cell 0
    have q1 : wC.cell? ⟨wB.heap.size, 1, none⟩ = some (.int .u8 (s.flags : Int)) := RB3.out.cell 1
    have q2 : wC.cell? ⟨wB.heap.size, 2, none⟩ = some (.int .u16 (s.iter : Int)) := RB3.out.cell 2
    have q3 : wC.cell? ⟨wB.heap.size, 3, none⟩ = some (.slice b1 s.salt.length d1) := RB3.out.cell 3
    have q4 : wC.cell? ⟨wB.heap.size, 4, none⟩ = some (.slice b2 s.next.length d2) := RB3.out.cell 4
    have q5 : wC.cell? ⟨wB.heap.size, 5, none⟩ = some (.slice b3 s.types.length d3) := RB3.out.cell 5
    rcases HOS.out with ⟨h, rfl⟩ | ⟨h, rfl, rfl⟩
    rotate_left
    have T3 := TD
    clear TD h p0 q0 p1 q1 p2 q2 p3 q3 p4 q4 p5 q5 RA3 RB3 HOS BD SA1 SB1 SA2 SB2 SA3 SB3 NA1 NA2 NA3 gl
    rotate_left
    have g := (D.chain_back (D.full_iff.1 h).2).2.2
    have hE : D.chainB s = b := by
      have := (D.chain_back (D.full_iff.1 h).2).1
      rw [List.append_nil] at this
      exact this.symm
    have H := hide h
    have HE := hide hE
    clear h hE
    go_wp2_with fail
    refine (chainBytes_any s a1 a2 a3 s.salt.length c1 s.next.length c2 s.types.length c3 _ rfl rfl rfl (by exact SA1.out) (by exact SA2.out) (by exact SA3.out) NA1.out NA2.out NA3.out (by have := g.2.2.2.1; omega) (by have := g.2.2.2.2.1; omega) (by have := BD.out; omega) g.2.2.2.2.2.2 g.1 g.2.1 g.2.2.1 (by have := (D.chain_len (D.full_iff.1 H.out).2).1; have := hl.out; omega)).mono ?_
    rw [HE.out]
    rintro e wD ⟨v, rfl, hO, hb⟩
    obtain ⟨a9, c9, rfl, hs9, _⟩ := hO.open
    have S9 := hide hs9
    have TE := hide (TD.out.trans (hb.mono TD.out.size))
    clear hO hs9 hb g
    rw [hl.out]
    go_wp2_with fail
    refine (bytes_same b a9 ao len len c9 cap _ (by exact S9.out) (by exact HS.out.below TE.out (Nat.le_refl _)) hl hl).mono ?_
    rintro e wE ⟨rfl, rfl⟩
    have T3 := TE
    clear TE S9 TD H HE p0 q0 p1 q1 p2 q2 p3 q3 p4 q4 p5 q5 RA3 RB3 HOS BD SA1 SB1 SA2 SB2 SA3 SB3 NA1 NA2 NA3 gl
  all_goals
    obtain ⟨s, cd, hos⟩ := pick_ex (D.full b (D.key b)) (⟨0, 0, 0, []⟩ : D.Key)
    have BD : Hid (True) := by
      rcases hos with h | ⟨_, h, _⟩
      · trivial
      · show True; subst h; simp
    have SL : Hid (s.key.length ≤ 3000) := by
      rcases hos with h | ⟨_, h, _⟩
      · have g := (D.key_back (D.full_iff.1 h.1).2).1; have e := congrArg List.length g; have := hl.out; simp only [D.keyB, List.length_append] at e; show _ ≤ _; omega
      · show s.key.length ≤ 3000; subst h; simp
    have HOS := hide hos
    clear hos
    go_wp2_with fail
    refine (Key_any b ao len cap _ hl (by exact HS.out.below T3.out (Nat.le_refl _)) hc NI.out).mono ?_
    rintro e wA hans
    obtain ⟨v, rfl, ⟨a1, c1, rfl, hO1⟩, hb⟩ := hans.pick (fun _ _ => ⟨none, 0, rfl, OwnB.nil _ _⟩) HOS.out
    have TB := hide (T3.out.trans (hb.mono T3.out.size))
    have al := (Below.refl wA.heap.size wA).alloc (Nat.le_refl _) (.cells #[.int .u16 (s.flags : Int), .int .u8 (s.proto : Int), .int .u8 (s.alg : Int), .slice a1 s.key.length c1] 68)
    have RA := hide (RowAt.new wA 68 #[.int .u16 (s.flags : Int), .int .u8 (s.proto : Int), .int .u8 (s.alg : Int), .slice a1 s.key.length c1])
    have TA := hide (TB.out.trans (al.mono TB.out.size))
    have SA1 := hide (((OwnB.slOf hO1).1).below al (Nat.le_refl _))
    have NA1 := hide (OwnB.slOf hO1).2
    clear al hb hans hO1 TB
    go_wp2_with fail
    refine (sKey_any b ao len cap _ hl (by exact HS.out.below TA.out (Nat.le_refl _)) hc (by omega)).mono ?_
    rintro e wB hans
    obtain ⟨v, rfl, ⟨b1, d1, rfl, hP1⟩, hb⟩ := hans.pick (fun _ _ => ⟨none, 0, rfl, OwnB.nil _ _⟩) HOS.out
    have RA2 := hide ((RA.out.below hb RA.out.lt).alloc (.cells #[.int .u16 (s.flags : Int), .int .u8 (s.proto : Int), .int .u8 (s.alg : Int), .slice b1 s.key.length d1] 68))
    have RB := hide (RowAt.new wB 68 #[.int .u16 (s.flags : Int), .int .u8 (s.proto : Int), .int .u8 (s.alg : Int), .slice b1 s.key.length d1])
    have al := (Below.refl wB.heap.size wB).alloc (Nat.le_refl _) (.cells #[.int .u16 (s.flags : Int), .int .u8 (s.proto : Int), .int .u8 (s.alg : Int), .slice b1 s.key.length d1] 68)
    have gl : wA.heap.size < wB.heap.size := Nat.lt_of_lt_of_le (by simp) hb.size
    have TC := hide ((TA.out.trans (hb.mono TA.out.size)).trans (al.mono (Nat.le_trans TA.out.size hb.size)))
    replace SA1 := hide (SA1.out.below hb (Nat.le_refl _))
    replace SA1 := hide (SA1.out.below al (Nat.le_refl _))
    have SB1 := hide (((OwnB.slOf hP1).1).below al (Nat.le_refl _))
    have p0 : (wB.alloc (.cells #[.int .u16 (s.flags : Int), .int .u8 (s.proto : Int), .int .u8 (s.alg : Int), .slice b1 s.key.length d1] 68)).cell? ⟨wA.heap.size, 0, none⟩ = some (.int .u16 (s.flags : Int)) := RA2.out.cell 0
    have p1 : (wB.alloc (.cells #[.int .u16 (s.flags : Int), .int .u8 (s.proto : Int), .int .u8 (s.alg : Int), .slice b1 s.key.length d1] 68)).cell? ⟨wA.heap.size, 1, none⟩ = some (.int .u8 (s.proto : Int)) := RA2.out.cell 1
    have p2 : (wB.alloc (.cells #[.int .u16 (s.flags : Int), .int .u8 (s.proto : Int), .int .u8 (s.alg : Int), .slice b1 s.key.length d1] 68)).cell? ⟨wA.heap.size, 2, none⟩ = some (.int .u8 (s.alg : Int)) := RA2.out.cell 2
    have p3 : (wB.alloc (.cells #[.int .u16 (s.flags : Int), .int .u8 (s.proto : Int), .int .u8 (s.alg : Int), .slice b1 s.key.length d1] 68)).cell? ⟨wA.heap.size, 3, none⟩ = some (.slice a1 s.key.length c1) := RA2.out.cell 3
    clear al hb hans RA TA hP1
    go_wp2_with fail
    refine (hKeyData_same s a1 b1 c1 d1 _ (by exact SA1.out) (by exact SB1.out)).mono ?_
    rintro e wC ⟨rfl, hb⟩
    have RA3 := hide (RA2.out.below hb RA2.out.lt)
    have RB3 := hide (RB.out.below hb RB.out.lt)
    replace SA1 := hide (SA1.out.below hb (Nat.le_refl _))
    replace SB1 := hide (SB1.out.below hb (Nat.le_refl _))
    have TD := hide (TC.out.trans (hb.mono TC.out.size))
    clear hb p0 p1 p2 p3 RA2 RB TC
    have p0 : wC.cell? ⟨wA.heap.size, 0, none⟩ = some (.int .u16 (s.flags : Int)) := RA3.out.cell 0
    have p1 : wC.cell? ⟨wA.heap.size, 1, none⟩ = some (.int .u8 (s.proto : Int)) := RA3.out.cell 1
    have p2 : wC.cell? ⟨wA.heap.size, 2, none⟩ = some (.int .u8 (s.alg : Int)) := RA3.out.cell 2
    have p3 : wC.cell? ⟨wA.heap.size, 3, none⟩ = some (.slice a1 s.key.length c1) := RA3.out.cell 3
    have q0 : wC.cell? ⟨wB.heap.size, 0, none⟩ = some (.int .u16 (s.flags : Int)) := RB3.out.cell 0
    have q1 : wC.cell? ⟨wB.heap.size, 1, none⟩ = some (.int .u8 (s.proto : Int)) := RB3.out.cell 1
    have q2 : wC.cell? ⟨wB.heap.size, 2, none⟩ = some (.int .u8 (s.alg : Int)) := RB3.out.cell 2
    have q3 : wC.cell? ⟨wB.heap.size, 3, none⟩ = some (.slice b1 s.key.length d1) := RB3.out.cell 3
    rcases HOS.out with ⟨h, rfl⟩ | ⟨h, rfl, rfl⟩
    rotate_left
    · go_wp2
      go_ret
      exact ⟨rfl, TD.out⟩
    have g := (D.key_back (D.full_iff.1 h).2).2.2
    have hE : D.keyB s = b := by
      have := (D.key_back (D.full_iff.1 h).2).1
      rw [List.append_nil] at this
      exact this.symm
    have H := hide h
    have HE := hide hE
    clear h hE
    go_wp2_with (first
      | (go_at_call 33; refine (keyBytes_any s a1 s.key.length c1 _ g rfl (by exact SA1.out) NA1.out (by have := SL.out; omega)).mono ?_; rw [HE.out]; rintro e wD ⟨v, rfl, hO, hb⟩; obtain ⟨a9, c9, rfl, hs9, _⟩ := hO.open; have S9 := hide hs9; have TE := hide (TD.out.trans (hb.mono TD.out.size)); clear hO hs9 hb g; rw [hl.out])
      | (go_at_call 16; refine (bytes_same b a9 ao len len c9 cap _ (by exact S9.out) (by exact HS.out.below TE.out (Nat.le_refl _)) hl hl).mono ?_; rintro e wE ⟨rfl, rfl⟩))
    go_wp2
    go_ret
    exact ⟨rfl, TE.out⟩
end Go.Proofs.Ytagopkmehlpjpaa
