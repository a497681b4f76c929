/- (*rdata.reader): done, others, number8, number16, number32, counted, name. -/
import Derived.Test.YtagopkmehlpjpaaRdr
import Derived.Laws.BitsAllLaws
namespace Go.Proofs.Ytagopkmehlpjpaa
open Go.RowKit
set_option maxRecDepth 5000 in
theorem rdone_any (B T : Nat) (l : List UInt8) (w : World) (hR : Rdr B T l w) :
    Calls Try.prog 67 #[.pointer (some ⟨T, 0, none⟩)] w fun e w' => e = .returned (.bool (decide (l = []))) ∧ w' = w := by
  obtain ⟨ao, c, hT, hs, hc, hnil, hBT, hl, hB⟩ := hR
  have c0 : w.cell? ⟨T, 0, none⟩ = some (.slice ao l.length c) := by rw [hT.cell 0]; rfl
  have he : ((l.length : Int) == 0) = decide (l = []) := by cases l <;> simp; omega
  generalize decide (l = []) = q at he
  clear hT hs
  go_enter Try.func67, Try.ntmps67
  go_wp2
  go_ret
  exact ⟨rfl, rfl⟩
set_option maxRecDepth 5000 in
theorem rothers_any (B T : Nat) (l : List UInt8) (w : World) (hR : Rdr B T l w) :
    Calls Try.prog 72 #[.pointer (some ⟨T, 0, none⟩)] w fun e w' => ∃ v, e = .returned v ∧ OwnB w' w.heap.size v l ∧ Rdr B T [] w' ∧ Mv T w w' := by
  have HR := hide hR
  obtain ⟨ao, c, hT, hs, hc, hnil, hBT, hl, hB⟩ := hR
  have c0 : w.cell? ⟨T, 0, none⟩ = some (.slice ao l.length c) := by rw [hT.cell 0]; rfl
  have hby : D.by_ l.length l = some (l, []) := by unfold D.by_; rw [if_neg (by omega), List.take_length, List.drop_length]
  have HY := hide hby
  clear hT hs hby
  go_enter Try.func72, Try.ntmps72
  go_wp2_with fail
  refine (rbytes_any B T l.length l _ (by exact HR.out) (by omega)).mono ?_
  rw [HY.out]
  rintro e w1 ⟨⟨x, r, v, ho, rfl, hx, hr⟩ | ⟨ho, rfl⟩, hm⟩
  · cases ho
    go_wp2
    go_ret
    exact ⟨v, rfl, hx, hr, hm⟩
  · cases ho
set_option maxRecDepth 5000 in
theorem rn8_any (B T : Nat) (l : List UInt8) (w : World) (hR : Rdr B T l w) :
    Calls Try.prog 83 #[.pointer (some ⟨T, 0, none⟩)] w fun e w' => Got B T (D.n8 l) (fun x v _ => v = .int .u8 (x : Int)) w e w' := by
  go_enter Try.func83, Try.ntmps83
  go_wp2_with fail
  refine (rbytes_any B T 1 l _ hR (by omega)).mono ?_
  rintro e w1 ⟨⟨x, r, v, ho, rfl, hx, hr⟩ | ⟨ho, rfl⟩, hm⟩
  · obtain ⟨e1, e2⟩ := D.by_back ho
    match x, e2, hx with
    | [y], _, hx =>
      obtain ⟨g, cap, rfl, _, _, _, _, hc⟩ := hx.form (by simp)
      have c0 : w1.cell? ⟨g, 0, none⟩ = some (.int .u8 (y.toNat : Int)) := hc 0 (by simp)
      clear hc
      go_wp2
      go_ret
      exact ⟨Or.inl ⟨y.toNat, r, _, by rw [e1]; rfl, rfl, rfl, hr⟩, hm⟩
  · unfold fell50
    go_wp2
    refine ⟨rfl, Or.inr ⟨?_, rfl⟩, hm⟩
    cases l with
    | nil => rfl
    | cons a l => unfold D.by_ at ho; rw [if_neg (by simp)] at ho; cases ho
set_option maxRecDepth 5000 in
theorem or_16 (x y : Nat) (hx : x < 256) (hy : y < 256) : bits .or .u16 ((x : Int) * 256) (y : Int) = ((x * 256 + y : Nat) : Int) := by
  have := u16_or_nat (x * 256) y (by omega) (by omega)
  rw [nat_join 8 (x * 256) y (by omega) (by omega), Int.natCast_mul] at this
  exact this
set_option maxRecDepth 5000 in
theorem or_32 (x y : Nat) (hx : x < 65536) (hy : y < 65536) : bits .or .u32 ((x : Int) * 65536) (y : Int) = ((x * 65536 + y : Nat) : Int) := by
  have := u32_or_nat (x * 65536) y (by omega) (by omega)
  rw [nat_join 16 (x * 65536) y (by omega) (by omega), Int.natCast_mul] at this
  exact this
set_option maxRecDepth 5000 in
theorem rn16_any (B T : Nat) (l : List UInt8) (w : World) (hR : Rdr B T l w) :
    Calls Try.prog 82 #[.pointer (some ⟨T, 0, none⟩)] w fun e w' => Got B T (D.n16 l) (fun x v _ => v = .int .u16 (x : Int)) w e w' := by
  go_enter Try.func82, Try.ntmps82
  go_wp2_with fail
  refine (rbytes_any B T 2 l _ hR (by omega)).mono ?_
  rintro e w1 ⟨⟨x, r, v, ho, rfl, hx, hr⟩ | ⟨ho, rfl⟩, hm⟩
  · obtain ⟨e1, e2⟩ := D.by_back ho
    match x, e2, hx with
    | [y, z], _, hx =>
      obtain ⟨g, cap, rfl, _, _, _, _, hc⟩ := hx.form (by simp)
      have c0 : w1.cell? ⟨g, 0, none⟩ = some (.int .u8 (y.toNat : Int)) := hc 0 (by simp)
      have c1 : w1.cell? ⟨g, 1, none⟩ = some (.int .u8 (z.toNat : Int)) := hc 1 (by simp)
      have hy := y.toNat_lt
      have hz := z.toNat_lt
      have ho2 := or_16 y.toNat z.toNat hy hz
      clear hc
      go_wp2
      go_quiet (fail)
      go_wp2
      go_ret
      refine ⟨Or.inl ⟨y.toNat * 256 + z.toNat, r, _, by rw [e1]; rfl, rfl, ?_, hr.below (drew_below _ ⟨_, rfl⟩)⟩, hm.trans (Mv.of (drew_below _ ⟨_, rfl⟩))⟩
      show Value.int .u16 ((y.toNat : Int) * 256 + (z.toNat : Int)) = .int .u16 ((y.toNat * 256 + z.toNat : Nat) : Int)
      rw [Int.natCast_add, Int.natCast_mul]; rfl
  · unfold fell50
    go_wp2
    refine ⟨rfl, Or.inr ⟨?_, rfl⟩, hm⟩
    match l with
    | [] => rfl
    | [a] => rfl
    | a :: b :: l => unfold D.by_ at ho; rw [if_neg (by simp)] at ho; cases ho
set_option maxRecDepth 5000 in
theorem rn32_any (B T : Nat) (l : List UInt8) (w : World) (hR : Rdr B T l w) :
    Calls Try.prog 79 #[.pointer (some ⟨T, 0, none⟩)] w fun e w' => Got B T (D.n32 l) (fun x v _ => v = .int .u32 (x : Int)) w e w' := by
  go_enter Try.func79, Try.ntmps79
  go_wp2_with fail
  refine (rn16_any B T l _ hR).mono ?_
  rintro e w1 ⟨⟨x, r, v, ho, rfl, rfl, hr⟩ | ⟨ho, rfl⟩, hm⟩
  · obtain ⟨_, hx⟩ := D.n16_back ho
    go_wp2_with fail
    refine (rn16_any B T r _ hr).mono ?_
    rintro e w2 ⟨⟨y, q, v, ho2, rfl, rfl, hq⟩ | ⟨ho2, rfl⟩, hm2⟩
    · obtain ⟨_, hy⟩ := D.n16_back ho2
      have hor := or_32 x y hx hy
      go_wp2
      go_ret
      refine ⟨Or.inl ⟨x * 65536 + y, q, _, by unfold D.n32; rw [ho]; simp [ho2], rfl, ?_, hq⟩, hm.trans hm2⟩
      show Value.int .u32 ((x : Int) * 65536 + (y : Int)) = .int .u32 ((x * 65536 + y : Nat) : Int)
      rw [Int.natCast_add, Int.natCast_mul]; rfl
    · unfold fell50
      go_wp2
      exact ⟨rfl, Or.inr ⟨by unfold D.n32; rw [ho]; simp [ho2], rfl⟩, hm.trans hm2⟩
  · unfold fell50
    go_wp2
    exact ⟨rfl, Or.inr ⟨by unfold D.n32; rw [ho]; rfl, rfl⟩, hm⟩
set_option maxRecDepth 5000 in
theorem rcounted_any (B T : Nat) (l : List UInt8) (w : World) (hR : Rdr B T l w) :
    Calls Try.prog 74 #[.pointer (some ⟨T, 0, none⟩)] w fun e w' => Got B T (D.cnt l) (fun x v w' => OwnB w' w.heap.size v x) w e w' := by
  go_enter Try.func74, Try.ntmps74
  go_wp2_with fail
  refine (rn8_any B T l _ hR).mono ?_
  rintro e w1 ⟨⟨x, r, v, ho, rfl, rfl, hr⟩ | ⟨ho, rfl⟩, hm⟩
  · obtain ⟨_, hx⟩ := D.n8_back ho
    go_wp2_with fail
    refine (rbytes_any B T x r _ hr (by omega)).mono ?_
    rintro e w2 ⟨⟨y, q, v, ho2, rfl, hO, hq⟩ | ⟨ho2, rfl⟩, hm2⟩
    · go_wp2
      go_ret
      exact ⟨Or.inl ⟨y, q, _, by unfold D.cnt; rw [ho]; exact ho2, rfl, hO.lower hm.size, hq⟩, hm.trans hm2⟩
    · unfold fell50
      go_wp2
      exact ⟨rfl, Or.inr ⟨by unfold D.cnt; rw [ho]; exact ho2, rfl⟩, hm.trans hm2⟩
  · unfold fell50
    go_wp2
    exact ⟨rfl, Or.inr ⟨by unfold D.cnt; rw [ho]; rfl, rfl⟩, hm⟩
set_option maxRecDepth 5000 in
theorem rname_any (B T : Nat) (l : List UInt8) (w : World) (hR : Rdr B T l w) :
    Calls Try.prog 77 #[.pointer (some ⟨T, 0, none⟩)] w fun e w' => Got B T (D.nm l) (fun x v w' => OwnS w' w.heap.size v x) w e w' := by
  obtain ⟨ao, c, hT, hs, hc, hnil, hBT, hl, hB⟩ := hR
  have c0 : w.cell? ⟨T, 0, none⟩ = some (.slice ao l.length c) := by rw [hT.cell 0]; rfl
  have HT := hide hT
  have HS := hide hs
  clear hT hs
  go_enter Try.func77, Try.ntmps77
  go_wp2_with fail
  refine (open_any l ao l.length c _ rfl (by exact HS.out.sl hB) (by omega) hc).mono ?_
  rintro e w1 ⟨⟨n, v, hn, hz, rfl, hO⟩ | ⟨hn, rfl⟩ | ⟨n, hn, hz, rfl⟩, hb1⟩
  · obtain ⟨_, _, hsz⟩ := N.opn_small l n hn
    have hR : D.nm l = some (n, l.drop (N.size n)) := by unfold D.nm; rw [hn, Option.bind_some, if_pos hz]
    obtain ⟨a2, r2, s2, n2⟩ := slice_tl (N.size n) HS.out hsz hc hnil
    have hT1 := HT.out.below hb1 HT.out.lt
    have c1 : w1.cell? ⟨T, 0, none⟩ = some (.slice ao l.length c) := hT1.cell 0
    have f1 := hT1.frozen 0
    have HR := hide hR
    have H2 := hide s2
    have HO := hide hO
    have HT1 := hide hT1
    have HB1 := hide hb1
    clear hR s2 hO hT1 hn hb1
    go_wp2
    go_ret
    refine ⟨Or.inl ⟨_, _, v, HR.out, rfl, ?_, ?_⟩, (Mv.of HB1.out).trans (Mv.set T 0 _ _)⟩
    · exact own_set HO.out HT1.out (by decide) _ _
    · refine ⟨a2, c - N.size n, ?_, ?_, by rw [List.length_drop]; omega, n2, hBT, by rw [List.length_drop]; omega, by simp [World.setCell]; have := HB1.out.size; omega⟩
      · rw [List.length_drop]; exact HT1.out.set 0 _
      · exact (H2.out.below (HB1.out.mono hB)).below ((Below.refl B w1).setCell hBT _)
  · have hR : D.nm l = none := by unfold D.nm; rw [hn]; rfl
    have HR := hide hR
    clear hR hn
    go_wp2
    exact ⟨rfl, Or.inr ⟨HR.out, rfl⟩, Mv.of hb1⟩
  · have hR : D.nm l = none := by unfold D.nm; rw [hn, Option.bind_some, if_neg (by omega)]
    have HR := hide hR
    clear hR hn
    go_wp2
    exact ⟨rfl, Or.inr ⟨HR.out, rfl⟩, Mv.of hb1⟩
end Go.Proofs.Ytagopkmehlpjpaa
