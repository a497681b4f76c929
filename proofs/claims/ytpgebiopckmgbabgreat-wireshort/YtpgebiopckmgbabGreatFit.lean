/- wire.Fit of a reply that has answers alone. -/
import Derived.Test.YtpgebiopckmgbabGreatShn
namespace Go.Proofs.YtpgebiopckmgbabGreat
open Go.RowKit
set_option maxRecDepth 5000 in
theorem SlR.take {w : World} {a : Option Addr} {L : List RX} (h : SlR w a L) (k : Nat) : SlR w a (L.take k) := by
  intro hl
  obtain ⟨g, o, e, hg, hc⟩ := h (by simp at hl; omega)
  refine ⟨g, o, e, hg, fun j x hx => hc j x ?_⟩
  rw [List.getElem?_take] at hx
  split at hx
  · exact hx
  · cases hx
set_option maxRecDepth 5000 in
theorem Secs.takeA {w : World} {a : Option Addr} {L : List RX} {c : Nat} (h : Secs w (fA a) (fL L) (fC c)) (k : Nat) : Secs w (fA a) (fL (L.take k)) (fC c) := by
  refine ⟨fun j hj => ?_, h.nil, fun j hj => ?_, fun j hj x hx => ?_⟩
  · cases j with
    | zero => exact (h.sl 0 hj).take k
    | succ j => exact fun h => absurd h (by simp [fL])
  · cases j with
    | zero =>
      have h1 : L.length ≤ 30 := h.few 0 hj
      show (L.take k).length ≤ 30
      rw [List.length_take]; omega
    | succ j => simp [fL]
  · cases j with
    | zero => exact h.ok 0 hj x (List.mem_of_mem_take hx)
    | succ j => cases hx
set_option maxRecDepth 3000 in
set_option maxHeartbeats 2000000 in
theorem fit_r (L : List RX) (a : Option Addr) (c : Nat) (size lim : Int) (w : World) (hR : Secs w (fA a) (fL L) (fC c)) (hc : L.length ≤ c) (h99 : ∀ x ∈ L, x.r.type = 99 ∧ x.r.cls = 1 ∧ x.r.name.length ≤ 1000 ∧ Sane x.r.name)
    (hs : (size < 512 ∧ lim = 512) ∨ (512 ≤ size ∧ size ≤ 65535 ∧ lim = size))
    (n k : Nat) (hn : Hid (M.fits lim (L.map (·.r)) = n)) (hk : Hid (M.keep (L.map (·.r)) n = k)) (tc : Bool) (htc : Hid (decide (n < L.length) = tc)) (fl : Nat) (hfl : Hid (M.fl 0 0 true false tc false false = fl)) (hfb : fl < 65536) (hkL : k ≤ L.length)
    (out : List UInt8) (hout : Hid ((M.wrs 65535 ((L.take k).map (·.r)) (fun _ => none) (hdr 0 fl 0 k 0 0)).2.1 = out)) (hlen : out.length ≤ 65535) :
    Calls Tryz.prog 11 #[.agg #[.int .u16 0, .bool true, .int .i64 0, .bool false, .bool false, .bool false, .bool false, .int .i64 0, .slice none 0 0, .slice a L.length c, .slice none 0 0, .slice none 0 0, .bool false, .int .u16 0, .bool false], .int .i64 size] w fun e w' => ∃ v, e = .returned (.tuple #[v, .int .i64 0]) ∧ OwnB w' w.heap.size v out ∧ Below w.heap.size w w' := by
  have HR := hide hR
  have H99 := hide h99
  have hlim : 12 ≤ lim := by omega
  have HLT : Hid ((L.take k).length = k) := by show _ = _; rw [List.length_take]; omega
  have BX : Hid (Below w.heap.size w (w.alloc (.cells #[.int .u16 0, .bool true, .int .i64 0, .bool false, .bool false, .bool false, .bool false, .int .i64 0, .slice none 0 0, .slice a L.length c, .slice none 0 0, .slice none 0 0, .bool false, .int .u16 0, .bool false] 32))) := (Below.refl w.heap.size w).alloc (Nat.le_refl _) _
  have R0 := hide (RowAt.new w 32 #[.int .u16 0, .bool true, .int .i64 0, .bool false, .bool false, .bool false, .bool false, .int .i64 0, .slice none 0 0, .slice a L.length c, .slice none 0 0, .slice none 0 0, .bool false, .int .u16 0, .bool false])
  have HF : Hid (∀ w' : World, Calls Tryz.prog 28 #[.agg #[.int .u16 ((0 : Nat) : Int), .bool true, .int .i64 0, .bool false, .bool tc, .bool false, .bool false, .int .i64 0, .slice none ([] : List (Option Addr × Nat × M.Q)).length 0, .slice (fA a 0) (fL (L.take k) 0).length (fC c 0), .slice (fA a 1) (fL (L.take k) 1).length (fC c 1), .slice (fA a 2) (fL (L.take k) 2).length (fC c 2), .bool false, .int .u16 0, .bool false]] w' fun e w'' => e = .returned (.int .u16 (fl : Int)) ∧ Below w'.heap.size w' w'') := fun w' => by
    rw [← hfl.out]
    exact flags_any 0 0 0 0 (L.take k).length c 0 0 0 0 true false tc false false false false 0 0 none a none none w' 0 0 (hide rfl) (hide rfl) (by omega) (by omega)
  have HQ : Hid (M.wqs (([] : List (Option Addr × Nat × M.Q)).map (·.2.2)) (fun _ => none) (hdr 0 fl ([] : List (Option Addr × Nat × M.Q)).length (fL (L.take k) 0).length (fL (L.take k) 1).length (fL (L.take k) 2).length) = ((fun _ => none), hdr 0 fl 0 k 0 0)) := by
    show M.wqs [] (fun _ => none) (hdr 0 fl 0 (L.take k).length 0 0) = _
    rw [HLT.out]; rfl
  have HO : Hid ((M.wrs 65535 ((cat (fL (L.take k)) 3).map (·.r)) (fun _ => none) (hdr 0 fl 0 k 0 0)).2.1 = out) := by
    have e : (cat (fL (L.take k)) 3).map (·.r) = (L.take k).map (·.r) := by simp [cat, fL]
    show _ = _
    rw [e]; exact hout.out
  clear hR h99
  go_enter Tryz.func11, Tryz.ntmps11
  go_wp2_with (refine wpList_load_row rfl 32 (.tmp 2) rfl w.heap.size rfl 32 #[.int .u16 0, .bool true, .int .i64 0, .bool false, .bool false, .bool false, .bool false, .int .i64 0, .slice none 0 0, .slice a L.length c, .slice none 0 0, .slice none 0 0, .bool false, .int .u16 0, .bool false] (0, 0) _ (by exact R0.out) Tryz.underlying32 rfl infoM ?_)
  refine (sound_r 0 true false false false false 0 0 [] none 0 (fA a) (fL L) (fC c) _ (by omega) (by omega) (by exact fun h => absurd h (by simp)) (by simp) (fun x hx => by cases hx) (by exact HR.out.below BX.out)).mono ?_
  rintro e w1 ⟨rfl, hb1⟩
  have R1 := hide (R0.out.below hb1 R0.out.lt)
  have B1 := hide (BX.out.trans (hb1.mono BX.out.size))
  clear hb1 R0 BX
  have DO : ∀ (w2 : World) (e : Ending), e = .returned (.agg #[.int .u16 0, .bool true, .int .i64 0, .bool false, .bool tc, .bool false, .bool false, .int .i64 0, .slice none 0 0, .slice a k c, .slice none 0 0, .slice none 0 0, .bool false, .int .u16 0, .bool false]) ∧ Below w1.heap.size w1 w2 → Calls Tryz.prog 8 #[.agg #[.int .u16 0, .bool true, .int .i64 0, .bool false, .bool tc, .bool false, .bool false, .int .i64 0, .slice none 0 0, .slice a k c, .slice none 0 0, .slice none 0 0, .bool false, .int .u16 0, .bool false]] w2 fun e w' => ∃ v, e = .returned (.tuple #[v, .int .i64 0]) ∧ OwnB w' w.heap.size v out ∧ Below w.heap.size w w' := by
    rintro w2 e ⟨_, hb2⟩
    have b2 := B1.out.trans (hb2.mono B1.out.size)
    have hS : Secs w2 (fA a) (fL (L.take k)) (fC c) := (HR.out.below b2).takeA k
    have h := bytes_r fl 0 true false tc false false 0 0 [] none 0 (fA a) (fL (L.take k)) (fC c) w2 (by omega) hfb (by omega) (by omega) (fun h => absurd h (by simp)) (by simp) (fun x hx => by cases hx) (fun x hx => by cases hx) hS HF _ HQ out HO hlen
    have e1 : (fL (L.take k) 0).length = k := HLT.out
    rw [e1] at h
    refine h.mono ?_
    rintro e w' ⟨v, rfl, ho, hb⟩
    exact ⟨v, rfl, ho.lower b2.size, b2.trans (hb.mono b2.size)⟩
  rcases hs with ⟨h5, rfl⟩ | ⟨h5, h6, rfl⟩
  · go_wp2_with (refine wpList_load_row rfl 32 (.tmp 2) rfl w.heap.size rfl 32 #[.int .u16 0, .bool true, .int .i64 0, .bool false, .bool false, .bool false, .bool false, .int .i64 0, .slice none 0 0, .slice a L.length c, .slice none 0 0, .slice none 0 0, .bool false, .int .u16 0, .bool false] (0, 0) _ (by exact R1.out) Tryz.underlying32 rfl infoM ?_)
    refine (shortened_r L a c 512 _ (by exact HR.out.below B1.out) hc H99.out (by omega) n k hn hk tc htc).mono ?_
    rintro e w2 ⟨rfl, hb2⟩
    go_wp2_with fail
    refine (DO w2 _ ⟨rfl, hb2⟩).mono ?_
    rintro e w3 ⟨v, rfl, HV⟩
    have HV2 := hide HV
    go_wp2
    go_ret2
    exact ⟨v, rfl, HV2.out⟩
  · go_wp2_with (refine wpList_load_row rfl 32 (.tmp 2) rfl w.heap.size rfl 32 #[.int .u16 0, .bool true, .int .i64 0, .bool false, .bool false, .bool false, .bool false, .int .i64 0, .slice none 0 0, .slice a L.length c, .slice none 0 0, .slice none 0 0, .bool false, .int .u16 0, .bool false] (0, 0) _ (by exact R1.out) Tryz.underlying32 rfl infoM ?_)
    refine (shortened_r L a c lim _ (by exact HR.out.below B1.out) hc H99.out (by omega) n k hn hk tc htc).mono ?_
    rintro e w2 ⟨rfl, hb2⟩
    go_wp2_with fail
    refine (DO w2 _ ⟨rfl, hb2⟩).mono ?_
    rintro e w3 ⟨v, rfl, HV⟩
    have HV2 := hide HV
    go_wp2
    go_ret2
    exact ⟨v, rfl, HV2.out⟩
end Go.Proofs.YtpgebiopckmgbabGreat
