/- The law WireEdns: the walk. -/
import Derived.Test.YtpgebiopckmgbabGreatEdi
import Derived.Test.YtpgebiopckmgbabGreatRde
import Derived.Test.YtpgebiopckmgbabGreatBye
import Derived.Test.YtpgebiopckmgbabGreatByn
import Derived.Test.YtpgebiopckmgbabGreatByz
import Derived.Test.YtpgebiopckmgbabGreatFla
import Derived.Test.YtpgebiopckmgbabGreatPlc
import Derived.Test.YtpgebiopckmgbabGreatKnw
namespace Go.Proofs.YtpgebiopckmgbabGreat
open Go.RowKit
set_option maxRecDepth 5000 in
theorem g7_c : ∀ c, c < 16 → M.g7 (c + 32768) = (c : Int) := by decide +kernel
set_option maxRecDepth 5000 in
theorem do_c : ∀ h, h < 256 → (bits .and .u32 ((h * 16777216 + 32768 : Nat) : Int) 32768 != 0) = true ∧ (bits .and .u32 ((h * 16777216 + 0 : Nat) : Int) 32768 != 0) = false := by decide +kernel
set_option maxRecDepth 3000 in
set_option maxHeartbeats 4000000 in
theorem edns_walk (sz : Nat) (xd : Bool) (code : Int) (n : Nat) (w : World) (hsz : sz < 65536) (hn : n < 256) :
    Calls Tryz.prog 4 #[.int .u16 (sz : Int), .bool xd, .int .i64 code, .int .u8 (n : Int)] w fun e w' => e = .returned (.bool true) ∧ Below w.heap.size w w' := by
  go_enter Tryz.func4, Tryz.ntmps4
  go_wp2_with fail
  refine (known_any _).mono ?_
  rintro e wa ⟨rfl, hb1⟩
  have B1 := hide hb1
  clear hb1
  go_wp2_with fail
  refine (place_any code 4096 _ (by omega) (by omega)).mono ?_
  rintro e w1 ⟨cd, hcd, rfl, rfl⟩
  have BX : Hid (Below w.heap.size w (w1.alloc (.cells #[.int .u16 0, .bool true, .int .i64 0, .bool false, .bool false, .bool false, .bool false, .int .i64 (cd : Int), .slice none 0 0, .slice none 0 0, .slice none 0 0, .slice none 0 0, .bool true, .int .u16 (sz : Int), .bool xd] 32))) := B1.out.alloc B1.out.size _
  have SX : Hid (EI cd sz xd w1.heap.size w 0 (w1.alloc (.cells #[.int .u16 0, .bool true, .int .i64 0, .bool false, .bool false, .bool false, .bool false, .int .i64 (cd : Int), .slice none 0 0, .slice none 0 0, .slice none 0 0, .slice none 0 0, .bool true, .int .u16 (sz : Int), .bool xd] 32)) (.slice none 0 0) []) := ⟨RowAt.new w1 32 #[.int .u16 0, .bool true, .int .i64 0, .bool false, .bool false, .bool false, .bool false, .int .i64 (cd : Int), .slice none 0 0, .slice none 0 0, .slice none 0 0, .slice none 0 0, .bool true, .int .u16 (sz : Int), .bool xd], World.ownsRow_nil _ _ _ _, rfl, fun x hx => (by cases hx), BX.out, B1.out.size⟩
  obtain ⟨kk, hkk⟩ : ∃ kk : Nat, (n : Int) % 4 = (kk : Int) := ⟨n % 4, by omega⟩
  have hk3 : kk ≤ 3 := by omega
  clear BX
  go_wp2
  go_loopw [10] (fun u wx => ∃ (j : Nat) (va : Value) (L : List RX), u = .int .i64 (j : Int) ∧ j ≤ kk ∧ Hid (EI cd sz xd w1.heap.size w j wx va L)) (fun u _ => kk - (intOf u).toNat)
  case atStart => exact ⟨0, _, _, rfl, by omega, SX⟩
  case round =>
    clear SX
    obtain ⟨j, va, L, rfl, hj, HI⟩ := hrel
    have hzr := HI.out.bel.size
    have hmlt := HI.out.msg.lt
    have HJL := hide HI.out.len
    have hLn : L.length ≤ 3 := by have := HJL.out; omega
    by_cases hjk : j < kk
    · have hd1 : decide ((j : Int) < (kk : Int)) = true := by simp; omega
      have y9 : wr.cell? ⟨w1.heap.size, 11, none⟩ = some va := HI.out.msg.cell 11
      have hj8 : IntKind.u8.wrap (j : Int) = (j : Int) := by rw [IntKind.wrap_u8]; omega
      obtain ⟨va1, va2, rfl, _⟩ := HI.out.own.form2
      have bA : Below wr.heap.size wr (((wr.alloc (.cells #[.string ⟨#[97]⟩] 9)).alloc (.cells #[.int .u8 1, .int .u8 2, .int .u8 3, .int .u8 (j : Int)] 5)).alloc (.cells #[.slice (some ⟨wr.heap.size, 0, none⟩) 1 1, .int .u16 1, .int .u16 1, .int .u32 5, .slice (some ⟨wr.heap.size + 1, 0, none⟩) 4 4] 39)) := (((Below.refl _ _).alloc (Nat.le_refl _) _).alloc (by simp) _).alloc (by simp; omega) _
      have OA : Hid (OwnRc (((wr.alloc (.cells #[.string ⟨#[97]⟩] 9)).alloc (.cells #[.int .u8 1, .int .u8 2, .int .u8 3, .int .u8 (j : Int)] 5)).alloc (.cells #[.slice (some ⟨wr.heap.size, 0, none⟩) 1 1, .int .u16 1, .int .u16 1, .int .u32 5, .slice (some ⟨wr.heap.size + 1, 0, none⟩) 4 4] 39)) w.heap.size (.slice va1 L.length va2) L) := own_below (show World.ownsRow _ _ _ _ _ _ _ from HI.out.own) bA
      have SR : Hid (SlR (((wr.alloc (.cells #[.string ⟨#[97]⟩] 9)).alloc (.cells #[.int .u8 1, .int .u8 2, .int .u8 3, .int .u8 (j : Int)] 5)).alloc (.cells #[.slice (some ⟨wr.heap.size, 0, none⟩) 1 1, .int .u16 1, .int .u16 1, .int .u32 5, .slice (some ⟨wr.heap.size + 1, 0, none⟩) 4 4] 39)) (some ⟨wr.heap.size + 2, 0, none⟩) [(⟨some ⟨wr.heap.size, 0, none⟩, 1, some ⟨wr.heap.size + 1, 0, none⟩, 4, M.aRec j⟩ : RX)]) := by
        have r2 := RowAt.new ((wr.alloc (.cells #[.string ⟨#[97]⟩] 9)).alloc (.cells #[.int .u8 1, .int .u8 2, .int .u8 3, .int .u8 (j : Int)] 5)) 39 #[.slice (some ⟨wr.heap.size, 0, none⟩) 1 1, .int .u16 1, .int .u16 1, .int .u32 5, .slice (some ⟨wr.heap.size + 1, 0, none⟩) 4 4]
        rw [World.size_alloc, World.size_alloc] at r2
        have r1 := (RowAt.new (wr.alloc (.cells #[.string ⟨#[97]⟩] 9)) 5 #[.int .u8 1, .int .u8 2, .int .u8 3, .int .u8 (j : Int)]).alloc (.cells #[.slice (some ⟨wr.heap.size, 0, none⟩) 1 1, .int .u16 1, .int .u16 1, .int .u32 5, .slice (some ⟨wr.heap.size + 1, 0, none⟩) 4 4] 39)
        rw [World.size_alloc] at r1
        have r0 := ((RowAt.new wr 9 #[.string ⟨#[97]⟩]).alloc (.cells #[.int .u8 1, .int .u8 2, .int .u8 3, .int .u8 (j : Int)] 5)).alloc (.cells #[.slice (some ⟨wr.heap.size, 0, none⟩) 1 1, .int .u16 1, .int .u16 1, .int .u32 5, .slice (some ⟨wr.heap.size + 1, 0, none⟩) 4 4] 39)
        refine fun _ => ⟨_, 0, rfl, by simp, fun i y hy => ?_⟩
        cases i with
        | zero =>
          cases hy
          exact ⟨r2.cell 0, r2.cell 1, r2.cell 2, r2.cell 3, r2.cell 4, a_name r0, a_data (by omega) r1, fun e => by cases e⟩
        | succ i => cases hy
      have hzA : w.heap.size ≤ (((wr.alloc (.cells #[.string ⟨#[97]⟩] 9)).alloc (.cells #[.int .u8 1, .int .u8 2, .int .u8 3, .int .u8 (j : Int)] 5)).alloc (.cells #[.slice (some ⟨wr.heap.size, 0, none⟩) 1 1, .int .u16 1, .int .u16 1, .int .u32 5, .slice (some ⟨wr.heap.size + 1, 0, none⟩) 4 4] 39)).heap.size := by simp; omega
      clear bA
      go_wp2_with (at_builtin; refine wpList_append_R rfl (.tmp 33) (.tmp 39) rfl w.heap.size _ L rfl (by exact OA.out) (some ⟨wr.heap.size + 2, 0, none⟩) 1 1 [(⟨some ⟨wr.heap.size, 0, none⟩, 1, some ⟨wr.heap.size + 1, 0, none⟩, 4, M.aRec j⟩ : RX)] rfl rfl (by exact SR.out) (by intro h; cases h) (by omega) hzA ?_; intro v4 w4 hO4 hG4; have N4 := hide (HI.out.next (by omega) (⟨some ⟨wr.heap.size, 0, none⟩, 1, some ⟨wr.heap.size + 1, 0, none⟩, 4, M.aRec j⟩ : RX) ⟨rfl, rfl, rfl⟩ hO4 hG4); have M4 := row_grownO (((HI.out.msg.alloc _).alloc _).alloc _) (show World.ownsRow _ _ _ _ _ _ _ from OA.out) (by decide) hG4; obtain ⟨a4, c4, rfl, _⟩ := hO4.form2; have z9 : w4.cell? ⟨w1.heap.size, 11, none⟩ = some (.slice va1 L.length va2) := M4.cell 11; have g9 : w4.frozen? ⟨w1.heap.size, 11, none⟩ = false := M4.frozen 11; clear hO4 hG4 M4)
      have e4 : (L ++ [(⟨some ⟨wr.heap.size, 0, none⟩, 1, some ⟨wr.heap.size + 1, 0, none⟩, 4, M.aRec j⟩ : RX)]).length = L.length + 1 := by simp
      rw [e4] at N4
      exact ⟨⟨j + 1, _, _, by go_num, by omega, N4⟩, by simp [intOf]; omega⟩
    · have HJK : Hid (j = kk) := by show _ = _; omega
      have hd1 : decide ((j : Int) < (kk : Int)) = false := by simp; omega
      obtain ⟨va1, va2, rfl, _⟩ := HI.out.own.form2
      have HSEC := hide (HI.out.secs (by omega) (Mv.refl _ _))
      obtain ⟨fl, HFL⟩ : ∃ fl, Hid (M.fl 0 cd true false false false false = fl) := ⟨_, rfl⟩
      have hfl : fl = cd % 16 + 32768 := by rw [← HFL.out]; simp [M.fl]
      have hfb : fl < 65536 := by omega
      obtain ⟨ttl, HT⟩ : ∃ ttl, Hid (cd / 16 * 16777216 + (if xd then 32768 else 0) = ttl) := ⟨_, rfl⟩
      have htb : ttl < 4294967296 ∧ ttl / 16777216 = cd / 16 := by rw [← HT.out]; cases xd <;> simp <;> omega
      have HDO : Hid ((bits .and .u32 (ttl : Int) 32768 != 0) = xd) := by
        have h := do_c (cd / 16) (by omega)
        show _ = _
        rw [← HT.out]
        cases xd
        · exact h.2
        · exact h.1
      have HG7 : Hid (M.g7 fl = ((cd % 16 : Nat) : Int)) := by
        show _ = _
        rw [hfl]; exact g7_c _ (by omega)
      have HF : ∀ (e : Bool), Hid (∀ w' : World, Calls Tryz.prog 28 #[.agg #[.int .u16 ((0 : Nat) : Int), .bool true, .int .i64 0, .bool false, .bool false, .bool false, .bool false, .int .i64 (cd : Int), .slice none ([] : List (Option Addr × Nat × M.Q)).length 0, .slice (eA va1 0) (eL L 0).length (eC va2 0), .slice (eA va1 1) (eL L 1).length (eC va2 1), .slice (eA va1 2) (eL L 2).length (eC va2 2), .bool e, .int .u16 (sz : Int), .bool xd]] w' fun e w'' => e = .returned (.int .u16 (fl : Int)) ∧ Below w'.heap.size w' w'') := by
        intro e w'
        rw [← HFL.out]
        exact flags_any 0 sz 0 0 0 0 0 0 L.length va2 true false false false false e xd 0 (cd : Int) none none none va1 w' 0 cd (hide rfl) (hide rfl) (by omega) hcd
      have HQ1 : Hid (M.wqs (([] : List (Option Addr × Nat × M.Q)).map (·.2.2)) (fun _ => none) (hdr 0 fl ([] : List (Option Addr × Nat × M.Q)).length (eL L 0).length (eL L 1).length ((eL L 2).length + 1)) = ((fun _ => none), hdr 0 fl 0 0 0 (kk + 1))) := by
        show M.wqs [] (fun _ => none) (hdr 0 fl 0 0 0 (L.length + 1)) = _
        rw [HJL.out, HJK.out]; rfl
      have HR1 : Hid (M.wrs 65535 ((cat (eL L) 3).map (·.r)) (fun _ => none) (hdr 0 fl 0 0 0 (kk + 1)) = M.wrs 65535 ((List.range kk).map M.aRec) (fun _ => none) (hdr 0 fl 0 0 0 (kk + 1))) := by
        show _ = _
        rw [HI.out.catR, HJK.out]
      obtain ⟨out, HO⟩ : ∃ out, Hid (M.outB fl kk sz ttl = out) := ⟨_, rfl⟩
      have HW := hide (M.outB_wrote fl kk sz ttl hk3)
      have hol := M.outB_len fl kk sz ttl hk3
      have HNUM := hide (M.outB_nums fl kk sz ttl hfb hk3)
      have HAD := hide (M.outB_addr fl kk sz ttl hk3)
      have HOP := hide (M.outB_opt fl kk sz ttl hk3 hsz htb.1)
      rw [HO.out] at HW hol HNUM HAD HOP
      go_wp2_with (refine wpList_load_row rfl 32 (.tmp 9) rfl w1.heap.size rfl 32 #[.int .u16 0, .bool true, .int .i64 0, .bool false, .bool false, .bool false, .bool false, .int .i64 (cd : Int), .slice none 0 0, .slice none 0 0, .slice none 0 0, .slice va1 L.length va2, .bool true, .int .u16 (sz : Int), .bool xd] (0, 0) _ (by exact HI.out.msg) Tryz.underlying32 rfl infoM ?_)
      refine (bytes_e fl 0 cd sz xd true false false false false 0 [] none 0 (eA va1) (eL L) (eC va2) _ (by omega) hfb (by omega) (by omega) (by exact fun h => absurd h (by simp)) (by simp) (fun x hx => by cases hx) (fun x hx => by cases hx) HSEC.out (HF true) _ HQ1 _ HR1 ttl HT htb.1 hsz out HW (by omega)).mono ?_
      rintro e w5 ⟨vb, rfl, hOb, hb5⟩
      obtain ⟨ab, cb, rfl, hslb, hnlb, hleb, _⟩ := hOb.open
      have SB := hide hslb
      have NB := hide hnlb
      have I5 := hide (HI.out.below hb5)
      clear hOb hslb hnlb hb5 HSEC HI HW HQ1 HR1
      go_wp2_with fail
      refine (read_e out ab cb fl (cd % 16) kk M.plA sz ttl cd xd _ (by exact SB.out) hleb NB.out (by omega) hol.2 (hide HNUM.out.1) (hide HNUM.out.2.1) (hide HNUM.out.2.2.1) (hide HNUM.out.2.2.2.1) (hide HNUM.out.2.2.2.2.1) (hide HNUM.out.2.2.2.2.2) (hide rfl) hk3 HAD.out HOP.out (by omega) HG7 htb.1 HDO (hide (by rw [htb.2]; omega))).mono ?_
      rintro e w6 ⟨ra, rc, rfl, hb6⟩
      have I6 := hide (I5.out.below hb6)
      clear I5 hb6 SB NB HNUM HAD HOP HDO HG7
      unfold mc15
      obtain ⟨q1, h1⟩ : ∃ b, M.g1 fl = b := ⟨_, rfl⟩
      obtain ⟨q2, h2⟩ : ∃ b, M.g2 fl = b := ⟨_, rfl⟩
      obtain ⟨q3, h3⟩ : ∃ b, M.g3 fl = b := ⟨_, rfl⟩
      obtain ⟨q4, h4⟩ : ∃ b, M.g4 fl = b := ⟨_, rfl⟩
      obtain ⟨q5, h5⟩ : ∃ b, M.g5 fl = b := ⟨_, rfl⟩
      obtain ⟨q6, h6⟩ : ∃ b, M.g6 fl = b := ⟨_, rfl⟩
      rw [h1, h2, h3, h4, h5, h6]
      clear h1 h2 h3 h4 h5 h6
      have hm6 := I6.out.msg.lt
      have y12 : w6.cell? ⟨w1.heap.size, 12, none⟩ = some (.bool true) := I6.out.msg.cell 12
      have f12 : w6.frozen? ⟨w1.heap.size, 12, none⟩ = false := I6.out.msg.frozen 12
      have m8 : RowAt (w6.setCell ⟨w1.heap.size, 12, none⟩ (.bool false)) w1.heap.size 32 #[.int .u16 0, .bool true, .int .i64 0, .bool false, .bool false, .bool false, .bool false, .int .i64 (cd : Int), .slice none 0 0, .slice none 0 0, .slice none 0 0, .slice va1 L.length va2, .bool false, .int .u16 (sz : Int), .bool xd] := I6.out.msg.set 12 (.bool false)
      have M7 : Hid (RowAt ((w6.setCell ⟨w1.heap.size, 12, none⟩ (.bool false)).alloc (.cells #[.int .u16 ((0 : Nat) : Int), .bool q1, .int .i64 q2, .bool q3, .bool q4, .bool q5, .bool q6, .int .i64 (cd : Int), .slice none 0 0, .slice none 0 0, .slice none 0 0, .slice ra kk rc, .bool true, .int .u16 (sz : Int), .bool xd] 32)) w1.heap.size 32 #[.int .u16 0, .bool true, .int .i64 0, .bool false, .bool false, .bool false, .bool false, .int .i64 (cd : Int), .slice none 0 0, .slice none 0 0, .slice none 0 0, .slice va1 L.length va2, .bool false, .int .u16 (sz : Int), .bool xd]) := m8.alloc _
      have R7 : Hid (RowAt ((w6.setCell ⟨w1.heap.size, 12, none⟩ (.bool false)).alloc (.cells #[.int .u16 ((0 : Nat) : Int), .bool q1, .int .i64 q2, .bool q3, .bool q4, .bool q5, .bool q6, .int .i64 (cd : Int), .slice none 0 0, .slice none 0 0, .slice none 0 0, .slice ra kk rc, .bool true, .int .u16 (sz : Int), .bool xd] 32)) w6.heap.size 32 #[.int .u16 ((0 : Nat) : Int), .bool q1, .int .i64 q2, .bool q3, .bool q4, .bool q5, .bool q6, .int .i64 (cd : Int), .slice none 0 0, .slice none 0 0, .slice none 0 0, .slice ra kk rc, .bool true, .int .u16 (sz : Int), .bool xd]) := by
        have h := RowAt.new (w6.setCell ⟨w1.heap.size, 12, none⟩ (.bool false)) 32 #[.int .u16 ((0 : Nat) : Int), .bool q1, .int .i64 q2, .bool q3, .bool q4, .bool q5, .bool q6, .int .i64 (cd : Int), .slice none 0 0, .slice none 0 0, .slice none 0 0, .slice ra kk rc, .bool true, .int .u16 (sz : Int), .bool xd]
        rw [World.size_setCell] at h; exact h
      have B7 : Hid (Below w.heap.size w ((w6.setCell ⟨w1.heap.size, 12, none⟩ (.bool false)).alloc (.cells #[.int .u16 ((0 : Nat) : Int), .bool q1, .int .i64 q2, .bool q3, .bool q4, .bool q5, .bool q6, .int .i64 (cd : Int), .slice none 0 0, .slice none 0 0, .slice none 0 0, .slice ra kk rc, .bool true, .int .u16 (sz : Int), .bool xd] 32))) := (I6.out.bel.setCell I6.out.mlow _).alloc (by rw [World.size_setCell]; exact I6.out.bel.size) _
      have S7 : Hid (Secs ((w6.setCell ⟨w1.heap.size, 12, none⟩ (.bool false)).alloc (.cells #[.int .u16 ((0 : Nat) : Int), .bool q1, .int .i64 q2, .bool q3, .bool q4, .bool q5, .bool q6, .int .i64 (cd : Int), .slice none 0 0, .slice none 0 0, .slice none 0 0, .slice ra kk rc, .bool true, .int .u16 (sz : Int), .bool xd] 32)) (eA va1) (eL L) (eC va2)) := (I6.out.secs (by omega) (Mv.set w1.heap.size 12 w6 (.bool false))).below ((Below.refl _ _).alloc (Nat.le_refl _) _)
      have HR2 : Hid ((M.wrs 65535 ((cat (eL L) 3).map (·.r)) (fun _ => none) (hdr 0 fl 0 0 0 kk)).2.1 = hdr 0 fl 0 0 0 kk ++ M.bdyB kk) := by
        show _ = _
        rw [I6.out.catR, HJK.out]; exact M.plain_wrote fl kk hk3
      have HQ2 : Hid (M.wqs (([] : List (Option Addr × Nat × M.Q)).map (·.2.2)) (fun _ => none) (hdr 0 fl ([] : List (Option Addr × Nat × M.Q)).length (eL L 0).length (eL L 1).length (eL L 2).length) = ((fun _ => none), hdr 0 fl 0 0 0 kk)) := by
        show M.wqs [] (fun _ => none) (hdr 0 fl 0 0 0 L.length) = _
        rw [HJL.out, HJK.out]; rfl
      clear m8 I6
      go_wp2_with (refine wpList_load_row rfl 32 (.tmp 9) rfl w1.heap.size rfl 32 #[.int .u16 0, .bool true, .int .i64 0, .bool false, .bool false, .bool false, .bool false, .int .i64 (cd : Int), .slice none 0 0, .slice none 0 0, .slice none 0 0, .slice va1 L.length va2, .bool false, .int .u16 (sz : Int), .bool xd] (0, 0) _ (by exact M7.out) Tryz.underlying32 rfl infoM ?_)
      by_cases h16 : cd < 16
      · refine (bytes_z fl 0 sz xd true false false false false 0 (cd : Int) [] none 0 (eA va1) (eL L) (eC va2) _ (by omega) hfb (by omega) (by omega) (by exact fun h => absurd h (by simp)) (by simp) (fun x hx => by cases hx) (fun x hx => by cases hx) (by exact S7.out) (HF false) _ HQ2 _ HR2 (by have h := M.bdy_len kk hk3; rw [List.length_append, M.hdr_len]; omega)).mono ?_
        rintro e w8 ⟨vb, rfl, hOb, hb8⟩
        obtain ⟨ad, cd', rfl, _⟩ := hOb.open
        have hc16 : decide ((cd : Int) < 16) = true := by simp; omega
        have B8 := hide (B7.out.trans (hb8.mono B7.out.size))
        have r8 := R7.out.below hb8 R7.out.lt
        have c7 : w8.cell? ⟨w6.heap.size, 7, none⟩ = some (.int .i64 (cd : Int)) := r8.cell 7
        have c11 : w8.cell? ⟨w6.heap.size, 11, none⟩ = some (.slice ra kk rc) := r8.cell 11
        have c12 : w8.cell? ⟨w6.heap.size, 12, none⟩ = some (.bool true) := r8.cell 12
        have c13 : w8.cell? ⟨w6.heap.size, 13, none⟩ = some (.int .u16 (sz : Int)) := r8.cell 13
        have c14 : w8.cell? ⟨w6.heap.size, 14, none⟩ = some (.bool xd) := r8.cell 14
        clear r8 hb8 R7 M7 B7 S7 HR2 HQ2 HF
        go_wp2
        go_ret
        exact ⟨rfl, B8.out⟩
      · refine (bytes_no 0 sz 0 0 0 0 0 0 L.length va2 true false false false false false xd 0 (cd : Int) none none none va1 _ (by simp; omega)).mono ?_
        rintro e w8 ⟨rfl, hb8⟩
        have hc16 : decide ((cd : Int) < 16) = false := by simp; omega
        have B8 := hide (B7.out.trans (hb8.mono B7.out.size))
        have r8 := R7.out.below hb8 R7.out.lt
        have c7 : w8.cell? ⟨w6.heap.size, 7, none⟩ = some (.int .i64 (cd : Int)) := r8.cell 7
        have c11 : w8.cell? ⟨w6.heap.size, 11, none⟩ = some (.slice ra kk rc) := r8.cell 11
        have c12 : w8.cell? ⟨w6.heap.size, 12, none⟩ = some (.bool true) := r8.cell 12
        have c13 : w8.cell? ⟨w6.heap.size, 13, none⟩ = some (.int .u16 (sz : Int)) := r8.cell 13
        have c14 : w8.cell? ⟨w6.heap.size, 14, none⟩ = some (.bool xd) := r8.cell 14
        clear r8 hb8 R7 M7 B7 S7 HR2 HQ2 HF
        go_wp2
        go_ret
        exact ⟨rfl, B8.out⟩
end Go.Proofs.YtpgebiopckmgbabGreat
