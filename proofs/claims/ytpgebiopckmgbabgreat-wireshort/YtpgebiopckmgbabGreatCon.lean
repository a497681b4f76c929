/- slices.Concat, allRecords, of none. -/
import Derived.Test.YtpgebiopckmgbabGreatFlg
import Derived.Test.YtpgebiopckmgbabGreatSnr
namespace Go.Proofs.YtpgebiopckmgbabGreat
open Go.RowKit
set_option maxRecDepth 5000 in
theorem infoR : (Tryz.prog.info? 39).isSome = true := by kernel_rfl
set_option maxRecDepth 5000 in
theorem concat_nils (g : Nat) (w : World) (hR : RowAt w g 30 #[.slice none 0 0, .slice none 0 0, .slice none 0 0]) :
    Calls Tryz.prog 30 #[.slice (some ⟨g, 0, none⟩) 3 3] w fun e w' => e = .returned (.slice none 0 0) ∧ w = w' := by
  have c0 : w.cell? ⟨g, 0, none⟩ = some (.slice none 0 0) := hR.cell 0
  have c1 : w.cell? ⟨g, 1, none⟩ = some (.slice none 0 0) := hR.cell 1
  have c2 : w.cell? ⟨g, 2, none⟩ = some (.slice none 0 0) := hR.cell 2
  obtain ⟨i0, hi⟩ := Option.isSome_iff_exists.1 infoR
  have HI := hide hi
  clear hR hi
  go_enter Tryz.func30, Tryz.ntmps30
  go_wp2
  go_loopw [3, 11] (fun z i wr => z = .int .i64 0 ∧ (∃ j : Nat, i = .int .i64 (j : Int) ∧ j ≤ 3) ∧ w = wr) (fun _ i _ => 3 - (intOf i).toNat)
  case atStart => exact ⟨rfl, ⟨0, rfl, by omega⟩, rfl⟩
  case round =>
    obtain ⟨rfl, ⟨j, rfl, hj⟩, rfl⟩ := hrel
    by_cases h3 : j < 3
    · have q1 : (j : Int) < 3 := by omega
      have cj : w.cell? ⟨g, j, none⟩ = some (.slice none 0 0) := by
        have hjj : j = 0 ∨ j = 1 ∨ j = 2 := by omega
        rcases hjj with rfl | rfl | rfl
        · exact c0
        · exact c1
        · exact c2
      go_wp2
      go_roundw
      case rel => exact ⟨rfl, ⟨j + 1, by go_num, by omega⟩, trivial⟩
      case measure => simp [intOf]; omega
    · obtain rfl : j = 3 := by omega
      go_wp2_with fail
      refine (grow_nil _).mono ?_
      rintro e w1 ⟨rfl, rfl⟩
      go_wp2
      go_loopw [6, 27] (fun z i wr => z = .slice none 0 0 ∧ (∃ j : Nat, i = .int .i64 (j : Int) ∧ j ≤ 3) ∧ w = wr) (fun _ i _ => 3 - (intOf i).toNat)
      case atStart => exact ⟨rfl, ⟨0, rfl, by omega⟩, rfl⟩
      case round =>
        obtain ⟨rfl, ⟨j, rfl, hj2⟩, rfl⟩ := hrel
        by_cases h4 : j < 3
        · have q1 : (j : Int) < 3 := by omega
          have cj : w.cell? ⟨g, j, none⟩ = some (.slice none 0 0) := by
            have hjj : j = 0 ∨ j = 1 ∨ j = 2 := by omega
            rcases hjj with rfl | rfl | rfl
            · exact c0
            · exact c1
            · exact c2
          go_wp2_with (at_builtin; refine wpList_append_own_none rfl (.tmp 31) (.tmp 32) 30 rfl 0 39 i0 5 Tryz.underlying30 HI.out (.slice none 0 0) 0 [] rfl (World.ownsRow_nil _ _ _ _) rfl ?_)
          go_roundw
          case rel => exact ⟨rfl, ⟨j + 1, by go_num, by omega⟩, trivial⟩
          case measure => simp [intOf]; omega
        · obtain rfl : j = 3 := by omega
          go_wp2
          go_ret
          exact ⟨rfl, rfl⟩
set_option maxRecDepth 5000 in
theorem allRecords_nil (i : Nat) (x1 x3 x4 x5 x6 : Bool) (x2 x7 : Int) (l : List (Option Addr × Nat × M.Q)) (a : Option Addr) (c : Nat) (w : World) :
    Calls Tryz.prog 18 #[.agg #[.int .u16 (i : Int), .bool x1, .int .i64 x2, .bool x3, .bool x4, .bool x5, .bool x6, .int .i64 x7, .slice a l.length c, .slice none 0 0, .slice none 0 0, .slice none 0 0, .bool false, .int .u16 0, .bool false]] w fun e w' => e = .returned (.slice none 0 0) ∧ Below w.heap.size w w' := by
  have B0 := hide (((Below.refl w.heap.size w).alloc (Nat.le_refl _) (.cells #[.int .u16 (i : Int), .bool x1, .int .i64 x2, .bool x3, .bool x4, .bool x5, .bool x6, .int .i64 x7, .slice a l.length c, .slice none 0 0, .slice none 0 0, .slice none 0 0, .bool false, .int .u16 0, .bool false] 32)).alloc (by simp) (.cells #[.slice none 0 0, .slice none 0 0, .slice none 0 0] 30))
  have R0 : Hid (RowAt ((w.alloc (.cells #[.int .u16 (i : Int), .bool x1, .int .i64 x2, .bool x3, .bool x4, .bool x5, .bool x6, .int .i64 x7, .slice a l.length c, .slice none 0 0, .slice none 0 0, .slice none 0 0, .bool false, .int .u16 0, .bool false] 32)).alloc (.cells #[.slice none 0 0, .slice none 0 0, .slice none 0 0] 30)) (w.heap.size + 1) 30 #[.slice none 0 0, .slice none 0 0, .slice none 0 0]) := by
    have h := RowAt.new (w.alloc (.cells #[.int .u16 (i : Int), .bool x1, .int .i64 x2, .bool x3, .bool x4, .bool x5, .bool x6, .int .i64 x7, .slice a l.length c, .slice none 0 0, .slice none 0 0, .slice none 0 0, .bool false, .int .u16 0, .bool false] 32)) 30 #[.slice none 0 0, .slice none 0 0, .slice none 0 0]
    rw [World.size_alloc] at h; exact h
  go_enter Tryz.func18, Tryz.ntmps18
  go_wp2_with fail
  refine (concat_nils (w.heap.size + 1) _ (by exact R0.out)).mono ?_
  rintro e w1 ⟨rfl, rfl⟩
  go_wp2
  go_ret
  exact ⟨rfl, B0.out⟩
end Go.Proofs.YtpgebiopckmgbabGreat

/- slices.Grow at none; slices.Concat of three. -/
namespace Go.Proofs.YtpgebiopckmgbabGreat
open Go.RowKit
set_option maxRecDepth 5000 in
theorem infoR2 : ∃ i, Tryz.prog.info? 39 = some i ∧ i.zero = some (.agg #[.slice none 0 0, .int .u16 0, .int .u16 0, .int .u32 0, .slice none 0 0]) ∧ i.size = 5 ∧ i.bytes = 56 := info_parts (by kernel_rfl)
set_option maxRecDepth 5000 in
theorem zc5 (n : Nat) : (Builtin.zeroCells (Value.agg #[.slice none 0 0, .int .u16 0, .int .u16 0, .int .u32 0, .slice none 0 0]).cells n).size = n * 5 := by
  rw [size_zeroCells]; rfl
set_option maxRecDepth 5000 in
theorem run_mkR (w : World) (m : Nat) (ty : TypeId) (h0 : 0 < m) (hm : m ≤ 1000) :
    ∃ cap cells, (Builtin.append_ #[30, 3] ty #[.slice none 0 0, .int .i64 (m : Int)]).run Tryz.prog w = .ok (.slice (some ⟨w.heap.size, 0, none⟩) m cap) (w.drew.alloc (.cells cells 39)) ∧ cells.size = cap * 5 ∧ m ≤ cap ∧ cap ≤ maxLen := by
  obtain ⟨i0, hi, hz0, hz1, hz2⟩ := infoR2
  have hwr : IntKind.i64.wrap (m : Int) = (m : Int) := by rw [IntKind.wrap_i64]; omega
  have hneg : ¬ ((m : Int) < 0) := by omega
  have hbig : ¬ (281474976710656 < (m : Int) * (i0.bytes : Int)) := by rw [hz2]; omega
  have hz : ¬ (m * i0.size = 0) := by rw [hz1]; omega
  have h0' : ¬ (m = 0) := by omega
  have hfit := growslice_fits (need := m) (old := 0) (bytes := i0.bytes) (by omega) (by rw [hz2]; omega)
  have h48 : ¬ (281474976710656 < Builtin.nextslicecap m 0 * i0.bytes) := by omega
  have h63 : ¬ (9223372036854775807 < (m : Int)) := by omega
  have hge := grownCap_ge w m 0 39
  have hcm := grownCap_le_maxLen w m 0 39 (by unfold maxLen; omega)
  refine ⟨grownCap w m 0 39, #[] ++ Builtin.zeroCells (Value.agg #[.slice none 0 0, .int .u16 0, .int .u16 0, .int .u32 0, .slice none 0 0]).cells m ++ Builtin.zeroCells (Value.agg #[.slice none 0 0, .int .u16 0, .int .u16 0, .int .u32 0, .slice none 0 0]).cells (grownCap w m 0 39 - m), ?_, ?_, hge, hcm⟩
  · simp [Builtin.append_, run_underlying Tryz.underlying30, run_underlying Tryz.underlying3, sizeOf, typeInfo, zeroValue, hi, hz0, asInt, asIntOf, hwr, hneg, hbig, h0', h48, h63, hz, Question.forced, run_firstCells_none, newRow, grownCap]
  · simp only [Array.size_append, zc5, Array.size_empty]; omega
set_option maxRecDepth 5000 in
theorem wpList_mkR {w : World} {ops : Array Oper} {rest : List Oper} {o : Oper} {a : Act} {Q : Exit → Act → World → Prop} (hgd : o.guard = none) (s x : Operand)
    (ho : o.op = .call { callee := .builtin .append, args := #[s, x], argTypes := #[30, 3] }) (hs : a.eval s = .slice none 0 0) (m : Nat) (hx : a.eval x = .int .i64 (m : Int)) (v : Value) (w' : World)
    (hr : (Builtin.append_ #[30, 3] o.type #[.slice none 0 0, .int .i64 (m : Int)]).run Tryz.prog w = .ok v w') (h : wpList Tryz.prog ops Q rest (a.put o.dst v) w') : wpList Tryz.prog ops Q (o :: rest) a w :=
  wpList_plain hgd fun _ hK => by
    unfold Oper.wp execOp
    simp only [ho, resolve, invoke, builtin, Sem.run_bind, Sem.run_pure, Result.andThen_ok, List.map_toArray, List.map_cons, List.map_nil, hs, hx, hr]
    exact hK _ _ h
set_option maxRecDepth 5000 in
theorem grow_any (n : Nat) (w : World) (hn : n ≤ 1000) : Calls Tryz.prog 47 #[.slice none 0 0, .int .i64 (n : Int)] w fun e w' => ∃ v, e = .returned v ∧ w'.ownsRow w.heap.size 39 5 v 0 [] ∧ Below w.heap.size w w' := by
  rcases Nat.eq_zero_or_pos n with rfl | h0
  · refine (grow_nil w).mono ?_
    rintro e w' ⟨rfl, rfl⟩
    exact ⟨_, rfl, World.ownsRow_nil _ _ _ _, Below.refl _ _⟩
  obtain ⟨cap, cells, hr, hcs, hmc, hcm⟩ := run_mkR w n 30 h0 hn
  have HR := hide hr
  have q1 : decide ((n : Int) < 0) = false := by simp
  have q2 : decide ((0 : Int) < (n : Int)) = true := by simp; omega
  have q3 : IntKind.i64.wrap (n : Int) = (n : Int) := by rw [IntKind.wrap_i64]; omega
  have HO : Hid ((w.drew.alloc (.cells cells 39)).ownsRow w.heap.size 39 5 (.slice (some ⟨w.heap.size, 0, none⟩) 0 cap) 0 []) := ⟨rfl, .inr ⟨w.heap.size, cap, cells, rfl, Nat.le_refl _, heap_alloc_new w.drew _, by omega, hcm, hcs, by simp⟩⟩
  have HB : Hid (Below w.heap.size w (w.drew.alloc (.cells cells 39))) := (Below.refl _ _).drew.alloc (Nat.le_refl _) _
  clear hr
  go_enter Tryz.func47, Tryz.ntmps47
  have q4 : (0 : Int) ≤ (cap : Int) := by omega
  go_wp2_with (at_builtin; refine wpList_mkR rfl (.tmp 20) (.tmp 21) rfl rfl n rfl _ _ HR.out ?_)
  go_ret
  exact ⟨_, rfl, HO.out, HB.out⟩
def rcs (x : RX) : List Value := [.slice x.na x.r.name.length x.nc, .int .u16 (x.r.type : Int), .int .u16 (x.r.cls : Int), .int .u32 (x.r.ttl : Int), .slice x.da x.r.data.length x.dc]
def OwnRc (w : World) (base : Nat) (v : Value) (l : List RX) : Prop := w.ownsRow base 39 5 v l.length (l.flatMap rcs)
set_option maxRecDepth 5000 in
theorem rcs_len (l : List RX) : (l.flatMap rcs).length = l.length * 5 := by
  induction l with
  | nil => rfl
  | cons x l ih => simp only [List.flatMap_cons, List.length_append, ih, List.length_cons]; simp [rcs]; omega
set_option maxRecDepth 5000 in
theorem flat5 (l : List RX) : ∀ (j t : Nat) (x : RX), l[j]? = some x → t < 5 → (l.flatMap rcs)[j * 5 + t]? = (rcs x)[t]? := by
  induction l with
  | nil => intro j t x h; simp at h
  | cons y l ih =>
    intro j t x h ht
    cases j with
    | zero =>
      simp at h; subst h
      rw [List.flatMap_cons, List.getElem?_append_left (by simp [rcs]; omega)]
      simp
    | succ j =>
      rw [List.flatMap_cons, List.getElem?_append_right (by simp [rcs]; omega)]
      have e : (j + 1) * 5 + t - (rcs y).length = j * 5 + t := by simp [rcs]; omega
      rw [e]
      exact ih j t x (by simpa using h) ht
set_option maxRecDepth 5000 in
theorem wpList_append_R {w : World} {ops : Array Oper} {rest : List Oper} {o : Oper} {a : Act} {Q : Exit → Act → World → Prop} (hgd : o.guard = none) (s x : Operand)
    (ho : o.op = .call { callee := .builtin .append, args := #[s, x], argTypes := #[30, 30] }) (base : Nat) (v : Value) (l : List RX) (hs : a.eval s = v) (hown : OwnRc w base v l)
    (ao : Option Addr) (m c : Nat) (l2 : List RX) (hx : a.eval x = .slice ao m c) (hm : l2.length = m) (hsrc : SlR w ao l2) (hnil : ao = none → c = 0) (hbound : l.length + m ≤ 10000) (hbase : base ≤ w.heap.size)
    (h : ∀ v' w', OwnRc w' base v' (l ++ l2) → w.grownBy w' v.ownBlock → wpList Tryz.prog ops Q rest (a.put o.dst v') w') : wpList Tryz.prog ops Q (o :: rest) a w := by
  obtain ⟨i0, hi, hz0, hz1, hz2⟩ := infoR2
  subst hm
  cases ao with
  | none =>
    have h0 : l2.length = 0 := by
      rcases Nat.eq_zero_or_pos l2.length with h | h
      · exact h
      · obtain ⟨b, o, e, _⟩ := hsrc h; cases e
    obtain rfl : l2 = [] := List.eq_nil_of_length_eq_zero h0
    obtain rfl := hnil rfl
    refine wpList_append_own_none hgd s x 30 ho base 39 i0 5 Tryz.underlying30 hi v l.length (l.flatMap rcs) hs hown hx ?_
    exact h v w (by rw [List.append_nil]; exact hown) ⟨rfl, rfl, rfl, Nat.le_refl _, fun _ _ _ => rfl⟩
  | some ad =>
    refine wpList_plain hgd fun _ hK => ?_
    obtain ⟨v', w', h1, h2, h3, _⟩ := run_append_own (P := Tryz.prog) w base 30 o.type 39 i0 _ 5 56 Tryz.underlying30 hi hz0 hz1 hz2 rfl (by decide) v l.length (l.flatMap rcs) hown ad l2.length c (l2.flatMap rcs) (rcs_len l2) (by
      intro j u hu
      have hj : j < l2.length * 5 := by have := (List.getElem?_eq_some_iff.1 hu).1; rwa [rcs_len] at this
      obtain ⟨g, of, e, _, hc⟩ := hsrc (by omega)
      cases e
      have hi5 : j / 5 < l2.length := by omega
      obtain ⟨y, hy⟩ : ∃ y, l2[j / 5]? = some y := ⟨_, List.getElem?_eq_getElem hi5⟩
      have hf := flat5 l2 (j / 5) (j % 5) y hy (by omega)
      rw [show j / 5 * 5 + j % 5 = j by omega, hu] at hf
      obtain ⟨k0, k1, k2, k3, k4, _⟩ := hc (j / 5) y hy
      rw [Addr.add_mid, show of + j = of + j / 5 * 5 + j % 5 by omega]
      rcases (show j % 5 = 0 ∨ j % 5 = 1 ∨ j % 5 = 2 ∨ j % 5 = 3 ∨ j % 5 = 4 by omega) with e5 | e5 | e5 | e5 | e5 <;> rw [e5] at hf ⊢
      · rw [Nat.add_zero, k0, hf]; rfl
      · rw [k1, hf]; rfl
      · rw [k2, hf]; rfl
      · rw [k3, hf]; rfl
      · rw [k4, hf]; rfl) (by
      intro u hu
      obtain ⟨y, _, hy⟩ := List.mem_flatMap.1 hu
      simp [rcs] at hy
      rcases hy with rfl | rfl | rfl | rfl | rfl <;> rfl) (by unfold maxLen; omega) (by omega) hbase
    unfold Oper.wp execOp
    simp only [ho, resolve, invoke, builtin, Sem.run_bind, Sem.run_pure, Result.andThen_ok, List.map_toArray, List.map_cons, List.map_nil, hs, hx, h1]
    exact hK _ _ (h v' w' (by unfold OwnRc; rw [List.length_append, List.flatMap_append]; exact h2) h3)
set_option maxRecDepth 5000 in
theorem grown_belowR {w0 w w' : World} {e s n : Nat} {v : Value} {xs : List Value} (hb : Below w0.heap.size w0 w) (ho : w.ownsRow w0.heap.size e s v n xs) (hg : w.grownBy w' v.ownBlock) : Below w0.heap.size w0 w' := by
  refine ⟨hg.os.trans hb.os, hg.tape.trans hb.tape, hg.output.trans hb.output, Nat.le_trans hb.size hg.size, fun k hk => ?_⟩
  refine (hg.block k (Nat.lt_of_lt_of_le hk hb.size) (fun q => ?_)).trans (hb.block k hk)
  rcases ho.2 with ⟨rfl, _⟩ | ⟨g, cap, cur, rfl, hB, _⟩
  · simp [Value.ownBlock] at q
  · simp [Value.ownBlock] at q; omega
def cat (ls : Nat → List RX) : Nat → List RX
  | 0 => []
  | j + 1 => cat ls j ++ ls j
set_option maxRecDepth 3000 in
set_option maxHeartbeats 2000000 in
theorem concat_any (g : Nat) (a : Nat → Option Addr) (ls : Nat → List RX) (cp : Nat → Nat) (w : World) (hR : RowAt w g 30 #[.slice (a 0) (ls 0).length (cp 0), .slice (a 1) (ls 1).length (cp 1), .slice (a 2) (ls 2).length (cp 2)])
    (hs : ∀ j, j < 3 → SlR w (a j) (ls j)) (hnil : ∀ j, j < 3 → a j = none → cp j = 0) (hl : ∀ j, j < 3 → (ls j).length ≤ 300) :
    Calls Tryz.prog 30 #[.slice (some ⟨g, 0, none⟩) 3 3] w fun e w' => ∃ v, e = .returned v ∧ OwnRc w' w.heap.size v (cat ls 3) ∧ Below w.heap.size w w' := by
  have HC : Hid (∀ j, j < 3 → w.cell? ⟨g, j, none⟩ = some (.slice (a j) (ls j).length (cp j))) := by
    intro j hj
    have hjj : j = 0 ∨ j = 1 ∨ j = 2 := by omega
    rcases hjj with rfl | rfl | rfl
    · exact hR.cell 0
    · exact hR.cell 1
    · exact hR.cell 2
  have hglt := hR.lt
  have HS := hide hs
  have HN := hide hnil
  have HL := hide hl
  have HCL : Hid (∀ j, j ≤ 3 → (cat ls j).length ≤ 300 * j) := by
    intro j
    induction j with
    | zero => intro _; simp [cat]
    | succ j ih => intro h; have h1 := ih (by omega); have h2 := HL.out j (by omega); simp only [cat, List.length_append]; omega
  clear hR hs hnil hl
  go_enter Tryz.func30, Tryz.ntmps30
  go_wp2
  go_loopw [3, 11] (fun z i wr => ∃ j : Nat, z = .int .i64 ((cat ls j).length : Int) ∧ i = .int .i64 (j : Int) ∧ j ≤ 3 ∧ w = wr) (fun _ i _ => 3 - (intOf i).toNat)
  case atStart => exact ⟨0, rfl, rfl, by omega, rfl⟩
  case round =>
    obtain ⟨j, rfl, rfl, hj, rfl⟩ := hrel
    have h1 := HCL.out j hj
    by_cases h3 : j < 3
    · have q1 : decide ((j : Int) < 3) = true := by simp; omega
      have cj := HC.out j h3
      have h2 := HL.out j h3
      have hsum : IntKind.i64.wrap (((cat ls j).length : Int) + ((ls j).length : Int)) = ((cat ls (j + 1)).length : Int) := by rw [IntKind.wrap_i64]; simp only [cat, List.length_append]; omega
      have q2 : decide (((cat ls (j + 1)).length : Int) < 0) = false := by simp
      generalize (cat ls j).length = s0 at h1 hsum ⊢
      go_wp2
      go_roundw
      case rel => exact ⟨j + 1, rfl, by go_num, by omega, trivial⟩
      case measure => simp [intOf]; omega
    · obtain rfl : j = 3 := by omega
      have q1 : decide (((3 : Nat) : Int) < 3) = false := by decide
      go_wp2_with fail
      refine (grow_any _ _ (by omega)).mono ?_
      rintro e w1 ⟨v, rfl, hO, hb⟩
      have HO : Hid (OwnRc w1 w.heap.size v (cat ls 0)) := hO
      have HB := hide hb
      clear hO hb
      go_wp2
      go_loopw [6, 27] (fun z i wr => ∃ j : Nat, i = .int .i64 (j : Int) ∧ j ≤ 3 ∧ Hid (OwnRc wr w.heap.size z (cat ls j)) ∧ Hid (Below w.heap.size w wr)) (fun _ i _ => 3 - (intOf i).toNat)
      case atStart => exact ⟨0, rfl, by omega, HO, HB⟩
      case round =>
        clear HO HB
        obtain ⟨j, rfl, hj2, HO, HB⟩ := hrel
        have hzz := HB.out.size
        by_cases h4 : j < 3
        · have q1 : decide ((j : Int) < 3) = true := by simp; omega
          have cj := (HB.out.cell (p := ⟨g, j, none⟩) hglt).trans (HC.out j h4)
          have HSJ := hide ((HS.out j h4).below HB.out)
          have h5 := HCL.out j hj2
          have h6 := HL.out j h4
          have HNJ := hide (HN.out j h4)
          go_wp2_with (at_builtin; refine wpList_append_R rfl (.tmp 31) (.tmp 32) rfl w.heap.size _ (cat ls j) rfl (by exact HO.out) (a j) (ls j).length (cp j) (ls j) rfl rfl (by exact HSJ.out) HNJ.out (by omega) hzz ?_; intro v4 w4 hO4 hG4; have O4 := hide hO4; have B4 := hide (grown_belowR HB.out (show World.ownsRow _ _ _ _ _ _ _ from HO.out) hG4); clear hO4 hG4)
          go_roundw
          case rel => exact ⟨j + 1, by go_num, by omega, O4, B4⟩
          case measure => simp [intOf]; omega
        · obtain rfl : j = 3 := by omega
          have q1 : decide (((3 : Nat) : Int) < 3) = false := by decide
          go_wp2
          go_ret
          exact ⟨_, rfl, HO.out, HB.out⟩
set_option maxRecDepth 5000 in
theorem OwnRc.slR {w : World} {base : Nat} {v : Value} {l : List RX} (h : OwnRc w base v l) (hx : ∀ x ∈ l, SlS w x.na x.r.name ∧ SlL w x.da x.r.data ∧ (x.da = none → x.dc = 0)) : ∃ ao c, v = .slice ao l.length c ∧ SlR w ao l ∧ (∀ ad, ao = some ad → ∃ cur, w.heap[ad.block]? = some (.cells cur 39)) := by
  rcases h.2 with ⟨rfl, h0⟩ | ⟨g, cap, cur, rfl, hb, hg, hn, hm, hs, ht⟩
  · exact ⟨none, 0, by rw [h0], fun hl => by omega, fun _ e => by cases e⟩
  · refine ⟨some ⟨g, 0, none⟩, cap, rfl, fun _ => ⟨g, 0, rfl, (Array.getElem?_eq_some_iff.1 hg).1, fun j x hj => ?_⟩, fun ad e => by cases e; exact ⟨cur, hg⟩⟩
    have hjl : j < l.length := (List.getElem?_eq_some_iff.1 hj).1
    have hc : ∀ t, t < 5 → w.cell? ⟨g, 0 + j * 5 + t, none⟩ = (rcs x)[t]? := by
      intro t ht5
      have h1 : w.cell? ⟨g, 0 + j * 5 + t, none⟩ = cur[0 + j * 5 + t]? := cell_of_row w g (0 + j * 5 + t) cur 39 (0, 0) hg
      rw [h1, ← flat5 l j t x hj ht5, ← ht, List.getElem?_take, if_pos (by omega), Nat.zero_add]
      simp
    obtain ⟨p1, p2, p3⟩ := hx x (List.mem_of_getElem? hj)
    exact ⟨hc 0 (by omega), hc 1 (by omega), hc 2 (by omega), hc 3 (by omega), hc 4 (by omega), p1, p2, p3⟩
end Go.Proofs.YtpgebiopckmgbabGreat
