/- The law's model of a disk, in memory; its power; Place; Bytes. -/
import Derived.Test.YtmjdlejomohbdaaCut
import Derived.Laws.IdiomStrings
import Derived.Laws.BytesArg
namespace Go.Proofs.Ytmjdlejomohbdaa
open Go.RowKit
/- v is a list of sz bytes, which are l -/
def Blk (w : World) (v : Value) (sz : Nat) (l : List UInt8) : Prop := ∃ g cap, v = .slice (some ⟨g, 0, none⟩) sz cap ∧ l.length = sz ∧ SlU w (some ⟨g, 0, none⟩) l
set_option maxRecDepth 5000 in
theorem Blk.heap {w w' : World} {v : Value} {sz : Nat} {l : List UInt8} (h : Blk w v sz l) (hk : Rows w w') : Blk w' v sz l := by
  obtain ⟨g, cap, e, h1, h2⟩ := h; exact ⟨g, cap, e, h1, h2.heap hk⟩
structure Md (w : World) (MM ML MS MF n sz : Nat) (L O : Nat → List UInt8) (Fh : Nat → Bool) (dead armed : Bool) (mn : Int) : Prop where
  row : ∃ cl cs cf, RowAt w MM 31 #[.slice (some ⟨ML, 0, none⟩) n cl, .slice (some ⟨MS, 0, none⟩) n cs, .slice (some ⟨MF, 0, none⟩) n cf, .bool dead, .bool armed, .int .i64 mn]
  rl : ∃ (c : Array Value) (lv : Nat → Value), RowAt w ML 32 c ∧ ∀ i, i < n → c[i]? = some (lv i) ∧ Blk w (lv i) sz (L i)
  rs : ∃ (c : Array Value) (lv : Nat → Value), RowAt w MS 32 c ∧ ∀ i, i < n → c[i]? = some (lv i) ∧ Blk w (lv i) sz (O i)
  rf : ∃ c : Array Value, RowAt w MF 4 c ∧ ∀ i, i < n → c[i]? = some (.bool (Fh i))
set_option maxRecDepth 5000 in
theorem tm1 : 31 ≠ 32 := by decide
set_option maxRecDepth 5000 in
theorem tm2 : 31 ≠ 4 := by decide
set_option maxRecDepth 5000 in
theorem tm3 : 31 ≠ 5 := by decide
set_option maxRecDepth 5000 in
theorem tm4 : 32 ≠ 4 := by decide
set_option maxRecDepth 5000 in
theorem tm5 : 4 ≠ 5 := by decide
set_option maxRecDepth 5000 in
theorem tm6 : 31 ≠ 51 := by decide
set_option maxRecDepth 5000 in
theorem tm7 : 51 ≠ 4 := by decide
section
variable {w w' : World} {MM ML MS MF n sz : Nat} {L O : Nat → List UInt8} {Fh : Nat → Bool} {dead armed : Bool} {mn : Int}
set_option maxRecDepth 5000 in
theorem Md.keep (h : Md w MM ML MS MF n sz L O Fh dead armed mn) (h1 : w'.heap[MM]? = w.heap[MM]?) (h2 : w'.heap[ML]? = w.heap[ML]?) (h3 : w'.heap[MS]? = w.heap[MS]?) (h4 : w'.heap[MF]? = w.heap[MF]?) (hk : Rows w w') : Md w' MM ML MS MF n sz L O Fh dead armed mn := by
  obtain ⟨cl, cs, cf, hr⟩ := h.row
  obtain ⟨c1, l1, hr1, hv1⟩ := h.rl
  obtain ⟨c2, l2, hr2, hv2⟩ := h.rs
  obtain ⟨c3, hr3, hv3⟩ := h.rf
  exact ⟨⟨cl, cs, cf, h1.trans hr⟩, ⟨c1, l1, h2.trans hr1, fun i hi => ⟨(hv1 i hi).1, (hv1 i hi).2.heap hk⟩⟩, ⟨c2, l2, h3.trans hr2, fun i hi => ⟨(hv2 i hi).1, (hv2 i hi).2.heap hk⟩⟩, ⟨c3, h4.trans hr3, hv3⟩⟩
set_option maxRecDepth 5000 in
theorem Md.below {B : Nat} (h : Md w MM ML MS MF n sz L O Fh dead armed mn) (hb : Below B w w') (hB : w.heap.size ≤ B) : Md w' MM ML MS MF n sz L O Fh dead armed mn := by
  obtain ⟨cl, cs, cf, hr⟩ := h.row
  obtain ⟨c1, l1, hr1, hv1⟩ := h.rl
  obtain ⟨c2, l2, hr2, hv2⟩ := h.rs
  obtain ⟨c3, hr3, hv3⟩ := h.rf
  exact h.keep (hb.block _ (Nat.lt_of_lt_of_le hr.lt hB)) (hb.block _ (Nat.lt_of_lt_of_le hr1.lt hB)) (hb.block _ (Nat.lt_of_lt_of_le hr2.lt hB)) (hb.block _ (Nat.lt_of_lt_of_le hr3.lt hB)) (fun _ _ hg => hg.below hb (Nat.lt_of_lt_of_le hg.lt hB))
/- what moves a disk leaves the model -/
set_option maxRecDepth 5000 in
theorem Md.mv {A : Nat → Prop} {D S M : Nat} {s : K.St} (h : Md w MM ML MS MF n sz L O Fh dead armed mn) (hd : DiskAt A w D S M s) (hm : Mv D S M w w') (n2 : ML ≠ S) (n3 : MS ≠ S) : Md w' MM ML MS MF n sz L O Fh dead armed mn := by
  obtain ⟨sv, uv, hk⟩ := hd
  obtain ⟨cl, cs, cf, hr⟩ := h.row
  obtain ⟨c1, l1, hr1, hv1⟩ := h.rl
  obtain ⟨c2, l2, hr2, hv2⟩ := h.rs
  obtain ⟨c3, hr3, hv3⟩ := h.rf
  refine h.keep (hm.block _ hr.lt (hr.ne hk.row tm6) (hr.ne hk.sure tm1) (hk.un.row_ne hr)) (hm.block _ hr1.lt (fun e => hk.row.ne hr1 tne3 e.symm) n2 (hk.un.row_ne hr1)) (hm.block _ hr2.lt (fun e => hk.row.ne hr2 tne3 e.symm) n3 (hk.un.row_ne hr2)) (hm.block _ hr3.lt (fun e => hk.row.ne hr3 tm7 e.symm) (fun e => hk.sure.ne hr3 tm4 e.symm) (hk.un.row_ne hr3)) (hm.rows hk)
set_option maxRecDepth 5000 in
theorem Md.setRow (h : Md w MM ML MS MF n sz L O Fh dead armed mn) (j : Nat) (v : Value) {dead' armed' : Bool} {mn' : Int}
    (he : ∀ cl cs cf, (#[.slice (some ⟨ML, 0, none⟩) n cl, .slice (some ⟨MS, 0, none⟩) n cs, .slice (some ⟨MF, 0, none⟩) n cf, .bool dead, .bool armed, .int .i64 mn] : Array Value).setIfInBounds j v = #[.slice (some ⟨ML, 0, none⟩) n cl, .slice (some ⟨MS, 0, none⟩) n cs, .slice (some ⟨MF, 0, none⟩) n cf, .bool dead', .bool armed', .int .i64 mn']) :
    Md (w.setCell ⟨MM, j, none⟩ v) MM ML MS MF n sz L O Fh dead' armed' mn' := by
  obtain ⟨cl, cs, cf, hr⟩ := h.row
  obtain ⟨c1, l1, hr1, hv1⟩ := h.rl
  obtain ⟨c2, l2, hr2, hv2⟩ := h.rs
  obtain ⟨c3, hr3, hv3⟩ := h.rf
  have hk : Rows w (w.setCell ⟨MM, j, none⟩ v) := fun g c hg => hg.other _ _ (fun e => hr.ne hg tm3 e.symm)
  refine ⟨⟨cl, cs, cf, ?_⟩, ⟨c1, l1, hr1.other _ _ (fun e => hr.ne hr1 tm1 e.symm), fun i hi => ⟨(hv1 i hi).1, (hv1 i hi).2.heap hk⟩⟩, ⟨c2, l2, hr2.other _ _ (fun e => hr.ne hr2 tm1 e.symm), fun i hi => ⟨(hv2 i hi).1, (hv2 i hi).2.heap hk⟩⟩, ⟨c3, hr3.other _ _ (fun e => hr.ne hr3 tm2 e.symm), hv3⟩⟩
  have := hr.set j v
  rw [he] at this
  exact this
def fput {α : Type} (f : Nat → α) (i : Nat) (x : α) : Nat → α := fun j => if j = i then x else f j
set_option maxRecDepth 5000 in
theorem arr_set {c : Array Value} {i : Nat} {v : Value} {f : Nat → Value} {n : Nat} (h : ∀ j, j < n → c[j]? = some (f j)) (hi : i < n) : ∀ j, j < n → (c.setIfInBounds i v)[j]? = some (fput f i v j) := by
  intro j hj
  rw [Array.getElem?_setIfInBounds]
  unfold fput
  by_cases e : i = j
  · subst e
    have := (Array.getElem?_eq_some_iff.1 (h i hi)).1
    simp [this]
  · rw [if_neg e, if_neg (fun h => e h.symm)]; exact h j hj
set_option maxRecDepth 5000 in
theorem Md.setL (h : Md w MM ML MS MF n sz L O Fh dead armed mn) (hne : ML ≠ MS) {i : Nat} (hi : i < n) {v : Value} {l : List UInt8} (hv : Blk w v sz l) : Md (w.setCell ⟨ML, i, none⟩ v) MM ML MS MF n sz (fput L i l) O Fh dead armed mn := by
  obtain ⟨cl, cs, cf, hr⟩ := h.row
  obtain ⟨c1, l1, hr1, hv1⟩ := h.rl
  obtain ⟨c2, l2, hr2, hv2⟩ := h.rs
  obtain ⟨c3, hr3, hv3⟩ := h.rf
  have hk : Rows w (w.setCell ⟨ML, i, none⟩ v) := fun g c hg => hg.other _ _ (fun e => hr1.ne hg tne2 e.symm)
  refine ⟨⟨cl, cs, cf, hr.other _ _ (hr.ne hr1 tm1)⟩, ⟨_, fput l1 i v, hr1.set i v, fun j hj => ⟨arr_set (fun k hk => (hv1 k hk).1) hi j hj, ?_⟩⟩, ⟨c2, l2, hr2.other _ _ (fun e => hne e.symm), fun j hj => ⟨(hv2 j hj).1, (hv2 j hj).2.heap hk⟩⟩, ⟨c3, hr3.other _ _ (fun e => hr1.ne hr3 tm4 e.symm), hv3⟩⟩
  unfold fput
  by_cases e : j = i
  · rw [if_pos e, if_pos e]; exact hv.heap hk
  · rw [if_neg e, if_neg e]; exact (hv1 j hj).2.heap hk
set_option maxRecDepth 5000 in
theorem Md.setS (h : Md w MM ML MS MF n sz L O Fh dead armed mn) (hne : ML ≠ MS) {i : Nat} (hi : i < n) {v : Value} {l : List UInt8} (hv : Blk w v sz l) : Md (w.setCell ⟨MS, i, none⟩ v) MM ML MS MF n sz L (fput O i l) Fh dead armed mn := by
  obtain ⟨cl, cs, cf, hr⟩ := h.row
  obtain ⟨c1, l1, hr1, hv1⟩ := h.rl
  obtain ⟨c2, l2, hr2, hv2⟩ := h.rs
  obtain ⟨c3, hr3, hv3⟩ := h.rf
  have hk : Rows w (w.setCell ⟨MS, i, none⟩ v) := fun g c hg => hg.other _ _ (fun e => hr2.ne hg tne2 e.symm)
  refine ⟨⟨cl, cs, cf, hr.other _ _ (hr.ne hr2 tm1)⟩, ⟨c1, l1, hr1.other _ _ hne, fun j hj => ⟨(hv1 j hj).1, (hv1 j hj).2.heap hk⟩⟩, ⟨_, fput l2 i v, hr2.set i v, fun j hj => ⟨arr_set (fun k hk => (hv2 k hk).1) hi j hj, ?_⟩⟩, ⟨c3, hr3.other _ _ (fun e => hr2.ne hr3 tm4 e.symm), hv3⟩⟩
  unfold fput
  by_cases e : j = i
  · rw [if_pos e, if_pos e]; exact hv.heap hk
  · rw [if_neg e, if_neg e]; exact (hv2 j hj).2.heap hk
set_option maxRecDepth 5000 in
theorem Md.setF (h : Md w MM ML MS MF n sz L O Fh dead armed mn) {i : Nat} (hi : i < n) (b : Bool) : Md (w.setCell ⟨MF, i, none⟩ (.bool b)) MM ML MS MF n sz L O (fput Fh i b) dead armed mn := by
  obtain ⟨cl, cs, cf, hr⟩ := h.row
  obtain ⟨c1, l1, hr1, hv1⟩ := h.rl
  obtain ⟨c2, l2, hr2, hv2⟩ := h.rs
  obtain ⟨c3, hr3, hv3⟩ := h.rf
  have hk : Rows w (w.setCell ⟨MF, i, none⟩ (.bool b)) := fun g c hg => hg.other _ _ (fun e => hr3.ne hg tm5 e.symm)
  refine ⟨⟨cl, cs, cf, hr.other _ _ (hr.ne hr3 tm2)⟩, ⟨c1, l1, hr1.other _ _ (hr1.ne hr3 tm4), fun j hj => ⟨(hv1 j hj).1, (hv1 j hj).2.heap hk⟩⟩, ⟨c2, l2, hr2.other _ _ (hr2.ne hr3 tm4), fun j hj => ⟨(hv2 j hj).1, (hv2 j hj).2.heap hk⟩⟩, ⟨_, hr3.set i (.bool b), fun j hj => ?_⟩⟩
  rw [arr_set (f := fun j => .bool (Fh j)) hv3 hi j hj]
  unfold fput
  by_cases e : j = i
  · rw [if_pos e, if_pos e]
  · rw [if_neg e, if_neg e]
end
/- the disk is kept by what is written into the model -/
set_option maxRecDepth 5000 in
theorem DiskAt.cell {A : Nat → Prop} {w : World} {D S M : Nat} {s : K.St} (h : DiskAt A w D S M s) {g : Nat} {t : TypeId} {c : Array Value} (hg : RowAt w g t c) (h1 : t ≠ 51) (h2 : g ≠ S) (h3 : t ≠ 5) (j : Nat) (v : Value) : DiskAt A (w.setCell ⟨g, j, none⟩ v) D S M s := by
  obtain ⟨sv, uv, hk⟩ := h
  exact ⟨sv, uv, hk.keepA (by simp [World.setCell]) (heap_setCell_other _ _ _ _ (fun e => hg.ne hk.row h1 e.symm)) (heap_setCell_other _ _ _ _ (fun e => h2 e.symm)) (heap_setCell_other _ _ _ _ (fun e => hk.un.row_ne hg e.symm)) fun g' c' _ hg' => hg'.other _ _ (fun e => hg.ne hg' h3 e.symm)⟩
/- the model says what the disk s is -/
structure Agr (s : K.St) (L O : Nat → List UInt8) (Fh : Nat → Bool) (dead armed : Bool) (mn : Int) : Prop where
  l : ∀ i, i < s.n → L i = s.rd i
  o : ∀ i, i < s.n → O i = s.old i
  f : ∀ i, i < s.n → Fh i = K.fr s i
  d : dead = s.dead
  a : armed = s.cut
  m : s.cut = true → mn = (s.left : Int)
  b0 : 0 ≤ mn
  b1 : mn ≤ 1000000
set_option maxRecDepth 5000 in
theorem place_any (k : Int) (n : Nat) (w : World) (h0 : 0 < n) (hn : n < 1000000) : Calls Try.prog 7 #[.int .i64 k, .int .i64 (n : Int)] w fun e w' => ∃ r : Nat, r < n ∧ e = .returned (.int .i64 (r : Int)) ∧ w' = w := by
  have e1 : Int.tmod k (n : Int) < (n : Int) := Int.tmod_lt_of_pos k (by omega)
  have e2 : -(n : Int) < Int.tmod k (n : Int) := by
    have h3 := Int.natAbs_tmod k (n : Int)
    have h4 : k.natAbs % (n : Int).natAbs < n := by rw [Int.natAbs_natCast]; exact Nat.mod_lt _ h0
    omega
  have hnz : ¬ ((n : Int) = 0) := by omega
  have hn1 : ¬ ((n : Int) = -1) := by omega
  obtain ⟨t, ht⟩ : ∃ t, Int.tmod k (n : Int) = t := ⟨_, rfl⟩
  rw [ht] at e1 e2
  have hw : IntKind.i64.wrap t = t := by rw [IntKind.wrap_i64]; omega
  by_cases h1 : t < 0
  · have q : decide (t < 0) = true := by simpa using h1
    obtain ⟨r, hr⟩ : ∃ r : Nat, t + (n : Int) = (r : Int) := ⟨(t + n).toNat, by omega⟩
    have hr2 : r < n := by omega
    have hw2 : IntKind.i64.wrap (t + (n : Int)) = (r : Int) := by rw [IntKind.wrap_i64]; omega
    clear hr
    go_enter Try.func7, Try.ntmps7
    go_wp2
    go_ret
    exact ⟨r, hr2, rfl, rfl⟩
  · have q : decide (t < 0) = false := by simpa using h1
    obtain ⟨r, rfl⟩ : ∃ r : Nat, t = (r : Int) := ⟨t.toNat, by omega⟩
    go_enter Try.func7, Try.ntmps7
    go_wp2
    go_ret
    exact ⟨r, by omega, rfl, rfl⟩
set_option maxRecDepth 5000 in
theorem run_str {W : World} {ao : Option Addr} {l : List UInt8} (n cap : Nat) (hs : SlL W ao l) (hl : l.length = n) : (convert 32 9 (.slice ao n cap)).run Try.prog W = .ok (.string ⟨l.toArray⟩) W := by
  subst hl
  cases ao with
  | none =>
    have h0 : l = [] := by
      rcases Nat.eq_zero_or_pos l.length with h | h
      · exact List.eq_nil_of_length_eq_zero h
      · obtain ⟨b, o, e, _⟩ := hs h; cases e
    subst h0
    exact run_convert_bytes_nil W 32 5 Try.underlying32 Try.underlying5 0 cap 9 Try.underlying9
  | some a =>
    refine run_convert_bytes_back W 32 9 5 a cap l Try.underlying32 Try.underlying5 Try.underlying9 ?_
    intro j hj
    obtain ⟨b, o, e, _, hc⟩ := hs (by omega)
    cases e
    rw [Addr.add_mid, hc j hj]
    simp [hj]
set_option maxRecDepth 3000 in
theorem bytes_same (l : List UInt8) (ao ao' : Option Addr) (n n' c c' : Nat) (w : World) (hs : SlL w ao l) (hs' : SlL w ao' l) (hl : Hid (l.length = n)) (hl' : Hid (l.length = n')) :
    Calls Try.prog 19 #[.slice ao n c, .slice ao' n' c'] w fun e w' => e = .returned (.bool true) ∧ w' = w := by
  have h1 := run_str n c hs hl.out
  have h2 := run_str n' c' hs' hl'.out
  clear hs hs'
  go_enter Try.func19, Try.ntmps19
  go_wp2
  go_ret
  exact ⟨by simp, rfl⟩
/- the model's power -/
def mdec (armed : Bool) (mn : Int) : Int := if armed && mn != 0 then mn - 1 else mn
set_option maxRecDepth 5000 in
theorem power_any {w : World} {MM ML MS MF n sz : Nat} {L O : Nat → List UInt8} {Fh : Nat → Bool} {dead armed : Bool} {mn : Int} (h : Md w MM ML MS MF n sz L O Fh dead armed mn) (h0 : 0 ≤ mn) (h1 : mn ≤ 1000000) :
    Calls Try.prog 11 #[.pointer (some ⟨MM, 0, none⟩)] w fun e w' => e = .returned (.bool (!(armed && mn == 0))) ∧ Md w' MM ML MS MF n sz L O Fh (dead || (armed && mn == 0)) armed (mdec armed mn) ∧ ∃ j v, w' = w ∨ w' = w.setCell ⟨MM, j, none⟩ v := by
  obtain ⟨cl, cs, cf, hr⟩ := h.row
  have c3 : w.cell? ⟨MM, 3, none⟩ = some (.bool dead) := hr.cell 3
  have c4 : w.cell? ⟨MM, 4, none⟩ = some (.bool armed) := hr.cell 4
  have c5 : w.cell? ⟨MM, 5, none⟩ = some (.int .i64 mn) := hr.cell 5
  have f3 := hr.frozen 3
  have f5 := hr.frozen 5
  have H := hide h
  clear h hr
  cases armed
  · go_enter Try.func11, Try.ntmps11
    go_wp2
    go_ret
    refine ⟨rfl, ?_, 0, undef, Or.inl rfl⟩
    simpa [mdec] using H.out
  · by_cases e : mn = 0
    · subst e
      go_enter Try.func11, Try.ntmps11
      go_wp2
      go_ret
      refine ⟨rfl, ?_, _, _, Or.inr rfl⟩
      have := H.out.setRow 3 (.bool true) (dead' := true) (armed' := true) (mn' := 0) (fun _ _ _ => rfl)
      simpa [mdec] using this
    · have e1 : (mn == 0) = false := by simpa using e
      have e2 : IntKind.i64.wrap (mn - 1) = mn - 1 := by rw [IntKind.wrap_i64]; omega
      go_enter Try.func11, Try.ntmps11
      go_wp2
      go_ret
      refine ⟨by simp [e], ?_, _, _, Or.inr rfl⟩
      have := H.out.setRow 5 (.int .i64 (mn - 1)) (dead' := dead) (armed' := true) (mn' := mn - 1) (fun _ _ _ => rfl)
      simpa [mdec, e, e1] using this
end Go.Proofs.Ytmjdlejomohbdaa
