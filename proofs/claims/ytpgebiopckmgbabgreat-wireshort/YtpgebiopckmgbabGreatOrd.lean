/- The law WireShort: the message as far as its records have been made. -/
import Derived.Test.YtpgebiopckmgbabGreatRan
import Derived.Test.YtpgebiopckmgbabGreatShs
import Derived.Test.YtpgebiopckmgbabGreatFit
import Derived.Deep.OwnRows
import Derived.Deep.RegionHeld3
namespace Go.Proofs.YtpgebiopckmgbabGreat
open Go.RowKit
def msgT (v : Value) : Array Value := #[.int .u16 0, .bool true, .int .i64 0, .bool false, .bool false, .bool false, .bool false, .int .i64 0, .slice none 0 0, v, .slice none 0 0, .slice none 0 0, .bool false, .int .u16 0, .bool false]
structure TI (mB : Nat) (w : World) (X : List M.R) (wr : World) (va : Value) (L : List RX) : Prop where
  msg : RowAt wr mB 32 (msgT va)
  own : OwnRc wr w.heap.size va L
  rs : L.map (·.r) = X
  el : ∀ x ∈ L, EL wr w.heap.size x
  bel : Below w.heap.size w wr
  mlow : w.heap.size ≤ mB
set_option maxRecDepth 5000 in
theorem TI.below {mB : Nat} {w wr w' : World} {X : List M.R} {va : Value} {L : List RX} (h : TI mB w X wr va L) (hb : Below wr.heap.size wr w') : TI mB w X w' va L :=
  ⟨h.msg.below hb h.msg.lt, own_below (show World.ownsRow _ _ _ _ _ _ _ from h.own) hb, h.rs, fun x hx => (h.el x hx).below hb, h.bel.trans (hb.mono h.bel.size), h.mlow⟩
set_option maxRecDepth 5000 in
theorem TI.next {mB : Nat} {w wr w' w8 : World} {X : List M.R} {va v8 : Value} {L : List RX} (h : TI mB w X wr va L) (xr : RX) (hb : Below wr.heap.size wr w') (hE : EL w' w.heap.size xr) (hO : OwnRc w8 w.heap.size v8 (L ++ [xr])) (hG : w'.grownBy w8 va.ownBlock) :
    TI mB w (X ++ [xr.r]) (w8.setCell ⟨mB, 9, none⟩ v8) v8 (L ++ [xr]) ∧ RowAt w8 mB 32 (msgT va) := by
  have h' := h.below hb
  have m8 : RowAt w8 mB 32 (msgT va) := row_grownO h'.msg (show World.ownsRow _ _ _ _ _ _ _ from h'.own) (by decide) hG
  have b8 : Below w.heap.size w w8 := grown_belowR h'.bel (show World.ownsRow _ _ _ _ _ _ _ from h'.own) hG
  refine ⟨⟨m8.set 9 v8, own_mv3 (show World.ownsRow _ _ _ _ _ _ _ from hO) m8 (by decide) (Mv.set mB 9 w8 v8), by rw [List.map_append, h.rs]; rfl, fun x hx => ?_, b8.setCell h.mlow v8, h.mlow⟩, m8⟩
  rcases List.mem_append.1 hx with hx | hx
  · exact ((h'.el x hx).grown (show World.ownsRow _ _ _ _ _ _ _ from h'.own) hG).mvt m8 (by decide) (by decide) (Mv.set mB 9 w8 v8)
  · rw [List.mem_singleton.1 hx]
    exact (hE.grown (show World.ownsRow _ _ _ _ _ _ _ from h'.own) hG).mvt m8 (by decide) (by decide) (Mv.set mB 9 w8 v8)
set_option maxRecDepth 5000 in
theorem OwnRc.form3 {w : World} {base : Nat} {v : Value} {l : List RX} (h : OwnRc w base v l) : ∃ ao c, v = .slice ao l.length c ∧ (ao = none → c = 0) := by
  rcases h.2 with ⟨rfl, h0⟩ | ⟨g, cap, cur, rfl, _⟩
  · exact ⟨none, 0, by rw [h0], fun _ => rfl⟩
  · exact ⟨_, _, rfl, fun e => by cases e⟩
set_option maxRecDepth 5000 in
theorem EL.sl {w : World} {base : Nat} {x : RX} (h : EL w base x) : SlS w x.na x.r.name ∧ SlL w x.da x.r.data ∧ (x.da = none → x.dc = 0) := by
  obtain ⟨⟨b1, _, h2⟩, b2, _, h4⟩ := h
  obtain ⟨a, c, e, hs, _⟩ := h2.open
  cases e
  obtain ⟨a', c', e', hs', hn', _⟩ := h4.open
  cases e'
  exact ⟨hs, hs', hn'⟩
set_option maxRecDepth 5000 in
theorem RowAt.newAt (w : World) (t : TypeId) (c : Array Value) (g : Nat) (hg : g = w.heap.size) : RowAt (w.alloc (.cells c t)) g t c := by subst hg; exact RowAt.new w t c
set_option maxRecDepth 5000 in
theorem ownS_row {w : World} {g base : Nat} {ch : UInt8} (h : RowAt w g 9 #[.string ⟨#[ch]⟩]) (hb : base ≤ g) : OwnS w base (.slice (some ⟨g, 0, none⟩) 1 1) [[ch]] :=
  ⟨rfl, Or.inr ⟨g, 1, _, rfl, hb, h, Nat.le_refl _, by unfold maxLen; omega, rfl, rfl⟩⟩
set_option maxRecDepth 5000 in
theorem made_vb (n : Nat) : madeCells #[.int .u8 0] n = (vb (List.replicate n 0)).toArray := by
  unfold madeCells vb
  apply Array.ext_getElem?
  intro i
  by_cases h : i < n
  · simp [h, Nat.mod_one]
  · simp [h]
/- append(make([]byte, k), byte(j)), in a region that draws -/
set_option maxRecDepth 5000 in
theorem step_app45 {ops : Array Oper} {o : Oper} {a : Act} {w : World} {K : Act → World → Prop} {Q : Exit → Act → World → Prop} {E : Prop} (hgd : o.guard = none) (s x : Operand)
    (ho : o.op = .call { callee := .builtin .append, args := #[s, x], argTypes := #[33, 33] }) (kk jb base g gb : Nat) (w0 : World) (hs : a.eval s = .slice (some ⟨g, 0, none⟩) kk kk) (hx : a.eval x = .slice (some ⟨gb, 0, none⟩) 1 1)
    (hZ : RowAt w g 5 (madeCells #[.int .u8 0] kk)) (hbs : RowAt w gb 5 #[.int .u8 (jb : Int)]) (hkk : kk ≤ 255) (hjb : jb < 256) (hg : base ≤ g) (hB : Below base w0 w) (hbase : base ≤ w0.heap.size)
    (h : ∀ a5 c5 w5, OwnB w5 base (.slice a5 (kk + 1) c5) (List.replicate kk 0 ++ [UInt8.ofNat jb]) → Below base w0 w5 → (∀ g c, RowAt w g 9 c → RowAt w5 g 9 c) → K (a.put o.dst (.slice a5 (kk + 1) c5)) w5) : if Region.wanted o (yielded ops a.tmps) = true then Oper.wp Tryz.prog o a w K Q else E := by
  have hbw : base ≤ w.heap.size := Nat.le_trans hbase hB.size
  have own : OwnB w base (.slice (some ⟨g, 0, none⟩) kk kk) (List.replicate kk 0) := by
    have hZ2 : w.heap[g]? = some (.cells (madeCells #[.int .u8 0] kk) 5 (0, 0)) := hZ
    rw [made_vb] at hZ2
    refine ⟨by simp [vb], Or.inr ⟨g, kk, _, by simp, hg, hZ2, by simp, by unfold maxLen; omega, by simp [vb], by simp [vb, List.take_of_length_le]⟩⟩
  have sl : SlL w (some ⟨gb, 0, none⟩) [UInt8.ofNat jb] := by
    refine fun _ => ⟨gb, 0, rfl, hbs.lt, fun i hi => ?_⟩
    obtain rfl : i = 0 := by simp at hi; exact hi
    show w.cell? _ = some (Value.int .u8 ((UInt8.ofNat jb).toNat : Int))
    rw [show ((UInt8.ofNat jb).toNat : Int) = (jb : Int) by rw [UInt8.toNat_ofNat']; omega]
    exact hbs.cell 0
  refine step_append_B hgd s x ho base _ (List.replicate kk 0) hs own ⟨gb, 0, none⟩ 1 1 [UInt8.ofNat jb] hx rfl sl (by simp; omega) hbw ?_
  intro v' w' hO hG
  obtain ⟨a5, c5, rfl, _⟩ := hO.open
  have e : (List.replicate kk (0 : UInt8) ++ [UInt8.ofNat jb]).length = kk + 1 := by simp
  rw [e] at hO ⊢
  exact h a5 c5 w' hO (grown_below own hG hB hbw) (fun g c hr => row_grownO hr (show World.ownsRow _ _ _ _ _ _ _ from own) (by decide) hG)
/- append of one record, in a region that draws -/
set_option maxRecDepth 5000 in
theorem step_app48 {ops : Array Oper} {o : Oper} {a : Act} {w : World} {K : Act → World → Prop} {Q : Exit → Act → World → Prop} {E : Prop} (hgd : o.guard = none) (s x : Operand)
    (ho : o.op = .call { callee := .builtin .append, args := #[s, x], argTypes := #[30, 30] }) (base : Nat) (v : Value) (L : List RX) (hs : a.eval s = v) (hown : OwnRc w base v L) (g : Nat) (hx : a.eval x = .slice (some ⟨g, 0, none⟩) 1 1) (xr : RX) (cells : Array Value) (hr : RowAt w g 39 cells) (hc : cells.toList = rcs xr) (hL : L.length ≤ 100) (hbase : base ≤ w.heap.size)
    (h : ∀ v' w', OwnRc w' base v' (L ++ [xr]) → w.grownBy w' v.ownBlock → K (a.put o.dst v') w') : if Region.wanted o (yielded ops a.tmps) = true then Oper.wp Tryz.prog o a w K Q else E := by
  have hw : Region.wanted o (yielded ops a.tmps) = true := by simp [Region.wanted, hgd]
  rw [if_pos hw]
  obtain ⟨v', w', h1, h2, h3⟩ := run_append1 w 30 o.type 39 _ 5 56 Tryz.underlying30 infoR2 rfl (by omega) base v L.length _ (show World.ownsRow _ _ _ _ _ _ _ from hown) g 39 (rcs xr) (by rw [← hc]; simpa using hr) rfl (by intro u hu; simp [rcs] at hu; rcases hu with rfl | rfl | rfl | rfl | rfl <;> rfl) (by omega) (by omega) hbase
  unfold Oper.wp execOp
  simp only [ho, resolve, invoke, builtin, Sem.run_bind, Sem.run_pure, Result.andThen_ok, List.map_toArray, List.map_cons, List.map_nil, hs, hx, h1]
  refine h v' w' ?_ h3
  unfold OwnRc
  rw [List.length_append, List.flatMap_append]
  simpa using h2
set_option maxRecDepth 5000 in
theorem TI.secs {mB : Nat} {w wr : World} {X : List M.R} {L : List RX} {a : Option Addr} {c : Nat} (h : TI mB w X wr (.slice a L.length c) L) (hl : L.length ≤ 30) (hok : ∀ x ∈ X, x.Ok) : Secs wr (fA a) (fL L) (fC c) ∧ L.length ≤ c := by
  obtain ⟨a', c', e, hsl, _⟩ := h.own.slR (fun x hx => (h.el x hx).sl)
  cases e
  have hn : a = none → c = 0 := by
    rcases (show World.ownsRow _ _ _ _ _ _ _ from h.own).2 with ⟨e, _⟩ | ⟨g, cap, cur, e, _⟩
    · injection e with e1 e2 e3
      exact fun _ => e3
    · injection e with e1 e2 e3
      exact fun h => by rw [h] at e1; cases e1
  have hlc : L.length ≤ c := by
    rcases (show World.ownsRow _ _ _ _ _ _ _ from h.own).2 with ⟨e, h0⟩ | ⟨g, cap, cur, e, _, _, h2, _⟩
    · omega
    · injection e with e1 e2 e3
      rw [e3]; exact h2
  refine ⟨⟨fun i hi => ?_, fun i hi => ?_, fun i hi => ?_, fun i hi x hx => ?_⟩, hlc⟩
  · cases i with
    | zero => exact hsl
    | succ i => exact fun h => by simp [fL] at h
  · cases i with
    | zero => exact hn
    | succ i => exact fun _ => rfl
  · cases i with
    | zero => exact hl
    | succ i => simp [fL]
  · cases i with
    | zero =>
      refine hok _ ?_
      rw [← h.rs]
      exact List.mem_map.2 ⟨x, hx, rfl⟩
    | succ i => cases hx
end Go.Proofs.YtpgebiopckmgbabGreat

/- Orders of a region that draws: as Derived.OrdersHeld has it, but that S need not hold behind the one operation jS, which waits by an edge of its own for what is taken first. -/
namespace Go.Proofs.YtpgebiopckmgbabGreat
open Go
section
variable {P : Program} {ops : Array Oper} {Q : Exit → Act → World → Prop} {md : Region.Mode} {S : World → Prop} {jS : Nat}
def wpAnyX (P : Program) (md : Region.Mode) (ops : Array Oper) (Q : Exit → Act → World → Prop) (S : World → Prop) (jS : Nat) : Nat → Array Bool → Act → World → Prop
  | 0, listed, a, w => Region.ready md ops listed = [] ∧ Q .normal a w
  | fuel + 1, listed, a, w =>
    (Region.ready md ops listed = [] → Q .normal a w) ∧
    ∀ i ∈ Region.ready md ops listed, wpOp P ops Q i (fun a' w' => (i = jS ∨ S w') ∧ wpAnyX P md ops Q S jS fuel (listed.setIfInBounds i true) a' w') a w
set_option maxRecDepth 5000 in
theorem wpAny_of_X : ∀ (fuel : Nat) (listed : Array Bool) (a : Act) (w : World), wpAnyX P md ops Q S jS fuel listed a w → wpAny P md ops Q fuel listed a w
  | 0, _, _, _, h => h
  | fuel + 1, _, _, _, h => ⟨h.1, fun i hi => wpOp_mono (fun a' w' h' => wpAny_of_X fuel _ a' w' h'.2) (h.2 i hi)⟩
set_option maxRecDepth 5000 in
theorem wpAnyX_first {i : Nat} {oi : Oper} {v : Value} (hi : ops[i]? = some oi) (hsel : ∀ (j : Nat) (o : Oper) cs b, ops[j]? = some o → o.op ≠ .select cs b)
    (hQ : ∀ c a w, Q (.panic c) (a.put oi.dst v) w → Q (.panic c) a w) (hjS : ∀ oj, ops[jS]? = some oj → ∃ e ∈ oj.after, Region.binds md e = true ∧ e.on = i) :
    ∀ (fuel : Nat) (listed : Array Bool) (a : Act) (w : World),
      (∀ j oj, ops[j]? = some oj → j ≠ i → listed.getD j true = false → (∀ e ∈ oj.after, Region.binds md e = true → e.on ≠ i) → oi.apart ops oj = true) →
      i ∈ Region.ready md ops listed → YieldsIf P ops S oi v a → S w →
      wpAnyX P md ops Q S jS fuel (listed.setIfInBounds i true) (a.put oi.dst v) w → wpAnyX P md ops Q S jS (fuel + 1) listed a w := by
  intro fuel
  induction fuel with
  | zero =>
    intro listed a w _ hr hy hS H
    refine ⟨fun h => (by rw [h] at hr; cases hr), fun j hj => ?_⟩
    by_cases hji : j = i
    · subst hji; exact hy.wpOp hi hS ⟨Or.inr hS, H⟩
    · have := ready_mono hj hji
      rw [H.1] at this
      cases this
  | succ fuel ih =>
    intro listed a w hfree hr hy hS H
    refine ⟨fun h => (by rw [h] at hr; cases hr), fun j hj => ?_⟩
    by_cases hji : j = i
    · subst hji; exact hy.wpOp hi hS ⟨Or.inr hS, H⟩
    · have h1 := H.2 j (ready_mono hj hji)
      obtain ⟨hjun, oj, hoj, hall⟩ := mem_ready.1 hj
      have hnot : ∀ e ∈ oj.after, Region.binds md e = true → e.on ≠ i := fun e he hb heq => by
        have h1 := hall e he hb
        have h0 := (mem_ready.1 hr).1
        rw [heq] at h1
        rcases Nat.lt_or_ge i listed.size with h' | h'
        · simp [h'] at h0 h1; rw [h0] at h1; cases h1
        · simp [Array.getElem?_eq_none h'] at h1
      have h2 := wpOp_putIf hoj (hfree j oj hoj hji hjun hnot) (fun cs b => hsel i oi cs b hi) (fun cs b => hsel j oj cs b hoj) hQ hy h1
      have hfree' : ∀ k ok, ops[k]? = some ok → k ≠ i → (listed.setIfInBounds j true).getD k true = false →
          (∀ e ∈ ok.after, Region.binds md e = true → e.on ≠ i) → oi.apart ops ok = true := fun k ok hk hki hun hno => by
        refine hfree k ok hk hki ?_ hno
        by_cases hjk : j = k
        · subst hjk; exact hjun
        · rw [getD_set_ne true hjk] at hun; exact hun
      have hne : j ≠ jS := fun e => by
        subst e
        obtain ⟨e, he, hb, hon⟩ := hjS oj hoj
        exact hnot e he hb hon
      refine wpOp_mono (fun a' w' h3 => ?_) h2
      have hS' : S w' := h3.2.1.resolve_left hne
      refine ⟨Or.inr hS', ih (listed.setIfInBounds j true) a' w' hfree' (ready_mono hr (Ne.symm hji)) h3.1 hS' ?_⟩
      rw [Array.setIfInBounds_comm _ _ hji]
      exact h3.2.2
/- the store's own edge -/
def waits (md : Region.Mode) (ops : Array Oper) (jS i : Nat) : Bool := match ops[jS]? with | some oj => oj.after.any (fun e => Region.binds md e && e.on == i) | none => true
set_option maxRecDepth 5000 in
theorem waits_spec {i : Nat} (h : waits md ops jS i = true) : ∀ oj, ops[jS]? = some oj → ∃ e ∈ oj.after, Region.binds md e = true ∧ e.on = i := by
  intro oj hoj
  unfold waits at h
  rw [hoj] at h
  simp only [Array.any_eq_true, Bool.and_eq_true, beq_iff_eq] at h
  obtain ⟨n, hn, h1, h2⟩ := h
  exact ⟨_, Array.getElem_mem hn, h1, h2⟩
set_option maxRecDepth 5000 in
theorem wpAnyX_take {i : Nat} {oi : Oper} {v : Value} {fuel : Nat} {listed : Array Bool} {a : Act} {w : World} (hi : ops[i]? = some oi)
    (hs : Region.noSelect ops = true) (hf : Region.free md ops listed i = true) (hr : (Region.ready md ops listed).contains i = true) (hwt : waits md ops jS i = true)
    (hQ : ∀ c a w, Q (.panic c) (a.put oi.dst v) w → Q (.panic c) a w) (hy : YieldsIf P ops S oi v a) (hS : S w)
    (h : wpAnyX P md ops Q S jS fuel (listed.setIfInBounds i true) (a.put oi.dst v) w) : wpAnyX P md ops Q S jS (fuel + 1) listed a w :=
  wpAnyX_first hi (Region.noSelect_spec hs) hQ (waits_spec hwt) fuel listed a w (Region.free_spec hi hf) (by simpa using hr) hy hS h
set_option maxRecDepth 5000 in
theorem wpAnyX_done {listed : Array Bool} {a : Act} {w : World} (hr : Region.ready md ops listed = []) (h : Q .normal a w) :
    ∀ fuel, wpAnyX P md ops Q S jS fuel listed a w
  | 0 => ⟨hr, h⟩
  | _ + 1 => ⟨fun _ => h, by rw [hr]; simp⟩
set_option maxRecDepth 5000 in
theorem wp_region_X {id : Nat} {a : Act} {w : World} (hm : P.follows .mixedOrders = true)
    (h : wpAnyX P .any ops Q S jS ops.size (Array.replicate ops.size false) a w.drew) : (Code.region id ops true).wp P Q a w :=
  wp_region_any hm (wpAny_of_X _ _ _ _ h)
def AllX (P : Program) (md : Region.Mode) (ops : Array Oper) (Q : Exit → Act → World → Prop) (S : World → Prop) (jS : Nat) (fuel : Nat) (listed : Array Bool) (a : Act) (w : World) (rs : List Nat) : Prop :=
  ∀ i ∈ rs, wpOp P ops Q i (fun a' w' => (i = jS ∨ S w') ∧ wpAnyX P md ops Q S jS fuel (listed.setIfInBounds i true) a' w') a w
set_option maxRecDepth 5000 in
theorem AllX.nil {fuel : Nat} {listed : Array Bool} {a : Act} {w : World} : AllX P md ops Q S jS fuel listed a w [] := fun _ h => by cases h
set_option maxRecDepth 5000 in
theorem AllX.cons {fuel : Nat} {listed : Array Bool} {a : Act} {w : World} {i : Nat} {o : Oper} {rs : List Nat} (ho : ops[i]? = some o)
    (h : ∀ K' : Act → World → Prop, Shut (∀ a w, (i = jS ∨ S w) → wpAnyX P md ops Q S jS fuel (listed.setIfInBounds i true) a w → K' a w) → if Region.wanted o (yielded ops a.tmps) = true then Oper.wp P o a w K' Q else K' (a.put o.dst undef) w)
    (hs : AllX P md ops Q S jS fuel listed a w rs) : AllX P md ops Q S jS fuel listed a w (i :: rs) := fun j hj => by
  rcases List.mem_cons.1 hj with rfl | hj
  · exact wpOp_step ho (fun K' hK => h K' (fun a w hS hW => hK a w ⟨hS, hW⟩))
  · exact hs j hj
set_option maxRecDepth 5000 in
theorem wpAnyX_ready {rs : List Nat} {fuel : Nat} {listed : Array Bool} {a : Act} {w : World} (hr : Region.ready md ops listed = rs) (hne : rs ≠ [])
    (h : AllX P md ops Q S jS fuel listed a w rs) : wpAnyX P md ops Q S jS (fuel + 1) listed a w := ⟨fun h0 => absurd (hr ▸ h0) hne, hr ▸ h⟩
end
end Go.Proofs.YtpgebiopckmgbabGreat
