/- A zone in memory; what its calls move. -/
import Derived.Test.YtdldaphkiphpnaaGreatGrw
import Derived.Test.YtdldaphkiphpnaaGreatZps
import Derived.Test.YtdldaphkiphpnaaGreatDck
namespace Go.Proofs.YtdldaphkiphpnaaGreat
open Go.RowKit
set_option maxRecDepth 5000 in
theorem nput_any (w : World) {ρ : Nat → Role} {G : List (List UInt8) → Option Nd} {C : List (List UInt8) → Nat → Option Z.St} {K : Nat} (T : TreeAt w ρ G C K) (hK : K + 1 ≤ 1000000) {p : List (List UInt8)} {x : Nd} (hx : G p = some x) (t : Nat) (ht : t < 65536) (ttl cl : Nat) (c d : List UInt8) (na : Option Addr) (nl nc : Nat) (da : Option Addr) (dc : Nat) (ca : Option Addr) (cc : Nat)
    (hsd : SlL w da d) (hnd : da = none → dc = 0) (hd8 : d.length ≤ 8192) (hsc : SlL w ca c) (hc8 : c.length ≤ 1000000) :
    Calls Tryz.prog 66 #[.pointer (some ⟨x.n, 0, none⟩), recV na nl nc t cl ttl da d.length dc, .slice ca c.length cc] w fun e w' => e = .returned (.tuple #[]) ∧ ∃ ρ' x', TreeAt w' ρ' (gput G p (some x')) (Z.cput C p t ttl c d) (K + 1) ∧ x'.n = x.n ∧ x'.s = x.s ∧ x'.b = x.b ∧ Grew w w' ρ ρ' G (gput G p (some x')) := by
  cases hC : C p t with
  | none => exact nput_new w T hK hx t ht ttl cl c d na nl nc da dc ca cc hsd hnd hd8 hsc hc8 hC
  | some S =>
    cases hg : S.g c with
    | none => exact nput_add w T hK hx t ht ttl cl c d na nl nc da dc ca cc hsd hnd hd8 hsc hc8 S hC hg
    | some d0 => exact nput_same w T hK hx t ht ttl cl c d na nl nc da dc ca cc hsd hnd hd8 hsc hc8 S hC d0 hg
/- the canonical form of data -/
def cn (t : Nat) (d : List UInt8) : Option (List UInt8) := D.full d (D.can t d)
/- the zone at the block Zb, whose apex is A (in small letters), whose records are L -/
structure ZAt (w : World) (Zb : Nat) (A : List (List UInt8)) (L : List Z.R) (ρ : Nat → Role) (G : List (List UInt8) → Option Nd) (C : List (List UInt8) → Nat → Option Z.St) (K : Nat) : Prop where
  row : ∃ ao cap, RowAt w Zb 83 #[.slice ao A.length cap, ptr (nodeN G []), .int .i64 (L.length : Int)] ∧ SlS w ao A ∧ A.length ≤ cap
  tree : TreeAt w ρ G C K
  of : Z.Of L C
  rise : L.Pairwise Z.rlt
  lows : Z.Lows L
  cov : Z.Cov G L
  num : L.length ≤ 2000
  okk : ∀ x ∈ L, x.t < 65536 ∧ x.ttl < 4294967296 ∧ cn x.t x.d = some x.c ∧ x.d.length ≤ 8192 ∧ x.p.length ≤ 128
  zr : ρ Zb = .none
/- what a zone's call moved: its own row, blocks of its tree, and new ones -/
structure ZM (Zb : Nat) (ρ : Nat → Role) (w w' : World) : Prop where
  os : w'.os = w.os
  tape : w'.tape = w.tape
  output : w'.output = w.output
  size : w.heap.size ≤ w'.heap.size
  block : ∀ i, i < w.heap.size → i ≠ Zb → ρ i = .none → w'.heap[i]? = w.heap[i]?
set_option maxRecDepth 5000 in
theorem ZM.of_below {Zb : Nat} {ρ : Nat → Role} {w w' : World} (h : Below w.heap.size w w') : ZM Zb ρ w w' := ⟨h.os, h.tape, h.output, h.size, fun i hi _ _ => h.block i hi⟩
set_option maxRecDepth 5000 in
theorem ZM.of_mv {Zb : Nat} {ρ : Nat → Role} {w w' : World} (h : ZMv ρ w w') : ZM Zb ρ w w' := ⟨h.os, h.tape, h.output, h.size, fun i hi _ h0 => h.block i hi h0⟩
set_option maxRecDepth 5000 in
theorem ZM.trans {Zb : Nat} {ρ ρ' : Nat → Role} {a b c : World} (h : ZM Zb ρ a b) (k : ZM Zb ρ' b c) (hr : More a ρ ρ') : ZM Zb ρ a c :=
  ⟨k.os.trans h.os, k.tape.trans h.tape, k.output.trans h.output, Nat.le_trans h.size k.size, fun i hi h1 h2 => (k.block i (Nat.lt_of_lt_of_le hi h.size) h1 (by rw [hr i hi]; exact h2)).trans (h.block i hi h1 h2)⟩
/- the zone's row with another count -/
set_option maxRecDepth 5000 in
theorem ZM.count {w : World} {Zb : Nat} {ρ : Nat → Role} {c0 c1 c2 u : Value} (h : RowAt w Zb 83 #[c0, c1, c2]) : ZM Zb ρ w (w.setCell ⟨Zb, 2, none⟩ u) := by
  have hlt := h.lt
  refine ⟨rfl, rfl, rfl, by simp, fun i hi h1 _ => ?_⟩
  exact heap_setCell_other _ _ _ _ h1
set_option maxRecDepth 5000 in
theorem KB.zm {Zb : Nat} {ρ : Nat → Role} {w w' : World} (h : ZM Zb ρ w w') (hk : ∀ i, ρ i ≠ .none → ZObj w i) {c : Array Value} (hz : RowAt w Zb 83 c) : KB w w' := ⟨h.size, fun g cs et fr hg he => by
  have hz' : w.heap[Zb]? = some (Obj.cells c 83) := hz
  refine (h.block g (Array.getElem?_eq_some_iff.1 hg).1 (fun e => ?_) (Classical.byContradiction fun h0 => ?_)).trans hg
  · rw [e, hz'] at hg; injection hg with hg; injection hg with _ hg _
    rcases he with rfl | rfl
    · exact absurd hg (by decide)
    · exact absurd hg (by decide)
  · rcases hk g h0 with ⟨es, k, hb⟩ | ⟨a, b, hb⟩
    · rw [hb] at hg; cases hg
    · rw [hb] at hg; injection hg with hg; injection hg with _ hg _
      rcases he with rfl | rfl
      · exact absurd hg (by decide)
      · exact absurd hg (by decide)⟩
/- slices that lie anywhere are kept by what a zone's call moves -/
set_option maxRecDepth 5000 in
theorem slL_zm {Zb n : Nat} {m : Int} {ρ : Nat → Role} {w w' : World} (h : ZM Zb ρ w w') (hk : ∀ i, ρ i ≠ .none → ZObj w i) {ao : Option Addr} {len cap : Nat} (hz : RowAt w Zb 83 #[.slice ao len cap, ptr n, .int .i64 m]) {a : Option Addr} {l : List UInt8} (hs : SlL w a l) : SlL w' a l := fun hn => by
  obtain ⟨b, o, e, hlt, hc⟩ := hs hn
  have hb1 : b ≠ Zb := fun e2 => by
    have := hc 0 hn
    rw [e2, hz.cell] at this
    match o with
    | 0 => simp at this
    | 1 => simp [ptr] at this
    | 2 => simp at this
    | o + 3 => simp at this
  have hb2 : ρ b = .none := Classical.byContradiction fun h0 => by
    obtain ⟨m, hm⟩ := (hk b h0).cell (hc 0 hn)
    cases hm
  refine ⟨b, o, e, Nat.lt_of_lt_of_le hlt h.size, fun j hj => ?_⟩
  rw [← hc j hj]
  exact World.cell?_of_block (h.block b hlt hb1 hb2)
set_option maxRecDepth 5000 in
theorem slS_zm {Zb n : Nat} {m : Int} {ρ : Nat → Role} {w w' : World} (h : ZM Zb ρ w w') (hk : ∀ i, ρ i ≠ .none → ZObj w i) {ao : Option Addr} {len cap : Nat} (hz : RowAt w Zb 83 #[.slice ao len cap, ptr n, .int .i64 m]) {a : Option Addr} {l : List (List UInt8)} (hs : SlS w a l) : SlS w' a l := fun hn => by
  obtain ⟨b, o, e, hlt, hc⟩ := hs hn
  have hb1 : b ≠ Zb := fun e2 => by
    have := hc 0 hn
    rw [e2, hz.cell] at this
    match o with
    | 0 => simp at this
    | 1 => simp [ptr] at this
    | 2 => simp at this
    | o + 3 => simp at this
  have hb2 : ρ b = .none := Classical.byContradiction fun h0 => by
    obtain ⟨m, hm⟩ := (hk b h0).cell (hc 0 hn)
    cases hm
  refine ⟨b, o, e, Nat.lt_of_lt_of_le hlt h.size, fun j hj => ?_⟩
  rw [← hc j hj]
  exact World.cell?_of_block (h.block b hlt hb1 hb2)
set_option maxRecDepth 5000 in
theorem ZAt.kind {w : World} {Zb : Nat} {A : List (List UInt8)} {L : List Z.R} {ρ : Nat → Role} {G : List (List UInt8) → Option Nd} {C : List (List UInt8) → Nat → Option Z.St} {K : Nat} (h : ZAt w Zb A L ρ G C K) : ∀ i, ρ i ≠ .none → ZObj w i := h.tree.kind
set_option maxRecDepth 5000 in
theorem ZAt.mono {w : World} {Zb : Nat} {A : List (List UInt8)} {L : List Z.R} {ρ : Nat → Role} {G : List (List UInt8) → Option Nd} {C : List (List UInt8) → Nat → Option Z.St} {K K' : Nat} (h : ZAt w Zb A L ρ G C K) (hk : K ≤ K') : ZAt w Zb A L ρ G C K' := { h with tree := h.tree.mono hk }
/- what moves no block of the zone's, and no slice -/
set_option maxRecDepth 5000 in
theorem ZAt.keep {w w' : World} {Zb : Nat} {A : List (List UInt8)} {L : List Z.R} {ρ : Nat → Role} {G : List (List UInt8) → Option Nd} {C : List (List UInt8) → Nat → Option Z.St} {K : Nat} (h : ZAt w Zb A L ρ G C K) (hz : w'.heap[Zb]? = w.heap[Zb]?) (hb : ∀ i, ρ i ≠ .none → w'.heap[i]? = w.heap[i]?) (hs : ∀ ao l, SlL w ao l → SlL w' ao l) (hs2 : ∀ ao l, SlS w ao l → SlS w' ao l) : ZAt w' Zb A L ρ G C K := by
  obtain ⟨ao, cap, h1, h2, h3⟩ := h.row
  exact { h with row := ⟨ao, cap, hz.trans h1, hs2 _ _ h2, h3⟩, tree := h.tree.keep hb hs }
set_option maxRecDepth 5000 in
theorem ZAt.lt {w : World} {Zb : Nat} {A : List (List UInt8)} {L : List Z.R} {ρ : Nat → Role} {G : List (List UInt8) → Option Nd} {C : List (List UInt8) → Nat → Option Z.St} {K : Nat} (h : ZAt w Zb A L ρ G C K) : Zb < w.heap.size := by
  obtain ⟨ao, cap, h1, _⟩ := h.row; exact h1.lt
set_option maxRecDepth 5000 in
theorem ZAt.bel {w w' : World} {Zb : Nat} {A : List (List UInt8)} {L : List Z.R} {ρ : Nat → Role} {G : List (List UInt8) → Option Nd} {C : List (List UInt8) → Nat → Option Z.St} {K : Nat} (h : ZAt w Zb A L ρ G C K) (hb : Below w.heap.size w w') : ZAt w' Zb A L ρ G C K :=
  h.keep (hb.block _ h.lt) (fun i hi => hb.block i (h.tree.kind i hi).lt) (fun _ _ hs => hs.below hb (Nat.le_refl _)) (fun _ _ hs => hs.below hb (Nat.le_refl _))
/- another zone's call -/
set_option maxRecDepth 5000 in
theorem ZAt.other {w w' : World} {Zb Zb' : Nat} {A A' : List (List UInt8)} {L L' : List Z.R} {ρ ρ' : Nat → Role} {G G' : List (List UInt8) → Option Nd} {C C' : List (List UInt8) → Nat → Option Z.St} {K K' : Nat} (h : ZAt w Zb A L ρ G C K) (h' : ZAt w Zb' A' L' ρ' G' C' K') (hm : ZM Zb' ρ' w w') (hne : Zb ≠ Zb') (hd : ∀ i, ρ i ≠ .none → ρ' i = .none) (hz : ρ' Zb = .none) (hz' : ρ Zb' = .none) : ZAt w' Zb A L ρ G C K := by
  obtain ⟨ao, cap, h1, h2, h3⟩ := h'.row
  exact h.keep (hm.block _ h.lt hne hz) (fun i hi => hm.block i (h.tree.kind i hi).lt (fun e => hi (by rw [e]; exact hz')) (hd i hi)) (fun _ _ hs => slL_zm hm h'.tree.kind h1 hs) (fun _ _ hs => slS_zm hm h'.tree.kind h1 hs)
end Go.Proofs.YtdldaphkiphpnaaGreat
