/- What the readings of parts answer; the reader beside other rows of memory. -/
import Derived.Test.YtagopkmehlpjpaaAppG
namespace Go.Proofs.Ytagopkmehlpjpaa
open Go.RowKit
set_option maxRecDepth 5000 in
theorem Rdr.base {B T : Nat} {l : List UInt8} {w : World} (h : Rdr B T l w) : B ≤ w.heap.size := by
  obtain ⟨ao, c, _, _, _, _, _, _, h⟩ := h
  exact h
set_option maxRecDepth 5000 in
theorem Rdr.len {B T : Nat} {l : List UInt8} {w : World} (h : Rdr B T l w) : l.length ≤ 8192 := by
  obtain ⟨ao, c, _, _, _, _, _, h, _⟩ := h
  exact h
set_option maxRecDepth 5000 in
theorem Rdr.other {B T : Nat} {l : List UInt8} {w : World} (h : Rdr B T l w) (g j : Nat) (v : Value) (hg : T ≠ g) (hB : B ≤ g) : Rdr B T l (w.setCell ⟨g, j, none⟩ v) := by
  obtain ⟨ao, c, h1, h2, h3, h4, h5, h6, h7⟩ := h
  exact ⟨ao, c, h1.other _ _ hg, h2.below ((Below.refl B w).setCell hB _), h3, h4, h5, h6, by simp [World.setCell]; omega⟩
set_option maxRecDepth 5000 in
theorem Mv.setNew {T : Nat} {w w' : World} (h : Mv T w w') (g j : Nat) (v : Value) (hg : w.heap.size ≤ g) : Mv T w (w'.setCell ⟨g, j, none⟩ v) :=
  ⟨h.os, h.tape, h.output, by simp [World.setCell]; exact h.size, fun k hk hn => (Below.heap_setCell _ _ _ _ (by show k ≠ g; omega)).trans (h.block k hk hn)⟩
set_option maxRecDepth 5000 in
theorem RowAt.same {w : World} {g t : Nat} {c : Array Value} (h : RowAt w g t c) (j : Nat) {v : Value} (hv : c[j]? = some v) : RowAt (w.setCell ⟨g, j, none⟩ v) g t c := by
  have h1 := h.set j v
  have e : c.setIfInBounds j v = c := by
    apply Array.ext
    · simp
    · intro i h1 h2
      rw [Array.getElem_setIfInBounds]
      split
      · subst_vars; rw [Array.getElem?_eq_some_iff] at hv; obtain ⟨_, hv⟩ := hv; exact hv.symm
      · rfl
  rwa [e] at h1
/- one block alone is another -/
def Upd (g : Nat) (W F : World) : Prop := F.os = W.os ∧ F.tape = W.tape ∧ F.output = W.output ∧ F.heap.size = W.heap.size ∧ ∀ k, k ≠ g → F.heap[k]? = W.heap[k]?
set_option maxRecDepth 5000 in
theorem Upd.refl (g : Nat) (W : World) : Upd g W W := ⟨rfl, rfl, rfl, rfl, fun _ _ => rfl⟩
set_option maxRecDepth 5000 in
theorem Upd.set {g : Nat} {W F : World} (h : Upd g W F) (j : Nat) (v : Value) : Upd g W (F.setCell ⟨g, j, none⟩ v) :=
  ⟨h.1, h.2.1, h.2.2.1, by simp [World.setCell]; exact h.2.2.2.1, fun k hk => (Below.heap_setCell _ _ _ _ hk).trans (h.2.2.2.2 k hk)⟩
set_option maxRecDepth 5000 in
theorem Upd.mv {T g : Nat} {w W F : World} (u : Upd g W F) (h : Mv T w W) (hg : w.heap.size ≤ g) : Mv T w F :=
  ⟨u.1.trans h.os, u.2.1.trans h.tape, u.2.2.1.trans h.output, by rw [u.2.2.2.1]; exact h.size, fun k hk hn => (u.2.2.2.2 k (by omega)).trans (h.block k hk hn)⟩
set_option maxRecDepth 5000 in
theorem Upd.below {B g : Nat} {W F : World} (u : Upd g W F) (hg : B ≤ g) : Below B W F := ⟨u.1, u.2.1, u.2.2.1, by rw [u.2.2.2.1]; exact Nat.le_refl _, fun k hk => u.2.2.2.2 k (by omega)⟩
set_option maxRecDepth 5000 in
theorem Upd.rdr {B T g : Nat} {l : List UInt8} {W F : World} (u : Upd g W F) (h : Rdr B T l W) (hT : T ≠ g) (hB : B ≤ g) : Rdr B T l F := by
  obtain ⟨ao, c, h1, h2, h3, h4, h5, h6, h7⟩ := h
  exact ⟨ao, c, by unfold RowAt; rw [u.2.2.2.2 T hT]; exact h1, h2.below (u.below hB), h3, h4, h5, h6, by rw [u.2.2.2.1]; exact h7⟩
set_option maxRecDepth 5000 in
theorem Upd.own {g t B e n : Nat} {W F : World} {v : Value} {xs : List Value} {c : Array Value} (u : Upd g W F) (hT : RowAt W g t c) (hne : t ≠ e) (h : W.ownsRow B e 1 v n xs) : F.ownsRow B e 1 v n xs := by
  have hn := own_ne h hT hne
  refine ⟨h.1, ?_⟩
  rcases h.2 with h1 | ⟨g', cap, cur, e1, hb, hg', hr⟩
  · exact Or.inl h1
  · refine Or.inr ⟨g', cap, cur, e1, hb, ?_, hr⟩
    rw [u.2.2.2.2 g' (fun e2 => hn (by rw [e1, ← e2]; rfl))]; exact hg'
def KeyV (base : Nat) (k : D.Key) (v : Value) (w : World) : Prop := ∃ a c, v = .agg #[.int .u16 (k.flags : Int), .int .u8 (k.proto : Int), .int .u8 (k.alg : Int), .slice a k.key.length c] ∧ OwnB w base (.slice a k.key.length c) k.key
def SoaV (base : Nat) (s : D.Soa) (v : Value) (w : World) : Prop := ∃ a1 c1 a2 c2, v = .agg #[.slice a1 s.main.length c1, .slice a2 s.box.length c2, .int .u32 (s.a : Int), .int .u32 (s.b : Int), .int .u32 (s.c : Int), .int .u32 (s.d : Int), .int .u32 (s.e : Int)] ∧ OwnS w base (.slice a1 s.main.length c1) s.main ∧ OwnS w base (.slice a2 s.box.length c2) s.box
def SigV (base : Nat) (s : D.Sig) (v : Value) (w : World) : Prop := ∃ a1 c1 a2 c2, v = .agg #[.int .u16 (s.type : Int), .int .u8 (s.alg : Int), .int .u8 (s.labels : Int), .int .u32 (s.ttl : Int), .int .u32 (s.expire : Int), .int .u32 (s.begin_ : Int), .int .u16 (s.tag : Int), .slice a1 s.signer.length c1, .slice a2 s.sig.length c2] ∧ OwnS w base (.slice a1 s.signer.length c1) s.signer ∧ OwnB w base (.slice a2 s.sig.length c2) s.sig
def ChainV (base : Nat) (c : D.Chain) (v : Value) (w : World) : Prop := ∃ a1 c1 a2 c2 a3 c3, v = .agg #[.int .u8 (c.hash : Int), .int .u8 (c.flags : Int), .int .u16 (c.iter : Int), .slice a1 c.salt.length c1, .slice a2 c.next.length c2, .slice a3 c.types.length c3] ∧ OwnB w base (.slice a1 c.salt.length c1) c.salt ∧ OwnB w base (.slice a2 c.next.length c2) c.next ∧ OwnH w base (.slice a3 c.types.length c3) c.types
end Go.Proofs.Ytagopkmehlpjpaa
