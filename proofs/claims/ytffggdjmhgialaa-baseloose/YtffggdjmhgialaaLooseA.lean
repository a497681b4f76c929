/- What the law BaseLoose leans on: a place, a text's bytes as a slice of their own, capitals, a last digit that is turned. -/
import Derived.Test.YtffggdjmhgialaaOrder
namespace Go.Proofs.Ytffggdjmhgialaa
open Go.RowKit
theorem place_any (k : Int) (N : Nat) (w : World) (hN : 0 < N) (hN2 : N ≤ 100000) :
    Calls Try.prog 18 #[.int .i64 k, .int .i64 (N : Int)] w fun e w' => ∃ i : Nat, i < N ∧ e = .returned (.int .i64 (i : Int)) ∧ w' = w := by
  have h1 : (k.tmod (N : Int)).natAbs < N := by
    rw [Int.natAbs_tmod, show ((N : Int)).natAbs = N by omega]
    exact Nat.mod_lt _ hN
  have hN0 : (N : Int) ≠ 0 := by omega
  obtain ⟨r, hr⟩ : ∃ r, r = k.tmod (N : Int) := ⟨_, rfl⟩
  rw [← hr] at h1
  have hr' := hr.symm
  clear hr
  by_cases h : r < 0
  · go_enter Try.func18, Try.ntmps18
    go_wp2
    go_ret
    exact ⟨(r + N).toNat, by omega, by rw [show (((r + N).toNat : Nat) : Int) = r + N by omega] <;> rfl, rfl⟩
  · go_enter Try.func18, Try.ntmps18
    go_wp2
    go_ret
    exact ⟨r.toNat, by omega, by rw [show ((r.toNat : Nat) : Int) = r by omega] <;> rfl, rfl⟩
/- the row that '[]byte(text)' lays: its first cells are the bytes L -/
def Row2 (w : World) (g : Nat) (L : List UInt8) : Prop := ∃ C, w.heap[g]? = some (.cells C 5 (C.size, C.size + 1)) ∧ L.length ≤ C.size ∧ ∀ j, j < L.length → C[j]? = some (.int .u8 (L.getD j 0).toNat)
theorem Row2.cell {w : World} {g : Nat} {L : List UInt8} (h : Row2 w g L) (j : Nat) (hj : j < L.length) : w.cell? ⟨g, j, none⟩ = some (.int .u8 (L.getD j 0).toNat) := by
  obtain ⟨C, h1, h2, h3⟩ := h
  rw [cell_of_row _ _ _ C 5 _ h1, h3 j hj]
theorem Row2.frozen {w : World} {g : Nat} {L : List UInt8} (h : Row2 w g L) (j : Nat) (hj : j < L.length) : w.frozen? ⟨g, j, none⟩ = false := by
  obtain ⟨C, h1, h2, h3⟩ := h
  simp [World.frozen?, h1]
  omega
theorem Row2.lt {w : World} {g : Nat} {L : List UInt8} (h : Row2 w g L) : g < w.heap.size := by
  obtain ⟨C, h1, _⟩ := h
  exact (Array.getElem?_eq_some_iff.1 h1).1
theorem Row2.sl {w : World} {g : Nat} {L : List UInt8} (h : Row2 w g L) : SlL w (some ⟨g, 0, none⟩) L := fun _ =>
  ⟨g, 0, rfl, h.lt, fun j hj => by rw [Nat.zero_add]; exact h.cell j hj⟩
theorem Row2.set {w : World} {g : Nat} {L : List UInt8} (h : Row2 w g L) (i : Nat) (x : UInt8) (v : Int) (hv : v = (x.toNat : Int)) : Row2 (w.setCell ⟨g, i, none⟩ (.int .u8 v)) g (L.set i x) := by
  subst hv
  obtain ⟨C, h1, h2, h3⟩ := h
  refine ⟨C.setIfInBounds i (.int .u8 x.toNat), ?_, by simpa using h2, ?_⟩
  · simp [World.setCell, Array.getElem?_modify, h1]
  · intro j hj
    rw [List.length_set] at hj
    rw [Array.getElem?_setIfInBounds]
    by_cases e : i = j
    · subst e
      rw [if_pos rfl, if_pos (by omega)]
      simp [hj]
    · rw [if_neg e, h3 j hj]
      simp [e]
theorem Row2.below {B : Nat} {w w' : World} {g : Nat} {L : List UInt8} (h : Row2 w g L) (hb : Below B w w') (hg : g < B) : Row2 w' g L := by
  obtain ⟨C, h1, h2⟩ := h
  exact ⟨C, by rw [hb.block g hg]; exact h1, h2⟩
theorem Row2.drew {w : World} {g : Nat} {L : List UInt8} (h : Row2 w g L) : Row2 w.drew g L := h
theorem conv_bytes (w : World) (L : List UInt8) : ∃ c w', (convert 9 22 (.string ⟨L.toArray⟩)).run Try.prog w = .ok (.slice (some ⟨w.heap.size, 0, none⟩) L.length c) w' ∧ Row2 w' w.heap.size L ∧ Below w.heap.size w w' ∧ L.length ≤ c := by
  have h := run_bytes_of_string w 9 22 5 ⟨L.toArray⟩ Try.underlying9 Try.underlying22 Try.underlying5
  have hsz : (ByteArray.mk L.toArray).size = L.length := by simp [ByteArray.size]
  rw [hsz] at h
  refine ⟨_, _, h, ⟨_, heap_alloc_last w.drew _, ?_, ?_⟩, (Below.refl _ w).drew.alloc (Nat.le_refl _) _, ?_⟩
  · simp [bytesRow]
  · intro j hj
    have hj' : j < (ByteArray.mk L.toArray).data.size := by simpa using hj
    rw [bytesRow_at _ _ j hj']
    simp [hj]
  · exact grownCap_ge _ _ _ _
namespace B
theorem dval_cap : ∀ d, d < 32 → 97 ≤ (dch d).toNat → (dch d).toNat ≤ 118 ∧ dval ((dch d).toNat - 32) = d := by decide
theorem turned : ∀ d, d < 32 → ∀ p, p < 5 → ∀ t, t < p → d % 2 ^ p = 0 → (d ^^^ 2 ^ t) < 32 ∧ (d ^^^ 2 ^ t) % 2 ^ p ≠ 0 := by decide
theorem dv_set (L : List UInt8) (i : Nat) (y : UInt8) (hi : i < L.length) (h : dval y.toNat = dval (L.getD i 0).toNat) : dv (L.set i y) = dv L := by
  unfold dv
  rw [List.map_set, h]
  apply List.ext_getElem?
  intro j
  by_cases e : i = j
  · subst e; simp [hi]
  · rw [List.getElem?_set_ne e]
theorem val_of_dv {q : Nat} {L : List UInt8} (h : ∀ d ∈ dv L, d < q) : Val q L := fun x hx => h _ (by simp only [dv, List.mem_map]; exact ⟨x, hx, rfl⟩)
theorem last_mod {k : Nat} {b : List UInt8} {D : List Nat} {d p : Nat} (hp : p < k) (hl : k * (D ++ [d]).length = 8 * b.length + p) (h : Rel k b (D ++ [d])) : d % 2 ^ p = 0 := by
  obtain ⟨p', hp', hl', hv⟩ := h
  obtain rfl : p = p' := by omega
  rw [val_snoc] at hv
  have h1 : 2 ^ k = 2 ^ p * 2 ^ (k - p) := by rw [← Nat.pow_add]; congr 1; omega
  have h2 : (val (2 ^ k) 0 D * 2 ^ k + d) % 2 ^ p = d % 2 ^ p := by
    rw [h1, Nat.mul_left_comm, Nat.mul_add_mod]
  rw [← h2, hv, Nat.mul_mod_left]
end B
theorem size5 : (Try.prog.info? 5).map (·.size) = some 1 := by kernel_rfl
theorem run_size {P : Program} {t : TypeId} {n : Nat} (h : (P.info? t).map (·.size) = some n) (w : World) : (sizeOf t).run P w = .ok n w := by
  cases hq : P.info? t with
  | none => simp [hq] at h
  | some i =>
    have hs : i.size = n := by simpa [hq] using h
    simp [sizeOf, typeInfo, hq, hs]
theorem add_zero' (a : Addr) : a.add 0 = a := by simp [Addr.add]
theorem run_headB (a : Addr) (n cap j : Nat) (h : j ≤ cap) (x : Int) (hx : x = (j : Int)) (w : World) : (Instr.sliceAt 22 (.slice (some a) n cap) none (some (.int .i64 x)) none).run Try.prog w = .ok (.slice (some a) j cap) w := by
  subst hx
  simp [Instr.sliceAt, Instr.slice, run_underlying Try.underlying22, Instr.sliceBounds, Instr.sliceBound, asIntOf, h, run_size size5, add_zero']
theorem i64_xor_nat (a b : Nat) (ha : a < 1048576) (hb : b < 1048576) : bits .xor .i64 (a : Int) (b : Int) = ((a ^^^ b : Nat) : Int) := by
  have hx : a ^^^ b < 2 ^ 20 := Nat.xor_lt_two_pow (by omega) (by omega)
  show IntKind.i64.wrap ((BitVec.ofInt 64 (a : Int) ^^^ BitVec.ofInt 64 (b : Int)).toNat : Int) = _
  rw [BitVec.toNat_xor, ofInt_u64 a (by omega), ofInt_u64 b (by omega), IntKind.wrap_i64]
  omega
theorem xor_pow (d t : Nat) (hd : d < 32) (ht : t < 5) : bits .xor .i64 (d : Int) ((2 : Int) ^ t) = ((d ^^^ 2 ^ t : Nat) : Int) := by
  have h1 : 2 ^ t ≤ 2 ^ 4 := Nat.pow_le_pow_right (by omega) (by omega)
  rw [show (2 : Int) ^ t = ((2 ^ t : Nat) : Int) by simp, i64_xor_nat d (2 ^ t) (by omega) (by omega)]
theorem last_text (D : List Nat) (d : Nat) (x : Int) (hx : x = (D.length : Int)) (W : World) : (Instr.slice 9 (.string ⟨(B.txt (D ++ [d])).toArray⟩) (some (.int .i64 x)) none none).run Try.prog W = .ok (.string ⟨#[B.dch d]⟩) W := by
  subst hx
  have hsz : (ByteArray.mk (B.txt (D ++ [d])).toArray).size = D.length + 1 := by rw [size_txt, B.txt_len]; simp
  rw [run_slice_string_from_if W 9 _ .i64 _ Try.underlying9, hsz, if_pos ⟨by omega, by omega⟩, Int.toNat_natCast, ByteArray.extract_mk, Nat.add_sub_cancel_left, ← B.txt_app, show D.length = (B.txt D).length from (B.txt_len D).symm, List.drop_left]
  rfl
theorem add_text (L : List UInt8) (d : Nat) (hL : L.length ≤ 100000) (W : World) : (Op.stringOp .add ⟨L.toArray⟩ ⟨#[B.dch d]⟩).run Try.prog W = .ok (.string ⟨(L ++ [B.dch d]).toArray⟩) W := by
  rw [run_string_add_sum W _ _ (by simp [ByteArray.size]; omega), show #[B.dch d] = [B.dch d].toArray from rfl, ByteArray.mk_append_mk]
theorem bad_turn {bs L : List UInt8} {D : List Nat} {d p v : Nat} (hp : p < 5) (hl : 5 * (D.length + 1) = 8 * bs.length + p) (hv : v < 32) (hm : v % 2 ^ p ≠ 0) (hL : B.dv L = D ++ [d]) (b : List UInt8) : ¬ B.Good 5 32 (L.take D.length ++ [B.dch v]) b := by
  rintro ⟨_, hr⟩
  have h1 : B.dv (L.take D.length) = D := by
    have h2 : B.dv (L.take D.length) = (B.dv L).take D.length := by unfold B.dv; rw [List.map_take]
    rw [h2, hL, List.take_left]
  rw [B.dv_app, h1, B.dval_dch v hv] at hr
  apply hm
  obtain ⟨p', hp', hl', hv'⟩ := hr
  have hpp : p = p' := by rw [List.length_append, List.length_singleton] at hl'; omega
  subst hpp
  exact B.last_mod hp (by rw [List.length_append, List.length_singleton] at hl' ⊢; exact hl') ⟨p, hp', hl', hv'⟩
theorem dch_ne : ∀ v, v < 32 → ∀ d, d < 32 → v ≠ d → ([B.dch v] == [B.dch d]) = false := by decide
theorem SlL.take {w : World} {ao : Option Addr} {l : List UInt8} (h : SlL w ao l) (m : Nat) : SlL w ao (l.take m) := fun hn => by
  rw [List.length_take] at hn
  obtain ⟨b, o, e, hlt, hc⟩ := h (by omega)
  refine ⟨b, o, e, hlt, fun j hj => ?_⟩
  rw [List.length_take] at hj
  rw [hc j (by omega)]
  simp [show j < m by omega, show j < l.length by omega]
end Go.Proofs.Ytffggdjmhgialaa
