/- The parts that the reference reads by their places, plain. -/
import Derived.Test.YtagopkmehlpjpaaRefK
namespace Go.Proofs.Ytagopkmehlpjpaa
open Go.RowKit
/- an append to nothing keeps all that was there -/
set_option maxRecDepth 5000 in
theorem nil_grown {w w' : World} (h : w.drew.grownBy w' (Value.slice none 0 0).ownBlock) : Below w.heap.size w w' := ⟨h.os, h.tape, h.output, h.size, fun k hk => h.block k hk (by simp [Value.ownBlock])⟩
set_option maxRecDepth 5000 in
theorem cell_far {W : World} {b g j o : Nat} {v : Value} (h : b ≠ g) : (W.setCell ⟨g, j, none⟩ v).cell? ⟨b, o, none⟩ = W.cell? ⟨b, o, none⟩ := World.cell?_of_block (w := W) (a := ⟨b, o, none⟩) (Below.heap_setCell _ _ _ _ h)
set_option maxRecDepth 5000 in
theorem Upd.drew {g : Nat} {W F : World} (h : Upd g W F) : Upd g W F.drew := h
set_option maxRecDepth 5000 in
theorem RowAt.drew {w : World} {g t : Nat} {c : Array Value} (h : RowAt w g t c) : RowAt w.drew g t c := h
set_option maxRecDepth 5000 in
theorem row_facts9 {w : World} {g t : Nat} {c0 c1 c2 c3 c4 c5 c6 c7 c8 : Value} (h : RowAt w g t #[c0, c1, c2, c3, c4, c5, c6, c7, c8]) : w.cell? ⟨g, 0, none⟩ = some c0 ∧ w.cell? ⟨g, 1, none⟩ = some c1 ∧ w.cell? ⟨g, 2, none⟩ = some c2 ∧ w.cell? ⟨g, 3, none⟩ = some c3 ∧ w.cell? ⟨g, 4, none⟩ = some c4 ∧ w.cell? ⟨g, 5, none⟩ = some c5 ∧ w.cell? ⟨g, 6, none⟩ = some c6 ∧ w.cell? ⟨g, 7, none⟩ = some c7 ∧ w.cell? ⟨g, 8, none⟩ = some c8 ∧ w.frozen? ⟨g, 0, none⟩ = false ∧ w.frozen? ⟨g, 1, none⟩ = false ∧ w.frozen? ⟨g, 2, none⟩ = false ∧ w.frozen? ⟨g, 3, none⟩ = false ∧ w.frozen? ⟨g, 4, none⟩ = false ∧ w.frozen? ⟨g, 5, none⟩ = false ∧ w.frozen? ⟨g, 6, none⟩ = false ∧ w.frozen? ⟨g, 7, none⟩ = false ∧ w.frozen? ⟨g, 8, none⟩ = false :=
  ⟨h.cell 0, h.cell 1, h.cell 2, h.cell 3, h.cell 4, h.cell 5, h.cell 6, h.cell 7, h.cell 8, h.frozen 0, h.frozen 1, h.frozen 2, h.frozen 3, h.frozen 4, h.frozen 5, h.frozen 6, h.frozen 7, h.frozen 8⟩
set_option maxRecDepth 5000 in
theorem row_facts6 {w : World} {g t : Nat} {c0 c1 c2 c3 c4 c5 : Value} (h : RowAt w g t #[c0, c1, c2, c3, c4, c5]) : w.cell? ⟨g, 0, none⟩ = some c0 ∧ w.cell? ⟨g, 1, none⟩ = some c1 ∧ w.cell? ⟨g, 2, none⟩ = some c2 ∧ w.cell? ⟨g, 3, none⟩ = some c3 ∧ w.cell? ⟨g, 4, none⟩ = some c4 ∧ w.cell? ⟨g, 5, none⟩ = some c5 ∧ w.frozen? ⟨g, 0, none⟩ = false ∧ w.frozen? ⟨g, 1, none⟩ = false ∧ w.frozen? ⟨g, 2, none⟩ = false ∧ w.frozen? ⟨g, 3, none⟩ = false ∧ w.frozen? ⟨g, 4, none⟩ = false ∧ w.frozen? ⟨g, 5, none⟩ = false :=
  ⟨h.cell 0, h.cell 1, h.cell 2, h.cell 3, h.cell 4, h.cell 5, h.frozen 0, h.frozen 1, h.frozen 2, h.frozen 3, h.frozen 4, h.frozen 5⟩
namespace D
set_option maxRecDepth 5000 in
theorem n8_take {l : List UInt8} (h : 1 ≤ l.length) : n8 l = some ((l.getD 0 0).toNat, l.drop 1) := by
  match l with
  | x :: r => rfl
  | [] => simp at h
set_option maxRecDepth 5000 in
theorem n16_take {l : List UInt8} (h : 2 ≤ l.length) : n16 l = some (gv (l.take 2), l.drop 2) := by
  match l with
  | x :: y :: r => exact n16_gv x y r
  | [x] => simp at h
  | [] => simp at h
set_option maxRecDepth 5000 in
theorem n32_take {l : List UInt8} (h : 4 ≤ l.length) : n32 l = some (gv (l.take 4), l.drop 4) := by
  obtain ⟨x, y, z, u, r, rfl⟩ := list4 h
  exact n32_gv x y z u r
set_option maxRecDepth 5000 in
theorem soa_len {l r1 r2 r : List UInt8} {m x : List (List UInt8)} {s : Soa} (h1 : nm l = some (m, r1)) (h2 : nm r1 = some (x, r2)) (h : soa l = some (s, r)) : r2.length = 20 + r.length := by
  simp only [soa, Option.bind_eq_some_iff, Option.map_eq_some_iff, Prod.exists] at h
  obtain ⟨m', q1, g1, x', q2, g2, a, r3, h3, b, r4, h4, c, r5, h5, d, r6, h6, e, r7, h7, h⟩ := h
  rw [h1] at g1; cases g1
  rw [h2] at g2; cases g2
  cases h
  have l3 := congrArg List.length (n32_back h3).1
  have l4 := congrArg List.length (n32_back h4).1
  have l5 := congrArg List.length (n32_back h5).1
  have l6 := congrArg List.length (n32_back h6).1
  have l7 := congrArg List.length (n32_back h7).1
  simp only [List.length_append, p32_len] at l3 l4 l5 l6 l7
  omega
set_option maxRecDepth 5000 in
theorem soa_ref {l r1 r2 : List UInt8} {m x : List (List UInt8)} (h1 : nm l = some (m, r1)) (h2 : nm r1 = some (x, r2)) (h : r2.length = 20) :
    soa l = some (⟨m, x, gv (r2.take 4), gv ((r2.drop 4).take 4), gv ((r2.drop 8).take 4), gv ((r2.drop 12).take 4), gv (r2.drop 16)⟩, []) := by
  unfold soa
  rw [h1]; simp only [Option.bind_some]
  rw [h2]; simp only [Option.bind_some]
  rw [n32_take (by omega)]; simp only [Option.bind_some]
  rw [n32_take (by rw [List.length_drop]; omega)]; simp only [Option.bind_some, List.drop_drop]
  rw [n32_take (by rw [List.length_drop]; omega)]; simp only [Option.bind_some, List.drop_drop]
  rw [n32_take (by rw [List.length_drop]; omega)]; simp only [Option.bind_some, List.drop_drop]
  rw [n32_take (by rw [List.length_drop]; omega)]; simp only [Option.map_some, List.drop_drop]
  have e1 : (r2.drop 16).take 4 = r2.drop 16 := List.take_of_length_le (by rw [List.length_drop]; omega)
  have e2 : r2.drop 20 = [] := List.drop_eq_nil_of_le (by omega)
  show some ((⟨m, x, gv (r2.take 4), gv ((r2.drop 4).take 4), gv ((r2.drop 8).take 4), gv ((r2.drop 12).take 4), gv ((r2.drop 16).take 4)⟩ : Soa), r2.drop 20) = _
  rw [e1, e2]
set_option maxRecDepth 5000 in
theorem soa_not {l r1 r2 : List UInt8} {m x : List (List UInt8)} (h1 : nm l = some (m, r1)) (h2 : nm r1 = some (x, r2)) (h : r2.length ≠ 20) : full l (soa l) = none := by
  cases hh : full l (soa l) with
  | none => rfl
  | some s =>
    have := soa_len h1 h2 (full_iff.1 hh).2
    simp at this; omega
set_option maxRecDepth 5000 in
theorem soa_no1 {l : List UInt8} (h1 : nm l = none) : full l (soa l) = none := full_none (by unfold soa; rw [h1]; rfl)
set_option maxRecDepth 5000 in
theorem soa_no2 {l r1 : List UInt8} {m : List (List UInt8)} (h1 : nm l = some (m, r1)) (h2 : nm r1 = none) : full l (soa l) = none := full_none (by unfold soa; rw [h1]; simp only [Option.bind_some]; rw [h2]; rfl)
set_option maxRecDepth 5000 in
theorem sig_ref {l r : List UInt8} {n : List (List UInt8)} (hl : 18 ≤ l.length) (h : nm (l.drop 18) = some (n, r)) :
    sig l = some (⟨gv (l.take 2), (l.getD 2 0).toNat, (l.getD 3 0).toNat, gv ((l.drop 4).take 4), gv ((l.drop 8).take 4), gv ((l.drop 12).take 4), gv ((l.drop 16).take 2), n, r⟩, []) := by
  unfold sig
  rw [n16_take (by omega)]; simp only [Option.bind_some]
  rw [n8_take (by rw [List.length_drop]; omega)]; simp only [Option.bind_some, List.drop_drop]
  rw [n8_take (by rw [List.length_drop]; omega)]; simp only [Option.bind_some, List.drop_drop]
  rw [n32_take (by rw [List.length_drop]; omega)]; simp only [Option.bind_some, List.drop_drop]
  rw [n32_take (by rw [List.length_drop]; omega)]; simp only [Option.bind_some, List.drop_drop]
  rw [n32_take (by rw [List.length_drop]; omega)]; simp only [Option.bind_some, List.drop_drop]
  rw [n16_take (by rw [List.length_drop]; omega)]; simp only [Option.bind_some, List.drop_drop]
  rw [h]
  simp [List.getD_eq_getElem?_getD, List.getElem?_drop]
set_option maxRecDepth 5000 in
theorem sig_no {l : List UInt8} (h : l.length < 18 ∨ nm (l.drop 18) = none) : full l (sig l) = none := by
  cases hh : full l (sig l) with
  | none => rfl
  | some s =>
    have h2 := (full_iff.1 hh).2
    simp only [sig, Option.bind_eq_some_iff, Option.map_eq_some_iff, Prod.exists] at h2
    obtain ⟨t, r1, h1, a, r2, h2, k, r3, h3, x, r4, h4, y, r5, h5, z, r6, h6, g, r7, h7, n, r8, h8, _⟩ := h2
    have e1 := (n16_back h1).1
    have e2 := (n8_back h2).1
    have e3 := (n8_back h3).1
    have e4 := (n32_back h4).1
    have e5 := (n32_back h5).1
    have e6 := (n32_back h6).1
    have e7 := (n16_back h7).1
    have hd : l.drop 18 = r7 := by rw [e1, e2, e3, e4, e5, e6, e7]; rfl
    have hl : l.length = 18 + r7.length := by rw [e1, e2, e3, e4, e5, e6, e7]; simp only [List.length_append, List.length_cons, p16_len, p32_len]; omega
    rcases h with h | h
    · omega
    · rw [hd, h8] at h; cases h
end D
end Go.Proofs.Ytagopkmehlpjpaa
