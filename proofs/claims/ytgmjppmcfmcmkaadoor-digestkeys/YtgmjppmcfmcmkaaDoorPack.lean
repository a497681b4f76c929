/- hash.packed hands back the bytes of the state's words. -/
import Derived.Test.YtgmjppmcfmcmkaaDoorPut
import Derived.Test.YtgmjppmcfmcmkaaDoorComp
namespace Go.Proofs.YtgmjppmcfmcmkaaDoor
namespace H
open Go.RowKit
set_option maxRecDepth 5000 in
theorem info24 : (Tryd.prog.info? 42).map (·.size) = some 32 := by kernel_rfl
set_option maxRecDepth 5000 in
theorem rowS_get (s : Sha.St) (k : Nat) (h : k < 8) : (rowS s)[k]? = some (.int .u32 (Sha.word s k).toNat) := by
  match k, h with
  | 0, _ => rfl
  | 1, _ => rfl
  | 2, _ => rfl
  | 3, _ => rfl
  | 4, _ => rfl
  | 5, _ => rfl
  | 6, _ => rfl
  | 7, _ => rfl
set_option maxRecDepth 5000 in
theorem word_bytes (x : BitVec 32) : (x.toNat : Int) / (16777216 : Int) = (((x >>> 24).setWidth 8).toNat : Int) ∧ (x.toNat : Int) / (65536 : Int) % (256 : Int) = (((x >>> 16).setWidth 8).toNat : Int) ∧ (x.toNat : Int) / (256 : Int) % (256 : Int) = (((x >>> 8).setWidth 8).toNat : Int) ∧ (x.toNat : Int) % (256 : Int) = (((x >>> 0).setWidth 8).toNat : Int) := by
  simp only [BitVec.toNat_setWidth, BitVec.toNat_ushiftRight, Nat.shiftRight_eq_div_pow]
  omega
set_option maxRecDepth 5000 in
theorem First.put {k : Nat} {s : Sha.St} {c : Array Value} (h : First (4 * k) (fb (Sha.digB s)) c) (hs : c.size = 32) (hk : k < 8) : First (4 * (k + 1)) (fb (Sha.digB s)) (put4 c (4 * k) ((Sha.word s k).toNat : Int)) := fun j hj => by
  obtain ⟨p0, p1, p2, p3⟩ := put4_in c (4 * k) ((Sha.word s k).toNat : Int) (by omega)
  obtain ⟨b0, b1, b2, b3⟩ := word_bytes (Sha.word s k)
  by_cases e : j < 4 * k
  · rw [put4_out _ _ _ _ (Or.inl e)]; exact h j e
  · have hq : j / 4 = k := by omega
    unfold fb Sha.digB
    rw [hq]
    rcases (show j = 4 * k ∨ j = 4 * k + 1 ∨ j = 4 * k + 2 ∨ j = 4 * k + 3 by omega) with rfl | rfl | rfl | rfl
    · rw [p0, b0, show 24 - 8 * (4 * k % 4) = 24 by omega]
    · rw [p1, b1, show 24 - 8 * ((4 * k + 1) % 4) = 16 by omega]
    · rw [p2, b2, show 24 - 8 * ((4 * k + 2) % 4) = 8 by omega]
    · rw [p3, b3, show 24 - 8 * ((4 * k + 3) % 4) = 0 by omega]
set_option maxRecDepth 5000 in
theorem row_thd (w : World) (A : Array Value) (t : TypeId) (o1 o2 : Obj) : RowAt (((w.alloc o1).alloc o2).alloc (.cells A t)) (w.heap.size + 1 + 1) t A := by
  have h := RowAt.new ((w.alloc o1).alloc o2) t A
  simpa using h
set_option maxRecDepth 5000 in
theorem row_snd (w : World) (A : Array Value) (t : TypeId) (o1 : Obj) : RowAt ((w.alloc o1).alloc (.cells A t)) (w.heap.size + 1) t A := by
  have h := RowAt.new (w.alloc o1) t A
  simpa using h
set_option maxRecDepth 5000 in
theorem below_thd (w : World) (o1 o2 o3 : Obj) : Below w.heap.size w (((w.alloc o1).alloc o2).alloc o3) :=
  (((Below.refl _ _).alloc (Nat.le_refl _) _).alloc (by simp) _).alloc (by simp; omega) _
set_option maxRecDepth 5000 in
theorem size36 : (Tryd.prog.info? 41).map (·.size) = some 1 := by kernel_rfl
set_option maxRecDepth 5000 in
theorem size5 : (Tryd.prog.info? 5).map (·.size) = some 1 := by kernel_rfl
set_option maxRecDepth 5000 in
theorem run_size {P : Program} {t : TypeId} {n : Nat} (h : (P.info? t).map (·.size) = some n) (w : World) : (sizeOf t).run P w = .ok n w := by
  cases hq : P.info? t with
  | none => simp [hq] at h
  | some i =>
    have hs : i.size = n := by simpa [hq] using h
    simp [sizeOf, typeInfo, hq, hs]
set_option maxRecDepth 5000 in
theorem run_index_S (s : Sha.St) (k : Nat) (hk : k < 8) (w : World) : (Instr.index 52 (.agg (rowS s)) (.int .i64 (k : Int))).run Tryd.prog w = .ok (.int .u32 (Sha.word s k).toNat) w := by
  have hg := rowS_get s k hk
  have h1 := run_size size36 w
  simp [Instr.index, run_underlying Tryd.underlying52, asIntOf, h1, part, hg]
  intro h; omega
set_option maxRecDepth 5000 in
theorem run_cutA {P : Program} {t e : TypeId} {n : Nat} (hu : P.underlying t = some (.array n e)) (he : (P.info? e).map (·.size) = some 1) (g : Nat) (l : Int) (m : Nat) (hl : l = (m : Int)) (hm : m < n) (w : World) :
    (Instr.sliceAt t (.pointer (some ⟨g, 0, none⟩)) (some (.int .i64 l)) none none).run P w = .ok (.slice (some ⟨g, m, none⟩) (n - m) (n - m)) w := by
  subst hl
  have h1 := run_size he w
  have hne : n ≠ m := by omega
  have hle : m ≤ n := by omega
  simp [Instr.sliceAt, Instr.sureAddr, run_underlying hu, Instr.sliceBounds, Instr.sliceBound, asIntOf, h1, hne, hle, Addr.add]
  intro h; exact h.symm
set_option maxRecDepth 3000 in
set_option maxHeartbeats 400000 in
theorem pack_any (s : Sha.St) (w : World) :
    Calls Tryd.prog 34 #[.agg (rowS s)] w fun e w' => e = .returned (.agg (rowB 32 (Sha.digB s))) ∧ Below w.heap.size w w' := by
  go_enter Tryd.func34, Tryd.ntmps34
  go_wp2_with (refine wpList_load_rowAt rfl 52 (.tmp 1) rfl w.heap.size rfl 52 (rowS s) _ (((RowAt.new w 52 (rowS s)).alloc _).alloc _) Tryd.underlying52 rfl info37 ?_)
  go_loopw [7] (fun i wr => ∃ k : Nat, k ≤ 8 ∧ i = .int .i64 k ∧ Below w.heap.size w wr ∧ (∃ c, RowAt wr (w.heap.size + 1) 42 c ∧ c.size = 32) ∧ ∃ c, RowAt wr (w.heap.size + 1 + 1) 42 c ∧ c.size = 32 ∧ First (4 * k) (fb (Sha.digB s)) c) (fun i _ => 8 - (intOf i).toNat)
  case atStart =>
    exact ⟨0, by omega, rfl, below_thd _ _ _ _, ⟨_, (row_snd _ _ _ _).alloc _, rfl⟩, _, row_thd _ _ _ _ _, rfl, fun j hj => by omega⟩
  case round =>
    obtain ⟨k, hk, rfl, hB, ⟨c0, hR0, hs0⟩, c, hR, hs, hF⟩ := hrel
    by_cases hlt : k < 8
    · have hg := run_index_S s k hlt wr
      have hcut := run_cutA Tryd.underlying42 size5 (w.heap.size + 1 + 1) (4 * (k : Int)) (4 * k) (by omega) (by omega) wr
      go_wp2_with (go_at_call 45; refine (put_any _ wr (w.heap.size + 1 + 1) (4 * k) _ _ 42 c (by omega) (by omega) hR (by omega) (by omega) (by omega)).mono ?_; rintro e w1 ⟨rfl, hO⟩)
      go_roundw
      case rel =>
        exact ⟨k + 1, by omega, by go_num, hB.trans (hO.below.mono (by omega)), ⟨c0, hO.rowAt hR0 (by omega), hs0⟩, _, hO.row, by rw [put4_size]; exact hs, hF.put hs hlt⟩
      case measure => simp [intOf]; omega
    · have hF' : c = rowB 32 (Sha.digB s) := First.whole (by rw [show 4 * k = 32 by omega] at hF; exact hF) hs
      subst hF'
      clear hF
      go_wp2_with (first
        | (refine wpList_load_rowAt rfl 42 (.tmp 3) rfl (w.heap.size + 1 + 1) rfl 42 (rowB 32 (Sha.digB s)) _ hR Tryd.underlying42 rfl (by rw [rowB_size]; exact info24) ?_)
        | (refine wpList_store_rowAt rfl 42 (.tmp 2) (.tmp 17) rfl (w.heap.size + 1) (rowB 32 (Sha.digB s)) rfl rfl 42 c0 hR0 (by rw [rowB_size]; exact info24) (by rw [rowB_size]; exact hs0) (rowB_one _ _) ?_))
      exact bodyPost_ret (v := .agg (rowB 32 (Sha.digB s))) (results_rowAt Tryd.results34 _ _ (w.heap.size + 1) 42 _ _ rfl (setRow_same hR0 _) Tryd.underlying42 rfl (by rw [rowB_size]; exact info24)) rfl ⟨rfl, below_setRow hB (by omega) _⟩
end H
end Go.Proofs.YtgmjppmcfmcmkaaDoor
