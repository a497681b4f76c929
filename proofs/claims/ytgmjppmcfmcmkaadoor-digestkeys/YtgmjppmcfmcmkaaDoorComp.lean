/- hash.compress hands back the state behind one more block, and turns nothing that was there. -/
import Derived.Test.YtgmjppmcfmcmkaaDoorSched
import Derived.Test.YtgmjppmcfmcmkaaDoorInv2
namespace Go.Proofs.YtgmjppmcfmcmkaaDoor
namespace H
open Go.RowKit
set_option maxRecDepth 5000 in
theorem info37 : (Tryd.prog.info? 52).map (·.size) = some 8 := by kernel_rfl
set_option maxRecDepth 5000 in
theorem rowS_plus (s q : Sha.St) : #[.int .u32 (((s.a.toNat : Int) + (q.a.toNat : Int)) % 4294967296), .int .u32 (((s.b.toNat : Int) + (q.b.toNat : Int)) % 4294967296), .int .u32 (((s.c.toNat : Int) + (q.c.toNat : Int)) % 4294967296), .int .u32 (((s.d.toNat : Int) + (q.d.toNat : Int)) % 4294967296),
    .int .u32 (((s.e.toNat : Int) + (q.e.toNat : Int)) % 4294967296), .int .u32 (((s.f.toNat : Int) + (q.f.toNat : Int)) % 4294967296), .int .u32 (((s.g.toNat : Int) + (q.g.toNat : Int)) % 4294967296), .int .u32 (((s.h.toNat : Int) + (q.h.toNat : Int)) % 4294967296)] = rowS (Sha.plus s q) := by
  simp only [w_add]; rfl
set_option maxRecDepth 5000 in
theorem rnd_a (q : Sha.St) (k w : BitVec 32) : (((q.h.toNat : Int) + bits .xor .u32 (bits .xor .u32 (Sha.rotr q.e 6).toNat (Sha.rotr q.e 11).toNat) (Sha.rotr q.e 25).toNat
      + bits .xor .u32 (bits .and .u32 q.e.toNat q.f.toNat) (bits .and .u32 (bits .xor .u32 IntKind.u32.max q.e.toNat) q.g.toNat) + k.toNat + w.toNat
      + bits .xor .u32 (bits .xor .u32 (Sha.rotr q.a 2).toNat (Sha.rotr q.a 13).toNat) (Sha.rotr q.a 22).toNat) % 4294967296
      + bits .xor .u32 (bits .xor .u32 (bits .and .u32 q.a.toNat q.b.toNat) (bits .and .u32 q.a.toNat q.c.toNat)) (bits .and .u32 q.b.toNat q.c.toNat)) % 4294967296 = ((Sha.rnd q k w).a.toNat : Int) := by
  rw [show IntKind.u32.max = 4294967295 from rfl]
  simp only [w_xor, w_and, w_not, Sha.rnd, Sha.t1, Sha.e1, Sha.e0, Sha.ch, Sha.maj, ← w_add]
  omega
set_option maxRecDepth 5000 in
theorem rnd_e (q : Sha.St) (k w : BitVec 32) : ((q.d.toNat : Int) + ((q.h.toNat : Int) + bits .xor .u32 (bits .xor .u32 (Sha.rotr q.e 6).toNat (Sha.rotr q.e 11).toNat) (Sha.rotr q.e 25).toNat
      + bits .xor .u32 (bits .and .u32 q.e.toNat q.f.toNat) (bits .and .u32 (bits .xor .u32 IntKind.u32.max q.e.toNat) q.g.toNat) + k.toNat + w.toNat) % 4294967296) % 4294967296 = ((Sha.rnd q k w).e.toNat : Int) := by
  rw [show IntKind.u32.max = 4294967295 from rfl]
  simp only [w_xor, w_and, w_not, Sha.rnd, Sha.t1, Sha.e1, Sha.ch, ← w_add]
  omega
set_option maxRecDepth 3000 in
set_option maxHeartbeats 400000 in
theorem comp_any (s : Sha.St) (p : Nat → BitVec 8) (b o n cap : Nat) (w : World) (hn : 64 ≤ n) (hm : n ≤ 9223372036854775807) (hb : b < w.heap.size)
    (hc : ∀ j, j < 64 → w.cell? ⟨b, o + j, none⟩ = some (.int .u8 (p j).toNat)) (hT : Tab w) :
    Calls Tryd.prog 32 #[.agg (rowS s), .slice (some ⟨b, o, none⟩) n cap] w fun e w' => e = .returned (.agg (rowS (Sha.comp s (Sha.mw p 0)))) ∧ Below w.heap.size w w' := by
  have hT0 := hT.1
  go_enter Tryd.func32, Tryd.ntmps32
  go_wp2_with fail
  refine (sched_any p b o n cap _ hn hm (by simp; omega) (fun j hj => ((((Below.refl w.heap.size w).alloc (Nat.le_refl _) _).alloc (by simp) _).cell (p := ⟨b, o + j, none⟩) hb).trans (hc j hj))).mono ?_
  rintro e w1 ⟨rfl, hB1⟩
  have hB1' : Below w.heap.size w w1 := (((Below.refl w.heap.size w).alloc (Nat.le_refl _) _).alloc (by simp) _).trans (hB1.mono (by simp; omega))
  have hS1 : RowAt w1 w.heap.size 52 (rowS s) := ((RowAt.new w 52 (rowS s)).alloc _).below hB1 (by simp; omega)
  have hR1 : RowAt w1 (w.heap.size + 1) 52 #[.int .u32 0, .int .u32 0, .int .u32 0, .int .u32 0, .int .u32 0, .int .u32 0, .int .u32 0, .int .u32 0] := by
    have := RowAt.new (w.alloc (.cells (rowS s) 52)) 52 #[.int .u32 0, .int .u32 0, .int .u32 0, .int .u32 0, .int .u32 0, .int .u32 0, .int .u32 0, .int .u32 0]
    have := this.below hB1 (by simp)
    simpa using this
  have hz1 : w.heap.size + 2 ≤ w1.heap.size := by have := hB1.size; simp at this; omega
  clear hB1 hc hb hn hm
  go_wp2_with (refine wpList_store_abs rfl 61 (.tmp 5) (.tmp 21) rfl w1.heap.size (rowW 64 (Sha.ws (Sha.mw p 0))) rfl rfl 61 _ (RowAt.new w1 61 _) (by rw [rowW_size]; exact info44) (by rw [rowW_size]; rfl) (rowW_one _ _) w1.heap.size (Nat.le_refl _) ?_; intro w2 hR2 hO2 hz2 hB2)
  have hS2 : RowAt w2 w.heap.size 52 (rowS s) := hO2 _ _ _ (by omega) (hS1.alloc _)
  have hQ2 : RowAt w2 (w.heap.size + 1) 52 _ := hO2 _ _ _ (by omega) (hR1.alloc _)
  have hB : Below w.heap.size w w2 := (hB1'.alloc (by omega) _).trans (hB2.mono (by omega))
  have hT2 := hT.below hB hT0
  clear hO2 hz2 hB2 hR1 hS1 hB1' hT
  have s0 : w2.cell? ⟨w.heap.size, 0, none⟩ = some (.int .u32 s.a.toNat) := hS2.cell 0
  have s1 : w2.cell? ⟨w.heap.size, 1, none⟩ = some (.int .u32 s.b.toNat) := hS2.cell 1
  have s2 : w2.cell? ⟨w.heap.size, 2, none⟩ = some (.int .u32 s.c.toNat) := hS2.cell 2
  have s3 : w2.cell? ⟨w.heap.size, 3, none⟩ = some (.int .u32 s.d.toNat) := hS2.cell 3
  have s4 : w2.cell? ⟨w.heap.size, 4, none⟩ = some (.int .u32 s.e.toNat) := hS2.cell 4
  have s5 : w2.cell? ⟨w.heap.size, 5, none⟩ = some (.int .u32 s.f.toNat) := hS2.cell 5
  have s6 : w2.cell? ⟨w.heap.size, 6, none⟩ = some (.int .u32 s.g.toNat) := hS2.cell 6
  have s7 : w2.cell? ⟨w.heap.size, 7, none⟩ = some (.int .u32 s.h.toNat) := hS2.cell 7
  go_frame
  go_quiet (fail)
  go_wp2
  go_quiet (fail)
  go_wp2
  go_loopw [6, 7, 8, 9, 10, 11, 12, 13, 38] (fun a b c d e f g h i wr => ∃ k m : Nat, k ≤ 64 ∧ i = .int .i64 k ∧ wr = w2.drewN m ∧ ∃ q : Sha.St, Hid (q = Sha.rnds (Sha.ws (Sha.mw p 0)) s k) ∧ a = .int .u32 q.a.toNat ∧ b = .int .u32 q.b.toNat ∧ c = .int .u32 q.c.toNat ∧ d = .int .u32 q.d.toNat ∧ e = .int .u32 q.e.toNat ∧ f = .int .u32 q.f.toNat ∧ g = .int .u32 q.g.toNat ∧ h = .int .u32 q.h.toNat) (fun _ _ _ _ _ _ _ _ i _ => 64 - (intOf i).toNat)
  case atStart => exact ⟨0, _, by omega, rfl, World.drewN_drewN _ _ _, s, rfl, rfl, rfl, rfl, rfl, rfl, rfl, rfl, rfl⟩
  case round =>
    obtain ⟨k, m, hk, rfl, rfl, q, HQ, rfl, rfl, rfl, rfl, rfl, rfl, rfl, rfl⟩ := hrel
    by_cases hlt : k < 64
    · have ck : w2.cell? ⟨0, k, none⟩ = some (.int .u32 (Sha.kt k).toNat) := hT2.2 k hlt
      have cw : w2.cell? ⟨w1.heap.size, k, none⟩ = some (.int .u32 (Sha.ws (Sha.mw p 0) k).toNat) := (hR2.cell k).trans (rowW_get _ _ _ hlt)
      clear hR2 hS2 hQ2 hB hT2 s0 s1 s2 s3 s4 s5 s6 s7
      go_wp2_with (go_at_call 44; refine (rot_any _ _ _ (by decide)).mono ?_; rintro e w' ⟨rfl, rfl⟩)
      go_quiet (fail)
      go_wp2_with (go_at_call 44; refine (rot_any _ _ _ (by decide)).mono ?_; rintro e w' ⟨rfl, rfl⟩)
      go_roundw
      case rel =>
        refine ⟨k + 1, _, by omega, by go_num, rfl, Sha.rnd q (Sha.kt k) (Sha.ws (Sha.mw p 0) k), by rw [HQ.out]; rfl, ?_, ?_, ?_, ?_, ?_, ?_, ?_, ?_⟩
        · exact congrArg (Value.int .u32) (rnd_a q _ _)
        · rfl
        · rfl
        · rfl
        · exact congrArg (Value.int .u32) (rnd_e q _ _)
        · rfl
        · rfl
        · rfl
      case measure => simp [intOf]; omega
    · have e : k = 64 := by omega
      have hq : q = Sha.rnds (Sha.ws (Sha.mw p 0)) s 64 := by rw [← e]; exact HQ.out
      have HC : Hid (Sha.plus s q = Sha.comp s (Sha.mw p 0)) := by rw [hq]; rfl
      clear HQ hR2 hS2 hT2 hq e
      go_wp2_with (refine wpList_store_rowAt rfl 52 (.tmp 4) (.tmp 136) rfl (w.heap.size + 1) #[.int .u32 (((s.a.toNat : Int) + (q.a.toNat : Int)) % 4294967296), .int .u32 (((s.b.toNat : Int) + (q.b.toNat : Int)) % 4294967296), .int .u32 (((s.c.toNat : Int) + (q.c.toNat : Int)) % 4294967296), .int .u32 (((s.d.toNat : Int) + (q.d.toNat : Int)) % 4294967296), .int .u32 (((s.e.toNat : Int) + (q.e.toNat : Int)) % 4294967296), .int .u32 (((s.f.toNat : Int) + (q.f.toNat : Int)) % 4294967296), .int .u32 (((s.g.toNat : Int) + (q.g.toNat : Int)) % 4294967296), .int .u32 (((s.h.toNat : Int) + (q.h.toNat : Int)) % 4294967296)] rfl rfl 52 _ (hQ2.drewN m) info37 rfl (by kernel_rfl) ?_)
      rw [rowS_plus, HC.out]
      exact bodyPost_ret (v := .agg (rowS (Sha.comp s (Sha.mw p 0)))) (results_rowAt Tryd.results32 _ _ (w.heap.size + 1) 52 _ _ rfl (setRow_same (hQ2.drewN m) _) Tryd.underlying52 rfl info37) rfl ⟨rfl, below_setRow (below_drewN hB m) (by omega) _⟩
end H
end Go.Proofs.YtgmjppmcfmcmkaaDoor
