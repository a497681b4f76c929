/- signethelp.Bytes of the same bytes; whole rows of eight bytes, loaded and held against one another where a region draws. -/
import Derived.Test.YtpiehjfoojipiaaDoorROpn
import Derived.Test.YtpiehjfoojipiaaDoorEql
import Derived.Laws.IdiomStrings
import Derived.Laws.BytesArg
namespace Go.Proofs.YtpiehjfoojipiaaDoor
open Go.RowKit
def ub (l : List (BitVec 8)) : List UInt8 := l.map UInt8.ofBitVec
set_option maxRecDepth 5000 in
theorem run_str {W : World} {ao : Option Addr} {l : List (BitVec 8)} (n cap : Nat) (hs : SlL W ao l) (hl : l.length = n) : (convert 34 9 (.slice ao n cap)).run Tryd.prog W = .ok (.string ⟨(ub l).toArray⟩) W := by
  subst hl
  have hul : (ub l).length = l.length := by simp [ub]
  cases ao with
  | none =>
    have h0 : l = [] := by
      rcases Nat.eq_zero_or_pos l.length with h | h
      · exact List.eq_nil_of_length_eq_zero h
      · obtain ⟨b, o, e, _⟩ := hs h; cases e
    subst h0
    exact run_convert_bytes_nil W 34 5 Tryd.underlying34 Tryd.underlying5 0 cap 9 Tryd.underlying9
  | some a =>
    rw [← hul]
    refine run_convert_bytes_back W 34 9 5 a cap (ub l) Tryd.underlying34 Tryd.underlying5 Tryd.underlying9 ?_
    intro j hj
    rw [hul] at hj
    obtain ⟨b, o, e, _, hc⟩ := hs (by omega)
    cases e
    rw [Addr.add_mid, hc j hj]
    simp [ub, hj]
set_option maxRecDepth 3000 in
theorem bytes_same (l : List (BitVec 8)) (ao ao' : Option Addr) (n n' c c' : Nat) (w : World) (hs : SlL w ao l) (hs' : SlL w ao' l) (hl : Hid (l.length = n)) (hl' : Hid (l.length = n')) :
    Calls Tryd.prog 19 #[.slice ao n c, .slice ao' n' c'] w fun e w' => e = .returned (.bool true) ∧ w' = w := by
  have h1 := run_str n c hs hl.out
  have h2 := run_str n' c' hs' hl'.out
  clear hs hs'
  go_enter Tryd.func19, Tryd.ntmps19
  go_wp2
  go_ret
  exact ⟨by simp, rfl⟩
set_option maxRecDepth 5000 in
theorem lit8 (F : Nat → BitVec 8) : #[.int .u8 (F 0).toNat, .int .u8 (F 1).toNat, .int .u8 (F 2).toNat, .int .u8 (F 3).toNat, .int .u8 (F 4).toNat, .int .u8 (F 5).toNat, .int .u8 (F 6).toNat, .int .u8 (F 7).toNat] = rowB 8 F := by kernel_rfl
set_option maxRecDepth 5000 in
theorem run_eq8 (F : Nat → BitVec 8) (w : World) : (Op.equalIn 10000 22 (.agg #[.int .u8 (F 0).toNat, .int .u8 (F 1).toNat, .int .u8 (F 2).toNat, .int .u8 (F 3).toNat, .int .u8 (F 4).toNat, .int .u8 (F 5).toNat, .int .u8 (F 6).toNat, .int .u8 (F 7).toNat]) (.agg (rowB 8 F))).run Tryd.prog w = .ok true w := by rw [lit8]; exact run_eqB_same Tryd.underlying22 F w
set_option maxRecDepth 5000 in
theorem run_eq8l (F : Nat → BitVec 8) (w : World) : (Op.equalIn 10000 22 (.agg #[.int .u8 (F 0).toNat, .int .u8 (F 1).toNat, .int .u8 (F 2).toNat, .int .u8 (F 3).toNat, .int .u8 (F 4).toNat, .int .u8 (F 5).toNat, .int .u8 (F 6).toNat, .int .u8 (F 7).toNat]) (.agg #[.int .u8 (F 0).toNat, .int .u8 (F 1).toNat, .int .u8 (F 2).toNat, .int .u8 (F 3).toNat, .int .u8 (F 4).toNat, .int .u8 (F 5).toNat, .int .u8 (F 6).toNat, .int .u8 (F 7).toNat])).run Tryd.prog w = .ok true w := by rw [lit8]; exact run_eqB_same Tryd.underlying22 F w
set_option maxRecDepth 5000 in
theorem run_cmp8 (F G : Nat → BitVec 8) (w : World) : (Op.equalIn 10000 22 (.agg (rowB 8 F)) (.agg (rowB 8 G))).run Tryd.prog w = .ok (decide (∀ j ∈ List.range 8, F j = G j)) w := run_eqB Tryd.underlying22 F G w
set_option maxRecDepth 5000 in
theorem public_lit (F : Nat → BitVec 8) (leaf : Nat) (w : World) (hleaf : leaf < 4294967296) (hT : Tab w) :
    Calls Tryd.prog 38 #[.agg #[.int .u8 (F 0).toNat, .int .u8 (F 1).toNat, .int .u8 (F 2).toNat, .int .u8 (F 3).toNat, .int .u8 (F 4).toNat, .int .u8 (F 5).toNat, .int .u8 (F 6).toNat, .int .u8 (F 7).toNat], .int .u32 (leaf : Int)] w fun e w' => e = .returned (.agg (rowB 8 (O.pub F leaf))) ∧ Below w.heap.size w w' := by rw [lit8]; exact public_any F leaf w hleaf hT
set_option maxRecDepth 5000 in
theorem rpublic_lit (F : Nat → BitVec 8) (leaf : Nat) (w : World) (hleaf : leaf < 4294967296) :
    Calls Tryd.prog 36 #[.agg #[.int .u8 (F 0).toNat, .int .u8 (F 1).toNat, .int .u8 (F 2).toNat, .int .u8 (F 3).toNat, .int .u8 (F 4).toNat, .int .u8 (F 5).toNat, .int .u8 (F 6).toNat, .int .u8 (F 7).toNat], .int .u32 (leaf : Int)] w fun e w' => e = .returned (.agg (rowB 8 (O.pub F leaf))) ∧ Below w.heap.size w w' := by rw [lit8]; exact rpublic_any F leaf w hleaf
set_option maxRecDepth 5000 in
theorem rsign_lit (F : Nat → BitVec 8) (leaf : Nat) (m : List (BitVec 8)) (ao : Option Addr) (n cap : Nat) (w : World) (hl : Hid (m.length = n)) (hs : SlL w ao m) (hnil : ao = none → cap = 0) (hn : n < 1000000000) (hleaf : leaf < 4294967296) :
    Calls Tryd.prog 20 #[.agg #[.int .u8 (F 0).toNat, .int .u8 (F 1).toNat, .int .u8 (F 2).toNat, .int .u8 (F 3).toNat, .int .u8 (F 4).toNat, .int .u8 (F 5).toNat, .int .u8 (F 6).toNat, .int .u8 (F 7).toNat], .int .u32 (leaf : Int), .slice ao n cap] w fun e w' => ∃ v, e = .returned v ∧ Made w w' v (O.sigL F leaf (O.dig m) 32) ∧ Below w.heap.size w w' := by rw [lit8]; exact rsign_any F leaf m ao n cap w hl hs hnil hn hleaf
/- two rows of eight bytes that are kept -/
structure KS (F G : Nat → BitVec 8) (a b : Nat) (w w' : World) : Prop where
  below : Below w.heap.size w w'
  fst : RowAt w' a 22 (rowB 8 F)
  snd : RowAt w' b 22 (rowB 8 G)
set_option maxRecDepth 5000 in
theorem KS.drew {F G : Nat → BitVec 8} {a b : Nat} {w w' : World} (h : KS F G a b w w') : KS F G a b w w'.drew := ⟨h.below.drew, h.fst, h.snd⟩
set_option maxRecDepth 5000 in
theorem KS.alloc {F G : Nat → BitVec 8} {a b : Nat} {w w' : World} (h : KS F G a b w w') (o : Obj) : KS F G a b w (w'.alloc o) := ⟨h.below.alloc h.below.size _, h.fst.alloc _, h.snd.alloc _⟩
set_option maxRecDepth 5000 in
theorem KS.called {F G : Nat → BitVec 8} {a b : Nat} {w w' w2 : World} (h : KS F G a b w w') (hb : Below w'.heap.size w' w2) : KS F G a b w w2 := ⟨h.below.trans (hb.mono h.below.size), h.fst.below hb h.fst.lt, h.snd.below hb h.snd.lt⟩
set_option maxRecDepth 5000 in
theorem KS.loads {F G : Nat → BitVec 8} {a b : Nat} {w w' : World} (h : KS F G a b w w') : KS F G a b w w' ∧ w'.cell? ⟨a, 0, none⟩ = some (.int .u8 (F 0).toNat) ∧ w'.cell? ⟨a, 1, none⟩ = some (.int .u8 (F 1).toNat) ∧ w'.cell? ⟨a, 2, none⟩ = some (.int .u8 (F 2).toNat) ∧ w'.cell? ⟨a, 3, none⟩ = some (.int .u8 (F 3).toNat) ∧ w'.cell? ⟨a, 4, none⟩ = some (.int .u8 (F 4).toNat) ∧ w'.cell? ⟨a, 5, none⟩ = some (.int .u8 (F 5).toNat) ∧ w'.cell? ⟨a, 6, none⟩ = some (.int .u8 (F 6).toNat) ∧ w'.cell? ⟨a, 7, none⟩ = some (.int .u8 (F 7).toNat) ∧ w'.cell? ⟨b, 0, none⟩ = some (.int .u8 (G 0).toNat) ∧ w'.cell? ⟨b, 1, none⟩ = some (.int .u8 (G 1).toNat) ∧ w'.cell? ⟨b, 2, none⟩ = some (.int .u8 (G 2).toNat) ∧ w'.cell? ⟨b, 3, none⟩ = some (.int .u8 (G 3).toNat) ∧ w'.cell? ⟨b, 4, none⟩ = some (.int .u8 (G 4).toNat) ∧ w'.cell? ⟨b, 5, none⟩ = some (.int .u8 (G 5).toNat) ∧ w'.cell? ⟨b, 6, none⟩ = some (.int .u8 (G 6).toNat) ∧ w'.cell? ⟨b, 7, none⟩ = some (.int .u8 (G 7).toNat) := by
  obtain ⟨p0, p1, p2, p3, p4, p5, p6, p7⟩ := cells8 h.fst
  obtain ⟨q0, q1, q2, q3, q4, q5, q6, q7⟩ := cells8 h.snd
  exact ⟨h, p0, p1, p2, p3, p4, p5, p6, p7, q0, q1, q2, q3, q4, q5, q6, q7⟩
set_option maxRecDepth 5000 in
theorem Made.at512 {w w' : World} {v : Value} {l : List (BitVec 8)} (h : Made w w' v l) (hl : l.length = 512) : ∃ g c, v = .slice (some ⟨g, 0, none⟩) 512 c ∧ w.heap.size ≤ g ∧ 512 ≤ c ∧ SlL w' (some ⟨g, 0, none⟩) l := by
  obtain ⟨g, c, h1, h2, h3, h4⟩ := h
  rw [hl] at h1 h3
  exact ⟨g, c, h1, h2, h3, h4⟩
end Go.Proofs.YtpiehjfoojipiaaDoor
