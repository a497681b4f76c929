/- wire.sets of records of type 99 and class 1. -/
import Derived.Test.YtpgebiopckmgbabGreatTog
namespace Go.Proofs.YtpgebiopckmgbabGreat
open Go.RowKit
set_option maxRecDepth 5000 in
theorem get0 {α : Type} (x0 : α) (l : List α) : (List.toArray (x0 :: l))[0]? = some x0 := rfl
set_option maxRecDepth 5000 in
theorem get1 {α : Type} (x0 x1 : α) (l : List α) : (List.toArray (x0 :: x1 :: l))[1]? = some x1 := rfl
set_option maxRecDepth 5000 in
theorem get2 {α : Type} (x0 x1 x2 : α) (l : List α) : (List.toArray (x0 :: x1 :: x2 :: l))[2]? = some x2 := rfl
set_option maxRecDepth 5000 in
theorem get3 {α : Type} (x0 x1 x2 x3 : α) (l : List α) : (List.toArray (x0 :: x1 :: x2 :: x3 :: l))[3]? = some x3 := rfl
set_option maxRecDepth 5000 in
theorem get4 {α : Type} (x0 x1 x2 x3 x4 : α) (l : List α) : (List.toArray (x0 :: x1 :: x2 :: x3 :: x4 :: l))[4]? = some x4 := rfl
set_option maxRecDepth 5000 in
theorem get5 {α : Type} (x0 x1 x2 x3 x4 x5 : α) (l : List α) : (List.toArray (x0 :: x1 :: x2 :: x3 :: x4 :: x5 :: l))[5]? = some x5 := rfl
set_option maxRecDepth 5000 in
theorem get6 {α : Type} (x0 x1 x2 x3 x4 x5 x6 : α) (l : List α) : (List.toArray (x0 :: x1 :: x2 :: x3 :: x4 :: x5 :: x6 :: l))[6]? = some x6 := rfl
set_option maxRecDepth 5000 in
theorem get7 {α : Type} (x0 x1 x2 x3 x4 x5 x6 x7 : α) (l : List α) : (List.toArray (x0 :: x1 :: x2 :: x3 :: x4 :: x5 :: x6 :: x7 :: l))[7]? = some x7 := rfl
set_option maxRecDepth 5000 in
theorem get8 {α : Type} (x0 x1 x2 x3 x4 x5 x6 x7 x8 : α) (l : List α) : (List.toArray (x0 :: x1 :: x2 :: x3 :: x4 :: x5 :: x6 :: x7 :: x8 :: l))[8]? = some x8 := rfl
set_option maxRecDepth 5000 in
theorem get9 {α : Type} (x0 x1 x2 x3 x4 x5 x6 x7 x8 x9 : α) (l : List α) : (List.toArray (x0 :: x1 :: x2 :: x3 :: x4 :: x5 :: x6 :: x7 :: x8 :: x9 :: l))[9]? = some x9 := rfl
set_option maxRecDepth 5000 in
theorem get10 {α : Type} (x0 x1 x2 x3 x4 x5 x6 x7 x8 x9 x10 : α) (l : List α) : (List.toArray (x0 :: x1 :: x2 :: x3 :: x4 :: x5 :: x6 :: x7 :: x8 :: x9 :: x10 :: l))[10]? = some x10 := rfl
set_option maxRecDepth 5000 in
theorem get11 {α : Type} (x0 x1 x2 x3 x4 x5 x6 x7 x8 x9 x10 x11 : α) (l : List α) : (List.toArray (x0 :: x1 :: x2 :: x3 :: x4 :: x5 :: x6 :: x7 :: x8 :: x9 :: x10 :: x11 :: l))[11]? = some x11 := rfl
set_option maxRecDepth 5000 in
theorem get12 {α : Type} (x0 x1 x2 x3 x4 x5 x6 x7 x8 x9 x10 x11 x12 : α) (l : List α) : (List.toArray (x0 :: x1 :: x2 :: x3 :: x4 :: x5 :: x6 :: x7 :: x8 :: x9 :: x10 :: x11 :: x12 :: l))[12]? = some x12 := rfl
set_option maxRecDepth 5000 in
theorem get13 {α : Type} (x0 x1 x2 x3 x4 x5 x6 x7 x8 x9 x10 x11 x12 x13 : α) (l : List α) : (List.toArray (x0 :: x1 :: x2 :: x3 :: x4 :: x5 :: x6 :: x7 :: x8 :: x9 :: x10 :: x11 :: x12 :: x13 :: l))[13]? = some x13 := rfl
set_option maxRecDepth 5000 in
theorem get14 {α : Type} (x0 x1 x2 x3 x4 x5 x6 x7 x8 x9 x10 x11 x12 x13 x14 : α) (l : List α) : (List.toArray (x0 :: x1 :: x2 :: x3 :: x4 :: x5 :: x6 :: x7 :: x8 :: x9 :: x10 :: x11 :: x12 :: x13 :: x14 :: l))[14]? = some x14 := rfl
set_option maxRecDepth 5000 in
theorem get15 {α : Type} (x0 x1 x2 x3 x4 x5 x6 x7 x8 x9 x10 x11 x12 x13 x14 x15 : α) (l : List α) : (List.toArray (x0 :: x1 :: x2 :: x3 :: x4 :: x5 :: x6 :: x7 :: x8 :: x9 :: x10 :: x11 :: x12 :: x13 :: x14 :: x15 :: l))[15]? = some x15 := rfl
set_option maxRecDepth 5000 in
theorem get16 {α : Type} (x0 x1 x2 x3 x4 x5 x6 x7 x8 x9 x10 x11 x12 x13 x14 x15 x16 : α) (l : List α) : (List.toArray (x0 :: x1 :: x2 :: x3 :: x4 :: x5 :: x6 :: x7 :: x8 :: x9 :: x10 :: x11 :: x12 :: x13 :: x14 :: x15 :: x16 :: l))[16]? = some x16 := rfl
set_option maxRecDepth 5000 in
theorem get17 {α : Type} (x0 x1 x2 x3 x4 x5 x6 x7 x8 x9 x10 x11 x12 x13 x14 x15 x16 x17 : α) (l : List α) : (List.toArray (x0 :: x1 :: x2 :: x3 :: x4 :: x5 :: x6 :: x7 :: x8 :: x9 :: x10 :: x11 :: x12 :: x13 :: x14 :: x15 :: x16 :: x17 :: l))[17]? = some x17 := rfl
set_option maxRecDepth 5000 in
theorem get18 {α : Type} (x0 x1 x2 x3 x4 x5 x6 x7 x8 x9 x10 x11 x12 x13 x14 x15 x16 x17 x18 : α) (l : List α) : (List.toArray (x0 :: x1 :: x2 :: x3 :: x4 :: x5 :: x6 :: x7 :: x8 :: x9 :: x10 :: x11 :: x12 :: x13 :: x14 :: x15 :: x16 :: x17 :: x18 :: l))[18]? = some x18 := rfl
set_option maxRecDepth 5000 in
theorem get19 {α : Type} (x0 x1 x2 x3 x4 x5 x6 x7 x8 x9 x10 x11 x12 x13 x14 x15 x16 x17 x18 x19 : α) (l : List α) : (List.toArray (x0 :: x1 :: x2 :: x3 :: x4 :: x5 :: x6 :: x7 :: x8 :: x9 :: x10 :: x11 :: x12 :: x13 :: x14 :: x15 :: x16 :: x17 :: x18 :: x19 :: l))[19]? = some x19 := rfl
def M.nmAt (l : List M.R) (c : Nat) : List (List UInt8) := (l.getD c ⟨[], 0, 0, 0, []⟩).name
/- how many of the first records lie in whole sets -/
def M.keep (l : List M.R) : Nat → Nat
  | 0 => 0
  | c + 1 => if c + 1 < l.length ∧ N.same (M.nmAt l c) (M.nmAt l (c + 1)) = true then M.keep l c else c + 1
set_option maxRecDepth 5000 in
theorem M.keep_le (l : List M.R) : ∀ c, M.keep l c ≤ c
  | 0 => Nat.le_refl _
  | c + 1 => by
    unfold M.keep
    split
    · exact Nat.le_succ_of_le (M.keep_le l c)
    · exact Nat.le_refl _
set_option maxRecDepth 5000 in
theorem M.nmAt_map {l : List RX} {c : Nat} {x : RX} (h : l[c]? = some x) : M.nmAt (l.map (·.r)) c = x.r.name := by
  simp [M.nmAt, h]
set_option maxRecDepth 3000 in
set_option maxHeartbeats 2000000 in
theorem sets_99 (l : List RX) (ao : Option Addr) (n c : Nat) (w : World) (hn : Hid (l.length = n)) (hs : SlR w ao l) (hnil : ao = none → c = 0) (hc : n ≤ c) (hl : n ≤ 100) (h99 : ∀ x ∈ l, x.r.type = 99 ∧ x.r.cls = 1 ∧ x.r.name.length ≤ 1000 ∧ Sane x.r.name)
    (m k : Nat) (hmn : m ≤ n) (hk : Hid (M.keep (l.map (·.r)) m = k)) :
    Calls Tryz.prog 40 #[.slice ao n c, .int .i64 (m : Int)] w fun e w' => e = .returned (.slice ao k c) ∧ Below w.heap.size w w' := by
  have HS := hide hs
  have H99 := hide h99
  have e1 : ¬ (m : Int) < 0 := by omega
  have e2 : ¬ (n : Int) < (m : Int) := by omega
  have HNI := hide hnil
  clear hs h99 hnil
  go_enter Tryz.func40, Tryz.ntmps40
  go_wp2
  go_loopw [1] (fun u wx => ∃ j : Nat, u = .int .i64 (j : Int) ∧ j ≤ m ∧ Hid (M.keep (l.map (·.r)) j = k) ∧ Hid (Below w.heap.size w wx)) (fun u _ => (intOf u).toNat)
  case atStart => exact ⟨m, rfl, by omega, hk, hide (Below.refl _ _)⟩
  case round =>
    obtain ⟨j, rfl, hj, HK, HB⟩ := hrel
    rcases Nat.eq_zero_or_pos j with h0 | h0
    · subst h0
      have hk0 : k = 0 := HK.out.symm
      subst hk0
      go_wp2
      refine wp_region_held_drew (S := fun _ => True) (by kernel_rfl) trivial (fun hHeld => ?_)
      refine wpAnyH_take (i := 0) (v := ?v0) (get0 _ _) (by kernel_rfl) (by kernel_rfl) (by kernel_rfl) (fun _ _ _ h => h) (Or.inl ⟨by rfl, ?hy0⟩) (by assumption) ?rest0
      case hy0 => (intro w0 hSw; (try dsimp only at hSw); go_simp; try (with_reducible rfl))
      case' rest0 => try simp only [Act.put, List.setIfInBounds_toArray, List.set_cons_zero, List.set_cons_succ]
      refine wpAnyH_take (i := 1) (v := ?v1) (get1 _ _ _) (by kernel_rfl) (by kernel_rfl) (by kernel_rfl) (fun _ _ _ h => h) (Or.inl ⟨by rfl, ?hy1⟩) (by assumption) ?rest1
      case hy1 => (intro w0 hSw; (try dsimp only at hSw); go_simp; try (with_reducible rfl))
      case' rest1 => try simp only [Act.put, List.setIfInBounds_toArray, List.set_cons_zero, List.set_cons_succ]
      refine wpAnyH_take (i := 2) (v := ?v2) (get2 _ _ _ _) (by kernel_rfl) (by kernel_rfl) (by kernel_rfl) (fun _ _ _ h => h) (Or.inl ⟨by rfl, ?hy2⟩) (by assumption) ?rest2
      case hy2 => (intro w0 hSw; (try dsimp only at hSw); go_simp; try (with_reducible rfl))
      case' rest2 => try simp only [Act.put, List.setIfInBounds_toArray, List.set_cons_zero, List.set_cons_succ]
      refine wpAnyH_take (i := 3) (v := undef) (get3 _ _ _ _ _) (by kernel_rfl) (by kernel_rfl) (by kernel_rfl) (fun _ _ _ h => h) (Or.inr ⟨by rfl, rfl⟩) (by assumption) ?rest3
      case' rest3 => try simp only [Act.put, List.setIfInBounds_toArray, List.set_cons_zero, List.set_cons_succ]
      refine wpAnyH_take (i := 4) (v := undef) (get4 _ _ _ _ _ _) (by kernel_rfl) (by kernel_rfl) (by kernel_rfl) (fun _ _ _ h => h) (Or.inr ⟨by rfl, rfl⟩) (by assumption) ?rest4
      case' rest4 => try simp only [Act.put, List.setIfInBounds_toArray, List.set_cons_zero, List.set_cons_succ]
      refine wpAnyH_take (i := 5) (v := undef) (get5 _ _ _ _ _ _ _) (by kernel_rfl) (by kernel_rfl) (by kernel_rfl) (fun _ _ _ h => h) (Or.inr ⟨by rfl, rfl⟩) (by assumption) ?rest5
      case' rest5 => try simp only [Act.put, List.setIfInBounds_toArray, List.set_cons_zero, List.set_cons_succ]
      refine wpAnyH_take (i := 6) (v := undef) (get6 _ _ _ _ _ _ _ _) (by kernel_rfl) (by kernel_rfl) (by kernel_rfl) (fun _ _ _ h => h) (Or.inr ⟨by rfl, rfl⟩) (by assumption) ?rest6
      case' rest6 => try simp only [Act.put, List.setIfInBounds_toArray, List.set_cons_zero, List.set_cons_succ]
      refine wpAnyH_take (i := 7) (v := ?v7) (get7 _ _ _ _ _ _ _ _ _) (by kernel_rfl) (by kernel_rfl) (by kernel_rfl) (fun _ _ _ h => h) (Or.inl ⟨by rfl, ?hy7⟩) (by assumption) ?rest7
      case hy7 => (intro w0 hSw; (try dsimp only at hSw); go_simp; try (with_reducible rfl))
      case' rest7 => try simp only [Act.put, List.setIfInBounds_toArray, List.set_cons_zero, List.set_cons_succ]
      refine wpAnyH_take (i := 8) (v := ?v8) (get8 _ _ _ _ _ _ _ _ _ _) (by kernel_rfl) (by kernel_rfl) (by kernel_rfl) (fun _ _ _ h => h) (Or.inl ⟨by rfl, ?hy8⟩) (by assumption) ?rest8
      case hy8 => (intro w0 hSw; (try dsimp only at hSw); go_simp; try (with_reducible rfl))
      case' rest8 => try simp only [Act.put, List.setIfInBounds_toArray, List.set_cons_zero, List.set_cons_succ]
      refine wpAnyH_take (i := 9) (v := undef) (get9 _ _ _ _ _ _ _ _ _ _ _) (by kernel_rfl) (by kernel_rfl) (by kernel_rfl) (fun _ _ _ h => h) (Or.inr ⟨by rfl, rfl⟩) (by assumption) ?rest9
      case' rest9 => try simp only [Act.put, List.setIfInBounds_toArray, List.set_cons_zero, List.set_cons_succ]
      refine wpAnyH_take (i := 10) (v := undef) (get10 _ _ _ _ _ _ _ _ _ _ _ _) (by kernel_rfl) (by kernel_rfl) (by kernel_rfl) (fun _ _ _ h => h) (Or.inr ⟨by rfl, rfl⟩) (by assumption) ?rest10
      case' rest10 => try simp only [Act.put, List.setIfInBounds_toArray, List.set_cons_zero, List.set_cons_succ]
      refine wpAnyH_take (i := 11) (v := undef) (get11 _ _ _ _ _ _ _ _ _ _ _ _ _) (by kernel_rfl) (by kernel_rfl) (by kernel_rfl) (fun _ _ _ h => h) (Or.inr ⟨by rfl, rfl⟩) (by assumption) ?rest11
      case' rest11 => try simp only [Act.put, List.setIfInBounds_toArray, List.set_cons_zero, List.set_cons_succ]
      refine wpAnyH_take (i := 12) (v := undef) (get12 _ _ _ _ _ _ _ _ _ _ _ _ _ _) (by kernel_rfl) (by kernel_rfl) (by kernel_rfl) (fun _ _ _ h => h) (Or.inr ⟨by rfl, rfl⟩) (by assumption) ?rest12
      case' rest12 => try simp only [Act.put, List.setIfInBounds_toArray, List.set_cons_zero, List.set_cons_succ]
      refine wpAnyH_take (i := 13) (v := undef) (get13 _ _ _ _ _ _ _ _ _ _ _ _ _ _ _) (by kernel_rfl) (by kernel_rfl) (by kernel_rfl) (fun _ _ _ h => h) (Or.inr ⟨by rfl, rfl⟩) (by assumption) ?rest13
      case' rest13 => try simp only [Act.put, List.setIfInBounds_toArray, List.set_cons_zero, List.set_cons_succ]
      refine wpAnyH_take (i := 14) (v := undef) (get14 _ _ _ _ _ _ _ _ _ _ _ _ _ _ _ _) (by kernel_rfl) (by kernel_rfl) (by kernel_rfl) (fun _ _ _ h => h) (Or.inr ⟨by rfl, rfl⟩) (by assumption) ?rest14
      case' rest14 => try simp only [Act.put, List.setIfInBounds_toArray, List.set_cons_zero, List.set_cons_succ]
      refine wpAnyH_take (i := 15) (v := undef) (get15 _ _ _ _ _ _ _ _ _ _ _ _ _ _ _ _ _) (by kernel_rfl) (by kernel_rfl) (by kernel_rfl) (fun _ _ _ h => h) (Or.inr ⟨by rfl, rfl⟩) (by assumption) ?rest15
      case' rest15 => try simp only [Act.put, List.setIfInBounds_toArray, List.set_cons_zero, List.set_cons_succ]
      refine wpAnyH_take (i := 16) (v := undef) (get16 _ _ _ _ _ _ _ _ _ _ _ _ _ _ _ _ _ _) (by kernel_rfl) (by kernel_rfl) (by kernel_rfl) (fun _ _ _ h => h) (Or.inr ⟨by rfl, rfl⟩) (by assumption) ?rest16
      case' rest16 => try simp only [Act.put, List.setIfInBounds_toArray, List.set_cons_zero, List.set_cons_succ]
      refine wpAnyH_take (i := 17) (v := undef) (get17 _ _ _ _ _ _ _ _ _ _ _ _ _ _ _ _ _ _ _) (by kernel_rfl) (by kernel_rfl) (by kernel_rfl) (fun _ _ _ h => h) (Or.inr ⟨by rfl, rfl⟩) (by assumption) ?rest17
      case' rest17 => try simp only [Act.put, List.setIfInBounds_toArray, List.set_cons_zero, List.set_cons_succ]
      refine wpAnyH_take (i := 18) (v := undef) (get18 _ _ _ _ _ _ _ _ _ _ _ _ _ _ _ _ _ _ _ _) (by kernel_rfl) (by kernel_rfl) (by kernel_rfl) (fun _ _ _ h => h) (Or.inr ⟨by rfl, rfl⟩) (by assumption) ?rest18
      case' rest18 => try simp only [Act.put, List.setIfInBounds_toArray, List.set_cons_zero, List.set_cons_succ]
      refine wpAnyH_take (i := 19) (v := ?v19) (get19 _ _ _ _ _ _ _ _ _ _ _ _ _ _ _ _ _ _ _ _ _) (by kernel_rfl) (by kernel_rfl) (by kernel_rfl) (fun _ _ _ h => h) (Or.inl ⟨by rfl, ?hy19⟩) (by assumption) ?rest19
      case hy19 => (intro w0 hSw; (try dsimp only at hSw); go_simp; try (with_reducible rfl))
      case' rest19 => try simp only [Act.put, List.setIfInBounds_toArray, List.set_cons_zero, List.set_cons_succ]
      refine wpAnyH_done (by kernel_rfl) ?_ _
      go_wp2
      go_ret
      exact ⟨rfl, HB.out.drew⟩
    by_cases hjn : j < n
    · obtain ⟨d, hjd⟩ : ∃ d, j = d + 1 := ⟨j - 1, by omega⟩
      have hdl : j < l.length := by rw [hn.out]; exact hjn
      obtain ⟨x, hx⟩ : ∃ x, l[d]? = some x := ⟨l[d]'(by omega), List.getElem?_eq_getElem _⟩
      obtain ⟨y, hy⟩ : ∃ y, l[j]? = some y := ⟨l[j], by simp⟩
      have HKK : Hid ((if N.same x.r.name y.r.name = true then M.keep (l.map (·.r)) d else j) = k) := by
        have h := HK.out
        rw [hjd] at h
        unfold M.keep at h
        rw [← hjd, M.nmAt_map hx, M.nmAt_map hy] at h
        show _ = _
        rw [← h]
        simp [hdl]
      obtain ⟨g, o, rfl, hg, hcell⟩ := HS.out (by omega)
      have hbr := HB.out
      obtain ⟨x0, x1, x2, x3, x4, x5, _, _⟩ := hcell d x hx
      obtain ⟨x99, xcls, xlen, xsane⟩ := H99.out x (List.mem_of_getElem? hx)
      obtain ⟨xna, xnc, xda, xdc, xr⟩ := x
      simp only at x0 x1 x2 x3 x4 x5 x99 xcls xlen xsane
      rw [x99] at x1
      rw [xcls] at x2
      obtain ⟨pl, HpL⟩ : ∃ nl, Hid (xr.name.length = nl) := ⟨_, rfl⟩
      obtain ⟨pd, HpD⟩ : ∃ nl, Hid (xr.data.length = nl) := ⟨_, rfl⟩
      rw [HpL.out] at x0 xlen
      rw [HpD.out] at x4
      have zx0 : w.cell? ⟨g, o + d * 5, none⟩ = some (.slice xna pl xnc) := x0
      have zx1 : w.cell? ⟨g, o + d * 5 + 1, none⟩ = some (.int .u16 99) := x1
      have zx2 : w.cell? ⟨g, o + d * 5 + 2, none⟩ = some (.int .u16 1) := x2
      have zx3 : w.cell? ⟨g, o + d * 5 + 3, none⟩ = some (.int .u32 (xr.ttl : Int)) := x3
      have zx4 : w.cell? ⟨g, o + d * 5 + 4, none⟩ = some (.slice xda pd xdc) := x4
      have Hx5 := hide x5
      have HxS := hide xsane
      clear x0 x1 x2 x3 x4 x5 xsane
      obtain ⟨y0, y1, y2, y3, y4, y5, _, _⟩ := hcell j y hy
      obtain ⟨y99, ycls, ylen, ysane⟩ := H99.out y (List.mem_of_getElem? hy)
      obtain ⟨yna, ync, yda, ydc, yr⟩ := y
      simp only at y0 y1 y2 y3 y4 y5 y99 ycls ylen ysane
      rw [y99] at y1
      rw [ycls] at y2
      obtain ⟨ql, HqL⟩ : ∃ nl, Hid (yr.name.length = nl) := ⟨_, rfl⟩
      obtain ⟨qd, HqD⟩ : ∃ nl, Hid (yr.data.length = nl) := ⟨_, rfl⟩
      rw [HqL.out] at y0 ylen
      rw [HqD.out] at y4
      have zy0 : w.cell? ⟨g, o + j * 5, none⟩ = some (.slice yna ql ync) := y0
      have zy1 : w.cell? ⟨g, o + j * 5 + 1, none⟩ = some (.int .u16 99) := y1
      have zy2 : w.cell? ⟨g, o + j * 5 + 2, none⟩ = some (.int .u16 1) := y2
      have zy3 : w.cell? ⟨g, o + j * 5 + 3, none⟩ = some (.int .u32 (yr.ttl : Int)) := y3
      have zy4 : w.cell? ⟨g, o + j * 5 + 4, none⟩ = some (.slice yda qd ydc) := y4
      have Hy5 := hide y5
      have HyS := hide ysane
      clear y0 y1 y2 y3 y4 y5 ysane
      have HBR := hide hbr
      have HG := hide hg
      clear hcell hbr hx hy
      have hd1 : decide ((0 : Int) < (j : Int)) = true := by simp; omega
      have hd2 : decide ((j : Int) < (n : Int)) = true := by simp; omega
      have hsub : (j : Int) - 1 = (d : Int) := by omega
      have hdn : d < n := by omega
      have hd0 : (0 : Int) ≤ (d : Int) := by omega
      have hj63 : j ≤ 100 := by omega
      have hw2 : IntKind.i64.wrap (d : Int) = (d : Int) := by rw [IntKind.wrap_i64]; omega
      have hw1 : IntKind.i64.wrap ((j : Int) - 1) = (d : Int) := by rw [hsub]; exact hw2
      have hd3 : (d : Int) < (n : Int) := by omega
      have hd4 : (j : Int) < (n : Int) := by omega
      have hd5 : (0 : Int) ≤ (j : Int) := by omega
      clear hjd
      have UP : ∀ w', Below w.heap.size w w' → w'.cell? ⟨g, o + d * 5, none⟩ = some (.slice xna pl xnc) ∧ w'.cell? ⟨g, o + d * 5 + 1, none⟩ = some (.int .u16 99) ∧ w'.cell? ⟨g, o + d * 5 + 2, none⟩ = some (.int .u16 1) ∧ w'.cell? ⟨g, o + d * 5 + 3, none⟩ = some (.int .u32 (xr.ttl : Int)) ∧ w'.cell? ⟨g, o + d * 5 + 4, none⟩ = some (.slice xda pd xdc) ∧ w'.cell? ⟨g, o + j * 5, none⟩ = some (.slice yna ql ync) ∧ w'.cell? ⟨g, o + j * 5 + 1, none⟩ = some (.int .u16 99) ∧ w'.cell? ⟨g, o + j * 5 + 2, none⟩ = some (.int .u16 1) ∧ w'.cell? ⟨g, o + j * 5 + 3, none⟩ = some (.int .u32 (yr.ttl : Int)) ∧ w'.cell? ⟨g, o + j * 5 + 4, none⟩ = some (.slice yda qd ydc) := fun w' hb => ⟨(hb.cell (p := ⟨g, _, none⟩) hg).trans zx0, (hb.cell (p := ⟨g, _, none⟩) hg).trans zx1, (hb.cell (p := ⟨g, _, none⟩) hg).trans zx2, (hb.cell (p := ⟨g, _, none⟩) hg).trans zx3, (hb.cell (p := ⟨g, _, none⟩) hg).trans zx4, (hb.cell (p := ⟨g, _, none⟩) hg).trans zy0, (hb.cell (p := ⟨g, _, none⟩) hg).trans zy1, (hb.cell (p := ⟨g, _, none⟩) hg).trans zy2, (hb.cell (p := ⟨g, _, none⟩) hg).trans zy3, (hb.cell (p := ⟨g, _, none⟩) hg).trans zy4⟩
      clear zx0 zx1 zx2 zx3 zx4 zy0 zy1 zy2 zy3 zy4
      go_wp2
      go_region_held3 (fun w' => w'.cell? ⟨g, o + d * 5, none⟩ = some (.slice xna pl xnc) ∧ w'.cell? ⟨g, o + d * 5 + 1, none⟩ = some (.int .u16 99) ∧ w'.cell? ⟨g, o + d * 5 + 2, none⟩ = some (.int .u16 1) ∧ w'.cell? ⟨g, o + d * 5 + 3, none⟩ = some (.int .u32 (xr.ttl : Int)) ∧ w'.cell? ⟨g, o + d * 5 + 4, none⟩ = some (.slice xda pd xdc) ∧ w'.cell? ⟨g, o + j * 5, none⟩ = some (.slice yna ql ync) ∧ w'.cell? ⟨g, o + j * 5 + 1, none⟩ = some (.int .u16 99) ∧ w'.cell? ⟨g, o + j * 5 + 2, none⟩ = some (.int .u16 1) ∧ w'.cell? ⟨g, o + j * 5 + 3, none⟩ = some (.int .u32 (yr.ttl : Int)) ∧ w'.cell? ⟨g, o + j * 5 + 4, none⟩ = some (.slice yda qd ydc)) ((first | exact UP _ HBR.out.drew | exact UP _ HB5.out)) ((go_at_call 51; refine (together_99 xr.name yr.name xna yna xda yda pl ql xnc ync pd qd xdc ydc (xr.ttl : Int) (yr.ttl : Int) _ HpL HqL (by exact Hx5.out.below HBR.out.drew (Nat.le_refl _)) (by exact Hy5.out.below HBR.out.drew (Nat.le_refl _)) xlen ylen HxS HyS).mono ?_; rintro e w5 ⟨rfl, hb5⟩; have HB5 := hide (HBR.out.drew.trans (hb5.mono HBR.out.size)); clear hb5))
      all_goals
        cases hN : N.same xr.name yr.name with
        | false =>
          have hkj : j = k := by have h := HKK.out; rw [hN] at h; simpa using h
          go_wp2
          go_ret
          exact ⟨by rw [hkj]; rfl, HB5.out⟩
        | true =>
          have hkd : M.keep (l.map (·.r)) d = k := by have h := HKK.out; rw [hN] at h; simpa using h
          go_wp2
          exact ⟨⟨d, by go_num, by omega, hide hkd, HB5⟩, by simp [intOf]; omega⟩
    · have hkj : j = k := by
        obtain ⟨d, rfl⟩ : ∃ d, j = d + 1 := ⟨j - 1, by omega⟩
        have h := HK.out
        unfold M.keep at h
        rw [if_neg (by rw [List.length_map, hn.out]; omega)] at h
        exact h
      subst hkj
      have hd1 : decide ((0 : Int) < (j : Int)) = true := by simp; omega
      have hd2 : decide ((j : Int) < (n : Int)) = false := by simp; omega
      go_wp2
      refine wp_region_held_drew (S := fun _ => True) (by kernel_rfl) trivial (fun hHeld => ?_)
      refine wpAnyH_take (i := 0) (v := ?v0b) (get0 _ _) (by kernel_rfl) (by kernel_rfl) (by kernel_rfl) (fun _ _ _ h => h) (Or.inl ⟨by rfl, ?hy0b⟩) (by assumption) ?rest0b
      case hy0b => (intro w0 hSw; (try dsimp only at hSw); go_simp; try (with_reducible rfl))
      case' rest0b => try simp only [Act.put, List.setIfInBounds_toArray, List.set_cons_zero, List.set_cons_succ]
      refine wpAnyH_take (i := 1) (v := ?v1b) (get1 _ _ _) (by kernel_rfl) (by kernel_rfl) (by kernel_rfl) (fun _ _ _ h => h) (Or.inl ⟨by rfl, ?hy1b⟩) (by assumption) ?rest1b
      case hy1b => (intro w0 hSw; (try dsimp only at hSw); go_simp; try (with_reducible rfl))
      case' rest1b => try simp only [Act.put, List.setIfInBounds_toArray, List.set_cons_zero, List.set_cons_succ]
      refine wpAnyH_take (i := 2) (v := ?v2b) (get2 _ _ _ _) (by kernel_rfl) (by kernel_rfl) (by kernel_rfl) (fun _ _ _ h => h) (Or.inl ⟨by rfl, ?hy2b⟩) (by assumption) ?rest2b
      case hy2b => (intro w0 hSw; (try dsimp only at hSw); go_simp; try (with_reducible rfl))
      case' rest2b => try simp only [Act.put, List.setIfInBounds_toArray, List.set_cons_zero, List.set_cons_succ]
      refine wpAnyH_take (i := 3) (v := ?v3b) (get3 _ _ _ _ _) (by kernel_rfl) (by kernel_rfl) (by kernel_rfl) (fun _ _ _ h => h) (Or.inl ⟨by rfl, ?hy3b⟩) (by assumption) ?rest3b
      case hy3b => (intro w0 hSw; (try dsimp only at hSw); go_simp; try (with_reducible rfl))
      case' rest3b => try simp only [Act.put, List.setIfInBounds_toArray, List.set_cons_zero, List.set_cons_succ]
      refine wpAnyH_take (i := 4) (v := ?v4b) (get4 _ _ _ _ _ _) (by kernel_rfl) (by kernel_rfl) (by kernel_rfl) (fun _ _ _ h => h) (Or.inl ⟨by rfl, ?hy4b⟩) (by assumption) ?rest4b
      case hy4b => (intro w0 hSw; (try dsimp only at hSw); go_simp; try (with_reducible rfl))
      case' rest4b => try simp only [Act.put, List.setIfInBounds_toArray, List.set_cons_zero, List.set_cons_succ]
      refine wpAnyH_take (i := 5) (v := ?v5b) (get5 _ _ _ _ _ _ _) (by kernel_rfl) (by kernel_rfl) (by kernel_rfl) (fun _ _ _ h => h) (Or.inl ⟨by rfl, ?hy5b⟩) (by assumption) ?rest5b
      case hy5b => (intro w0 hSw; (try dsimp only at hSw); go_simp; try (with_reducible rfl))
      case' rest5b => try simp only [Act.put, List.setIfInBounds_toArray, List.set_cons_zero, List.set_cons_succ]
      refine wpAnyH_take (i := 6) (v := ?v6b) (get6 _ _ _ _ _ _ _ _) (by kernel_rfl) (by kernel_rfl) (by kernel_rfl) (fun _ _ _ h => h) (Or.inl ⟨by rfl, ?hy6b⟩) (by assumption) ?rest6b
      case hy6b => (intro w0 hSw; (try dsimp only at hSw); go_simp; try (with_reducible rfl))
      case' rest6b => try simp only [Act.put, List.setIfInBounds_toArray, List.set_cons_zero, List.set_cons_succ]
      refine wpAnyH_take (i := 7) (v := ?v7b) (get7 _ _ _ _ _ _ _ _ _) (by kernel_rfl) (by kernel_rfl) (by kernel_rfl) (fun _ _ _ h => h) (Or.inl ⟨by rfl, ?hy7b⟩) (by assumption) ?rest7b
      case hy7b => (intro w0 hSw; (try dsimp only at hSw); go_simp; try (with_reducible rfl))
      case' rest7b => try simp only [Act.put, List.setIfInBounds_toArray, List.set_cons_zero, List.set_cons_succ]
      refine wpAnyH_take (i := 8) (v := ?v8b) (get8 _ _ _ _ _ _ _ _ _ _) (by kernel_rfl) (by kernel_rfl) (by kernel_rfl) (fun _ _ _ h => h) (Or.inl ⟨by rfl, ?hy8b⟩) (by assumption) ?rest8b
      case hy8b => (intro w0 hSw; (try dsimp only at hSw); go_simp; try (with_reducible rfl))
      case' rest8b => try simp only [Act.put, List.setIfInBounds_toArray, List.set_cons_zero, List.set_cons_succ]
      refine wpAnyH_take (i := 9) (v := undef) (get9 _ _ _ _ _ _ _ _ _ _ _) (by kernel_rfl) (by kernel_rfl) (by kernel_rfl) (fun _ _ _ h => h) (Or.inr ⟨by rfl, rfl⟩) (by assumption) ?rest9b
      case' rest9b => try simp only [Act.put, List.setIfInBounds_toArray, List.set_cons_zero, List.set_cons_succ]
      refine wpAnyH_take (i := 10) (v := undef) (get10 _ _ _ _ _ _ _ _ _ _ _ _) (by kernel_rfl) (by kernel_rfl) (by kernel_rfl) (fun _ _ _ h => h) (Or.inr ⟨by rfl, rfl⟩) (by assumption) ?rest10b
      case' rest10b => try simp only [Act.put, List.setIfInBounds_toArray, List.set_cons_zero, List.set_cons_succ]
      refine wpAnyH_take (i := 11) (v := undef) (get11 _ _ _ _ _ _ _ _ _ _ _ _ _) (by kernel_rfl) (by kernel_rfl) (by kernel_rfl) (fun _ _ _ h => h) (Or.inr ⟨by rfl, rfl⟩) (by assumption) ?rest11b
      case' rest11b => try simp only [Act.put, List.setIfInBounds_toArray, List.set_cons_zero, List.set_cons_succ]
      refine wpAnyH_take (i := 12) (v := undef) (get12 _ _ _ _ _ _ _ _ _ _ _ _ _ _) (by kernel_rfl) (by kernel_rfl) (by kernel_rfl) (fun _ _ _ h => h) (Or.inr ⟨by rfl, rfl⟩) (by assumption) ?rest12b
      case' rest12b => try simp only [Act.put, List.setIfInBounds_toArray, List.set_cons_zero, List.set_cons_succ]
      refine wpAnyH_take (i := 13) (v := undef) (get13 _ _ _ _ _ _ _ _ _ _ _ _ _ _ _) (by kernel_rfl) (by kernel_rfl) (by kernel_rfl) (fun _ _ _ h => h) (Or.inr ⟨by rfl, rfl⟩) (by assumption) ?rest13b
      case' rest13b => try simp only [Act.put, List.setIfInBounds_toArray, List.set_cons_zero, List.set_cons_succ]
      refine wpAnyH_take (i := 14) (v := undef) (get14 _ _ _ _ _ _ _ _ _ _ _ _ _ _ _ _) (by kernel_rfl) (by kernel_rfl) (by kernel_rfl) (fun _ _ _ h => h) (Or.inr ⟨by rfl, rfl⟩) (by assumption) ?rest14b
      case' rest14b => try simp only [Act.put, List.setIfInBounds_toArray, List.set_cons_zero, List.set_cons_succ]
      refine wpAnyH_take (i := 15) (v := undef) (get15 _ _ _ _ _ _ _ _ _ _ _ _ _ _ _ _ _) (by kernel_rfl) (by kernel_rfl) (by kernel_rfl) (fun _ _ _ h => h) (Or.inr ⟨by rfl, rfl⟩) (by assumption) ?rest15b
      case' rest15b => try simp only [Act.put, List.setIfInBounds_toArray, List.set_cons_zero, List.set_cons_succ]
      refine wpAnyH_take (i := 16) (v := undef) (get16 _ _ _ _ _ _ _ _ _ _ _ _ _ _ _ _ _ _) (by kernel_rfl) (by kernel_rfl) (by kernel_rfl) (fun _ _ _ h => h) (Or.inr ⟨by rfl, rfl⟩) (by assumption) ?rest16b
      case' rest16b => try simp only [Act.put, List.setIfInBounds_toArray, List.set_cons_zero, List.set_cons_succ]
      refine wpAnyH_take (i := 17) (v := undef) (get17 _ _ _ _ _ _ _ _ _ _ _ _ _ _ _ _ _ _ _) (by kernel_rfl) (by kernel_rfl) (by kernel_rfl) (fun _ _ _ h => h) (Or.inr ⟨by rfl, rfl⟩) (by assumption) ?rest17b
      case' rest17b => try simp only [Act.put, List.setIfInBounds_toArray, List.set_cons_zero, List.set_cons_succ]
      refine wpAnyH_take (i := 18) (v := undef) (get18 _ _ _ _ _ _ _ _ _ _ _ _ _ _ _ _ _ _ _ _) (by kernel_rfl) (by kernel_rfl) (by kernel_rfl) (fun _ _ _ h => h) (Or.inr ⟨by rfl, rfl⟩) (by assumption) ?rest18b
      case' rest18b => try simp only [Act.put, List.setIfInBounds_toArray, List.set_cons_zero, List.set_cons_succ]
      refine wpAnyH_take (i := 19) (v := ?v19b) (get19 _ _ _ _ _ _ _ _ _ _ _ _ _ _ _ _ _ _ _ _ _) (by kernel_rfl) (by kernel_rfl) (by kernel_rfl) (fun _ _ _ h => h) (Or.inl ⟨by rfl, ?hy19b⟩) (by assumption) ?rest19b
      case hy19b => (intro w0 hSw; (try dsimp only at hSw); go_simp; try (with_reducible rfl))
      case' rest19b => try simp only [Act.put, List.setIfInBounds_toArray, List.set_cons_zero, List.set_cons_succ]
      refine wpAnyH_done (by kernel_rfl) ?_ _
      go_wp2
      go_ret
      exact ⟨rfl, HB.out.drew⟩
set_option maxRecDepth 3000 in
set_option maxHeartbeats 2000000 in
theorem sets_neg (ao : Option Addr) (n c : Nat) (cnt : Int) (w : World) (hnil : ao = none → c = 0) (hl : n ≤ 100) (e1 : cnt < 0) :
    Calls Tryz.prog 40 #[.slice ao n c, .int .i64 cnt] w fun e w' => e = .returned (.slice ao 0 c) ∧ Below w.heap.size w w' := by
  have e2 : ¬ (n : Int) < 0 := by omega
  have HNI := hide hnil
  clear hnil
  go_enter Tryz.func40, Tryz.ntmps40
  go_wp2
  go_loopw [1] (fun u wx => u = .int .i64 0 ∧ Hid (Below w.heap.size w wx)) (fun u _ => 0)
  case atStart => exact ⟨rfl, hide (Below.refl _ _)⟩
  case round =>
    obtain ⟨rfl, HB⟩ := hrel
    go_wp2
    refine wp_region_held_drew (S := fun _ => True) (by kernel_rfl) trivial (fun hHeld => ?_)
    refine wpAnyH_take (i := 0) (v := ?v0n) (get0 _ _) (by kernel_rfl) (by kernel_rfl) (by kernel_rfl) (fun _ _ _ h => h) (Or.inl ⟨by rfl, ?hy0n⟩) (by assumption) ?rest0n
    case hy0n => (intro w0 hSw; (try dsimp only at hSw); go_simp; try (with_reducible rfl))
    case' rest0n => try simp only [Act.put, List.setIfInBounds_toArray, List.set_cons_zero, List.set_cons_succ]
    refine wpAnyH_take (i := 1) (v := ?v1n) (get1 _ _ _) (by kernel_rfl) (by kernel_rfl) (by kernel_rfl) (fun _ _ _ h => h) (Or.inl ⟨by rfl, ?hy1n⟩) (by assumption) ?rest1n
    case hy1n => (intro w0 hSw; (try dsimp only at hSw); go_simp; try (with_reducible rfl))
    case' rest1n => try simp only [Act.put, List.setIfInBounds_toArray, List.set_cons_zero, List.set_cons_succ]
    refine wpAnyH_take (i := 2) (v := ?v2n) (get2 _ _ _ _) (by kernel_rfl) (by kernel_rfl) (by kernel_rfl) (fun _ _ _ h => h) (Or.inl ⟨by rfl, ?hy2n⟩) (by assumption) ?rest2n
    case hy2n => (intro w0 hSw; (try dsimp only at hSw); go_simp; try (with_reducible rfl))
    case' rest2n => try simp only [Act.put, List.setIfInBounds_toArray, List.set_cons_zero, List.set_cons_succ]
    refine wpAnyH_take (i := 3) (v := undef) (get3 _ _ _ _ _) (by kernel_rfl) (by kernel_rfl) (by kernel_rfl) (fun _ _ _ h => h) (Or.inr ⟨by rfl, rfl⟩) (by assumption) ?rest3n
    case' rest3n => try simp only [Act.put, List.setIfInBounds_toArray, List.set_cons_zero, List.set_cons_succ]
    refine wpAnyH_take (i := 4) (v := undef) (get4 _ _ _ _ _ _) (by kernel_rfl) (by kernel_rfl) (by kernel_rfl) (fun _ _ _ h => h) (Or.inr ⟨by rfl, rfl⟩) (by assumption) ?rest4n
    case' rest4n => try simp only [Act.put, List.setIfInBounds_toArray, List.set_cons_zero, List.set_cons_succ]
    refine wpAnyH_take (i := 5) (v := undef) (get5 _ _ _ _ _ _ _) (by kernel_rfl) (by kernel_rfl) (by kernel_rfl) (fun _ _ _ h => h) (Or.inr ⟨by rfl, rfl⟩) (by assumption) ?rest5n
    case' rest5n => try simp only [Act.put, List.setIfInBounds_toArray, List.set_cons_zero, List.set_cons_succ]
    refine wpAnyH_take (i := 6) (v := undef) (get6 _ _ _ _ _ _ _ _) (by kernel_rfl) (by kernel_rfl) (by kernel_rfl) (fun _ _ _ h => h) (Or.inr ⟨by rfl, rfl⟩) (by assumption) ?rest6n
    case' rest6n => try simp only [Act.put, List.setIfInBounds_toArray, List.set_cons_zero, List.set_cons_succ]
    refine wpAnyH_take (i := 7) (v := ?v7n) (get7 _ _ _ _ _ _ _ _ _) (by kernel_rfl) (by kernel_rfl) (by kernel_rfl) (fun _ _ _ h => h) (Or.inl ⟨by rfl, ?hy7n⟩) (by assumption) ?rest7n
    case hy7n => (intro w0 hSw; (try dsimp only at hSw); go_simp; try (with_reducible rfl))
    case' rest7n => try simp only [Act.put, List.setIfInBounds_toArray, List.set_cons_zero, List.set_cons_succ]
    refine wpAnyH_take (i := 8) (v := ?v8n) (get8 _ _ _ _ _ _ _ _ _ _) (by kernel_rfl) (by kernel_rfl) (by kernel_rfl) (fun _ _ _ h => h) (Or.inl ⟨by rfl, ?hy8n⟩) (by assumption) ?rest8n
    case hy8n => (intro w0 hSw; (try dsimp only at hSw); go_simp; try (with_reducible rfl))
    case' rest8n => try simp only [Act.put, List.setIfInBounds_toArray, List.set_cons_zero, List.set_cons_succ]
    refine wpAnyH_take (i := 9) (v := undef) (get9 _ _ _ _ _ _ _ _ _ _ _) (by kernel_rfl) (by kernel_rfl) (by kernel_rfl) (fun _ _ _ h => h) (Or.inr ⟨by rfl, rfl⟩) (by assumption) ?rest9n
    case' rest9n => try simp only [Act.put, List.setIfInBounds_toArray, List.set_cons_zero, List.set_cons_succ]
    refine wpAnyH_take (i := 10) (v := undef) (get10 _ _ _ _ _ _ _ _ _ _ _ _) (by kernel_rfl) (by kernel_rfl) (by kernel_rfl) (fun _ _ _ h => h) (Or.inr ⟨by rfl, rfl⟩) (by assumption) ?rest10n
    case' rest10n => try simp only [Act.put, List.setIfInBounds_toArray, List.set_cons_zero, List.set_cons_succ]
    refine wpAnyH_take (i := 11) (v := undef) (get11 _ _ _ _ _ _ _ _ _ _ _ _ _) (by kernel_rfl) (by kernel_rfl) (by kernel_rfl) (fun _ _ _ h => h) (Or.inr ⟨by rfl, rfl⟩) (by assumption) ?rest11n
    case' rest11n => try simp only [Act.put, List.setIfInBounds_toArray, List.set_cons_zero, List.set_cons_succ]
    refine wpAnyH_take (i := 12) (v := undef) (get12 _ _ _ _ _ _ _ _ _ _ _ _ _ _) (by kernel_rfl) (by kernel_rfl) (by kernel_rfl) (fun _ _ _ h => h) (Or.inr ⟨by rfl, rfl⟩) (by assumption) ?rest12n
    case' rest12n => try simp only [Act.put, List.setIfInBounds_toArray, List.set_cons_zero, List.set_cons_succ]
    refine wpAnyH_take (i := 13) (v := undef) (get13 _ _ _ _ _ _ _ _ _ _ _ _ _ _ _) (by kernel_rfl) (by kernel_rfl) (by kernel_rfl) (fun _ _ _ h => h) (Or.inr ⟨by rfl, rfl⟩) (by assumption) ?rest13n
    case' rest13n => try simp only [Act.put, List.setIfInBounds_toArray, List.set_cons_zero, List.set_cons_succ]
    refine wpAnyH_take (i := 14) (v := undef) (get14 _ _ _ _ _ _ _ _ _ _ _ _ _ _ _ _) (by kernel_rfl) (by kernel_rfl) (by kernel_rfl) (fun _ _ _ h => h) (Or.inr ⟨by rfl, rfl⟩) (by assumption) ?rest14n
    case' rest14n => try simp only [Act.put, List.setIfInBounds_toArray, List.set_cons_zero, List.set_cons_succ]
    refine wpAnyH_take (i := 15) (v := undef) (get15 _ _ _ _ _ _ _ _ _ _ _ _ _ _ _ _ _) (by kernel_rfl) (by kernel_rfl) (by kernel_rfl) (fun _ _ _ h => h) (Or.inr ⟨by rfl, rfl⟩) (by assumption) ?rest15n
    case' rest15n => try simp only [Act.put, List.setIfInBounds_toArray, List.set_cons_zero, List.set_cons_succ]
    refine wpAnyH_take (i := 16) (v := undef) (get16 _ _ _ _ _ _ _ _ _ _ _ _ _ _ _ _ _ _) (by kernel_rfl) (by kernel_rfl) (by kernel_rfl) (fun _ _ _ h => h) (Or.inr ⟨by rfl, rfl⟩) (by assumption) ?rest16n
    case' rest16n => try simp only [Act.put, List.setIfInBounds_toArray, List.set_cons_zero, List.set_cons_succ]
    refine wpAnyH_take (i := 17) (v := undef) (get17 _ _ _ _ _ _ _ _ _ _ _ _ _ _ _ _ _ _ _) (by kernel_rfl) (by kernel_rfl) (by kernel_rfl) (fun _ _ _ h => h) (Or.inr ⟨by rfl, rfl⟩) (by assumption) ?rest17n
    case' rest17n => try simp only [Act.put, List.setIfInBounds_toArray, List.set_cons_zero, List.set_cons_succ]
    refine wpAnyH_take (i := 18) (v := undef) (get18 _ _ _ _ _ _ _ _ _ _ _ _ _ _ _ _ _ _ _ _) (by kernel_rfl) (by kernel_rfl) (by kernel_rfl) (fun _ _ _ h => h) (Or.inr ⟨by rfl, rfl⟩) (by assumption) ?rest18n
    case' rest18n => try simp only [Act.put, List.setIfInBounds_toArray, List.set_cons_zero, List.set_cons_succ]
    refine wpAnyH_take (i := 19) (v := ?v19n) (get19 _ _ _ _ _ _ _ _ _ _ _ _ _ _ _ _ _ _ _ _ _) (by kernel_rfl) (by kernel_rfl) (by kernel_rfl) (fun _ _ _ h => h) (Or.inl ⟨by rfl, ?hy19n⟩) (by assumption) ?rest19n
    case hy19n => (intro w0 hSw; (try dsimp only at hSw); go_simp; try (with_reducible rfl))
    case' rest19n => try simp only [Act.put, List.setIfInBounds_toArray, List.set_cons_zero, List.set_cons_succ]
    refine wpAnyH_done (by kernel_rfl) ?_ _
    go_wp2
    go_ret
    exact ⟨rfl, HB.out.drew⟩
set_option maxRecDepth 5000 in
theorem sets_nil (cnt : Int) (w : World) (h : cnt ≤ 0) : Calls Tryz.prog 40 #[.slice none 0 0, .int .i64 cnt] w fun e w' => e = .returned (.slice none 0 0) ∧ Below w.heap.size w w' := by
  by_cases h0 : cnt < 0
  · exact sets_neg none 0 0 cnt w (fun _ => rfl) (by omega) h0
  · obtain rfl : cnt = 0 := by omega
    exact sets_99 [] none 0 0 w (hide rfl) (fun h => absurd h (by simp)) (fun _ => rfl) (by omega) (by omega) (fun x hx => by cases hx) 0 0 (by omega) (hide rfl)
end Go.Proofs.YtpgebiopckmgbabGreat
