/- The law NameBounds returns true, for every two bytes. -/
import Derived.Test.YtecikfdnnjinpaaDoorKnown
namespace Go.Proofs.YtecikfdnnjinpaaDoor
open Go.RowKit
def abc : List UInt8 := [97, 98, 99, 100, 101, 102, 103, 104, 105, 106, 97, 98, 99, 100, 101, 102, 103, 104, 105, 106, 97, 98, 99, 100, 101, 102, 103, 104, 105, 106, 97, 98, 99, 100, 101, 102, 103, 104, 105, 106, 97, 98, 99, 100, 101, 102, 103, 104, 105, 106, 97, 98, 99, 100, 101, 102, 103, 104, 105, 106, 97, 98, 99, 100, 101, 102, 103, 104, 105, 106, 97, 98, 99, 100, 101, 102, 103, 104, 105, 106]
namespace N
theorem rep_size (x : List UInt8) (i : Nat) : size (List.replicate i x) = 1 + i * (x.length + 1) := by
  induction i with
  | zero => simp [size]
  | succ i ih =>
    have e2 : size (List.replicate (i + 1) x) = (x.length + 1) + size (List.replicate i x) := by simp only [size, List.replicate_succ, List.map_cons, List.sum_cons]; omega
    rw [e2, ih, Nat.add_mul]; omega
theorem rep_chk (x : List UInt8) (i : Nat) (hx : x ≠ []) : chk (List.replicate i x) = if 0 < i ∧ (63 < x.length ∨ 255 < 1 + i * (x.length + 1)) then 31 else 0 := by
  by_cases h : 0 < i ∧ (63 < x.length ∨ 255 < 1 + i * (x.length + 1))
  · rw [if_pos h]
    unfold chk
    rw [if_neg (fun e => hx (List.eq_of_mem_replicate e).symm), if_pos]
    rw [rep_size]
    rcases h.2 with h2 | h2
    · exact Or.inr ⟨x, List.mem_replicate.2 ⟨by omega, rfl⟩, h2⟩
    · exact Or.inl h2
  · rw [if_neg h]
    refine chk_ok (fun e => hx (List.eq_of_mem_replicate e).symm) ?_ ?_
    · rw [rep_size]
      rcases Nat.eq_zero_or_pos i with h0 | h0
      · subst h0; simp
      · exact Nat.le_of_not_lt fun e => h ⟨h0, Or.inr e⟩
    · intro l hl
      rw [List.mem_replicate] at hl
      rw [hl.2]
      exact Nat.le_of_not_lt fun e => h ⟨by omega, Or.inl e⟩
end N
set_option maxRecDepth 3000 in
set_option maxHeartbeats 1000000 in
theorem nameBounds_walk (n k : UInt8) (w : World) (hTab : Tabs w) :
    Calls Tryd.prog 8 #[.int .u8 (n.toNat : Int), .int .u8 (k.toNat : Int)] w fun e w' => e = .returned (.bool true) ∧ Below w.heap.size w w' := by
  have HT := hide hTab
  clear hTab
  have hn := n.toNat_lt
  have hk := k.toNat_lt
  obtain ⟨L, hL⟩ : ∃ L, L = k.toNat % 70 + 1 := ⟨_, rfl⟩
  obtain ⟨M, hM⟩ : ∃ M, M = n.toNat % 140 := ⟨_, rfl⟩
  have hLi : (k.toNat : Int) % 70 + 1 = (L : Int) := by omega
  have hMi : (n.toNat : Int) % 140 = (M : Int) := by omega
  have hL2 : 1 ≤ L ∧ L ≤ 70 := by omega
  have hM2 : M ≤ 139 := by omega
  have hxs : (⟨(abc.take L).toArray⟩ : ByteArray) = (⟨abc.toArray⟩ : ByteArray).extract 0 (0 + L) := by
    rw [extract_is]; rfl
  have hsl : ∀ W, (Instr.slice 9 (.string ⟨#[97, 98, 99, 100, 101, 102, 103, 104, 105, 106, 97, 98, 99, 100, 101, 102, 103, 104, 105, 106, 97, 98, 99, 100, 101, 102, 103, 104, 105, 106, 97, 98, 99, 100, 101, 102, 103, 104, 105, 106, 97, 98, 99, 100, 101, 102, 103, 104, 105, 106, 97, 98, 99, 100, 101, 102, 103, 104, 105, 106, 97, 98, 99, 100, 101, 102, 103, 104, 105, 106, 97, 98, 99, 100, 101, 102, 103, 104, 105, 106]⟩) none (some (.int .i64 (L : Int))) none).run Tryd.prog W = .ok (.string ⟨(abc.take L).toArray⟩) W := fun W => by
    have h1 : (⟨abc.toArray⟩ : ByteArray).size = 80 := rfl
    show (Instr.slice 9 (.string ⟨abc.toArray⟩) none (some (.int .i64 (L : Int))) none).run Tryd.prog W = _
    rw [run_slice_string_h (P := Tryd.prog) W 9 ⟨abc.toArray⟩ Tryd.underlying9 .i64 (L : Int) (by omega) (by omega), hxs, Int.toNat_natCast, Nat.zero_add]
  have hxl : (abc.take L).length = L := by
    rw [List.length_take]
    have : abc.length = 80 := rfl
    omega
  generalize abc.take L = x at hsl hxl
  clear hxs hL hM
  have hnot : ∀ (x : Bool) (w : World), (Op.unary .not (.bool x)).run Tryd.prog w = .ok (.bool (!x)) w := fun _ _ => rfl
  go_enter Tryd.func8, Tryd.ntmps8
  go_wp2_with (go_at_call 9; refine (known_any _ (by exact HT.out)).mono ?_; rintro e w1 ⟨rfl, hB1⟩)
  have hz1 := hB1.size
  go_loopw [8, 5, 6] (fun i l a wr => ∃ j sz : Nat, i = .int .i64 (j : Int) ∧ j ≤ M ∧ a = .int .i64 (sz : Int) ∧ Hid (sz = 1 + j * (L + 1)) ∧ OwnS wr w1.heap.size l (List.replicate j x) ∧ Below w1.heap.size w1 wr) (fun i _ _ _ => M - (intOf i).toNat)
  case atStart => exact ⟨0, 1, rfl, by omega, rfl, (by show _ = _; simp), OwnS.nil _ _, Below.refl _ _⟩
  case round =>
    obtain ⟨j, sz, rfl, hj, rfl, HZ, hO, hB⟩ := hrel
    have hz := hB.size
    have hszb : sz ≤ 10000 := by
      rw [HZ.out]
      have h1 : j * (L + 1) ≤ 139 * 71 := Nat.mul_le_mul (by omega) (by omega)
      omega
    by_cases hlt : j < M
    · go_wp2_with (at_builtin; refine wpList_append_S rfl (.tmp 23) (.tmp 26) rfl w1.heap.size _ _ rfl (by exact hO.alloc _) _ _ _ [x] rfl rfl (SlS.one _ _ _) (by simp; omega) (by simp; omega) ?_; intro v4 w4 hO4 hG4; have hB4 := grown_belowS (hO.alloc _) hG4 (hB.alloc hz _) (by simp; omega); clear hG4 hO)
      go_roundw
      case rel => exact ⟨j + 1, sz + (L + 1), by go_num, by omega, by go_num, (by show _ = _; rw [HZ.out, Nat.add_mul]; omega), (by rw [List.replicate_succ']; exact hO4), hB4⟩
      case measure => simp [intOf]; omega
    · obtain rfl : j = M := by omega
      have hch := N.rep_chk x j (by intro e; rw [e] at hxl; simp at hxl; omega)
      rw [hxl, ← HZ.out] at hch
      have HCH := hide hch
      have hsm : N.Small (List.replicate j x) := ⟨by simp; omega, fun l hl => by rw [(List.mem_replicate.1 hl).2]; omega⟩
      obtain ⟨ao, c, rfl, hS, _, _, _⟩ := hO.open
      have HS := hide hS
      have hrl : (List.replicate j x).length = j := by simp
      rw [hrl]
      have hb := hB1.trans (hB.mono hz1)
      clear hch hO hS
      have hcc : ∃ cc : Int, N.chk (List.replicate j x) = cc ∧ (cc = if 0 < j ∧ (63 < L ∨ 255 < sz) then 31 else 0) := ⟨_, rfl, HCH.out⟩
      obtain ⟨cc, h1, h2⟩ := hcc
      have HC := hide h1
      clear h1
      by_cases hj0 : 0 < j
      · rcases Nat.lt_or_ge 63 L with h63 | h63
        · rw [if_pos ⟨hj0, Or.inl h63⟩] at h2
          subst h2
          go_wp2_with (go_at_call 16; refine (check_any _ ao j c _ hrl (by exact HS.out) hsm).mono ?_; rw [HC.out]; rintro e w5 ⟨rfl, rfl⟩)
          go_ret
          exact ⟨rfl, hb⟩
        · rcases Nat.lt_or_ge 255 sz with h255 | h255
          · rw [if_pos ⟨hj0, Or.inr h255⟩] at h2
            subst h2
            go_wp2_with (go_at_call 16; refine (check_any _ ao j c _ hrl (by exact HS.out) hsm).mono ?_; rw [HC.out]; rintro e w5 ⟨rfl, rfl⟩)
            go_ret
            exact ⟨rfl, hb⟩
          · rw [if_neg (by omega)] at h2
            subst h2
            go_wp2_with (go_at_call 16; refine (check_any _ ao j c _ hrl (by exact HS.out) hsm).mono ?_; rw [HC.out]; rintro e w5 ⟨rfl, rfl⟩)
            go_ret
            exact ⟨rfl, hb⟩
      · rw [if_neg (by omega)] at h2
        subst h2
        obtain rfl : j = 0 := by omega
        go_wp2_with (go_at_call 16; refine (check_any _ ao 0 c _ hrl (by exact HS.out) hsm).mono ?_; rw [HC.out]; rintro e w5 ⟨rfl, rfl⟩)
        go_ret
        exact ⟨rfl, hb⟩
end Go.Proofs.YtecikfdnnjinpaaDoor
