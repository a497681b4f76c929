/- Crash. -/
import Derived.Test.YtmjdlejomohbdaaDsy
import Derived.Laws.BitsAllLaws
namespace Go.Proofs.Ytmjdlejomohbdaa
open Go.RowKit
set_option maxRecDepth 5000 in
theorem Dk.fr {A : Nat → Prop} {w : World} {D S M : Nat} {s : K.St} {sv : Nat → Value} {uv : Nat → Option Value} (h : Dk A w D S M s sv uv) : (fun i => (uv i).isSome) = K.fr s := by
  funext i; exact h.hun i
set_option maxRecDepth 5000 in
theorem bit_and (kp j : Nat) (h : kp < 18446744073709551616) : bits .and .u64 ((kp : Int) / 2 ^ j) 1 = if kp.testBit j then 1 else 0 := by
  have e : ((kp : Int) / 2 ^ j) = ((kp / 2 ^ j : Nat) : Int) := by simp
  have hl : kp / 2 ^ j < 18446744073709551616 := Nat.lt_of_le_of_lt (Nat.div_le_self _ _) h
  have h1 := u64_and_nat (kp / 2 ^ j) 1 hl (by omega)
  rw [e]
  have e2 : ((1 : Nat) : Int) = 1 := rfl
  rw [e2] at h1
  rw [h1, Nat.and_one_is_mod, Nat.testBit_eq_decide_div_mod_eq]
  rcases Nat.mod_two_eq_zero_or_one (kp / 2 ^ j) with h0 | h0 <;> simp [h0]
set_option maxRecDepth 5000 in
theorem K.sel (p : Nat → Bool) (i k : Nat) (hp : p i = true) (hc : K.cnt p i = k) (j : Nat) (e : j ≠ i) : (p j && decide (K.cnt p j < k + 1)) = (p j && decide (K.cnt p j < k)) := by
  cases hf : p j
  · rfl
  · have hne : K.cnt p j ≠ k := by
      rcases Nat.lt_or_gt_of_ne e with h | h
      · have := K.cnt_lt p hf h; omega
      · have := K.cnt_lt p hp h; omega
    by_cases h : K.cnt p j < k
    · simp [h]; omega
    · simp [h]; omega
def crEnd (W : World) (D : Nat) : World := ((((W.alloc (.map #[] 0)).setCell ⟨D, 2, none⟩ (.map (some W.heap.size))).setCell ⟨D, 3, none⟩ (.bool false)).setCell ⟨D, 4, none⟩ (.bool false)).setCell ⟨D, 5, none⟩ (.int .i64 0)
set_option maxRecDepth 5000 in
theorem Dk.fin_crash {A : Nat → Prop} {w W : World} {D S M : Nat} {s : K.St} {sv sw : Nat → Value} {uv : Nat → Option Value} (h : Dk A w D S M s sv uv) (kp : Nat) (hG : w.grownBy W (some S)) (hS : RowAt W S 32 ((List.range s.n).map sw).toArray)
    (hsw : ∀ i, i < s.n → sw i = if K.fr s i && decide (K.cnt (K.fr s) i < K.cnt (K.fr s) s.n) && K.bit kp (K.cnt (K.fr s) i) then (uv i).getD (sv i) else sv i) : ∃ M', DiskAt A (crEnd W D) D S M' (s.crashed kp) ∧ Mv D S M w (crEnd W D) ∧ w.heap.size ≤ M' ∧ M' < (crEnd W D).heap.size := by
  have hDS := h.DS
  have hRD : RowAt W D 51 (dkRow s.sz S s.n M s.dead s.cut s.left) := (hG.block D h.row.lt (fun e => hDS (by injection e))).trans h.row
  have hlt := hRD.lt
  have hk1 : Rows w W := fun g c hg => (hG.block g hg.lt (fun e => (h.sure.ne hg tne2) (by injection e with e; exact e.symm))).trans hg
  have hne : ∀ g, g ≠ D → g < W.heap.size → (crEnd W D).heap[g]? = W.heap[g]? := fun g hg hl => by
    unfold crEnd
    rw [heap_setCell_other _ _ _ _ hg, heap_setCell_other _ _ _ _ hg, heap_setCell_other _ _ _ _ hg, heap_setCell_other _ _ _ _ hg, Below.heap_alloc _ _ _ hl]
  have hk2 : Rows W (crEnd W D) := fun g c hg => (hne g (fun e => (hRD.ne hg tne1) e.symm) hg.lt).trans hg
  have hk := hk1.trans hk2
  refine ⟨W.heap.size, ⟨sw, fun _ => none, ?_⟩, ?_, hG.size, ?_⟩
  · have e := K.crAt_full s kp h.hlt
    rw [← e]
    refine ⟨?_, ?_, ?_, ?_, fun _ => rfl, fun _ _ _ h => (by cases h), fun _ h => (by cases h), h.b1, h.b2, h.b3, h.b4, by show (0 : Nat) ≤ _; omega, fun g hg => by have := h.hA g hg; have := hG.size; simp [crEnd, World.setCell]; omega⟩
    · have h1 := (((((hRD.alloc (.map #[] 0)).set 2 (.map (some W.heap.size))).set 3 (.bool false)).set 4 (.bool false)).set 5 (.int .i64 0))
      exact h1
    · exact (hne S hDS.symm hS.lt).trans hS
    · have h0 := MapAt.made W s.n
      refine h0.heap ?_
      unfold crEnd
      have hg : W.heap.size ≠ D := by omega
      rw [heap_setCell_other _ _ _ _ hg, heap_setCell_other _ _ _ _ hg, heap_setCell_other _ _ _ _ hg, heap_setCell_other _ _ _ _ hg]
    · intro i hi
      show Sec A _ s.sz (sw i) (K.crAt s kp (K.cnt (K.fr s) s.n) i)
      rw [hsw i hi]
      unfold K.crAt
      split
      · rename_i hb
        have h1 := h.sec i hi
        have h2 : K.fr s i = true := by simp at hb; exact hb.1.1
        have h3 : ((s.un i).orElse fun _ => s.su i) = s.un i := by
          unfold K.fr at h2
          cases hu : s.un i with
          | none => rw [hu] at h2; cases h2
          | some l => rfl
        rw [h3] at h1
        exact h1.heap hk
      · exact (h.hsu i hi).heap hk
  · refine ⟨hG.os, hG.tape, hG.output, Nat.le_trans hG.size (by simp [crEnd, World.setCell]), fun g hg h1 h2 _ => ?_⟩
    rw [hne g h1 (Nat.lt_of_lt_of_le hg hG.size), hG.block g hg (fun e => h2 (by injection e))]
  · simp [crEnd, World.setCell]
set_option maxHeartbeats 1000000 in
set_option maxRecDepth 5000 in
theorem crash_any {A : Nat → Prop} (w : World) (D S M : Nat) (s : K.St) (h : DiskAt A w D S M s) (kp : Nat) (hkp : kp < 18446744073709551616) : Calls Try.prog 15 #[.pointer (some ⟨D, 0, none⟩), .int .u64 (kp : Int)] w fun e w' => e = .returned (.tuple #[]) ∧ ∃ M', DiskAt A w' D S M' (s.crashed kp) ∧ Mv D S M w w' ∧ w.heap.size ≤ M' ∧ M' < w'.heap.size := by
  obtain ⟨sv, uv, h⟩ := h
  have c2 : w.cell? ⟨D, 2, none⟩ = some (.map (some M)) := h.cell 2
  have H := hide h
  have hso := sorted_any w M s.n uv h.un (by have := h.b4; omega)
  rw [h.fr] at hso
  obtain ⟨n, hn⟩ : ∃ n, n = s.n := ⟨_, rfl⟩
  have HN := hide hn
  have hn4 := h.b4
  rw [← hn] at hn4 hso
  clear h hn
  obtain ⟨N, hN⟩ : ∃ N, N = (K.ks (K.fr s) n).length := ⟨_, rfl⟩
  rw [← hN] at hso
  have HNN := hide hN
  have hNn : N ≤ n := by rw [hN, K.ks_len]; exact K.cnt_self _ _
  clear hN
  go_enter Try.func15, Try.ntmps15
  go_wp2_with (first
    | (go_at_call 24; refine (keys_any _ _).mono ?_; rintro e w' ⟨rfl, hw⟩; rw [hw]; clear hw w')
    | (go_at_call 23; refine hso.mono ?_; rintro e w1 ⟨v, rfl, hrow, hB⟩; obtain ⟨ao, cap, e1⟩ : ∃ ao cap, v = .slice ao N cap := (by rcases hrow.2 with ⟨e, e2⟩ | ⟨g, cap, cur, e, _⟩; exact ⟨none, 0, by rw [e, e2]⟩; exact ⟨_, _, e⟩); rw [e1] at hrow ⊢; clear e1))
  have hG0 : w.grownBy w1 (some S) := ⟨hB.os, hB.tape, hB.output, Nat.le_trans (by simp) hB.size, fun k hk _ => by rw [hB.block k (by omega), Below.heap_alloc _ _ _ hk]⟩
  obtain ⟨g, hg⟩ : ∃ g, ∀ k i : Nat, (K.ks (K.fr s) n)[k]? = some i → ao = some ⟨g, 0, none⟩ ∧ w.heap.size ≤ g ∧ g < w1.heap.size ∧ w1.cell? ⟨g, k, none⟩ = some (.int .i64 (i : Int)) := by
    have hr := hrow
    rcases hrow.2 with ⟨e, e2⟩ | ⟨g, cap', cur, e, e1, e2, e3, e4, e5, e6⟩
    · refine ⟨0, fun k i hk => ?_⟩
      have := (List.getElem?_eq_some_iff.1 hk).1
      rw [← HNN.out, e2] at this
      omega
    · injection e with e _ _
      refine ⟨g, fun k i hk => ⟨e, by omega, (Array.getElem?_eq_some_iff.1 e2).1, ?_⟩⟩
      have hkN : k < N := by have := (List.getElem?_eq_some_iff.1 hk).1; rw [HNN.out]; exact this
      have hc := World.ownsRow.cellAt (g := g) (by rw [e] at hr; exact hr) k (by omega)
      rw [hc, List.getElem?_map, hk]; rfl
  have HG := hide hg
  have HS0 : Hid (RowAt w1 S 32 ((List.range n).map sv).toArray) := by
    show RowAt _ _ _ _
    rw [HN.out]
    have hl := H.out.sure.lt
    exact ((hB.block S (by omega)).trans (Below.heap_alloc _ _ _ hl)).trans H.out.sure
  clear hg hrow hB hso
  go_loopw [13] (fun k wr => ∃ (kk : Nat) (sw : Nat → Value), k = .int .i64 (kk : Int) ∧ kk ≤ N ∧ RowAt wr S 32 ((List.range n).map sw).toArray ∧ w.grownBy wr (some S) ∧ w1.heap.size ≤ wr.heap.size ∧ (∀ q, w.heap.size ≤ q → q < w1.heap.size → wr.heap[q]? = w1.heap[q]?) ∧ ∀ i : Nat, i < n → sw i = if K.fr s i && decide (K.cnt (K.fr s) i < kk) && K.bit kp (K.cnt (K.fr s) i) then (uv i).getD (sv i) else sv i)
    (fun k _ => N - (match k with | .int _ x => x.toNat | _ => 0))
  case atStart => exact ⟨0, sv, rfl, Nat.zero_le _, HS0.out, hG0, Nat.le_refl _, fun _ _ _ => rfl, fun i _ => by simp⟩
  case round =>
    obtain ⟨kk, sw, rfl, hkk, hS, hG, hsz, hgg, hsw⟩ := hrel
    by_cases hlt : kk < N
    · have hd : decide ((kk : Int) < (N : Int)) = true := by simp; exact hlt
      obtain ⟨i, hki⟩ : ∃ i, (K.ks (K.fr s) n)[kk]? = some i := ⟨_, List.getElem?_eq_getElem (by rw [← HNN.out]; exact hlt)⟩
      obtain ⟨ea, hg1, hg2, hg3⟩ := HG.out kk i hki
      obtain ⟨hin, hfi, hcn⟩ := K.ks_get _ _ _ _ hki
      have y0 : wr.cell? ⟨g, kk, none⟩ = some (.int .i64 (i : Int)) := (World.cell?_of_block (a := ⟨g, kk, none⟩) (hgg g hg1 hg2)).trans hg3
      have HKI := hide hki
      have HSW := hide hsw
      have HGG := hide hgg
      have HGR := hide hG
      have HSS := hide hS
      have HCN := hide hcn
      have HFI := hide hfi
      have hadd : IntKind.i64.wrap ((kk : Int) + 1) = ((kk + 1 : Nat) : Int) := by rw [IntKind.wrap_i64]; omega
      subst ea
      clear hg3 hki hsw hgg hG hS hcn hfi hG0
      have hb := bit_and kp (kk % 64) hkp
      cases hbk : K.bit kp kk
      · have hbk' : kp.testBit (kk % 64) = false := hbk
        rw [hbk'] at hb
        simp only [Bool.false_eq_true, if_false] at hb
        have HBK := hide hbk
        clear hbk hbk'
        go_wp2
        go_roundw
        case rel =>
          refine ⟨kk + 1, sw, rfl, by omega, HSS.out, HGR.out, hsz, HGG.out, fun j hj => ?_⟩
          rw [HSW.out j hj]
          by_cases e : j = i
          · subst e
            rw [HCN.out, HBK.out]; simp
          · rw [K.sel (K.fr s) i kk HFI.out HCN.out j e]
        case measure => show N - ((kk + 1 : Nat) : Int).toNat < N - ((kk : Nat) : Int).toNat; omega
      · have hbk' : kp.testBit (kk % 64) = true := hbk
        rw [hbk'] at hb
        simp only [if_true] at hb
        have HBK := hide hbk
        clear hbk hbk'
        have hRD : RowAt wr D 51 (dkRow s.sz S s.n M s.dead s.cut s.left) := (HGR.out.block D H.out.row.lt (fun e => H.out.DS (by injection e))).trans H.out.row
        have hMA : MapAt wr M uv s.n := H.out.un.heap (HGR.out.block M H.out.un.lt (fun e => H.out.SM (by injection e with e; exact e.symm)))
        obtain ⟨c, huc⟩ : ∃ c, uv i = some c := by
          have h1 := H.out.hun i
          have h2 : (s.un i).isSome = true := HFI.out
          rw [h2] at h1
          exact Option.isSome_iff_exists.1 h1
        have hlk := hMA.get i (by omega)
        rw [huc] at hlk
        simp only [Option.getD_some] at hlk
        obtain ⟨va, vm, vk, rfl⟩ := H.out.uform huc
        have HUC := hide huc
        have z1 : wr.cell? ⟨D, 1, none⟩ = some (.slice (some ⟨S, 0, none⟩) n n) := by rw [HN.out]; exact hRD.cell 1
        have z2 : wr.cell? ⟨D, 2, none⟩ = some (.map (some M)) := hRD.cell 2
        have z3 : wr.cell? ⟨S, i, none⟩ = some (sw i) := by rw [HSS.out.cell i]; simp [hin]
        have z4 : wr.frozen? ⟨S, i, none⟩ = false := HSS.out.frozen i
        have q1 : wr.drew.cell? ⟨D, 1, none⟩ = some (.slice (some ⟨S, 0, none⟩) n n) ∧ wr.drew.cell? ⟨D, 2, none⟩ = some (.map (some M)) ∧ (Instr.lookup 49 (.map (some M)) (.int .i64 (i : Int)) false).run Try.prog wr.drew = .ok (.slice va vm vk) wr.drew ∧ wr.drew.cell? ⟨S, i, none⟩ = some (sw i) ∧ wr.drew.frozen? ⟨S, i, none⟩ = false := ⟨z1, z2, by have := (show MapAt wr.drew M uv s.n from hMA).get i (by omega); rw [huc] at this; exact this, z3, z4⟩
        have q2 : (wr.drew.setCell ⟨S, i, none⟩ (.slice va vm vk)).cell? ⟨D, 1, none⟩ = some (.slice (some ⟨S, 0, none⟩) n n) ∧ (wr.drew.setCell ⟨S, i, none⟩ (.slice va vm vk)).cell? ⟨D, 2, none⟩ = some (.map (some M)) ∧ (Instr.lookup 49 (.map (some M)) (.int .i64 (i : Int)) false).run Try.prog (wr.drew.setCell ⟨S, i, none⟩ (.slice va vm vk)) = .ok (.slice va vm vk) (wr.drew.setCell ⟨S, i, none⟩ (.slice va vm vk)) := by
          have hr2 : RowAt (wr.drew.setCell ⟨S, i, none⟩ (.slice va vm vk)) D 51 (dkRow s.sz S s.n M s.dead s.cut s.left) := (show RowAt wr.drew D _ _ from hRD).other _ _ H.out.DS
          refine ⟨by rw [HN.out]; exact hr2.cell 1, hr2.cell 2, ?_⟩
          have := ((show MapAt wr.drew M uv s.n from hMA).heap (w' := wr.drew.setCell ⟨S, i, none⟩ (.slice va vm vk)) (heap_setCell_other _ _ _ _ (fun e => H.out.SM e.symm))).get i (by omega)
          rw [huc] at this; exact this
        clear hMA hRD huc
        go_wp2
        go_region_held3 (fun w' => w'.cell? ⟨D, 1, none⟩ = some (.slice (some ⟨S, 0, none⟩) n n) ∧ w'.cell? ⟨D, 2, none⟩ = some (.map (some M)) ∧ (Instr.lookup 49 (.map (some M)) (.int .i64 (i : Int)) false).run Try.prog w' = .ok (.slice va vm vk) w') (first | exact ⟨z1, z2, hlk⟩ | exact ⟨q1.1, q1.2.1, q1.2.2.1⟩ | exact q2) (fail)
        clear q1 q2 hlk z1 z2 z3 z4
        have HF : Hid (RowAt (wr.setCell ⟨S, i, none⟩ (.slice va vm vk)).drew S 32 ((List.range n).map fun j => if j = i then .slice va vm vk else sw j).toArray ∧ w.grownBy (wr.setCell ⟨S, i, none⟩ (.slice va vm vk)).drew (some S) ∧ w1.heap.size ≤ (wr.setCell ⟨S, i, none⟩ (.slice va vm vk)).drew.heap.size ∧ ∀ q, w.heap.size ≤ q → q < w1.heap.size → (wr.setCell ⟨S, i, none⟩ (.slice va vm vk)).drew.heap[q]? = w1.heap[q]?) := by
          refine ⟨?_, ?_, ?_, ?_⟩
          · have := HSS.out.set i (.slice va vm vk)
            rw [row_set] at this
            exact this
          · exact ⟨HGR.out.os, HGR.out.tape, HGR.out.output, by show _ ≤ (wr.setCell ⟨S, i, none⟩ _).heap.size; simp [World.setCell]; exact HGR.out.size, fun k hk hk2 => by
              show (wr.setCell ⟨S, i, none⟩ _).heap[k]? = _
              rw [heap_setCell_other _ _ _ _ (fun e => hk2 (by rw [e]))]; exact HGR.out.block k hk hk2⟩
          · show _ ≤ (wr.setCell ⟨S, i, none⟩ _).heap.size
            simp [World.setCell]; exact hsz
          · intro q hq1 hq2
            show (wr.setCell ⟨S, i, none⟩ _).heap[q]? = _
            rw [heap_setCell_other _ _ _ _ (fun e => by have := H.out.sure.lt; simp at e; omega)]; exact HGG.out q hq1 hq2
        go_wp2
        go_roundw
        case rel =>
          refine ⟨kk + 1, fun j => if j = i then .slice va vm vk else sw j, rfl, by omega, HF.out.1, HF.out.2.1, HF.out.2.2.1, HF.out.2.2.2, fun j hj => ?_⟩
          by_cases e : j = i
          · subst e
            simp [HFI.out, HCN.out, HBK.out, HUC.out]
          · simp only [e, if_false]
            rw [K.sel (K.fr s) i kk HFI.out HCN.out j e]
            exact HSW.out j hj
        case measure => show N - ((kk + 1 : Nat) : Int).toNat < N - ((kk : Nat) : Int).toNat; omega
    · have hd : decide ((kk : Int) < (N : Int)) = false := by simp; omega
      have hkN : kk = N := by omega
      have hcr := H.out.fin_crash kp hG (by rw [← HN.out]; exact hS) (fun i hi => by
        rw [hsw i (by rw [HN.out]; exact hi), hkN, HNN.out, K.ks_len, HN.out])
      have HC := hide hcr
      have hRD : RowAt wr D 51 (dkRow s.sz S s.n M s.dead s.cut s.left) := (hG.block D H.out.row.lt (fun e => H.out.DS (by injection e))).trans H.out.row
      have hR1 := hRD.alloc (.map #[] 0)
      have u2 := hR1.cell 2
      have v2 := hR1.frozen 2
      have hR2 := hR1.set 2 (.map (some wr.heap.size))
      have u3 := hR2.cell 3
      have v3 := hR2.frozen 3
      have hR3 := hR2.set 3 (.bool false)
      have u4 := hR3.cell 4
      have v4 := hR3.frozen 4
      have hR4 := hR3.set 4 (.bool false)
      have u5 := hR4.cell 5
      have v5 := hR4.frozen 5
      have hmm : ∀ W : World, (Instr.makeMap 49 none).run Try.prog W = .ok (.map (some W.heap.size)) (W.alloc (.map #[] 0)) := fun W => run_makeMap _ W
      clear hcr hRD hR1 hR2 hR3 hR4 hS hG hgg hsw
      go_wp2
      go_end0
      exact ⟨rfl, HC.out⟩
end Go.Proofs.Ytmjdlejomohbdaa
