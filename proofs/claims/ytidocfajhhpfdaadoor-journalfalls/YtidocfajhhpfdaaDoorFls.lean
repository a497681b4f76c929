/- Crash. -/
import Derived.Test.YtidocfajhhpfdaaDoorDsy
import Derived.Laws.BitsAllLaws
import Derived.Test.YtidocfajhhpfdaaDoorJci
import Derived.Test.YtidocfajhhpfdaaDoorKps
namespace Go.Proofs.YtidocfajhhpfdaaDoor
open Go.RowKit
set_option maxRecDepth 5000 in
theorem Dk.fr {A : Nat → Prop} {w : World} {D S M : Nat} {s : K.St} {sv : Nat → Value} {uv : Nat → Option Value} (h : Dk A w D S M s sv uv) : (fun i => (uv i).isSome) = K.fr s := by
  funext i; exact h.hun i
set_option maxRecDepth 5000 in
theorem bit_and (kp j : Nat) (h : kp < 18446744073709551616) : bits .and .u64 ((kp : Int) / 2 ^ j) 1 = if kp.testBit j then 1 else 0 := by
  have e : ((kp : Int) / 2 ^ j) = ((kp / 2 ^ j : Nat) : Int) := by simp
  have hl : kp / 2 ^ j < 18446744073709551616 := Nat.lt_of_le_of_lt (Nat.div_le_self _ _) h
  have h1 := u64_and_nat (kp / 2 ^ j) 1 hl (by omega)
  rw [e]
  have e2 : ((1 : Nat) : Int) = 1 := rfl
  rw [e2] at h1
  rw [h1, Nat.and_one_is_mod, Nat.testBit_eq_decide_div_mod_eq]
  rcases Nat.mod_two_eq_zero_or_one (kp / 2 ^ j) with h0 | h0 <;> simp [h0]
set_option maxRecDepth 5000 in
theorem K.sel (p : Nat → Bool) (i k : Nat) (hp : p i = true) (hc : K.cnt p i = k) (j : Nat) (e : j ≠ i) : (p j && decide (K.cnt p j < k + 1)) = (p j && decide (K.cnt p j < k)) := by
  cases hf : p j
  · rfl
  · have hne : K.cnt p j ≠ k := by
      rcases Nat.lt_or_gt_of_ne e with h | h
      · have := K.cnt_lt p hf h; omega
      · have := K.cnt_lt p hp h; omega
    by_cases h : K.cnt p j < k
    · simp [h]; omega
    · simp [h]; omega
def crEnd (W : World) (D : Nat) : World := ((((W.alloc (.map #[] 0)).setCell ⟨D, 2, none⟩ (.map (some W.heap.size))).setCell ⟨D, 3, none⟩ (.bool false)).setCell ⟨D, 4, none⟩ (.bool false)).setCell ⟨D, 5, none⟩ (.int .i64 0)
set_option maxRecDepth 5000 in
theorem Dk.fin_crash {A : Nat → Prop} {w W : World} {D S M : Nat} {s : K.St} {sv sw : Nat → Value} {uv : Nat → Option Value} (h : Dk A w D S M s sv uv) (kp : Nat) (hG : w.grownBy W (some S)) (hS : RowAt W S 22 ((List.range s.n).map sw).toArray)
    (hsw : ∀ i, i < s.n → sw i = if K.fr s i && decide (K.cnt (K.fr s) i < K.cnt (K.fr s) s.n) && K.bit kp (K.cnt (K.fr s) i) then (uv i).getD (sv i) else sv i) : ∃ M', DiskAt A (crEnd W D) D S M' (s.crashed kp) ∧ Mv D S M w (crEnd W D) ∧ w.heap.size ≤ M' ∧ M' < (crEnd W D).heap.size := by
  have hDS := h.DS
  have hRD : RowAt W D 63 (dkRow s.sz S s.n M s.dead s.cut s.left) := (hG.block D h.row.lt (fun e => hDS (by injection e))).trans h.row
  have hlt := hRD.lt
  have hk1 : Rows w W := fun g c hg => (hG.block g hg.lt (fun e => (h.sure.ne hg tne2) (by injection e with e; exact e.symm))).trans hg
  have hne : ∀ g, g ≠ D → g < W.heap.size → (crEnd W D).heap[g]? = W.heap[g]? := fun g hg hl => by
    unfold crEnd
    rw [heap_setCell_other _ _ _ _ hg, heap_setCell_other _ _ _ _ hg, heap_setCell_other _ _ _ _ hg, heap_setCell_other _ _ _ _ hg, Below.heap_alloc _ _ _ hl]
  have hk2 : Rows W (crEnd W D) := fun g c hg => (hne g (fun e => (hRD.ne hg tne1) e.symm) hg.lt).trans hg
  have hk := hk1.trans hk2
  refine ⟨W.heap.size, ⟨sw, fun _ => none, ?_⟩, ?_, hG.size, ?_⟩
  · have e := K.crAt_full s kp h.hlt
    rw [← e]
    refine ⟨?_, ?_, ?_, ?_, fun _ => rfl, fun _ _ _ h => (by cases h), fun _ h => (by cases h), h.b1, h.b2, h.b3, h.b4, by show (0 : Nat) ≤ _; omega, fun g hg => by have := h.hA g hg; have := hG.size; simp [crEnd, World.setCell]; omega⟩
    · have h1 := (((((hRD.alloc (.map #[] 0)).set 2 (.map (some W.heap.size))).set 3 (.bool false)).set 4 (.bool false)).set 5 (.int .i64 0))
      exact h1
    · exact (hne S hDS.symm hS.lt).trans hS
    · have h0 := MapAt.made W s.n
      refine h0.heap ?_
      unfold crEnd
      have hg : W.heap.size ≠ D := by omega
      rw [heap_setCell_other _ _ _ _ hg, heap_setCell_other _ _ _ _ hg, heap_setCell_other _ _ _ _ hg, heap_setCell_other _ _ _ _ hg]
    · intro i hi
      show Sec A _ s.sz (sw i) (K.crAt s kp (K.cnt (K.fr s) s.n) i)
      rw [hsw i hi]
      unfold K.crAt
      split
      · rename_i hb
        have h1 := h.sec i hi
        have h2 : K.fr s i = true := by simp at hb; exact hb.1.1
        have h3 : ((s.un i).orElse fun _ => s.su i) = s.un i := by
          unfold K.fr at h2
          cases hu : s.un i with
          | none => rw [hu] at h2; cases h2
          | some l => rfl
        rw [h3] at h1
        exact h1.heap hk
      · exact (h.hsu i hi).heap hk
  · refine ⟨hG.os, hG.tape, hG.output, Nat.le_trans hG.size (by simp [crEnd, World.setCell]), fun g hg h1 h2 _ => ?_⟩
    rw [hne g h1 (Nat.lt_of_lt_of_le hg hG.size), hG.block g hg (fun e => h2 (by injection e))]
  · simp [crEnd, World.setCell]
set_option maxHeartbeats 1000000 in
set_option maxRecDepth 5000 in
theorem crash_any {A : Nat → Prop} (w : World) (D S M : Nat) (s : K.St) (h : DiskAt A w D S M s) (kp : Nat) (hkp : kp < 18446744073709551616) : Calls Tryd.prog 24 #[.pointer (some ⟨D, 0, none⟩), .int .u64 (kp : Int)] w fun e w' => e = .returned (.tuple #[]) ∧ ∃ M', DiskAt A w' D S M' (s.crashed kp) ∧ Mv D S M w w' ∧ w.heap.size ≤ M' ∧ M' < w'.heap.size := by
  obtain ⟨sv, uv, h⟩ := h
  have c2 : w.cell? ⟨D, 2, none⟩ = some (.map (some M)) := h.cell 2
  have H := hide h
  have hso := sorted_any w M s.n uv h.un (by have := h.b4; omega)
  rw [h.fr] at hso
  obtain ⟨n, hn⟩ : ∃ n, n = s.n := ⟨_, rfl⟩
  have HN := hide hn
  have hn4 := h.b4
  rw [← hn] at hn4 hso
  clear h hn
  obtain ⟨N, hN⟩ : ∃ N, N = (K.ks (K.fr s) n).length := ⟨_, rfl⟩
  rw [← hN] at hso
  have HNN := hide hN
  have hNn : N ≤ n := by rw [hN, K.ks_len]; exact K.cnt_self _ _
  clear hN
  go_enter Tryd.func24, Tryd.ntmps24
  go_wp2_with (first
    | (go_at_call 39; refine (keys_any _ _).mono ?_; rintro e w' ⟨rfl, hw⟩; rw [hw]; clear hw w')
    | (go_at_call 38; refine hso.mono ?_; rintro e w1 ⟨v, rfl, hrow, hB⟩; obtain ⟨ao, cap, e1⟩ : ∃ ao cap, v = .slice ao N cap := (by rcases hrow.2 with ⟨e, e2⟩ | ⟨g, cap, cur, e, _⟩; exact ⟨none, 0, by rw [e, e2]⟩; exact ⟨_, _, e⟩); rw [e1] at hrow ⊢; clear e1))
  have hG0 : w.grownBy w1 (some S) := ⟨hB.os, hB.tape, hB.output, Nat.le_trans (by simp) hB.size, fun k hk _ => by rw [hB.block k (by omega), Below.heap_alloc _ _ _ hk]⟩
  obtain ⟨g, hg⟩ : ∃ g, ∀ k i : Nat, (K.ks (K.fr s) n)[k]? = some i → ao = some ⟨g, 0, none⟩ ∧ w.heap.size ≤ g ∧ g < w1.heap.size ∧ w1.cell? ⟨g, k, none⟩ = some (.int .i64 (i : Int)) := by
    have hr := hrow
    rcases hrow.2 with ⟨e, e2⟩ | ⟨g, cap', cur, e, e1, e2, e3, e4, e5, e6⟩
    · refine ⟨0, fun k i hk => ?_⟩
      have := (List.getElem?_eq_some_iff.1 hk).1
      rw [← HNN.out, e2] at this
      omega
    · injection e with e _ _
      refine ⟨g, fun k i hk => ⟨e, by omega, (Array.getElem?_eq_some_iff.1 e2).1, ?_⟩⟩
      have hkN : k < N := by have := (List.getElem?_eq_some_iff.1 hk).1; rw [HNN.out]; exact this
      have hc := World.ownsRow.cellAt (g := g) (by rw [e] at hr; exact hr) k (by omega)
      rw [hc, List.getElem?_map, hk]; rfl
  have HG := hide hg
  have HS0 : Hid (RowAt w1 S 22 ((List.range n).map sv).toArray) := by
    show RowAt _ _ _ _
    rw [HN.out]
    have hl := H.out.sure.lt
    exact ((hB.block S (by omega)).trans (Below.heap_alloc _ _ _ hl)).trans H.out.sure
  clear hg hrow hB hso
  go_loopw [13] (fun k wr => ∃ (kk : Nat) (sw : Nat → Value), k = .int .i64 (kk : Int) ∧ kk ≤ N ∧ RowAt wr S 22 ((List.range n).map sw).toArray ∧ w.grownBy wr (some S) ∧ w1.heap.size ≤ wr.heap.size ∧ (∀ q, w.heap.size ≤ q → q < w1.heap.size → wr.heap[q]? = w1.heap[q]?) ∧ ∀ i : Nat, i < n → sw i = if K.fr s i && decide (K.cnt (K.fr s) i < kk) && K.bit kp (K.cnt (K.fr s) i) then (uv i).getD (sv i) else sv i)
    (fun k _ => N - (match k with | .int _ x => x.toNat | _ => 0))
  case atStart => exact ⟨0, sv, rfl, Nat.zero_le _, HS0.out, hG0, Nat.le_refl _, fun _ _ _ => rfl, fun i _ => by simp⟩
  case round =>
    obtain ⟨kk, sw, rfl, hkk, hS, hG, hsz, hgg, hsw⟩ := hrel
    by_cases hlt : kk < N
    · have hd : decide ((kk : Int) < (N : Int)) = true := by simp; exact hlt
      obtain ⟨i, hki⟩ : ∃ i, (K.ks (K.fr s) n)[kk]? = some i := ⟨_, List.getElem?_eq_getElem (by rw [← HNN.out]; exact hlt)⟩
      obtain ⟨ea, hg1, hg2, hg3⟩ := HG.out kk i hki
      obtain ⟨hin, hfi, hcn⟩ := K.ks_get _ _ _ _ hki
      have y0 : wr.cell? ⟨g, kk, none⟩ = some (.int .i64 (i : Int)) := (World.cell?_of_block (a := ⟨g, kk, none⟩) (hgg g hg1 hg2)).trans hg3
      have HKI := hide hki
      have HSW := hide hsw
      have HGG := hide hgg
      have HGR := hide hG
      have HSS := hide hS
      have HCN := hide hcn
      have HFI := hide hfi
      have hadd : IntKind.i64.wrap ((kk : Int) + 1) = ((kk + 1 : Nat) : Int) := by rw [IntKind.wrap_i64]; omega
      subst ea
      clear hg3 hki hsw hgg hG hS hcn hfi hG0
      have hb := bit_and kp (kk % 64) hkp
      cases hbk : K.bit kp kk
      · have hbk' : kp.testBit (kk % 64) = false := hbk
        rw [hbk'] at hb
        simp only [Bool.false_eq_true, if_false] at hb
        have HBK := hide hbk
        clear hbk hbk'
        go_wp2
        go_roundw
        case rel =>
          refine ⟨kk + 1, sw, rfl, by omega, HSS.out, HGR.out, hsz, HGG.out, fun j hj => ?_⟩
          rw [HSW.out j hj]
          by_cases e : j = i
          · subst e
            rw [HCN.out, HBK.out]; simp
          · rw [K.sel (K.fr s) i kk HFI.out HCN.out j e]
        case measure => show N - ((kk + 1 : Nat) : Int).toNat < N - ((kk : Nat) : Int).toNat; omega
      · have hbk' : kp.testBit (kk % 64) = true := hbk
        rw [hbk'] at hb
        simp only [if_true] at hb
        have HBK := hide hbk
        clear hbk hbk'
        have hRD : RowAt wr D 63 (dkRow s.sz S s.n M s.dead s.cut s.left) := (HGR.out.block D H.out.row.lt (fun e => H.out.DS (by injection e))).trans H.out.row
        have hMA : MapAt wr M uv s.n := H.out.un.heap (HGR.out.block M H.out.un.lt (fun e => H.out.SM (by injection e with e; exact e.symm)))
        obtain ⟨c, huc⟩ : ∃ c, uv i = some c := by
          have h1 := H.out.hun i
          have h2 : (s.un i).isSome = true := HFI.out
          rw [h2] at h1
          exact Option.isSome_iff_exists.1 h1
        have hlk := hMA.get i (by omega)
        rw [huc] at hlk
        simp only [Option.getD_some] at hlk
        obtain ⟨va, vm, vk, rfl⟩ := H.out.uform huc
        have HUC := hide huc
        have z1 : wr.cell? ⟨D, 1, none⟩ = some (.slice (some ⟨S, 0, none⟩) n n) := by rw [HN.out]; exact hRD.cell 1
        have z2 : wr.cell? ⟨D, 2, none⟩ = some (.map (some M)) := hRD.cell 2
        have z3 : wr.cell? ⟨S, i, none⟩ = some (sw i) := by rw [HSS.out.cell i]; simp [hin]
        have z4 : wr.frozen? ⟨S, i, none⟩ = false := HSS.out.frozen i
        have q1 : wr.drew.cell? ⟨D, 1, none⟩ = some (.slice (some ⟨S, 0, none⟩) n n) ∧ wr.drew.cell? ⟨D, 2, none⟩ = some (.map (some M)) ∧ (Instr.lookup 61 (.map (some M)) (.int .i64 (i : Int)) false).run Tryd.prog wr.drew = .ok (.slice va vm vk) wr.drew ∧ wr.drew.cell? ⟨S, i, none⟩ = some (sw i) ∧ wr.drew.frozen? ⟨S, i, none⟩ = false := ⟨z1, z2, by have := (show MapAt wr.drew M uv s.n from hMA).get i (by omega); rw [huc] at this; exact this, z3, z4⟩
        have q2 : (wr.drew.setCell ⟨S, i, none⟩ (.slice va vm vk)).cell? ⟨D, 1, none⟩ = some (.slice (some ⟨S, 0, none⟩) n n) ∧ (wr.drew.setCell ⟨S, i, none⟩ (.slice va vm vk)).cell? ⟨D, 2, none⟩ = some (.map (some M)) ∧ (Instr.lookup 61 (.map (some M)) (.int .i64 (i : Int)) false).run Tryd.prog (wr.drew.setCell ⟨S, i, none⟩ (.slice va vm vk)) = .ok (.slice va vm vk) (wr.drew.setCell ⟨S, i, none⟩ (.slice va vm vk)) := by
          have hr2 : RowAt (wr.drew.setCell ⟨S, i, none⟩ (.slice va vm vk)) D 63 (dkRow s.sz S s.n M s.dead s.cut s.left) := (show RowAt wr.drew D _ _ from hRD).other _ _ H.out.DS
          refine ⟨by rw [HN.out]; exact hr2.cell 1, hr2.cell 2, ?_⟩
          have := ((show MapAt wr.drew M uv s.n from hMA).heap (w' := wr.drew.setCell ⟨S, i, none⟩ (.slice va vm vk)) (heap_setCell_other _ _ _ _ (fun e => H.out.SM e.symm))).get i (by omega)
          rw [huc] at this; exact this
        clear hMA hRD huc
        go_wp2
        go_region_held3 (fun w' => w'.cell? ⟨D, 1, none⟩ = some (.slice (some ⟨S, 0, none⟩) n n) ∧ w'.cell? ⟨D, 2, none⟩ = some (.map (some M)) ∧ (Instr.lookup 61 (.map (some M)) (.int .i64 (i : Int)) false).run Tryd.prog w' = .ok (.slice va vm vk) w') (first | exact ⟨z1, z2, hlk⟩ | exact ⟨q1.1, q1.2.1, q1.2.2.1⟩ | exact q2) (fail)
        clear q1 q2 hlk z1 z2 z3 z4
        have HF : Hid (RowAt (wr.setCell ⟨S, i, none⟩ (.slice va vm vk)).drew S 22 ((List.range n).map fun j => if j = i then .slice va vm vk else sw j).toArray ∧ w.grownBy (wr.setCell ⟨S, i, none⟩ (.slice va vm vk)).drew (some S) ∧ w1.heap.size ≤ (wr.setCell ⟨S, i, none⟩ (.slice va vm vk)).drew.heap.size ∧ ∀ q, w.heap.size ≤ q → q < w1.heap.size → (wr.setCell ⟨S, i, none⟩ (.slice va vm vk)).drew.heap[q]? = w1.heap[q]?) := by
          refine ⟨?_, ?_, ?_, ?_⟩
          · have := HSS.out.set i (.slice va vm vk)
            rw [row_set] at this
            exact this
          · exact ⟨HGR.out.os, HGR.out.tape, HGR.out.output, by show _ ≤ (wr.setCell ⟨S, i, none⟩ _).heap.size; simp [World.setCell]; exact HGR.out.size, fun k hk hk2 => by
              show (wr.setCell ⟨S, i, none⟩ _).heap[k]? = _
              rw [heap_setCell_other _ _ _ _ (fun e => hk2 (by rw [e]))]; exact HGR.out.block k hk hk2⟩
          · show _ ≤ (wr.setCell ⟨S, i, none⟩ _).heap.size
            simp [World.setCell]; exact hsz
          · intro q hq1 hq2
            show (wr.setCell ⟨S, i, none⟩ _).heap[q]? = _
            rw [heap_setCell_other _ _ _ _ (fun e => by have := H.out.sure.lt; simp at e; omega)]; exact HGG.out q hq1 hq2
        go_wp2
        go_roundw
        case rel =>
          refine ⟨kk + 1, fun j => if j = i then .slice va vm vk else sw j, rfl, by omega, HF.out.1, HF.out.2.1, HF.out.2.2.1, HF.out.2.2.2, fun j hj => ?_⟩
          by_cases e : j = i
          · subst e
            simp [HFI.out, HCN.out, HBK.out, HUC.out]
          · simp only [e, if_false]
            rw [K.sel (K.fr s) i kk HFI.out HCN.out j e]
            exact HSW.out j hj
        case measure => show N - ((kk + 1 : Nat) : Int).toNat < N - ((kk : Nat) : Int).toNat; omega
    · have hd : decide ((kk : Int) < (N : Int)) = false := by simp; omega
      have hkN : kk = N := by omega
      have hcr := H.out.fin_crash kp hG (by rw [← HN.out]; exact hS) (fun i hi => by
        rw [hsw i (by rw [HN.out]; exact hi), hkN, HNN.out, K.ks_len, HN.out])
      have HC := hide hcr
      have hRD : RowAt wr D 63 (dkRow s.sz S s.n M s.dead s.cut s.left) := (hG.block D H.out.row.lt (fun e => H.out.DS (by injection e))).trans H.out.row
      have hR1 := hRD.alloc (.map #[] 0)
      have u2 := hR1.cell 2
      have v2 := hR1.frozen 2
      have hR2 := hR1.set 2 (.map (some wr.heap.size))
      have u3 := hR2.cell 3
      have v3 := hR2.frozen 3
      have hR3 := hR2.set 3 (.bool false)
      have u4 := hR3.cell 4
      have v4 := hR3.frozen 4
      have hR4 := hR3.set 4 (.bool false)
      have u5 := hR4.cell 5
      have v5 := hR4.frozen 5
      have hmm : ∀ W : World, (Instr.makeMap 61 none).run Tryd.prog W = .ok (.map (some W.heap.size)) (W.alloc (.map #[] 0)) := fun W => run_makeMap _ W
      clear hcr hRD hR1 hR2 hR3 hR4 hS hG hgg hsw
      go_wp2
      go_end0
      exact ⟨rfl, HC.out⟩
end Go.Proofs.YtidocfajhhpfdaaDoor

/- What the law JournalTwice wants: commits with power, crashes of what is sure. -/
namespace Go.Proofs.YtidocfajhhpfdaaDoor
open Go.RowKit
set_option maxRecDepth 5000 in
theorem J.Is.calmed {s : K.St} {h : J.H} {L : List (List UInt8)} (hi : J.Is s h L) : J.Is s.calm h L := hi.same (calm_pw s) rfl rfl (fun _ => rfl)
/- where nothing is unsure a crash loses nothing -/
set_option maxRecDepth 5000 in
theorem J.Is.sure {s : K.St} {h : J.H} {L : List (List UInt8)} (hi : J.Is s.calm h L) (hun : ∀ i, s.un i = none) (keep : Nat) : J.Is (s.crashed keep) h L := hi.same (crashed_pw _ _) rfl rfl (fun i => rd_crashed_sure s keep i (hun i))
set_option maxRecDepth 5000 in
theorem J.Is.sureS {s : K.St} {h : J.H} {L : List (List UInt8)} (hi : J.Is s.calm h L) (keep : Nat) : J.Is (s.synced.crashed keep) h L := J.Is.sure (s := s.synced) (by rw [calm_synced]; exact hi.synced) (fun _ => rfl) keep
set_option maxRecDepth 5000 in
theorem J.Is.sureD {s : K.St} {h : J.H} {L : List (List UInt8)} (hi : J.Is s.calm h L) (hun : ∀ i, s.un i = none) (keep : Nat) : J.Is (s.spent.crashed keep) h L := by
  rw [calm_crashed, calm_spent]
  exact hi.sure hun keep
set_option maxRecDepth 5000 in
theorem Mv4.keepBs {W W' : World} {D S M bJ B : Nat} {s : K.St} {x : Array Value} (hm : Mv4 D S M bJ W W') (hd : DiskAt FF W D S M s) (hj : RowAt W bJ 69 x) {v : Value} {R : List (List UInt8)} (hv : OwnBs W B v R) (hS : S < B) : OwnBs W' B v R := by
  obtain ⟨sv, uv, hk⟩ := hd
  refine hv.kept hm.size (fun g o ho hb => ?_)
  have hlt : g < W.heap.size := (Array.getElem?_eq_some_iff.1 ho).1
  have hrow := hk.row
  have hsur := hk.sure
  unfold RowAt at hrow hsur hj
  refine hm.block g hlt (fun e => ?_) (fun e => ?_) ?_ (fun e => ?_)
  · rw [e, hrow] at ho; injection ho with ho
    rcases hb with ⟨c, fr, hb⟩ | ⟨_, c, fr, hb⟩ <;> (rw [hb] at ho; injection ho with _ ho _; exact absurd ho (by decide))
  · rcases hb with ⟨c, fr, hb⟩ | ⟨hg, _⟩
    · rw [e, hsur] at ho; injection ho with ho; rw [hb] at ho; injection ho with _ ho _; exact absurd ho (by decide)
    · omega
  · rcases hb with ⟨c, fr, rfl⟩ | ⟨_, c, fr, rfl⟩
    · exact hk.un.row_ne ho
    · exact hk.un.row_ne ho
  · rw [e, hj] at ho; injection ho with ho
    rcases hb with ⟨c, fr, hb⟩ | ⟨_, c, fr, hb⟩ <;> (rw [hb] at ho; injection ho with _ ho _; exact absurd ho (by decide))
/- Commit with power, where there is room -/
set_option maxRecDepth 5000 in
theorem commit_is3 (w : World) (ht : Tab w) (D S M bJ : Nat) (s : K.St) (h : J.H) (L : List (List UInt8)) (hi : J.Is s h L) (hd : DiskAt FF w D S M s) (hj : RowAt w bJ 69 (jrow D h false)) (hT0 : 0 < D ∧ 0 < S ∧ 0 < M)
    (ao : Option Addr) (c : Nat) (l : List (List UInt8)) (hls : SlBs w ao l) (hc : h.c + 1 < 4611686018427387904) (hb : h.b + l.length ≤ 1048576) (hr : h.u + J.fsz l ≤ J.arb s) :
    Calls Tryd.prog 21 #[.pointer (some ⟨bJ, 0, none⟩), .slice ao l.length c] w fun e w' => e = .returned (.int .i64 0) ∧ ∃ M' s', LaidC w w' D S M bJ s (nextH h l) (L ++ l) M' s' ∧ Pw s' := by
  obtain ⟨hb1, hb2, hb3, hb4⟩ := hd.bds
  refine commit_any w D bJ h false hj _ _ ?_
  refine (lay_any w ht D S M bJ s h h hi.ok.a (by omega) ao c l hb hls hj hd hi.pw hi.n8 hr hT0).mono ?_
  rintro e w' ⟨rfl, k, M', ⟨hk, _⟩, h1, h2, h3, h4⟩
  have hlen : ∀ i, i < s.n → (s.rd i).length = s.sz := fun i hi => hd.rdlen i hi
  obtain ⟨k1, k2, k3⟩ := laid_keep (2 + h.a * J.ars s) h.u (J.enc (J.frl h.b l)) k hi.pw
  have p1 := synced_pw k1
  have p2 := put_pw p1 ((h.c + 1) % 2) (J.hb (nextH h l) s.sz)
  have hI := hi.lay hb1 hb2 hb4 hlen h rfl hi.ok.a L hi.fr l (by omega) hb hr k hk
  exact ⟨⟨0, rfl⟩, rfl, M', _, ⟨h1, h2, hI.calmed, hI.pw.1, fun _ => rfl, h3, h4, by rw [synced_n p2, put_n p1, synced_n k1, k3], by rw [synced_sz p2, put_sz p1, synced_sz k1, k2]⟩, hI.pw⟩
/- a disk behind w0, lists behind it -/
structure TW (w0 : World) (D S M B : Nat) (s : K.St) (vx vy : Value) (X Y : List (List UInt8)) (W : World) : Prop where
  bl : Below w0.heap.size w0 W
  bD : w0.heap.size ≤ D
  bS : w0.heap.size ≤ S
  bM : w0.heap.size ≤ M
  dk : DiskAt FF W D S M s
  x : OwnBs W B vx X
  y : OwnBs W B vy Y
  SB : S < B
set_option maxRecDepth 5000 in
theorem TW.mv {w0 W W' : World} {D S M M' B : Nat} {s s' : K.St} {vx vy : Value} {X Y : List (List UInt8)} (h : TW w0 D S M B s vx vy X Y W) (hm : Mv D S M W W') (hM : M' = M ∨ W.heap.size ≤ M') (hd : DiskAt FF W' D S M' s') : TW w0 D S M' B s' vx vy X Y W' :=
  ⟨hm.below h.bl h.bl.size h.bD h.bS h.bM, h.bD, h.bS, hM.elim (fun e => by rw [e]; exact h.bM) (fun e => Nat.le_trans h.bl.size e), hd, hm.keepBs h.dk h.x h.SB, hm.keepBs h.dk h.y h.SB, h.SB⟩
set_option maxRecDepth 5000 in
theorem TW.mv4 {w0 W W' : World} {D S M M' B bJ : Nat} {s s' : K.St} {vx vy : Value} {X Y : List (List UInt8)} {r : Array Value} (h : TW w0 D S M B s vx vy X Y W) (hj : RowAt W bJ 69 r) (hJ : w0.heap.size ≤ bJ) (hm : Mv4 D S M bJ W W') (hM : M' = M ∨ W.heap.size ≤ M') (hd : DiskAt FF W' D S M' s') : TW w0 D S M' B s' vx vy X Y W' :=
  ⟨hm.below h.bl h.bl.size h.bD h.bS h.bM hJ, h.bD, h.bS, hM.elim (fun e => by rw [e]; exact h.bM) (fun e => Nat.le_trans h.bl.size e), hd, hm.keepBs h.dk hj h.x h.SB, hm.keepBs h.dk hj h.y h.SB, h.SB⟩
set_option maxRecDepth 5000 in
theorem TW.tab {w0 W : World} {D S M B : Nat} {s : K.St} {vx vy : Value} {X Y : List (List UInt8)} (h : TW w0 D S M B s vx vy X Y W) (ht : Tab w0) : Tab W := ht.below h.bl ht.1
set_option maxRecDepth 5000 in
theorem TW.pos {w0 W : World} {D S M B : Nat} {s : K.St} {vx vy : Value} {X Y : List (List UInt8)} (h : TW w0 D S M B s vx vy X Y W) (ht : Tab w0) : 0 < D ∧ 0 < S ∧ 0 < M := by
  have := ht.1; have := h.bD; have := h.bS; have := h.bM; omega
end Go.Proofs.YtidocfajhhpfdaaDoor

/- What the law JournalFalls wants: a journal in memory on a disk that may be armed. -/
namespace Go.Proofs.YtidocfajhhpfdaaDoor
open Go.RowKit
/- as JW, but that the disk may be armed, and nothing is unsure -/
structure FW (w0 : World) (D S bJ M : Nat) (s : K.St) (h : J.H) (L : List (List UInt8)) (W : World) : Prop where
  bl : Below w0.heap.size w0 W
  bD : w0.heap.size ≤ D
  bS : w0.heap.size ≤ S
  bM : w0.heap.size ≤ M
  bj : w0.heap.size ≤ bJ
  dk : DiskAt FF W D S M s
  is : J.Is s.calm h L
  dead : s.dead = false
  un : ∀ i, s.un i = none
  jr : RowAt W bJ 69 (jrow D h false)
set_option maxRecDepth 5000 in
theorem FW.tab {w0 W : World} {D S bJ M : Nat} {s : K.St} {h : J.H} {L : List (List UInt8)} (hw : FW w0 D S bJ M s h L W) (ht : Tab w0) : Tab W := ht.below hw.bl ht.1
set_option maxRecDepth 5000 in
theorem FW.pos {w0 W : World} {D S bJ M : Nat} {s : K.St} {h : J.H} {L : List (List UInt8)} (hw : FW w0 D S bJ M s h L W) (ht : Tab w0) : 0 < D ∧ 0 < S ∧ 0 < M := by
  have := ht.1; have := hw.bD; have := hw.bS; have := hw.bM; omega
set_option maxRecDepth 5000 in
theorem FW.below {w0 W W' : World} {D S bJ M : Nat} {s : K.St} {h : J.H} {L : List (List UInt8)} (hw : FW w0 D S bJ M s h L W) (hb : Below W.heap.size W W') : FW w0 D S bJ M s h L W' :=
  ⟨hw.bl.trans (hb.mono hw.bl.size), hw.bD, hw.bS, hw.bM, hw.bj, hw.dk.below hb (Nat.le_refl _), hw.is, hw.dead, hw.un, hw.jr.below hb hw.jr.lt⟩
set_option maxRecDepth 5000 in
theorem FW.laid {w0 W W' : World} {D S bJ M M' : Nat} {s s' : K.St} {h h' : J.H} {L L' : List (List UInt8)} (hw : FW w0 D S bJ M s h L W) (hl : LaidC W W' D S M bJ s h' L' M' s') : FW w0 D S bJ M' s' h' L' W' :=
  ⟨hl.mv.below hw.bl hw.bl.size hw.bD hw.bS hw.bM hw.bj, hw.bD, hw.bS, Nat.le_trans hw.bl.size hl.m, hw.bj, hl.dk, hl.is, hl.dead, hl.un, hl.jr⟩
/- Cut -/
set_option maxRecDepth 5000 in
theorem FW.cut {w0 W W' : World} {D S bJ M : Nat} {s : K.St} {h : J.H} {L : List (List UInt8)} (hw : FW w0 D S bJ M s h L W) (k : Nat) (hm : Mv D S M W W') (hd : DiskAt FF W' D S M (s.cutAt k)) : FW w0 D S bJ M (s.cutAt k) h L W' := by
  obtain ⟨sv, uv, hk⟩ := id hw.dk
  exact ⟨hm.below hw.bl hw.bl.size hw.bD hw.bS hw.bM, hw.bD, hw.bS, hw.bM, hw.bj, hd, hw.is, hw.dead, hw.un, mvrow hw.jr hw.dk hm (hk.row.ne hw.jr (by decide)).symm (hk.sure.ne hw.jr (by decide)).symm⟩
/- the power failed, the disk crashed and was opened -/
set_option maxRecDepth 5000 in
theorem FW.again {w0 W W' : World} {D S bJ M M' : Nat} {s' : K.St} {h' : J.H} {L' : List (List UInt8)} (hbl : Below w0.heap.size w0 W) (bD : w0.heap.size ≤ D) (bS : w0.heap.size ≤ S) (bM : w0.heap.size ≤ M) (hi : J.Is s' h' L') (hm : Mv D S M W W') (hM : W.heap.size ≤ M') (hd : DiskAt FF W' D S M' s'.synced) (bj : w0.heap.size ≤ bJ) (hj : RowAt W' bJ 69 (jrow D h' false)) : FW w0 D S bJ M' s'.synced h' L' W' :=
  ⟨hm.below hbl hbl.size bD bS bM, bD, bS, Nat.le_trans hbl.size hM, bj, hd, hi.synced.calmed, hi.synced.pw.1, fun _ => rfl, hj⟩
/- numbers of 64 bits that came in -/
def U64L (w : World) (ao : Option Addr) (L : List Nat) : Prop := 0 < L.length → ∃ b off, ao = some ⟨b, off, none⟩ ∧ b < w.heap.size ∧ ∀ j, j < L.length → w.cell? ⟨b, off + j, none⟩ = some (.int .u64 ((L.getD j 0 : Nat) : Int)) ∧ L.getD j 0 < 18446744073709551616
set_option maxRecDepth 5000 in
theorem U64L.below {w w' : World} {B : Nat} {ao : Option Addr} {L : List Nat} (h : U64L w ao L) (hb : Below B w w') (hB : w.heap.size ≤ B) : U64L w' ao L := fun hn => by
  obtain ⟨b, off, e, h1, h2⟩ := h hn
  exact ⟨b, off, e, Nat.lt_of_lt_of_le h1 hb.size, fun j hj => ⟨(hb.cell (p := ⟨b, off + j, none⟩) (Nat.lt_of_lt_of_le h1 hB)).trans (h2 j hj).1, (h2 j hj).2⟩⟩
end Go.Proofs.YtidocfajhhpfdaaDoor

/- The law JournalFalls. -/
namespace Go.Proofs.YtidocfajhhpfdaaDoor
open Go.RowKit
set_option maxHeartbeats 16000000 in
set_option maxRecDepth 5000 in
theorem falls_walk (w : World) (ht : Tab w) (x : UInt8) (ao : Option Addr) (ca : Nat) (A : List (Int × List UInt8)) (hm : A.length ≤ 9223372036854775807) (hA : AcL w ao A) (bo : Option Addr) (cb : Nat) (C : List UInt8) (hC : SlL w bo C) (ko : Option Addr) (ck : Nat) (Kp : List Nat) (hK : U64L w ko Kp) :
    Calls Tryd.prog 5 #[.int .u8 (x.toNat : Int), .slice ao A.length ca, .slice bo C.length cb, .slice ko Kp.length ck] w fun e w' => e = .returned (.bool true) ∧ Below w.heap.size w w' := by
  have hk := known_any w ht
  have HT := hide ht
  have hpos := ht.1
  have HA := hide hA
  have HC := hide hC
  have HK := hide hK
  have hli : ∀ W, Below w.heap.size w W → Calls Tryd.prog 12 #[.slice ao A.length ca] W fun e w' => e = .returned (.bool (lightB A)) ∧ w' = W := fun W hW => light_any W ao ca A hm (HA.out.below hW (Nat.le_refl _))
  clear ht hA hC hK
  have hx256 := x.toNat_lt
  by_cases hgo : lightB A = true ∧ C.length ≤ 30 ∧ Kp.length ≤ 30
  rotate_left
  · cases hl : lightB A
    · rw [hl] at hli
      clear hl hgo
      go_enter Tryd.func5, Tryd.ntmps5
      go_wp2_with (first
        | (go_at_call 9; refine hk.mono ?_; rintro e w1 ⟨rfl, hB⟩; have B1 := hide hB; clear hB)
        | (go_at_call 12; refine (hli _ B1.out).mono ?_; rintro e w' ⟨rfl, hw⟩; rw [hw]; clear hw w')
        | fail)
      go_ret
      exact ⟨rfl, B1.out⟩
    · rw [hl] at hli
      by_cases h1 : C.length ≤ 30
      · have h2 : (30 : Int) < (Kp.length : Int) := by have : ¬ Kp.length ≤ 30 := fun h => hgo ⟨hl, h1, h⟩; omega
        have h1' : ¬ (30 : Int) < (C.length : Int) := by omega
        clear hl hgo
        go_enter Tryd.func5, Tryd.ntmps5
        go_wp2_with (first
          | (go_at_call 9; refine hk.mono ?_; rintro e w1 ⟨rfl, hB⟩; have B1 := hide hB; clear hB)
          | (go_at_call 12; refine (hli _ B1.out).mono ?_; rintro e w' ⟨rfl, hw⟩; rw [hw]; clear hw w')
          | fail)
        go_ret
        exact ⟨rfl, B1.out⟩
      · have h1' : (30 : Int) < (C.length : Int) := by omega
        clear hl hgo
        go_enter Tryd.func5, Tryd.ntmps5
        go_wp2_with (first
          | (go_at_call 9; refine hk.mono ?_; rintro e w1 ⟨rfl, hB⟩; have B1 := hide hB; clear hB)
          | (go_at_call 12; refine (hli _ B1.out).mono ?_; rintro e w' ⟨rfl, hw⟩; rw [hw]; clear hw w')
          | fail)
        go_ret
        exact ⟨rfl, B1.out⟩
  obtain ⟨hl, hc30, hk30⟩ := hgo
  rw [hl] at hli
  obtain ⟨h30, h6⟩ := lightB_get hl
  have H6 := hide h6
  have hc30' : ¬ (30 : Int) < (C.length : Int) := by omega
  have hk30' : ¬ (30 : Int) < (Kp.length : Int) := by omega
  clear hl h6
  obtain ⟨N, hN⟩ : ∃ N : Nat, N = 60 + x.toNat % 60 := ⟨_, rfl⟩
  have hNi : (60 : Int) + (x.toNat : Int) % 60 = (N : Int) := by omega
  have hN1 : 60 ≤ N ∧ N ≤ 119 := by omega
  clear hN
  go_enter Tryd.func5, Tryd.ntmps5
  go_wp2_with (first
    | (go_at_call 9; refine hk.mono ?_; rintro e w1 ⟨rfl, hB⟩; have B1 := hide hB; clear hB)
    | (go_at_call 12; refine (hli _ B1.out).mono ?_; rintro e w' ⟨rfl, hw⟩; rw [hw]; clear hw w')
    | fail)
  refine (new_at FF w1 (fun _ h => h.elim) (N : Int) 512 N 512 (by omega) (by omega) (by omega) (by omega) (by omega) (by decide)).mono ?_
  rintro e w2 ⟨rfl, hD, hB2, hs2⟩
  have D2 : Hid (DiskAt FF w2 (w1.heap.size + 2) w1.heap.size (w1.heap.size + 1) (K.St.new N 512)) := hD
  have B2 := hide (B1.out.trans (hB2.mono B1.out.size))
  have z1 := B1.out.size
  have HS2 := hide hs2
  clear hD hB2 hk hs2 hli
  go_wp2_with fail
  refine (open_new w2 (HT.out.below B2.out hpos) _ _ _ N 512 (by omega) D2.out (by have := HS2.out; omega)).mono ?_
  rintro e w3 ⟨v3, M3, rfl, J3, D3, V3, z3, O3⟩
  obtain ⟨a3, c3, hv3⟩ := O3.slice
  rw [hv3]
  have W3 : Hid (FW w (w1.heap.size + 2) w1.heap.size w2.heap.size M3 (newS N 512) h0 [] w3) := ⟨V3.below B2.out B2.out.size (by omega) (by omega) (by omega), by omega, by omega, by have := HS2.out; omega, by have := HS2.out; omega, D3, (newS_is N 512 (by omega)).calmed, (newS_is N 512 (by omega)).pw.1, fun _ => rfl, J3⟩
  have zz3 : w2.heap.size ≤ w3.heap.size := V3.size
  clear J3 D3 V3 z3 O3 hv3 D2
  obtain ⟨D, hDe⟩ : ∃ D, D = w1.heap.size + 2 := ⟨_, rfl⟩
  rw [← hDe] at W3 ⊢
  obtain ⟨SS, hSe⟩ : ∃ SS, SS = w1.heap.size := ⟨_, rfl⟩
  rw [← hSe] at W3
  have hSlt : SS < w3.heap.size := by have := HS2.out; omega
  obtain ⟨B4, hB4⟩ : ∃ B4, B4 = w3.heap.size := ⟨_, rfl⟩
  rw [← hB4] at hSlt
  have HB4 : Hid (B4 ≤ w3.heap.size) := by show _ ≤ _; omega
  generalize w2.heap.size = bJ at W3 ⊢
  clear hDe hSe zz3 HS2 hB4 z1 hNi
  have he1 : ∀ (g : Nat) (W : World), (binOp .eql 31 (.pointer (some ⟨g, 0, none⟩)) (.pointer none)).run Tryd.prog W = .ok (.bool false) W := fun _ _ => rfl
  have harb : ∀ s : K.St, s.n = N → s.sz = 512 → J.arb s = (N - 2) / 2 * 512 := fun s h1 h2 => by unfold J.arb J.ars; rw [h1, h2]
  go_wp2
  go_loopw [10, 13, 14] (fun jv al q wr => ∃ (i bJ M : Nat) (s : K.St) (h : J.H) (L : List (List UInt8)), i ≤ A.length ∧ q = .int .i64 (i : Int) ∧ jv = .pointer (some ⟨bJ, 0, none⟩) ∧ FW w D SS bJ M s h L wr ∧ s.n = N ∧ s.sz = 512 ∧ h.c ≤ i ∧ h.b ≤ 6 * i ∧ OwnBs wr B4 al L ∧ B4 ≤ wr.heap.size) (fun jv al q wr => A.length - (intOf q).toNat)
  case atStart => exact ⟨0, bJ, M3, newS N 512, h0, [], by omega, rfl, rfl, W3.out, newS_n N 512, newS_sz N 512, Nat.le_refl _, Nat.le_refl _, OwnBs.nil _ _, HB4.out⟩
  case round =>
    obtain ⟨i, bJ', M, s, h, L, hi, rfl, rfl, hW, hsn, hsz, hci, hbi, hO, hB4⟩ := hrel
    obtain ⟨wA, rfl⟩ : ∃ wA, wA = wr := ⟨wr, rfl⟩
    have WA := hide hW
    have OA := hide hO
    obtain ⟨aL, cL, hvL⟩ := hO.slice
    rw [hvL] at OA ⊢
    have hLl := hide hW.is.len
    have HSN := hide (And.intro hsn hsz)
    have hLn : L.length ≤ 200 := by have := hLl.out; omega
    clear hW hO hvL W3 HB4 hsn hsz
    by_cases hlt : i < A.length
    · have hlt' : (i : Int) < (A.length : Int) := by omega
      obtain ⟨b0, o0, e0, hb0, hc0⟩ := HA.out (by omega)
      have c10 := (hc0 i hlt).1
      obtain ⟨b, o, rfl, hb, hc⟩ := (HA.out.below WA.out.bl (Nat.le_refl _)) (by omega)
      injection e0 with e0
      injection e0 with e1 e2
      subst e1
      subst e2
      obtain ⟨c1, a2, cc2, c2, hls, _⟩ := hc i hlt
      have hl6 := H6.out i hlt
      generalize (A.getD i (0, [])).1 = X at c1 c10
      clear hc0
      generalize (A.getD i (0, [])).2 = ls at c2 hls hl6
      have HLS := hide hls
      clear hc hls
      by_cases h5 : X = 5
      · subst h5
        go_wp2
        go_roundw
        case rel => exact ⟨i + 1, bJ', M, s, h, L, by omega, by go_num, rfl, WA.out, HSN.out.1, HSN.out.2, by omega, by omega, OA.out, hB4⟩
        case measure => simp [intOf]; omega
      have e5 : (X == 5) = false := by simp [h5]
      go_wp2_with fail
      refine (batch_any wA (i : Int) (by omega) (by omega) a2 cc2 ls (by omega) HLS.out).mono ?_
      rintro e w5 ⟨v5, rfl, R, O5, hRl, hRk, b5⟩
      have hR255 : ∀ k, k < R.length → (R.getD k []).length ≤ 255 := fun k hk => by rw [hRk k (by omega)]; have := (ls.getD k 0).toNat_lt; omega
      have hfzR := J.fsz_bound 255 R hR255
      have hRl6 : R.length ≤ 6 := by omega
      have hfz : J.fsz R ≤ 1602 := by
        have : R.length * (255 + 12) ≤ 6 * (255 + 12) := Nat.mul_le_mul_right _ hRl6
        omega
      obtain ⟨a5, c5, hv5⟩ := O5.slice
      rw [hv5] at O5 ⊢
      have W5 := hide (WA.out.below b5)
      have OB5 := hide (OA.out.bel b5)
      have O5H := hide (O5.low hB4)
      have z5 : Hid (B4 ≤ w5.heap.size) := Nat.le_trans hB4 b5.size
      have k1 : w5.cell? ⟨b, o + i * 2, none⟩ = some (.int .i64 X) := (b5.cell (p := ⟨b, o + i * 2, none⟩) (Nat.lt_of_lt_of_le hb (Nat.le_refl _))).trans c1
      have hblt : b < w5.heap.size := block_lt_of_cell k1
      clear O5 hv5 b5 hRk hR255 hfzR WA OA c1 c2 HLS hB4 hl6 hRl
      by_cases hcut : i < C.length
      · obtain ⟨bc, oc, ebc, hbc, hcc⟩ := (HC.out.below W5.out.bl (Nat.le_refl _)) (by omega)
        have y1 := hcc i hcut
        subst ebc
        have hcut' : (i : Int) < (C.length : Int) := by omega
        obtain ⟨q8, hq8⟩ : ∃ q8 : UInt8, q8 = C.getD i 0 := ⟨_, rfl⟩
        rw [← hq8] at y1
        have hq256 := q8.toNat_lt
        clear hcc hq8
        go_wp2_with fail
        refine (cut_any w5 D SS M s W5.out.dk _ (by omega)).mono ?_
        rintro e w6 ⟨rfl, D6, V6, _⟩
        have W6 := hide (W5.out.cut _ V6 D6)
        have OB6 := hide (V6.keepBs W5.out.dk OB5.out hSlt)
        have O6H := hide (V6.keepBs W5.out.dk O5H.out hSlt)
        have z6 : Hid (B4 ≤ w6.heap.size) := Nat.le_trans z5.out V6.size
        have HSN6 := HSN
        clear D6 V6 W5 OB5 O5H z5 k1
        by_cases h4 : X = 4
        · have h4' : (X == 4) = true := by simp [h4]
          go_wp2_with (first
            | (at_builtin; refine wpList_append_Bs rfl (.tmp 85) (.tmp 86) rfl w6.heap.size _ _ rfl O8.out _ _ _ B4 R rfl rfl OC8.out (by omega) z8.out ?_; intro v9 w9 P9 _ _ b9; have b79 := B8.out.trans b9; obtain ⟨a9, c9, hv9⟩ := P9.slice; rw [hv9] at P9; rw [hv9]; have O9 := hide (P9.low z6.out); have OR9 := hide (O6H.out.bel b79); have OB9 := hide (OB6.out.bel b79); have W9 := hide (W6.out.below b79); have z9 : Hid (B4 ≤ w9.heap.size) := Nat.le_trans z6.out b79.size; have k9 : w9.cell? ⟨b, o + i * 2, none⟩ = some (.int .i64 X) := (W9.out.bl.cell (p := ⟨b, o + i * 2, none⟩) hb0).trans c10; clear P9 b9 b79 hv9 O8 B8 z8 OC8)
            | (at_builtin; refine wpList_append_Bs rfl (.const (.slice none 0 0)) (.tmp 84) rfl w6.heap.size _ [] rfl (OwnBs.nil _ _) _ _ _ B4 L rfl rfl OB6.out (by simp; omega) (Nat.le_refl _) ?_; intro v8 w8 P8 _ _ b8; have P8 : OwnBs w8 w6.heap.size v8 L := P8; obtain ⟨a8, c8, hv8⟩ := P8.slice; rw [hv8] at P8; rw [hv8]; have O8 := hide P8; have B8 := hide b8; have z8 := hide b8.size; have OC8 := hide (O6H.out.bel b8); clear P8 b8 hv8)
            | fail)
          refine (reset_is2 w9 (W9.out.tab HT.out) D SS M bJ' _ h L W9.out.is W9.out.dead W9.out.un W9.out.dk W9.out.jr (W9.out.pos HT.out) a5 c5 R OR9.out.sl (by omega) (by omega) (by omega)).mono ?_
          rintro e w10 ⟨x10, rfl, ⟨rfl, M', s', hl⟩ | ⟨rfl, M', s', hl⟩ | ⟨_, rfl, hl⟩⟩
          · have W10 := hide (W9.out.laid hl)
            have O10 := hide (hl.mv.keepBs W9.out.dk W9.out.jr OR9.out hSlt)
            have n' := hide (hl.n.trans HSN6.out.1)
            have z' := hide (hl.sz.trans HSN6.out.2)
            have z10 : Hid (B4 ≤ w10.heap.size) := Nat.le_trans z9.out hl.mv.size
            clear hl W9 OR9 OB9 O9 z9 W6 OB6 O6H z6
            go_wp2
            go_roundw
            case rel => exact ⟨i + 1, bJ', M', s', _, _, by omega, by go_num, rfl, W10.out, n'.out, z'.out, by show h.c + 1 ≤ _; omega, by show 0 + R.length ≤ _; omega, by first | exact O10.out | simpa using O10.out, z10.out⟩
            case measure => simp [intOf]; omega
          · have Dd := dead_any w10 D SS M' s' hl.dk
            rw [hl.dead] at Dd
            have I10 := hide hl.is
            have D10 := hide hl.dk
            have B10 := hide (hl.mv.below W9.out.bl W9.out.bl.size W9.out.bD W9.out.bS W9.out.bM W9.out.bj)
            have OA10 := hide (hl.mv.keepBs W9.out.dk W9.out.jr OB9.out hSlt)
            have ON10 := hide (hl.mv.keepBs W9.out.dk W9.out.jr OR9.out hSlt)
            have n' := hide (hl.n.trans HSN6.out.1)
            have z' := hide (hl.sz.trans HSN6.out.2)
            have z10 : Hid (B4 ≤ w10.heap.size) := Nat.le_trans z9.out hl.mv.size
            have bd : Hid (w.heap.size ≤ D ∧ w.heap.size ≤ SS ∧ w.heap.size ≤ M') := ⟨W9.out.bD, W9.out.bS, hl.m.elim (fun e => by rw [e]; exact W9.out.bM) (fun e => Nat.le_trans W9.out.bl.size e)⟩
            clear hl W9 OR9 OB9 O9 z9 W6 OB6 O6H z6
            by_cases hkp : i < Kp.length
            · obtain ⟨bk, ok, ebk, hbk, hkk⟩ := (HK.out.below B10.out (Nat.le_refl _)) (by omega)
              obtain ⟨y2, hkv⟩ := hkk i hkp
              subst ebk
              have hkp' : (i : Int) < (Kp.length : Int) := by omega
              generalize Kp.getD i 0 = kv at y2 hkv
              clear hkk
              go_wp2_with (first | (go_at_call 23; refine Dd.mono ?_; rintro e w' ⟨rfl, hw⟩; rw [hw]; clear hw w') | fail)
              refine (crash_any w10 D SS M' s' D10.out kv hkv).mono ?_
              rintro e w11 ⟨rfl, M11, D11, V11, z11, _⟩
              have B11 := hide (V11.below B10.out B10.out.size bd.out.1 bd.out.2.1 bd.out.2.2)
              have OA11 := hide (V11.keepBs D10.out OA10.out hSlt)
              have ON11 := hide (V11.keepBs D10.out ON10.out hSlt)
              have zz11 : Hid (B4 ≤ w11.heap.size) := Nat.le_trans z10.out V11.size
              have bd11 : Hid (w.heap.size ≤ M11) := Nat.le_trans B10.out.size z11
              obtain ⟨hh, LL, i11, hLL, hhc, hhb⟩ : ∃ hh LL, J.Is (s'.crashed kv) hh LL ∧ (LL = L ∨ LL = R) ∧ hh.c ≤ i + 1 ∧ hh.b ≤ 6 * (i + 1) := by
                rcases I10.out kv with h9 | h9
                · exact ⟨_, _, h9, Or.inl rfl, by omega, by omega⟩
                · exact ⟨_, _, h9, Or.inr rfl, by show h.c + 1 ≤ _; omega, by show 0 + R.length ≤ _; omega⟩
              have n11 : Hid ((s'.crashed kv).n = N ∧ (s'.crashed kv).sz = 512) := ⟨n'.out, z'.out⟩
              obtain ⟨s11, hs11⟩ : ∃ s11, s11 = s'.crashed kv := ⟨_, rfl⟩
              rw [← hs11] at i11 n11 D11
              have I11 := hide i11
              have D11H := hide D11
              have HLL := hide hLL
              have P11 : Hid (0 < D ∧ 0 < SS ∧ 0 < M11) := by have h1 := bd.out; have h2 := bd11.out; exact ⟨by omega, by omega, by omega⟩
              have hL12 : LL.length ≤ 1000 := by rw [i11.len]; omega
              clear D11 V11 z11 i11 hLL hs11 I10 D10 B10 OA10 ON10 n' z' z10
              go_wp2_with fail
              refine (open_is w11 (HT.out.below B11.out hpos) D SS M11 s11 D11H.out hh LL I11.out P11.out).mono ?_
              rintro e w12 ⟨v12, M12, rfl, J12, D12, V12, z12, O12⟩
              obtain ⟨a12, c12, hv12⟩ := O12.slice
              rw [hv12] at O12 ⊢
              have W12 := hide (FW.again (bJ := w11.heap.size) B11.out bd.out.1 bd.out.2.1 bd11.out I11.out V12 z12 D12 B11.out.size J12)
              have OA12 := hide (V12.keepBs D11H.out OA11.out hSlt)
              have ON12 := hide (V12.keepBs D11H.out ON11.out hSlt)
              have S12 := hide O12.sl
              have zz12 : Hid (B4 ≤ w12.heap.size) := Nat.le_trans zz11.out V12.size
              have n12 : Hid (s11.synced.n = N ∧ s11.synced.sz = 512) := ⟨(synced_same s11).2.trans n11.out.1, (synced_same s11).1.trans n11.out.2⟩
              generalize w11.heap.size = bJ12 at W12 ⊢
              clear J12 D12 V12 z12 O12 hv12 B11 OA11 ON11 zz11 n11 I11 D11H P11
              have hbl := blobs_any w12 a12 aL c12 cL LL L (by omega) S12.out OA12.out.sl
              by_cases eL : LL = L
              · rw [decide_eq_true eL] at hbl
                have EL := hide eL
                clear eL HLL
                go_wp2_with (first | (go_at_call 17; refine hbl.mono ?_; rintro e w13 ⟨rfl, m, hw13⟩; have W13 : Hid (FW w D SS bJ12 M12 s11.synced hh LL w13) := (by rw [hw13]; exact W12.out.below (below_drewN (Below.refl _ _) m)); have O13 : Hid (OwnBs w13 B4 (.slice aL L.length cL) L) := (by rw [hw13]; exact OA12.out.drewN m); have z13 : Hid (B4 ≤ w13.heap.size) := (by rw [hw13]; exact zz12.out); clear hw13) | fail)
                go_roundw
                case rel => exact ⟨i + 1, bJ12, M12, s11.synced, hh, LL, by omega, by go_num, rfl, W13.out, n12.out.1, n12.out.2, hhc, hhb, by rw [EL.out]; exact O13.out, z13.out⟩
                case measure => simp [intOf]; omega
              · rw [decide_eq_false eL] at hbl
                have EN : Hid (LL = R) := HLL.out.resolve_left eL
                have hbl2 : ∀ m, Calls Tryd.prog 17 #[.slice a12 LL.length c12, .slice a5 R.length c5] (w12.drewN m) fun e w' => e = .returned (.bool true) ∧ ∃ m', w' = (w12.drewN m).drewN m' := fun m => by
                  have := blobs_any (w12.drewN m) a12 a5 c12 c5 LL R (by omega) (S12.out.drewN m) (ON12.out.sl.drewN m)
                  rw [decide_eq_true EN.out] at this; exact this
                clear eL HLL
                go_wp2_with (first
                  | (go_at_call 17; refine (hbl2 m).mono ?_; rintro e w13 ⟨rfl, m2, hw13⟩; have W13 : Hid (FW w D SS bJ12 M12 s11.synced hh LL w13) := (by rw [hw13]; exact (W12.out.below (below_drewN (Below.refl _ _) m)).below (below_drewN (Below.refl _ _) m2)); have O13 : Hid (OwnBs w13 B4 (.slice a5 R.length c5) R) := (by rw [hw13]; exact (ON12.out.drewN m).drewN m2); have z13 : Hid (B4 ≤ w13.heap.size) := (by rw [hw13]; exact zz12.out); clear hw13)
                  | (go_at_call 17; refine hbl.mono ?_; rintro e w' ⟨rfl, m, hw⟩; rw [hw]; clear hw w')
                  | fail)
                go_roundw
                case rel => exact ⟨i + 1, bJ12, M12, s11.synced, hh, LL, by omega, by go_num, rfl, W13.out, n12.out.1, n12.out.2, hhc, hhb, by rw [EN.out]; first | exact O13.out | simpa using O13.out, z13.out⟩
                case measure => simp [intOf]; omega
            · have hkp' : ¬ (i : Int) < (Kp.length : Int) := by omega
              go_wp2_with (first | (go_at_call 23; refine Dd.mono ?_; rintro e w' ⟨rfl, hw⟩; rw [hw]; clear hw w') | fail)
              refine (crash_any w10 D SS M' s' D10.out 0 (by omega)).mono ?_
              rintro e w11 ⟨rfl, M11, D11, V11, z11, _⟩
              have B11 := hide (V11.below B10.out B10.out.size bd.out.1 bd.out.2.1 bd.out.2.2)
              have OA11 := hide (V11.keepBs D10.out OA10.out hSlt)
              have ON11 := hide (V11.keepBs D10.out ON10.out hSlt)
              have zz11 : Hid (B4 ≤ w11.heap.size) := Nat.le_trans z10.out V11.size
              have bd11 : Hid (w.heap.size ≤ M11) := Nat.le_trans B10.out.size z11
              obtain ⟨hh, LL, i11, hLL, hhc, hhb⟩ : ∃ hh LL, J.Is (s'.crashed 0) hh LL ∧ (LL = L ∨ LL = R) ∧ hh.c ≤ i + 1 ∧ hh.b ≤ 6 * (i + 1) := by
                rcases I10.out 0 with h9 | h9
                · exact ⟨_, _, h9, Or.inl rfl, by omega, by omega⟩
                · exact ⟨_, _, h9, Or.inr rfl, by show h.c + 1 ≤ _; omega, by show 0 + R.length ≤ _; omega⟩
              have n11 : Hid ((s'.crashed 0).n = N ∧ (s'.crashed 0).sz = 512) := ⟨n'.out, z'.out⟩
              obtain ⟨s11, hs11⟩ : ∃ s11, s11 = s'.crashed 0 := ⟨_, rfl⟩
              rw [← hs11] at i11 n11 D11
              have I11 := hide i11
              have D11H := hide D11
              have HLL := hide hLL
              have P11 : Hid (0 < D ∧ 0 < SS ∧ 0 < M11) := by have h1 := bd.out; have h2 := bd11.out; exact ⟨by omega, by omega, by omega⟩
              have hL12 : LL.length ≤ 1000 := by rw [i11.len]; omega
              clear D11 V11 z11 i11 hLL hs11 I10 D10 B10 OA10 ON10 n' z' z10
              go_wp2_with fail
              refine (open_is w11 (HT.out.below B11.out hpos) D SS M11 s11 D11H.out hh LL I11.out P11.out).mono ?_
              rintro e w12 ⟨v12, M12, rfl, J12, D12, V12, z12, O12⟩
              obtain ⟨a12, c12, hv12⟩ := O12.slice
              rw [hv12] at O12 ⊢
              have W12 := hide (FW.again (bJ := w11.heap.size) B11.out bd.out.1 bd.out.2.1 bd11.out I11.out V12 z12 D12 B11.out.size J12)
              have OA12 := hide (V12.keepBs D11H.out OA11.out hSlt)
              have ON12 := hide (V12.keepBs D11H.out ON11.out hSlt)
              have S12 := hide O12.sl
              have zz12 : Hid (B4 ≤ w12.heap.size) := Nat.le_trans zz11.out V12.size
              have n12 : Hid (s11.synced.n = N ∧ s11.synced.sz = 512) := ⟨(synced_same s11).2.trans n11.out.1, (synced_same s11).1.trans n11.out.2⟩
              generalize w11.heap.size = bJ12 at W12 ⊢
              clear J12 D12 V12 z12 O12 hv12 B11 OA11 ON11 zz11 n11 I11 D11H P11
              have hbl := blobs_any w12 a12 aL c12 cL LL L (by omega) S12.out OA12.out.sl
              by_cases eL : LL = L
              · rw [decide_eq_true eL] at hbl
                have EL := hide eL
                clear eL HLL
                go_wp2_with (first | (go_at_call 17; refine hbl.mono ?_; rintro e w13 ⟨rfl, m, hw13⟩; have W13 : Hid (FW w D SS bJ12 M12 s11.synced hh LL w13) := (by rw [hw13]; exact W12.out.below (below_drewN (Below.refl _ _) m)); have O13 : Hid (OwnBs w13 B4 (.slice aL L.length cL) L) := (by rw [hw13]; exact OA12.out.drewN m); have z13 : Hid (B4 ≤ w13.heap.size) := (by rw [hw13]; exact zz12.out); clear hw13) | fail)
                go_roundw
                case rel => exact ⟨i + 1, bJ12, M12, s11.synced, hh, LL, by omega, by go_num, rfl, W13.out, n12.out.1, n12.out.2, hhc, hhb, by rw [EL.out]; exact O13.out, z13.out⟩
                case measure => simp [intOf]; omega
              · rw [decide_eq_false eL] at hbl
                have EN : Hid (LL = R) := HLL.out.resolve_left eL
                have hbl2 : ∀ m, Calls Tryd.prog 17 #[.slice a12 LL.length c12, .slice a5 R.length c5] (w12.drewN m) fun e w' => e = .returned (.bool true) ∧ ∃ m', w' = (w12.drewN m).drewN m' := fun m => by
                  have := blobs_any (w12.drewN m) a12 a5 c12 c5 LL R (by omega) (S12.out.drewN m) (ON12.out.sl.drewN m)
                  rw [decide_eq_true EN.out] at this; exact this
                clear eL HLL
                go_wp2_with (first
                  | (go_at_call 17; refine (hbl2 m).mono ?_; rintro e w13 ⟨rfl, m2, hw13⟩; have W13 : Hid (FW w D SS bJ12 M12 s11.synced hh LL w13) := (by rw [hw13]; exact (W12.out.below (below_drewN (Below.refl _ _) m)).below (below_drewN (Below.refl _ _) m2)); have O13 : Hid (OwnBs w13 B4 (.slice a5 R.length c5) R) := (by rw [hw13]; exact (ON12.out.drewN m).drewN m2); have z13 : Hid (B4 ≤ w13.heap.size) := (by rw [hw13]; exact zz12.out); clear hw13)
                  | (go_at_call 17; refine hbl.mono ?_; rintro e w' ⟨rfl, m, hw⟩; rw [hw]; clear hw w')
                  | fail)
                go_roundw
                case rel => exact ⟨i + 1, bJ12, M12, s11.synced, hh, LL, by omega, by go_num, rfl, W13.out, n12.out.1, n12.out.2, hhc, hhb, by rw [EN.out]; first | exact O13.out | simpa using O13.out, z13.out⟩
                case measure => simp [intOf]; omega
          · have B10 := hide (W9.out.bl.trans (hl.mono W9.out.bl.size))
            clear hl W9 OR9 OB9 O9 z9 W6 OB6 O6H z6
            go_wp2
            go_ret
            exact ⟨rfl, B10.out⟩
        · have h4' : (X == 4) = false := by simp [h4]
          go_wp2_with (first
            | (at_builtin; refine wpList_append_Bs rfl (.tmp 85) (.tmp 86) rfl w6.heap.size _ _ rfl O8.out _ _ _ B4 R rfl rfl OC8.out (by omega) z8.out ?_; intro v9 w9 P9 _ _ b9; have b79 := B8.out.trans b9; obtain ⟨a9, c9, hv9⟩ := P9.slice; rw [hv9] at P9; rw [hv9]; have O9 := hide (P9.low z6.out); have OR9 := hide (O6H.out.bel b79); have OB9 := hide (OB6.out.bel b79); have W9 := hide (W6.out.below b79); have z9 : Hid (B4 ≤ w9.heap.size) := Nat.le_trans z6.out b79.size; have k9 : w9.cell? ⟨b, o + i * 2, none⟩ = some (.int .i64 X) := (W9.out.bl.cell (p := ⟨b, o + i * 2, none⟩) hb0).trans c10; clear P9 b9 b79 hv9 O8 B8 z8 OC8)
            | (at_builtin; refine wpList_append_Bs rfl (.const (.slice none 0 0)) (.tmp 84) rfl w6.heap.size _ [] rfl (OwnBs.nil _ _) _ _ _ B4 L rfl rfl OB6.out (by simp; omega) (Nat.le_refl _) ?_; intro v8 w8 P8 _ _ b8; have P8 : OwnBs w8 w6.heap.size v8 L := P8; obtain ⟨a8, c8, hv8⟩ := P8.slice; rw [hv8] at P8; rw [hv8]; have O8 := hide P8; have B8 := hide b8; have z8 := hide b8.size; have OC8 := hide (O6H.out.bel b8); clear P8 b8 hv8)
            | fail)
          refine (commit_is2 w9 (W9.out.tab HT.out) D SS M bJ' _ h L W9.out.is W9.out.dead W9.out.un W9.out.dk W9.out.jr (W9.out.pos HT.out) a5 c5 R OR9.out.sl (by omega) (by omega) (by omega)).mono ?_
          rintro e w10 ⟨x10, rfl, ⟨rfl, M', s', hl⟩ | ⟨rfl, M', s', hl⟩ | ⟨_, rfl, hl⟩⟩
          · have W10 := hide (W9.out.laid hl)
            have O10 := hide (hl.mv.keepBs W9.out.dk W9.out.jr O9.out hSlt)
            have n' := hide (hl.n.trans HSN6.out.1)
            have z' := hide (hl.sz.trans HSN6.out.2)
            have z10 : Hid (B4 ≤ w10.heap.size) := Nat.le_trans z9.out hl.mv.size
            clear hl W9 OR9 OB9 O9 z9 W6 OB6 O6H z6
            go_wp2
            go_roundw
            case rel => exact ⟨i + 1, bJ', M', s', _, _, by omega, by go_num, rfl, W10.out, n'.out, z'.out, by show h.c + 1 ≤ _; omega, by show h.b + R.length ≤ _; omega, by first | exact O10.out | simpa using O10.out, z10.out⟩
            case measure => simp [intOf]; omega
          · have Dd := dead_any w10 D SS M' s' hl.dk
            rw [hl.dead] at Dd
            have I10 := hide hl.is
            have D10 := hide hl.dk
            have B10 := hide (hl.mv.below W9.out.bl W9.out.bl.size W9.out.bD W9.out.bS W9.out.bM W9.out.bj)
            have OA10 := hide (hl.mv.keepBs W9.out.dk W9.out.jr OB9.out hSlt)
            have ON10 := hide (hl.mv.keepBs W9.out.dk W9.out.jr O9.out hSlt)
            have n' := hide (hl.n.trans HSN6.out.1)
            have z' := hide (hl.sz.trans HSN6.out.2)
            have z10 : Hid (B4 ≤ w10.heap.size) := Nat.le_trans z9.out hl.mv.size
            have bd : Hid (w.heap.size ≤ D ∧ w.heap.size ≤ SS ∧ w.heap.size ≤ M') := ⟨W9.out.bD, W9.out.bS, hl.m.elim (fun e => by rw [e]; exact W9.out.bM) (fun e => Nat.le_trans W9.out.bl.size e)⟩
            clear hl W9 OR9 OB9 O9 z9 W6 OB6 O6H z6
            by_cases hkp : i < Kp.length
            · obtain ⟨bk, ok, ebk, hbk, hkk⟩ := (HK.out.below B10.out (Nat.le_refl _)) (by omega)
              obtain ⟨y2, hkv⟩ := hkk i hkp
              subst ebk
              have hkp' : (i : Int) < (Kp.length : Int) := by omega
              generalize Kp.getD i 0 = kv at y2 hkv
              clear hkk
              go_wp2_with (first | (go_at_call 23; refine Dd.mono ?_; rintro e w' ⟨rfl, hw⟩; rw [hw]; clear hw w') | fail)
              refine (crash_any w10 D SS M' s' D10.out kv hkv).mono ?_
              rintro e w11 ⟨rfl, M11, D11, V11, z11, _⟩
              have B11 := hide (V11.below B10.out B10.out.size bd.out.1 bd.out.2.1 bd.out.2.2)
              have OA11 := hide (V11.keepBs D10.out OA10.out hSlt)
              have ON11 := hide (V11.keepBs D10.out ON10.out hSlt)
              have zz11 : Hid (B4 ≤ w11.heap.size) := Nat.le_trans z10.out V11.size
              have bd11 : Hid (w.heap.size ≤ M11) := Nat.le_trans B10.out.size z11
              obtain ⟨hh, LL, i11, hLL, hhc, hhb⟩ : ∃ hh LL, J.Is (s'.crashed kv) hh LL ∧ (LL = L ∨ LL = (L ++ R)) ∧ hh.c ≤ i + 1 ∧ hh.b ≤ 6 * (i + 1) := by
                rcases I10.out kv with h9 | h9
                · exact ⟨_, _, h9, Or.inl rfl, by omega, by omega⟩
                · exact ⟨_, _, h9, Or.inr rfl, by show h.c + 1 ≤ _; omega, by show h.b + R.length ≤ _; omega⟩
              have n11 : Hid ((s'.crashed kv).n = N ∧ (s'.crashed kv).sz = 512) := ⟨n'.out, z'.out⟩
              obtain ⟨s11, hs11⟩ : ∃ s11, s11 = s'.crashed kv := ⟨_, rfl⟩
              rw [← hs11] at i11 n11 D11
              have I11 := hide i11
              have D11H := hide D11
              have HLL := hide hLL
              have P11 : Hid (0 < D ∧ 0 < SS ∧ 0 < M11) := by have h1 := bd.out; have h2 := bd11.out; exact ⟨by omega, by omega, by omega⟩
              have hL12 : LL.length ≤ 1000 := by rw [i11.len]; omega
              clear D11 V11 z11 i11 hLL hs11 I10 D10 B10 OA10 ON10 n' z' z10
              go_wp2_with fail
              refine (open_is w11 (HT.out.below B11.out hpos) D SS M11 s11 D11H.out hh LL I11.out P11.out).mono ?_
              rintro e w12 ⟨v12, M12, rfl, J12, D12, V12, z12, O12⟩
              obtain ⟨a12, c12, hv12⟩ := O12.slice
              rw [hv12] at O12 ⊢
              have W12 := hide (FW.again (bJ := w11.heap.size) B11.out bd.out.1 bd.out.2.1 bd11.out I11.out V12 z12 D12 B11.out.size J12)
              have OA12 := hide (V12.keepBs D11H.out OA11.out hSlt)
              have ON12 := hide (V12.keepBs D11H.out ON11.out hSlt)
              have S12 := hide O12.sl
              have zz12 : Hid (B4 ≤ w12.heap.size) := Nat.le_trans zz11.out V12.size
              have n12 : Hid (s11.synced.n = N ∧ s11.synced.sz = 512) := ⟨(synced_same s11).2.trans n11.out.1, (synced_same s11).1.trans n11.out.2⟩
              generalize w11.heap.size = bJ12 at W12 ⊢
              clear J12 D12 V12 z12 O12 hv12 B11 OA11 ON11 zz11 n11 I11 D11H P11
              have hbl := blobs_any w12 a12 aL c12 cL LL L (by omega) S12.out OA12.out.sl
              by_cases eL : LL = L
              · rw [decide_eq_true eL] at hbl
                have EL := hide eL
                clear eL HLL
                go_wp2_with (first | (go_at_call 17; refine hbl.mono ?_; rintro e w13 ⟨rfl, m, hw13⟩; have W13 : Hid (FW w D SS bJ12 M12 s11.synced hh LL w13) := (by rw [hw13]; exact W12.out.below (below_drewN (Below.refl _ _) m)); have O13 : Hid (OwnBs w13 B4 (.slice aL L.length cL) L) := (by rw [hw13]; exact OA12.out.drewN m); have z13 : Hid (B4 ≤ w13.heap.size) := (by rw [hw13]; exact zz12.out); clear hw13) | fail)
                go_roundw
                case rel => exact ⟨i + 1, bJ12, M12, s11.synced, hh, LL, by omega, by go_num, rfl, W13.out, n12.out.1, n12.out.2, hhc, hhb, by rw [EL.out]; exact O13.out, z13.out⟩
                case measure => simp [intOf]; omega
              · rw [decide_eq_false eL] at hbl
                have EN : Hid (LL = (L ++ R)) := HLL.out.resolve_left eL
                have hbl2 : ∀ m, Calls Tryd.prog 17 #[.slice a12 LL.length c12, .slice a9 (L.length + R.length) c9] (w12.drewN m) fun e w' => e = .returned (.bool true) ∧ ∃ m', w' = (w12.drewN m).drewN m' := fun m => by
                  have := blobs_any (w12.drewN m) a12 a9 c12 c9 LL (L ++ R) (by omega) (S12.out.drewN m) (ON12.out.sl.drewN m)
                  rw [List.length_append, decide_eq_true EN.out] at this; exact this
                clear eL HLL
                go_wp2_with (first
                  | (go_at_call 17; refine (hbl2 m).mono ?_; rintro e w13 ⟨rfl, m2, hw13⟩; have W13 : Hid (FW w D SS bJ12 M12 s11.synced hh LL w13) := (by rw [hw13]; exact (W12.out.below (below_drewN (Below.refl _ _) m)).below (below_drewN (Below.refl _ _) m2)); have O13 : Hid (OwnBs w13 B4 (.slice a9 (L ++ R).length c9) (L ++ R)) := (by rw [hw13]; exact (ON12.out.drewN m).drewN m2); have z13 : Hid (B4 ≤ w13.heap.size) := (by rw [hw13]; exact zz12.out); clear hw13)
                  | (go_at_call 17; refine hbl.mono ?_; rintro e w' ⟨rfl, m, hw⟩; rw [hw]; clear hw w')
                  | fail)
                go_roundw
                case rel => exact ⟨i + 1, bJ12, M12, s11.synced, hh, LL, by omega, by go_num, rfl, W13.out, n12.out.1, n12.out.2, hhc, hhb, by rw [EN.out]; first | exact O13.out | simpa using O13.out, z13.out⟩
                case measure => simp [intOf]; omega
            · have hkp' : ¬ (i : Int) < (Kp.length : Int) := by omega
              go_wp2_with (first | (go_at_call 23; refine Dd.mono ?_; rintro e w' ⟨rfl, hw⟩; rw [hw]; clear hw w') | fail)
              refine (crash_any w10 D SS M' s' D10.out 0 (by omega)).mono ?_
              rintro e w11 ⟨rfl, M11, D11, V11, z11, _⟩
              have B11 := hide (V11.below B10.out B10.out.size bd.out.1 bd.out.2.1 bd.out.2.2)
              have OA11 := hide (V11.keepBs D10.out OA10.out hSlt)
              have ON11 := hide (V11.keepBs D10.out ON10.out hSlt)
              have zz11 : Hid (B4 ≤ w11.heap.size) := Nat.le_trans z10.out V11.size
              have bd11 : Hid (w.heap.size ≤ M11) := Nat.le_trans B10.out.size z11
              obtain ⟨hh, LL, i11, hLL, hhc, hhb⟩ : ∃ hh LL, J.Is (s'.crashed 0) hh LL ∧ (LL = L ∨ LL = (L ++ R)) ∧ hh.c ≤ i + 1 ∧ hh.b ≤ 6 * (i + 1) := by
                rcases I10.out 0 with h9 | h9
                · exact ⟨_, _, h9, Or.inl rfl, by omega, by omega⟩
                · exact ⟨_, _, h9, Or.inr rfl, by show h.c + 1 ≤ _; omega, by show h.b + R.length ≤ _; omega⟩
              have n11 : Hid ((s'.crashed 0).n = N ∧ (s'.crashed 0).sz = 512) := ⟨n'.out, z'.out⟩
              obtain ⟨s11, hs11⟩ : ∃ s11, s11 = s'.crashed 0 := ⟨_, rfl⟩
              rw [← hs11] at i11 n11 D11
              have I11 := hide i11
              have D11H := hide D11
              have HLL := hide hLL
              have P11 : Hid (0 < D ∧ 0 < SS ∧ 0 < M11) := by have h1 := bd.out; have h2 := bd11.out; exact ⟨by omega, by omega, by omega⟩
              have hL12 : LL.length ≤ 1000 := by rw [i11.len]; omega
              clear D11 V11 z11 i11 hLL hs11 I10 D10 B10 OA10 ON10 n' z' z10
              go_wp2_with fail
              refine (open_is w11 (HT.out.below B11.out hpos) D SS M11 s11 D11H.out hh LL I11.out P11.out).mono ?_
              rintro e w12 ⟨v12, M12, rfl, J12, D12, V12, z12, O12⟩
              obtain ⟨a12, c12, hv12⟩ := O12.slice
              rw [hv12] at O12 ⊢
              have W12 := hide (FW.again (bJ := w11.heap.size) B11.out bd.out.1 bd.out.2.1 bd11.out I11.out V12 z12 D12 B11.out.size J12)
              have OA12 := hide (V12.keepBs D11H.out OA11.out hSlt)
              have ON12 := hide (V12.keepBs D11H.out ON11.out hSlt)
              have S12 := hide O12.sl
              have zz12 : Hid (B4 ≤ w12.heap.size) := Nat.le_trans zz11.out V12.size
              have n12 : Hid (s11.synced.n = N ∧ s11.synced.sz = 512) := ⟨(synced_same s11).2.trans n11.out.1, (synced_same s11).1.trans n11.out.2⟩
              generalize w11.heap.size = bJ12 at W12 ⊢
              clear J12 D12 V12 z12 O12 hv12 B11 OA11 ON11 zz11 n11 I11 D11H P11
              have hbl := blobs_any w12 a12 aL c12 cL LL L (by omega) S12.out OA12.out.sl
              by_cases eL : LL = L
              · rw [decide_eq_true eL] at hbl
                have EL := hide eL
                clear eL HLL
                go_wp2_with (first | (go_at_call 17; refine hbl.mono ?_; rintro e w13 ⟨rfl, m, hw13⟩; have W13 : Hid (FW w D SS bJ12 M12 s11.synced hh LL w13) := (by rw [hw13]; exact W12.out.below (below_drewN (Below.refl _ _) m)); have O13 : Hid (OwnBs w13 B4 (.slice aL L.length cL) L) := (by rw [hw13]; exact OA12.out.drewN m); have z13 : Hid (B4 ≤ w13.heap.size) := (by rw [hw13]; exact zz12.out); clear hw13) | fail)
                go_roundw
                case rel => exact ⟨i + 1, bJ12, M12, s11.synced, hh, LL, by omega, by go_num, rfl, W13.out, n12.out.1, n12.out.2, hhc, hhb, by rw [EL.out]; exact O13.out, z13.out⟩
                case measure => simp [intOf]; omega
              · rw [decide_eq_false eL] at hbl
                have EN : Hid (LL = (L ++ R)) := HLL.out.resolve_left eL
                have hbl2 : ∀ m, Calls Tryd.prog 17 #[.slice a12 LL.length c12, .slice a9 (L.length + R.length) c9] (w12.drewN m) fun e w' => e = .returned (.bool true) ∧ ∃ m', w' = (w12.drewN m).drewN m' := fun m => by
                  have := blobs_any (w12.drewN m) a12 a9 c12 c9 LL (L ++ R) (by omega) (S12.out.drewN m) (ON12.out.sl.drewN m)
                  rw [List.length_append, decide_eq_true EN.out] at this; exact this
                clear eL HLL
                go_wp2_with (first
                  | (go_at_call 17; refine (hbl2 m).mono ?_; rintro e w13 ⟨rfl, m2, hw13⟩; have W13 : Hid (FW w D SS bJ12 M12 s11.synced hh LL w13) := (by rw [hw13]; exact (W12.out.below (below_drewN (Below.refl _ _) m)).below (below_drewN (Below.refl _ _) m2)); have O13 : Hid (OwnBs w13 B4 (.slice a9 (L ++ R).length c9) (L ++ R)) := (by rw [hw13]; exact (ON12.out.drewN m).drewN m2); have z13 : Hid (B4 ≤ w13.heap.size) := (by rw [hw13]; exact zz12.out); clear hw13)
                  | (go_at_call 17; refine hbl.mono ?_; rintro e w' ⟨rfl, m, hw⟩; rw [hw]; clear hw w')
                  | fail)
                go_roundw
                case rel => exact ⟨i + 1, bJ12, M12, s11.synced, hh, LL, by omega, by go_num, rfl, W13.out, n12.out.1, n12.out.2, hhc, hhb, by rw [EN.out]; first | exact O13.out | simpa using O13.out, z13.out⟩
                case measure => simp [intOf]; omega
          · have B10 := hide (W9.out.bl.trans (hl.mono W9.out.bl.size))
            clear hl W9 OR9 OB9 O9 z9 W6 OB6 O6H z6
            go_wp2
            go_ret
            exact ⟨rfl, B10.out⟩
      · have hcut' : ¬ (i : Int) < (C.length : Int) := by omega
        have W6 := W5
        have OB6 := OB5
        have O6H := O5H
        have z6 := z5
        have HSN6 := HSN
        clear W5 OB5 O5H z5 k1
        by_cases h4 : X = 4
        · have h4' : (X == 4) = true := by simp [h4]
          go_wp2_with (first
            | (at_builtin; refine wpList_append_Bs rfl (.tmp 85) (.tmp 86) rfl w5.heap.size _ _ rfl O8.out _ _ _ B4 R rfl rfl OC8.out (by omega) z8.out ?_; intro v9 w9 P9 _ _ b9; have b79 := B8.out.trans b9; obtain ⟨a9, c9, hv9⟩ := P9.slice; rw [hv9] at P9; rw [hv9]; have O9 := hide (P9.low z6.out); have OR9 := hide (O6H.out.bel b79); have OB9 := hide (OB6.out.bel b79); have W9 := hide (W6.out.below b79); have z9 : Hid (B4 ≤ w9.heap.size) := Nat.le_trans z6.out b79.size; have k9 : w9.cell? ⟨b, o + i * 2, none⟩ = some (.int .i64 X) := (W9.out.bl.cell (p := ⟨b, o + i * 2, none⟩) hb0).trans c10; clear P9 b9 b79 hv9 O8 B8 z8 OC8)
            | (at_builtin; refine wpList_append_Bs rfl (.const (.slice none 0 0)) (.tmp 84) rfl w5.heap.size _ [] rfl (OwnBs.nil _ _) _ _ _ B4 L rfl rfl OB6.out (by simp; omega) (Nat.le_refl _) ?_; intro v8 w8 P8 _ _ b8; have P8 : OwnBs w8 w5.heap.size v8 L := P8; obtain ⟨a8, c8, hv8⟩ := P8.slice; rw [hv8] at P8; rw [hv8]; have O8 := hide P8; have B8 := hide b8; have z8 := hide b8.size; have OC8 := hide (O6H.out.bel b8); clear P8 b8 hv8)
            | fail)
          refine (reset_is2 w9 (W9.out.tab HT.out) D SS M bJ' _ h L W9.out.is W9.out.dead W9.out.un W9.out.dk W9.out.jr (W9.out.pos HT.out) a5 c5 R OR9.out.sl (by omega) (by omega) (by omega)).mono ?_
          rintro e w10 ⟨x10, rfl, ⟨rfl, M', s', hl⟩ | ⟨rfl, M', s', hl⟩ | ⟨_, rfl, hl⟩⟩
          · have W10 := hide (W9.out.laid hl)
            have O10 := hide (hl.mv.keepBs W9.out.dk W9.out.jr OR9.out hSlt)
            have n' := hide (hl.n.trans HSN6.out.1)
            have z' := hide (hl.sz.trans HSN6.out.2)
            have z10 : Hid (B4 ≤ w10.heap.size) := Nat.le_trans z9.out hl.mv.size
            clear hl W9 OR9 OB9 O9 z9 W6 OB6 O6H z6
            go_wp2
            go_roundw
            case rel => exact ⟨i + 1, bJ', M', s', _, _, by omega, by go_num, rfl, W10.out, n'.out, z'.out, by show h.c + 1 ≤ _; omega, by show 0 + R.length ≤ _; omega, by first | exact O10.out | simpa using O10.out, z10.out⟩
            case measure => simp [intOf]; omega
          · have Dd := dead_any w10 D SS M' s' hl.dk
            rw [hl.dead] at Dd
            have I10 := hide hl.is
            have D10 := hide hl.dk
            have B10 := hide (hl.mv.below W9.out.bl W9.out.bl.size W9.out.bD W9.out.bS W9.out.bM W9.out.bj)
            have OA10 := hide (hl.mv.keepBs W9.out.dk W9.out.jr OB9.out hSlt)
            have ON10 := hide (hl.mv.keepBs W9.out.dk W9.out.jr OR9.out hSlt)
            have n' := hide (hl.n.trans HSN6.out.1)
            have z' := hide (hl.sz.trans HSN6.out.2)
            have z10 : Hid (B4 ≤ w10.heap.size) := Nat.le_trans z9.out hl.mv.size
            have bd : Hid (w.heap.size ≤ D ∧ w.heap.size ≤ SS ∧ w.heap.size ≤ M') := ⟨W9.out.bD, W9.out.bS, hl.m.elim (fun e => by rw [e]; exact W9.out.bM) (fun e => Nat.le_trans W9.out.bl.size e)⟩
            clear hl W9 OR9 OB9 O9 z9 W6 OB6 O6H z6
            by_cases hkp : i < Kp.length
            · obtain ⟨bk, ok, ebk, hbk, hkk⟩ := (HK.out.below B10.out (Nat.le_refl _)) (by omega)
              obtain ⟨y2, hkv⟩ := hkk i hkp
              subst ebk
              have hkp' : (i : Int) < (Kp.length : Int) := by omega
              generalize Kp.getD i 0 = kv at y2 hkv
              clear hkk
              go_wp2_with (first | (go_at_call 23; refine Dd.mono ?_; rintro e w' ⟨rfl, hw⟩; rw [hw]; clear hw w') | fail)
              refine (crash_any w10 D SS M' s' D10.out kv hkv).mono ?_
              rintro e w11 ⟨rfl, M11, D11, V11, z11, _⟩
              have B11 := hide (V11.below B10.out B10.out.size bd.out.1 bd.out.2.1 bd.out.2.2)
              have OA11 := hide (V11.keepBs D10.out OA10.out hSlt)
              have ON11 := hide (V11.keepBs D10.out ON10.out hSlt)
              have zz11 : Hid (B4 ≤ w11.heap.size) := Nat.le_trans z10.out V11.size
              have bd11 : Hid (w.heap.size ≤ M11) := Nat.le_trans B10.out.size z11
              obtain ⟨hh, LL, i11, hLL, hhc, hhb⟩ : ∃ hh LL, J.Is (s'.crashed kv) hh LL ∧ (LL = L ∨ LL = R) ∧ hh.c ≤ i + 1 ∧ hh.b ≤ 6 * (i + 1) := by
                rcases I10.out kv with h9 | h9
                · exact ⟨_, _, h9, Or.inl rfl, by omega, by omega⟩
                · exact ⟨_, _, h9, Or.inr rfl, by show h.c + 1 ≤ _; omega, by show 0 + R.length ≤ _; omega⟩
              have n11 : Hid ((s'.crashed kv).n = N ∧ (s'.crashed kv).sz = 512) := ⟨n'.out, z'.out⟩
              obtain ⟨s11, hs11⟩ : ∃ s11, s11 = s'.crashed kv := ⟨_, rfl⟩
              rw [← hs11] at i11 n11 D11
              have I11 := hide i11
              have D11H := hide D11
              have HLL := hide hLL
              have P11 : Hid (0 < D ∧ 0 < SS ∧ 0 < M11) := by have h1 := bd.out; have h2 := bd11.out; exact ⟨by omega, by omega, by omega⟩
              have hL12 : LL.length ≤ 1000 := by rw [i11.len]; omega
              clear D11 V11 z11 i11 hLL hs11 I10 D10 B10 OA10 ON10 n' z' z10
              go_wp2_with fail
              refine (open_is w11 (HT.out.below B11.out hpos) D SS M11 s11 D11H.out hh LL I11.out P11.out).mono ?_
              rintro e w12 ⟨v12, M12, rfl, J12, D12, V12, z12, O12⟩
              obtain ⟨a12, c12, hv12⟩ := O12.slice
              rw [hv12] at O12 ⊢
              have W12 := hide (FW.again (bJ := w11.heap.size) B11.out bd.out.1 bd.out.2.1 bd11.out I11.out V12 z12 D12 B11.out.size J12)
              have OA12 := hide (V12.keepBs D11H.out OA11.out hSlt)
              have ON12 := hide (V12.keepBs D11H.out ON11.out hSlt)
              have S12 := hide O12.sl
              have zz12 : Hid (B4 ≤ w12.heap.size) := Nat.le_trans zz11.out V12.size
              have n12 : Hid (s11.synced.n = N ∧ s11.synced.sz = 512) := ⟨(synced_same s11).2.trans n11.out.1, (synced_same s11).1.trans n11.out.2⟩
              generalize w11.heap.size = bJ12 at W12 ⊢
              clear J12 D12 V12 z12 O12 hv12 B11 OA11 ON11 zz11 n11 I11 D11H P11
              have hbl := blobs_any w12 a12 aL c12 cL LL L (by omega) S12.out OA12.out.sl
              by_cases eL : LL = L
              · rw [decide_eq_true eL] at hbl
                have EL := hide eL
                clear eL HLL
                go_wp2_with (first | (go_at_call 17; refine hbl.mono ?_; rintro e w13 ⟨rfl, m, hw13⟩; have W13 : Hid (FW w D SS bJ12 M12 s11.synced hh LL w13) := (by rw [hw13]; exact W12.out.below (below_drewN (Below.refl _ _) m)); have O13 : Hid (OwnBs w13 B4 (.slice aL L.length cL) L) := (by rw [hw13]; exact OA12.out.drewN m); have z13 : Hid (B4 ≤ w13.heap.size) := (by rw [hw13]; exact zz12.out); clear hw13) | fail)
                go_roundw
                case rel => exact ⟨i + 1, bJ12, M12, s11.synced, hh, LL, by omega, by go_num, rfl, W13.out, n12.out.1, n12.out.2, hhc, hhb, by rw [EL.out]; exact O13.out, z13.out⟩
                case measure => simp [intOf]; omega
              · rw [decide_eq_false eL] at hbl
                have EN : Hid (LL = R) := HLL.out.resolve_left eL
                have hbl2 : ∀ m, Calls Tryd.prog 17 #[.slice a12 LL.length c12, .slice a5 R.length c5] (w12.drewN m) fun e w' => e = .returned (.bool true) ∧ ∃ m', w' = (w12.drewN m).drewN m' := fun m => by
                  have := blobs_any (w12.drewN m) a12 a5 c12 c5 LL R (by omega) (S12.out.drewN m) (ON12.out.sl.drewN m)
                  rw [decide_eq_true EN.out] at this; exact this
                clear eL HLL
                go_wp2_with (first
                  | (go_at_call 17; refine (hbl2 m).mono ?_; rintro e w13 ⟨rfl, m2, hw13⟩; have W13 : Hid (FW w D SS bJ12 M12 s11.synced hh LL w13) := (by rw [hw13]; exact (W12.out.below (below_drewN (Below.refl _ _) m)).below (below_drewN (Below.refl _ _) m2)); have O13 : Hid (OwnBs w13 B4 (.slice a5 R.length c5) R) := (by rw [hw13]; exact (ON12.out.drewN m).drewN m2); have z13 : Hid (B4 ≤ w13.heap.size) := (by rw [hw13]; exact zz12.out); clear hw13)
                  | (go_at_call 17; refine hbl.mono ?_; rintro e w' ⟨rfl, m, hw⟩; rw [hw]; clear hw w')
                  | fail)
                go_roundw
                case rel => exact ⟨i + 1, bJ12, M12, s11.synced, hh, LL, by omega, by go_num, rfl, W13.out, n12.out.1, n12.out.2, hhc, hhb, by rw [EN.out]; first | exact O13.out | simpa using O13.out, z13.out⟩
                case measure => simp [intOf]; omega
            · have hkp' : ¬ (i : Int) < (Kp.length : Int) := by omega
              go_wp2_with (first | (go_at_call 23; refine Dd.mono ?_; rintro e w' ⟨rfl, hw⟩; rw [hw]; clear hw w') | fail)
              refine (crash_any w10 D SS M' s' D10.out 0 (by omega)).mono ?_
              rintro e w11 ⟨rfl, M11, D11, V11, z11, _⟩
              have B11 := hide (V11.below B10.out B10.out.size bd.out.1 bd.out.2.1 bd.out.2.2)
              have OA11 := hide (V11.keepBs D10.out OA10.out hSlt)
              have ON11 := hide (V11.keepBs D10.out ON10.out hSlt)
              have zz11 : Hid (B4 ≤ w11.heap.size) := Nat.le_trans z10.out V11.size
              have bd11 : Hid (w.heap.size ≤ M11) := Nat.le_trans B10.out.size z11
              obtain ⟨hh, LL, i11, hLL, hhc, hhb⟩ : ∃ hh LL, J.Is (s'.crashed 0) hh LL ∧ (LL = L ∨ LL = R) ∧ hh.c ≤ i + 1 ∧ hh.b ≤ 6 * (i + 1) := by
                rcases I10.out 0 with h9 | h9
                · exact ⟨_, _, h9, Or.inl rfl, by omega, by omega⟩
                · exact ⟨_, _, h9, Or.inr rfl, by show h.c + 1 ≤ _; omega, by show 0 + R.length ≤ _; omega⟩
              have n11 : Hid ((s'.crashed 0).n = N ∧ (s'.crashed 0).sz = 512) := ⟨n'.out, z'.out⟩
              obtain ⟨s11, hs11⟩ : ∃ s11, s11 = s'.crashed 0 := ⟨_, rfl⟩
              rw [← hs11] at i11 n11 D11
              have I11 := hide i11
              have D11H := hide D11
              have HLL := hide hLL
              have P11 : Hid (0 < D ∧ 0 < SS ∧ 0 < M11) := by have h1 := bd.out; have h2 := bd11.out; exact ⟨by omega, by omega, by omega⟩
              have hL12 : LL.length ≤ 1000 := by rw [i11.len]; omega
              clear D11 V11 z11 i11 hLL hs11 I10 D10 B10 OA10 ON10 n' z' z10
              go_wp2_with fail
              refine (open_is w11 (HT.out.below B11.out hpos) D SS M11 s11 D11H.out hh LL I11.out P11.out).mono ?_
              rintro e w12 ⟨v12, M12, rfl, J12, D12, V12, z12, O12⟩
              obtain ⟨a12, c12, hv12⟩ := O12.slice
              rw [hv12] at O12 ⊢
              have W12 := hide (FW.again (bJ := w11.heap.size) B11.out bd.out.1 bd.out.2.1 bd11.out I11.out V12 z12 D12 B11.out.size J12)
              have OA12 := hide (V12.keepBs D11H.out OA11.out hSlt)
              have ON12 := hide (V12.keepBs D11H.out ON11.out hSlt)
              have S12 := hide O12.sl
              have zz12 : Hid (B4 ≤ w12.heap.size) := Nat.le_trans zz11.out V12.size
              have n12 : Hid (s11.synced.n = N ∧ s11.synced.sz = 512) := ⟨(synced_same s11).2.trans n11.out.1, (synced_same s11).1.trans n11.out.2⟩
              generalize w11.heap.size = bJ12 at W12 ⊢
              clear J12 D12 V12 z12 O12 hv12 B11 OA11 ON11 zz11 n11 I11 D11H P11
              have hbl := blobs_any w12 a12 aL c12 cL LL L (by omega) S12.out OA12.out.sl
              by_cases eL : LL = L
              · rw [decide_eq_true eL] at hbl
                have EL := hide eL
                clear eL HLL
                go_wp2_with (first | (go_at_call 17; refine hbl.mono ?_; rintro e w13 ⟨rfl, m, hw13⟩; have W13 : Hid (FW w D SS bJ12 M12 s11.synced hh LL w13) := (by rw [hw13]; exact W12.out.below (below_drewN (Below.refl _ _) m)); have O13 : Hid (OwnBs w13 B4 (.slice aL L.length cL) L) := (by rw [hw13]; exact OA12.out.drewN m); have z13 : Hid (B4 ≤ w13.heap.size) := (by rw [hw13]; exact zz12.out); clear hw13) | fail)
                go_roundw
                case rel => exact ⟨i + 1, bJ12, M12, s11.synced, hh, LL, by omega, by go_num, rfl, W13.out, n12.out.1, n12.out.2, hhc, hhb, by rw [EL.out]; exact O13.out, z13.out⟩
                case measure => simp [intOf]; omega
              · rw [decide_eq_false eL] at hbl
                have EN : Hid (LL = R) := HLL.out.resolve_left eL
                have hbl2 : ∀ m, Calls Tryd.prog 17 #[.slice a12 LL.length c12, .slice a5 R.length c5] (w12.drewN m) fun e w' => e = .returned (.bool true) ∧ ∃ m', w' = (w12.drewN m).drewN m' := fun m => by
                  have := blobs_any (w12.drewN m) a12 a5 c12 c5 LL R (by omega) (S12.out.drewN m) (ON12.out.sl.drewN m)
                  rw [decide_eq_true EN.out] at this; exact this
                clear eL HLL
                go_wp2_with (first
                  | (go_at_call 17; refine (hbl2 m).mono ?_; rintro e w13 ⟨rfl, m2, hw13⟩; have W13 : Hid (FW w D SS bJ12 M12 s11.synced hh LL w13) := (by rw [hw13]; exact (W12.out.below (below_drewN (Below.refl _ _) m)).below (below_drewN (Below.refl _ _) m2)); have O13 : Hid (OwnBs w13 B4 (.slice a5 R.length c5) R) := (by rw [hw13]; exact (ON12.out.drewN m).drewN m2); have z13 : Hid (B4 ≤ w13.heap.size) := (by rw [hw13]; exact zz12.out); clear hw13)
                  | (go_at_call 17; refine hbl.mono ?_; rintro e w' ⟨rfl, m, hw⟩; rw [hw]; clear hw w')
                  | fail)
                go_roundw
                case rel => exact ⟨i + 1, bJ12, M12, s11.synced, hh, LL, by omega, by go_num, rfl, W13.out, n12.out.1, n12.out.2, hhc, hhb, by rw [EN.out]; first | exact O13.out | simpa using O13.out, z13.out⟩
                case measure => simp [intOf]; omega
          · have B10 := hide (W9.out.bl.trans (hl.mono W9.out.bl.size))
            clear hl W9 OR9 OB9 O9 z9 W6 OB6 O6H z6
            go_wp2
            go_ret
            exact ⟨rfl, B10.out⟩
        · have h4' : (X == 4) = false := by simp [h4]
          go_wp2_with (first
            | (at_builtin; refine wpList_append_Bs rfl (.tmp 85) (.tmp 86) rfl w5.heap.size _ _ rfl O8.out _ _ _ B4 R rfl rfl OC8.out (by omega) z8.out ?_; intro v9 w9 P9 _ _ b9; have b79 := B8.out.trans b9; obtain ⟨a9, c9, hv9⟩ := P9.slice; rw [hv9] at P9; rw [hv9]; have O9 := hide (P9.low z6.out); have OR9 := hide (O6H.out.bel b79); have OB9 := hide (OB6.out.bel b79); have W9 := hide (W6.out.below b79); have z9 : Hid (B4 ≤ w9.heap.size) := Nat.le_trans z6.out b79.size; have k9 : w9.cell? ⟨b, o + i * 2, none⟩ = some (.int .i64 X) := (W9.out.bl.cell (p := ⟨b, o + i * 2, none⟩) hb0).trans c10; clear P9 b9 b79 hv9 O8 B8 z8 OC8)
            | (at_builtin; refine wpList_append_Bs rfl (.const (.slice none 0 0)) (.tmp 84) rfl w5.heap.size _ [] rfl (OwnBs.nil _ _) _ _ _ B4 L rfl rfl OB6.out (by simp; omega) (Nat.le_refl _) ?_; intro v8 w8 P8 _ _ b8; have P8 : OwnBs w8 w5.heap.size v8 L := P8; obtain ⟨a8, c8, hv8⟩ := P8.slice; rw [hv8] at P8; rw [hv8]; have O8 := hide P8; have B8 := hide b8; have z8 := hide b8.size; have OC8 := hide (O6H.out.bel b8); clear P8 b8 hv8)
            | fail)
          refine (commit_is2 w9 (W9.out.tab HT.out) D SS M bJ' _ h L W9.out.is W9.out.dead W9.out.un W9.out.dk W9.out.jr (W9.out.pos HT.out) a5 c5 R OR9.out.sl (by omega) (by omega) (by omega)).mono ?_
          rintro e w10 ⟨x10, rfl, ⟨rfl, M', s', hl⟩ | ⟨rfl, M', s', hl⟩ | ⟨_, rfl, hl⟩⟩
          · have W10 := hide (W9.out.laid hl)
            have O10 := hide (hl.mv.keepBs W9.out.dk W9.out.jr O9.out hSlt)
            have n' := hide (hl.n.trans HSN6.out.1)
            have z' := hide (hl.sz.trans HSN6.out.2)
            have z10 : Hid (B4 ≤ w10.heap.size) := Nat.le_trans z9.out hl.mv.size
            clear hl W9 OR9 OB9 O9 z9 W6 OB6 O6H z6
            go_wp2
            go_roundw
            case rel => exact ⟨i + 1, bJ', M', s', _, _, by omega, by go_num, rfl, W10.out, n'.out, z'.out, by show h.c + 1 ≤ _; omega, by show h.b + R.length ≤ _; omega, by first | exact O10.out | simpa using O10.out, z10.out⟩
            case measure => simp [intOf]; omega
          · have Dd := dead_any w10 D SS M' s' hl.dk
            rw [hl.dead] at Dd
            have I10 := hide hl.is
            have D10 := hide hl.dk
            have B10 := hide (hl.mv.below W9.out.bl W9.out.bl.size W9.out.bD W9.out.bS W9.out.bM W9.out.bj)
            have OA10 := hide (hl.mv.keepBs W9.out.dk W9.out.jr OB9.out hSlt)
            have ON10 := hide (hl.mv.keepBs W9.out.dk W9.out.jr O9.out hSlt)
            have n' := hide (hl.n.trans HSN6.out.1)
            have z' := hide (hl.sz.trans HSN6.out.2)
            have z10 : Hid (B4 ≤ w10.heap.size) := Nat.le_trans z9.out hl.mv.size
            have bd : Hid (w.heap.size ≤ D ∧ w.heap.size ≤ SS ∧ w.heap.size ≤ M') := ⟨W9.out.bD, W9.out.bS, hl.m.elim (fun e => by rw [e]; exact W9.out.bM) (fun e => Nat.le_trans W9.out.bl.size e)⟩
            clear hl W9 OR9 OB9 O9 z9 W6 OB6 O6H z6
            by_cases hkp : i < Kp.length
            · obtain ⟨bk, ok, ebk, hbk, hkk⟩ := (HK.out.below B10.out (Nat.le_refl _)) (by omega)
              obtain ⟨y2, hkv⟩ := hkk i hkp
              subst ebk
              have hkp' : (i : Int) < (Kp.length : Int) := by omega
              generalize Kp.getD i 0 = kv at y2 hkv
              clear hkk
              go_wp2_with (first | (go_at_call 23; refine Dd.mono ?_; rintro e w' ⟨rfl, hw⟩; rw [hw]; clear hw w') | fail)
              refine (crash_any w10 D SS M' s' D10.out kv hkv).mono ?_
              rintro e w11 ⟨rfl, M11, D11, V11, z11, _⟩
              have B11 := hide (V11.below B10.out B10.out.size bd.out.1 bd.out.2.1 bd.out.2.2)
              have OA11 := hide (V11.keepBs D10.out OA10.out hSlt)
              have ON11 := hide (V11.keepBs D10.out ON10.out hSlt)
              have zz11 : Hid (B4 ≤ w11.heap.size) := Nat.le_trans z10.out V11.size
              have bd11 : Hid (w.heap.size ≤ M11) := Nat.le_trans B10.out.size z11
              obtain ⟨hh, LL, i11, hLL, hhc, hhb⟩ : ∃ hh LL, J.Is (s'.crashed kv) hh LL ∧ (LL = L ∨ LL = (L ++ R)) ∧ hh.c ≤ i + 1 ∧ hh.b ≤ 6 * (i + 1) := by
                rcases I10.out kv with h9 | h9
                · exact ⟨_, _, h9, Or.inl rfl, by omega, by omega⟩
                · exact ⟨_, _, h9, Or.inr rfl, by show h.c + 1 ≤ _; omega, by show h.b + R.length ≤ _; omega⟩
              have n11 : Hid ((s'.crashed kv).n = N ∧ (s'.crashed kv).sz = 512) := ⟨n'.out, z'.out⟩
              obtain ⟨s11, hs11⟩ : ∃ s11, s11 = s'.crashed kv := ⟨_, rfl⟩
              rw [← hs11] at i11 n11 D11
              have I11 := hide i11
              have D11H := hide D11
              have HLL := hide hLL
              have P11 : Hid (0 < D ∧ 0 < SS ∧ 0 < M11) := by have h1 := bd.out; have h2 := bd11.out; exact ⟨by omega, by omega, by omega⟩
              have hL12 : LL.length ≤ 1000 := by rw [i11.len]; omega
              clear D11 V11 z11 i11 hLL hs11 I10 D10 B10 OA10 ON10 n' z' z10
              go_wp2_with fail
              refine (open_is w11 (HT.out.below B11.out hpos) D SS M11 s11 D11H.out hh LL I11.out P11.out).mono ?_
              rintro e w12 ⟨v12, M12, rfl, J12, D12, V12, z12, O12⟩
              obtain ⟨a12, c12, hv12⟩ := O12.slice
              rw [hv12] at O12 ⊢
              have W12 := hide (FW.again (bJ := w11.heap.size) B11.out bd.out.1 bd.out.2.1 bd11.out I11.out V12 z12 D12 B11.out.size J12)
              have OA12 := hide (V12.keepBs D11H.out OA11.out hSlt)
              have ON12 := hide (V12.keepBs D11H.out ON11.out hSlt)
              have S12 := hide O12.sl
              have zz12 : Hid (B4 ≤ w12.heap.size) := Nat.le_trans zz11.out V12.size
              have n12 : Hid (s11.synced.n = N ∧ s11.synced.sz = 512) := ⟨(synced_same s11).2.trans n11.out.1, (synced_same s11).1.trans n11.out.2⟩
              generalize w11.heap.size = bJ12 at W12 ⊢
              clear J12 D12 V12 z12 O12 hv12 B11 OA11 ON11 zz11 n11 I11 D11H P11
              have hbl := blobs_any w12 a12 aL c12 cL LL L (by omega) S12.out OA12.out.sl
              by_cases eL : LL = L
              · rw [decide_eq_true eL] at hbl
                have EL := hide eL
                clear eL HLL
                go_wp2_with (first | (go_at_call 17; refine hbl.mono ?_; rintro e w13 ⟨rfl, m, hw13⟩; have W13 : Hid (FW w D SS bJ12 M12 s11.synced hh LL w13) := (by rw [hw13]; exact W12.out.below (below_drewN (Below.refl _ _) m)); have O13 : Hid (OwnBs w13 B4 (.slice aL L.length cL) L) := (by rw [hw13]; exact OA12.out.drewN m); have z13 : Hid (B4 ≤ w13.heap.size) := (by rw [hw13]; exact zz12.out); clear hw13) | fail)
                go_roundw
                case rel => exact ⟨i + 1, bJ12, M12, s11.synced, hh, LL, by omega, by go_num, rfl, W13.out, n12.out.1, n12.out.2, hhc, hhb, by rw [EL.out]; exact O13.out, z13.out⟩
                case measure => simp [intOf]; omega
              · rw [decide_eq_false eL] at hbl
                have EN : Hid (LL = (L ++ R)) := HLL.out.resolve_left eL
                have hbl2 : ∀ m, Calls Tryd.prog 17 #[.slice a12 LL.length c12, .slice a9 (L.length + R.length) c9] (w12.drewN m) fun e w' => e = .returned (.bool true) ∧ ∃ m', w' = (w12.drewN m).drewN m' := fun m => by
                  have := blobs_any (w12.drewN m) a12 a9 c12 c9 LL (L ++ R) (by omega) (S12.out.drewN m) (ON12.out.sl.drewN m)
                  rw [List.length_append, decide_eq_true EN.out] at this; exact this
                clear eL HLL
                go_wp2_with (first
                  | (go_at_call 17; refine (hbl2 m).mono ?_; rintro e w13 ⟨rfl, m2, hw13⟩; have W13 : Hid (FW w D SS bJ12 M12 s11.synced hh LL w13) := (by rw [hw13]; exact (W12.out.below (below_drewN (Below.refl _ _) m)).below (below_drewN (Below.refl _ _) m2)); have O13 : Hid (OwnBs w13 B4 (.slice a9 (L ++ R).length c9) (L ++ R)) := (by rw [hw13]; exact (ON12.out.drewN m).drewN m2); have z13 : Hid (B4 ≤ w13.heap.size) := (by rw [hw13]; exact zz12.out); clear hw13)
                  | (go_at_call 17; refine hbl.mono ?_; rintro e w' ⟨rfl, m, hw⟩; rw [hw]; clear hw w')
                  | fail)
                go_roundw
                case rel => exact ⟨i + 1, bJ12, M12, s11.synced, hh, LL, by omega, by go_num, rfl, W13.out, n12.out.1, n12.out.2, hhc, hhb, by rw [EN.out]; first | exact O13.out | simpa using O13.out, z13.out⟩
                case measure => simp [intOf]; omega
            · have hkp' : ¬ (i : Int) < (Kp.length : Int) := by omega
              go_wp2_with (first | (go_at_call 23; refine Dd.mono ?_; rintro e w' ⟨rfl, hw⟩; rw [hw]; clear hw w') | fail)
              refine (crash_any w10 D SS M' s' D10.out 0 (by omega)).mono ?_
              rintro e w11 ⟨rfl, M11, D11, V11, z11, _⟩
              have B11 := hide (V11.below B10.out B10.out.size bd.out.1 bd.out.2.1 bd.out.2.2)
              have OA11 := hide (V11.keepBs D10.out OA10.out hSlt)
              have ON11 := hide (V11.keepBs D10.out ON10.out hSlt)
              have zz11 : Hid (B4 ≤ w11.heap.size) := Nat.le_trans z10.out V11.size
              have bd11 : Hid (w.heap.size ≤ M11) := Nat.le_trans B10.out.size z11
              obtain ⟨hh, LL, i11, hLL, hhc, hhb⟩ : ∃ hh LL, J.Is (s'.crashed 0) hh LL ∧ (LL = L ∨ LL = (L ++ R)) ∧ hh.c ≤ i + 1 ∧ hh.b ≤ 6 * (i + 1) := by
                rcases I10.out 0 with h9 | h9
                · exact ⟨_, _, h9, Or.inl rfl, by omega, by omega⟩
                · exact ⟨_, _, h9, Or.inr rfl, by show h.c + 1 ≤ _; omega, by show h.b + R.length ≤ _; omega⟩
              have n11 : Hid ((s'.crashed 0).n = N ∧ (s'.crashed 0).sz = 512) := ⟨n'.out, z'.out⟩
              obtain ⟨s11, hs11⟩ : ∃ s11, s11 = s'.crashed 0 := ⟨_, rfl⟩
              rw [← hs11] at i11 n11 D11
              have I11 := hide i11
              have D11H := hide D11
              have HLL := hide hLL
              have P11 : Hid (0 < D ∧ 0 < SS ∧ 0 < M11) := by have h1 := bd.out; have h2 := bd11.out; exact ⟨by omega, by omega, by omega⟩
              have hL12 : LL.length ≤ 1000 := by rw [i11.len]; omega
              clear D11 V11 z11 i11 hLL hs11 I10 D10 B10 OA10 ON10 n' z' z10
              go_wp2_with fail
              refine (open_is w11 (HT.out.below B11.out hpos) D SS M11 s11 D11H.out hh LL I11.out P11.out).mono ?_
              rintro e w12 ⟨v12, M12, rfl, J12, D12, V12, z12, O12⟩
              obtain ⟨a12, c12, hv12⟩ := O12.slice
              rw [hv12] at O12 ⊢
              have W12 := hide (FW.again (bJ := w11.heap.size) B11.out bd.out.1 bd.out.2.1 bd11.out I11.out V12 z12 D12 B11.out.size J12)
              have OA12 := hide (V12.keepBs D11H.out OA11.out hSlt)
              have ON12 := hide (V12.keepBs D11H.out ON11.out hSlt)
              have S12 := hide O12.sl
              have zz12 : Hid (B4 ≤ w12.heap.size) := Nat.le_trans zz11.out V12.size
              have n12 : Hid (s11.synced.n = N ∧ s11.synced.sz = 512) := ⟨(synced_same s11).2.trans n11.out.1, (synced_same s11).1.trans n11.out.2⟩
              generalize w11.heap.size = bJ12 at W12 ⊢
              clear J12 D12 V12 z12 O12 hv12 B11 OA11 ON11 zz11 n11 I11 D11H P11
              have hbl := blobs_any w12 a12 aL c12 cL LL L (by omega) S12.out OA12.out.sl
              by_cases eL : LL = L
              · rw [decide_eq_true eL] at hbl
                have EL := hide eL
                clear eL HLL
                go_wp2_with (first | (go_at_call 17; refine hbl.mono ?_; rintro e w13 ⟨rfl, m, hw13⟩; have W13 : Hid (FW w D SS bJ12 M12 s11.synced hh LL w13) := (by rw [hw13]; exact W12.out.below (below_drewN (Below.refl _ _) m)); have O13 : Hid (OwnBs w13 B4 (.slice aL L.length cL) L) := (by rw [hw13]; exact OA12.out.drewN m); have z13 : Hid (B4 ≤ w13.heap.size) := (by rw [hw13]; exact zz12.out); clear hw13) | fail)
                go_roundw
                case rel => exact ⟨i + 1, bJ12, M12, s11.synced, hh, LL, by omega, by go_num, rfl, W13.out, n12.out.1, n12.out.2, hhc, hhb, by rw [EL.out]; exact O13.out, z13.out⟩
                case measure => simp [intOf]; omega
              · rw [decide_eq_false eL] at hbl
                have EN : Hid (LL = (L ++ R)) := HLL.out.resolve_left eL
                have hbl2 : ∀ m, Calls Tryd.prog 17 #[.slice a12 LL.length c12, .slice a9 (L.length + R.length) c9] (w12.drewN m) fun e w' => e = .returned (.bool true) ∧ ∃ m', w' = (w12.drewN m).drewN m' := fun m => by
                  have := blobs_any (w12.drewN m) a12 a9 c12 c9 LL (L ++ R) (by omega) (S12.out.drewN m) (ON12.out.sl.drewN m)
                  rw [List.length_append, decide_eq_true EN.out] at this; exact this
                clear eL HLL
                go_wp2_with (first
                  | (go_at_call 17; refine (hbl2 m).mono ?_; rintro e w13 ⟨rfl, m2, hw13⟩; have W13 : Hid (FW w D SS bJ12 M12 s11.synced hh LL w13) := (by rw [hw13]; exact (W12.out.below (below_drewN (Below.refl _ _) m)).below (below_drewN (Below.refl _ _) m2)); have O13 : Hid (OwnBs w13 B4 (.slice a9 (L ++ R).length c9) (L ++ R)) := (by rw [hw13]; exact (ON12.out.drewN m).drewN m2); have z13 : Hid (B4 ≤ w13.heap.size) := (by rw [hw13]; exact zz12.out); clear hw13)
                  | (go_at_call 17; refine hbl.mono ?_; rintro e w' ⟨rfl, m, hw⟩; rw [hw]; clear hw w')
                  | fail)
                go_roundw
                case rel => exact ⟨i + 1, bJ12, M12, s11.synced, hh, LL, by omega, by go_num, rfl, W13.out, n12.out.1, n12.out.2, hhc, hhb, by rw [EN.out]; first | exact O13.out | simpa using O13.out, z13.out⟩
                case measure => simp [intOf]; omega
          · have B10 := hide (W9.out.bl.trans (hl.mono W9.out.bl.size))
            clear hl W9 OR9 OB9 O9 z9 W6 OB6 O6H z6
            go_wp2
            go_ret
            exact ⟨rfl, B10.out⟩
    · have hlt' : ¬ (i : Int) < (A.length : Int) := by omega
      go_wp2_with fail
      refine (crash_any wA D SS M s WA.out.dk 0 (by omega)).mono ?_
      rintro e w6 ⟨rfl, M6, D6, V6, z6, _⟩
      have I6 := hide (WA.out.is.sure WA.out.un 0)
      have OB6 := hide (V6.keepBs WA.out.dk OA.out hSlt)
      have B6 := hide (V6.below WA.out.bl WA.out.bl.size WA.out.bD WA.out.bS WA.out.bM)
      have D6H := hide D6
      have P6 : Hid (0 < D ∧ 0 < SS ∧ 0 < M6) := by have := WA.out.pos HT.out; exact ⟨this.1, this.2.1, by have := WA.out.bl.size; omega⟩
      have hbd : Hid (w.heap.size ≤ D ∧ w.heap.size ≤ SS ∧ w.heap.size ≤ M6) := ⟨WA.out.bD, WA.out.bS, Nat.le_trans WA.out.bl.size z6⟩
      generalize s.crashed 0 = s6 at I6 D6H
      clear D6 V6 z6 WA OA
      go_wp2_with fail
      refine (open_is w6 (HT.out.below B6.out hpos) D SS M6 s6 D6H.out h L I6.out P6.out).mono ?_
      rintro e w7 ⟨v7, M7, rfl, J7, D7, V7, z7, O7⟩
      obtain ⟨a7, c7, hv7⟩ := O7.slice
      rw [hv7] at O7 ⊢
      have B7 := hide (V7.below B6.out B6.out.size hbd.out.1 hbd.out.2.1 hbd.out.2.2)
      have OB7 := hide (V7.keepBs D6H.out OB6.out hSlt)
      have hbl := blobs_same w7 a7 aL c7 cL L.length L.length L rfl rfl (by omega) O7.sl OB7.out.sl
      clear J7 D7 V7 z7 O7 hv7
      go_wp2_with (first | (go_at_call 17; refine hbl.mono ?_; rintro e w8 ⟨rfl, m, hw8⟩; have BW8 : Hid (Below w.heap.size w w8) := (by rw [hw8]; exact below_drewN B7.out m); clear hw8) | fail)
      go_ret
      exact ⟨rfl, BW8.out⟩
end Go.Proofs.YtidocfajhhpfdaaDoor
