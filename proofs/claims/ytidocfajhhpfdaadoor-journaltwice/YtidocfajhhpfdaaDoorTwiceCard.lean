/- Crash. -/
import Derived.Test.YtidocfajhhpfdaaDoorDsy
import Derived.Laws.BitsAllLaws
import Derived.Test.YtidocfajhhpfdaaDoorJci
import Derived.Test.YtidocfajhhpfdaaDoorKps
import Derived.Test.YtidocfajhhpfdaaDoorArgs
import Derived.Test.YtidocfajhhpfdaaDoorLaid
import Derived.Test.YtidocfajhhpfdaaDoorCards
import Derived.Test.YtidocfajhhpfdaaDoorTie
import Derived.SevenTiedAt
namespace Go.Proofs.YtidocfajhhpfdaaDoor
open Go.RowKit
set_option maxRecDepth 5000 in
theorem Dk.fr {A : Nat → Prop} {w : World} {D S M : Nat} {s : K.St} {sv : Nat → Value} {uv : Nat → Option Value} (h : Dk A w D S M s sv uv) : (fun i => (uv i).isSome) = K.fr s := by
  funext i; exact h.hun i
set_option maxRecDepth 5000 in
theorem bit_and (kp j : Nat) (h : kp < 18446744073709551616) : bits .and .u64 ((kp : Int) / 2 ^ j) 1 = if kp.testBit j then 1 else 0 := by
  have e : ((kp : Int) / 2 ^ j) = ((kp / 2 ^ j : Nat) : Int) := by simp
  have hl : kp / 2 ^ j < 18446744073709551616 := Nat.lt_of_le_of_lt (Nat.div_le_self _ _) h
  have h1 := u64_and_nat (kp / 2 ^ j) 1 hl (by omega)
  rw [e]
  have e2 : ((1 : Nat) : Int) = 1 := rfl
  rw [e2] at h1
  rw [h1, Nat.and_one_is_mod, Nat.testBit_eq_decide_div_mod_eq]
  rcases Nat.mod_two_eq_zero_or_one (kp / 2 ^ j) with h0 | h0 <;> simp [h0]
set_option maxRecDepth 5000 in
theorem K.sel (p : Nat → Bool) (i k : Nat) (hp : p i = true) (hc : K.cnt p i = k) (j : Nat) (e : j ≠ i) : (p j && decide (K.cnt p j < k + 1)) = (p j && decide (K.cnt p j < k)) := by
  cases hf : p j
  · rfl
  · have hne : K.cnt p j ≠ k := by
      rcases Nat.lt_or_gt_of_ne e with h | h
      · have := K.cnt_lt p hf h; omega
      · have := K.cnt_lt p hp h; omega
    by_cases h : K.cnt p j < k
    · simp [h]; omega
    · simp [h]; omega
def crEnd (W : World) (D : Nat) : World := ((((W.alloc (.map #[] 0)).setCell ⟨D, 2, none⟩ (.map (some W.heap.size))).setCell ⟨D, 3, none⟩ (.bool false)).setCell ⟨D, 4, none⟩ (.bool false)).setCell ⟨D, 5, none⟩ (.int .i64 0)
set_option maxRecDepth 5000 in
theorem Dk.fin_crash {A : Nat → Prop} {w W : World} {D S M : Nat} {s : K.St} {sv sw : Nat → Value} {uv : Nat → Option Value} (h : Dk A w D S M s sv uv) (kp : Nat) (hG : w.grownBy W (some S)) (hS : RowAt W S 22 ((List.range s.n).map sw).toArray)
    (hsw : ∀ i, i < s.n → sw i = if K.fr s i && decide (K.cnt (K.fr s) i < K.cnt (K.fr s) s.n) && K.bit kp (K.cnt (K.fr s) i) then (uv i).getD (sv i) else sv i) : ∃ M', DiskAt A (crEnd W D) D S M' (s.crashed kp) ∧ Mv D S M w (crEnd W D) ∧ w.heap.size ≤ M' ∧ M' < (crEnd W D).heap.size := by
  have hDS := h.DS
  have hRD : RowAt W D 63 (dkRow s.sz S s.n M s.dead s.cut s.left) := (hG.block D h.row.lt (fun e => hDS (by injection e))).trans h.row
  have hlt := hRD.lt
  have hk1 : Rows w W := fun g c hg => (hG.block g hg.lt (fun e => (h.sure.ne hg tne2) (by injection e with e; exact e.symm))).trans hg
  have hne : ∀ g, g ≠ D → g < W.heap.size → (crEnd W D).heap[g]? = W.heap[g]? := fun g hg hl => by
    unfold crEnd
    rw [heap_setCell_other _ _ _ _ hg, heap_setCell_other _ _ _ _ hg, heap_setCell_other _ _ _ _ hg, heap_setCell_other _ _ _ _ hg, Below.heap_alloc _ _ _ hl]
  have hk2 : Rows W (crEnd W D) := fun g c hg => (hne g (fun e => (hRD.ne hg tne1) e.symm) hg.lt).trans hg
  have hk := hk1.trans hk2
  refine ⟨W.heap.size, ⟨sw, fun _ => none, ?_⟩, ?_, hG.size, ?_⟩
  · have e := K.crAt_full s kp h.hlt
    rw [← e]
    refine ⟨?_, ?_, ?_, ?_, fun _ => rfl, fun _ _ _ h => (by cases h), fun _ h => (by cases h), h.b1, h.b2, h.b3, h.b4, by show (0 : Nat) ≤ _; omega, fun g hg => by have := h.hA g hg; have := hG.size; simp [crEnd, World.setCell]; omega⟩
    · have h1 := (((((hRD.alloc (.map #[] 0)).set 2 (.map (some W.heap.size))).set 3 (.bool false)).set 4 (.bool false)).set 5 (.int .i64 0))
      exact h1
    · exact (hne S hDS.symm hS.lt).trans hS
    · have h0 := MapAt.made W s.n
      refine h0.heap ?_
      unfold crEnd
      have hg : W.heap.size ≠ D := by omega
      rw [heap_setCell_other _ _ _ _ hg, heap_setCell_other _ _ _ _ hg, heap_setCell_other _ _ _ _ hg, heap_setCell_other _ _ _ _ hg]
    · intro i hi
      show Sec A _ s.sz (sw i) (K.crAt s kp (K.cnt (K.fr s) s.n) i)
      rw [hsw i hi]
      unfold K.crAt
      split
      · rename_i hb
        have h1 := h.sec i hi
        have h2 : K.fr s i = true := by simp at hb; exact hb.1.1
        have h3 : ((s.un i).orElse fun _ => s.su i) = s.un i := by
          unfold K.fr at h2
          cases hu : s.un i with
          | none => rw [hu] at h2; cases h2
          | some l => rfl
        rw [h3] at h1
        exact h1.heap hk
      · exact (h.hsu i hi).heap hk
  · refine ⟨hG.os, hG.tape, hG.output, Nat.le_trans hG.size (by simp [crEnd, World.setCell]), fun g hg h1 h2 _ => ?_⟩
    rw [hne g h1 (Nat.lt_of_lt_of_le hg hG.size), hG.block g hg (fun e => h2 (by injection e))]
  · simp [crEnd, World.setCell]
set_option maxHeartbeats 1000000 in
set_option maxRecDepth 5000 in
theorem crash_any {A : Nat → Prop} (w : World) (D S M : Nat) (s : K.St) (h : DiskAt A w D S M s) (kp : Nat) (hkp : kp < 18446744073709551616) : Calls Tryd.prog 24 #[.pointer (some ⟨D, 0, none⟩), .int .u64 (kp : Int)] w fun e w' => e = .returned (.tuple #[]) ∧ ∃ M', DiskAt A w' D S M' (s.crashed kp) ∧ Mv D S M w w' ∧ w.heap.size ≤ M' ∧ M' < w'.heap.size := by
  obtain ⟨sv, uv, h⟩ := h
  have c2 : w.cell? ⟨D, 2, none⟩ = some (.map (some M)) := h.cell 2
  have H := hide h
  have hso := sorted_any w M s.n uv h.un (by have := h.b4; omega)
  rw [h.fr] at hso
  obtain ⟨n, hn⟩ : ∃ n, n = s.n := ⟨_, rfl⟩
  have HN := hide hn
  have hn4 := h.b4
  rw [← hn] at hn4 hso
  clear h hn
  obtain ⟨N, hN⟩ : ∃ N, N = (K.ks (K.fr s) n).length := ⟨_, rfl⟩
  rw [← hN] at hso
  have HNN := hide hN
  have hNn : N ≤ n := by rw [hN, K.ks_len]; exact K.cnt_self _ _
  clear hN
  go_enter Tryd.func24, Tryd.ntmps24
  go_wp2_with (first
    | (go_at_call 39; refine (keys_any _ _).mono ?_; rintro e w' ⟨rfl, hw⟩; rw [hw]; clear hw w')
    | (go_at_call 38; refine hso.mono ?_; rintro e w1 ⟨v, rfl, hrow, hB⟩; obtain ⟨ao, cap, e1⟩ : ∃ ao cap, v = .slice ao N cap := (by rcases hrow.2 with ⟨e, e2⟩ | ⟨g, cap, cur, e, _⟩; exact ⟨none, 0, by rw [e, e2]⟩; exact ⟨_, _, e⟩); rw [e1] at hrow ⊢; clear e1))
  have hG0 : w.grownBy w1 (some S) := ⟨hB.os, hB.tape, hB.output, Nat.le_trans (by simp) hB.size, fun k hk _ => by rw [hB.block k (by omega), Below.heap_alloc _ _ _ hk]⟩
  obtain ⟨g, hg⟩ : ∃ g, ∀ k i : Nat, (K.ks (K.fr s) n)[k]? = some i → ao = some ⟨g, 0, none⟩ ∧ w.heap.size ≤ g ∧ g < w1.heap.size ∧ w1.cell? ⟨g, k, none⟩ = some (.int .i64 (i : Int)) := by
    have hr := hrow
    rcases hrow.2 with ⟨e, e2⟩ | ⟨g, cap', cur, e, e1, e2, e3, e4, e5, e6⟩
    · refine ⟨0, fun k i hk => ?_⟩
      have := (List.getElem?_eq_some_iff.1 hk).1
      rw [← HNN.out, e2] at this
      omega
    · injection e with e _ _
      refine ⟨g, fun k i hk => ⟨e, by omega, (Array.getElem?_eq_some_iff.1 e2).1, ?_⟩⟩
      have hkN : k < N := by have := (List.getElem?_eq_some_iff.1 hk).1; rw [HNN.out]; exact this
      have hc := World.ownsRow.cellAt (g := g) (by rw [e] at hr; exact hr) k (by omega)
      rw [hc, List.getElem?_map, hk]; rfl
  have HG := hide hg
  have HS0 : Hid (RowAt w1 S 22 ((List.range n).map sv).toArray) := by
    show RowAt _ _ _ _
    rw [HN.out]
    have hl := H.out.sure.lt
    exact ((hB.block S (by omega)).trans (Below.heap_alloc _ _ _ hl)).trans H.out.sure
  clear hg hrow hB hso
  go_loopw [13] (fun k wr => ∃ (kk : Nat) (sw : Nat → Value), k = .int .i64 (kk : Int) ∧ kk ≤ N ∧ RowAt wr S 22 ((List.range n).map sw).toArray ∧ w.grownBy wr (some S) ∧ w1.heap.size ≤ wr.heap.size ∧ (∀ q, w.heap.size ≤ q → q < w1.heap.size → wr.heap[q]? = w1.heap[q]?) ∧ ∀ i : Nat, i < n → sw i = if K.fr s i && decide (K.cnt (K.fr s) i < kk) && K.bit kp (K.cnt (K.fr s) i) then (uv i).getD (sv i) else sv i)
    (fun k _ => N - (match k with | .int _ x => x.toNat | _ => 0))
  case atStart => exact ⟨0, sv, rfl, Nat.zero_le _, HS0.out, hG0, Nat.le_refl _, fun _ _ _ => rfl, fun i _ => by simp⟩
  case round =>
    obtain ⟨kk, sw, rfl, hkk, hS, hG, hsz, hgg, hsw⟩ := hrel
    by_cases hlt : kk < N
    · have hd : decide ((kk : Int) < (N : Int)) = true := by simp; exact hlt
      obtain ⟨i, hki⟩ : ∃ i, (K.ks (K.fr s) n)[kk]? = some i := ⟨_, List.getElem?_eq_getElem (by rw [← HNN.out]; exact hlt)⟩
      obtain ⟨ea, hg1, hg2, hg3⟩ := HG.out kk i hki
      obtain ⟨hin, hfi, hcn⟩ := K.ks_get _ _ _ _ hki
      have y0 : wr.cell? ⟨g, kk, none⟩ = some (.int .i64 (i : Int)) := (World.cell?_of_block (a := ⟨g, kk, none⟩) (hgg g hg1 hg2)).trans hg3
      have HKI := hide hki
      have HSW := hide hsw
      have HGG := hide hgg
      have HGR := hide hG
      have HSS := hide hS
      have HCN := hide hcn
      have HFI := hide hfi
      have hadd : IntKind.i64.wrap ((kk : Int) + 1) = ((kk + 1 : Nat) : Int) := by rw [IntKind.wrap_i64]; omega
      subst ea
      clear hg3 hki hsw hgg hG hS hcn hfi hG0
      have hb := bit_and kp (kk % 64) hkp
      cases hbk : K.bit kp kk
      · have hbk' : kp.testBit (kk % 64) = false := hbk
        rw [hbk'] at hb
        simp only [Bool.false_eq_true, if_false] at hb
        have HBK := hide hbk
        clear hbk hbk'
        go_wp2
        go_roundw
        case rel =>
          refine ⟨kk + 1, sw, rfl, by omega, HSS.out, HGR.out, hsz, HGG.out, fun j hj => ?_⟩
          rw [HSW.out j hj]
          by_cases e : j = i
          · subst e
            rw [HCN.out, HBK.out]; simp
          · rw [K.sel (K.fr s) i kk HFI.out HCN.out j e]
        case measure => show N - ((kk + 1 : Nat) : Int).toNat < N - ((kk : Nat) : Int).toNat; omega
      · have hbk' : kp.testBit (kk % 64) = true := hbk
        rw [hbk'] at hb
        simp only [if_true] at hb
        have HBK := hide hbk
        clear hbk hbk'
        have hRD : RowAt wr D 63 (dkRow s.sz S s.n M s.dead s.cut s.left) := (HGR.out.block D H.out.row.lt (fun e => H.out.DS (by injection e))).trans H.out.row
        have hMA : MapAt wr M uv s.n := H.out.un.heap (HGR.out.block M H.out.un.lt (fun e => H.out.SM (by injection e with e; exact e.symm)))
        obtain ⟨c, huc⟩ : ∃ c, uv i = some c := by
          have h1 := H.out.hun i
          have h2 : (s.un i).isSome = true := HFI.out
          rw [h2] at h1
          exact Option.isSome_iff_exists.1 h1
        have hlk := hMA.get i (by omega)
        rw [huc] at hlk
        simp only [Option.getD_some] at hlk
        obtain ⟨va, vm, vk, rfl⟩ := H.out.uform huc
        have HUC := hide huc
        have z1 : wr.cell? ⟨D, 1, none⟩ = some (.slice (some ⟨S, 0, none⟩) n n) := by rw [HN.out]; exact hRD.cell 1
        have z2 : wr.cell? ⟨D, 2, none⟩ = some (.map (some M)) := hRD.cell 2
        have z3 : wr.cell? ⟨S, i, none⟩ = some (sw i) := by rw [HSS.out.cell i]; simp [hin]
        have z4 : wr.frozen? ⟨S, i, none⟩ = false := HSS.out.frozen i
        have q1 : wr.drew.cell? ⟨D, 1, none⟩ = some (.slice (some ⟨S, 0, none⟩) n n) ∧ wr.drew.cell? ⟨D, 2, none⟩ = some (.map (some M)) ∧ (Instr.lookup 61 (.map (some M)) (.int .i64 (i : Int)) false).run Tryd.prog wr.drew = .ok (.slice va vm vk) wr.drew ∧ wr.drew.cell? ⟨S, i, none⟩ = some (sw i) ∧ wr.drew.frozen? ⟨S, i, none⟩ = false := ⟨z1, z2, by have := (show MapAt wr.drew M uv s.n from hMA).get i (by omega); rw [huc] at this; exact this, z3, z4⟩
        have q2 : (wr.drew.setCell ⟨S, i, none⟩ (.slice va vm vk)).cell? ⟨D, 1, none⟩ = some (.slice (some ⟨S, 0, none⟩) n n) ∧ (wr.drew.setCell ⟨S, i, none⟩ (.slice va vm vk)).cell? ⟨D, 2, none⟩ = some (.map (some M)) ∧ (Instr.lookup 61 (.map (some M)) (.int .i64 (i : Int)) false).run Tryd.prog (wr.drew.setCell ⟨S, i, none⟩ (.slice va vm vk)) = .ok (.slice va vm vk) (wr.drew.setCell ⟨S, i, none⟩ (.slice va vm vk)) := by
          have hr2 : RowAt (wr.drew.setCell ⟨S, i, none⟩ (.slice va vm vk)) D 63 (dkRow s.sz S s.n M s.dead s.cut s.left) := (show RowAt wr.drew D _ _ from hRD).other _ _ H.out.DS
          refine ⟨by rw [HN.out]; exact hr2.cell 1, hr2.cell 2, ?_⟩
          have := ((show MapAt wr.drew M uv s.n from hMA).heap (w' := wr.drew.setCell ⟨S, i, none⟩ (.slice va vm vk)) (heap_setCell_other _ _ _ _ (fun e => H.out.SM e.symm))).get i (by omega)
          rw [huc] at this; exact this
        clear hMA hRD huc
        go_wp2
        go_region_held3 (fun w' => w'.cell? ⟨D, 1, none⟩ = some (.slice (some ⟨S, 0, none⟩) n n) ∧ w'.cell? ⟨D, 2, none⟩ = some (.map (some M)) ∧ (Instr.lookup 61 (.map (some M)) (.int .i64 (i : Int)) false).run Tryd.prog w' = .ok (.slice va vm vk) w') (first | exact ⟨z1, z2, hlk⟩ | exact ⟨q1.1, q1.2.1, q1.2.2.1⟩ | exact q2) (fail)
        clear q1 q2 hlk z1 z2 z3 z4
        have HF : Hid (RowAt (wr.setCell ⟨S, i, none⟩ (.slice va vm vk)).drew S 22 ((List.range n).map fun j => if j = i then .slice va vm vk else sw j).toArray ∧ w.grownBy (wr.setCell ⟨S, i, none⟩ (.slice va vm vk)).drew (some S) ∧ w1.heap.size ≤ (wr.setCell ⟨S, i, none⟩ (.slice va vm vk)).drew.heap.size ∧ ∀ q, w.heap.size ≤ q → q < w1.heap.size → (wr.setCell ⟨S, i, none⟩ (.slice va vm vk)).drew.heap[q]? = w1.heap[q]?) := by
          refine ⟨?_, ?_, ?_, ?_⟩
          · have := HSS.out.set i (.slice va vm vk)
            rw [row_set] at this
            exact this
          · exact ⟨HGR.out.os, HGR.out.tape, HGR.out.output, by show _ ≤ (wr.setCell ⟨S, i, none⟩ _).heap.size; simp [World.setCell]; exact HGR.out.size, fun k hk hk2 => by
              show (wr.setCell ⟨S, i, none⟩ _).heap[k]? = _
              rw [heap_setCell_other _ _ _ _ (fun e => hk2 (by rw [e]))]; exact HGR.out.block k hk hk2⟩
          · show _ ≤ (wr.setCell ⟨S, i, none⟩ _).heap.size
            simp [World.setCell]; exact hsz
          · intro q hq1 hq2
            show (wr.setCell ⟨S, i, none⟩ _).heap[q]? = _
            rw [heap_setCell_other _ _ _ _ (fun e => by have := H.out.sure.lt; simp at e; omega)]; exact HGG.out q hq1 hq2
        go_wp2
        go_roundw
        case rel =>
          refine ⟨kk + 1, fun j => if j = i then .slice va vm vk else sw j, rfl, by omega, HF.out.1, HF.out.2.1, HF.out.2.2.1, HF.out.2.2.2, fun j hj => ?_⟩
          by_cases e : j = i
          · subst e
            simp [HFI.out, HCN.out, HBK.out, HUC.out]
          · simp only [e, if_false]
            rw [K.sel (K.fr s) i kk HFI.out HCN.out j e]
            exact HSW.out j hj
        case measure => show N - ((kk + 1 : Nat) : Int).toNat < N - ((kk : Nat) : Int).toNat; omega
    · have hd : decide ((kk : Int) < (N : Int)) = false := by simp; omega
      have hkN : kk = N := by omega
      have hcr := H.out.fin_crash kp hG (by rw [← HN.out]; exact hS) (fun i hi => by
        rw [hsw i (by rw [HN.out]; exact hi), hkN, HNN.out, K.ks_len, HN.out])
      have HC := hide hcr
      have hRD : RowAt wr D 63 (dkRow s.sz S s.n M s.dead s.cut s.left) := (hG.block D H.out.row.lt (fun e => H.out.DS (by injection e))).trans H.out.row
      have hR1 := hRD.alloc (.map #[] 0)
      have u2 := hR1.cell 2
      have v2 := hR1.frozen 2
      have hR2 := hR1.set 2 (.map (some wr.heap.size))
      have u3 := hR2.cell 3
      have v3 := hR2.frozen 3
      have hR3 := hR2.set 3 (.bool false)
      have u4 := hR3.cell 4
      have v4 := hR3.frozen 4
      have hR4 := hR3.set 4 (.bool false)
      have u5 := hR4.cell 5
      have v5 := hR4.frozen 5
      have hmm : ∀ W : World, (Instr.makeMap 61 none).run Tryd.prog W = .ok (.map (some W.heap.size)) (W.alloc (.map #[] 0)) := fun W => run_makeMap _ W
      clear hcr hRD hR1 hR2 hR3 hR4 hS hG hgg hsw
      go_wp2
      go_end0
      exact ⟨rfl, HC.out⟩
end Go.Proofs.YtidocfajhhpfdaaDoor

/- What the law JournalTwice wants: commits with power, crashes of what is sure. -/
namespace Go.Proofs.YtidocfajhhpfdaaDoor
open Go.RowKit
set_option maxRecDepth 5000 in
theorem J.Is.calmed {s : K.St} {h : J.H} {L : List (List UInt8)} (hi : J.Is s h L) : J.Is s.calm h L := hi.same (calm_pw s) rfl rfl (fun _ => rfl)
/- where nothing is unsure a crash loses nothing -/
set_option maxRecDepth 5000 in
theorem J.Is.sure {s : K.St} {h : J.H} {L : List (List UInt8)} (hi : J.Is s.calm h L) (hun : ∀ i, s.un i = none) (keep : Nat) : J.Is (s.crashed keep) h L := hi.same (crashed_pw _ _) rfl rfl (fun i => rd_crashed_sure s keep i (hun i))
set_option maxRecDepth 5000 in
theorem J.Is.sureS {s : K.St} {h : J.H} {L : List (List UInt8)} (hi : J.Is s.calm h L) (keep : Nat) : J.Is (s.synced.crashed keep) h L := J.Is.sure (s := s.synced) (by rw [calm_synced]; exact hi.synced) (fun _ => rfl) keep
set_option maxRecDepth 5000 in
theorem J.Is.sureD {s : K.St} {h : J.H} {L : List (List UInt8)} (hi : J.Is s.calm h L) (hun : ∀ i, s.un i = none) (keep : Nat) : J.Is (s.spent.crashed keep) h L := by
  rw [calm_crashed, calm_spent]
  exact hi.sure hun keep
set_option maxRecDepth 5000 in
theorem Mv4.keepBs {W W' : World} {D S M bJ B : Nat} {s : K.St} {x : Array Value} (hm : Mv4 D S M bJ W W') (hd : DiskAt FF W D S M s) (hj : RowAt W bJ 69 x) {v : Value} {R : List (List UInt8)} (hv : OwnBs W B v R) (hS : S < B) : OwnBs W' B v R := by
  obtain ⟨sv, uv, hk⟩ := hd
  refine hv.kept hm.size (fun g o ho hb => ?_)
  have hlt : g < W.heap.size := (Array.getElem?_eq_some_iff.1 ho).1
  have hrow := hk.row
  have hsur := hk.sure
  unfold RowAt at hrow hsur hj
  refine hm.block g hlt (fun e => ?_) (fun e => ?_) ?_ (fun e => ?_)
  · rw [e, hrow] at ho; injection ho with ho
    rcases hb with ⟨c, fr, hb⟩ | ⟨_, c, fr, hb⟩ <;> (rw [hb] at ho; injection ho with _ ho _; exact absurd ho (by decide))
  · rcases hb with ⟨c, fr, hb⟩ | ⟨hg, _⟩
    · rw [e, hsur] at ho; injection ho with ho; rw [hb] at ho; injection ho with _ ho _; exact absurd ho (by decide)
    · omega
  · rcases hb with ⟨c, fr, rfl⟩ | ⟨_, c, fr, rfl⟩
    · exact hk.un.row_ne ho
    · exact hk.un.row_ne ho
  · rw [e, hj] at ho; injection ho with ho
    rcases hb with ⟨c, fr, hb⟩ | ⟨_, c, fr, hb⟩ <;> (rw [hb] at ho; injection ho with _ ho _; exact absurd ho (by decide))
/- Commit with power, where there is room -/
set_option maxRecDepth 5000 in
theorem commit_is3 (w : World) (ht : Tab w) (D S M bJ : Nat) (s : K.St) (h : J.H) (L : List (List UInt8)) (hi : J.Is s h L) (hd : DiskAt FF w D S M s) (hj : RowAt w bJ 69 (jrow D h false)) (hT0 : 0 < D ∧ 0 < S ∧ 0 < M)
    (ao : Option Addr) (c : Nat) (l : List (List UInt8)) (hls : SlBs w ao l) (hc : h.c + 1 < 4611686018427387904) (hb : h.b + l.length ≤ 1048576) (hr : h.u + J.fsz l ≤ J.arb s) :
    Calls Tryd.prog 21 #[.pointer (some ⟨bJ, 0, none⟩), .slice ao l.length c] w fun e w' => e = .returned (.int .i64 0) ∧ ∃ M' s', LaidC w w' D S M bJ s (nextH h l) (L ++ l) M' s' ∧ Pw s' := by
  obtain ⟨hb1, hb2, hb3, hb4⟩ := hd.bds
  refine commit_any w D bJ h false hj _ _ ?_
  refine (lay_any w ht D S M bJ s h h hi.ok.a (by omega) ao c l hb hls hj hd hi.pw hi.n8 hr hT0).mono ?_
  rintro e w' ⟨rfl, k, M', ⟨hk, _⟩, h1, h2, h3, h4⟩
  have hlen : ∀ i, i < s.n → (s.rd i).length = s.sz := fun i hi => hd.rdlen i hi
  obtain ⟨k1, k2, k3⟩ := laid_keep (2 + h.a * J.ars s) h.u (J.enc (J.frl h.b l)) k hi.pw
  have p1 := synced_pw k1
  have p2 := put_pw p1 ((h.c + 1) % 2) (J.hb (nextH h l) s.sz)
  have hI := hi.lay hb1 hb2 hb4 hlen h rfl hi.ok.a L hi.fr l (by omega) hb hr k hk
  exact ⟨⟨0, rfl⟩, rfl, M', _, ⟨h1, h2, hI.calmed, hI.pw.1, fun _ => rfl, h3, h4, by rw [synced_n p2, put_n p1, synced_n k1, k3], by rw [synced_sz p2, put_sz p1, synced_sz k1, k2]⟩, hI.pw⟩
/- a disk behind w0, lists behind it -/
structure TW (w0 : World) (D S M B : Nat) (s : K.St) (vx vy : Value) (X Y : List (List UInt8)) (W : World) : Prop where
  bl : Below w0.heap.size w0 W
  bD : w0.heap.size ≤ D
  bS : w0.heap.size ≤ S
  bM : w0.heap.size ≤ M
  dk : DiskAt FF W D S M s
  x : OwnBs W B vx X
  y : OwnBs W B vy Y
  SB : S < B
set_option maxRecDepth 5000 in
theorem TW.mv {w0 W W' : World} {D S M M' B : Nat} {s s' : K.St} {vx vy : Value} {X Y : List (List UInt8)} (h : TW w0 D S M B s vx vy X Y W) (hm : Mv D S M W W') (hM : M' = M ∨ W.heap.size ≤ M') (hd : DiskAt FF W' D S M' s') : TW w0 D S M' B s' vx vy X Y W' :=
  ⟨hm.below h.bl h.bl.size h.bD h.bS h.bM, h.bD, h.bS, hM.elim (fun e => by rw [e]; exact h.bM) (fun e => Nat.le_trans h.bl.size e), hd, hm.keepBs h.dk h.x h.SB, hm.keepBs h.dk h.y h.SB, h.SB⟩
set_option maxRecDepth 5000 in
theorem TW.mv4 {w0 W W' : World} {D S M M' B bJ : Nat} {s s' : K.St} {vx vy : Value} {X Y : List (List UInt8)} {r : Array Value} (h : TW w0 D S M B s vx vy X Y W) (hj : RowAt W bJ 69 r) (hJ : w0.heap.size ≤ bJ) (hm : Mv4 D S M bJ W W') (hM : M' = M ∨ W.heap.size ≤ M') (hd : DiskAt FF W' D S M' s') : TW w0 D S M' B s' vx vy X Y W' :=
  ⟨hm.below h.bl h.bl.size h.bD h.bS h.bM hJ, h.bD, h.bS, hM.elim (fun e => by rw [e]; exact h.bM) (fun e => Nat.le_trans h.bl.size e), hd, hm.keepBs h.dk hj h.x h.SB, hm.keepBs h.dk hj h.y h.SB, h.SB⟩
set_option maxRecDepth 5000 in
theorem TW.tab {w0 W : World} {D S M B : Nat} {s : K.St} {vx vy : Value} {X Y : List (List UInt8)} (h : TW w0 D S M B s vx vy X Y W) (ht : Tab w0) : Tab W := ht.below h.bl ht.1
set_option maxRecDepth 5000 in
theorem TW.pos {w0 W : World} {D S M B : Nat} {s : K.St} {vx vy : Value} {X Y : List (List UInt8)} (h : TW w0 D S M B s vx vy X Y W) (ht : Tab w0) : 0 < D ∧ 0 < S ∧ 0 < M := by
  have := ht.1; have := h.bD; have := h.bS; have := h.bM; omega
end Go.Proofs.YtidocfajhhpfdaaDoor

/- The law JournalTwice. -/
namespace Go.Proofs.YtidocfajhhpfdaaDoor
open Go.RowKit
set_option maxHeartbeats 4000000 in
set_option maxRecDepth 5000 in
theorem twice_walk (w : World) (ht : Tab w) (ao bo : Option Addr) (ca cb : Nat) (A Bb : List UInt8) (hA : SlL w ao A) (hB : SlL w bo Bb) (cut again : UInt8) (keep more : Nat) (hkeep : keep < 18446744073709551616) (hmore : more < 18446744073709551616) :
    Calls Tryd.prog 6 #[.slice ao A.length ca, .slice bo Bb.length cb, .int .u8 (cut.toNat : Int), .int .u8 (again.toNat : Int), .int .u64 (keep : Int), .int .u64 (more : Int)] w fun e w' => e = .returned (.bool true) ∧ Below w.heap.size w w' := by
  have hk := known_any w ht
  have HT := hide ht
  have hpos := ht.1
  have HA := hide hA
  have HB := hide hB
  clear ht hA hB
  by_cases hlen : A.length ≤ 6 ∧ Bb.length ≤ 6
  rotate_left
  · by_cases h1 : A.length ≤ 6
    · have h2 : (6 : Int) < (Bb.length : Int) := by omega
      have h1' : ¬ (6 : Int) < (A.length : Int) := by omega
      clear hlen
      go_enter Tryd.func6, Tryd.ntmps6
      go_wp2_with (first | (go_at_call 9; refine hk.mono ?_; rintro e w1 ⟨rfl, hB⟩; have B1 := hide hB; clear hB) | fail)
      go_ret
      exact ⟨rfl, B1.out⟩
    · have h1' : (6 : Int) < (A.length : Int) := by omega
      clear hlen
      go_enter Tryd.func6, Tryd.ntmps6
      go_wp2_with (first | (go_at_call 9; refine hk.mono ?_; rintro e w1 ⟨rfl, hB⟩; have B1 := hide hB; clear hB) | fail)
      go_ret
      exact ⟨rfl, B1.out⟩
  obtain ⟨hla, hlb⟩ := hlen
  have hla' : ¬ (6 : Int) < (A.length : Int) := by omega
  have hlb' : ¬ (6 : Int) < (Bb.length : Int) := by omega
  go_enter Tryd.func6, Tryd.ntmps6
  go_wp2_with (first | (go_at_call 9; refine hk.mono ?_; rintro e w1 ⟨rfl, hB⟩; have B1 := hide hB; clear hB) | fail)
  refine (new_at FF w1 (fun _ h => h.elim) 80 512 80 512 (by omega) (by omega) (by omega) (by omega) (by decide) (by decide)).mono ?_
  rintro e w2 ⟨rfl, hD, hB2, hs2⟩
  have D2 : Hid (DiskAt FF w2 (w1.heap.size + 2) w1.heap.size (w1.heap.size + 1) (K.St.new 80 512)) := hD
  have B2 := hide (B1.out.trans (hB2.mono B1.out.size))
  have z1 := B1.out.size
  have HS2 := hide hs2
  clear hD hB2 hk hs2
  go_wp2_with fail
  refine (open_new w2 (HT.out.below B2.out hpos) _ _ _ 80 512 (by omega) D2.out (by have := HS2.out; omega)).mono ?_
  rintro e w3 ⟨v3, M3, rfl, J3, D3, V3, z3, O3⟩
  obtain ⟨a3, c3, hv3⟩ := O3.slice
  rw [hv3]
  have W3 : Hid (JW w (w1.heap.size + 2) w1.heap.size w2.heap.size M3 (newS 80 512) h0 [] w3) := ⟨V3.below B2.out B2.out.size (by omega) (by omega) (by omega), by omega, by omega, by have := HS2.out; omega, by have := HS2.out; omega, D3, newS_is 80 512 (by omega), J3⟩
  have zz3 : w2.heap.size ≤ w3.heap.size := V3.size
  clear J3 D3 V3 z3 O3 hv3 D2
  obtain ⟨D, hDe⟩ : ∃ D, D = w1.heap.size + 2 := ⟨_, rfl⟩
  rw [← hDe] at W3 ⊢
  obtain ⟨SS, hSe⟩ : ∃ SS, SS = w1.heap.size := ⟨_, rfl⟩
  rw [← hSe] at W3
  have hSlt : SS < w3.heap.size := by have := HS2.out; omega
  generalize w2.heap.size = bJ at W3 zz3 ⊢
  clear hDe hSe zz3 HS2 z1
  have he1 : ∀ (g : Nat) (W : World), (binOp .eql 31 (.pointer (some ⟨g, 0, none⟩)) (.pointer none)).run Tryd.prog W = .ok (.bool false) W := fun _ _ => rfl
  go_wp2_with fail
  refine (batch_any w3 1 (by omega) (by omega) ao ca A (by omega) (HA.out.below W3.out.bl (Nat.le_refl _))).mono ?_
  rintro e w4 ⟨vx, rfl, X, OX, hXl, hXk, b4⟩
  have hX255 : J.fsz X ≤ 1602 := by
    have := J.fsz_bound 255 X (fun k hk => by rw [hXk k (by omega)]; have := (A.getD k 0).toNat_lt; omega)
    have : X.length * (255 + 12) ≤ 6 * (255 + 12) := Nat.mul_le_mul_right _ (by omega)
    omega
  obtain ⟨ax, cx, hvx⟩ := OX.slice
  rw [hvx] at OX ⊢
  have W4 := hide (W3.out.below b4)
  have OX4 := hide OX
  have z4 := b4.size
  have hX6 : X.length ≤ 6 := by omega
  clear OX hvx b4 hXk W3 hXl
  go_wp2_with fail
  refine (batch_any w4 2 (by omega) (by omega) bo cb Bb (by omega) (HB.out.below W4.out.bl (Nat.le_refl _))).mono ?_
  rintro e w5 ⟨vy, rfl, Y, OY, hYl, hYk, b5⟩
  have hY255 : J.fsz Y ≤ 1602 := by
    have := J.fsz_bound 255 Y (fun k hk => by rw [hYk k (by omega)]; have := (Bb.getD k 0).toNat_lt; omega)
    have : Y.length * (255 + 12) ≤ 6 * (255 + 12) := Nat.mul_le_mul_right _ (by omega)
    omega
  obtain ⟨ay, cy, hvy⟩ := OY.slice
  rw [hvy] at OY ⊢
  have W5 := hide (W4.out.below b5)
  have T5 : Hid (TW w D SS M3 w3.heap.size (newS 80 512) (.slice ax X.length cx) (.slice ay Y.length cy) X Y w5) := ⟨W5.out.bl, W5.out.bD, W5.out.bS, W5.out.bM, W5.out.dk, OX4.out.bel b5, OY.low z4, hSlt⟩
  have hY6 : Y.length ≤ 6 := by omega
  generalize w3.heap.size = B3 at T5
  clear OY hvy b5 hYk W4 OX4 z4 hSlt hYl HA HB hla hlb hla' hlb' B1 B2
  have hab : ∀ s : K.St, s.n = 80 → s.sz = 512 → J.arb s = 19968 := fun s h1 h2 => by unfold J.arb J.ars; rw [h1, h2]
  have hc1 := commit_is3 w5 (T5.out.tab HT.out) D SS M3 bJ (newS 80 512) h0 [] (newS_is 80 512 (by omega)) T5.out.dk W5.out.jr (T5.out.pos HT.out) ax cx X T5.out.x.sl (by show 0 + 1 < _; omega) (by show 0 + _ ≤ _; omega) (by rw [hab _ (newS_n 80 512) (newS_sz 80 512)]; show 0 + _ ≤ _; omega)
  go_wp2_with fail
  refine hc1.mono ?_
  rintro e w6 ⟨rfl, M6, s6, L6, p6⟩
  have T6 := hide (T5.out.mv4 W5.out.jr W5.out.bj L6.mv (Or.inr L6.m) L6.dk)
  have J6 := hide L6.jr
  have I6 := hide L6.is
  have U6 := hide L6.un
  have n6 : Hid (s6.n = 80 ∧ s6.sz = 512) := ⟨L6.n.trans (newS_n 80 512), L6.sz.trans (newS_sz 80 512)⟩
  have P6 := hide p6
  have bj6 := hide W5.out.bj
  clear L6 p6 hc1 T5 W5
  obtain ⟨k1, hk1⟩ : ∃ k1 : Int, k1 = (cut.toNat : Int) % 10 := ⟨_, rfl⟩
  have hk1b : k1 ≤ 9 := by omega
  have hc256 := cut.toNat_lt
  have ha256 := again.toNat_lt
  go_wp2_with fail
  rw [← hk1]
  clear hk1
  refine (cut_any w6 D SS M6 s6 T6.out.dk k1 (by omega)).mono ?_
  rintro e w7 ⟨rfl, D7, V7, _⟩
  have T7 := hide (T6.out.mv V7 (Or.inl rfl) D7)
  have J7 : Hid (RowAt w7 bJ 69 (jrow D (nextH h0 X) false)) := by
    obtain ⟨sv, uv, hk⟩ := T6.out.dk
    exact mvrow J6.out T6.out.dk V7 (hk.row.ne J6.out (by decide)).symm (hk.sure.ne J6.out (by decide)).symm
  obtain ⟨s7, hs7⟩ : ∃ s7, s7 = s6.cutAt k1.toNat := ⟨_, rfl⟩
  have I7 : Hid (J.Is s7.calm (nextH h0 X) X) := by rw [hs7]; exact I6.out
  have U7 : Hid (∀ i, s7.un i = none) := by rw [hs7]; exact U6.out
  have n7 : Hid (s7.n = 80 ∧ s7.sz = 512 ∧ s7.dead = false) := by rw [hs7]; exact ⟨n6.out.1, n6.out.2, P6.out.1⟩
  rw [← hs7] at T7
  clear D7 V7 T6 J6 I6 U6 n6 P6 hs7 hk1b
  have hc2 := commit_is2 w7 (T7.out.tab HT.out) D SS M6 bJ s7 (nextH h0 X) X I7.out n7.out.2.2 U7.out T7.out.dk J7.out (T7.out.pos HT.out) ay cy Y T7.out.y.sl (by show 0 + 1 + 1 < _; omega) (by show 0 + _ + _ ≤ _; omega) (by omega)
  go_wp2_with fail
  refine hc2.mono ?_
  rintro e w8 ⟨x8, rfl, h8⟩
  have h8' : ∃ M8 s8, TW w D SS M8 B3 s8 (.slice ax X.length cx) (.slice ay Y.length cy) X Y w8 ∧ (x8 = 0 ∨ x8 = 82) ∧ ∃ h L, J.Is (s8.crashed keep) h L ∧ (L = X ++ Y ∨ (x8 = 82 ∧ L = X)) := by
    rcases h8 with ⟨rfl, M8, s8, L8⟩ | ⟨rfl, M8, s8, L8⟩ | ⟨hbad, _⟩
    · exact ⟨M8, s8, T7.out.mv4 J7.out bj6.out L8.mv (Or.inr L8.m) L8.dk, Or.inl rfl, _, _, L8.is.sure L8.un keep, Or.inl rfl⟩
    · rcases L8.is keep with h | h
      · exact ⟨M8, s8, T7.out.mv4 J7.out bj6.out L8.mv L8.m L8.dk, Or.inr rfl, _, _, h, Or.inr ⟨rfl, rfl⟩⟩
      · exact ⟨M8, s8, T7.out.mv4 J7.out bj6.out L8.mv L8.m L8.dk, Or.inr rfl, _, _, h, Or.inl rfl⟩
    · exfalso
      rw [hab s7 n7.out.1 n7.out.2.1] at hbad
      have : (nextH h0 X).u = 0 + J.fsz X := rfl
      omega
  obtain ⟨M8, s8, t8, hx8, h, L, i8, hL⟩ := h8'
  have T8 := hide t8
  have I8 := hide i8
  have HL := hide hL
  have HX8 := hide hx8
  clear t8 i8 hL hx8 h8 hc2 T7 J7 I7 U7 n7 bj6 hab
  go_wp2_with fail
  refine (crash_any w8 D SS M8 s8 T8.out.dk keep hkeep).mono ?_
  rintro e w9 ⟨rfl, M9, D9, V9, z9, _⟩
  have T9 := hide (T8.out.mv V9 (Or.inr z9) D9)
  obtain ⟨s9, hs9⟩ : ∃ s9, s9 = s8.crashed keep := ⟨_, rfl⟩
  have U9 : Hid (∀ i, s9.un i = none) := by rw [hs9]; exact fun _ => rfl
  have d9 : Hid (s9.dead = false) := by rw [hs9]; rfl
  rw [← hs9] at T9 I8
  clear D9 V9 z9 T8 hs9
  obtain ⟨k2, hk2⟩ : ∃ k2 : Int, k2 = (again.toNat : Int) % 6 := ⟨_, rfl⟩
  have hk2b : k2 ≤ 9 := by omega
  go_wp2_with fail
  rw [← hk2]
  clear hk2
  refine (cut_any w9 D SS M9 s9 T9.out.dk k2 (by omega)).mono ?_
  rintro e w10 ⟨rfl, D10, V10, _⟩
  have T10 := hide (T9.out.mv V10 (Or.inl rfl) D10)
  obtain ⟨s10, hs10⟩ : ∃ s10, s10 = s9.cutAt k2.toNat := ⟨_, rfl⟩
  have I10 : Hid (J.Is s10.calm h L) := by rw [hs10]; exact I8.out.calmed
  have U10 : Hid (∀ i, s10.un i = none) := by rw [hs10]; exact U9.out
  have d10 : Hid (s10.dead = false) := by rw [hs10]; exact d9.out
  rw [← hs10] at T10
  clear D10 V10 T9 I8 U9 d9 hs10 hk2b
  go_wp2_with fail
  refine (open_two w10 (T10.out.tab HT.out) D SS M9 s10 T10.out.dk d10.out h L I10.out (T10.out.pos HT.out)).mono ?_
  rintro e w11 h11
  have h11' : (∃ v, e = .returned v) ∧ ∃ M11 s11, TW w D SS M11 B3 s11 (.slice ax X.length cx) (.slice ay Y.length cy) X Y w11 ∧ J.Is (s11.crashed more) h L := by
    rcases h11 with ⟨v, M11, rfl, _, D11, V11, z11, _, _⟩ | ⟨rfl, _, D11, V11⟩
    · exact ⟨⟨_, rfl⟩, M11, _, T10.out.mv V11 (Or.inr z11) D11, I10.out.sureS more⟩
    · exact ⟨⟨_, rfl⟩, M9, _, T10.out.mv V11 (Or.inl rfl) D11, I10.out.sureD U10.out more⟩
  obtain ⟨⟨v11, rfl⟩, M11, s11, t11, i11⟩ := h11'
  have T11 := hide t11
  have I11 := hide i11
  clear h11 t11 i11 T10 I10 U10 d10
  go_wp2_with fail
  refine (crash_any w11 D SS M11 s11 T11.out.dk more hmore).mono ?_
  rintro e w12 ⟨rfl, M12, D12, V12, z12, _⟩
  have T12 := hide (T11.out.mv V12 (Or.inr z12) D12)
  generalize s11.crashed more = s12 at T12 I11
  clear D12 V12 z12 T11
  go_wp2_with fail
  refine (open_is w12 (T12.out.tab HT.out) D SS M12 s12 T12.out.dk h L I11.out (T12.out.pos HT.out)).mono ?_
  rintro e w13 ⟨v13, M13, rfl, _, D13, V13, z13, O13⟩
  obtain ⟨a13, c13, hv13⟩ := O13.slice
  rw [hv13] at O13 ⊢
  have T13 := hide (T12.out.mv V13 (Or.inr z13) D13)
  have OR := hide O13
  have hL12 : L.length ≤ 12 := by
    rcases HL.out with e | ⟨_, e⟩
    · rw [e, List.length_append]; omega
    · rw [e]; omega
  clear D13 V13 z13 O13 hv13 T12 I11
  have hx8 := HX8.out
  clear HX8
  rcases hx8 with rfl | rfl
  · have EL : Hid (L = X ++ Y) := HL.out.resolve_right (fun h => absurd h.1 (by decide))
    clear HL
    go_wp2_with (first
      | (at_builtin; refine wpList_append_Bs rfl (.tmp 81) (.tmp 82) rfl w13.heap.size _ _ rfl O14.out _ _ _ B3 Y rfl rfl Y14.out (by omega) z14.out ?_; intro v15 w15 P15 _ _ b15; have b135 := B14.out.trans b15; obtain ⟨a15, c15, hv15⟩ := P15.slice; rw [hv15] at P15; rw [hv15]; have SR := hide (OR.out.bel b135).sl; have SX := hide (T13.out.x.bel b135).sl; have SXY := hide P15.sl; have BW := hide (T13.out.bl.trans (b135.mono T13.out.bl.size)); have hbl := blobs_any w15 a13 a15 c13 c15 L (X ++ Y) (by omega) SR.out SXY.out; rw [List.length_append, decide_eq_true EL.out] at hbl; clear P15 b15 b135 hv15 O14 B14 z14 Y14)
      | (at_builtin; refine wpList_append_Bs rfl (.const (.slice none 0 0)) (.tmp 80) rfl w13.heap.size _ [] rfl (OwnBs.nil _ _) _ _ _ B3 X rfl rfl T13.out.x (by simp; omega) (Nat.le_refl _) ?_; intro v14 w14 P14 _ _ b14; have P14 : OwnBs w14 w13.heap.size v14 X := P14; obtain ⟨a14, c14, hv14⟩ := P14.slice; rw [hv14] at P14; rw [hv14]; have O14 := hide P14; have B14 := hide b14; have z14 := hide b14.size; have Y14 := hide (T13.out.y.bel b14); clear P14 b14 hv14)
      | (go_at_call 17; refine hbl.mono ?_; rintro e w16 ⟨rfl, m, hw16⟩; have BW16 : Hid (Below w.heap.size w w16) := (by rw [hw16]; exact below_drewN BW.out m); clear hw16)
      | fail)
    go_ret
    exact ⟨rfl, BW16.out⟩
  · by_cases eX : L = X
    · have EX := hide eX
      clear eX HL
      go_wp2_with (first
        | (at_builtin; refine wpList_append_Bs rfl (.tmp 81) (.tmp 82) rfl w13.heap.size _ _ rfl O14.out _ _ _ B3 Y rfl rfl Y14.out (by omega) z14.out ?_; intro v15 w15 P15 _ _ b15; have b135 := B14.out.trans b15; obtain ⟨a15, c15, hv15⟩ := P15.slice; rw [hv15] at P15; rw [hv15]; have SR := hide (OR.out.bel b135).sl; have SX := hide (T13.out.x.bel b135).sl; have SXY := hide P15.sl; have BW := hide (T13.out.bl.trans (b135.mono T13.out.bl.size)); have hbl := blobs_any w15 a13 ax c13 cx L X (by omega) SR.out SX.out; rw [decide_eq_true EX.out] at hbl; clear P15 b15 b135 hv15 O14 B14 z14 Y14)
        | (at_builtin; refine wpList_append_Bs rfl (.const (.slice none 0 0)) (.tmp 80) rfl w13.heap.size _ [] rfl (OwnBs.nil _ _) _ _ _ B3 X rfl rfl T13.out.x (by simp; omega) (Nat.le_refl _) ?_; intro v14 w14 P14 _ _ b14; have P14 : OwnBs w14 w13.heap.size v14 X := P14; obtain ⟨a14, c14, hv14⟩ := P14.slice; rw [hv14] at P14; rw [hv14]; have O14 := hide P14; have B14 := hide b14; have z14 := hide b14.size; have Y14 := hide (T13.out.y.bel b14); clear P14 b14 hv14)
        | (go_at_call 17; refine hbl.mono ?_; rintro e w16 ⟨rfl, m, hw16⟩; have BW16 : Hid (Below w.heap.size w w16) := (by rw [hw16]; exact below_drewN BW.out m); clear hw16)
        | fail)
      go_ret
      exact ⟨rfl, BW16.out⟩
    · have EX := hide eX
      have EL : Hid (L = X ++ Y) := HL.out.resolve_right (fun h => eX h.2)
      clear eX HL
      go_wp2_with (first
        | (at_builtin; refine wpList_append_Bs rfl (.tmp 81) (.tmp 82) rfl w13.heap.size _ _ rfl O14.out _ _ _ B3 Y rfl rfl Y14.out (by omega) z14.out ?_; intro v15 w15 P15 _ _ b15; have b135 := B14.out.trans b15; obtain ⟨a15, c15, hv15⟩ := P15.slice; rw [hv15] at P15; rw [hv15]; have SR := hide (OR.out.bel b135).sl; have SX := hide (T13.out.x.bel b135).sl; have SXY := hide P15.sl; have BW := hide (T13.out.bl.trans (b135.mono T13.out.bl.size)); have hbl := blobs_any w15 a13 ax c13 cx L X (by omega) SR.out SX.out; rw [decide_eq_false EX.out] at hbl; have hbl2 : ∀ m, Calls Tryd.prog 17 #[.slice a13 L.length c13, .slice a15 (X.length + Y.length) c15] (w15.drewN m) (fun e w' => e = .returned (.bool true) ∧ ∃ m', w' = (w15.drewN m).drewN m') := (fun m => by have := blobs_any (w15.drewN m) a13 a15 c13 c15 L (X ++ Y) (by omega) (SR.out.drewN m) (SXY.out.drewN m); rw [List.length_append, decide_eq_true EL.out] at this; exact this); clear P15 b15 b135 hv15 O14 B14 z14 Y14)
        | (at_builtin; refine wpList_append_Bs rfl (.const (.slice none 0 0)) (.tmp 80) rfl w13.heap.size _ [] rfl (OwnBs.nil _ _) _ _ _ B3 X rfl rfl T13.out.x (by simp; omega) (Nat.le_refl _) ?_; intro v14 w14 P14 _ _ b14; have P14 : OwnBs w14 w13.heap.size v14 X := P14; obtain ⟨a14, c14, hv14⟩ := P14.slice; rw [hv14] at P14; rw [hv14]; have O14 := hide P14; have B14 := hide b14; have z14 := hide b14.size; have Y14 := hide (T13.out.y.bel b14); clear P14 b14 hv14)
        | (go_at_call 17; refine (hbl2 m).mono ?_; rintro e w17 ⟨rfl, m2, hw17⟩; have BW17 : Hid (Below w.heap.size w w17) := (by rw [hw17]; exact below_drewN (below_drewN BW.out m) m2); clear hw17)
        | (go_at_call 17; refine hbl.mono ?_; rintro e w16 ⟨rfl, m, hw16⟩; rw [hw16]; clear hw16 w16)
        | fail)
      go_ret
      exact ⟨rfl, BW17.out⟩
end Go.Proofs.YtidocfajhhpfdaaDoor

/- For every input the law JournalTwice returns true and leaves its arguments as they were, tied to the program's own text: where the listed variable begins as the text lays it. -/
namespace Go.Proofs.YtidocfajhhpfdaaDoor.journalTwice
open Go.ChangeShapes Go.WideShapes Go.ChangeAt Go.WideMaps Go.WideElems Go.RowKit
set_option maxRecDepth 100000 in
theorem lifted (os : Os) (started : os.Started) (HH : Type) (enc : TypeId × Value → HH) :
    ReturnsInHanded {} Tryd.checked os 6 .any (fun w args => (Rows.journalTwiceSpec.pre enc Tryd.prog Tryd.f6 [] false w args ∧ laidMetH Tryd.prog laidL w) ∧ sizedMet enc Tryd.prog Tryd.f6 (OpenSpec.ofChange Rows.journalTwiceSpec) false w args)
      (Rows.journalTwiceSpec.post enc Tryd.prog Tryd.f6 false true false false) := by
  refine returnsInHanded_of_change_and (C := Tryd.checked) (X := fun w _ => laidMetH Tryd.prog laidL w) (fun _ _ _ hh h => h.of_heap hh) ownK started (by kernel_rfl) Tryd.func6
    (ChangeSpec.witness_shaped (enc := enc) (C := Tryd.checked) (os := os) (X := fun w _ => laidMetH Tryd.prog laidL w) false (World.doorLaid Tryd.prog 14 os) #[.slice none 0 0, .slice none 0 0, .int .u8 0, .int .u8 0, .int .u64 0, .int .u64 0] 8 rfl (World.shaped_of_RefB (by kernel_rfl) (by kernel_rfl)) (by kernel_rfl) (by kernel_rfl) (by kernel_rfl) (door_met os _)) ?_
  intro W base args ds gs before hval0 hW _ _ hL _
  have hval : ∀ (j : Nat) t v, Tryd.f6.params[j]? = some t → args[j]? = some v → Value.okWide Tryd.prog W .any base t v := hval0
  have hW' := hW
  obtain ⟨p, q, hA0, hV, rfl, hfz, hnd⟩ := hW
  have hA : DataW.TrodAll enc Tryd.prog W 0 (fun _ => true) true Tryd.f6.params.toList args.toList ds p := hA0
  rw [Tryd.params6] at hA hval
  obtain ⟨v0, vs0, d0, ds0, p0, q0, hargs, rfl, rfl, h0, r0⟩ := trodAll_cons hA
  obtain ⟨v1, vs1, d1, ds1, p1, q1, rfl, rfl, rfl, h1, r1⟩ := trodAll_cons r0
  obtain ⟨v2, vs2, d2, ds2, p2, q2, rfl, rfl, rfl, h2, r2⟩ := trodAll_cons r1
  obtain ⟨v3, vs3, d3, ds3, p3, q3, rfl, rfl, rfl, h3, r3⟩ := trodAll_cons r2
  obtain ⟨v4, vs4, d4, ds4, p4, q4, rfl, rfl, rfl, h4, r4⟩ := trodAll_cons r3
  obtain ⟨v5, vs5, d5, ds5, p5, q5, rfl, rfl, rfl, h5, r5⟩ := trodAll_cons r4
  obtain ⟨rfl, rfl, rfl⟩ := trodAll_nil r5
  obtain rfl : args = #[v0, v1, v2, v3, v4, v5] := by cases args; simp_all
  obtain ⟨rfl, rfl⟩ := trodVars_none hV
  obtain ⟨a0, l0, c0, rfl⟩ := okWide_slice Tryd.underlying22 (hval 0 22 v0 rfl rfl)
  obtain ⟨a1, l1, c1, rfl⟩ := okWide_slice Tryd.underlying22 (hval 1 22 v1 rfl rfl)
  obtain ⟨b2, rfl, rfl, rfl, w2⟩ := open_int Tryd.underlying5 (hval 2 5 v2 rfl rfl) h2
  obtain ⟨b3, rfl, rfl, rfl, w3⟩ := open_int Tryd.underlying5 (hval 3 5 v3 rfl rfl) h3
  obtain ⟨b4, rfl, rfl, rfl, w4⟩ := open_int Tryd.underlying37 (hval 4 37 v4 rfl rfl) h4
  obtain ⟨b5, rfl, rfl, rfl, w5⟩ := open_int Tryd.underlying37 (hval 5 37 v5 rfl rfl) h5
  clear hA0 hval0
  have hlt0 : ∀ x ∈ p0, x.block < W.heap.size := fun x hx => by simpa using hW'.lt x (by simp [hx])
  have ha0 : ∀ (W' : World), Below W.heap.size W W' → DataW.Trod enc Tryd.prog W' 0 (fun b => decide (b < W.heap.size)) true 22 (.slice a0 l0 c0) d0 p0 :=
    fun W' hn => Below.trod laidOutT (by kernel_rfl) (of_decide_eq_true (by kernel_rfl)) h0 hn hlt0
  obtain ⟨n0, hn0, hs0, hnil0, hlc0, hcm0⟩ := open_bytes h0
  have hlt1 : ∀ x ∈ p1, x.block < W.heap.size := fun x hx => by simpa using hW'.lt x (by simp [hx])
  have ha1 : ∀ (W' : World), Below W.heap.size W W' → DataW.Trod enc Tryd.prog W' 0 (fun b => decide (b < W.heap.size)) true 22 (.slice a1 l1 c1) d1 p1 :=
    fun W' hn => Below.trod laidOutT (by kernel_rfl) (of_decide_eq_true (by kernel_rfl)) h1 hn hlt1
  obtain ⟨n1, hn1, hs1, hnil1, hlc1, hcm1⟩ := open_bytes h1
  obtain ⟨m2, rfl⟩ := byte_of w2
  obtain ⟨m3, rfl⟩ := byte_of w3
  obtain ⟨m4, rfl, hm4⟩ := u64_of w4
  obtain ⟨m5, rfl, hm5⟩ := u64_of w5
  have hT := tab_of_laid hL
  have hwalk : Calls Tryd.prog 6 #[.slice a0 l0 c0, .slice a1 l1 c1, .int .u8 (m2.toNat : Int), .int .u8 (m3.toNat : Int), .int .u64 (m4 : Int), .int .u64 (m5 : Int)] W fun e w' => e = .returned (.bool true) ∧ Below W.heap.size W w' := by
    subst hn0
    subst hn1
    exact twice_walk W hT a0 a1 c0 c1 n0 n1 hs0 hs1 m2 m3 m4 m5 (by omega) (by omega)
  refine hwalk.mono fun e W' ⟨he, hb⟩ => ?_
  subst he
  refine ⟨_, rfl, _, _, _, [], (p0 ++ (p1 ++ ([] ++ ([] ++ ([] ++ ([] ++ [])))))), [], by simpa using hW', ?_, ?_, ?_, hb.frame _, fun h => by cases h⟩
  · exact trodAll_cons_mk (shut_bool Tryd.underlying4 _) trodAll_mk0
  · exact trodAll_cons_mk (ha0 _ hb) (trodAll_cons_mk (ha1 _ hb) (trodAll_cons_mk (shut_int Tryd.underlying5 w2) (trodAll_cons_mk (shut_int Tryd.underlying5 w3) (trodAll_cons_mk (shut_int Tryd.underlying37 w4) (trodAll_cons_mk (shut_int Tryd.underlying37 w5) trodAll_mk0)))))
  · rfl
set_option maxRecDepth 5000 in
theorem row_holds : Rows.JournalTwiceSaid :=
  OpenClaim.holds_of_wide 6 Tryd.f6 rfl rfl rfl rfl rfl rfl rfl ⟨rfl, rfl, rfl, rfl, rfl⟩ rfl rfl rfl rfl rfl (by kernel_rfl) Tryd.func6 (by kernel_rfl)
    (of_decide_eq_true (by kernel_rfl)) (by unfold Func.isWrapper; first | (rw [if_pos (by decide +kernel)]; kernel_rfl) | (rw [if_neg (by decide +kernel)]; exact ⟨rfl, rfl⟩))
    (fun os started HH enc _ => lifted os started HH enc)
end Go.Proofs.YtidocfajhhpfdaaDoor.journalTwice
namespace Go.Proofs.YtidocfajhhpfdaaDoor
open Go
set_option maxRecDepth 5000 in
theorem journalTwice_card_holds : Rows.JournalTwiceCardSaid :=
  Claim7.holds_tied_plain_at .later [] [.data] true (true, "5b0f089365f71c8cd2d4d417c37c647d868b6fb8e356da2c86d55ce01b36dae3") true
    journalTwice.row_holds (fun _ h => by cases h) (by kernel_rfl) (fun _ h => by cases h) journalTwice_row_tie rfl ⟨rfl, rfl⟩ (by kernel_rfl) rfl
    (fun f fn hf hfn => by
      obtain rfl : f = 6 := Option.some.inj ((show Tryd.prog.funcNamed "signet/signetlaw12.JournalTwice" = some 6 by kernel_rfl).symm.trans hf) |>.symm
      obtain rfl : fn = Tryd.f6 := (Option.some.inj (Tryd.func6.symm.trans hfn)).symm
      exact ⟨by kernel_rfl, fun j t ht => by
        rw [Tryd.params6] at ht
        have hm : t ∈ [22, 22, 5, 5, 37, 37] := by simpa using Array.mem_of_getElem? ht
        have hall : ([22, 22, 5, 5, 37, 37].all fun u => !Tryd.prog.wantsStandIn u) = true := by kernel_rfl
        exact (show Tryd.prog.wantsStandIn t = false by simpa using List.all_eq_true.1 hall t hm)⟩)
    (by kernel_rfl)
#print axioms journalTwice_card_holds
end Go.Proofs.YtidocfajhhpfdaaDoor
