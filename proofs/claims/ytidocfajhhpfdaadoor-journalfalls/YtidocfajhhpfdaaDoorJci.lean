/- A journal's disk behind a crash, plain. -/
import Derived.Test.YtidocfajhhpfdaaDoorJlz
import Derived.Test.YtidocfajhhpfdaaDoorJis
import Derived.Test.YtidocfajhhpfdaaDoorJox
namespace Go.Proofs.YtidocfajhhpfdaaDoor
open Go.RowKit
/- the disk, but for its power -/
def K.St.calm (s : K.St) : K.St := { s with dead := false, cut := false, left := 0 }
set_option maxRecDepth 5000 in
theorem calm_pw (s : K.St) : Pw s.calm := ⟨rfl, rfl⟩
set_option maxRecDepth 5000 in
theorem calm_self {s : K.St} (h : Pw s) (hl : s.left = 0) : s.calm = s := by
  obtain ⟨h1, h2⟩ := h
  cases s
  simp only at h1 h2 hl
  subst h1; subst h2; subst hl
  rfl
set_option maxRecDepth 5000 in
theorem calm_spent (s : K.St) : s.spent.calm = s.calm := by
  unfold K.St.spent
  split <;> rfl
set_option maxRecDepth 5000 in
theorem calm_put (s : K.St) (i : Nat) (l : List UInt8) : (s.put i l).calm = s.calm.put i l := by
  unfold K.St.put
  rw [(calm_pw s).spent]
  unfold K.St.spent
  split <;> rfl
set_option maxRecDepth 5000 in
theorem calm_synced (s : K.St) : s.synced.calm = s.calm.synced := by
  unfold K.St.synced
  rw [(calm_pw s).spent]
  unfold K.St.spent
  split <;> rfl
set_option maxRecDepth 5000 in
theorem calm_puts (f : Nat → List UInt8) : ∀ (xs : List Nat) (s : K.St) (p : Nat), (J.puts s p f xs).calm = J.puts s.calm p f xs
  | [], _, _ => rfl
  | x :: xs, s, p => by
    have e : J.puts s p f (x :: xs) = J.puts (s.put p (f x)) (p + 1) f xs := rfl
    have e2 : J.puts s.calm p f (x :: xs) = J.puts (s.calm.put p (f x)) (p + 1) f xs := rfl
    rw [e, e2, calm_puts f xs, calm_put]
set_option maxRecDepth 5000 in
theorem calm_laid (s : K.St) (P u : Nat) (b : List UInt8) (k : Nat) : (J.laid s P u b k).calm = J.laid s.calm P u b k := calm_puts _ _ s _
set_option maxRecDepth 5000 in
theorem calm_crashed (s : K.St) (keep : Nat) : s.crashed keep = s.calm.crashed keep := rfl
set_option maxRecDepth 5000 in
theorem crashed_pw (s : K.St) (keep : Nat) : Pw (s.crashed keep) := ⟨rfl, rfl⟩
/- what a sector holds behind a crash -/
set_option maxRecDepth 5000 in
theorem rd_crashed (s : K.St) (keep i : Nat) : (s.crashed keep).rd i = s.rd i ∨ (s.crashed keep).rd i = s.old i := by
  unfold K.St.crashed K.St.rd K.St.old K.fr
  cases h : s.un i with
  | none => right; simp [h]
  | some l =>
    by_cases hb : K.bit keep (K.cnt (fun i => (s.un i).isSome) i) = true
    · left; simp [h, hb]
    · right; simp [h, hb]
set_option maxRecDepth 5000 in
theorem rd_crashed_sure (s : K.St) (keep i : Nat) (h : s.un i = none) : (s.crashed keep).rd i = s.rd i := by
  unfold K.St.crashed K.St.rd K.St.old K.fr
  simp [h]
/- the head's slots and the first bytes are as they were: the same journal -/
set_option maxRecDepth 5000 in
theorem J.Is.part {s r : K.St} {h : J.H} {L : List (List UInt8)} (hi : J.Is s h L) (hp : Pw r) (hn : r.n = s.n) (hz : r.sz = s.sz) (hz1 : 0 < s.sz) (hlen : ∀ i, i < s.n → (s.rd i).length = s.sz) (hrl : ∀ i, i < s.n → (r.rd i).length = s.sz) (h01 : ∀ i, i < 2 → r.rd i = s.rd i)
    (hb : ∀ j, j < h.u → (r.rd (2 + h.a * J.ars s + j / s.sz))[j % s.sz]? = (s.rd (2 + h.a * J.ars s + j / s.sz))[j % s.sz]?) : J.Is r h L := by
  have ha : J.ars r = J.ars s := by unfold J.ars; rw [hn]
  have hb' : J.arb r = J.arb s := by unfold J.arb; rw [ha, hz]
  have hAn : 2 + 2 * J.ars s ≤ s.n := by unfold J.ars; have := hi.n8; omega
  have hP : 2 + h.a * J.ars s + J.ars s ≤ s.n := by
    have h2 : h.a < 2 := hi.ok.a
    have : h.a * J.ars s ≤ 1 * J.ars s := Nat.mul_le_mul_right _ (by omega)
    omega
  have hcat : (J.cat r (2 + h.a * J.ars s) (J.ars s)).take h.u = (J.cat s (2 + h.a * J.ars s) (J.ars s)).take h.u := by
    have hu : h.u ≤ J.ars s * s.sz := hi.u
    apply List.ext_getElem?
    intro j
    by_cases hj : j < h.u
    · rw [List.getElem?_take_of_lt hj, List.getElem?_take_of_lt hj, cat_get s _ hz1 j _ (fun i hi => hlen _ (by omega)) (by omega), cat_get r _ (by rw [hz]; exact hz1) j _ (fun i hi => by rw [hz]; exact hrl _ (by omega)) (by rw [hz]; omega), hz]
      exact hb j hj
    · rw [List.getElem?_eq_none (by rw [List.length_take]; omega), List.getElem?_eq_none (by rw [List.length_take]; omega)]
  refine ⟨hp, by rw [hn]; exact hi.n8, hi.ok, by rw [hb']; exact hi.u, by rw [h01 _ (Nat.mod_lt _ (by omega)), hz]; exact hi.own, ?_, ?_⟩
  · rcases hi.oth with ⟨h1, h2⟩ | ⟨g, h1, h2, h3, h4⟩
    · exact Or.inl ⟨h1, by rw [h01 1 (by omega), hz]; exact h2⟩
    · exact Or.inr ⟨g, h1, by rw [hb']; exact h2, h3, by rw [h01 _ (Nat.mod_lt _ (by omega)), hz]; exact h4⟩
  · obtain ⟨fs, h1, h2⟩ := hi.fr
    exact ⟨fs, by rw [ha, hcat]; exact h1, h2⟩
/- a writing behind the first u bytes, or in the other area, leaves the journal's bytes -/
set_option maxRecDepth 5000 in
theorem laid_low {s : K.St} {h : J.H} {L : List (List UInt8)} (hi : J.Is s h L) (hz : 0 < s.sz) (hlen : ∀ i, i < s.n → (s.rd i).length = s.sz) (F : J.H) (hFa : F.a < 2) (hF : (F.a = h.a ∧ F.u = h.u) ∨ F.a ≠ h.a) (b : List UInt8) (k : Nat) (hroom : F.u + b.length ≤ J.arb s) (hk : k * s.sz < (J.bef s (2 + F.a * J.ars s) F.u b).length + s.sz) (j : Nat) (hj : j < h.u) :
    ((J.laid s (2 + F.a * J.ars s) F.u b k).rd (2 + h.a * J.ars s + j / s.sz))[j % s.sz]? = (s.rd (2 + h.a * J.ars s + j / s.sz))[j % s.sz]? := by
  have hu : h.u ≤ J.ars s * s.sz := hi.u
  have hroom' : F.u + b.length ≤ J.ars s * s.sz := hroom
  have hja : j / s.sz < J.ars s := by rw [Nat.div_lt_iff_lt_mul hz]; omega
  have hjm := Nat.div_add_mod' j s.sz
  have hjl := Nat.mod_lt j hz
  have hum := Nat.div_add_mod' F.u s.sz
  have hul := Nat.mod_lt F.u hz
  have hbl : (J.bef s (2 + F.a * J.ars s) F.u b).length ≤ F.u % s.sz + b.length := by
    unfold J.bef
    rw [List.length_append, List.length_take]; omega
  have hkk : F.u / s.sz + k ≤ J.ars s := by
    have : (F.u / s.sz + k) * s.sz < (J.ars s + 1) * s.sz := by rw [Nat.add_mul, Nat.add_mul]; omega
    have := Nat.lt_of_mul_lt_mul_right this
    omega
  have h2 : h.a < 2 := hi.ok.a
  rw [laid_rd hi.pw]
  by_cases hin : 2 + F.a * J.ars s + F.u / s.sz ≤ 2 + h.a * J.ars s + j / s.sz ∧ 2 + h.a * J.ars s + j / s.sz < 2 + F.a * J.ars s + F.u / s.sz + k
  · rw [if_pos hin]
    rcases hF with ⟨ea, eu⟩ | hne
    · rw [ea] at hin ⊢
      have hle : j / s.sz ≤ F.u / s.sz := Nat.div_le_div_right (by omega)
      have hx : j / s.sz = F.u / s.sz := by omega
      have hlt : j % s.sz < F.u % s.sz := by rw [hx] at hjm; omega
      have hAn : 2 + 2 * J.ars s ≤ s.n := by unfold J.ars; have := hi.n8; omega
      have hP : 2 + h.a * J.ars s + J.ars s ≤ s.n := by
        have : h.a * J.ars s ≤ 1 * J.ars s := Nat.mul_le_mul_right _ (by omega)
        omega
      have htl : ((s.rd (2 + h.a * J.ars s + F.u / s.sz)).take (F.u % s.sz)).length = F.u % s.sz := by
        rw [List.length_take, hlen _ (by omega)]; omega
      rw [hx, Nat.sub_self, pad_get _ _ _ _ hjl (by unfold J.bef; rw [List.length_append, htl]; omega)]
      unfold J.bef
      rw [Nat.zero_mul, Nat.zero_add, List.getElem?_append_left (by rw [htl]; exact hlt), List.getElem?_take_of_lt hlt]
    · exfalso
      have h01 : (h.a = 0 ∧ F.a = 1) ∨ (h.a = 1 ∧ F.a = 0) := by omega
      clear hjm hum
      generalize F.u / s.sz = U at hin hkk
      generalize j / s.sz = V at hin hja
      rcases h01 with ⟨e1, e2⟩ | ⟨e1, e2⟩ <;> rw [e1, e2] at hin <;> omega
  · rw [if_neg hin]
end Go.Proofs.YtidocfajhhpfdaaDoor

/- Behind a crash the journal is the old one or the new one, plain. -/
namespace Go.Proofs.YtidocfajhhpfdaaDoor
open Go.RowKit
set_option maxRecDepth 5000 in
theorem puts_su (f : Nat → List UInt8) : ∀ (xs : List Nat) (s : K.St) (p : Nat), (J.puts s p f xs).su = s.su
  | [], _, _ => rfl
  | x :: xs, s, p => by
    have e : J.puts s p f (x :: xs) = J.puts (s.put p (f x)) (p + 1) f xs := rfl
    rw [e, puts_su f xs]
    unfold K.St.put K.St.spent
    split <;> rfl
set_option maxRecDepth 5000 in
theorem laid_old (s : K.St) (P u : Nat) (b : List UInt8) (k i : Nat) : (J.laid s P u b k).old i = s.old i := by
  unfold K.St.old
  rw [show (J.laid s P u b k).su = s.su from puts_su _ _ s _, (laid_same s P u b k).1]
set_option maxRecDepth 5000 in
theorem rd_sure {s : K.St} (h : ∀ i, s.un i = none) (i : Nat) : s.rd i = s.old i := by
  unfold K.St.rd
  rw [h i]; rfl
set_option maxRecDepth 5000 in
theorem J.Is.crash {s : K.St} {h : J.H} {L : List (List UInt8)} (hi : J.Is s.calm h L) (hun : ∀ i, s.un i = none) (hz1 : 64 ≤ s.sz) (hz2 : s.sz ≤ 4096) (hn2 : s.n ≤ 4096) (hlen : ∀ i, i < s.n → (s.rd i).length = s.sz) (F : J.H) (hFc : F.c = h.c) (hFa : F.a < 2) (hFh : (F.a = h.a ∧ F.u = h.u) ∨ F.a ≠ h.a) (L0 : List (List UInt8))
    (hF : ∃ fs, (J.cat s.calm (2 + F.a * J.ars s) (J.ars s)).take F.u = J.enc fs ∧ (J.enc fs).length = F.u ∧ J.Ri 0 fs F.b ∧ J.dec fs F.b = L0) (l : List (List UInt8)) (hc : F.c + 1 < 4611686018427387904) (hb : F.b + l.length ≤ 1048576) (hroom : F.u + J.fsz l ≤ J.arb s)
    (t : K.St) (hBr : J.Broke s (2 + F.a * J.ars s) F.u (J.enc (J.frl F.b l)) (nextH F l) t) (keep : Nat) :
    J.Is (t.spent.crashed keep) h L ∨ J.Is (t.spent.crashed keep) (nextH F l) (L0 ++ l) := by
  have hz : 0 < s.calm.sz := by show 0 < s.sz; omega
  obtain ⟨b, hbe⟩ : ∃ b, b = J.enc (J.frl F.b l) := ⟨_, rfl⟩
  have hbl : b.length = J.fsz l := by rw [hbe, J.frl_len]
  have hroom' : F.u + b.length ≤ J.arb s.calm := by rw [hbl]; exact hroom
  have hlen' : ∀ i, i < s.calm.n → (s.calm.rd i).length = s.calm.sz := hlen
  have hsu : ∀ i, s.calm.rd i = s.calm.old i := rd_sure (s := s.calm) hun
  have hP2 : ∀ i, i < 2 → i < 2 + F.a * J.ars s := fun i hi => by omega
  have hlay := hi.lay (by show 64 ≤ s.sz; exact hz1) hz2 hn2 hlen' F hFc hFa L0 hF l hc hb hroom
  rw [calm_crashed, calm_spent]
  rw [← hbe] at hBr
  -- what is the same whatever of the bytes was written
  have low : ∀ (k : Nat) (r : K.St), k * s.sz < (J.bef s (2 + F.a * J.ars s) F.u b).length + s.sz → Pw r → r.n = s.n → r.sz = s.sz → (∀ i, r.rd i = (J.laid s.calm (2 + F.a * J.ars s) F.u b k).rd i ∨ r.rd i = s.calm.rd i) → J.Is r h L := fun k r hk hp hn hzr hr => by
    refine hi.part hp hn hzr hz hlen' (fun i hi2 => ?_) (fun i hi2 => ?_) (fun j hj => ?_)
    · rcases hr i with e | e
      · rw [e, laid_rd hi.pw]
        split
        · exact pad_len2 _ _ _
        · exact hlen' i hi2
      · rw [e]; exact hlen' i hi2
    · rcases hr i with e | e
      · rw [e, laid_rd hi.pw, if_neg (fun h => absurd (Nat.le_trans (Nat.le_add_right _ _) h.1) (by have := hP2 i hi2; omega))]
      · exact e
    · rcases hr (2 + h.a * J.ars s.calm + j / s.calm.sz) with e | e
      · rw [e]; exact laid_low hi hz hlen' F hFa hFh b k hroom' hk j hj
      · rw [e]
  rcases hBr with ⟨_, _, ⟨j, hj, rfl⟩ | ⟨k, hk1, hk2, rfl | rfl⟩⟩
  · left
    rw [calm_laid]
    obtain ⟨e1, e2⟩ := laid_same s.calm (2 + F.a * J.ars s) F.u b j
    refine low j _ hj (crashed_pw _ _) e2 e1 (fun i => ?_)
    rcases rd_crashed (J.laid s.calm (2 + F.a * J.ars s) F.u b j) keep i with e | e
    · exact Or.inl e
    · exact Or.inr (by rw [e, laid_old, hsu])
  · left
    rw [calm_synced, calm_laid]
    obtain ⟨e0, e1, e2⟩ := laid_keep (2 + F.a * J.ars s) F.u b k hi.pw
    refine low k _ hk2 (crashed_pw _ _) ((synced_same _).2.trans e2) ((synced_same _).1.trans e1) (fun i => Or.inl ?_)
    rw [rd_crashed_sure _ _ _ rfl, rd_synced e0]
  · rw [calm_put, calm_synced, calm_laid]
    have hlk := hlay k (by rw [← hbe]; exact hk1)
    rw [← hbe] at hlk
    have hlk : J.Is (((J.laid s.calm (2 + F.a * J.ars s) F.u b k).synced.put ((F.c + 1) % 2) (J.hb (nextH F l) s.sz)).synced) (nextH F l) (L0 ++ l) := hlk
    obtain ⟨e0, e1, e2⟩ := laid_keep (2 + F.a * J.ars s) F.u b k hi.pw
    generalize hq : J.laid s.calm (2 + F.a * J.ars s) F.u b k = q at hlk e0 e1 e2 ⊢
    have p1 := synced_pw e0
    have p2 := put_pw p1 ((F.c + 1) % 2) (J.hb (nextH F l) s.sz)
    have hsl : ((nextH F l).c) % 2 = (F.c + 1) % 2 := rfl
    rw [hsl]
    obtain ⟨sl, hsle⟩ : ∃ sl, sl = (F.c + 1) % 2 := ⟨_, rfl⟩
    rw [← hsle] at hlk p2 ⊢
    have en : ((q.synced.put sl (J.hb (nextH F l) s.sz)).crashed keep).n = s.n := by
      show (q.synced.put sl (J.hb (nextH F l) s.sz)).n = _
      rw [put_n p1, synced_n e0, e2]; rfl
    have ez : ((q.synced.put sl (J.hb (nextH F l) s.sz)).crashed keep).sz = s.sz := by
      show (q.synced.put sl (J.hb (nextH F l) s.sz)).sz = _
      rw [put_sz p1, synced_sz e0, e1]; rfl
    have hoth : ∀ i, i ≠ sl → ((q.synced.put sl (J.hb (nextH F l) s.sz)).crashed keep).rd i = q.rd i := fun i hne => by
      rw [rd_crashed_sure _ _ _ (by unfold K.St.put K.upd; simp only; rw [if_neg hne]; rfl), rd_put p1, if_neg hne, rd_synced e0]
    rcases rd_crashed (q.synced.put sl (J.hb (nextH F l) s.sz)) keep sl with e | e
    · right
      refine hlk.same (crashed_pw _ _) ?_ ?_ (fun i => ?_)
      · rw [en, synced_n p2, put_n p1, synced_n e0, e2]; rfl
      · rw [ez, synced_sz p2, put_sz p1, synced_sz e0, e1]; rfl
      · rw [rd_synced p2]
        by_cases hne : i = sl
        · rw [hne]; exact e
        · rw [hoth i hne, rd_put p1, if_neg hne, rd_synced e0]
    · left
      refine low k _ hk2 (crashed_pw _ _) en ez (fun i => Or.inl ?_)
      rw [hq]
      by_cases hne : i = sl
      · rw [hne, e]
        have : (q.synced.put sl (J.hb (nextH F l) s.sz)).old sl = q.synced.old sl := by
          unfold K.St.put
          rw [p1.spent]; rfl
        rw [this, ← rd_synced e0, rd_sure (s := q.synced) (fun _ => rfl)]
      · exact hoth i hne
end Go.Proofs.YtidocfajhhpfdaaDoor

/- Open of a journal, where the power may fail. -/
namespace Go.Proofs.YtidocfajhhpfdaaDoor
open Go.RowKit
set_option maxHeartbeats 4000000 in
set_option maxRecDepth 5000 in
theorem opn1_two (w0 w : World) (ht : Tab w) (D S M bj bJ bl be : Nat) (s s1 : K.St) (H : J.H) (hH : HOk H) (fs : List (Nat × List UInt8)) (hB0 : Mv D S M w0 w) (hD : D < w0.heap.size) (hS : S < w0.heap.size) (hM : M < w0.heap.size) (h1 : w0.heap.size ≤ bj) (h2 : w0.heap.size ≤ bJ) (h3 : w0.heap.size ≤ bl) (h4 : w0.heap.size ≤ be)
    (hw : OpW D bj bJ bl be ⟨0, 0, 0, 0⟩ (.slice none 0 0) w) (hd : DiskAt FF w D S M s) (hT0 : 0 < w0.heap.size ∧ 0 < D ∧ 0 < S ∧ 0 < M)
    (hnew : ∀ W, Tab W → DiskAt FF W D S M s → Calls Tryd.prog 31 #[.agg #[.pointer (some ⟨D, 0, none⟩)]] W fun e w' => e = .returned (.agg (hrow H)) ∧ DiskAt FF w' D S M s1 ∧ Mv D S M W w')
    (hp : s1.dead = false) (hn : 8 ≤ s1.n) (hHu : H.u ≤ J.arb s1) (henc : (J.cat s1 (2 + H.a * J.ars s1) (J.ars s1)).take H.u = J.enc fs) (hul : (J.enc fs).length = H.u) (hri : J.Ri 0 fs H.b) :
    Calls Tryd.prog 30 #[.pointer (some ⟨bj, 0, none⟩), .pointer (some ⟨bl, 0, none⟩)] w fun e w' => (e = .returned (.tuple #[]) ∧ ∃ v M', OpW D bj bJ bl be H v w' ∧ DiskAt FF w' D S M' s1.synced ∧ Mv D S M w0 w' ∧ w0.heap.size ≤ M' ∧ OwnBs w' w0.heap.size v (J.dec fs H.b) ∧ s1.can = true) ∨ (e = fell 82 ∧ s1.can = false ∧ RowAt w' be 33 #[.int .i64 0] ∧ DiskAt FF w' D S M s1.spent ∧ Mv D S M w0 w') := by
  have x0 : w.cell? ⟨bj, 0, none⟩ = some (.pointer (some ⟨bJ, 0, none⟩)) := hw.cj.cell 0
  have x1 : w.cell? ⟨bJ, 0, none⟩ = some (.pointer (some ⟨D, 0, none⟩)) := hw.jr.cell 0
  have HW := hide hw
  have HD := hide hd
  have HT := hide ht
  have HB0 := hide hB0
  obtain ⟨Hc, Ha, Hu, Hb⟩ := H
  unfold hrow at hnew
  simp only at hnew hHu henc hul hri
  have HEN := hide henc
  have HUL := hide hul
  have HRI := hide hri
  have HP := hide hp
  have HOK := hide hH
  clear hw hd ht hB0 henc hul hri hp hH
  go_enter Tryd.func30, Tryd.ntmps30
  go_wp2
  go_region_held3 (fun w' => w'.cell? ⟨bj, 0, none⟩ = some (.pointer (some ⟨bJ, 0, none⟩)) ∧ w'.cell? ⟨bJ, 0, none⟩ = some (.pointer (some ⟨D, 0, none⟩))) (first | exact ⟨x0, x1⟩ | exact ⟨y0, y1⟩ | exact ⟨((((W2.out.cj.other _ _ (W2.out.jr.ne W2.out.cj (by decide)).symm).other _ _ (W2.out.jr.ne W2.out.cj (by decide)).symm).other _ _ (W2.out.jr.ne W2.out.cj (by decide)).symm).other _ _ (W2.out.jr.ne W2.out.cj (by decide)).symm).cell 0, ((((W2.out.jr.set 1 _).set 2 _).set 3 _).set 4 _).cell 0⟩ | fail) (first
    | (go_at_call 31; refine (hnew _ (by exact HT.out) (by first | exact HD.out | exact DiskAt.drewN HD.out _)).mono ?_; rintro e w2 ⟨rfl, D2, M2⟩; have M2a : Mv D S M w w2 := ⟨M2.os, M2.tape, M2.output, M2.size, M2.block⟩; have W2 := hide (HW.out.mv M2a hD hS hM h1 h2 h3 h4); have DD2 := hide D2; have MM2 := hide M2a; have y0 : w2.cell? ⟨bj, 0, none⟩ = some (.pointer (some ⟨bJ, 0, none⟩)) := W2.out.cj.cell 0; have y1 : w2.cell? ⟨bJ, 0, none⟩ = some (.pointer (some ⟨D, 0, none⟩)) := W2.out.jr.cell 0; have q1 : w2.cell? ⟨bJ, 1, none⟩ = some (.int .u64 0) := W2.out.jr.cell 1; have q2 : w2.cell? ⟨bJ, 2, none⟩ = some (.int .i64 0) := W2.out.jr.cell 2; have q3 : w2.cell? ⟨bJ, 3, none⟩ = some (.int .i64 0) := W2.out.jr.cell 3; have q4 : w2.cell? ⟨bJ, 4, none⟩ = some (.int .i64 0) := W2.out.jr.cell 4; have f1 := W2.out.jr.frozen 1; have f2 := W2.out.jr.frozen 2; have f3 := W2.out.jr.frozen 3; have f4 := W2.out.jr.frozen 4; clear D2 M2 M2a))
  have hne := (W2.out.jr.ne W2.out.cj (by decide)).symm
  have hnl := (W2.out.jr.ne W2.out.cl (by decide)).symm
  have hnx := (W2.out.jr.ne W2.out.ce (by decide)).symm
  have W3 : Hid (OpW D bj bJ bl be ⟨Hc, Ha, Hu, Hb⟩ (.slice none 0 0) ((((w2.setCell ⟨bJ, 1, none⟩ (.int .u64 (Hc : Int))).setCell ⟨bJ, 2, none⟩ (.int .i64 (Ha : Int))).setCell ⟨bJ, 3, none⟩ (.int .i64 (Hu : Int))).setCell ⟨bJ, 4, none⟩ (.int .i64 (Hb : Int)))) := ⟨(((W2.out.cj.other _ _ hne).other _ _ hne).other _ _ hne).other _ _ hne, (((W2.out.jr.set 1 (.int .u64 (Hc : Int))).set 2 (.int .i64 (Ha : Int))).set 3 (.int .i64 (Hu : Int))).set 4 (.int .i64 (Hb : Int)), (((W2.out.cl.other _ _ hnl).other _ _ hnl).other _ _ hnl).other _ _ hnl, (((W2.out.ce.other _ _ hnx).other _ _ hnx).other _ _ hnx).other _ _ hnx⟩
  have b3 : Below bJ w2 ((((w2.setCell ⟨bJ, 1, none⟩ (.int .u64 (Hc : Int))).setCell ⟨bJ, 2, none⟩ (.int .i64 (Ha : Int))).setCell ⟨bJ, 3, none⟩ (.int .i64 (Hu : Int))).setCell ⟨bJ, 4, none⟩ (.int .i64 (Hb : Int))) := ((((Below.refl bJ w2).setCell (p := ⟨bJ, 1, none⟩) (Nat.le_refl bJ) _).setCell (p := ⟨bJ, 2, none⟩) (Nat.le_refl bJ) _).setCell (p := ⟨bJ, 3, none⟩) (Nat.le_refl bJ) _).setCell (p := ⟨bJ, 4, none⟩) (Nat.le_refl bJ) _
  have k3 : Rows w2 ((((w2.setCell ⟨bJ, 1, none⟩ (.int .u64 (Hc : Int))).setCell ⟨bJ, 2, none⟩ (.int .i64 (Ha : Int))).setCell ⟨bJ, 3, none⟩ (.int .i64 (Hu : Int))).setCell ⟨bJ, 4, none⟩ (.int .i64 (Hb : Int))) := fun g' c' hg' => by
    have hn' := (W2.out.jr.ne hg' (by decide)).symm
    exact (((hg'.other _ _ hn').other _ _ hn').other _ _ hn').other _ _ hn'
  have D3 := hide (DD2.out.keptB b3 k3 (by omega) (by omega) (by omega))
  have MM3 := hide ((HB0.out.trans MM2.out (Or.inl rfl)).belowB b3 h2)
  clear W2 DD2 MM2 y0 y1 q1 q2 q3 q4 f1 f2 f3 f4 k3 b3 hne hnl hnx x0 x1 hnew
  generalize ((((w2.setCell ⟨bJ, 1, none⟩ (.int .u64 (Hc : Int))).setCell ⟨bJ, 2, none⟩ (.int .i64 (Ha : Int))).setCell ⟨bJ, 3, none⟩ (.int .i64 (Hu : Int))).setCell ⟨bJ, 4, none⟩ (.int .i64 (Hb : Int))) = w3 at W3 D3 MM3 ⊢
  have T3 := hide (HT.out.mvw HB0.out MM3.out hT0)
  have z3 : w0.heap.size ≤ w3.heap.size := MM3.out.size
  have c0 : w3.cell? ⟨bj, 0, none⟩ = some (.pointer (some ⟨bJ, 0, none⟩)) := W3.out.cj.cell 0
  have c1 : w3.cell? ⟨bJ, 0, none⟩ = some (.pointer (some ⟨D, 0, none⟩)) := W3.out.jr.cell 0
  have c2 : w3.cell? ⟨bJ, 2, none⟩ = some (.int .i64 (Ha : Int)) := W3.out.jr.cell 2
  have c3 : w3.cell? ⟨bJ, 3, none⟩ = some (.int .i64 (Hu : Int)) := W3.out.jr.cell 3
  have c4 : w3.cell? ⟨bJ, 4, none⟩ = some (.int .i64 (Hb : Int)) := W3.out.jr.cell 4
  have hsb : ∀ W, DiskAt FF W D S M s1 → Calls Tryd.prog 33 #[.agg #[.pointer (some ⟨D, 0, none⟩)], .int .i64 (Ha : Int), .int .i64 (Hu : Int)] W fun e w' => ∃ ao c, e = .returned (.slice ao Hu c) ∧ Hu ≤ c ∧ (ao = none → Hu = 0 ∧ c = 0) ∧ (∀ ad, ao = some ad → ∃ g, ad = ⟨g, 0, none⟩) ∧ SlL w' ao (J.enc fs) ∧ Below W.heap.size W w' := fun W hW => by
    have := sbytes_ok W D S M s1 hW HP.out hn Ha HOK.out.a Hu hHu
    rw [HEN.out] at this; exact this
  have hu9 : Hu ≤ 1000000000 := by have := HOK.out.u; have : J.arb s1 ≤ 4096 * 4096 := (by obtain ⟨_, e2, _, e4⟩ := D3.out.bds; exact Nat.mul_le_mul (by unfold J.ars; omega) e2); omega
  go_wp2
  go_region_held3 (fun w' => w'.cell? ⟨bj, 0, none⟩ = some (.pointer (some ⟨bJ, 0, none⟩)) ∧ w'.cell? ⟨bJ, 0, none⟩ = some (.pointer (some ⟨D, 0, none⟩)) ∧ w'.cell? ⟨bJ, 2, none⟩ = some (.int .i64 (Ha : Int)) ∧ w'.cell? ⟨bJ, 3, none⟩ = some (.int .i64 (Hu : Int)) ∧ w'.cell? ⟨bJ, 4, none⟩ = some (.int .i64 (Hb : Int))) (first | exact ⟨c0, c1, c2, c3, c4⟩ | exact cc5.out | exact cc6.out _ | exact cc4.out | fail) (first
    | (go_at_call 33; refine (hsb _ (by first | exact D3.out | exact DiskAt.drewN D3.out _)).mono ?_; rintro e w4 ⟨ao, ca, rfl, ha1, ha2, ha3, ha4, b4⟩; have b4a := below_rx (w := w3) b4 rfl rfl rfl rfl; have W4 := hide (W3.out.below b4a); have D4 := hide (D3.out.below b4a (Nat.le_refl _)); have MM4 := hide (MM3.out.belowB b4a z3); have T4 := hide (T3.out.below b4a (Nat.lt_of_lt_of_le hT0.1 z3)); have HA1 := hide ha1; have HA2 := hide ha2; have HA3 := hide ha3; have HA4 := hide ha4; have cc4 := hide (And.intro (W4.out.cj.cell 0) (And.intro (W4.out.jr.cell 0) (And.intro (W4.out.jr.cell 2) (And.intro (W4.out.jr.cell 3) (W4.out.jr.cell 4))))); have z4 : w0.heap.size ≤ w4.heap.size := MM4.out.size; clear b4 b4a ha1 ha2 ha3 ha4)
    | (go_at_call 32; refine (openFrames_at _ (by exact T4.out) ao Hu ca Hb fs HUL.out HRI.out HOK.out.b hu9 HA1.out (by exact HA4.out) HA2.out HA3.out).mono ?_; rintro e w5 ⟨v5, rfl, O5, b5⟩; have b5a := below_rx (w := w4) b5 rfl rfl rfl rfl; have W5 := hide (W4.out.below b5a); have D5 := hide (D4.out.below b5a (Nat.le_refl _)); have MM5 := hide (MM4.out.belowB b5a z4); have O5a : OwnBs w5 w4.heap.size v5 (J.dec fs Hb) := O5; obtain ⟨a5, n5, hv5⟩ := O5a.slice; have HO5 := hide O5a; have l0 : w5.cell? ⟨bl, 0, none⟩ = some (.slice none 0 0) := W5.out.cl.cell 0; have lf := W5.out.cl.frozen 0; have hn5 := (W5.out.jr.ne W5.out.cl (by decide)); have hn6 := (W5.out.cj.ne W5.out.cl (by decide)); have cc5 := hide (And.intro (W5.out.cj.cell 0) (And.intro (W5.out.jr.cell 0) (And.intro (W5.out.jr.cell 2) (And.intro (W5.out.jr.cell 3) (W5.out.jr.cell 4))))); have cc6 : Hid (∀ u, _ ∧ _ ∧ _ ∧ _ ∧ _) := fun u => (And.intro ((W5.out.cj.other ⟨bl, 0, none⟩ u hn6).cell 0) (And.intro ((W5.out.jr.other ⟨bl, 0, none⟩ u hn5).cell 0) (And.intro ((W5.out.jr.other ⟨bl, 0, none⟩ u hn5).cell 2) (And.intro ((W5.out.jr.other ⟨bl, 0, none⟩ u hn5).cell 3) ((W5.out.jr.other ⟨bl, 0, none⟩ u hn5).cell 4))))); rw [hv5]; rw [hv5] at HO5; clear O5 O5a b5 b5a hv5))
  have W6 : Hid (OpW D bj bJ bl be ⟨Hc, Ha, Hu, Hb⟩ (.slice a5 (J.dec fs Hb).length n5) (w5.setCell ⟨bl, 0, none⟩ (.slice a5 (J.dec fs Hb).length n5))) := ⟨W5.out.cj.other _ _ hn6, W5.out.jr.other _ _ hn5, W5.out.cl.set 0 (.slice a5 (J.dec fs Hb).length n5), W5.out.ce.other _ _ (W5.out.cl.ne W5.out.ce (by decide)).symm⟩
  have b6 : Below bl w5 (w5.setCell ⟨bl, 0, none⟩ (.slice a5 (J.dec fs Hb).length n5)) := (Below.refl bl w5).setCell (p := ⟨bl, 0, none⟩) (Nat.le_refl bl) _
  have k6 : Rows w5 (w5.setCell ⟨bl, 0, none⟩ (.slice a5 (J.dec fs Hb).length n5)) := fun g' c' hg' => hg'.other _ _ (W5.out.cl.ne hg' (by decide)).symm
  have D6 := hide (D5.out.keptB b6 k6 (by omega) (by omega) (by omega))
  have MM6 := hide (MM5.out.belowB b6 h3)
  have O6 : Hid (OwnBs (w5.setCell ⟨bl, 0, none⟩ (.slice a5 (J.dec fs Hb).length n5)) w4.heap.size (.slice a5 (J.dec fs Hb).length n5) (J.dec fs Hb)) := HO5.out.kept (by simp) (fun g o ho hb => heap_setCell_other _ _ _ _ (fun e => by
    have h9 := W5.out.cl
    unfold RowAt at h9
    rw [show g = bl from e, h9] at ho
    injection ho with ho
    rcases hb with ⟨c, fr, hb⟩ | ⟨_, c, fr, hb⟩
    · rw [hb] at ho; injection ho with _ ho _; exact absurd ho (by decide)
    · rw [hb] at ho; injection ho with _ ho _; exact absurd ho (by decide)))
  clear W5 D5 MM5 HO5 l0 lf hn5 hn6 cc4 cc5 cc6 b6 k6
  generalize w5.setCell ⟨bl, 0, none⟩ (.slice a5 (J.dec fs Hb).length n5) = w6 at W6 D6 MM6 O6 ⊢
  have d0 : w6.cell? ⟨bj, 0, none⟩ = some (.pointer (some ⟨bJ, 0, none⟩)) := W6.out.cj.cell 0
  have d1 : w6.cell? ⟨bJ, 0, none⟩ = some (.pointer (some ⟨D, 0, none⟩)) := W6.out.jr.cell 0
  have hsy := ssync_two w6 D S M s1 D6.out HP.out
  unfold stv at hsy
  go_wp2_with (go_at_call 34; refine hsy.mono ?_; rintro e w7 (⟨rfl, hc7, M', D7, M7, z7⟩ | ⟨rfl, hc7, D7, M7⟩); rotate_left; (unfold fell; exact ⟨rfl, Or.inr ⟨rfl, hc7, (W6.out.mv M7 hD hS hM h1 h2 h3 h4).ce, D7, MM6.out.trans M7 (Or.inl rfl)⟩⟩); have HC7 := hide hc7; clear hc7; have DD7 := hide D7; have MM7 := hide M7; have ZZ7 := hide z7; clear D7 M7 z7)
  go_end0
  refine Or.inl ⟨rfl, _, M', W6.out.mv MM7.out hD hS hM h1 h2 h3 h4, DD7.out, MM6.out.trans MM7.out (Or.inl rfl), Nat.le_trans MM6.out.size ZZ7.out, ?_, HC7.out⟩
  refine (O6.out.kept MM7.out.size (fun g o ho hb => ?_)).low z4
  have hlt : g < w6.heap.size := (Array.getElem?_eq_some_iff.1 ho).1
  obtain ⟨sv, uv, hkk⟩ := D6.out
  rcases hb with ⟨c, fr, rfl⟩ | ⟨hbg, c, fr, rfl⟩
  · refine MM7.out.block g hlt (fun e => ?_) (fun e => ?_) (hkk.un.row_ne ho)
    · have := hkk.row; unfold RowAt at this; rw [e, this] at ho; injection ho with ho; injection ho with _ ho _; exact absurd ho (by decide)
    · have := hkk.sure; unfold RowAt at this; rw [e, this] at ho; injection ho with ho; injection ho with _ ho _; exact absurd ho (by decide)
  · exact MM7.out.block g hlt (by omega) (by omega) (by omega)
set_option maxHeartbeats 4000000 in
set_option maxRecDepth 5000 in
theorem opn_two (w : World) (ht : Tab w) (D S M : Nat) (s s1 : K.St) (H : J.H) (hH : HOk H) (fs : List (Nat × List UInt8)) (hd : DiskAt FF w D S M s) (hs8 : 8 ≤ s.n) (hpos : 0 < D ∧ 0 < S ∧ 0 < M)
    (hnew : ∀ W, Tab W → DiskAt FF W D S M s → Calls Tryd.prog 31 #[.agg #[.pointer (some ⟨D, 0, none⟩)]] W fun e w' => e = .returned (.agg (hrow H)) ∧ DiskAt FF w' D S M s1 ∧ Mv D S M W w')
    (hp : s1.dead = false) (hn : 8 ≤ s1.n) (hHu : H.u ≤ J.arb s1) (henc : (J.cat s1 (2 + H.a * J.ars s1) (J.ars s1)).take H.u = J.enc fs) (hul : (J.enc fs).length = H.u) (hri : J.Ri 0 fs H.b) :
    Calls Tryd.prog 14 #[.pointer (some ⟨D, 0, none⟩)] w fun e w' => (∃ v M', e = .returned (.tuple #[.pointer (some ⟨w.heap.size, 0, none⟩), v, .int .i64 0]) ∧ RowAt w' w.heap.size 69 (jrow D H false) ∧ DiskAt FF w' D S M' s1.synced ∧ Mv D S M w w' ∧ w.heap.size ≤ M' ∧ OwnBs w' w.heap.size v (J.dec fs H.b) ∧ s1.can = true) ∨ (e = .returned (.tuple #[.pointer none, .slice none 0 0, .int .i64 82]) ∧ s1.can = false ∧ DiskAt FF w' D S M s1.spent ∧ Mv D S M w w') := by
  obtain ⟨hD, hS, hM⟩ := hd.lts
  have hse := sectors_any w D S M s hd
  have he : ∀ W : World, (binOp .eql 29 (.pointer (some ⟨D, 0, none⟩)) (.pointer none)).run Tryd.prog W = .ok (.bool false) W := fun _ => rfl
  have h8 : ¬ (s.n : Int) < 8 := by omega
  have hmf : ∀ (fn : Fn) (first cap : Array Value) (w : World), (Instr.makeFunc fn first cap).run Tryd.prog w = .ok (.func fn first cap) w := fun _ _ _ _ => rfl
  go_enter Tryd.func14, Tryd.ntmps14
  go_wp2_with (go_at_call 28; refine hse.mono ?_; rintro e w' ⟨rfl, hw⟩; rw [hw]; clear hw w')
  have A1 : Hid (RowAt (((w.alloc (.cells #[.pointer (some ⟨D, 0, none⟩), .int .u64 0, .int .i64 0, .int .i64 0, .int .i64 0, .bool false] 69)).alloc (.cells #[.pointer (some ⟨w.heap.size, 0, none⟩)] 31)).alloc (.cells #[.slice none 0 0] 32)) w.heap.size 69 (jrow D ⟨0, 0, 0, 0⟩ false) ∧ RowAt (((w.alloc (.cells #[.pointer (some ⟨D, 0, none⟩), .int .u64 0, .int .i64 0, .int .i64 0, .int .i64 0, .bool false] 69)).alloc (.cells #[.pointer (some ⟨w.heap.size, 0, none⟩)] 31)).alloc (.cells #[.slice none 0 0] 32)) (w.heap.size + 1) 31 #[.pointer (some ⟨w.heap.size, 0, none⟩)] ∧ RowAt (((w.alloc (.cells #[.pointer (some ⟨D, 0, none⟩), .int .u64 0, .int .i64 0, .int .i64 0, .int .i64 0, .bool false] 69)).alloc (.cells #[.pointer (some ⟨w.heap.size, 0, none⟩)] 31)).alloc (.cells #[.slice none 0 0] 32)) (w.heap.size + 2) 32 #[.slice none 0 0] ∧ Below w.heap.size w (((w.alloc (.cells #[.pointer (some ⟨D, 0, none⟩), .int .u64 0, .int .i64 0, .int .i64 0, .int .i64 0, .bool false] 69)).alloc (.cells #[.pointer (some ⟨w.heap.size, 0, none⟩)] 31)).alloc (.cells #[.slice none 0 0] 32)) ∧ (((w.alloc (.cells #[.pointer (some ⟨D, 0, none⟩), .int .u64 0, .int .i64 0, .int .i64 0, .int .i64 0, .bool false] 69)).alloc (.cells #[.pointer (some ⟨w.heap.size, 0, none⟩)] 31)).alloc (.cells #[.slice none 0 0] 32)).heap.size = w.heap.size + 3) := by
    refine ⟨((RowAt.new w _ _).alloc _).alloc _, ?_, ?_, (((Below.refl _ w).alloc (Nat.le_refl _) _).alloc (by simp) _).alloc (by simp; omega) _, by simp⟩
    · have := (RowAt.new (w.alloc (.cells #[.pointer (some ⟨D, 0, none⟩), .int .u64 0, .int .i64 0, .int .i64 0, .int .i64 0, .bool false] 69)) 31 #[.pointer (some ⟨w.heap.size, 0, none⟩)]).alloc (.cells #[.slice none 0 0] 32)
      rwa [World.size_alloc] at this
    · have := RowAt.new ((w.alloc (.cells #[.pointer (some ⟨D, 0, none⟩), .int .u64 0, .int .i64 0, .int .i64 0, .int .i64 0, .bool false] 69)).alloc (.cells #[.pointer (some ⟨w.heap.size, 0, none⟩)] 31)) 32 #[.slice none 0 0]
      rwa [World.size_alloc, World.size_alloc] at this
  generalize (((w.alloc (.cells #[.pointer (some ⟨D, 0, none⟩), .int .u64 0, .int .i64 0, .int .i64 0, .int .i64 0, .bool false] 69)).alloc (.cells #[.pointer (some ⟨w.heap.size, 0, none⟩)] 31)).alloc (.cells #[.slice none 0 0] 32)) = w3 at A1 ⊢
  rw [show w.heap.size + 1 + 1 = w.heap.size + 2 from rfl]
  have hb4 : Below w.heap.size w (w3.alloc (.cells #[.int .i64 0] 33)) := A1.out.2.2.2.1.alloc A1.out.2.2.2.1.size _
  have ho1 := opn1_two w (w3.alloc (.cells #[.int .i64 0] 33)) (ht.below hb4 ht.1) D S M (w.heap.size + 1) w.heap.size (w.heap.size + 2) w3.heap.size s s1 H hH fs (Mv.of_below hb4) hD hS hM (by omega) (Nat.le_refl _) (by omega) (by rw [A1.out.2.2.2.2]; omega) ⟨A1.out.2.1.alloc _, A1.out.1.alloc _, A1.out.2.2.1.alloc _, RowAt.new w3 _ _⟩ (hd.below hb4 (Nat.le_refl _)) ⟨ht.1, hpos⟩ hnew hp hn hHu henc hul hri
  have hat := attempt_any w3 30 #[.pointer (some ⟨w.heap.size + 1, 0, none⟩), .pointer (some ⟨w.heap.size + 2, 0, none⟩)] (enters_of Tryd.func30 (by kernel_rfl) rfl) (fun w' => ∃ v M', OpW D (w.heap.size + 1) w.heap.size (w.heap.size + 2) w3.heap.size H v w' ∧ DiskAt FF w' D S M' s1.synced ∧ Mv D S M w w' ∧ w.heap.size ≤ M' ∧ OwnBs w' w.heap.size v (J.dec fs H.b) ∧ s1.can = true) (fun x w' => x = 82 ∧ s1.can = false ∧ RowAt w' w3.heap.size 33 #[.int .i64 0] ∧ DiskAt FF w' D S M s1.spent ∧ Mv D S M w w') (ho1.mono (fun e w' h => h.elim (fun h => Or.inl h) (fun h => Or.inr ⟨82, h.1, rfl, h.2⟩))) (fun w' ⟨v, M', h, _⟩ => h.ce) (fun x w' h => h.2.2.1)
  refine hat.mono ?_
  rintro e w5 (⟨rfl, w4, ⟨v, M', O4, D4, M4, z4, B4, hcn⟩, hw5⟩ | ⟨x, rfl, w4, ⟨rfl, hcn, E4, D4, M4⟩, hw5⟩)
  rotate_left
  · have b5 : Below w3.heap.size w4 w5 := by rw [hw5]; exact ((Below.refl w3.heap.size w4).setCell (p := ⟨w3.heap.size, 0, none⟩) (Nat.le_refl _) _).setCell (p := ⟨w3.heap.size, 0, none⟩) (Nat.le_refl _) _
    have k5 : Rows w4 w5 := fun g' c' hg' => by rw [hw5]; exact (hg'.other _ _ (E4.ne hg' (by decide)).symm).other _ _ (E4.ne hg' (by decide)).symm
    have DD : Hid (DiskAt FF w5 D S M s1.spent) := D4.keptB b5 k5 (by rw [A1.out.2.2.2.2]; omega) (by rw [A1.out.2.2.2.2]; omega) (by rw [A1.out.2.2.2.2]; omega)
    have MM := hide (M4.belowB b5 A1.out.2.2.2.1.size)
    have HC := hide hcn
    clear hat ho1 hnew hw5 b5 k5 E4 D4 M4 hcn
    go_wp2
    go_ret3
    exact Or.inr ⟨rfl, HC.out, DD.out, MM.out⟩
  have HC := hide hcn
  clear hcn
  have hn1 := (O4.ce.ne O4.cj (by decide)).symm
  have hn2 := (O4.ce.ne O4.jr (by decide)).symm
  have hn3 := (O4.ce.ne O4.cl (by decide)).symm
  have b5 : Below w3.heap.size w4 w5 := by rw [hw5]; exact (Below.refl w3.heap.size w4).setCell (p := ⟨w3.heap.size, 0, none⟩) (Nat.le_refl _) _
  have k5 : Rows w4 w5 := fun g' c' hg' => by rw [hw5]; exact hg'.other _ _ (O4.ce.ne hg' (by decide)).symm
  have x1 : w5.cell? ⟨w.heap.size + 1, 0, none⟩ = some (.pointer (some ⟨w.heap.size, 0, none⟩)) := by rw [hw5]; exact (O4.cj.other _ _ hn1).cell 0
  have x2 : w5.cell? ⟨w.heap.size + 2, 0, none⟩ = some v := by rw [hw5]; exact (O4.cl.other _ _ hn3).cell 0
  have JR := hide (show RowAt w5 w.heap.size 69 (jrow D H false) by rw [hw5]; exact O4.jr.other _ _ hn2)
  have DD : Hid (DiskAt FF w5 D S M' s1.synced) := by
    obtain ⟨sv, uv, hk⟩ := D4
    have hM' : M' ≠ w3.heap.size := fun e => hk.un.row_ne O4.ce e.symm
    refine ⟨sv, uv, hk.keepA b5.size (b5.block _ (by rw [A1.out.2.2.2.2]; omega)) (b5.block _ (by rw [A1.out.2.2.2.2]; omega)) ?_ k5.any⟩
    rw [hw5]; exact heap_setCell_other _ _ _ _ hM'
  have MM := hide (M4.belowB b5 A1.out.2.2.2.1.size)
  have BB : Hid (OwnBs w5 w.heap.size v (J.dec fs H.b)) := B4.kept (by rw [hw5]; simp) (fun g o ho hb => by
    rw [hw5]
    refine heap_setCell_other _ _ _ _ (fun e => ?_)
    have h9 := O4.ce
    unfold RowAt at h9
    rw [show g = w3.heap.size from e, h9] at ho
    injection ho with ho
    rcases hb with ⟨c, fr, hb⟩ | ⟨_, c, fr, hb⟩
    · rw [hb] at ho; injection ho with _ ho _; exact absurd ho (by decide)
    · rw [hb] at ho; injection ho with _ ho _; exact absurd ho (by decide))
  obtain ⟨av, nv, hv⟩ := B4.slice
  rw [hv] at x2 BB
  have Z4 := hide z4
  clear O4 D4 M4 B4 z4 b5 k5 hw5 hn1 hn2 hn3 hat ho1 hnew hv
  go_wp2
  go_region_held3 (fun w' => w'.cell? ⟨w.heap.size + 1, 0, none⟩ = some (.pointer (some ⟨w.heap.size, 0, none⟩)) ∧ w'.cell? ⟨w.heap.size + 2, 0, none⟩ = some (.slice av (J.dec fs H.b).length nv)) (first | exact ⟨x1, x2⟩ | fail) (first | fail)
  all_goals go_wp2
  all_goals go_ret3
  all_goals exact Or.inl ⟨_, M', rfl, JR.out.drew, (by obtain ⟨sv, uv, hk⟩ := DD.out; exact ⟨sv, uv, hk.drew⟩), MM.out.drew, Z4.out, BB.out.kept (Nat.le_refl _) (fun _ _ _ _ => rfl), HC.out⟩
/- newest, Open of a journal: what power the disk has is the disk's own -/
set_option maxRecDepth 5000 in
theorem newest_is2 (w : World) (ht : Tab w) (D S M : Nat) (s : K.St) (hd : DiskAt FF w D S M s) (hdd : s.dead = false) (h : J.H) (L : List (List UInt8)) (hi : J.Is s.calm h L) :
    Calls Tryd.prog 31 #[.agg #[.pointer (some ⟨D, 0, none⟩)]] w fun e w' => e = .returned (.agg (hrow h)) ∧ DiskAt FF w' D S M s ∧ Mv D S M w w' := by
  have key : ∀ (hA : J.H), HOk hA → hA.u ≤ J.arb s → s.rd 0 = J.hb hA s.sz → ((hA.c = 0 ∧ s.rd 1 = List.replicate s.sz 0 ∧ h = hA) ∨ ∃ hB, s.rd 1 = J.hb hB s.sz ∧ HOk hB ∧ hB.u ≤ J.arb s ∧ h = if hA.c < hB.c then hB else hA) → Calls Tryd.prog 31 #[.agg #[.pointer (some ⟨D, 0, none⟩)]] w fun e w' => e = .returned (.agg (hrow h)) ∧ DiskAt FF w' D S M s ∧ Mv D S M w w' := fun hA h1 h2 h3 h4 => by
    refine (newest_at w ht D S M s hd hdd hi.n8 hA h1 h2 h3 h h4).mono ?_
    rintro e w' ⟨e1, e2⟩
    exact ⟨e1, hd.below e2 (Nat.le_refl _), Mv.of_below e2⟩
  have h5 : s.rd (h.c % 2) = J.hb h s.sz := hi.own
  have h6 : (h.c = 0 ∧ s.rd 1 = List.replicate s.sz 0) ∨ ∃ g, HOk g ∧ g.u ≤ J.arb s ∧ g.c + 1 = h.c ∧ s.rd ((h.c + 1) % 2) = J.hb g s.sz := hi.oth
  rcases h6 with ⟨h1, h2⟩ | ⟨g, h1, h2, h3, h4⟩
  · rw [h1] at h5
    exact key h hi.ok hi.u h5 (Or.inl ⟨h1, h2, rfl⟩)
  · rcases Nat.mod_two_eq_zero_or_one h.c with e | e
    · rw [e] at h5
      rw [show (h.c + 1) % 2 = 1 by omega] at h4
      exact key h hi.ok hi.u h5 (Or.inr ⟨g, h4, h1, h2, by rw [if_neg (by omega)]⟩)
    · rw [e] at h5
      rw [show (h.c + 1) % 2 = 0 by omega] at h4
      exact key g h1 h2 h4 (Or.inr ⟨h, h5, hi.ok, hi.u, by rw [if_pos (by omega)]⟩)
set_option maxRecDepth 5000 in
theorem open_two (w : World) (ht : Tab w) (D S M : Nat) (s : K.St) (hd : DiskAt FF w D S M s) (hdd : s.dead = false) (h : J.H) (L : List (List UInt8)) (hi : J.Is s.calm h L) (hpos : 0 < D ∧ 0 < S ∧ 0 < M) :
    Calls Tryd.prog 14 #[.pointer (some ⟨D, 0, none⟩)] w fun e w' => (∃ v M', e = .returned (.tuple #[.pointer (some ⟨w.heap.size, 0, none⟩), v, .int .i64 0]) ∧ RowAt w' w.heap.size 69 (jrow D h false) ∧ DiskAt FF w' D S M' s.synced ∧ Mv D S M w w' ∧ w.heap.size ≤ M' ∧ OwnBs w' w.heap.size v L ∧ s.can = true) ∨ (e = .returned (.tuple #[.pointer none, .slice none 0 0, .int .i64 82]) ∧ s.can = false ∧ DiskAt FF w' D S M s.spent ∧ Mv D S M w w') := by
  obtain ⟨fs, f1, f2, f3, f4⟩ := hi.fr
  have := opn_two w ht D S M s s h hi.ok fs hd hi.n8 hpos (fun W hT hW => newest_is2 W hT D S M s hW hdd h L hi) hdd hi.n8 hi.u f1 f2 f3
  rw [f4] at this
  exact this
end Go.Proofs.YtidocfajhhpfdaaDoor

/- Commit and Reset of a journal, where the power may fail. -/
namespace Go.Proofs.YtidocfajhhpfdaaDoor
open Go.RowKit
/- as Laid, but that the disk may be armed -/
structure LaidC (w w' : World) (D S M bJ : Nat) (s : K.St) (h : J.H) (L : List (List UInt8)) (M' : Nat) (s' : K.St) : Prop where
  jr : RowAt w' bJ 69 (jrow D h false)
  dk : DiskAt FF w' D S M' s'
  is : J.Is s'.calm h L
  dead : s'.dead = false
  un : ∀ i, s'.un i = none
  mv : Mv4 D S M bJ w w'
  m : w.heap.size ≤ M'
  n : s'.n = s.n
  sz : s'.sz = s.sz
/- the power failed: behind any crash there is the old journal or the new one -/
structure Torn (w w' : World) (D S M bJ : Nat) (s : K.St) (h h' : J.H) (L L' : List (List UInt8)) (M' : Nat) (s' : K.St) : Prop where
  jr : ∃ x, RowAt w' bJ 69 x
  dk : DiskAt FF w' D S M' s'
  is : ∀ keep, J.Is (s'.crashed keep) h L ∨ J.Is (s'.crashed keep) h' L'
  dead : s'.dead = true
  mv : Mv4 D S M bJ w w'
  m : M' = M ∨ w.heap.size ≤ M'
  n : s'.n = s.n
  sz : s'.sz = s.sz
set_option maxRecDepth 5000 in
theorem spent_dead {s : K.St} (h : s.can = false) : s.spent.dead = true := by
  unfold K.St.spent
  rw [h]; rfl
set_option maxRecDepth 5000 in
theorem broke_same {s t : K.St} {P u : Nat} {b : List UInt8} {N : J.H} (h : J.Broke s P u b N t) : t.spent.n = s.n ∧ t.spent.sz = s.sz := by
  obtain ⟨_, _, ⟨j, _, rfl⟩ | ⟨k, _, _, rfl | rfl⟩⟩ := h
  · obtain ⟨e1, e2⟩ := laid_same s P u b j
    exact ⟨(spent_n _).trans e2, (spent_sz _).trans e1⟩
  · obtain ⟨e1, e2⟩ := laid_same s P u b k
    exact ⟨(spent_n _).trans ((synced_same _).2.trans e2), (spent_sz _).trans ((synced_same _).1.trans e1)⟩
  · obtain ⟨e1, e2⟩ := laid_same s P u b k
    exact ⟨(spent_n _).trans ((spent_n _).trans ((synced_same _).2.trans e2)), (spent_sz _).trans ((spent_sz _).trans ((synced_same _).1.trans e1))⟩
set_option maxRecDepth 5000 in
theorem lay_is2 (w : World) (ht : Tab w) (D S M bJ : Nat) (s : K.St) (h : J.H) (L : List (List UInt8)) (hi : J.Is s.calm h L) (hdd : s.dead = false) (hun : ∀ i, s.un i = none) (hd : DiskAt FF w D S M s) (hj : RowAt w bJ 69 (jrow D h false)) (hT0 : 0 < D ∧ 0 < S ∧ 0 < M)
    (F : J.H) (hFc : F.c = h.c) (hFa : F.a < 2) (hFh : (F.a = h.a ∧ F.u = h.u) ∨ F.a ≠ h.a) (L0 : List (List UInt8)) (hF : ∃ fs, (J.cat s.calm (2 + F.a * J.ars s) (J.ars s)).take F.u = J.enc fs ∧ (J.enc fs).length = F.u ∧ J.Ri 0 fs F.b ∧ J.dec fs F.b = L0)
    (ao : Option Addr) (c : Nat) (l : List (List UInt8)) (hls : SlBs w ao l) (hc : h.c + 1 < 4611686018427387904) (hb : F.b + l.length ≤ 1048576) (hroom : F.u + J.fsz l ≤ J.arb s) :
    Calls Tryd.prog 37 #[.pointer (some ⟨bJ, 0, none⟩), .slice ao l.length c, .agg (hrow F)] w fun e w' => ∃ x : Int, e = .returned (.int .i64 x) ∧ ((x = 0 ∧ ∃ M' s', LaidC w w' D S M bJ s (nextH F l) (L0 ++ l) M' s') ∨ (x = 82 ∧ ∃ M' s', Torn w w' D S M bJ s h (nextH F l) L (L0 ++ l) M' s')) := by
  obtain ⟨hb1, hb2, hb3, hb4⟩ := hd.bds
  have hlen : ∀ i, i < s.n → (s.rd i).length = s.sz := fun i hi => hd.rdlen i hi
  refine (lay_two w ht D S M bJ s h F hFa (by omega) ao c l hb hls hj hd hdd hi.n8 hroom hT0).mono ?_
  rintro e w' (⟨rfl, k, M', ⟨hk, _⟩, h1, h2, ⟨_, _, _, h5⟩, h3, h4⟩ | ⟨rfl, t, M', hBr, h1, h2, h3, h4⟩)
  · refine ⟨0, rfl, Or.inl ⟨rfl, M', _, h1, h2, ?_, h5, fun _ => rfl, h3, h4, ?_, ?_⟩⟩
    · rw [calm_synced, calm_put, calm_synced, calm_laid]
      exact hi.lay hb1 hb2 hb4 hlen F hFc hFa L0 hF l (by omega) hb hroom k hk
    · exact (spent_n _).trans ((spent_n _).trans ((synced_same _).2.trans (laid_same _ _ _ _ _).2))
    · exact (spent_sz _).trans ((spent_sz _).trans ((synced_same _).1.trans (laid_same _ _ _ _ _).1))
  · obtain ⟨e1, e2⟩ := broke_same hBr
    exact ⟨82, rfl, Or.inr ⟨rfl, M', _, ⟨_, h1⟩, h2, fun keep => hi.crash hun hb1 hb2 hb4 hlen F hFc hFa hFh L0 hF l (by omega) hb hroom t hBr keep, spent_dead hBr.2.1, h3, h4, e1, e2⟩⟩
set_option maxRecDepth 5000 in
theorem commit_is2 (w : World) (ht : Tab w) (D S M bJ : Nat) (s : K.St) (h : J.H) (L : List (List UInt8)) (hi : J.Is s.calm h L) (hdd : s.dead = false) (hun : ∀ i, s.un i = none) (hd : DiskAt FF w D S M s) (hj : RowAt w bJ 69 (jrow D h false)) (hT0 : 0 < D ∧ 0 < S ∧ 0 < M)
    (ao : Option Addr) (c : Nat) (l : List (List UInt8)) (hls : SlBs w ao l) (hc : h.c + 1 < 4611686018427387904) (hb : h.b + l.length ≤ 1048576) (hz : J.fsz l ≤ 1000000000) :
    Calls Tryd.prog 21 #[.pointer (some ⟨bJ, 0, none⟩), .slice ao l.length c] w fun e w' => ∃ x : Int, e = .returned (.int .i64 x) ∧ ((x = 0 ∧ ∃ M' s', LaidC w w' D S M bJ s (nextH h l) (L ++ l) M' s') ∨ (x = 82 ∧ ∃ M' s', Torn w w' D S M bJ s h (nextH h l) L (L ++ l) M' s') ∨ (J.arb s < h.u + J.fsz l ∧ x = 90 ∧ Below w.heap.size w w')) := by
  refine commit_any w D bJ h false hj _ _ ?_
  by_cases hr : h.u + J.fsz l ≤ J.arb s
  · refine (lay_is2 w ht D S M bJ s h L hi hdd hun hd hj hT0 h rfl hi.ok.a (Or.inl ⟨rfl, rfl⟩) L hi.fr ao c l hls hc hb hr).mono ?_
    rintro e w' ⟨x, rfl, h1 | h1⟩
    · exact ⟨⟨x, rfl⟩, x, rfl, Or.inl h1⟩
    · exact ⟨⟨x, rfl⟩, x, rfl, Or.inr (Or.inl h1)⟩
  · refine (lay_full w D S M bJ s h h ao c l hb hls hz hj hd hi.n8 hi.u (by omega)).mono ?_
    rintro e w' ⟨rfl, h1⟩
    exact ⟨⟨90, rfl⟩, 90, rfl, Or.inr (Or.inr ⟨by omega, rfl, h1⟩)⟩
set_option maxRecDepth 5000 in
theorem Mv4.from {D S M B : Nat} {w W w' : World} (m1 : Mv4 D S M B W w') (hW : Below w.heap.size w W) : Mv4 D S M B w w' := ⟨m1.os.trans hW.os, m1.tape.trans hW.tape, m1.output.trans hW.output, Nat.le_trans hW.size m1.size, fun g hg q1 q2 q3 q4 => by rw [m1.block g (Nat.lt_of_lt_of_le hg hW.size) q1 q2 q3 q4, hW.block g hg]⟩
set_option maxRecDepth 5000 in
theorem reset_is2 (w : World) (ht : Tab w) (D S M bJ : Nat) (s : K.St) (h : J.H) (L : List (List UInt8)) (hi : J.Is s.calm h L) (hdd : s.dead = false) (hun : ∀ i, s.un i = none) (hd : DiskAt FF w D S M s) (hj : RowAt w bJ 69 (jrow D h false)) (hT0 : 0 < D ∧ 0 < S ∧ 0 < M)
    (ao : Option Addr) (c : Nat) (l : List (List UInt8)) (hls : SlBs w ao l) (hc : h.c + 1 < 4611686018427387904) (hb : l.length ≤ 1048576) (hz : J.fsz l ≤ 1000000000) :
    Calls Tryd.prog 19 #[.pointer (some ⟨bJ, 0, none⟩), .slice ao l.length c] w fun e w' => ∃ x, e = .returned (.int .i64 x) ∧ ((x = 0 ∧ ∃ M' s', LaidC w w' D S M bJ s (nextH ⟨h.c, 1 - h.a, 0, 0⟩ l) l M' s') ∨ (x = 82 ∧ ∃ M' s', Torn w w' D S M bJ s h (nextH ⟨h.c, 1 - h.a, 0, 0⟩ l) L l M' s') ∨ (J.arb s < J.fsz l ∧ x = 90 ∧ Below w.heap.size w w')) := by
  refine reset_any w D bJ h false hi.ok.a hj _ _ (fun W hW => ?_)
  have hlt := hj.lt
  have hjW := hj.below hW hlt
  have hdW := hd.below hW (Nat.le_refl _)
  have hlW := hls.below hW (Nat.le_refl _)
  have htW := ht.below hW ht.1
  have ha2 : h.a < 2 := hi.ok.a
  by_cases hr : J.fsz l ≤ J.arb s
  · refine (lay_is2 W htW D S M bJ s h L hi hdd hun hdW hjW hT0 ⟨h.c, 1 - h.a, 0, 0⟩ rfl (by show 1 - h.a < 2; omega) (Or.inr (by show 1 - h.a ≠ h.a; omega)) [] ⟨[], by show List.take 0 _ = _; rw [List.take_zero]; rfl, rfl, trivial, rfl⟩ ao c l hlW hc (by show 0 + l.length ≤ _; omega) (by show 0 + _ ≤ _; omega)).mono ?_
    rintro e w' ⟨x, rfl, ⟨rfl, M', s', h1⟩ | ⟨rfl, M', s', h1⟩⟩
    · exact ⟨0, rfl, Or.inl ⟨rfl, M', s', h1.jr, h1.dk, h1.is, h1.dead, h1.un, h1.mv.from hW, Nat.le_trans hW.size h1.m, h1.n, h1.sz⟩⟩
    · exact ⟨82, rfl, Or.inr (Or.inl ⟨rfl, M', s', h1.jr, h1.dk, h1.is, h1.dead, h1.mv.from hW, h1.m.elim Or.inl (fun h => Or.inr (Nat.le_trans hW.size h)), h1.n, h1.sz⟩)⟩
  · refine (lay_full W D S M bJ s h ⟨h.c, 1 - h.a, 0, 0⟩ ao c l (by show 0 + l.length ≤ _; omega) hlW hz hjW hdW hi.n8 (Nat.zero_le _) (by show _ < 0 + _; omega)).mono ?_
    rintro e w' ⟨rfl, h1⟩
    exact ⟨90, rfl, Or.inr (Or.inr ⟨by omega, rfl, hW.trans (h1.mono hW.size)⟩)⟩
end Go.Proofs.YtidocfajhhpfdaaDoor
