/- What a journal's disk holds, plain: written behind, written anew. -/
import Derived.Test.YtidocfajhhpfdaaDoorJrm
namespace Go.Proofs.YtidocfajhhpfdaaDoor
open Go.RowKit
set_option maxRecDepth 5000 in
theorem rd_synced {s : K.St} (h : Pw s) (i : Nat) : s.synced.rd i = s.rd i := by
  unfold K.St.synced
  rw [h.spent]
  unfold K.St.rd K.St.old
  cases h1 : s.un i <;> simp [h1]
set_option maxRecDepth 5000 in
theorem rd_put {s : K.St} (h : Pw s) (i j : Nat) (l : List UInt8) : (s.put i l).rd j = if j = i then l else s.rd j := by
  unfold K.St.put
  rw [h.spent]
  unfold K.St.rd K.St.old K.upd
  by_cases e : j = i <;> simp [e]
set_option maxRecDepth 5000 in
theorem rd_puts (f : Nat → List UInt8) {s : K.St} (h : Pw s) (p i : Nat) : ∀ k, (J.puts s p f (List.range k)).rd i = if p ≤ i ∧ i < p + k then f (i - p) else s.rd i
  | 0 => by rw [if_neg (by omega)]; rfl
  | k + 1 => by
    rw [List.range_succ, J.puts_snoc, rd_put (puts_keep f _ h p).1, List.length_range, rd_puts f h p i k]
    by_cases e : i = p + k
    · rw [if_pos e, if_pos (by omega)]; congr 1; omega
    · rw [if_neg e]
      by_cases e2 : p ≤ i ∧ i < p + k
      · rw [if_pos e2, if_pos (by omega)]
      · rw [if_neg e2, if_neg (by omega)]
set_option maxRecDepth 5000 in
theorem cat_get (s : K.St) (P : Nat) (hz : 0 < s.sz) (j : Nat) : ∀ m, (∀ i, i < m → (s.rd (P + i)).length = s.sz) → j < m * s.sz → (J.cat s P m)[j]? = (s.rd (P + j / s.sz))[j % s.sz]?
  | 0, _, hj => by omega
  | m + 1, hl, hj => by
    have hc := J.cat_len s P m (fun i hi => hl i (by omega))
    rw [J.cat_succ]
    by_cases h : j < m * s.sz
    · rw [List.getElem?_append_left (by omega)]
      exact cat_get s P hz j m (fun i hi => hl i (by omega)) h
    · rw [List.getElem?_append_right (by omega), hc]
      rw [Nat.succ_mul] at hj
      have e1 : j / s.sz = m := by
        rw [Nat.div_eq_iff hz]; omega
      have e2 : j % s.sz = j - m * s.sz := by
        have := Nat.div_add_mod' j s.sz
        rw [e1] at this; omega
      rw [e1, e2]
set_option maxRecDepth 5000 in
theorem pad_get (Z : Nat) (B : List UInt8) (x t : Nat) (ht : t < Z) (hx : x * Z + t < B.length) : (J.pad Z ((B.drop (x * Z)).take Z))[t]? = B[x * Z + t]? := by
  unfold J.pad
  rw [List.getElem?_append_left (by rw [List.length_take, List.length_drop]; omega), List.getElem?_take_of_lt ht, List.getElem?_drop]
set_option maxRecDepth 5000 in
theorem pad_len2 (Z : Nat) (B : List UInt8) (x : Nat) : (J.pad Z ((B.drop (x * Z)).take Z)).length = Z := J.pad_len Z _ (by rw [List.length_take]; omega)
set_option maxRecDepth 5000 in
theorem laid_rd {s : K.St} (h : Pw s) (P u : Nat) (b : List UInt8) (k i : Nat) : (J.laid s P u b k).rd i = if P + u / s.sz ≤ i ∧ i < P + u / s.sz + k then J.pad s.sz (((J.bef s P u b).drop ((i - (P + u / s.sz)) * s.sz)).take s.sz) else s.rd i := rd_puts _ h _ i k
/- what an area holds behind a writing -/
set_option maxRecDepth 5000 in
theorem cat_laid {s : K.St} (h : Pw s) (hz : 0 < s.sz) (P m u : Nat) (b : List UInt8) (k : Nat) (hl : ∀ i, i < m → (s.rd (P + i)).length = s.sz) (hroom : u + b.length ≤ m * s.sz) (hk : (J.bef s P u b).length ≤ k * s.sz) :
    (J.cat (J.laid s P u b k) P m).take (u + b.length) = (J.cat s P m).take u ++ b := by
  obtain ⟨_, hsz, _⟩ := laid_keep P u b k h
  have hl2 : ∀ i, i < m → ((J.laid s P u b k).rd (P + i)).length = (J.laid s P u b k).sz := fun i hi => by
    rw [hsz, laid_rd h]
    split
    · exact pad_len2 _ _ _
    · exact hl i hi
  have hc := J.cat_len s P m hl
  have hc2 := J.cat_len _ P m hl2
  rw [hsz] at hc2
  have hdm := Nat.div_add_mod' u s.sz
  have hml := Nat.mod_lt u hz
  have hbl : u = 0 ∨ u / s.sz < m ∨ u % s.sz = 0 := by
    by_cases h1 : u / s.sz < m
    · exact Or.inr (Or.inl h1)
    · have : m * s.sz ≤ u / s.sz * s.sz := Nat.mul_le_mul_right _ (by omega)
      exact Or.inr (Or.inr (by omega))
  have hbef : (J.bef s P u b).length = u % s.sz + b.length := by
    unfold J.bef
    rw [List.length_append, List.length_take]
    rcases hbl with h0 | h0 | h0
    · subst h0; simp
    · rw [hl _ h0]; omega
    · rw [h0]; omega
  apply List.ext_getElem?
  intro j
  by_cases hj : j < u + b.length
  · rw [List.getElem?_take_of_lt hj, cat_get _ P (by rw [hsz]; exact hz) j m hl2 (by rw [hsz]; omega), hsz, laid_rd h]
    have hjm := Nat.div_add_mod' j s.sz
    have hjl := Nat.mod_lt j hz
    by_cases hju : j / s.sz < u / s.sz
    · rw [if_neg (by omega)]
      have : j < u := by
        have : (j / s.sz + 1) * s.sz ≤ u / s.sz * s.sz := Nat.mul_le_mul_right _ hju
        rw [Nat.succ_mul] at this; omega
      rw [List.getElem?_append_left (by rw [List.length_take]; omega), List.getElem?_take_of_lt this, cat_get s P hz j m hl (by omega)]
    · obtain ⟨x, hx⟩ : ∃ x, j / s.sz = u / s.sz + x := ⟨j / s.sz - u / s.sz, by omega⟩
      have hxs : j = u / s.sz * s.sz + x * s.sz + j % s.sz := by rw [← Nat.add_mul, ← hx]; omega
      have hxk : x < k := by
        have : x * s.sz < k * s.sz := by omega
        exact Nat.lt_of_mul_lt_mul_right this
      rw [if_pos (by omega), show P + j / s.sz - (P + u / s.sz) = x by omega, pad_get _ _ _ _ hjl (by omega)]
      unfold J.bef
      by_cases hlt : j < u
      · have hx0 : x = 0 := by
          cases x with
          | zero => rfl
          | succ y => rw [Nat.succ_mul] at hxs; omega
        subst hx0
        rw [Nat.zero_mul, Nat.zero_add]
        have hum : u / s.sz < m := by
          rcases hbl with h0 | h0 | h0
          · omega
          · exact h0
          · omega
        rw [List.getElem?_append_left (by rw [List.length_take, hl _ hum]; omega), List.getElem?_take_of_lt (by omega), List.getElem?_append_left (by rw [List.length_take]; omega), List.getElem?_take_of_lt hlt, cat_get s P hz j m hl (by omega), hx, Nat.add_zero]
      · have htk : ((s.rd (P + u / s.sz)).take (u % s.sz)).length = u % s.sz := by
          unfold J.bef at hbef
          rw [List.length_append] at hbef; omega
        rw [List.getElem?_append_right (by omega), htk, List.getElem?_append_right (by rw [List.length_take]; omega), List.length_take, hc]
        congr 1; omega
  · rw [List.getElem?_eq_none (by rw [List.length_take]; omega), List.getElem?_eq_none (by rw [List.length_append, List.length_take]; omega)]
end Go.Proofs.YtidocfajhhpfdaaDoor

/- A journal on a disk: what it is, plain; Open, Commit, Reset keep it. -/
namespace Go.Proofs.YtidocfajhhpfdaaDoor
open Go.RowKit
/- the disk s is a journal whose newest head is h and whose records are L -/
structure J.Is (s : K.St) (h : J.H) (L : List (List UInt8)) : Prop where
  pw : Pw s
  n8 : 8 ≤ s.n
  ok : HOk h
  u : h.u ≤ J.arb s
  own : s.rd (h.c % 2) = J.hb h s.sz
  oth : (h.c = 0 ∧ s.rd 1 = List.replicate s.sz 0) ∨ ∃ g, HOk g ∧ g.u ≤ J.arb s ∧ g.c + 1 = h.c ∧ s.rd ((h.c + 1) % 2) = J.hb g s.sz
  fr : ∃ fs, (J.cat s (2 + h.a * J.ars s) (J.ars s)).take h.u = J.enc fs ∧ (J.enc fs).length = h.u ∧ J.Ri 0 fs h.b ∧ J.dec fs h.b = L
set_option maxRecDepth 5000 in
theorem J.cat_congr {s s' : K.St} (P k : Nat) (h : ∀ i, i < k → s'.rd (P + i) = s.rd (P + i)) : J.cat s' P k = J.cat s P k := by
  induction k with
  | zero => rfl
  | succ k ih => rw [J.cat_succ, J.cat_succ, ih (fun i hi => h i (by omega)), h k (by omega)]
/- the same bytes: the same journal -/
set_option maxRecDepth 5000 in
theorem J.Is.same {s s' : K.St} {h : J.H} {L : List (List UInt8)} (hi : J.Is s h L) (hp : Pw s') (hn : s'.n = s.n) (hz : s'.sz = s.sz) (hr : ∀ i, s'.rd i = s.rd i) : J.Is s' h L := by
  have ha : J.ars s' = J.ars s := by unfold J.ars; rw [hn]
  have hb : J.arb s' = J.arb s := by unfold J.arb; rw [ha, hz]
  refine ⟨hp, by rw [hn]; exact hi.n8, hi.ok, by rw [hb]; exact hi.u, by rw [hr, hz]; exact hi.own, ?_, ?_⟩
  · rcases hi.oth with ⟨h1, h2⟩ | ⟨g, h1, h2, h3, h4⟩
    · exact Or.inl ⟨h1, by rw [hr, hz]; exact h2⟩
    · exact Or.inr ⟨g, h1, by rw [hb]; exact h2, h3, by rw [hr, hz]; exact h4⟩
  · obtain ⟨fs, h1, h2⟩ := hi.fr
    exact ⟨fs, by rw [ha, J.cat_congr _ _ (fun i _ => hr _)]; exact h1, h2⟩
set_option maxRecDepth 5000 in
theorem J.Is.synced {s : K.St} {h : J.H} {L : List (List UInt8)} (hi : J.Is s h L) : J.Is s.synced h L := hi.same (synced_pw hi.pw) (synced_n hi.pw) (synced_sz hi.pw) (rd_synced hi.pw)
set_option maxRecDepth 5000 in
theorem J.Is.len {s : K.St} {h : J.H} {L : List (List UInt8)} (hi : J.Is s h L) : L.length = h.b := by
  obtain ⟨fs, _, _, _, h4⟩ := hi.fr
  rw [← h4, J.dec_len]
/- what lay leaves -/
set_option maxRecDepth 5000 in
theorem J.Is.lay {s : K.St} {h : J.H} {L : List (List UInt8)} (hi : J.Is s h L) (hz1 : 64 ≤ s.sz) (hz2 : s.sz ≤ 4096) (hn2 : s.n ≤ 4096) (hlen : ∀ i, i < s.n → (s.rd i).length = s.sz) (F : J.H) (hFc : F.c = h.c) (hFa : F.a < 2) (L0 : List (List UInt8))
    (hF : ∃ fs, (J.cat s (2 + F.a * J.ars s) (J.ars s)).take F.u = J.enc fs ∧ (J.enc fs).length = F.u ∧ J.Ri 0 fs F.b ∧ J.dec fs F.b = L0) (l : List (List UInt8)) (hc : F.c + 1 < 4611686018427387904) (hb : F.b + l.length ≤ 1048576) (hroom : F.u + J.fsz l ≤ J.arb s)
    (k : Nat) (hk : (J.bef s (2 + F.a * J.ars s) F.u (J.enc (J.frl F.b l))).length ≤ k * s.sz) :
    J.Is (((J.laid s (2 + F.a * J.ars s) F.u (J.enc (J.frl F.b l)) k).synced.put ((F.c + 1) % 2) (J.hb (nextH F l) s.sz)).synced) (nextH F l) (L0 ++ l) := by
  have hA : J.ars s ≤ 2047 := by unfold J.ars; omega
  have hAn : 2 + 2 * J.ars s ≤ s.n := by unfold J.ars; have := hi.n8; omega
  have hP : 2 + F.a * J.ars s + J.ars s ≤ s.n := by
    have : F.a * J.ars s ≤ 1 * J.ars s := Nat.mul_le_mul_right _ (by omega)
    omega
  have harb : J.arb s ≤ 16777216 := by
    have : J.arb s ≤ 4096 * 4096 := Nat.mul_le_mul (by omega) hz2
    omega
  obtain ⟨P, hPe⟩ : ∃ P, P = 2 + F.a * J.ars s := ⟨_, rfl⟩
  rw [← hPe] at hk hP hF ⊢
  obtain ⟨b, hbe⟩ : ∃ b, b = J.enc (J.frl F.b l) := ⟨_, rfl⟩
  have hbl : b.length = J.fsz l := by rw [hbe, J.frl_len]
  rw [← hbe] at hk ⊢
  obtain ⟨k1, k2, k3⟩ := laid_keep P F.u b k hi.pw
  have hcl := cat_laid hi.pw (by omega) P (J.ars s) F.u b k (fun i hi => hlen _ (by omega)) (by rw [hbl]; exact hroom) hk
  have hlr : ∀ i, i < P → (J.laid s P F.u b k).rd i = s.rd i := fun i hi2 => by rw [laid_rd hi.pw, if_neg (fun e => absurd (Nat.le_trans (Nat.le_add_right P _) e.1) (by omega))]
  generalize hq : J.laid s P F.u b k = q at k1 k2 k3 hcl hlr ⊢
  have p1 := synced_pw k1
  have p2 := put_pw p1 ((F.c + 1) % 2) (J.hb (nextH F l) s.sz)
  have hrd : ∀ i, ((q.synced.put ((F.c + 1) % 2) (J.hb (nextH F l) s.sz)).synced).rd i = if i = (F.c + 1) % 2 then J.hb (nextH F l) s.sz else q.rd i := fun i => by
    rw [rd_synced p2, rd_put p1, rd_synced k1]
  have en : ((q.synced.put ((F.c + 1) % 2) (J.hb (nextH F l) s.sz)).synced).n = s.n := by rw [synced_n p2, put_n p1, synced_n k1, k3]
  have ez : ((q.synced.put ((F.c + 1) % 2) (J.hb (nextH F l) s.sz)).synced).sz = s.sz := by rw [synced_sz p2, put_sz p1, synced_sz k1, k2]
  have p3 := synced_pw p2
  generalize (q.synced.put ((F.c + 1) % 2) (J.hb (nextH F l) s.sz)).synced = r at hrd en ez p3 ⊢
  have ha : J.ars r = J.ars s := by unfold J.ars; rw [en]
  have hb' : J.arb r = J.arb s := by unfold J.arb; rw [ha, ez]
  refine ⟨p3, by rw [en]; exact hi.n8, ⟨hc, hFa, ?_, hb⟩, by rw [hb']; exact hroom, ?_, Or.inr ⟨h, hi.ok, by rw [hb']; exact hi.u, ?_, ?_⟩, ?_⟩
  · show F.u + J.fsz l < _; omega
  · rw [hrd, ez]; exact if_pos rfl
  · show h.c + 1 = F.c + 1; omega
  · rw [hrd, ez]
    show (if (F.c + 1 + 1) % 2 = (F.c + 1) % 2 then _ else _) = _
    rw [if_neg (by omega)]
    show q.rd ((F.c + 1 + 1) % 2) = _
    rw [hlr _ (by omega), show (F.c + 1 + 1) % 2 = h.c % 2 by omega]
    exact hi.own
  · obtain ⟨fs, f1, f2, f3, f4⟩ := hF
    refine ⟨fs ++ J.frl F.b l, ?_, ?_, J.ri_more fs F.b l f3, ?_⟩
    · show (J.cat r (2 + F.a * J.ars r) (J.ars r)).take (F.u + J.fsz l) = _
      rw [ha, ← hPe, J.cat_congr (s := q) P _ (fun i _ => by rw [hrd, if_neg (by omega)]), ← hbl, hcl, f1, J.enc_app, hbe]
    · rw [J.enc_app, List.length_append, f2, J.frl_len]; rfl
    · show J.dec _ (F.b + l.length) = _
      rw [J.dec_more fs F.b l f3, f4]
set_option maxRecDepth 5000 in
theorem J.Is.begun {s : K.St} (hp : Pw s) (hn : 8 ≤ s.n) (hz : ∀ i, i < s.n → s.rd i = List.replicate s.sz 0) : J.Is (s.put 0 (J.hb h0 s.sz)) h0 [] := by
  have hn' := put_n hp 0 (J.hb h0 s.sz)
  have hz' := put_sz hp 0 (J.hb h0 s.sz)
  refine ⟨put_pw hp _ _, by rw [hn']; exact hn, h0_ok, Nat.zero_le _, ?_, Or.inl ⟨rfl, ?_⟩, ⟨[], ?_, rfl, trivial, rfl⟩⟩
  · rw [rd_put hp, hz']; exact if_pos rfl
  · rw [rd_put hp, if_neg (by omega), hz']; exact hz 1 (by omega)
  · show List.take 0 _ = _; rw [List.take_zero]; rfl
/- newest and Open of a journal -/
set_option maxRecDepth 5000 in
theorem newest_is (w : World) (ht : Tab w) (D S M : Nat) (s : K.St) (hd : DiskAt FF w D S M s) (h : J.H) (L : List (List UInt8)) (hi : J.Is s h L) :
    Calls Tryd.prog 31 #[.agg #[.pointer (some ⟨D, 0, none⟩)]] w fun e w' => e = .returned (.agg (hrow h)) ∧ DiskAt FF w' D S M s ∧ Mv D S M w w' := by
  have key : ∀ (hA : J.H), HOk hA → hA.u ≤ J.arb s → s.rd 0 = J.hb hA s.sz → ((hA.c = 0 ∧ s.rd 1 = List.replicate s.sz 0 ∧ h = hA) ∨ ∃ hB, s.rd 1 = J.hb hB s.sz ∧ HOk hB ∧ hB.u ≤ J.arb s ∧ h = if hA.c < hB.c then hB else hA) → Calls Tryd.prog 31 #[.agg #[.pointer (some ⟨D, 0, none⟩)]] w fun e w' => e = .returned (.agg (hrow h)) ∧ DiskAt FF w' D S M s ∧ Mv D S M w w' := fun hA h1 h2 h3 h4 => by
    refine (newest_at w ht D S M s hd hi.pw.1 hi.n8 hA h1 h2 h3 h h4).mono ?_
    rintro e w' ⟨e1, e2⟩
    exact ⟨e1, hd.below e2 (Nat.le_refl _), Mv.of_below e2⟩
  have h5 := hi.own
  rcases hi.oth with ⟨h1, h2⟩ | ⟨g, h1, h2, h3, h4⟩
  · rw [h1] at h5
    exact key h hi.ok hi.u h5 (Or.inl ⟨h1, h2, rfl⟩)
  · rcases Nat.mod_two_eq_zero_or_one h.c with e | e
    · rw [e] at h5
      rw [show (h.c + 1) % 2 = 1 by omega] at h4
      exact key h hi.ok hi.u h5 (Or.inr ⟨g, h4, h1, h2, by rw [if_neg (by omega)]⟩)
    · rw [e] at h5
      rw [show (h.c + 1) % 2 = 0 by omega] at h4
      exact key g h1 h2 h4 (Or.inr ⟨h, h5, hi.ok, hi.u, by rw [if_pos (by omega)]⟩)
set_option maxRecDepth 5000 in
theorem open_is (w : World) (ht : Tab w) (D S M : Nat) (s : K.St) (hd : DiskAt FF w D S M s) (h : J.H) (L : List (List UInt8)) (hi : J.Is s h L) (hpos : 0 < D ∧ 0 < S ∧ 0 < M) :
    Calls Tryd.prog 14 #[.pointer (some ⟨D, 0, none⟩)] w fun e w' => ∃ v M', e = .returned (.tuple #[.pointer (some ⟨w.heap.size, 0, none⟩), v, .int .i64 0]) ∧ RowAt w' w.heap.size 69 (jrow D h false) ∧ DiskAt FF w' D S M' s.synced ∧ Mv D S M w w' ∧ w.heap.size ≤ M' ∧ OwnBs w' w.heap.size v L := by
  obtain ⟨fs, f1, f2, f3, f4⟩ := hi.fr
  have := opn_ok w ht D S M s s h hi.ok fs hd hi.n8 hpos (fun W hT hW => newest_is W hT D S M s hW h L hi) hi.pw hi.n8 hi.u f1 f2 f3
  rw [f4] at this
  exact this
set_option maxRecDepth 5000 in
theorem open_blank (w : World) (ht : Tab w) (D S M : Nat) (s : K.St) (hd : DiskAt FF w D S M s) (hp : Pw s) (hn : 8 ≤ s.n) (hz : ∀ i, i < s.n → s.rd i = List.replicate s.sz 0) (hpos : 0 < D ∧ 0 < S ∧ 0 < M) :
    Calls Tryd.prog 14 #[.pointer (some ⟨D, 0, none⟩)] w fun e w' => ∃ v M', e = .returned (.tuple #[.pointer (some ⟨w.heap.size, 0, none⟩), v, .int .i64 0]) ∧ RowAt w' w.heap.size 69 (jrow D h0 false) ∧ DiskAt FF w' D S M' (s.put 0 (J.hb h0 s.sz)).synced ∧ Mv D S M w w' ∧ w.heap.size ≤ M' ∧ OwnBs w' w.heap.size v [] := by
  have hi := J.Is.begun hp hn hz
  obtain ⟨fs, f1, f2, f3, f4⟩ := hi.fr
  have := opn_ok w ht D S M s _ h0 h0_ok fs hd hn hpos (fun W hT hW => newest_new W hT D S M s hW hp hn hz) hi.pw hi.n8 hi.u f1 f2 f3
  rw [f4] at this
  exact this
/- Commit and Reset: there is room -/
structure Laid (w w' : World) (D S M bJ : Nat) (s : K.St) (h : J.H) (L : List (List UInt8)) (M' : Nat) (s' : K.St) : Prop where
  jr : RowAt w' bJ 69 (jrow D h false)
  dk : DiskAt FF w' D S M' s'
  is : J.Is s' h L
  mv : Mv4 D S M bJ w w'
  m : w.heap.size ≤ M'
  n : s'.n = s.n
  sz : s'.sz = s.sz
set_option maxRecDepth 5000 in
theorem lay_is (w : World) (ht : Tab w) (D S M bJ : Nat) (s : K.St) (h : J.H) (L : List (List UInt8)) (hi : J.Is s h L) (hd : DiskAt FF w D S M s) (hj : RowAt w bJ 69 (jrow D h false)) (hT0 : 0 < D ∧ 0 < S ∧ 0 < M)
    (F : J.H) (hFc : F.c = h.c) (hFa : F.a < 2) (L0 : List (List UInt8)) (hF : ∃ fs, (J.cat s (2 + F.a * J.ars s) (J.ars s)).take F.u = J.enc fs ∧ (J.enc fs).length = F.u ∧ J.Ri 0 fs F.b ∧ J.dec fs F.b = L0)
    (ao : Option Addr) (c : Nat) (l : List (List UInt8)) (hls : SlBs w ao l) (hc : h.c + 1 < 4611686018427387904) (hb : F.b + l.length ≤ 1048576) (hroom : F.u + J.fsz l ≤ J.arb s) :
    Calls Tryd.prog 37 #[.pointer (some ⟨bJ, 0, none⟩), .slice ao l.length c, .agg (hrow F)] w fun e w' => e = .returned (.int .i64 0) ∧ ∃ M' s', Laid w w' D S M bJ s (nextH F l) (L0 ++ l) M' s' := by
  obtain ⟨hb1, hb2, hb3, hb4⟩ := hd.bds
  refine (lay_any w ht D S M bJ s h F hFa (by omega) ao c l hb hls hj hd hi.pw hi.n8 hroom hT0).mono ?_
  rintro e w' ⟨rfl, k, M', ⟨hk, _⟩, h1, h2, h3, h4⟩
  have hlen : ∀ i, i < s.n → (s.rd i).length = s.sz := fun i hi => hd.rdlen i hi
  obtain ⟨k1, k2, k3⟩ := laid_keep (2 + F.a * J.ars s) F.u (J.enc (J.frl F.b l)) k hi.pw
  have p1 := synced_pw k1
  have p2 := put_pw p1 ((F.c + 1) % 2) (J.hb (nextH F l) s.sz)
  exact ⟨rfl, M', _, h1, h2, hi.lay hb1 hb2 hb4 hlen F hFc hFa L0 hF l (by omega) hb hroom k hk, h3, h4, by rw [synced_n p2, put_n p1, synced_n k1, k3], by rw [synced_sz p2, put_sz p1, synced_sz k1, k2]⟩
set_option maxRecDepth 5000 in
theorem commit_is (w : World) (ht : Tab w) (D S M bJ : Nat) (s : K.St) (h : J.H) (L : List (List UInt8)) (hi : J.Is s h L) (hd : DiskAt FF w D S M s) (hj : RowAt w bJ 69 (jrow D h false)) (hT0 : 0 < D ∧ 0 < S ∧ 0 < M)
    (ao : Option Addr) (c : Nat) (l : List (List UInt8)) (hls : SlBs w ao l) (hc : h.c + 1 < 4611686018427387904) (hb : h.b + l.length ≤ 1048576) (hz : J.fsz l ≤ 1000000000) :
    Calls Tryd.prog 21 #[.pointer (some ⟨bJ, 0, none⟩), .slice ao l.length c] w fun e w' => (h.u + J.fsz l ≤ J.arb s ∧ e = .returned (.int .i64 0) ∧ ∃ M' s', Laid w w' D S M bJ s (nextH h l) (L ++ l) M' s') ∨ (J.arb s < h.u + J.fsz l ∧ e = .returned (.int .i64 90) ∧ Below w.heap.size w w') := by
  refine commit_any w D bJ h false hj _ _ ?_
  by_cases hr : h.u + J.fsz l ≤ J.arb s
  · refine (lay_is w ht D S M bJ s h L hi hd hj hT0 h rfl hi.ok.a L hi.fr ao c l hls hc hb hr).mono ?_
    rintro e w' ⟨rfl, h1⟩
    exact ⟨⟨0, rfl⟩, Or.inl ⟨hr, rfl, h1⟩⟩
  · refine (lay_full w D S M bJ s h h ao c l hb hls hz hj hd hi.n8 hi.u (by omega)).mono ?_
    rintro e w' ⟨rfl, h1⟩
    exact ⟨⟨90, rfl⟩, Or.inr ⟨by omega, rfl, h1⟩⟩
set_option maxRecDepth 5000 in
theorem reset_is (w : World) (ht : Tab w) (D S M bJ : Nat) (s : K.St) (h : J.H) (L : List (List UInt8)) (hi : J.Is s h L) (hd : DiskAt FF w D S M s) (hj : RowAt w bJ 69 (jrow D h false)) (hT0 : 0 < D ∧ 0 < S ∧ 0 < M)
    (ao : Option Addr) (c : Nat) (l : List (List UInt8)) (hls : SlBs w ao l) (hc : h.c + 1 < 4611686018427387904) (hb : l.length ≤ 1048576) (hz : J.fsz l ≤ 1000000000) :
    Calls Tryd.prog 19 #[.pointer (some ⟨bJ, 0, none⟩), .slice ao l.length c] w fun e w' => ∃ x, e = .returned (.int .i64 x) ∧ ((J.fsz l ≤ J.arb s ∧ x = 0 ∧ ∃ M' s', Laid w w' D S M bJ s (nextH ⟨h.c, 1 - h.a, 0, 0⟩ l) l M' s') ∨ (J.arb s < J.fsz l ∧ x = 90 ∧ Below w.heap.size w w')) := by
  refine reset_any w D bJ h false hi.ok.a hj _ _ (fun W hW => ?_)
  have hlt := hj.lt
  have hjW := hj.below hW hlt
  have hdW := hd.below hW (Nat.le_refl _)
  have hlW := hls.below hW (Nat.le_refl _)
  have htW := ht.below hW ht.1
  by_cases hr : J.fsz l ≤ J.arb s
  · refine (lay_is W htW D S M bJ s h L hi hdW hjW hT0 ⟨h.c, 1 - h.a, 0, 0⟩ rfl (by show 1 - h.a < 2; omega) [] ⟨[], by show List.take 0 _ = _; rw [List.take_zero]; rfl, rfl, trivial, rfl⟩ ao c l hlW hc (by show 0 + l.length ≤ _; omega) (by show 0 + _ ≤ _; omega)).mono ?_
    rintro e w' ⟨rfl, M', s', h1⟩
    have m1 := h1.mv
    exact ⟨0, rfl, Or.inl ⟨hr, rfl, M', s', h1.jr, h1.dk, h1.is, ⟨m1.os.trans hW.os, m1.tape.trans hW.tape, m1.output.trans hW.output, Nat.le_trans hW.size m1.size, fun g hg q1 q2 q3 q4 => by rw [m1.block g (Nat.lt_of_lt_of_le hg hW.size) q1 q2 q3 q4, hW.block g hg]⟩, Nat.le_trans hW.size h1.m, h1.n, h1.sz⟩⟩
  · refine (lay_full W D S M bJ s h ⟨h.c, 1 - h.a, 0, 0⟩ ao c l (by show 0 + l.length ≤ _; omega) hlW hz hjW hdW hi.n8 (Nat.zero_le _) (by show _ < 0 + _; omega)).mono ?_
    rintro e w' ⟨rfl, h1⟩
    exact ⟨90, rfl, Or.inr ⟨by omega, rfl, hW.trans (h1.mono hW.size)⟩⟩
end Go.Proofs.YtidocfajhhpfdaaDoor
