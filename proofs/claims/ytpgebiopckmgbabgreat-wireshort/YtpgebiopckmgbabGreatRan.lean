/- (*wire.reader).records of answers of type 99, with what lies at their names and their data. -/
import Derived.Test.YtpgebiopckmgbabGreatRcn
import Derived.Test.YtpgebiopckmgbabGreatRcs
import Derived.Test.YtpgebiopckmgbabGreatShs
namespace Go.Proofs.YtpgebiopckmgbabGreat
open Go.RowKit
/- a record's name and data lie in memory that was made from block 'base' on -/
def EL (wr : World) (base : Nat) (x : RX) : Prop := (∃ bs, base ≤ bs ∧ OwnS wr bs (.slice x.na x.r.name.length x.nc) x.r.name) ∧ ∃ bs, base ≤ bs ∧ OwnB wr bs (.slice x.da x.r.data.length x.dc) x.r.data
set_option maxRecDepth 5000 in
theorem EL.mvt {w w' : World} {base T t : Nat} {c : Array Value} {x : RX} (h : EL w base x) (hT : RowAt w T t c) (e1 : t ≠ 9) (e2 : t ≠ 5) (hg : Mv T w w') : EL w' base x := by
  obtain ⟨⟨b1, h1, h2⟩, b2, h3, h4⟩ := h
  exact ⟨⟨b1, h1, own_mv3 h2 hT e1 hg⟩, b2, h3, own_mv3 h4 hT e2 hg⟩
set_option maxRecDepth 5000 in
theorem EL.mv {w w' : World} {base T : Nat} {c : Array Value} {x : RX} (h : EL w base x) (hT : RowAt w T 63 c) (hg : Mv T w w') : EL w' base x := h.mvt hT (by decide) (by decide) hg
set_option maxRecDepth 5000 in
theorem EL.below {w w' : World} {base : Nat} {x : RX} (h : EL w base x) (hb : Below w.heap.size w w') : EL w' base x := by
  obtain ⟨⟨b1, h1, h2⟩, b2, h3, h4⟩ := h
  exact ⟨⟨b1, h1, own_below h2 hb⟩, b2, h3, own_below h4 hb⟩
set_option maxRecDepth 5000 in
theorem own_grownP {w w' : World} {B e s n B2 e2 s2 n2 : Nat} {v v2 : Value} {xs xs2 : List Value} (h : w.ownsRow B e s v n xs) (ho : w.ownsRow B2 e2 s2 v2 n2 xs2) (hne : e ≠ e2) (hg : w.grownBy w' v2.ownBlock) : w'.ownsRow B e s v n xs := by
  refine ⟨h.1, ?_⟩
  rcases h.2 with h1 | ⟨g, cap, cur, e1, hb, hg', hr⟩
  · exact Or.inl h1
  · exact Or.inr ⟨g, cap, cur, e1, hb, row_grownO hg' ho hne hg, hr⟩
set_option maxRecDepth 5000 in
theorem EL.grown {w w' : World} {base B2 s2 n2 : Nat} {v2 : Value} {xs2 : List Value} {x : RX} (h : EL w base x) (ho : w.ownsRow B2 39 s2 v2 n2 xs2) (hg : w.grownBy w' v2.ownBlock) : EL w' base x := by
  obtain ⟨⟨b1, h1, h2⟩, b2, h3, h4⟩ := h
  exact ⟨⟨b1, h1, own_grownP h2 ho (by decide) hg⟩, b2, h3, own_grownP h4 ho (by decide) hg⟩
set_option maxRecDepth 5000 in
theorem EL.alloc {w : World} {base : Nat} {x : RX} (h : EL w base x) (o : Obj) : EL (w.alloc o) base x := h.below ((Below.refl _ _).alloc (Nat.le_refl _) o)
set_option maxRecDepth 5000 in
theorem Mv.bel {T N : Nat} {w w1 w2 : World} (h : Mv T w w1) (hb : Below N w1 w2) (hN : w.heap.size ≤ N) : Mv T w w2 :=
  ⟨hb.os.trans h.os, hb.tape.trans h.tape, hb.output.trans h.output, Nat.le_trans h.size hb.size, fun k hk hn => (hb.block k (by omega)).trans (h.block k hk hn)⟩
/- the list v of the records Ls was made behind w0, with its names and data -/
def GotL (w0 w' : World) (v : Value) (Ls : List RX) : Prop := ∃ bs, w0.heap.size ≤ bs ∧ OwnRc w' bs v Ls ∧ ∀ x ∈ Ls, EL w' bs x
set_option maxRecDepth 5000 in
theorem GotL.mvt {w0 w w' : World} {T t : Nat} {c : Array Value} {v : Value} {Ls : List RX} (h : GotL w0 w v Ls) (hT : RowAt w T t c) (e1 : t ≠ 9) (e2 : t ≠ 5) (e3 : t ≠ 39) (hg : Mv T w w') : GotL w0 w' v Ls := by
  obtain ⟨bs, h1, h2, h3⟩ := h
  exact ⟨bs, h1, own_mv3 (show World.ownsRow _ _ _ _ _ _ _ from h2) hT e3 hg, fun x hx => (h3 x hx).mvt hT e1 e2 hg⟩
set_option maxRecDepth 5000 in
theorem GotL.below {w0 w w' : World} {v : Value} {Ls : List RX} (h : GotL w0 w v Ls) (hb : Below w.heap.size w w') : GotL w0 w' v Ls := by
  obtain ⟨bs, h1, h2, h3⟩ := h
  exact ⟨bs, h1, own_below (show World.ownsRow _ _ _ _ _ _ _ from h2) hb, fun x hx => (h3 x hx).below hb⟩
structure RN (B T : Nat) (ao : Option Addr) (c : Nat) (b : List UInt8) (w : World) (p : Nat) (v : Value) (Ls : List RX) (wr : World) : Prop where
  rd : RdW B T ao c b p wr
  own : OwnRc wr w.heap.size v Ls
  els : ∀ x ∈ Ls, EL wr w.heap.size x
  mv : Mv T w wr
set_option maxRecDepth 3000 in
set_option maxHeartbeats 1600000 in
theorem records_ans (B T : Nat) (ao : Option Addr) (c : Nat) (b : List UInt8) (X : List M.R) (k : Nat) (pl : Nat → Nat) (fv : Value) (w : World) (hR : RdW B T ao c b (pl 0) w) (hk : Hid (X.length = k)) (hk30 : k ≤ 30)
    (hA : ∀ j x, X[j]? = some x → M.RecAt b (pl j) (pl (j + 1)) x ∧ x.type = 99 ∧ x.cls = 1 ∧ x.ttl < 2147483648 ∧ x.data.length ≤ 8192) :
    Calls Tryz.prog 35 #[.pointer (some ⟨T, 0, none⟩), .int .u16 (k : Int), fv] w fun e w' => ∃ va ca Ls, e = .returned (.slice va k ca) ∧ Ls.map (·.r) = X ∧ OwnRc w' w.heap.size (.slice va k ca) Ls ∧ (∀ x ∈ Ls, EL w' w.heap.size x) ∧ RdW B T ao c b (pl k) w' ∧ Mv T w w' := by
  have hTlt := hR.lt
  have hB := hR.2.2.2.2.2.2.2
  have HA := hide hA
  have L0 : Hid (RN B T ao c b w (pl 0) (.slice none 0 0) [] w) := ⟨hR, World.ownsRow_nil _ _ _ _, by simp, Mv.refl _ _⟩
  clear hR hA
  go_enter Tryz.func35, Tryz.ntmps35
  go_wp2
  go_loopw [6, 9] (fun s6 s9 wz => ∃ (j : Nat) (Ls : List RX), j ≤ k ∧ s9 = .int .u16 (j : Int) ∧ Hid (Ls.map (·.r) = X.take j) ∧ Hid (RN B T ao c b w (pl j) s6 Ls wz)) (fun _ s9 _ => k - (intOf s9).toNat)
  case atStart => exact ⟨0, [], by omega, rfl, rfl, L0⟩
  case round =>
    clear L0
    obtain ⟨j, Ls, hj, rfl, HM, HL⟩ := hrel
    have hsz := HL.out.mv.size
    have hLl : Hid (Ls.length = j) := by
      have h1 := congrArg List.length HM.out
      rw [List.length_map, List.length_take, hk.out] at h1
      show _ = _
      omega
    by_cases hjk : j < k
    · have q1 : decide ((j : Int) < (k : Int)) = true := by simp; omega
      have hjw : IntKind.u16.wrap ((j : Int) + 1) = ((j + 1 : Nat) : Int) := by rw [IntKind.wrap_u16]; omega
      obtain ⟨x, hx⟩ : ∃ x, X[j]? = some x := ⟨_, List.getElem?_eq_getElem (show j < X.length by have := hk.out; omega)⟩
      obtain ⟨⟨qq, e1, e2, e3, e4, e5, e6, e7, e8⟩, t1, t2, t3, t4⟩ := HA.out j x hx
      have HX := hide hx
      have E1 := hide e1
      have E2 := hide e2
      have E3 := hide e3
      have E4 := hide e4
      have E5 := hide e5
      have E6 := hide e6
      have E7 := hide e7
      have T1 := hide t1
      have T2 := hide t2
      have q41 : ((x.type : Int) == 41) = false := by rw [T1.out]; decide
      have qtt : decide ((2147483648 : Int) ≤ (x.ttl : Int)) = false := by simp; omega
      have hln : qq + 10 + x.data.length ≤ b.length := by omega
      clear hx e1 e2 e3 e4 e5 e6 e7 t1 t2
      go_wp2_with fail
      refine (record_99 B T ao c b (pl j) _ (by exact HL.out.rd) x.name qq x.type x.cls x.ttl x.data.length E1 E2 E3 E4 E5 hln T2 (Or.inr ⟨T1.out, t4⟩)).mono ?_
      rintro e w1 ⟨na, nc, da, dc, rfl, hr1, hm1, hn1, hd1⟩
      rw [E6.out] at hd1
      have HR1 : Hid (RdW B T ao c b (pl (j + 1)) w1) := by rw [E7.out]; exact hr1
      have HO1 := hide (own_mv3 (show World.ownsRow _ _ _ _ _ _ _ from HL.out.own) HL.out.rd.1 (by decide) hm1)
      have HE1 : Hid (∀ y ∈ Ls ++ [⟨na, nc, da, dc, x⟩], EL w1 w.heap.size y) := by
        intro y hy
        rcases List.mem_append.1 hy with h | h
        · exact (HL.out.els y h).mv HL.out.rd.1 hm1
        · rw [List.mem_singleton] at h
          subst h
          obtain ⟨b1, g1, g2⟩ := hn1
          obtain ⟨b2, g3, g4⟩ := hd1
          exact ⟨⟨b1, Nat.le_trans hsz g1, g2⟩, b2, Nat.le_trans hsz g3, g4⟩
      have HV1 := hide (HL.out.mv.trans hm1)
      have hz1 := HV1.out.size
      clear hr1 hm1 hn1 hd1 HL
      go_wp2_with (first
        | (refine wpList_store_absR rfl 39 (.tmp 7) (.tmp 12) rfl w1.heap.size (rec5 na x.name.length nc x.type x.cls x.ttl da x.data.length dc) rfl rfl 39 _ (RowAt.new w1 39 _) (by exact infoRs) rfl (rec5_one _ _ _ _ _ _ _ _ _) w1.heap.size (Nat.le_refl _) ?_; intro w2 hX2 hB2; have hb2 : Below w1.heap.size w1 w2 := ((Below.refl _ _).alloc (Nat.le_refl _) _).trans hB2; have HR2 := hide (HR1.out.below hb2); have HE2 : Hid (∀ y ∈ Ls ++ [⟨na, nc, da, dc, x⟩], EL w2 w.heap.size y) := (fun y hy => (HE1.out y hy).below hb2); have HO2 := hide (own_below HO1.out hb2); have HV2 := hide (HV1.out.bel hb2 hz1); have hz2 := HV2.out.size; have HX2 := hide hX2; have y1 : w2.cell? ⟨w1.heap.size, 1, none⟩ = some (.int .u16 (x.type : Int)) := hX2.cell 1; have y3 : w2.cell? ⟨w1.heap.size, 3, none⟩ = some (.int .u32 (x.ttl : Int)) := hX2.cell 3; clear hX2 hB2 hb2)
        | (refine wpList_load_row rfl 39 (.tmp 7) rfl w1.heap.size rfl 39 _ (0, 0) _ (by exact HX2.out) Tryz.underlying39 rfl (by exact infoRs) ?_)
        | (refine wpList_build5 rfl (.tmp 24) rfl na x.name.length nc x.type x.cls x.ttl da x.data.length dc rfl ?_)
        | (at_builtin; refine wpList_append1 rfl (.tmp 23) (.tmp 25) 30 39 rfl _ 5 56 Tryz.underlying30 infoR2 rfl (by omega) w.heap.size _ Ls.length _ rfl (by exact World.ownsRow.alloc HO2.out _) w2.heap.size 39 (rec5 na x.name.length nc x.type x.cls x.ttl da x.data.length dc).toList rfl (by exact RowAt.new w2 39 _) rfl (rec5_ones _ _ _ _ _ _ _ _ _) (by have := hLl.out; omega) (by omega) (by simp; omega) ?_; intro v3 w3 ho3 hG3; have HO3 := hide ho3; have HG3 := hide hG3; clear ho3 hG3))
      have hoA : World.ownsRow _ w.heap.size 39 5 _ Ls.length (Ls.flatMap rcs) := World.ownsRow.alloc HO2.out (.cells (rec5 na x.name.length nc x.type x.cls x.ttl da x.data.length dc) 39)
      have hb3 := owns_grown hoA HG3.out ((Below.refl _ _).alloc hz2 _) (by simp; omega)
      have hO3 : OwnRc w3 w.heap.size v3 (Ls ++ [⟨na, nc, da, dc, x⟩]) := by
        unfold OwnRc
        rw [List.length_append, List.flatMap_append]
        exact HO3.out
      have HL3 : Hid (RN B T ao c b w (pl (j + 1)) v3 (Ls ++ [⟨na, nc, da, dc, x⟩]) w3) := ⟨HR2.out.low hb3 hTlt hB, hO3, (fun y hy => ((HE2.out y hy).alloc _).grown hoA HG3.out), HV2.out.bel hb3 (Nat.le_refl _)⟩
      refine ⟨⟨j + 1, Ls ++ [⟨na, nc, da, dc, x⟩], by omega, by go_num, ?_, HL3⟩, by simp [intOf]; omega⟩
      show _ = _
      rw [List.map_append, HM.out, List.take_add_one, HX.out]
      rfl
    · obtain rfl : j = k := by omega
      have q1 : decide ((j : Int) < (j : Int)) = false := by simp
      have hown : World.ownsRow _ _ _ _ _ _ _ := HL.out.own
      have hform : ∃ va ca, u6 = .slice va j ca := by
        rcases hown.2 with ⟨h1, h2⟩ | ⟨g, cap, cur, h1, _⟩
        · exact ⟨none, 0, by rw [h1, ← hLl.out, h2]⟩
        · exact ⟨_, _, by rw [h1, hLl.out]⟩
      obtain ⟨va, ca, rfl⟩ := hform
      have HM2 : Hid (Ls.map (·.r) = X) := by
        show _ = _
        rw [HM.out, ← hk.out, List.take_length]
      clear hown
      go_wp2
      go_ret
      exact ⟨va, ca, Ls, rfl, HM2.out, HL.out.own, HL.out.els, HL.out.rd, HL.out.mv⟩
end Go.Proofs.YtpgebiopckmgbabGreat
