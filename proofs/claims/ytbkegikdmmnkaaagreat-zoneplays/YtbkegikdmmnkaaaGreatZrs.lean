/- Records. -/
import Derived.Test.YtbkegikdmmnkaaaGreatTyB
import Derived.Laws.IdiomStrings
import Derived.Laws.BytesArg
import Derived.Sort.WalkA
import Derived.Test.YtbkegikdmmnkaaaGreatZpl2
import Derived.Test.YtbkegikdmmnkaaaGreatZnr
import Derived.Deep.RegionHeld3
namespace Go.Proofs.YtbkegikdmmnkaaaGreat
set_option maxRecDepth 5000
open Go.RowKit
set_option maxRecDepth 5000 in
theorem below_drewN {B : Nat} {w w' : World} (h : Below B w w') (n : Nat) : Below B w (w'.drewN n) := ⟨h.os, h.tape, h.output, h.size, h.block⟩
end Go.Proofs.YtbkegikdmmnkaaaGreat
namespace Go.Proofs.YtbkegikdmmnkaaaGreat
set_option maxRecDepth 5000
open Go.RowKit
set_option maxRecDepth 10000 in
set_option maxHeartbeats 12800000 in
theorem ropen_any (l : List UInt8) (ao : Option Addr) (len cap : Nat) (w : World) (hl : Hid (l.length = len)) (hs : SlL w ao l) (hlen : len <= 100000) :
 Calls Tryz.prog 162 #[.slice ao len cap] w fun e w' => Below w.heap.size w w' /\ ((∃ m v, T.opn 0 l = some m /\ e = .returned (.tuple #[v, .int .i64 0]) /\ OwnH w' w.heap.size v m) \/ (T.opn 0 l = none /\ e = .returned (.tuple #[.slice none 0 0, .int .i64 40]))) := by
 have HS := hide hs
 clear hs
 go_enter Tryz.func162, Tryz.ntmps162
 go_wp2
 go_loopw [4, 5, 6] (fun v4 v5 v6 W => ∃ (i least : Nat) (m : List UInt16), v6 = .int .i64 (i : Int) /\ i <= len /\ v5 = .int .i64 ((least : Int) - 1) /\ least <= 256 /\ OwnH W w.heap.size v4 m /\ Below w.heap.size w W /\ m.length <= 8 * i /\ T.opn 0 l = (T.opn least (l.drop i)).map (m ++ ·)) (fun _ _ v6 _ => len - (intOf v6).toNat)
 case atStart => exact ⟨0, 0, [], rfl, by omega, rfl, by omega, OwnH.nil _ _, Below.refl _ _, by simp, by rw [List.drop_zero]; cases T.opn 0 l <;> simp⟩
 case round =>
  obtain ⟨i, least, m, rfl, hi, rfl, hle, hO, hB, hml, hE⟩ := hrel
  have hz := hB.size
  have HE := hide hE
  have HO := hide hO
  clear hE hO
  by_cases hil : i < len
  ·obtain ⟨b, o, rfl, hb, hc⟩ := HS.out (by rw [hl.out]; omega)
   rw [hl.out] at hc
   have hci := fun j (hj : j < len) => (hB.cell (p := ⟨b, o + j, none⟩) hb).trans (hc j hj)
   have HC := hide hc
   clear hc
   by_cases h2 : len < i + 2
   ·have e2 : (len : Int) < (i : Int) + 2 := by omega
    have hone : ∃ x, l.drop i = [x] := by
     have hdl : (l.drop i).length = 1 := by rw [List.length_drop, hl.out]; omega
     exact List.length_eq_one_iff.1 hdl
    obtain ⟨x, hx⟩ := hone
    rw [hx, T.opn_one] at HE
    clear hci
    go_wp2
    go_ret2
    exact ⟨hB, Or.inr ⟨HE.out, rfl⟩⟩
   ·have e2 : ¬ (len : Int) < (i : Int) + 2 := by omega
    obtain ⟨x, n, r, hrd⟩ : ∃ x n r, l.drop i = x :: n :: r := by
     have hdl : (l.drop i).length = len - i := by rw [List.length_drop, hl.out]
     match h : l.drop i with
     | [] => rw [h] at hdl; simp at hdl; omega
     | [_] => rw [h] at hdl; simp at hdl; omega
     | x :: n :: r => exact ⟨x, n, r, rfl⟩
    have hrl : r.length + 2 = len - i := by
     have := congrArg List.length hrd
     rw [List.length_drop, hl.out] at this; simp at this; omega
    have hgd : ∀ j, l.getD (i + j) 0 = (x :: n :: r).getD j 0 := fun j => by
     rw [<- hrd, List.getD_eq_getElem?_getD, List.getD_eq_getElem?_getD, List.getElem?_drop]
    have c0 := hci i hil
    rw [show l.getD i 0 = x from hgd 0] at c0
    have c1 := hci (i + 1) (by omega)
    rw [hgd 1] at c1
    have c1' : wr.cell? ⟨b, o + (i + 1), none⟩ = some (.int .u8 (n.toNat : Int)) := c1
    clear c1
    have hx0 := x.toNat_lt
    have hn0 := n.toNat_lt
    rw [hrd] at HE
    have HBD : Hid (T.bad least x n r ↔ (x.toNat < least \/ n.toNat = 0 \/ 32 < n.toNat \/ r.length < n.toNat \/ r.getD (n.toNat - 1) 0 = 0)) := Iff.rfl
    have hop : ¬ T.bad least x n r -> T.opn least (x :: n :: r) = (T.opn (x.toNat + 1) (r.drop n.toNat)).map (T.typ x.toNat (r.take n.toNat) ++ ·) := fun h => by rw [T.opn_two, if_neg h]
    have hd2 : l.drop (i + (2 + n.toNat)) = r.drop n.toNat := by
     rw [<- List.drop_drop, hrd, show 2 + n.toNat = n.toNat + 2 by omega]; rfl
    obtain ⟨X, hX⟩ : ∃ X : Nat, x.toNat = X := ⟨_, rfl⟩
    obtain ⟨M, hM⟩ : ∃ M : Nat, n.toNat = M := ⟨_, rfl⟩
    rw [hX] at c0 hx0 HBD hop
    rw [hM] at c1' hn0 HBD hop hd2
    have ex : IntKind.i64.wrap (X : Int) = (X : Int) := wrap_nat _ (by omega)
    have en : IntKind.i64.wrap (M : Int) = (M : Int) := wrap_nat _ (by omega)
    have HOP := hide hop
    have HD2 := hide hd2
    have HGD := hide hgd
    clear hop hd2 hgd hX hM hrd
    have hi1 : i + 1 < len := by omega
    by_cases b1 : X < least
    ·have e3 : (X : Int) <= (least : Int) - 1 := by omega
     clear hci
     go_wp2
     go_quiet (fail)
     have hnone : T.opn least (x :: n :: r) = none := by rw [T.opn_two, if_pos (HBD.out.2 (Or.inl b1))]
     have HNO := hide hnone
     clear hnone
     go_wp2
     go_ret2
     exact ⟨below_drewN hB _, Or.inr ⟨by rw [HE.out, HNO.out]; rfl, rfl⟩⟩
    ·have e3 : ¬ (X : Int) <= (least : Int) - 1 := by omega
     by_cases b2 : M = 0
     ·have e4 : (M : Int) < 1 := by omega
      clear hci
      go_wp2
      go_quiet (fail)
      have hnone : T.opn least (x :: n :: r) = none := by rw [T.opn_two, if_pos (HBD.out.2 (Or.inr (Or.inl b2)))]
      have HNO := hide hnone
      clear hnone
      go_wp2
      go_ret2
      exact ⟨below_drewN hB _, Or.inr ⟨by rw [HE.out, HNO.out]; rfl, rfl⟩⟩
     ·have e4 : ¬ (M : Int) < 1 := by omega
      by_cases b3 : 32 < M
      ·have e5 : (32 : Int) < (M : Int) := by omega
       clear hci
       go_wp2
       go_quiet (fail)
       have hnone : T.opn least (x :: n :: r) = none := by rw [T.opn_two, if_pos (HBD.out.2 (Or.inr (Or.inr (Or.inl b3))))]
       have HNO := hide hnone
       clear hnone
       go_wp2
       go_ret2
       exact ⟨below_drewN hB _, Or.inr ⟨by rw [HE.out, HNO.out]; rfl, rfl⟩⟩
      ·have e5 : ¬ (32 : Int) < (M : Int) := by omega
       by_cases b4 : r.length < M
       ·have e6 : (len : Int) < (i : Int) + 2 + (M : Int) := by omega
        clear hci
        go_wp2
        go_quiet (fail)
        have hnone : T.opn least (x :: n :: r) = none := by rw [T.opn_two, if_pos (HBD.out.2 (Or.inr (Or.inr (Or.inr (Or.inl b4)))))]
        have HNO := hide hnone
        clear hnone
        go_wp2
        go_ret2
        exact ⟨below_drewN hB _, Or.inr ⟨by rw [HE.out, HNO.out]; rfl, rfl⟩⟩
       ·have e6 : ¬ (len : Int) < (i : Int) + 2 + (M : Int) := by omega
        have c2 := hci (i + 1 + M) (by omega)
        rw [show l.getD (i + 1 + M) 0 = r.getD (M - 1) 0 by
         rw [show i + 1 + M = i + ((M - 1) + 2) by omega, HGD.out]; rfl] at c2
        obtain ⟨y0, hy0⟩ : ∃ y0, r.getD (M - 1) 0 = y0 := ⟨_, rfl⟩
        rw [hy0] at c2
        have hi2 : i + 1 + M < len := by omega
        by_cases b5 : y0 = 0
        ·have e7 : ((y0.toNat : Int) == 0) = true := by simp [b5]
         have HWH : Hid (r.getD (M - 1) 0 = 0) := by show r.getD (M - 1) 0 = 0; rw [hy0]; exact b5
         clear hci b5 hy0
         go_wp2
         go_quiet (fail)
         have hnone : T.opn least (x :: n :: r) = none := by rw [T.opn_two, if_pos (HBD.out.2 (Or.inr (Or.inr (Or.inr (Or.inr HWH.out)))))]
         have HNO := hide hnone
         clear hnone
         go_wp2
         go_ret2
         exact ⟨below_drewN hB _, Or.inr ⟨by rw [HE.out, HNO.out]; rfl, rfl⟩⟩
        ·have e7 : ((y0.toNat : Int) == 0) = false := by
          have : y0.toNat ≠ 0 := fun h => b5 (UInt8.toNat_inj.1 h)
          simp; omega
         have HGB : Hid (¬ T.bad least x n r) := fun hbd => by
          rcases HBD.out.1 hbd with h | h | h | h | h
          ·exact b1 h
          ·exact b2 h
          ·exact b3 h
          ·exact b4 h
          ·rw [hy0] at h; exact b5 h
         clear b5 hy0 hci
         go_wp2
         go_quiet (fail)
         have HO2 : Hid (OwnH (wr.drewN nq) w.heap.size u4 m) := HO.out
         have hB2 := below_drewN hB nq
         have c22 : (wr.drewN nq).cell? ⟨b, o + (i + 1 + M), none⟩ = some (.int .u8 (y0.toNat : Int)) := c2
         clear hB HO c0 c1' c2 hz
         generalize wr.drewN nq = W1 at HO2 hB2 c22 ⊢
         clear nq
         obtain ⟨bs, hbs⟩ : ∃ bs, r.take M = bs := ⟨_, rfl⟩
         have hbl : bs.length = M := by rw [<- hbs, List.length_take]; omega
         have HBG : Hid (∀ k, k < M -> l.getD (i + 2 + k) 0 = bs.getD k 0) := fun k hk => by
          rw [show i + 2 + k = i + (k + 2) by omega, HGD.out, <- hbs]
          show r.getD k 0 = _
          rw [List.getD_eq_getElem?_getD, List.getD_eq_getElem?_getD, List.getElem?_take_of_lt hk]
         rw [hbs] at HOP
         have HBL := hide hbl
         have hx : X < 256 := by omega
         clear hbs hbl
         go_wp2
         go_loopw [4, 9] (fun v u W => ∃ k : Nat, u = .int .i64 (k : Int) /\ k <= M /\ OwnH W w.heap.size v (m ++ T.typUp X bs (8 * k)) /\ Below w.heap.size w W) (fun _ u _ => M - (intOf u).toNat)
         case atStart => exact ⟨0, rfl, by omega, (by simpa [T.typUp] using HO2.out), hB2⟩
         case round =>
          clear HO2 hB2 c22
          obtain ⟨k, rfl, hkM, hO, hB⟩ := hrel
          by_cases hk : k < M
          ·have ek : (k : Int) < (M : Int) := by omega
           go_wp2
           go_loopw [4, 10] (fun v u W => ∃ j : Nat, u = .int .i64 (j : Int) /\ j <= 8 /\ OwnH W w.heap.size v (m ++ T.typUp X bs (8 * k + j)) /\ Below w.heap.size w W) (fun _ u _ => 8 - (intOf u).toNat)
           case atStart => exact ⟨0, rfl, by omega, hO, hB⟩
           case round =>
            clear hO hB
            obtain ⟨j, rfl, hj8, hO, hB⟩ := hrel
            have hz := hB.size
            by_cases hj : j < 8
            ·have cy := (hB.cell (p := ⟨b, o + (i + 2 + k), none⟩) hb).trans (HC.out (i + 2 + k) (by omega))
             rw [HBG.out k hk] at cy
             obtain ⟨y, hy⟩ : ∃ y, bs.getD k 0 = y := ⟨_, rfl⟩
             rw [hy] at cy
             have HY := hide hy
             have HO := hide hO
             have hikl : i + 2 + k < len := by omega
             have hmb : m.length <= 800000 := by omega
             clear hy hO
             rcases (by omega : j = 0 \/ j = 1 \/ j = 2 \/ j = 3 \/ j = 4 \/ j = 5 \/ j = 6 \/ j = 7) with hr | hr | hr | hr | hr | hr | hr | hr
             ·subst hr
              have hhas := T.and_has bs (8 * k + 0)
              rw [show (8 * k + 0) / 8 = k by omega, show 7 - (8 * k + 0) % 8 = 7 by omega, HY.out, show (2 ^ 7 : Nat) = 128 from rfl] at hhas
              have e3 : bits .and .u8 (y.toNat : Int) 128 = ((y.toNat &&& 128 : Nat) : Int) := u8_and_nat y.toNat 128 y.toNat_lt (by omega)
              obtain ⟨z, hzz⟩ : ∃ z : Nat, y.toNat &&& 128 = z := ⟨_, rfl⟩
              rw [hzz] at hhas e3
              have HH := hide hhas
              have e6 : IntKind.u16.wrap ((X : Int) * 256 + (k : Int) * 8 + 0) = ((T.mk X (8 * k + 0)).toNat : Int) := by
               rw [T.mk_nat X (8 * k + 0) hx (by omega), IntKind.wrap_u16]; omega
              clear hhas hzz
              by_cases hz0 : z = 0
              ·have hno : T.has bs (8 * k + 0) = false := by
                have : ¬ T.has bs (8 * k + 0) = true := fun h => (HH.out.2 h) hz0
                simpa using this
               have e5 : ((z : Int) != 0) = false := by simp [hz0]
               go_wp2
               go_quiet (fail)
               go_wp2
               go_roundw
               case rel => exact ⟨1, rfl, by omega, (by rw [show 8 * k + 1 = (8 * k + 0) + 1 by omega, T.typUp_no X bs _ hno]; exact HO.out), below_drewN hB _⟩
               case measure => simp [intOf]
              ·have hyes : T.has bs (8 * k + 0) = true := HH.out.1 hz0
               have e5 : ((z : Int) != 0) = true := by simp [hz0]
               have hml : (m ++ T.typUp X bs (8 * k + 0)).length <= 1000256 := by rw [List.length_append]; have := T.typUp_len X bs (8 * k + 0); omega
               go_wp2
               go_quiet (fail)
               have HO2 : Hid (OwnH (wr.drewN nq) w.heap.size u4 (m ++ T.typUp X bs (8 * k + 0))) := HO.out
               have hB2 := below_drewN hB nq
               have hz2 := hB2.size
               clear hB HO cy hz
               generalize wr.drewN nq = w2 at HO2 hB2 hz2 ⊢
               clear nq
               go_wp2_with (at_builtin; refine wpList_append_H rfl (.tmp 81) (.tmp 90) rfl w.heap.size _ (m ++ T.typUp X bs (8 * k + 0)) rfl (by exact HO2.out.alloc _) _ _ _ [T.mk X (8 * k + 0)] rfl rfl (SlH.oneI _ _ _ _ (by first | rfl | (rw [T.mk_nat X _ hx (by omega)]; omega))) (by simp) (by simp at hml ⊢; omega) (by simp; omega) ?_; intro v4 w4 hO4 hG4; have hB4 := grown_belowH (HO2.out.alloc _) hG4 (hB2.alloc hz2 _) (by simp; omega); clear hG4)
               go_roundw
               case rel => exact ⟨1, rfl, by omega, (by rw [show 8 * k + 1 = (8 * k + 0) + 1 by omega, T.typUp_yes X bs _ hyes, <- List.append_assoc]; exact hO4), hB4⟩
               case measure => simp [intOf]
             ·subst hr
              have hhas := T.and_has bs (8 * k + 1)
              rw [show (8 * k + 1) / 8 = k by omega, show 7 - (8 * k + 1) % 8 = 6 by omega, HY.out, show (2 ^ 6 : Nat) = 64 from rfl] at hhas
              have e3 : bits .and .u8 (y.toNat : Int) 64 = ((y.toNat &&& 64 : Nat) : Int) := u8_and_nat y.toNat 64 y.toNat_lt (by omega)
              obtain ⟨z, hzz⟩ : ∃ z : Nat, y.toNat &&& 64 = z := ⟨_, rfl⟩
              rw [hzz] at hhas e3
              have HH := hide hhas
              have e6 : IntKind.u16.wrap ((X : Int) * 256 + (k : Int) * 8 + 1) = ((T.mk X (8 * k + 1)).toNat : Int) := by
               rw [T.mk_nat X (8 * k + 1) hx (by omega), IntKind.wrap_u16]; omega
              clear hhas hzz
              by_cases hz0 : z = 0
              ·have hno : T.has bs (8 * k + 1) = false := by
                have : ¬ T.has bs (8 * k + 1) = true := fun h => (HH.out.2 h) hz0
                simpa using this
               have e5 : ((z : Int) != 0) = false := by simp [hz0]
               go_wp2
               go_quiet (fail)
               go_wp2
               go_roundw
               case rel => exact ⟨2, rfl, by omega, (by rw [show 8 * k + 2 = (8 * k + 1) + 1 by omega, T.typUp_no X bs _ hno]; exact HO.out), below_drewN hB _⟩
               case measure => simp [intOf]
              ·have hyes : T.has bs (8 * k + 1) = true := HH.out.1 hz0
               have e5 : ((z : Int) != 0) = true := by simp [hz0]
               have hml : (m ++ T.typUp X bs (8 * k + 1)).length <= 1000256 := by rw [List.length_append]; have := T.typUp_len X bs (8 * k + 1); omega
               go_wp2
               go_quiet (fail)
               have HO2 : Hid (OwnH (wr.drewN nq) w.heap.size u4 (m ++ T.typUp X bs (8 * k + 1))) := HO.out
               have hB2 := below_drewN hB nq
               have hz2 := hB2.size
               clear hB HO cy hz
               generalize wr.drewN nq = w2 at HO2 hB2 hz2 ⊢
               clear nq
               go_wp2_with (at_builtin; refine wpList_append_H rfl (.tmp 81) (.tmp 90) rfl w.heap.size _ (m ++ T.typUp X bs (8 * k + 1)) rfl (by exact HO2.out.alloc _) _ _ _ [T.mk X (8 * k + 1)] rfl rfl (SlH.oneI _ _ _ _ (by first | rfl | (rw [T.mk_nat X _ hx (by omega)]; omega))) (by simp) (by simp at hml ⊢; omega) (by simp; omega) ?_; intro v4 w4 hO4 hG4; have hB4 := grown_belowH (HO2.out.alloc _) hG4 (hB2.alloc hz2 _) (by simp; omega); clear hG4)
               go_roundw
               case rel => exact ⟨2, rfl, by omega, (by rw [show 8 * k + 2 = (8 * k + 1) + 1 by omega, T.typUp_yes X bs _ hyes, <- List.append_assoc]; exact hO4), hB4⟩
               case measure => simp [intOf]
             ·subst hr
              have hhas := T.and_has bs (8 * k + 2)
              rw [show (8 * k + 2) / 8 = k by omega, show 7 - (8 * k + 2) % 8 = 5 by omega, HY.out, show (2 ^ 5 : Nat) = 32 from rfl] at hhas
              have e3 : bits .and .u8 (y.toNat : Int) 32 = ((y.toNat &&& 32 : Nat) : Int) := u8_and_nat y.toNat 32 y.toNat_lt (by omega)
              obtain ⟨z, hzz⟩ : ∃ z : Nat, y.toNat &&& 32 = z := ⟨_, rfl⟩
              rw [hzz] at hhas e3
              have HH := hide hhas
              have e6 : IntKind.u16.wrap ((X : Int) * 256 + (k : Int) * 8 + 2) = ((T.mk X (8 * k + 2)).toNat : Int) := by
               rw [T.mk_nat X (8 * k + 2) hx (by omega), IntKind.wrap_u16]; omega
              clear hhas hzz
              by_cases hz0 : z = 0
              ·have hno : T.has bs (8 * k + 2) = false := by
                have : ¬ T.has bs (8 * k + 2) = true := fun h => (HH.out.2 h) hz0
                simpa using this
               have e5 : ((z : Int) != 0) = false := by simp [hz0]
               go_wp2
               go_quiet (fail)
               go_wp2
               go_roundw
               case rel => exact ⟨3, rfl, by omega, (by rw [show 8 * k + 3 = (8 * k + 2) + 1 by omega, T.typUp_no X bs _ hno]; exact HO.out), below_drewN hB _⟩
               case measure => simp [intOf]
              ·have hyes : T.has bs (8 * k + 2) = true := HH.out.1 hz0
               have e5 : ((z : Int) != 0) = true := by simp [hz0]
               have hml : (m ++ T.typUp X bs (8 * k + 2)).length <= 1000256 := by rw [List.length_append]; have := T.typUp_len X bs (8 * k + 2); omega
               go_wp2
               go_quiet (fail)
               have HO2 : Hid (OwnH (wr.drewN nq) w.heap.size u4 (m ++ T.typUp X bs (8 * k + 2))) := HO.out
               have hB2 := below_drewN hB nq
               have hz2 := hB2.size
               clear hB HO cy hz
               generalize wr.drewN nq = w2 at HO2 hB2 hz2 ⊢
               clear nq
               go_wp2_with (at_builtin; refine wpList_append_H rfl (.tmp 81) (.tmp 90) rfl w.heap.size _ (m ++ T.typUp X bs (8 * k + 2)) rfl (by exact HO2.out.alloc _) _ _ _ [T.mk X (8 * k + 2)] rfl rfl (SlH.oneI _ _ _ _ (by first | rfl | (rw [T.mk_nat X _ hx (by omega)]; omega))) (by simp) (by simp at hml ⊢; omega) (by simp; omega) ?_; intro v4 w4 hO4 hG4; have hB4 := grown_belowH (HO2.out.alloc _) hG4 (hB2.alloc hz2 _) (by simp; omega); clear hG4)
               go_roundw
               case rel => exact ⟨3, rfl, by omega, (by rw [show 8 * k + 3 = (8 * k + 2) + 1 by omega, T.typUp_yes X bs _ hyes, <- List.append_assoc]; exact hO4), hB4⟩
               case measure => simp [intOf]
             ·subst hr
              have hhas := T.and_has bs (8 * k + 3)
              rw [show (8 * k + 3) / 8 = k by omega, show 7 - (8 * k + 3) % 8 = 4 by omega, HY.out, show (2 ^ 4 : Nat) = 16 from rfl] at hhas
              have e3 : bits .and .u8 (y.toNat : Int) 16 = ((y.toNat &&& 16 : Nat) : Int) := u8_and_nat y.toNat 16 y.toNat_lt (by omega)
              obtain ⟨z, hzz⟩ : ∃ z : Nat, y.toNat &&& 16 = z := ⟨_, rfl⟩
              rw [hzz] at hhas e3
              have HH := hide hhas
              have e6 : IntKind.u16.wrap ((X : Int) * 256 + (k : Int) * 8 + 3) = ((T.mk X (8 * k + 3)).toNat : Int) := by
               rw [T.mk_nat X (8 * k + 3) hx (by omega), IntKind.wrap_u16]; omega
              clear hhas hzz
              by_cases hz0 : z = 0
              ·have hno : T.has bs (8 * k + 3) = false := by
                have : ¬ T.has bs (8 * k + 3) = true := fun h => (HH.out.2 h) hz0
                simpa using this
               have e5 : ((z : Int) != 0) = false := by simp [hz0]
               go_wp2
               go_quiet (fail)
               go_wp2
               go_roundw
               case rel => exact ⟨4, rfl, by omega, (by rw [show 8 * k + 4 = (8 * k + 3) + 1 by omega, T.typUp_no X bs _ hno]; exact HO.out), below_drewN hB _⟩
               case measure => simp [intOf]
              ·have hyes : T.has bs (8 * k + 3) = true := HH.out.1 hz0
               have e5 : ((z : Int) != 0) = true := by simp [hz0]
               have hml : (m ++ T.typUp X bs (8 * k + 3)).length <= 1000256 := by rw [List.length_append]; have := T.typUp_len X bs (8 * k + 3); omega
               go_wp2
               go_quiet (fail)
               have HO2 : Hid (OwnH (wr.drewN nq) w.heap.size u4 (m ++ T.typUp X bs (8 * k + 3))) := HO.out
               have hB2 := below_drewN hB nq
               have hz2 := hB2.size
               clear hB HO cy hz
               generalize wr.drewN nq = w2 at HO2 hB2 hz2 ⊢
               clear nq
               go_wp2_with (at_builtin; refine wpList_append_H rfl (.tmp 81) (.tmp 90) rfl w.heap.size _ (m ++ T.typUp X bs (8 * k + 3)) rfl (by exact HO2.out.alloc _) _ _ _ [T.mk X (8 * k + 3)] rfl rfl (SlH.oneI _ _ _ _ (by first | rfl | (rw [T.mk_nat X _ hx (by omega)]; omega))) (by simp) (by simp at hml ⊢; omega) (by simp; omega) ?_; intro v4 w4 hO4 hG4; have hB4 := grown_belowH (HO2.out.alloc _) hG4 (hB2.alloc hz2 _) (by simp; omega); clear hG4)
               go_roundw
               case rel => exact ⟨4, rfl, by omega, (by rw [show 8 * k + 4 = (8 * k + 3) + 1 by omega, T.typUp_yes X bs _ hyes, <- List.append_assoc]; exact hO4), hB4⟩
               case measure => simp [intOf]
             ·subst hr
              have hhas := T.and_has bs (8 * k + 4)
              rw [show (8 * k + 4) / 8 = k by omega, show 7 - (8 * k + 4) % 8 = 3 by omega, HY.out, show (2 ^ 3 : Nat) = 8 from rfl] at hhas
              have e3 : bits .and .u8 (y.toNat : Int) 8 = ((y.toNat &&& 8 : Nat) : Int) := u8_and_nat y.toNat 8 y.toNat_lt (by omega)
              obtain ⟨z, hzz⟩ : ∃ z : Nat, y.toNat &&& 8 = z := ⟨_, rfl⟩
              rw [hzz] at hhas e3
              have HH := hide hhas
              have e6 : IntKind.u16.wrap ((X : Int) * 256 + (k : Int) * 8 + 4) = ((T.mk X (8 * k + 4)).toNat : Int) := by
               rw [T.mk_nat X (8 * k + 4) hx (by omega), IntKind.wrap_u16]; omega
              clear hhas hzz
              by_cases hz0 : z = 0
              ·have hno : T.has bs (8 * k + 4) = false := by
                have : ¬ T.has bs (8 * k + 4) = true := fun h => (HH.out.2 h) hz0
                simpa using this
               have e5 : ((z : Int) != 0) = false := by simp [hz0]
               go_wp2
               go_quiet (fail)
               go_wp2
               go_roundw
               case rel => exact ⟨5, rfl, by omega, (by rw [show 8 * k + 5 = (8 * k + 4) + 1 by omega, T.typUp_no X bs _ hno]; exact HO.out), below_drewN hB _⟩
               case measure => simp [intOf]
              ·have hyes : T.has bs (8 * k + 4) = true := HH.out.1 hz0
               have e5 : ((z : Int) != 0) = true := by simp [hz0]
               have hml : (m ++ T.typUp X bs (8 * k + 4)).length <= 1000256 := by rw [List.length_append]; have := T.typUp_len X bs (8 * k + 4); omega
               go_wp2
               go_quiet (fail)
               have HO2 : Hid (OwnH (wr.drewN nq) w.heap.size u4 (m ++ T.typUp X bs (8 * k + 4))) := HO.out
               have hB2 := below_drewN hB nq
               have hz2 := hB2.size
               clear hB HO cy hz
               generalize wr.drewN nq = w2 at HO2 hB2 hz2 ⊢
               clear nq
               go_wp2_with (at_builtin; refine wpList_append_H rfl (.tmp 81) (.tmp 90) rfl w.heap.size _ (m ++ T.typUp X bs (8 * k + 4)) rfl (by exact HO2.out.alloc _) _ _ _ [T.mk X (8 * k + 4)] rfl rfl (SlH.oneI _ _ _ _ (by first | rfl | (rw [T.mk_nat X _ hx (by omega)]; omega))) (by simp) (by simp at hml ⊢; omega) (by simp; omega) ?_; intro v4 w4 hO4 hG4; have hB4 := grown_belowH (HO2.out.alloc _) hG4 (hB2.alloc hz2 _) (by simp; omega); clear hG4)
               go_roundw
               case rel => exact ⟨5, rfl, by omega, (by rw [show 8 * k + 5 = (8 * k + 4) + 1 by omega, T.typUp_yes X bs _ hyes, <- List.append_assoc]; exact hO4), hB4⟩
               case measure => simp [intOf]
             ·subst hr
              have hhas := T.and_has bs (8 * k + 5)
              rw [show (8 * k + 5) / 8 = k by omega, show 7 - (8 * k + 5) % 8 = 2 by omega, HY.out, show (2 ^ 2 : Nat) = 4 from rfl] at hhas
              have e3 : bits .and .u8 (y.toNat : Int) 4 = ((y.toNat &&& 4 : Nat) : Int) := u8_and_nat y.toNat 4 y.toNat_lt (by omega)
              obtain ⟨z, hzz⟩ : ∃ z : Nat, y.toNat &&& 4 = z := ⟨_, rfl⟩
              rw [hzz] at hhas e3
              have HH := hide hhas
              have e6 : IntKind.u16.wrap ((X : Int) * 256 + (k : Int) * 8 + 5) = ((T.mk X (8 * k + 5)).toNat : Int) := by
               rw [T.mk_nat X (8 * k + 5) hx (by omega), IntKind.wrap_u16]; omega
              clear hhas hzz
              by_cases hz0 : z = 0
              ·have hno : T.has bs (8 * k + 5) = false := by
                have : ¬ T.has bs (8 * k + 5) = true := fun h => (HH.out.2 h) hz0
                simpa using this
               have e5 : ((z : Int) != 0) = false := by simp [hz0]
               go_wp2
               go_quiet (fail)
               go_wp2
               go_roundw
               case rel => exact ⟨6, rfl, by omega, (by rw [show 8 * k + 6 = (8 * k + 5) + 1 by omega, T.typUp_no X bs _ hno]; exact HO.out), below_drewN hB _⟩
               case measure => simp [intOf]
              ·have hyes : T.has bs (8 * k + 5) = true := HH.out.1 hz0
               have e5 : ((z : Int) != 0) = true := by simp [hz0]
               have hml : (m ++ T.typUp X bs (8 * k + 5)).length <= 1000256 := by rw [List.length_append]; have := T.typUp_len X bs (8 * k + 5); omega
               go_wp2
               go_quiet (fail)
               have HO2 : Hid (OwnH (wr.drewN nq) w.heap.size u4 (m ++ T.typUp X bs (8 * k + 5))) := HO.out
               have hB2 := below_drewN hB nq
               have hz2 := hB2.size
               clear hB HO cy hz
               generalize wr.drewN nq = w2 at HO2 hB2 hz2 ⊢
               clear nq
               go_wp2_with (at_builtin; refine wpList_append_H rfl (.tmp 81) (.tmp 90) rfl w.heap.size _ (m ++ T.typUp X bs (8 * k + 5)) rfl (by exact HO2.out.alloc _) _ _ _ [T.mk X (8 * k + 5)] rfl rfl (SlH.oneI _ _ _ _ (by first | rfl | (rw [T.mk_nat X _ hx (by omega)]; omega))) (by simp) (by simp at hml ⊢; omega) (by simp; omega) ?_; intro v4 w4 hO4 hG4; have hB4 := grown_belowH (HO2.out.alloc _) hG4 (hB2.alloc hz2 _) (by simp; omega); clear hG4)
               go_roundw
               case rel => exact ⟨6, rfl, by omega, (by rw [show 8 * k + 6 = (8 * k + 5) + 1 by omega, T.typUp_yes X bs _ hyes, <- List.append_assoc]; exact hO4), hB4⟩
               case measure => simp [intOf]
             ·subst hr
              have hhas := T.and_has bs (8 * k + 6)
              rw [show (8 * k + 6) / 8 = k by omega, show 7 - (8 * k + 6) % 8 = 1 by omega, HY.out, show (2 ^ 1 : Nat) = 2 from rfl] at hhas
              have e3 : bits .and .u8 (y.toNat : Int) 2 = ((y.toNat &&& 2 : Nat) : Int) := u8_and_nat y.toNat 2 y.toNat_lt (by omega)
              obtain ⟨z, hzz⟩ : ∃ z : Nat, y.toNat &&& 2 = z := ⟨_, rfl⟩
              rw [hzz] at hhas e3
              have HH := hide hhas
              have e6 : IntKind.u16.wrap ((X : Int) * 256 + (k : Int) * 8 + 6) = ((T.mk X (8 * k + 6)).toNat : Int) := by
               rw [T.mk_nat X (8 * k + 6) hx (by omega), IntKind.wrap_u16]; omega
              clear hhas hzz
              by_cases hz0 : z = 0
              ·have hno : T.has bs (8 * k + 6) = false := by
                have : ¬ T.has bs (8 * k + 6) = true := fun h => (HH.out.2 h) hz0
                simpa using this
               have e5 : ((z : Int) != 0) = false := by simp [hz0]
               go_wp2
               go_quiet (fail)
               go_wp2
               go_roundw
               case rel => exact ⟨7, rfl, by omega, (by rw [show 8 * k + 7 = (8 * k + 6) + 1 by omega, T.typUp_no X bs _ hno]; exact HO.out), below_drewN hB _⟩
               case measure => simp [intOf]
              ·have hyes : T.has bs (8 * k + 6) = true := HH.out.1 hz0
               have e5 : ((z : Int) != 0) = true := by simp [hz0]
               have hml : (m ++ T.typUp X bs (8 * k + 6)).length <= 1000256 := by rw [List.length_append]; have := T.typUp_len X bs (8 * k + 6); omega
               go_wp2
               go_quiet (fail)
               have HO2 : Hid (OwnH (wr.drewN nq) w.heap.size u4 (m ++ T.typUp X bs (8 * k + 6))) := HO.out
               have hB2 := below_drewN hB nq
               have hz2 := hB2.size
               clear hB HO cy hz
               generalize wr.drewN nq = w2 at HO2 hB2 hz2 ⊢
               clear nq
               go_wp2_with (at_builtin; refine wpList_append_H rfl (.tmp 81) (.tmp 90) rfl w.heap.size _ (m ++ T.typUp X bs (8 * k + 6)) rfl (by exact HO2.out.alloc _) _ _ _ [T.mk X (8 * k + 6)] rfl rfl (SlH.oneI _ _ _ _ (by first | rfl | (rw [T.mk_nat X _ hx (by omega)]; omega))) (by simp) (by simp at hml ⊢; omega) (by simp; omega) ?_; intro v4 w4 hO4 hG4; have hB4 := grown_belowH (HO2.out.alloc _) hG4 (hB2.alloc hz2 _) (by simp; omega); clear hG4)
               go_roundw
               case rel => exact ⟨7, rfl, by omega, (by rw [show 8 * k + 7 = (8 * k + 6) + 1 by omega, T.typUp_yes X bs _ hyes, <- List.append_assoc]; exact hO4), hB4⟩
               case measure => simp [intOf]
             ·subst hr
              have hhas := T.and_has bs (8 * k + 7)
              rw [show (8 * k + 7) / 8 = k by omega, show 7 - (8 * k + 7) % 8 = 0 by omega, HY.out, show (2 ^ 0 : Nat) = 1 from rfl] at hhas
              have e3 : bits .and .u8 (y.toNat : Int) 1 = ((y.toNat &&& 1 : Nat) : Int) := u8_and_nat y.toNat 1 y.toNat_lt (by omega)
              obtain ⟨z, hzz⟩ : ∃ z : Nat, y.toNat &&& 1 = z := ⟨_, rfl⟩
              rw [hzz] at hhas e3
              have HH := hide hhas
              have e6 : IntKind.u16.wrap ((X : Int) * 256 + (k : Int) * 8 + 7) = ((T.mk X (8 * k + 7)).toNat : Int) := by
               rw [T.mk_nat X (8 * k + 7) hx (by omega), IntKind.wrap_u16]; omega
              clear hhas hzz
              by_cases hz0 : z = 0
              ·have hno : T.has bs (8 * k + 7) = false := by
                have : ¬ T.has bs (8 * k + 7) = true := fun h => (HH.out.2 h) hz0
                simpa using this
               have e5 : ((z : Int) != 0) = false := by simp [hz0]
               go_wp2
               go_quiet (fail)
               go_wp2
               go_roundw
               case rel => exact ⟨8, rfl, by omega, (by rw [show 8 * k + 8 = (8 * k + 7) + 1 by omega, T.typUp_no X bs _ hno]; exact HO.out), below_drewN hB _⟩
               case measure => simp [intOf]
              ·have hyes : T.has bs (8 * k + 7) = true := HH.out.1 hz0
               have e5 : ((z : Int) != 0) = true := by simp [hz0]
               have hml : (m ++ T.typUp X bs (8 * k + 7)).length <= 1000256 := by rw [List.length_append]; have := T.typUp_len X bs (8 * k + 7); omega
               go_wp2
               go_quiet (fail)
               have HO2 : Hid (OwnH (wr.drewN nq) w.heap.size u4 (m ++ T.typUp X bs (8 * k + 7))) := HO.out
               have hB2 := below_drewN hB nq
               have hz2 := hB2.size
               clear hB HO cy hz
               generalize wr.drewN nq = w2 at HO2 hB2 hz2 ⊢
               clear nq
               go_wp2_with (at_builtin; refine wpList_append_H rfl (.tmp 81) (.tmp 90) rfl w.heap.size _ (m ++ T.typUp X bs (8 * k + 7)) rfl (by exact HO2.out.alloc _) _ _ _ [T.mk X (8 * k + 7)] rfl rfl (SlH.oneI _ _ _ _ (by first | rfl | (rw [T.mk_nat X _ hx (by omega)]; omega))) (by simp) (by simp at hml ⊢; omega) (by simp; omega) ?_; intro v4 w4 hO4 hG4; have hB4 := grown_belowH (HO2.out.alloc _) hG4 (hB2.alloc hz2 _) (by simp; omega); clear hG4)
               go_roundw
               case rel => exact ⟨8, rfl, by omega, (by rw [show 8 * k + 8 = (8 * k + 7) + 1 by omega, T.typUp_yes X bs _ hyes, <- List.append_assoc]; exact hO4), hB4⟩
               case measure => simp [intOf]
            ·obtain rfl : j = 8 := by omega
             go_wp2
             go_roundw
             case rel => exact ⟨k + 1, by go_num, by omega, (by rw [show 8 * (k + 1) = 8 * k + 8 by omega]; exact hO), hB⟩
             case measure => simp [intOf]; omega
          ·obtain rfl : k = M := by omega
           have ek : ¬ (k : Int) < (k : Int) := by omega
           have htl := T.typUp_len X bs (8 * k)
           rw [<- HBL.out, T.typUp_all] at hO
           rw [<- HBL.out, T.typUp_all] at htl
           have hop := HOP.out HGB.out
           have HO := hide hO
           have HTL := hide htl
           have HOQ := hide hop
           clear hO htl hop
           go_wp2
           go_roundw
           case rel =>
            refine ⟨i + (2 + k), X + 1, m ++ T.typ X bs, by first | rfl | (congr 1; done) | (congr 1; omega), by omega, by first | rfl | (congr 1; done) | (congr 1; omega), by omega, HO.out, hB, ?_, ?_⟩
            ·rw [List.length_append]
             have h1 := HTL.out
             have h2 := HBL.out
             omega
            ·rw [HE.out, HOQ.out, HD2.out]
             cases T.opn (X + 1) (r.drop k) <;> simp
           case measure => simp [intOf]; omega
  ·obtain rfl : i = len := by omega
   go_wp2
   go_ret2
   refine ⟨hB, Or.inl ⟨m, _, ?_, rfl, HO.out⟩⟩
   rw [HE.out, List.drop_eq_nil_of_le (by rw [hl.out]; exact Nat.le_refl _), T.opn_nil]; simp
end Go.Proofs.YtbkegikdmmnkaaaGreat
namespace Go.Proofs.YtbkegikdmmnkaaaGreat
open Go.RowKit
set_option maxRecDepth 5000
end Go.Proofs.YtbkegikdmmnkaaaGreat
namespace Go.Proofs.YtbkegikdmmnkaaaGreat
set_option maxRecDepth 5000
open Go.RowKit
theorem step_fn {ops : Array Oper} {o : Oper} {a : Act} {w : World} {K : Act -> World -> Prop} {Q : Exit -> Act -> World -> Prop} {E : Prop} (f : FuncId) (args : Array Operand) (tys : Array TypeId) (_ho : o.op = .call { callee := .value (.func f), args := args, argTypes := tys }) (hgd : o.guard = none) (vals : Array Value)
 (hx : (execOp a.eval o).run Tryz.prog w = .ok (.enter f vals) w) {R : Ending -> World -> Prop} (hc : Calls Tryz.prog f vals w R) (hr : ∀ e w', R e w' -> ∃ v, e = .returned v)
 (h : ∀ v w', R (.returned v) w' -> K (a.put o.dst v) w') : if Region.wanted o (yielded ops a.tmps) = true then Oper.wp Tryz.prog o a w K Q else E := step_call hgd f vals hx hc hr h
namespace D
def gv (l : List UInt8) : Nat := l.foldl (fun a b => a * 256 + b.toNat) 0
theorem gv_next (l : List UInt8) (j : Nat) (h : j < l.length) : gv (l.take (j + 1)) = gv (l.take j) * 256 + (l.getD j 0).toNat := by
 rw [N.take_nextB l j h]
 unfold gv
 rw [List.foldl_append]; rfl
theorem gv_lt : ∀ (l : List UInt8), gv l < 256 ^ l.length := by
 intro l
 have h : ∀ (l : List UInt8) (a : Nat), l.foldl (fun a b => a * 256 + b.toNat) a < (a + 1) * 256 ^ l.length := by
  intro l
  induction l with
  | nil => intro a; simp
  | cons x l ih =>
   intro a
   rw [List.foldl_cons, List.length_cons, Nat.pow_succ]
   refine Nat.lt_of_lt_of_le (ih _) ?_
   have := x.toNat_lt
   have h2 : a * 256 + x.toNat + 1 <= (a + 1) * 256 := by omega
   calc (a * 256 + x.toNat + 1) * 256 ^ l.length <= ((a + 1) * 256) * 256 ^ l.length := Nat.mul_le_mul_right _ h2
    _ = (a + 1) * (256 ^ l.length * 256) := by rw [Nat.mul_assoc, Nat.mul_comm 256]
 have := h l 0
 simpa [gv] using this
theorem gv_take_lt (l : List UInt8) (j : Nat) (hl : l.length <= 4) (hj : j < l.length) : gv (l.take j) < 16777216 := by
 have h1 := gv_lt (l.take j)
 have h2 : (l.take j).length <= 3 := by rw [List.length_take]; omega
 have h3 : 256 ^ (l.take j).length <= 256 ^ 3 := Nat.pow_le_pow_right (by omega) h2
 omega
theorem n16_gv (x y : UInt8) (r : List UInt8) : n16 (x :: y :: r) = some (gv [x, y], r) := by simp [n16, gv]
theorem n32_gv (x y z u : UInt8) (r : List UInt8) : n32 (x :: y :: z :: u :: r) = some (gv [x, y, z, u], r) := by
 simp only [n32, n16, Option.bind_some, Option.map_some, gv, List.foldl_cons, List.foldl_nil]
 congr 2; omega
end D
theorem or_8 (x y : Nat) (hx : x < 16777216) (hy : y < 256) : bits .or .u32 ((x : Int) * 256) (y : Int) = ((x * 256 + y : Nat) : Int) := by
 have := u32_or_nat (x * 256) y (by omega) (by omega)
 rw [nat_join 8 (x * 256) y (by omega) (by omega), Int.natCast_mul] at this
 exact this
theorem get_any (l : List UInt8) (ao : Option Addr) (len cap : Nat) (w : World) (hl : Hid (l.length = len)) (hs : SlL w ao l) (h4 : len <= 4) :
 Calls Tryz.prog 161 #[.slice ao len cap] w fun e w' => e = .returned (.int .u32 (D.gv l : Int)) /\ w' = w := by
 have HS := hide hs
 clear hs
 go_enter Tryz.func161, Tryz.ntmps161
 go_wp2
 go_loopw [4, 3] (fun i v wr => ∃ j : Nat, i = .int .i64 (j : Int) /\ j <= len /\ v = .int .u32 (D.gv (l.take j) : Int) /\ wr = w) (fun i _ _ => len - (intOf i).toNat)
 case atStart => exact ⟨0, rfl, by omega, rfl, rfl⟩
 case round =>
  obtain ⟨j, rfl, hj, rfl, rfl⟩ := hrel
  by_cases hlt : j < len
  ·obtain ⟨b1, o1, rfl, hb1, hc1⟩ := HS.out (by have := hl.out; omega)
   have hx := hc1 j (by have := hl.out; omega)
   have hn := D.gv_next l j (by have := hl.out; omega)
   have hg := D.gv_take_lt l j (by have := hl.out; omega) (by have := hl.out; omega)
   have hy := (l.getD j 0).toNat_lt
   clear hc1
   generalize (l.getD j 0).toNat = y at hx hn hy
   generalize D.gv (l.take j) = x at hn hg
   have HN := hide hn
   have hor := or_8 x y hg hy
   clear hn
   have hjl : (j : Int) < (len : Int) := by omega
   go_wp2
   go_roundw
   case rel => exact ⟨j + 1, by go_num, by omega, by rw [HN.out]; simp, trivial⟩
   case measure => simp [intOf]; omega
  ·obtain rfl : j = len := by omega
   have ht : l.take j = l := by rw [<- hl.out]; exact List.take_length
   rw [ht]
   go_wp2
   go_ret
   exact ⟨rfl, rfl⟩
namespace D
def put (n k i : Nat) : List UInt8 := (List.range (k - i)).map (fun j => UInt8.ofNat (n / 2 ^ (8 * (k - 1 - j))))
theorem put_next (n k i : Nat) (h : i < k) : put n k i = put n k (i + 1) ++ [UInt8.ofNat (n / 2 ^ (8 * i))] := by
 unfold put
 rw [show k - i = (k - (i + 1)) + 1 by omega, List.range_succ, List.map_append, List.map_cons, List.map_nil]
 congr 3
 rw [show k - 1 - (k - (i + 1)) = i by omega]
theorem put_all (n k : Nat) : put n k k = [] := by unfold put; rw [Nat.sub_self]; rfl
theorem put_2 (n : Nat) : put n 2 0 = p16 n := by
 simp [put, p16, List.range_succ]
theorem put_4 (n : Nat) : put n 4 0 = p32 n := by
 have e1 : UInt8.ofNat (n / 256) = UInt8.ofNat (n % 65536 / 256) := by apply UInt8.toNat_inj.1; rw [UInt8.toNat_ofNat', UInt8.toNat_ofNat']; omega
 have e2 : UInt8.ofNat n = UInt8.ofNat (n % 65536) := by apply UInt8.toNat_inj.1; rw [UInt8.toNat_ofNat', UInt8.toNat_ofNat']; omega
 show [UInt8.ofNat (n / 16777216), UInt8.ofNat (n / 65536), UInt8.ofNat (n / 256), UInt8.ofNat (n / 1)] = [UInt8.ofNat (n / 65536 / 256), UInt8.ofNat (n / 65536), UInt8.ofNat (n % 65536 / 256), UInt8.ofNat (n % 65536)]
 rw [<- e1, <- e2, Nat.div_one, Nat.div_div_eq_div_mul]
end D
set_option maxHeartbeats 400000 in
theorem put_any (n k : Nat) (hk : k <= 4) (base : Nat) (v : Value) (l : List UInt8) (w : World) (hO : OwnB w base v l) (hb : base <= w.heap.size) (hl : l.length <= 900000) :
 Calls Tryz.prog 144 #[v, .int .u32 (n : Int), .int .i64 (k : Int)] w fun e w' => ∃ v', e = .returned v' /\ OwnB w' base v' (l ++ D.put n k 0) /\ Kp base w w' := by
 have HO := hide hO
 clear hO
 go_enter Tryz.func144, Tryz.ntmps144
 go_wp2
 go_loopw [7, 0] (fun i v wr => ∃ j : Nat, i = .int .i64 ((j : Int) - 1) /\ j <= k /\ OwnB wr base v (l ++ D.put n k j) /\ Kp base w wr) (fun i _ _ => (intOf i + 1).toNat)
 case atStart => exact ⟨k, rfl, by omega, (by rw [D.put_all, List.append_nil]; exact HO.out), Kp.refl _ _⟩
 case round =>
  obtain ⟨j, rfl, hj, hO, hK⟩ := hrel
  have HOO := hide hO
  have hz := hK.size hb
  have HKK := hide hK
  clear hO hK
  by_cases h0 : j = 0
  ·subst h0
   go_wp2
   go_ret
   exact ⟨_, rfl, HOO.out, HKK.out⟩
  ·obtain ⟨i, rfl⟩ : ∃ i, j = i + 1 := ⟨j - 1, by omega⟩
   have hge : (0 : Int) <= ((i + 1 : Nat) : Int) - 1 := by omega
   have hi : (((i + 1 : Nat) : Int) - 1) = (i : Int) := by omega
   rw [hi]
   have h1 : Hid ((n : Int) / 2 ^ (8 * i) % 256 = ((UInt8.ofNat (n / 2 ^ (8 * i))).toNat : Int)) := by
    show _ = _
    rw [UInt8.toNat_ofNat']
    push_cast
    rfl
   have hpl : (D.put n k (i + 1)).length <= 4 := by simp [D.put]; omega
   have HN := hide (D.put_next n k i (by omega))
   go_wp2_with (at_builtin; refine wpList_append_B rfl (.tmp 14) (.tmp 20) rfl base _ (l ++ D.put n k (i + 1)) rfl (by exact HOO.out.alloc _) _ _ _ [UInt8.ofNat (n / 2 ^ (8 * i))] rfl rfl (by exact SlL.oneI _ _ _ _ h1.out) (by intro h; cases h) (by simp only [List.length_append]; omega) (by simp; omega) ?_; intro v4 w4 hO4 hG4; have hK4 := Kp.app HOO.out hG4 hz; clear hG4)
   go_roundw
   case rel => exact ⟨i, rfl, by omega, (by rw [HN.out, <- List.append_assoc]; exact hO4), HKK.out.trans hK4⟩
   case measure => simp [intOf]
def wholeB (b : List UInt8) : Bool := (D.nm b).any fun p => decide (p.2 = [])
theorem whole_any (b : List UInt8) (ao : Option Addr) (len cap : Nat) (w : World) (hl : Hid (b.length = len)) (hs : SlL w ao b) (hm : len <= 1000000000) (hcap : len <= cap) :
 Calls Tryz.prog 121 #[.slice ao len cap] w fun e w' => e = .returned (.bool (wholeB b)) /\ Below w.heap.size w w' := by
 have HS := hide hs
 clear hs
 go_enter Tryz.func121, Tryz.ntmps121
 go_wp2_with fail
 refine (rOpen_any b ao len cap _ hl (by exact HS.out) hm hcap).mono ?_
 rintro e w1 ⟨⟨n, v, hn, hz, rfl, hO⟩ | ⟨hn, rfl⟩ | ⟨n, hn, hz, rfl⟩, hb1⟩
 ·obtain ⟨_, _, hsz⟩ := N.opn_small b n hn
  have hR : D.nm b = some (n, b.drop (N.size n)) := by unfold D.nm; rw [hn, Option.bind_some, if_pos hz]
  have hlen := hl.out
  by_cases he : N.size n = len
  ·have hW : wholeB b = true := by unfold wholeB; rw [hR, List.drop_eq_nil_of_le (by omega)]; rfl
   have he2 : ((N.size n : Int) == (len : Int)) = true := by rw [he]; simp
   have HW := hide hW
   clear hR hn hW he hlen
   go_wp2
   go_ret
   exact ⟨by rw [HW.out]; rfl, hb1⟩
  ·have hW : wholeB b = false := by
    have : b.drop (N.size n) ≠ [] := fun e => by
     have := congrArg List.length e
     rw [List.length_drop] at this
     simp at this; omega
    unfold wholeB; rw [hR]
    simp only [Option.any_some]
    exact decide_eq_false this
   have he2 : ((N.size n : Int) == (len : Int)) = false := beq_eq_false_iff_ne.2 (by omega)
   have HW := hide hW
   clear hR hn hW he hlen
   go_wp2
   go_ret
   exact ⟨by rw [HW.out]; rfl, hb1⟩
 ·have hW : wholeB b = false := by unfold wholeB D.nm; rw [hn]; rfl
  have HW := hide hW
  clear hn hW
  go_wp2
  go_ret
  exact ⟨by rw [HW.out]; rfl, hb1⟩
 ·have hW : wholeB b = false := by unfold wholeB D.nm; rw [hn, Option.bind_some, if_neg (by omega)]; rfl
  have HW := hide hW
  clear hn hW
  go_wp2
  go_ret
  exact ⟨by rw [HW.out]; rfl, hb1⟩
def wof {w : World} {g t : Nat} {c : Array Value} (_ : RowAt w g t c) : World := w
open Go.RowKit
def Z.Thin (L : List Z.R) : Prop := ∀ x ∈ L, ∀ l ∈ x.p, l.length <= 63
theorem path_rev {p : List (List UInt8)} (h : Z.Low p) : path p.reverse = p := by
 unfold path
 have e : N.lowN p.reverse = (N.lowN p).reverse := List.map_reverse
 unfold Z.Low at h
 rw [e, h, List.reverse_reverse]
theorem nclone_two (w : World) (a : Option Addr) (c : Nat) (n : List (List UInt8)) (len : Nat) (hl : Hid (n.length = len)) (h0 : n = [] -> a = none) (hl2 : len <= 1000000) (hs : SlS w a n) :
 Calls Tryz.prog 55 #[.slice a len c] w fun e w' => ∃ v, e = .returned v /\ OwnS w' w.heap.size v n /\ Below w.heap.size w w' := by
 have hl := hl.out
 subst hl
 by_cases e : n = []
 ·rw [h0 e]
  refine (nclone_nil w n.length c).mono ?_
  rintro e2 w' ⟨rfl, rfl⟩
  rw [e]
  exact ⟨_, rfl, OwnS.nil _ _, Below.refl _ _⟩
 ·exact nclone_any w a c n (List.length_pos_iff.2 e) hl2 hs
theorem OwnH.at_ {w : World} {base m c : Nat} {a : Option Addr} {l : List UInt16} (h : OwnH w base (.slice a m c) l) (hm : m = l.length) (j : Nat) (hj : j < l.length) : ∃ g, a = some ⟨g, 0, none⟩ /\ w.cell? ⟨g, j, none⟩ = some (.int .u16 (l.getD j 0).toNat) := by
 have h0 : w.ownsRow base 36 1 (.slice a m c) l.length (vh l) := h
 subst hm
 rcases h0.2 with ⟨h1, h2⟩ | ⟨g, cap, cur, e, h1, h2, h3⟩
 ·omega
 ·injection e with e1 e2 e3
  subst e1; subst e3
  refine ⟨g, rfl, ?_⟩
  have := (OwnH.sl (g := g) (cap := c) h) (by omega)
  obtain ⟨b, o, e, _, hc⟩ := this
  injection e with e; injection e with e1 e2
  subst e1; subst e2
  have := hc j hj
  rwa [Nat.zero_add] at this
structure RIs (w : World) (A1 : Value) (P : List (List (List UInt8))) (v : Value) (M : List Z.R) (wr : World) : Prop where
 out : OwnL 39 5 ER wr w.heap.size v M
 bel : Below w.heap.size w wr
 nms : OwnL 28 1 EM wr w.heap.size A1 (P.map List.reverse)
theorem RIs.mv {w wr wq : World} {A1 : Value} {P : List (List (List UInt8))} {v : Value} {M : List Z.R} (h : RIs w A1 P v M wr) (hb : Below wr.heap.size wr wq) : RIs w A1 P v M wq :=
 ⟨h.out.bel (fun _ _ h => h.kb (KB.of_below hb)) hb, h.bel.trans (hb.mono h.bel.size), h.nms.bel (fun _ _ h => h.kb (KB.of_below hb)) hb⟩
theorem RIs.add {w wr wq : World} {A1 : Value} {P : List (List (List UInt8))} {v v' : Value} {M M' : List Z.R} (h : RIs w A1 P v M wr) (hk : KX 39 wr wq) (hb : Below w.heap.size wr wq) (ho : OwnL 39 5 ER wq w.heap.size v' M') : RIs w A1 P v' M' wq :=
 ⟨ho, h.bel.trans hb, h.nms.kx hk (fun _ _ h => h.kb (hk.kb (by decide))) (by decide)⟩
theorem one_cell (w : World) (g : Nat) (c : Array Value) (t : TypeId) (h : RowAt w g t c) : ∀ j u, c.toList[j]? = some u -> w.cell? ((⟨g, 0, none⟩ : Addr).add j) = some u := fun j u hu => by
 rw [Addr.add_mid, Nat.zero_add, h.cell j]
 simpa using hu
theorem er_mk {w' : World} {r : Z.R} {p n : List (List UInt8)} {t T pl dl c6 dc : Nat} {a6 da : Option Addr} (hR : r.p = p /\ r.t = t /\ r.ttl = T) (hn : n = p.reverse) (hpl : pl = p.length) (hdl : dl = r.d.length) (T6 : TyS w' a6 n) (h1 : pl <= c6) (h2 : a6 = none -> c6 = 0) (TD : TyL w' da r.d) (h3 : da = none -> dc = 0) (h4 : r.d.length <= dc) :
 ER w' r [.slice a6 pl c6, .int .u16 (t : Int), .int .u16 1, .int .u32 (T : Int), .slice da dl dc] := by
 obtain ⟨e1, e2, e3⟩ := hR
 subst e1; subst e2; subst e3; subst hpl; subst hdl; subst hn
 exact ⟨a6, c6, da, dc, rfl, T6, h1, h2, TD, h3, h4⟩
set_option maxRecDepth 100000 in
set_option maxHeartbeats 2000000 in
theorem zrecords_any (w : World) (Zb : Nat) (A : List (List UInt8)) (L : List Z.R) (ρ : Nat -> Role) (G : List (List UInt8) -> Option Nd) (C : List (List UInt8) -> Nat -> Option Z.St) (K : Nat) (Zx : ZAt w Zb A L ρ G C K) (hK : K <= 1000000) (hth : Z.Thin L) :
 Calls Tryz.prog 16 #[.pointer (some ⟨Zb, 0, none⟩)] w fun e w' => ∃ v, e = .returned v /\ OwnL 39 5 ER w' w.heap.size v L /\ Below w.heap.size w w' := by
 obtain ⟨P, hP⟩ : ∃ P, P = Z.paths L := ⟨_, rfl⟩
 obtain ⟨np, hnp⟩ : ∃ np, np = P.length := ⟨_, rfl⟩
 obtain ⟨F, hF⟩ : ∃ F, F = Z.recsAt L := ⟨_, rfl⟩
 have hwhole : P.flatMap F = L := by rw [hP, hF]; exact Z.whole Zx.rise Zx.lows
 have hnum := Zx.num
 have hnpb : np <= 2000 := by rw [hnp, hP]; exact Nat.le_trans (Z.paths_len L) hnum
 have hps := (Z.paths_rise Zx.rise Zx.lows).2
 rw [<- hP] at hps
 have hcall := znames_any w Zb A L ρ G C K Zx hK
 rw [<- hP] at hcall
 have HZ := hide Zx
 have HP := hide hP
 have HNP := hide hnp
 have HF := hide hF
 have HWH := hide hwhole
 have HPS := hide hps
 have HTH := hide hth
 clear Zx hP hnp hF hwhole hps hth
 go_enter Tryz.func16, Tryz.ntmps16
 go_wp2_with (go_at_call 18; refine hcall.mono ?_; rintro e w1 ⟨v1, rfl, hN, hB⟩; obtain ⟨a1, c1, hv1, hn1, hc1⟩ := hN.slice; rw [List.length_map, <- HNP.out] at hv1 hc1; subst hv1)
 have hI0 : RIs w (.slice a1 np c1) P (.slice none 0 0) [] w1 := ⟨OwnL.nil _ _ _ _ _, hB, hN⟩
 clear hcall hN hB
 go_loopw [3, 15] (fun v i wr => ∃ j : Nat, i = .int .i64 (j : Int) /\ j <= np /\ RIs w (.slice a1 np c1) P v ((P.take j).flatMap F) wr) (fun _ i _ => np - (intOf i).toNat)
 case atStart => exact ⟨0, rfl, by omega, hI0⟩
 case round =>
  obtain ⟨j, rfl, hj, hI⟩ := hrel
  clear hI0
  by_cases hlt : j < np
  ·have hjP : j < P.length := by have := HNP.out; omega
   obtain ⟨p, hp⟩ : ∃ p, p = P[j] := ⟨_, rfl⟩
   have hpP : p ∈ P := by rw [hp]; exact List.getElem_mem hjP
   obtain ⟨r0, hr0, hr0p⟩ := (HPS.out p).1 hpP
   have hlow : Z.Low p := by rw [<- hr0p]; exact HZ.out.lows r0 hr0
   have hpl : p.length <= 128 := by rw [<- hr0p]; exact (HZ.out.okk r0 hr0).2.2.2.2
   obtain ⟨pl, hpl2⟩ : ∃ pl, pl = p.length := ⟨_, rfl⟩
   have hnl : Hid (p.reverse.length = pl) := by show _ = _; rw [List.length_reverse, hpl2]
   have hsm : Hid (N.Small p.reverse) := by
    show _ /\ _
    refine ⟨by rw [List.length_reverse]; omega, fun l hl => ?_⟩
    have := HTH.out r0 hr0 l (by rw [hr0p]; simpa using hl)
    omega
   have hpath := path_rev hlow
   obtain ⟨g1, rfl, _, _, _, hg1⟩ := hI.nms.get (by rw [List.length_map]; omega)
   obtain ⟨us, _, ⟨an, cn, rfl, hTn, hnn, hcn, h0n⟩, hus⟩ := hg1 j p.reverse (by rw [List.getElem?_map, List.getElem?_eq_getElem hjP, <- hp]; rfl)
   have hcell : wr.cell? ⟨g1, j, none⟩ = some (.slice an pl cn) := by
    have := hus 0 (by omega)
    rw [Nat.mul_one, Nat.add_zero, hnl.out] at this
    exact this
   rw [hnl.out] at hcn
   have hM1 := Z.flat_succ F P j hjP
   rw [<- hp] at hM1
   have hpre := Z.flat_pre F P j hjP (X := F p) (by rw [<- hp]; exact List.prefix_refl _)
   rw [HWH.out] at hpre
   obtain ⟨n, hn⟩ : ∃ n, n = p.reverse := ⟨_, rfl⟩
   rw [<- hn] at hnl hsm hpath hTn h0n
   obtain ⟨M1, hM⟩ : ∃ M1, M1 = (P.take j).flatMap F := ⟨_, rfl⟩
   rw [<- hM] at hI hM1 hpre
   have hty := ztypes_any wr Zb A L ρ G C K (HZ.out.bel hI.bel) hK n an pl cn hnl hTn.1 hsm
   rw [hpath] at hty
   have HI := hide hI
   have HTN := hide hTn
   have HM1 := hide hM1
   have HPRE := hide hpre
   have H0N := hide h0n
   have HPA := hide hpath
   have HN := hide hn
   have HPL := hide hpl2
   clear hI hTn hM1 hpre h0n hpath hn hM hp hg1 hus hpP hr0 hr0p hlow hpl2
   obtain ⟨wA, rfl⟩ : ∃ wA, wA = wr := ⟨wr, rfl⟩
   go_wp2_with (go_at_call 32; refine hty.mono ?_; rintro e w2 ⟨v2, rfl, ts, hts, hO2, hb2⟩; obtain ⟨a2, c2, hv2, _, _, hc2, hc2m⟩ := hO2.open; obtain ⟨nt, hnt⟩ : ∃ nt, nt = ts.length := ⟨_, rfl⟩; rw [<- hnt] at hv2 hc2; have HNT := hide hnt; have HTS := hide hts; clear hnt hts; subst hv2)
   have hI2 := HI.out.mv hb2
   have HTN2 := hide (HTN.out.kb (KB.of_below hb2))
   have hntl : (Z.typesAt L p).length = nt := by rw [<- HTS.out, List.length_map, HNT.out]
   have HNTL := hide hntl
   have hFp : F p = (Z.typesAt L p).flatMap (fun t => Z.setAt L p t) := by rw [HF.out]; rfl
   have HFP := hide hFp
   have hntb : nt <= 9223372036854775807 := by unfold maxLen at hc2m; omega
   clear hc2 hc2m hntl hFp hty hb2
   go_loopw [3, 23] (fun v i wr => ∃ k : Nat, i = .int .i64 (k : Int) /\ k <= nt /\ RIs w (.slice (some ⟨g1, 0, none⟩) np c1) P v (M1 ++ ((Z.typesAt L p).take k).flatMap (fun t => Z.setAt L p t)) wr /\ OwnH wr wA.heap.size (.slice a2 nt c2) ts /\ TyS wr an n) (fun _ i _ => nt - (intOf i).toNat)
   case atStart => exact ⟨0, rfl, Nat.zero_le _, by simpa using hI2, hO2, HTN2.out⟩
   case round =>
    obtain ⟨k, rfl, hk, hI, hO, hT⟩ := hrel
    clear hI2 hO2
    by_cases hlt2 : k < nt
    ·have hkT : k < (Z.typesAt L p).length := by have := HNTL.out; omega
     obtain ⟨t, ht⟩ : ∃ t, t = (Z.typesAt L p)[k] := ⟨_, rfl⟩
     obtain ⟨g2, rfl, hcell2⟩ := hO.at_ HNT.out k (by have := HNT.out; omega)
     have htk : ((ts.getD k 0).toNat : Int) = (t : Int) := by
      rw [ht]
      have h1 : k < ts.length := by have := HNT.out; omega
      simp [<- HTS.out, List.getD_eq_getElem?_getD, h1]
     rw [htk] at hcell2
     have ht16 : t < 65536 := by
      have := (ts.getD k 0).toNat_lt
      omega
     have htm : t ∈ Z.typesAt L p := by rw [ht]; exact List.getElem_mem hkT
     have hsome := (HZ.out.of.isSome p t).2 (((Z.types_rise HZ.out.rise p).2 t).1 htm)
     have hM2 := Z.flat_succ (fun t => Z.setAt L p t) (Z.typesAt L p) k hkT
     rw [<- ht] at hM2
     have hpre2 : ∀ i, (M1 ++ ((Z.typesAt L p).take k).flatMap (fun t => Z.setAt L p t) ++ (Z.setAt L p t).take i).length <= 2000 := fun i => by
      have h1 := Z.flat_pre (fun t => Z.setAt L p t) (Z.typesAt L p) k hkT (X := (Z.setAt L p t).take i) (by rw [<- ht]; exact List.take_prefix _ _)
      rw [<- HFP.out] at h1
      have h2 := ((List.prefix_append_right_inj M1).2 h1).trans HPRE.out
      have h3 := h2.length_le
      rw [<- List.append_assoc] at h3
      omega
     have hset := zset_any wr Zb A L ρ G C K (HZ.out.bel hI.bel) hK n an pl cn hnl hT.1 hsm t ht16
     unfold SetPost at hset
     rw [HPA.out] at hset
     have HI2 := hide hI
     have HO2 := hide hO
     have HT2 := hide hT
     have HM2 := hide hM2
     have HPRE2 := hide hpre2
     have HSM := hide hsome
     clear hI hO hT hM2 hpre2 hsome htm htk ht
     obtain ⟨wB, rfl⟩ : ∃ wB, wB = wr := ⟨wr, rfl⟩
     go_wp2_with (go_at_call 23; refine hset.mono ?_; rintro e w3 ⟨hb3, ⟨hno, _⟩ | ⟨S, na5, nc5, v5, hS, rfl, hT5, hnc5, hO5⟩⟩; (· exact absurd HSM.out (by rw [hno]; simp)); obtain ⟨a5, c5, hv5, hn5, hc5⟩ := hO5.slice; obtain ⟨nd, hnd⟩ : ∃ nd, nd = (Z.setAt L p t).length := ⟨_, rfl⟩; rw [List.length_map, <- hnd] at hv5 hc5; have HND := hide hnd; clear hnd; subst hv5; have hbx := RowAt.new w3 54 #[.slice na5 pl nc5, .int .u16 (t : Int), .int .u32 (S.ttl : Int), .slice a5 nd c5]; have q3 : (w3.alloc (.cells #[.slice na5 pl nc5, .int .u16 (t : Int), .int .u32 (S.ttl : Int), .slice a5 nd c5] 54)).cell? ⟨w3.heap.size, 3, none⟩ = some (.slice a5 nd c5) := hbx.cell 3)
     have hb34 : Below w3.heap.size w3 (w3.alloc (.cells #[.slice na5 pl nc5, .int .u16 (t : Int), .int .u32 (S.ttl : Int), .slice a5 nd c5] 54)) := (Below.refl _ w3).alloc (Nat.le_refl _) _
     have hbB4 : Below wB.heap.size wB (w3.alloc (.cells #[.slice na5 pl nc5, .int .u16 (t : Int), .int .u32 (S.ttl : Int), .slice a5 nd c5] 54)) := hb3.trans (hb34.mono hb3.size)
     have hI4 := HI2.out.mv hbB4
     have hO4 := HO2.out.kx (KX.of_below (et0 := 39) hbB4) (by decide)
     have hT4 := HT2.out.kb (KB.of_below hbB4)
     have hD4 := hO5.bel (fun _ _ h => h.kb (KB.of_below hb34)) hb34
     have HS := hide hS
     have hndb : nd <= 2000 := by
      have h1 := HND.out
      have h2 : (Z.setAt L p t).length <= L.length := List.length_filter_le _ _
      omega
     clear hb34 hbB4 hb3 hO5 hS q3 hT5 hnc5 hc5 hset
     go_loopw [3, 37] (fun v i wr => ∃ q : Nat, i = .int .i64 (q : Int) /\ q <= nd /\ RIs w (.slice (some ⟨g1, 0, none⟩) np c1) P v (M1 ++ ((Z.typesAt L p).take k).flatMap (fun t => Z.setAt L p t) ++ (Z.setAt L p t).take q) wr /\ OwnH wr wA.heap.size (.slice (some ⟨g2, 0, none⟩) nt c2) ts /\ TyS wr an n /\ OwnL 37 1 EB wr wB.heap.size (.slice a5 nd c5) ((Z.setAt L p t).map (·.d)) /\ RowAt wr w3.heap.size 54 #[.slice na5 pl nc5, .int .u16 (t : Int), .int .u32 (S.ttl : Int), .slice a5 nd c5]) (fun _ i _ => nd - (intOf i).toNat)
     case atStart => exact ⟨0, rfl, Nat.zero_le _, by simpa using hI4, hO4, hT4, hD4, hbx⟩
     case round =>
      obtain ⟨q, rfl, hq, hI, hO, hT, hD, hX⟩ := hrel
      clear hI4 hO4 hT4 hD4 hbx
      by_cases hlt3 : q < nd
      ·have hqs : q < (Z.setAt L p t).length := by have := HND.out; omega
       obtain ⟨r, hr⟩ : ∃ r, r = (Z.setAt L p t)[q] := ⟨_, rfl⟩
       have hrm : r ∈ Z.setAt L p t := by rw [hr]; exact List.getElem_mem hqs
       obtain ⟨hrL, hrp, hrt⟩ := Z.mem_setAt.1 hrm
       have httl : r.ttl = S.ttl := (HZ.out.of.at_ r hrL S (by rw [hrp, hrt]; exact HS.out)).1
       have hM3 : (Z.setAt L p t).take (q + 1) = (Z.setAt L p t).take q ++ [r] := by rw [hr, List.take_append_getElem]
       obtain ⟨g5, rfl, _, _, _, hg5⟩ := hD.get (by rw [List.length_map]; omega)
       obtain ⟨us5, _, ⟨da, dc, rfl, hTd, hnd0, hdc⟩, hus5⟩ := hg5 q r.d (by rw [List.getElem?_map, List.getElem?_eq_getElem hqs, <- hr]; rfl)
       obtain ⟨dl, hdl⟩ : ∃ dl, dl = r.d.length := ⟨_, rfl⟩
       have hcell5 : wr.cell? ⟨g5, q, none⟩ = some (.slice da dl dc) := by
        have := hus5 0 (by omega)
        rw [Nat.mul_one, Nat.add_zero, <- hdl] at this
        exact this
       have x2 : wr.cell? ⟨w3.heap.size, 2, none⟩ = some (.int .u32 (S.ttl : Int)) := hX.cell 2
       have hlen := HPRE2.out q
       have HI3 := hide hI
       have HO3 := hide hO
       have HT3 := hide hT
       have HD3 := hide hD
       have HX3 := hide hX
       have HR := hide (show r.p = p /\ r.t = t /\ r.ttl = S.ttl from ⟨hrp, hrt, httl⟩)
       have HM3 := hide hM3
       have HTD := hide hTd
       have HDL := hide hdl
       have HND0 := hide hnd0
       have HLEN := hide hlen
       clear hI hO hT hD hX hrm hrL hrp hrt httl hM3 hg5 hus5 hTd hdl hr hnd0 hlen
       go_wp2
       go_region_held3 (fun w' => w'.cell? ⟨w3.heap.size, 2, none⟩ = some (.int .u32 (S.ttl : Int))) (first | exact x2 | exact y2 | exact y3 | exact y4) ((first
        | (go_at_call 55; refine (nclone_two _ an cn n pl hnl H0N.out (by have := HPL.out; omega) (by exact HT3.out.1)).mono ?_; rintro e w5 ⟨v6, rfl, hO6, hB5⟩; obtain ⟨a6, c6, hv6, hT6, hn6, hc6⟩ := hO6.ty; rw [hnl.out] at hv6 hc6; subst hv6; have HB5 : Hid (Below wr.heap.size wr w5) := hide (by first | exact hB5 | exact (below_drewN (Below.refl _ wr) 1).trans hB5); have HT6 := hide hT6; have y2 : w5.cell? ⟨w3.heap.size, 2, none⟩ = some (.int .u32 (S.ttl : Int)) := (HX3.out.below HB5.out HX3.out.lt).cell 2; have y3 : (w5.alloc (.cells #[.slice a6 pl c6, .int .u16 (t : Int), .int .u16 1, .int .u32 (S.ttl : Int), .slice da dl dc] 39)).cell? ⟨w3.heap.size, 2, none⟩ = some (.int .u32 (S.ttl : Int)) := ((HX3.out.below HB5.out HX3.out.lt).alloc _).cell 2; have HB6 : Hid (Below wr.heap.size wr (w5.alloc (.cells #[.slice a6 pl c6, .int .u16 (t : Int), .int .u16 1, .int .u32 (S.ttl : Int), .slice da dl dc] 39))) := hide (HB5.out.alloc HB5.out.size _); clear hO6 hB5 hT6)
        | (refine step_appL rfl (.tmp 41) (.tmp 49) 31 rfl Tryz.underlying31 _ 56 (info_parts infoRc) rfl (by decide) (by decide) (by decide) w.heap.size _ (M1 ++ ((Z.typesAt L p).take k).flatMap (fun t => Z.setAt L p t) ++ (Z.setAt L p t).take q) rfl (by exact (HI3.out.mv HB6.out).out) ⟨w5.heap.size, 0, none⟩ 1 r [.slice a6 pl c6, .int .u16 (t : Int), .int .u16 1, .int .u32 (S.ttl : Int), .slice da dl dc] rfl (by exact one_cell _ _ #[.slice a6 pl c6, .int .u16 (t : Int), .int .u16 1, .int .u32 (S.ttl : Int), .slice da dl dc] 39 (RowAt.new w5 _ _)) rfl (by simp [Value.oneCell']) (er_mk HR.out HN.out HPL.out HDL.out (HT6.out.kb (KB.alloc _ _)) hc6 hn6 (HTD.out.kb (KB.of_below HB6.out)) HND0.out hdc) (fun _ _ _ k h => h.kb k) (by have := HLEN.out; omega) (by exact (HI3.out.bel.trans (HB6.out.mono HI3.out.bel.size)).size) ?_; intro v7 w7 hO7 hK7 hB7; have y4 : w7.cell? ⟨w3.heap.size, 2, none⟩ = some (.int .u32 (S.ttl : Int)) := (((KX.of_below HB6.out).trans hK7).row HX3.out (by decide)).cell 2)))
       all_goals
        have hkx : KX 39 wr w7 := (KX.of_below HB6.out).trans hK7
        have hkb : KB wr w7 := hkx.kb (by decide)
        have hI7 : RIs w (.slice (some ⟨g1, 0, none⟩) np c1) P v7 (M1 ++ ((Z.typesAt L p).take k).flatMap (fun t => Z.setAt L p t) ++ (Z.setAt L p t).take (q + 1)) w7 := by
         rw [HM3.out, <- List.append_assoc]
         exact (HI3.out.mv HB6.out).add hK7 hB7 hO7
        have hO7b := HO3.out.kx hkx (by decide)
        have hD7 := HD3.out.kx hkx (fun _ _ h => h.kb hkb) (by decide)
        have hX7 := hkx.row HX3.out (by decide)
        have HI7 := hide hI7
        have HO7 := hide hO7b
        have HD7 := hide hD7
        have HX7 := hide hX7
        have HT7 := hide (HT3.out.kb hkb)
        clear hI7 hO7b hD7 hX7 hO7 hK7 hB7 hkx hkb
        go_wp2
        exact ⟨⟨q + 1, by go_num, by omega, by exact HI7.out, by exact HO7.out, by exact HT7.out, by exact HD7.out, by exact HX7.out⟩, by simp [intOf]; omega⟩
      ·obtain rfl : q = nd := by omega
       have e3 : (Z.setAt L p t).take q = Z.setAt L p t := by rw [HND.out]; exact List.take_length
       rw [e3, List.append_assoc, <- HM2.out] at hI
       have HI3 := hide hI
       have HO3 := hide hO
       have HT3 := hide hT
       clear hI hO hT hD hX
       go_wp2
       exact ⟨⟨k + 1, by go_num, by omega, HI3.out, HO3.out, HT3.out⟩, by simp [intOf]; omega⟩
    ·obtain rfl : k = nt := by omega
     rw [<- HNTL.out, List.take_length, <- HFP.out, <- HM1.out] at hI
     have HI2 := hide hI
     clear hI hO hT
     go_wp2
     exact ⟨⟨j + 1, by go_num, by omega, HI2.out⟩, by simp [intOf]; omega⟩
  ·obtain rfl : j = np := by omega
   go_wp2
   go_ret
   have e : P.take j = P := by rw [HNP.out]; exact List.take_length
   rw [e, HWH.out] at hI
   exact ⟨_, rfl, hI.out, hI.bel⟩
end Go.Proofs.YtbkegikdmmnkaaaGreat
