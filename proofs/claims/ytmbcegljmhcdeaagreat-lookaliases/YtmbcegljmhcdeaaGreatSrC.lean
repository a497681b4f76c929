/- slices.Sort at uint16, last part (texts of stage 4, at this seat). -/
import Derived.Test.YtmbcegljmhcdeaaGreatSrA
import Derived.Sort.WalkA6
import Derived.Sort.WalkC4
import Derived.Test.YtmbcegljmhcdeaaGreatZrc
import Derived.Sort.LotD3
import Derived.Sort.LotB
import Derived.Deep.Cut
import Derived.Deep.LoopGhost
namespace Go.Proofs.YtmbcegljmhcdeaaGreat
set_option maxRecDepth 5000
open Go.RowKit Go.Sort Q
set_option maxRecDepth 100000 in
set_option maxHeartbeats 12800000 in
theorem pins_any (w0 w:World) (g o N cap a b:Nat) (d:Array UInt16) (R:Rw w0 g o N) (h:St w0 g o N d w) (hab:a<b) (hb:b<=N) :
 Calls Tryz.prog 168 #[.slice (some ⟨g,o,none⟩) N cap,.int .i64 a,.int .i64 b] w fun e w'=>e = .returned (.bool (partialInsertionSort lt d a b).2)/\St w0 g o N (partialInsertionSort lt d a b).1 w':=by
 have hsm:=R.small
 go_enter Tryz.func168,Tryz.ntmps168
 go_wp2
 go_loopw [7,8] (fun v u W => ∃ (i s:Nat) (dk:Array UInt16),v = .int .i64 (i:Int)/\u = .int .i64 (s:Int)/\a<i/\i<=b/\s<=5/\St w0 g o N dk W/\partialIns lt a b (5 - s) i dk=partialInsertionSort lt d a b) (fun _ u _=>5 - (intOf u).toNat)
 case atStart=>exact⟨a+1,0,d,by go_num,rfl,by omega,by omega,by omega,h,rfl⟩
 case round =>
  clear h
  obtain⟨i0,s,dk,rfl,rfl,hai0,hib0,hs,hS,hO⟩:=hrel
  have HO:Hid _:=hO
  clear hO
  by_cases hs5:s<5
  ·go_wp2
   go_loopw [7] (fun v W => ∃ i:Nat,v = .int .i64 (i:Int)/\i0<=i/\i<=b/\St w0 g o N dk W/\scanSorted lt dk b i0=scanSorted lt dk b i) (fun v _=>b - (intOf v).toNat)
   case atStart=>exact⟨i0,rfl,Nat.le_refl _,hib0,hS,rfl⟩
   case round =>
    clear hS
    obtain⟨i,rfl,hi1,hi2,hS,hK⟩:=hrel
    obtain⟨G,HG,hc,hf⟩:=hS.look R
    have HS:Hid _:=hS
    have HKK:Hid _:=hK
    clear hS hK
    go_wp2
    by_cases hib:i<b
    ·have hne:((i:Int) == (b:Int))=false:=by simp;omega
     go_quiet (first | (go_at_call 169;refine Calls.quiet_of_same (less_any _ _ _)))
     go_wp2
     ·have hl:lt (G i) (G (i - 1))=false:=by
       have:(!lt (G i) (G (i - 1)))=true:=by assumption
       simpa using this
      go_roundw
      case rel=>exact⟨i+1,by go_num,by omega,by omega,HS.out.drewN _,by rw[HKK.out,scanSorted_go lt dk b i hib (by rw[HG.out,HG.out];exact hl)]⟩
      case measure=>simp[intOf];omega
     ·have hl:lt (G i) (G (i - 1))=true:=by
       have:(!lt (G i) (G (i - 1)))=false:=by assumption
       simpa using this
      have e50:(b:Int) - (a:Int)<50:=by assumption
      have h50:b - a<50:=by omega
      have HK:Hid (scanSorted lt dk b i0=i):=by show scanSorted lt dk b i0=i;rw[HKK.out,scanSorted_stop lt dk b i (Or.inr (by rw[HG.out,HG.out];exact hl))]
      go_ret
      have e:=pi_short lt a b s i0 dk hs5 (by rw[HK.out];omega) h50
      rw[HO.out] at e
      rw[e];exact⟨rfl,HS.out.drewN _⟩
     ·have hl:lt (G i) (G (i - 1))=true:=by
       have:(!lt (G i) (G (i - 1)))=false:=by assumption
       simpa using this
      have e50:50<=(b:Int) - (a:Int):=by assumption
      have h50 : ¬ b - a<50:=by omega
      have HK:Hid (scanSorted lt dk b i0=i):=by show scanSorted lt dk b i0=i;rw[HKK.out,scanSorted_stop lt dk b i (Or.inr (by rw[HG.out,HG.out];exact hl))]
      clear HKK hl e50 hne
      replace HS:Hid (St w0 g o N dk (wr.drewN nq)):=HS.out.drewN nq
      replace hc:=dC nq hc
      replace hf:=dF nq hf
      generalize wr.drewN nq=wr2 at HS hc hf ⊢
      clear nq
      go_region
      have HS1:Hid (St w0 g o N (swp dk i (i - 1)) ((wr2.setCell ⟨g,o+i,none⟩ (.int .u16 ((G (i - 1)).toNat:Int))).setCell ⟨g,o+(i - 1),none⟩ (.int .u16 ((G i).toNat:Int))).drew):=HS.out.swap R HG.out 1 i (i - 1) (by omega) (by omega)
      clear HS hc hf
      have HS:=HS1
      clear HS1
      generalize ((wr2.setCell ⟨g,o+i,none⟩ (.int .u16 ((G (i - 1)).toNat:Int))).setCell ⟨g,o+(i - 1),none⟩ (.int .u16 ((G i).toNat:Int))).drew=wr3 at HS ⊢
      clear HG
      obtain⟨d1,hd1⟩ : ∃ d1,swp dk i (i - 1)=d1:=⟨_,rfl⟩
      rw[hd1] at HS
      have HD1:Hid _:=hd1
      clear hd1
      have eKK:Hid (∀ dy:Array UInt16,fixUp lt b i (fixDown lt a i d1)=dy->partialIns lt a b (5 - (s+1)) i dy=partialInsertionSort lt d a b):=fun dy hdy=>by rw[<- HO.out,pi_go lt a b s i0 i dk hs5 HK.out (by omega) h50,HD1.out,hdy]
      clear HO HK HD1 h50
      obtain⟨G1,HG,hc,hf⟩:=HS.out.look R
      have hai:a<i:=by omega
      by_cases h2:2<=i - a
      ·have e2:(2:Int)<=(i:Int) - (a:Int):=by omega
       go_wp2
       go_loopw [9] (fun v W => ∃ (j:Nat) (dj:Array UInt16),v = .int .i64 (j:Int)/\j<i/\St w0 g o N dj W/\shiftDown lt j dj=fixDown lt a i d1) (fun v _=>(intOf v).toNat)
       case atStart=>exact⟨i - 1,d1,by congr 1;omega,by omega,HS.out,by rw[fixDown,if_pos h2]⟩
       case round =>
        clear HS hc hf HG
        obtain⟨j,dj,rfl,hj1,hS,hDD⟩:=hrel
        have HS:Hid _:=hS
        have HDD:Hid _:=hDD
        clear hDD
        obtain⟨G,HG,hc,hf⟩:=hS.look R
        clear hS
        by_cases hj0:1<=j
        ·have ej0:(1:Int)<=(j:Int):=by omega
         go_wp2
         by_cases hl:lt (G j) (G (j - 1))=true
         ·go_quiet (first | (go_at_call 169;refine Calls.quiet_of_same (less_any _ _ _)))
          replace HS:Hid (St w0 g o N dj (wr.drewN nq)):=HS.out.drewN nq
          replace hc:=dC nq hc
          replace hf:=dF nq hf
          generalize wr.drewN nq=wr4 at HS hc hf ⊢
          clear nq
          go_wp2
          go_region
          all_goals go_wp2
          go_roundw
          case rel=>exact⟨j - 1,swp dj j (j - 1),by congr 1;omega,by omega,HS.out.swap R HG.out _ j (j - 1) (by omega) (by omega),by rw[<- HDD.out,shiftDown_go lt j dj hj0 (by rw[HG.out,HG.out];exact hl)]⟩
          case measure=>simp[intOf];omega
         ·have hl:lt (G j) (G (j - 1))=false:=by simpa using hl
          have HD:Hid (fixDown lt a i d1=dj):=by show fixDown lt a i d1=dj;rw[<- HDD.out,shiftDown_stop lt j dj (Or.inr (by rw[HG.out,HG.out];exact hl))]
          go_quiet (first | (go_at_call 169;refine Calls.quiet_of_same (less_any _ _ _)))
          replace HS:Hid (St w0 g o N dj (wr.drewN nq)):=HS.out.drewN nq
          replace hc:=dC nq hc
          replace hf:=dF nq hf
          generalize wr.drewN nq=wr4 at HS hc hf ⊢
          clear nq
          clear hl HDD ej0 hj0
          clear hc hf HG
          obtain⟨G,HG,hc,hf⟩:=HS.out.look R
          by_cases hbi:2<=b - i
          ·have ebi:(2:Int)<=(b:Int) - (i:Int):=by omega
           go_wp2
           go_loopw [10] (fun v W => ∃ (j:Nat) (du:Array UInt16),v = .int .i64 (j:Int)/\i<j/\j<=b/\St w0 g o N du W/\shiftUp lt b j du=shiftUp lt b (i+1) dj) (fun v _=>b - (intOf v).toNat)
           case atStart=>exact⟨i+1,dj,by go_num,by omega,by omega,HS.out,rfl⟩
           case round =>
            clear HS hc hf HG
            obtain⟨j,du,rfl,hj1,hj2,hS,hU⟩:=hrel
            have HS:Hid _:=hS
            have HUU:Hid _:=hU
            clear hU
            obtain⟨G,HG,hc,hf⟩:=hS.look R
            clear hS
            by_cases hjb:j<b
            ·go_wp2
             go_quiet (first | (go_at_call 169;refine Calls.quiet_of_same (less_any _ _ _)))
             go_wp2
             ·have hl:lt (G j) (G (j - 1))=false:=by
               have:(!lt (G j) (G (j - 1)))=true:=by assumption
               simpa using this
              have HU:Hid (fixUp lt b i dj=du):=by show fixUp lt b i dj=du;rw[fixUp,if_pos hbi, <- HUU.out,shiftUp_stop lt b j du (Or.inr (by rw[HG.out,HG.out];exact hl))]
              go_roundw
              case rel=>exact⟨i,s+1,du,by go_num,by go_num,by omega,by omega,by omega,HS.out.drewN _,eKK.out _ (by rw[HD.out,HU.out])⟩
              case measure=>simp[intOf];omega
             ·have hl:lt (G j) (G (j - 1))=true:=by
               have:(!lt (G j) (G (j - 1)))=false:=by assumption
               simpa using this
              replace HS:Hid (St w0 g o N du (wr.drewN nq)):=HS.out.drewN nq
              replace hc:=dC nq hc
              replace hf:=dF nq hf
              generalize wr.drewN nq=wr2 at HS hc hf ⊢
              clear nq
              go_region
              all_goals go_wp2
              go_roundw
              case rel=>exact⟨j+1,swp du j (j - 1),by go_num,by omega,by omega,HS.out.swap R HG.out _ j (j - 1) (by omega) (by omega),by rw[<- HUU.out,shiftUp_go lt b j du hjb (by rw[HG.out,HG.out];exact hl)]⟩
              case measure=>simp[intOf];omega
            ·go_wp2
             have HU:Hid (fixUp lt b i dj=du):=by show fixUp lt b i dj=du;rw[fixUp,if_pos hbi, <- HUU.out,shiftUp_stop lt b j du (Or.inl hjb)]
             go_roundw
             case rel=>exact⟨i,s+1,du,by go_num,by go_num,by omega,by omega,by omega,HS.out,eKK.out _ (by rw[HD.out,HU.out])⟩
             case measure=>simp[intOf];omega
          ·have ebi : ¬ (2:Int)<=(b:Int) - (i:Int):=by omega
           go_wp2
           have HU:Hid (fixUp lt b i dj=dj):=by show fixUp lt b i dj=dj;rw[fixUp,if_neg hbi]
           go_roundw
           case rel=>exact⟨i,s+1,dj,by go_num,by go_num,by omega,by omega,by omega,HS.out,eKK.out _ (by rw[HD.out,HU.out])⟩
           case measure=>simp[intOf];omega
        ·have ej0 : ¬ (1:Int)<=(j:Int):=by omega
         have HD:Hid (fixDown lt a i d1=dj):=by show fixDown lt a i d1=dj;rw[<- HDD.out,shiftDown_stop lt j dj (Or.inl (by omega))]
         clear HDD hj0
         clear hc hf HG
         obtain⟨G,HG,hc,hf⟩:=HS.out.look R
         by_cases hbi:2<=b - i
         ·have ebi:(2:Int)<=(b:Int) - (i:Int):=by omega
          go_wp2
          go_loopw [10] (fun v W => ∃ (j:Nat) (du:Array UInt16),v = .int .i64 (j:Int)/\i<j/\j<=b/\St w0 g o N du W/\shiftUp lt b j du=shiftUp lt b (i+1) dj) (fun v _=>b - (intOf v).toNat)
          case atStart=>exact⟨i+1,dj,by go_num,by omega,by omega,HS.out,rfl⟩
          case round =>
           clear HS hc hf HG
           obtain⟨j,du,rfl,hj1,hj2,hS,hU⟩:=hrel
           have HS:Hid _:=hS
           have HUU:Hid _:=hU
           clear hU
           obtain⟨G,HG,hc,hf⟩:=hS.look R
           clear hS
           by_cases hjb:j<b
           ·go_wp2
            go_quiet (first | (go_at_call 169;refine Calls.quiet_of_same (less_any _ _ _)))
            go_wp2
            ·have hl:lt (G j) (G (j - 1))=false:=by
              have:(!lt (G j) (G (j - 1)))=true:=by assumption
              simpa using this
             have HU:Hid (fixUp lt b i dj=du):=by show fixUp lt b i dj=du;rw[fixUp,if_pos hbi, <- HUU.out,shiftUp_stop lt b j du (Or.inr (by rw[HG.out,HG.out];exact hl))]
             go_roundw
             case rel=>exact⟨i,s+1,du,by go_num,by go_num,by omega,by omega,by omega,HS.out.drewN _,eKK.out _ (by rw[HD.out,HU.out])⟩
             case measure=>simp[intOf];omega
            ·have hl:lt (G j) (G (j - 1))=true:=by
              have:(!lt (G j) (G (j - 1)))=false:=by assumption
              simpa using this
             replace HS:Hid (St w0 g o N du (wr.drewN nq)):=HS.out.drewN nq
             replace hc:=dC nq hc
             replace hf:=dF nq hf
             generalize wr.drewN nq=wr2 at HS hc hf ⊢
             clear nq
             go_region
             all_goals go_wp2
             go_roundw
             case rel=>exact⟨j+1,swp du j (j - 1),by go_num,by omega,by omega,HS.out.swap R HG.out _ j (j - 1) (by omega) (by omega),by rw[<- HUU.out,shiftUp_go lt b j du hjb (by rw[HG.out,HG.out];exact hl)]⟩
             case measure=>simp[intOf];omega
           ·go_wp2
            have HU:Hid (fixUp lt b i dj=du):=by show fixUp lt b i dj=du;rw[fixUp,if_pos hbi, <- HUU.out,shiftUp_stop lt b j du (Or.inl hjb)]
            go_roundw
            case rel=>exact⟨i,s+1,du,by go_num,by go_num,by omega,by omega,by omega,HS.out,eKK.out _ (by rw[HD.out,HU.out])⟩
            case measure=>simp[intOf];omega
         ·have ebi : ¬ (2:Int)<=(b:Int) - (i:Int):=by omega
          go_wp2
          have HU:Hid (fixUp lt b i dj=dj):=by show fixUp lt b i dj=dj;rw[fixUp,if_neg hbi]
          go_roundw
          case rel=>exact⟨i,s+1,dj,by go_num,by go_num,by omega,by omega,by omega,HS.out,eKK.out _ (by rw[HD.out,HU.out])⟩
          case measure=>simp[intOf];omega
      ·have e2 : ¬ (2:Int)<=(i:Int) - (a:Int):=by omega
       have HD:Hid (fixDown lt a i d1=d1):=by show fixDown lt a i d1=d1;rw[fixDown,if_neg h2]
       clear hc hf HG
       obtain⟨G,HG,hc,hf⟩:=HS.out.look R
       by_cases hbi:2<=b - i
       ·have ebi:(2:Int)<=(b:Int) - (i:Int):=by omega
        go_wp2
        go_loopw [10] (fun v W => ∃ (j:Nat) (du:Array UInt16),v = .int .i64 (j:Int)/\i<j/\j<=b/\St w0 g o N du W/\shiftUp lt b j du=shiftUp lt b (i+1) d1) (fun v _=>b - (intOf v).toNat)
        case atStart=>exact⟨i+1,d1,by go_num,by omega,by omega,HS.out,rfl⟩
        case round =>
         clear HS hc hf HG
         obtain⟨j,du,rfl,hj1,hj2,hS,hU⟩:=hrel
         have HS:Hid _:=hS
         have HUU:Hid _:=hU
         clear hU
         obtain⟨G,HG,hc,hf⟩:=hS.look R
         clear hS
         by_cases hjb:j<b
         ·go_wp2
          go_quiet (first | (go_at_call 169;refine Calls.quiet_of_same (less_any _ _ _)))
          go_wp2
          ·have hl:lt (G j) (G (j - 1))=false:=by
            have:(!lt (G j) (G (j - 1)))=true:=by assumption
            simpa using this
           have HU:Hid (fixUp lt b i d1=du):=by show fixUp lt b i d1=du;rw[fixUp,if_pos hbi, <- HUU.out,shiftUp_stop lt b j du (Or.inr (by rw[HG.out,HG.out];exact hl))]
           go_roundw
           case rel=>exact⟨i,s+1,du,by go_num,by go_num,by omega,by omega,by omega,HS.out.drewN _,eKK.out _ (by rw[HD.out,HU.out])⟩
           case measure=>simp[intOf];omega
          ·have hl:lt (G j) (G (j - 1))=true:=by
            have:(!lt (G j) (G (j - 1)))=false:=by assumption
            simpa using this
           replace HS:Hid (St w0 g o N du (wr.drewN nq)):=HS.out.drewN nq
           replace hc:=dC nq hc
           replace hf:=dF nq hf
           generalize wr.drewN nq=wr2 at HS hc hf ⊢
           clear nq
           go_region
           all_goals go_wp2
           go_roundw
           case rel=>exact⟨j+1,swp du j (j - 1),by go_num,by omega,by omega,HS.out.swap R HG.out _ j (j - 1) (by omega) (by omega),by rw[<- HUU.out,shiftUp_go lt b j du hjb (by rw[HG.out,HG.out];exact hl)]⟩
           case measure=>simp[intOf];omega
         ·go_wp2
          have HU:Hid (fixUp lt b i d1=du):=by show fixUp lt b i d1=du;rw[fixUp,if_pos hbi, <- HUU.out,shiftUp_stop lt b j du (Or.inl hjb)]
          go_roundw
          case rel=>exact⟨i,s+1,du,by go_num,by go_num,by omega,by omega,by omega,HS.out,eKK.out _ (by rw[HD.out,HU.out])⟩
          case measure=>simp[intOf];omega
       ·have ebi : ¬ (2:Int)<=(b:Int) - (i:Int):=by omega
        go_wp2
        have HU:Hid (fixUp lt b i d1=d1):=by show fixUp lt b i d1=d1;rw[fixUp,if_neg hbi]
        go_roundw
        case rel=>exact⟨i,s+1,d1,by go_num,by go_num,by omega,by omega,by omega,HS.out,eKK.out _ (by rw[HD.out,HU.out])⟩
        case measure=>simp[intOf];omega
    ·have eib:decide ((i:Int)<(b:Int))=false:=decide_eq_false (by omega)
     obtain rfl:i=b:=by omega
     go_quiet (first | (go_at_call 169;refine Calls.quiet_of_same (less_any _ _ _)))
     go_wp2
     go_ret
     have e:=pi_true lt a i s i0 dk hs5 (by rw[HKK.out,scanSorted_stop lt dk i i (Or.inl (by omega))])
     rw[HO.out] at e
     rw[e];exact⟨rfl,HS.out.drewN _⟩
  ·obtain rfl:s=5:=by omega
   go_wp2
   go_ret
   have e:=HO.out
   rw[pi_end] at e
   rw[<- e];exact⟨rfl,hS⟩
end Go.Proofs.YtmbcegljmhcdeaaGreat
namespace Go.Proofs.YtmbcegljmhcdeaaGreat
set_option maxRecDepth 5000
open Go.RowKit Go.Sort Q
set_option maxRecDepth 100000 in
set_option maxHeartbeats 12800000 in
theorem peq_any (w0 w:World) (g o N cap a b p:Nat) (d:Array UInt16) (R:Rw w0 g o N) (h:St w0 g o N d w) (hap:a<=p) (hpb:p<b) (hb:b<=N) :
 Calls Tryz.prog 170 #[.slice (some ⟨g,o,none⟩) N cap,.int .i64 a,.int .i64 b,.int .i64 p] w fun e w'=>e = .returned (.int .i64 ((partitionEqual lt d a b p).1:Int))/\St w0 g o N (partitionEqual lt d a b p).2 w':=by
 have hsm:=R.small
 obtain⟨G,HG,hc,hf⟩:=h.look R
 obtain⟨x0,hx0⟩:=two hc a p (by omega) (by omega) (.int .u16 ((G p).toNat:Int))
 have HS:Hid _:=h
 clear h
 have haN:a<N:=by omega
 have hpN:p<N:=by omega
 go_enter Tryz.func170,Tryz.ntmps170
 go_wp2
 go_region
 have HS1:Hid (St w0 g o N (swp d a p) ((w.setCell ⟨g,o+a,none⟩ (.int .u16 ((G p).toNat:Int))).setCell ⟨g,o+p,none⟩ (.int .u16 ((G a).toNat:Int))).drew):=HS.out.swap R HG.out 1 a p haN hpN
 clear HS hc hf hx0
 generalize ((w.setCell ⟨g,o+a,none⟩ (.int .u16 ((G p).toNat:Int))).setCell ⟨g,o+p,none⟩ (.int .u16 ((G a).toNat:Int))).drew=w1 at HS1 ⊢
 clear HG
 go_wp2
 go_loopw [9,10] (fun v u W => ∃ (i j:Nat) (dk:Array UInt16),v = .int .i64 (i:Int)/\u = .int .i64 (j:Int)/\a<i/\i<=j+1/\j<b/\St w0 g o N dk W/\partEqLoop lt a i j dk=partitionEqual lt d a b p) (fun v u _=>((intOf u)+1 - (intOf v)).toNat)
 case atStart=>exact⟨a+1,b - 1,swp d a p,by go_num,by congr 1;omega,by omega,by omega,by omega,HS1.out,rfl⟩
 case round =>
  clear HS1
  obtain⟨i,j,dk,rfl,rfl,hai,hij,hjb,hS,hO⟩:=hrel
  have HO:Hid _:=hO
  clear hO
  go_wp2
  go_loopw [9] (fun v W => ∃ k:Nat,v = .int .i64 (k:Int)/\i<=k/\k<=j+1/\St w0 g o N dk W/\scanUp (fun x => !lt dk[a]! x) dk j i=scanUp (fun x => !lt dk[a]! x) dk j k) (fun v _=>j+1 - (intOf v).toNat)
  case atStart=>exact⟨i,rfl,Nat.le_refl _,hij,hS,rfl⟩
  case round =>
   clear hS
   obtain⟨i2,rfl,hi1,hi2,hS,hI⟩:=hrel
   obtain⟨G,HG,hc,hf⟩:=hS.look R
   have HS:Hid _:=hS
   have HII:Hid _:=hI
   clear hS hI
   go_wp2
   by_cases hik:i2<=j
   ·by_cases hl:lt (G a) (G i2)=true
    ·have HI:Hid (i2=scanUp (fun x => !lt dk[a]! x) dk j i):=by show i2=_;rw[HII.out,scanUp_end (fun x => !lt dk[a]! x) dk j i2 (Or.inr (by rw[HG.out,HG.out,hl];rfl))]
     go_quiet (first | (go_at_call 169;refine Calls.quiet_of_same (less_any _ _ _)))
     replace HS:Hid (St w0 g o N dk (wr.drewN nq)):=HS.out.drewN nq
     replace hc:=dC nq hc
     replace hf:=dF nq hf
     generalize wr.drewN nq=wr2 at HS hc hf ⊢
     clear nq
     clear HII
     go_wp2
     go_loopw [10] (fun v W => ∃ k:Nat,v = .int .i64 (k:Int)/\i2<=k+1/\k<=j/\St w0 g o N dk W/\scanDown (fun x=>lt dk[a]! x) dk i2 j=scanDown (fun x=>lt dk[a]! x) dk i2 k) (fun v _=>(intOf v).toNat)
     case atStart=>exact⟨j,rfl,by omega,Nat.le_refl _,HS.out,rfl⟩
     case round =>
      clear HS hc hf
      obtain⟨k,rfl,hk1,hk2,hS,hJ⟩:=hrel
      have HS:Hid _:=hS
      have HJ:Hid _:=hJ
      clear hJ HG
      obtain⟨G,HG,hc,hf⟩:=hS.look R
      clear hS
      go_wp2
      by_cases hik:i2<=k
      ·have hk0:0<k:=by omega
       by_cases hl:lt (G a) (G k)=true
       ·go_quiet (first | (go_at_call 169;refine Calls.quiet_of_same (less_any _ _ _)))
        go_wp2
        go_roundw
        case rel=>exact⟨k - 1,by congr 1;omega,by omega,by omega,HS.out.drewN _,by rw[HJ.out,scanDown_go (fun x=>lt dk[a]! x) dk i2 k hik hk0 (by rw[HG.out,HG.out];exact hl)]⟩
        case measure=>simp[intOf];omega
       ·have hl':lt (G a) (G k)=false:=by simpa using hl
        clear hl
        have HJ2:Hid (k=scanDown (fun x=>lt dk[a]! x) dk i2 j):=by show k=_;rw[HJ.out,scanDown_end (fun x=>lt dk[a]! x) dk i2 k (Or.inr (by rw[HG.out,HG.out];exact hl'))]
        have hlt:i2<k:=scans_lt lt a i j dk (by omega) HI.out HJ2.out hik
        have elt : ¬ (k:Int)<(i2:Int):=by omega
        go_quiet (first | (go_at_call 169;refine Calls.quiet_of_same (less_any _ _ _)))
        replace HS:Hid (St w0 g o N dk (wr.drewN nq)):=HS.out.drewN nq
        replace hc:=dC nq hc
        replace hf:=dF nq hf
        generalize wr.drewN nq=wrk at HS hc hf ⊢
        clear nq
        go_wp2
        go_region
        all_goals go_wp2
        go_roundw
        case rel=>exact⟨i2+1,k - 1,swp dk i2 k,by go_num,by congr 1;omega,by omega,by omega,by omega,HS.out.swap R HG.out _ i2 k (by omega) (by omega),by rw[<- HO.out,partEq_go lt a i j dk HI.out HJ2.out (by omega)]⟩
        case measure=>simp[intOf];omega
      ·have eik:decide ((i2:Int)<=(k:Int))=false:=decide_eq_false (by omega)
       have HJ2:Hid (k=scanDown (fun x=>lt dk[a]! x) dk i2 j):=by show k=_;rw[HJ.out,scanDown_end (fun x=>lt dk[a]! x) dk i2 k (Or.inl hik)]
       have elt:(k:Int)<(i2:Int):=by omega
       go_quiet (first | (go_at_call 169;refine Calls.quiet_of_same (less_any _ _ _)))
       go_wp2
       go_ret
       have e:=HO.out
       rw[partEq_break lt a i j dk HI.out HJ2.out (by omega)] at e
       rw[<- e];exact⟨rfl,HS.out.drewN _⟩
    ·have hl':lt (G a) (G i2)=false:=by simpa using hl
     clear hl
     go_quiet (first | (go_at_call 169;refine Calls.quiet_of_same (less_any _ _ _)))
     go_wp2
     go_roundw
     case rel=>exact⟨i2+1,by go_num,by omega,by omega,HS.out.drewN _,by rw[HII.out,scanUp_go (fun x => !lt dk[a]! x) dk j i2 hik (by rw[HG.out,HG.out,hl'];rfl)]⟩
     case measure=>simp[intOf];omega
   ·have eik:decide ((i2:Int)<=(j:Int))=false:=decide_eq_false (by omega)
    have HI:Hid (i2=scanUp (fun x => !lt dk[a]! x) dk j i):=by show i2=_;rw[HII.out,scanUp_end (fun x => !lt dk[a]! x) dk j i2 (Or.inl hik)]
    go_quiet (first | (go_at_call 169;refine Calls.quiet_of_same (less_any _ _ _)))
    replace HS:Hid (St w0 g o N dk (wr.drewN nq)):=HS.out.drewN nq
    replace hc:=dC nq hc
    replace hf:=dF nq hf
    generalize wr.drewN nq=wr2 at HS hc hf ⊢
    clear nq
    clear HII eik
    go_wp2
    go_loopw [10] (fun v W => ∃ k:Nat,v = .int .i64 (k:Int)/\i2<=k+1/\k<=j/\St w0 g o N dk W/\scanDown (fun x=>lt dk[a]! x) dk i2 j=scanDown (fun x=>lt dk[a]! x) dk i2 k) (fun v _=>(intOf v).toNat)
    case atStart=>exact⟨j,rfl,by omega,Nat.le_refl _,HS.out,rfl⟩
    case round =>
     clear HS hc hf
     obtain⟨k,rfl,hk1,hk2,hS,hJ⟩:=hrel
     have HS:Hid _:=hS
     have HJ:Hid _:=hJ
     clear hJ HG
     obtain⟨G,HG,hc,hf⟩:=hS.look R
     clear hS
     go_wp2
     by_cases hik:i2<=k
     ·omega
     ·have eik:decide ((i2:Int)<=(k:Int))=false:=decide_eq_false (by omega)
      have HJ2:Hid (k=scanDown (fun x=>lt dk[a]! x) dk i2 j):=by show k=_;rw[HJ.out,scanDown_end (fun x=>lt dk[a]! x) dk i2 k (Or.inl hik)]
      have elt:(k:Int)<(i2:Int):=by omega
      go_quiet (first | (go_at_call 169;refine Calls.quiet_of_same (less_any _ _ _)))
      go_wp2
      go_ret
      have e:=HO.out
      rw[partEq_break lt a i j dk HI.out HJ2.out (by omega)] at e
      rw[<- e];exact⟨rfl,HS.out.drewN _⟩
end Go.Proofs.YtmbcegljmhcdeaaGreat
namespace Go.Proofs.YtmbcegljmhcdeaaGreat
set_option maxRecDepth 5000
open Go.RowKit Go.Sort Q
set_option maxRecDepth 100000 in
set_option maxHeartbeats 25600000 in
theorem part_any (w0 w:World) (g o N cap a b p:Nat) (d:Array UInt16) (R:Rw w0 g o N) (h:St w0 g o N d w) (hap:a<=p) (hpb:p<b) (hb:b<=N) :
 Calls Tryz.prog 171 #[.slice (some ⟨g,o,none⟩) N cap,.int .i64 a,.int .i64 b,.int .i64 p] w fun e w'=>e = .returned (.tuple #[.int .i64 ((partition lt d a b p).1:Int),.bool (partition lt d a b p).2.1])/\St w0 g o N (partition lt d a b p).2.2 w':=by
 have hsm:=R.small
 obtain⟨G,HG,hc,hf⟩:=h.look R
 obtain⟨x0,hx0⟩:=two hc a p (by omega) (by omega) (.int .u16 ((G p).toNat:Int))
 have HS:Hid _:=h
 clear h
 have haN:a<N:=by omega
 have hpN:p<N:=by omega
 go_enter Tryz.func171,Tryz.ntmps171
 go_wp2
 go_region
 have HS1:Hid (St w0 g o N (swp d a p) ((w.setCell ⟨g,o+a,none⟩ (.int .u16 ((G p).toNat:Int))).setCell ⟨g,o+p,none⟩ (.int .u16 ((G a).toNat:Int))).drew):=HS.out.swap R HG.out 1 a p haN hpN
 clear HS hc hf hx0
 generalize ((w.setCell ⟨g,o+a,none⟩ (.int .u16 ((G p).toNat:Int))).setCell ⟨g,o+p,none⟩ (.int .u16 ((G a).toNat:Int))).drew=w1 at HS1 ⊢
 clear HG
 obtain⟨i,hi⟩ : ∃ i,i=a+1:=⟨_,rfl⟩
 obtain⟨j,hj⟩ : ∃ j,j=b - 1:=⟨_,rfl⟩
 obtain⟨dk,hdk⟩ : ∃ dk,dk=swp d a p:=⟨_,rfl⟩
 rw[<- hdk] at HS1
 have HI0:Hid (i=a+1/\j=b - 1/\dk=swp d a p):=⟨hi,hj,hdk⟩
 have hai:a<i:=by omega
 have hij:i<=j+1:=by omega
 have hjb:j<b:=by omega
 have ei:(a:Int)+1=(i:Int):=by omega
 have ej:(b:Int) - 1=(j:Int):=by omega
 have HS:=HS1
 clear hi hj hdk HS1
 go_wp2
 go_loopw [10] (fun v W => ∃ k:Nat,v = .int .i64 (k:Int)/\i<=k/\k<=j+1/\St w0 g o N dk W/\scanUp (fun x=>lt x dk[a]!) dk j i=scanUp (fun x=>lt x dk[a]!) dk j k) (fun v _=>j+1 - (intOf v).toNat)
 case atStart=>exact⟨i,by first | rfl | (congr 1;omega),Nat.le_refl _,hij,HS.out,rfl⟩
 case round =>
  clear HS
  obtain⟨i2,rfl,hi1,hi2,hS,hI⟩:=hrel
  obtain⟨G,HG,hc,hf⟩:=hS.look R
  have HS:Hid _:=hS
  have HII:Hid _:=hI
  clear hS hI
  go_wp2
  by_cases hik:i2<=j
  ·by_cases hl:lt (G i2) (G a)=true
   ·go_quiet (first | (go_at_call 169;refine Calls.quiet_of_same (less_any _ _ _)))
    go_wp2
    go_roundw
    case rel=>exact⟨i2+1,by go_num,by omega,by omega,HS.out.drewN _,by rw[HII.out,scanUp_go (fun x=>lt x dk[a]!) dk j i2 hik (by rw[HG.out,HG.out];exact hl)]⟩
    case measure=>simp[intOf];omega
   ·have hl':lt (G i2) (G a)=false:=by simpa using hl
    clear hl
    have HI:Hid (i2=scanUp (fun x=>lt x dk[a]!) dk j i):=by show i2=_;rw[HII.out,scanUp_end (fun x=>lt x dk[a]!) dk j i2 (Or.inr (by rw[HG.out,HG.out];exact hl'))]
    go_quiet (first | (go_at_call 169;refine Calls.quiet_of_same (less_any _ _ _)))
    replace HS:Hid (St w0 g o N dk (wr.drewN nq)):=HS.out.drewN nq
    replace hc:=dC nq hc
    replace hf:=dF nq hf
    generalize wr.drewN nq=wr2 at HS hc hf ⊢
    clear nq
    clear HII hl'
    go_wp2
    go_loopw [11] (fun v W => ∃ k:Nat,v = .int .i64 (k:Int)/\i2<=k+1/\k<=j/\St w0 g o N dk W/\scanDown (fun x => !lt x dk[a]!) dk i2 j=scanDown (fun x => !lt x dk[a]!) dk i2 k) (fun v _=>(intOf v).toNat)
    case atStart=>exact⟨j,by first | rfl | (congr 1;omega),by omega,Nat.le_refl _,HS.out,rfl⟩
    case round =>
     clear HS hc hf
     obtain⟨k,rfl,hk1,hk2,hS,hJ⟩:=hrel
     have HS:Hid _:=hS
     have HJ:Hid _:=hJ
     clear hJ HG
     obtain⟨G,HG,hc,hf⟩:=hS.look R
     clear hS
     go_wp2
     by_cases hik:i2<=k
     ·have hk0:0<k:=by omega
      by_cases hl:lt (G k) (G a)=true
      ·have HJ2:Hid (k=scanDown (fun x => !lt x dk[a]!) dk i2 j):=by show k=_;rw[HJ.out,scanDown_end (fun x => !lt x dk[a]!) dk i2 k (Or.inr (by rw[HG.out,HG.out,hl];rfl))]
       have hlt:i2<k:=part_scans_lt lt a i j dk (by omega) HI.out HJ2.out hik
       have elt : ¬ (k:Int)<(i2:Int):=by omega
       go_quiet (first | (go_at_call 169;refine Calls.quiet_of_same (less_any _ _ _)))
       replace HS:Hid (St w0 g o N dk (wr.drewN nq)):=HS.out.drewN nq
       replace hc:=dC nq hc
       replace hf:=dF nq hf
       generalize wr.drewN nq=wrk at HS hc hf ⊢
       clear nq
       go_wp2
       go_region
       have HS1:Hid (St w0 g o N (swp dk i2 k) ((wrk.setCell ⟨g,o+i2,none⟩ (.int .u16 ((G k).toNat:Int))).setCell ⟨g,o+k,none⟩ (.int .u16 ((G i2).toNat:Int))).drew):=HS.out.swap R HG.out 1 i2 k (by omega) (by omega)
       have HE:Hid (partition lt d a b p=((partLoop lt a (i2+1) (k - 1) (swp dk i2 k)).1,false,swp (partLoop lt a (i2+1) (k - 1) (swp dk i2 k)).2 (partLoop lt a (i2+1) (k - 1) (swp dk i2 k)).1 a)):=part_first_go lt d a b p HI0.out.1 HI0.out.2.1 HI0.out.2.2 HI.out HJ2.out (by omega)
       clear HS hc hf
       generalize ((wrk.setCell ⟨g,o+i2,none⟩ (.int .u16 ((G k).toNat:Int))).setCell ⟨g,o+k,none⟩ (.int .u16 ((G i2).toNat:Int))).drew=wrq at HS1 ⊢
       have hik1:a<i2+1/\i2+1<=(k - 1)+1/\k - 1<b:=by omega
       obtain⟨r1,r2,r3⟩:=hik1
       have ek1:(k:Int) - 1=((k - 1:Nat):Int):=by omega
       generalize swp dk i2 k=ds at HS1 HE
       clear HI HJ2 HJ HG hl hik hi1 hi2 hk1 hk2 hlt elt hk0
       go_wp2
       go_loopw [10,11] (fun v u W => ∃ (i j:Nat) (dk:Array UInt16),v = .int .i64 (i:Int)/\u = .int .i64 (j:Int)/\a<i/\i<=j+1/\j<b/\St w0 g o N dk W/\partLoop lt a i j dk=partLoop lt a (i2+1) (k - 1) ds) (fun v u _=>((intOf u)+1 - (intOf v)).toNat)
       case atStart=>exact⟨i2+1,k - 1,ds,by go_num,by congr 1,r1,r2,r3,HS1.out,rfl⟩
       case round =>
        clear HS1 HI0 hij hjb hai ek1 r1 r2 r3
        obtain⟨i,j,dk,rfl,rfl,hai,hij,hjb,hS,hO⟩:=hrel
        have HO:Hid _:=hO
        have HS:Hid _:=hS
        clear hO hS
        go_wp2
        go_loopw [10] (fun v W => ∃ k:Nat,v = .int .i64 (k:Int)/\i<=k/\k<=j+1/\St w0 g o N dk W/\scanUp (fun x=>lt x dk[a]!) dk j i=scanUp (fun x=>lt x dk[a]!) dk j k) (fun v _=>j+1 - (intOf v).toNat)
        case atStart=>exact⟨i,by first | rfl | (congr 1;omega),Nat.le_refl _,hij,HS.out,rfl⟩
        case round =>
         clear HS
         obtain⟨i2,rfl,hi1,hi2,hS,hI⟩:=hrel
         obtain⟨G,HG,hc,hf⟩:=hS.look R
         have HS:Hid _:=hS
         have HII:Hid _:=hI
         clear hS hI
         go_wp2
         by_cases hik:i2<=j
         ·by_cases hl:lt (G i2) (G a)=true
          ·go_quiet (first | (go_at_call 169;refine Calls.quiet_of_same (less_any _ _ _)))
           go_wp2
           go_roundw
           case rel=>exact⟨i2+1,by go_num,by omega,by omega,HS.out.drewN _,by rw[HII.out,scanUp_go (fun x=>lt x dk[a]!) dk j i2 hik (by rw[HG.out,HG.out];exact hl)]⟩
           case measure=>simp[intOf];omega
          ·have hl':lt (G i2) (G a)=false:=by simpa using hl
           clear hl
           have HI:Hid (i2=scanUp (fun x=>lt x dk[a]!) dk j i):=by show i2=_;rw[HII.out,scanUp_end (fun x=>lt x dk[a]!) dk j i2 (Or.inr (by rw[HG.out,HG.out];exact hl'))]
           go_quiet (first | (go_at_call 169;refine Calls.quiet_of_same (less_any _ _ _)))
           replace HS:Hid (St w0 g o N dk (wr.drewN nq)):=HS.out.drewN nq
           replace hc:=dC nq hc
           replace hf:=dF nq hf
           generalize wr.drewN nq=wr2 at HS hc hf ⊢
           clear nq
           clear HII hl'
           go_wp2
           go_loopw [11] (fun v W => ∃ k:Nat,v = .int .i64 (k:Int)/\i2<=k+1/\k<=j/\St w0 g o N dk W/\scanDown (fun x => !lt x dk[a]!) dk i2 j=scanDown (fun x => !lt x dk[a]!) dk i2 k) (fun v _=>(intOf v).toNat)
           case atStart=>exact⟨j,by first | rfl | (congr 1;omega),by omega,Nat.le_refl _,HS.out,rfl⟩
           case round =>
            clear HS hc hf
            obtain⟨k,rfl,hk1,hk2,hS,hJ⟩:=hrel
            have HS:Hid _:=hS
            have HJ:Hid _:=hJ
            clear hJ HG
            obtain⟨G,HG,hc,hf⟩:=hS.look R
            clear hS
            go_wp2
            by_cases hik:i2<=k
            ·have hk0:0<k:=by omega
             by_cases hl:lt (G k) (G a)=true
             ·have HJ2:Hid (k=scanDown (fun x => !lt x dk[a]!) dk i2 j):=by show k=_;rw[HJ.out,scanDown_end (fun x => !lt x dk[a]!) dk i2 k (Or.inr (by rw[HG.out,HG.out,hl];rfl))]
              have hlt:i2<k:=part_scans_lt lt a i j dk (by omega) HI.out HJ2.out hik
              have elt : ¬ (k:Int)<(i2:Int):=by omega
              go_quiet (first | (go_at_call 169;refine Calls.quiet_of_same (less_any _ _ _)))
              replace HS:Hid (St w0 g o N dk (wr.drewN nq)):=HS.out.drewN nq
              replace hc:=dC nq hc
              replace hf:=dF nq hf
              generalize wr.drewN nq=wrk at HS hc hf ⊢
              clear nq
              go_wp2
              go_region
              all_goals go_wp2
              go_roundw
              case rel=>exact⟨i2+1,k - 1,swp dk i2 k,by go_num,by congr 1;omega,by omega,by omega,by omega,HS.out.swap R HG.out _ i2 k (by omega) (by omega),by rw[<- HO.out,part_go lt a i j dk HI.out HJ2.out (by omega)]⟩
              case measure=>simp[intOf];omega
             ·have hl':lt (G k) (G a)=false:=by simpa using hl
              clear hl
              go_quiet (first | (go_at_call 169;refine Calls.quiet_of_same (less_any _ _ _)))
              go_wp2
              go_roundw
              case rel=>exact⟨k - 1,by congr 1;omega,by omega,by omega,HS.out.drewN _,by rw[HJ.out,scanDown_go (fun x => !lt x dk[a]!) dk i2 k hik hk0 (by rw[HG.out,HG.out,hl'];rfl)]⟩
              case measure=>simp[intOf];omega
            ·have eik:decide ((i2:Int)<=(k:Int))=false:=decide_eq_false (by omega)
             have HJ2:Hid (k=scanDown (fun x => !lt x dk[a]!) dk i2 j):=by show k=_;rw[HJ.out,scanDown_end (fun x => !lt x dk[a]!) dk i2 k (Or.inl hik)]
             have elt:(k:Int)<(i2:Int):=by omega
             go_quiet (first | (go_at_call 169;refine Calls.quiet_of_same (less_any _ _ _)))
             replace HS:Hid (St w0 g o N dk (wr.drewN nq)):=HS.out.drewN nq
             replace hc:=dC nq hc
             replace hf:=dF nq hf
             generalize wr.drewN nq=wrk at HS hc hf ⊢
             clear nq
             clear eik
             have hkN:k<N:=by omega
             obtain⟨x0,hx0⟩:=two hc k a hkN haN (.int .u16 ((G a).toNat:Int))
             go_wp2
             go_region
             all_goals go_wp2
             go_ret2
             have e:=HO.out
             rw[part_break lt a i j dk HI.out HJ2.out (by omega)] at e
             rw[HE.out, <- e]
             exact⟨rfl,HS.out.swap R HG.out 1 k a hkN haN⟩
         ·have eik:decide ((i2:Int)<=(j:Int))=false:=decide_eq_false (by omega)
          have HI:Hid (i2=scanUp (fun x=>lt x dk[a]!) dk j i):=by show i2=_;rw[HII.out,scanUp_end (fun x=>lt x dk[a]!) dk j i2 (Or.inl hik)]
          go_quiet (first | (go_at_call 169;refine Calls.quiet_of_same (less_any _ _ _)))
          replace HS:Hid (St w0 g o N dk (wr.drewN nq)):=HS.out.drewN nq
          replace hc:=dC nq hc
          replace hf:=dF nq hf
          generalize wr.drewN nq=wr2 at HS hc hf ⊢
          clear nq
          clear HII eik
          go_wp2
          go_loopw [11] (fun v W => ∃ k:Nat,v = .int .i64 (k:Int)/\i2<=k+1/\k<=j/\St w0 g o N dk W/\scanDown (fun x => !lt x dk[a]!) dk i2 j=scanDown (fun x => !lt x dk[a]!) dk i2 k) (fun v _=>(intOf v).toNat)
          case atStart=>exact⟨j,by first | rfl | (congr 1;omega),by omega,Nat.le_refl _,HS.out,rfl⟩
          case round =>
           clear HS hc hf
           obtain⟨k,rfl,hk1,hk2,hS,hJ⟩:=hrel
           have HS:Hid _:=hS
           have HJ:Hid _:=hJ
           clear hJ HG
           obtain⟨G,HG,hc,hf⟩:=hS.look R
           clear hS
           go_wp2
           by_cases hik:i2<=k
           ·omega
           ·have eik:decide ((i2:Int)<=(k:Int))=false:=decide_eq_false (by omega)
            have HJ2:Hid (k=scanDown (fun x => !lt x dk[a]!) dk i2 j):=by show k=_;rw[HJ.out,scanDown_end (fun x => !lt x dk[a]!) dk i2 k (Or.inl hik)]
            have elt:(k:Int)<(i2:Int):=by omega
            go_quiet (first | (go_at_call 169;refine Calls.quiet_of_same (less_any _ _ _)))
            replace HS:Hid (St w0 g o N dk (wr.drewN nq)):=HS.out.drewN nq
            replace hc:=dC nq hc
            replace hf:=dF nq hf
            generalize wr.drewN nq=wrk at HS hc hf ⊢
            clear nq
            clear eik
            have hkN:k<N:=by omega
            obtain⟨x0,hx0⟩:=two hc k a hkN haN (.int .u16 ((G a).toNat:Int))
            go_wp2
            go_region
            all_goals go_wp2
            go_ret2
            have e:=HO.out
            rw[part_break lt a i j dk HI.out HJ2.out (by omega)] at e
            rw[HE.out, <- e]
            exact⟨rfl,HS.out.swap R HG.out 1 k a hkN haN⟩
      ·have hl':lt (G k) (G a)=false:=by simpa using hl
       clear hl
       go_quiet (first | (go_at_call 169;refine Calls.quiet_of_same (less_any _ _ _)))
       go_wp2
       go_roundw
       case rel=>exact⟨k - 1,by congr 1;omega,by omega,by omega,HS.out.drewN _,by rw[HJ.out,scanDown_go (fun x => !lt x dk[a]!) dk i2 k hik hk0 (by rw[HG.out,HG.out,hl'];rfl)]⟩
       case measure=>simp[intOf];omega
     ·have eik:decide ((i2:Int)<=(k:Int))=false:=decide_eq_false (by omega)
      have HJ2:Hid (k=scanDown (fun x => !lt x dk[a]!) dk i2 j):=by show k=_;rw[HJ.out,scanDown_end (fun x => !lt x dk[a]!) dk i2 k (Or.inl hik)]
      have elt:(k:Int)<(i2:Int):=by omega
      go_quiet (first | (go_at_call 169;refine Calls.quiet_of_same (less_any _ _ _)))
      replace HS:Hid (St w0 g o N dk (wr.drewN nq)):=HS.out.drewN nq
      replace hc:=dC nq hc
      replace hf:=dF nq hf
      generalize wr.drewN nq=wrk at HS hc hf ⊢
      clear nq
      clear eik
      have hkN:k<N:=by omega
      obtain⟨x0,hx0⟩:=two hc k a hkN haN (.int .u16 ((G a).toNat:Int))
      go_wp2
      go_region
      all_goals go_wp2
      go_ret2
      rw[part_first_break lt d a b p HI0.out.1 HI0.out.2.1 HI0.out.2.2 HI.out HJ2.out (by omega)]
      exact⟨rfl,HS.out.swap R HG.out 1 k a hkN haN⟩
  ·have eik:decide ((i2:Int)<=(j:Int))=false:=decide_eq_false (by omega)
   have HI:Hid (i2=scanUp (fun x=>lt x dk[a]!) dk j i):=by show i2=_;rw[HII.out,scanUp_end (fun x=>lt x dk[a]!) dk j i2 (Or.inl hik)]
   go_quiet (first | (go_at_call 169;refine Calls.quiet_of_same (less_any _ _ _)))
   replace HS:Hid (St w0 g o N dk (wr.drewN nq)):=HS.out.drewN nq
   replace hc:=dC nq hc
   replace hf:=dF nq hf
   generalize wr.drewN nq=wr2 at HS hc hf ⊢
   clear nq
   clear HII eik
   go_wp2
   go_loopw [11] (fun v W => ∃ k:Nat,v = .int .i64 (k:Int)/\i2<=k+1/\k<=j/\St w0 g o N dk W/\scanDown (fun x => !lt x dk[a]!) dk i2 j=scanDown (fun x => !lt x dk[a]!) dk i2 k) (fun v _=>(intOf v).toNat)
   case atStart=>exact⟨j,by first | rfl | (congr 1;omega),by omega,Nat.le_refl _,HS.out,rfl⟩
   case round =>
    clear HS hc hf
    obtain⟨k,rfl,hk1,hk2,hS,hJ⟩:=hrel
    have HS:Hid _:=hS
    have HJ:Hid _:=hJ
    clear hJ HG
    obtain⟨G,HG,hc,hf⟩:=hS.look R
    clear hS
    go_wp2
    by_cases hik:i2<=k
    ·omega
    ·have eik:decide ((i2:Int)<=(k:Int))=false:=decide_eq_false (by omega)
     have HJ2:Hid (k=scanDown (fun x => !lt x dk[a]!) dk i2 j):=by show k=_;rw[HJ.out,scanDown_end (fun x => !lt x dk[a]!) dk i2 k (Or.inl hik)]
     have elt:(k:Int)<(i2:Int):=by omega
     go_quiet (first | (go_at_call 169;refine Calls.quiet_of_same (less_any _ _ _)))
     replace HS:Hid (St w0 g o N dk (wr.drewN nq)):=HS.out.drewN nq
     replace hc:=dC nq hc
     replace hf:=dF nq hf
     generalize wr.drewN nq=wrk at HS hc hf ⊢
     clear nq
     clear eik
     have hkN:k<N:=by omega
     obtain⟨x0,hx0⟩:=two hc k a hkN haN (.int .u16 ((G a).toNat:Int))
     go_wp2
     go_region
     all_goals go_wp2
     go_ret2
     rw[part_first_break lt d a b p HI0.out.1 HI0.out.2.1 HI0.out.2.2 HI.out HJ2.out (by omega)]
     exact⟨rfl,HS.out.swap R HG.out 1 k a hkN haN⟩
open Go.RowKit Go.Sort Q
set_option maxRecDepth 100000 in
set_option maxHeartbeats 25600000 in
theorem pdq_step (w0:World) (g o N cap:Nat) (R:Rw w0 g o N) (n:Nat)
 (ih : ∀ m,m<n -> ∀ (w:World) (a b:Nat) (z:Int) (d:Array UInt16),St w0 g o N d w->a<=b->b<=N->Go.Sort.Below lt a b d->b - a=m->Calls Tryz.prog 133 #[.slice (some ⟨g,o,none⟩) N cap,.int .i64 a,.int .i64 b,.int .i64 z] w fun e w'=>e = .returned (.tuple #[]) /\ ∃ d',PermIn a b d d'/\SortedIn lt a b d'/\St w0 g o N d' w')
 (w:World) (a b:Nat) (z:Int) (d:Array UInt16) (h:St w0 g o N d w) (hab:a<=b) (hb:b<=N) (hB:Go.Sort.Below lt a b d) (hn:b - a=n) :
 Calls Tryz.prog 133 #[.slice (some ⟨g,o,none⟩) N cap,.int .i64 a,.int .i64 b,.int .i64 z] w fun e w'=>e = .returned (.tuple #[]) /\ ∃ d',PermIn a b d d'/\SortedIn lt a b d'/\St w0 g o N d' w':=by
 have hsm:=R.small
 go_enter Tryz.func133,Tryz.ntmps133
 go_wp2
 go_loopg [1,2,3,8,9] (b - a) (fun k s1 s2 s3 s8 s9 wr => ∃ (x y:Nat) (z:Int) (wb wp:Bool) (dk:Array UInt16),s1 = .int .i64 (x:Int)/\s2 = .int .i64 (y:Int)/\s3 = .int .i64 z/\s8 = .bool wb/\s9 = .bool wp/\x<=y/\y<=N/\y - x<=k/\k<=n/\St w0 g o N dk wr/\Go.Sort.Below lt x y dk /\ ∀ Z,PermIn x y dk Z->SortedIn lt x y Z->PermIn a b d Z/\SortedIn lt a b Z)
 case atStart=>exact⟨a,b,z,true,true,d,rfl,rfl,rfl,rfl,rfl,hab,hb,Nat.le_refl _,by omega,h,hB,fun _ z1 z2=>⟨z1,z2⟩⟩
 case round =>
  clear h hB hn
  obtain⟨x,y,z,wb,wp,dk,rfl,rfl,rfl,rfl,rfl,hxy,hyN,hyx,hkn,hS,hB,hK⟩:=hrel
  have HK:Hid _:=hK
  have HB0:Hid (Go.Sort.Below lt x y dk):=hB
  have hsz:y<=dk.size:=by rw[hS.size];exact hyN
  have HSZ:Hid (y<=dk.size):=hsz
  clear hK hB hsz
  by_cases h12:y - x<=12
  ·have e12:(y:Int) - (x:Int)<=12:=by omega
   go_wp2_with (go_at_call 163;refine (ins_any w0 _ g o N cap x y dk R hS hxy hyN).mono ?_;rintro e w1 ⟨rfl,hS1⟩)
   have hi:=insertionSort_holds swo dk x y hxy HSZ.out
   obtain⟨i1,i2⟩:=HK.out _ hi.1 hi.2
   (try simp only[Exit.inBlock,Exit.then]);refine bodyPost_ret (results_none rfl _ _ _) rfl ?_
   exact⟨rfl,_,i1,i2,hS1⟩
  ·have e12 : ¬ (y:Int) - (x:Int)<=12:=by omega
   by_cases hz:z=0
   ·subst hz
    go_wp2_with (go_at_call 164;refine (heap_any w0 _ g o N cap x y dk R hS hxy hyN).mono ?_;rintro e w1 ⟨rfl,hS1⟩)
    have hi:=heapSort_holds swo dk x y hxy HSZ.out
    obtain⟨i1,i2⟩:=HK.out _ hi.1 hi.2
    (try simp only[Exit.inBlock,Exit.then]);refine bodyPost_ret (results_none rfl _ _ _) rfl ?_
    exact⟨rfl,_,i1,i2,hS1⟩
   ·have ez:(z == 0)=false:=by simpa using hz
    clear hz
    go_upto_if 35 with fail
    go_cut [3] from 19 (fun s3 wc => ∃ (zl:Int) (d1:Array UInt16),s3 = .int .i64 zl/\PermIn x y dk d1/\St w0 g o N d1 wc)
    case first =>
     cases wb
     ·go_wp2_with (go_at_call 165;refine (brk_any w0 _ g o N cap x y dk R hS (by omega) hyN).mono ?_;rintro e w1 ⟨rfl,d1,hp1,hS1⟩)
      go_meet
      case rel=>exact⟨_,d1,rfl,hp1,hS1⟩
     ·go_wp2_with fail
      go_meet
      case rel=>exact⟨z,dk,rfl,permIn_refl _ _ _,hS⟩
    case rest =>
     clear hS ez
     obtain⟨zl,d1,rfl,hp1,hS1⟩:=hcut
     have HP1:Hid _:=hp1
     clear hp1
     go_upto_if 50 with (go_at_call 166;refine (piv_any w0 _ g o N cap x y d1 R hS1 (by omega) hyN).mono ?_;rintro e w2 ⟨p0,zh,rfl,q1,q2,hS2⟩)
     clear hS1
     go_cut [11,12] from 19 (fun s11 s12 wc => ∃ (p:Nat) (zh:Int) (d2:Array UInt16),s11 = .int .i64 (p:Int)/\s12 = .int .i64 zh/\x<=p/\p<y/\PermIn x y dk d2/\St w0 g o N d2 wc)
     case first =>
      by_cases hzh:zh=2
      ·subst hzh
       go_wp2_with (go_at_call 167;refine (rev_any w0 _ g o N cap x y d1 R hS2 hxy hyN).mono ?_;rintro e w3 ⟨rfl,hS3⟩)
       go_meet
       case rel=>exact⟨(y - 1) - (p0 - x),1,reverseRange d1 x y,by congr 1;omega,rfl,by omega,by omega,permIn_trans _ _ _ _ _ HP1.out (reverseRange_holds d1 x y hxy (by rw[hS2.size];exact hyN)),hS3⟩
      ·have ezh:(zh == 2)=false:=by simpa using hzh
       go_wp2_with fail
       go_meet
       case rel=>exact⟨p0,zh,d1,rfl,rfl,q1,q2,HP1.out,hS2⟩
     case rest =>
      clear hS2 HP1 q1 q2
      obtain⟨p,zh,d2,rfl,rfl,hpx,hpy,hp2,hS2⟩:=hcut
      have HP2:Hid _:=hp2
      clear hp2
      go_upto_region 15 with fail
      go_cut [12,68] from 19 (fun s12 s68 wx => ∃ t:Bool,s12 = .int .i64 zh/\s68 = .bool t/\wx=wc)
      case first =>
       cases wb
       ·go_wp2_with fail
        go_meet
        case rel=>exact⟨_,rfl,rfl,rfl⟩
       ·cases wp
        ·go_wp2_with fail
         go_meet
         case rel=>exact⟨_,rfl,rfl,rfl⟩
        ·go_wp2_with fail
         go_meet
         case rel=>exact⟨_,rfl,rfl,rfl⟩
      case rest =>
       obtain⟨t,rfl,rfl,rfl⟩:=hcut
       go_upto_if 68 with fail
       go_cut [] from 19 (fun wx => ∃ d3:Array UInt16,PermIn x y dk d3/\St w0 g o N d3 wx)
       case first =>
        cases t
        ·go_wp2_with fail
         go_meet
         case rel=>exact⟨d2,HP2.out,hS2⟩
        ·have hpi:=partialInsertionSort_holds swo d2 x y (by omega) (by rw[hS2.size];exact hyN) (HB0.out.perm HSZ.out HP2.out)
         have hcp:=pins_any w0 wc g o N cap x y d2 R hS2 (by omega) hyN
         obtain⟨d3,bi,hdi⟩ : ∃ d3 bi,partialInsertionSort lt d2 x y=(d3,bi):=⟨_,_,rfl⟩
         rw[hdi] at hpi hcp
         have HPI:Hid _:=hpi
         clear hpi hdi
         cases bi
         ·go_wp2_with (go_at_call 168;refine hcp.mono ?_;rintro e w4 ⟨rfl,hS4⟩)
          go_meet
          case rel=>exact⟨d3,permIn_trans _ _ _ _ _ HP2.out HPI.out.1,hS4⟩
         ·go_wp2_with (go_at_call 168;refine hcp.mono ?_;rintro e w4 ⟨rfl,hS4⟩)
          (try simp only[Exit.inBlock,Exit.then]);refine bodyPost_ret (results_none rfl _ _ _) rfl ?_
          obtain⟨k1,k2⟩:=HK.out d3 (permIn_trans _ _ _ _ _ HP2.out HPI.out.1) (HPI.out.2 (by trivial))
          exact⟨rfl,d3,k1,k2,hS4⟩
       case rest =>
        clear hS2 HP2
        obtain⟨d3,hp3,hS3⟩:=hcut
        have HP:Hid _:=hp3
        have HB:Hid (Go.Sort.Below lt x y d3):=HB0.out.perm HSZ.out hp3
        clear hp3 HB0 HSZ
        obtain⟨G,HG,hc,hf⟩:=hS3.look R
        have hpN:p<N:=by omega
        go_upto_region 17 with fail
        go_cut [87] from 19 (fun s87 wx => ∃ t:Bool,s87 = .bool t/\(t=true->0<x/\lt d3[x - 1]! d3[p]! = false)/\St w0 g o N d3 wx)
        case first =>
         by_cases hx0:0<x
         ·go_quiet (first | (go_at_call 169;refine Calls.quiet_of_same (less_any _ _ _)))
          go_wp2_with fail
          go_meet
          case rel=>exact⟨_,rfl,fun ht=>⟨hx0,by rw[HG.out,HG.out];simpa using ht⟩,hS3.drewN _⟩
         ·have ex0:decide ((0:Int)<(x:Int))=false:=decide_eq_false (by omega)
          go_quiet (first | (go_at_call 169;refine Calls.quiet_of_same (less_any _ _ _)))
          go_wp2_with fail
          go_meet
          case rel=>exact⟨false,rfl,fun ht=>(by cases ht),hS3.drewN _⟩
        case rest =>
         clear hS3 hc hf HG
         obtain⟨t,rfl,ht,hS5⟩:=hcut
         cases t
         ·clear ht
          obtain⟨mid,ap,d4,hpt⟩ : ∃ mid ap d4,partition lt d3 x y p=(mid,ap,d4):=⟨_,_,_,rfl⟩
          have hcp:=part_any w0 wc g o N cap x y p d3 R hS5 hpx hpy hyN
          obtain⟨m1,m2,m3,m4,m5,mL,mR⟩:=round_part swo (partition_holds lt) hpx hpy (by rw[hS5.size];exact hyN) HB.out hpt
          rw[hpt] at hcp
          have MF:Hid _:=And.intro m4 m5
          have ML:Hid _:=mL
          have MR:Hid _:=mR
          clear hpt m3 m4 m5 mL mR HB
          go_upto_if 113 with (go_at_call 171;refine hcp.mono ?_;rintro e w6 ⟨rfl,hS6⟩)
          clear hS5 hcp
          by_cases hlr:mid - x<y - mid
          ·have elr:(mid:Int) - (x:Int)<(y:Int) - (mid:Int):=by omega
           go_wp2_with (go_at_call 133;refine (ih (mid - x) (by omega) _ x mid zl d4 hS6 m1 (by omega) MF.out.1 rfl).mono ?_;rintro e w7 ⟨rfl,dl,hL1,hL2,hS7⟩)
           go_roundg (y - (mid+1))
           case measure=>omega
           case rel=>exact⟨mid+1,y,zl,_,ap,dl,by go_num,rfl,rfl,rfl,rfl,by omega,hyN,Nat.le_refl _,by omega,hS7,(ML.out dl hL1 hL2).1,fun Z z1 z2=>by obtain⟨y1,y2⟩:=(ML.out dl hL1 hL2).2 Z z1 z2;exact HK.out Z (permIn_trans _ _ _ _ _ HP.out y1) y2⟩
          ·have elr : ¬ (mid:Int) - (x:Int)<(y:Int) - (mid:Int):=by omega
           have hih:=ih (y - (mid+1)) (by omega) w6 (mid+1) y zl d4 hS6 (by omega) hyN MF.out.2 rfl
           rw[show ((mid+1:Nat):Int)=(mid:Int)+1 by omega] at hih
           go_wp2_with (go_at_call 133;refine hih.mono ?_;rintro e w7 ⟨rfl,dl,hL1,hL2,hS7⟩)
           go_roundg (mid - x)
           case measure=>omega
           case rel=>exact⟨x,mid,zl,_,ap,dl,rfl,rfl,rfl,rfl,rfl,by omega,by omega,Nat.le_refl _,by omega,hS7,(MR.out dl hL1 hL2).1,fun Z z1 z2=>by obtain⟨y1,y2⟩:=(MR.out dl hL1 hL2).2 Z z1 z2;exact HK.out Z (permIn_trans _ _ _ _ _ HP.out y1) y2⟩
         ·obtain⟨hx0,hl⟩:=ht rfl
          obtain⟨mid,d4,hpe⟩ : ∃ mid d4,partitionEqual lt d3 x y p=(mid,d4):=⟨_,_,rfl⟩
          have hcp:=peq_any w0 wc g o N cap x y p d3 R hS5 hpx hpy hyN
          obtain⟨m1,m2,m3,m4,mR⟩:=round_eq swo (partitionEqual_holds lt) hx0 hpx hpy (by rw[hS5.size];exact hyN) HB.out hl hpe
          rw[hpe] at hcp
          have MF:Hid _:=m4
          have MR:Hid _:=mR
          clear m3 m4 mR hl hpe ht
          go_wp2_with (go_at_call 170;refine hcp.mono ?_;rintro e w6 ⟨rfl,hS6⟩)
          go_roundg (y - mid)
          case measure=>omega
          case rel=>exact⟨mid,y,zl,_,_,d4,rfl,rfl,rfl,rfl,rfl,m2,hyN,Nat.le_refl _,by omega,hS6,MF.out,fun Z z1 z2=>by obtain⟨y1,y2⟩:=MR.out Z z1 z2;exact HK.out Z (permIn_trans _ _ _ _ _ HP.out y1) y2⟩
theorem pdq_any (w0:World) (g o N cap:Nat) (R:Rw w0 g o N) (n:Nat) : ∀ (w:World) (a b:Nat) (z:Int) (d:Array UInt16),St w0 g o N d w->a<=b->b<=N->Go.Sort.Below lt a b d->b - a=n->Calls Tryz.prog 133 #[.slice (some ⟨g,o,none⟩) N cap,.int .i64 a,.int .i64 b,.int .i64 z] w fun e w'=>e = .returned (.tuple #[]) /\ ∃ d',PermIn a b d d'/\SortedIn lt a b d'/\St w0 g o N d' w':=by
 induction n using Nat.strongRecOn with
 | _ n ih=>exact fun w a b z d h hab hb hB hn=>pdq_step w0 g o N cap R n ih w a b z d h hab hb hB hn
open Go.RowKit Go.Sort Q
theorem ins_none (v:Value) (w:World):Calls Tryz.prog 163 #[v,.int .i64 0,.int .i64 0] w fun e w'=>e = .returned (.tuple #[])/\w'=w:=by
 go_enter Tryz.func163,Tryz.ntmps163
 go_wp2
 go_loopw [6] (fun v W=>v = .int .i64 1/\W=w) (fun _ _=>0)
 case atStart=>exact⟨rfl,rfl⟩
 case round =>
  obtain⟨rfl,rfl⟩:=hrel
  go_wp2
  go_end0
  exact⟨rfl,rfl⟩
theorem pdq_none (v:Value) (z:Int) (w:World):Calls Tryz.prog 133 #[v,.int .i64 0,.int .i64 0,.int .i64 z] w fun e w'=>e = .returned (.tuple #[])/\w'=w:=by
 go_enter Tryz.func133,Tryz.ntmps133
 go_wp2
 go_loopw [1,2] (fun v u W=>v = .int .i64 0/\u = .int .i64 0/\W=w) (fun _ _ _=>0)
 case atStart=>exact⟨rfl,rfl,rfl⟩
 case round =>
  obtain⟨rfl,rfl,rfl⟩:=hrel
  go_wp2_with (go_at_call 163;refine (ins_none _ _).mono ?_;rintro e w1 ⟨rfl,rfl⟩)
  (try simp only[Exit.inBlock,Exit.then]);refine bodyPost_ret (results_none rfl _ _ _) rfl ?_
  exact⟨rfl,rfl⟩
theorem sort_none (ao:Option Addr) (cap:Nat) (w:World):Calls Tryz.prog 103 #[.slice ao 0 cap] w fun e w'=>e = .returned (.tuple #[])/\w'=w:=by
 go_enter Tryz.func103,Tryz.ntmps103
 go_wp2_with fail
 go_at_call 134
 refine (Tryz.bits_Len 0 _ (by omega) (by omega)).mono ?_
 rintro e w1 ⟨rfl,rfl⟩
 go_wp2_with fail
 go_at_call 133
 refine (pdq_none _ _ _).mono ?_
 rintro e w1 ⟨rfl,rfl⟩
 go_wp2
 go_end0
 exact⟨rfl,rfl⟩
theorem sort_any (w:World) (g o N cap:Nat) (d:Array UInt16) (hd:d.size=N) (hN:N<4611686018427387904) (hg:g<w.heap.size) (hH:Holds enc w g o d) :
 Calls Tryz.prog 103 #[.slice (some ⟨g,o,none⟩) N cap] w fun e w'=>e = .returned (.tuple #[]) /\ ∃ d',PermIn 0 N d d'/\SortedIn lt 0 N d'/\St w g o N d' w':=by
 have R:Rw w g o N:=⟨⟨d,hd,⟨fun _=>rfl,hH,hg⟩⟩,hN⟩
 have h:St w g o N d w:=⟨hd,SW.start hH⟩
 have c0:=Tryz.bits_Len (N:Int) w (by omega) (by omega)
 generalize Lib.bitLen (N:Int).toNat=bl at c0
 have c1:=pdq_any w g o N cap R N w 0 N (bl:Int) d h (by omega) (Nat.le_refl _) (Or.inl rfl) rfl
 go_enter Tryz.func103,Tryz.ntmps103
 go_wp2_with fail
 go_at_call 134
 refine c0.mono ?_
 rintro e w1 ⟨rfl,rfl⟩
 go_wp2_with fail
 go_at_call 133
 refine c1.mono ?_
 rintro e w1 ⟨rfl,d',h1,h2,h3⟩
 go_wp2
 go_end0
 exact⟨rfl,d',h1,h2,h3⟩
end Go.Proofs.YtmbcegljmhcdeaaGreat
