/- rtype.Clean, rtype.Bitmap (texts of stage 4, at this seat). -/
import Derived.Test.YtmbcegljmhcdeaaGreatSrB
import Derived.Test.YtmbcegljmhcdeaaGreatSh
import Derived.Sort.WalkC4
import Derived.Sort.LotD3
import Derived.Sort.LotB
import Derived.Deep.Cut
import Derived.Deep.LoopGhost
import Derived.Test.YtmbcegljmhcdeaaGreatDat
import Derived.Deep.RegionLaw
import Derived.Lib.AppendStr
import Derived.Deep.RegionWith
import Derived.Laws.BitsAllLaws
namespace Go.Proofs.YtmbcegljmhcdeaaGreat
set_option maxRecDepth 5000
open Go.RowKit Go.Sort Q
set_option maxRecDepth 100000 in
set_option maxHeartbeats 25600000 in
theorem part_any (w0 w:World) (g o N cap a b p:Nat) (d:Array UInt16) (R:Rw w0 g o N) (h:St w0 g o N d w) (hap:a<=p) (hpb:p<b) (hb:b<=N) :
 Calls Tryz.prog 171 #[.slice (some ⟨g,o,none⟩) N cap,.int .i64 a,.int .i64 b,.int .i64 p] w fun e w'=>e = .returned (.tuple #[.int .i64 ((partition lt d a b p).1:Int),.bool (partition lt d a b p).2.1])/\St w0 g o N (partition lt d a b p).2.2 w':=by
 have hsm:=R.small
 obtain⟨G,HG,hc,hf⟩:=h.look R
 obtain⟨x0,hx0⟩:=two hc a p (by omega) (by omega) (.int .u16 ((G p).toNat:Int))
 have HS:Hid _:=h
 clear h
 have haN:a<N:=by omega
 have hpN:p<N:=by omega
 go_enter Tryz.func171,Tryz.ntmps171
 go_wp2
 go_region
 have HS1:Hid (St w0 g o N (swp d a p) ((w.setCell ⟨g,o+a,none⟩ (.int .u16 ((G p).toNat:Int))).setCell ⟨g,o+p,none⟩ (.int .u16 ((G a).toNat:Int))).drew):=HS.out.swap R HG.out 1 a p haN hpN
 clear HS hc hf hx0
 generalize ((w.setCell ⟨g,o+a,none⟩ (.int .u16 ((G p).toNat:Int))).setCell ⟨g,o+p,none⟩ (.int .u16 ((G a).toNat:Int))).drew=w1 at HS1 ⊢
 clear HG
 obtain⟨i,hi⟩ : ∃ i,i=a+1:=⟨_,rfl⟩
 obtain⟨j,hj⟩ : ∃ j,j=b - 1:=⟨_,rfl⟩
 obtain⟨dk,hdk⟩ : ∃ dk,dk=swp d a p:=⟨_,rfl⟩
 rw[<- hdk] at HS1
 have HI0:Hid (i=a+1/\j=b - 1/\dk=swp d a p):=⟨hi,hj,hdk⟩
 have hai:a<i:=by omega
 have hij:i<=j+1:=by omega
 have hjb:j<b:=by omega
 have ei:(a:Int)+1=(i:Int):=by omega
 have ej:(b:Int) - 1=(j:Int):=by omega
 have HS:=HS1
 clear hi hj hdk HS1
 go_wp2
 go_loopw [10] (fun v W => ∃ k:Nat,v = .int .i64 (k:Int)/\i<=k/\k<=j+1/\St w0 g o N dk W/\scanUp (fun x=>lt x dk[a]!) dk j i=scanUp (fun x=>lt x dk[a]!) dk j k) (fun v _=>j+1 - (intOf v).toNat)
 case atStart=>exact⟨i,by first | rfl | (congr 1;omega),Nat.le_refl _,hij,HS.out,rfl⟩
 case round =>
  clear HS
  obtain⟨i2,rfl,hi1,hi2,hS,hI⟩:=hrel
  obtain⟨G,HG,hc,hf⟩:=hS.look R
  have HS:Hid _:=hS
  have HII:Hid _:=hI
  clear hS hI
  go_wp2
  by_cases hik:i2<=j
  ·by_cases hl:lt (G i2) (G a)=true
   ·go_quiet (first | (go_at_call 169;refine Calls.quiet_of_same (less_any _ _ _)))
    go_wp2
    go_roundw
    case rel=>exact⟨i2+1,by go_num,by omega,by omega,HS.out.drewN _,by rw[HII.out,scanUp_go (fun x=>lt x dk[a]!) dk j i2 hik (by rw[HG.out,HG.out];exact hl)]⟩
    case measure=>simp[intOf];omega
   ·have hl':lt (G i2) (G a)=false:=by simpa using hl
    clear hl
    have HI:Hid (i2=scanUp (fun x=>lt x dk[a]!) dk j i):=by show i2=_;rw[HII.out,scanUp_end (fun x=>lt x dk[a]!) dk j i2 (Or.inr (by rw[HG.out,HG.out];exact hl'))]
    go_quiet (first | (go_at_call 169;refine Calls.quiet_of_same (less_any _ _ _)))
    replace HS:Hid (St w0 g o N dk (wr.drewN nq)):=HS.out.drewN nq
    replace hc : ∀ t,t<N->(wr.drewN nq).cell? ⟨g,o+t,none⟩=some (.int .u16 ((G t).toNat:Int)):=hc
    replace hf : ∀ t,t<N->(wr.drewN nq).frozen? ⟨g,o+t,none⟩=false:=hf
    generalize wr.drewN nq=wr2 at HS hc hf ⊢
    clear nq
    clear HII hl'
    go_wp2
    go_loopw [11] (fun v W => ∃ k:Nat,v = .int .i64 (k:Int)/\i2<=k+1/\k<=j/\St w0 g o N dk W/\scanDown (fun x => !lt x dk[a]!) dk i2 j=scanDown (fun x => !lt x dk[a]!) dk i2 k) (fun v _=>(intOf v).toNat)
    case atStart=>exact⟨j,by first | rfl | (congr 1;omega),by omega,Nat.le_refl _,HS.out,rfl⟩
    case round =>
     clear HS hc hf
     obtain⟨k,rfl,hk1,hk2,hS,hJ⟩:=hrel
     have HS:Hid _:=hS
     have HJ:Hid _:=hJ
     clear hJ HG
     obtain⟨G,HG,hc,hf⟩:=hS.look R
     clear hS
     go_wp2
     by_cases hik:i2<=k
     ·have hk0:0<k:=by omega
      by_cases hl:lt (G k) (G a)=true
      ·have HJ2:Hid (k=scanDown (fun x => !lt x dk[a]!) dk i2 j):=by show k=_;rw[HJ.out,scanDown_end (fun x => !lt x dk[a]!) dk i2 k (Or.inr (by rw[HG.out,HG.out,hl];rfl))]
       have hlt:i2<k:=part_scans_lt lt a i j dk (by omega) HI.out HJ2.out hik
       have elt : ¬ (k:Int)<(i2:Int):=by omega
       go_quiet (first | (go_at_call 169;refine Calls.quiet_of_same (less_any _ _ _)))
       replace HS:Hid (St w0 g o N dk (wr.drewN nq)):=HS.out.drewN nq
       replace hc : ∀ t,t<N->(wr.drewN nq).cell? ⟨g,o+t,none⟩=some (.int .u16 ((G t).toNat:Int)):=hc
       replace hf : ∀ t,t<N->(wr.drewN nq).frozen? ⟨g,o+t,none⟩=false:=hf
       generalize wr.drewN nq=wrk at HS hc hf ⊢
       clear nq
       go_wp2
       go_region
       have HS1:Hid (St w0 g o N (swp dk i2 k) ((wrk.setCell ⟨g,o+i2,none⟩ (.int .u16 ((G k).toNat:Int))).setCell ⟨g,o+k,none⟩ (.int .u16 ((G i2).toNat:Int))).drew):=HS.out.swap R HG.out 1 i2 k (by omega) (by omega)
       have HE:Hid (partition lt d a b p=((partLoop lt a (i2+1) (k - 1) (swp dk i2 k)).1,false,swp (partLoop lt a (i2+1) (k - 1) (swp dk i2 k)).2 (partLoop lt a (i2+1) (k - 1) (swp dk i2 k)).1 a)):=part_first_go lt d a b p HI0.out.1 HI0.out.2.1 HI0.out.2.2 HI.out HJ2.out (by omega)
       clear HS hc hf
       generalize ((wrk.setCell ⟨g,o+i2,none⟩ (.int .u16 ((G k).toNat:Int))).setCell ⟨g,o+k,none⟩ (.int .u16 ((G i2).toNat:Int))).drew=wrq at HS1 ⊢
       have hik1:a<i2+1/\i2+1<=(k - 1)+1/\k - 1<b:=by omega
       obtain⟨r1,r2,r3⟩:=hik1
       have ek1:(k:Int) - 1=((k - 1:Nat):Int):=by omega
       generalize swp dk i2 k=ds at HS1 HE
       clear HI HJ2 HJ HG hl hik hi1 hi2 hk1 hk2 hlt elt hk0
       go_wp2
       go_loopw [10,11] (fun v u W => ∃ (i j:Nat) (dk:Array UInt16),v = .int .i64 (i:Int)/\u = .int .i64 (j:Int)/\a<i/\i<=j+1/\j<b/\St w0 g o N dk W/\partLoop lt a i j dk=partLoop lt a (i2+1) (k - 1) ds) (fun v u _=>((intOf u)+1 - (intOf v)).toNat)
       case atStart=>exact⟨i2+1,k - 1,ds,by go_num,by congr 1,r1,r2,r3,HS1.out,rfl⟩
       case round =>
        clear HS1 HI0 hij hjb hai ek1 r1 r2 r3
        obtain⟨i,j,dk,rfl,rfl,hai,hij,hjb,hS,hO⟩:=hrel
        have HO:Hid _:=hO
        have HS:Hid _:=hS
        clear hO hS
        go_wp2
        go_loopw [10] (fun v W => ∃ k:Nat,v = .int .i64 (k:Int)/\i<=k/\k<=j+1/\St w0 g o N dk W/\scanUp (fun x=>lt x dk[a]!) dk j i=scanUp (fun x=>lt x dk[a]!) dk j k) (fun v _=>j+1 - (intOf v).toNat)
        case atStart=>exact⟨i,by first | rfl | (congr 1;omega),Nat.le_refl _,hij,HS.out,rfl⟩
        case round =>
         clear HS
         obtain⟨i2,rfl,hi1,hi2,hS,hI⟩:=hrel
         obtain⟨G,HG,hc,hf⟩:=hS.look R
         have HS:Hid _:=hS
         have HII:Hid _:=hI
         clear hS hI
         go_wp2
         by_cases hik:i2<=j
         ·by_cases hl:lt (G i2) (G a)=true
          ·go_quiet (first | (go_at_call 169;refine Calls.quiet_of_same (less_any _ _ _)))
           go_wp2
           go_roundw
           case rel=>exact⟨i2+1,by go_num,by omega,by omega,HS.out.drewN _,by rw[HII.out,scanUp_go (fun x=>lt x dk[a]!) dk j i2 hik (by rw[HG.out,HG.out];exact hl)]⟩
           case measure=>simp[intOf];omega
          ·have hl':lt (G i2) (G a)=false:=by simpa using hl
           clear hl
           have HI:Hid (i2=scanUp (fun x=>lt x dk[a]!) dk j i):=by show i2=_;rw[HII.out,scanUp_end (fun x=>lt x dk[a]!) dk j i2 (Or.inr (by rw[HG.out,HG.out];exact hl'))]
           go_quiet (first | (go_at_call 169;refine Calls.quiet_of_same (less_any _ _ _)))
           replace HS:Hid (St w0 g o N dk (wr.drewN nq)):=HS.out.drewN nq
           replace hc : ∀ t,t<N->(wr.drewN nq).cell? ⟨g,o+t,none⟩=some (.int .u16 ((G t).toNat:Int)):=hc
           replace hf : ∀ t,t<N->(wr.drewN nq).frozen? ⟨g,o+t,none⟩=false:=hf
           generalize wr.drewN nq=wr2 at HS hc hf ⊢
           clear nq
           clear HII hl'
           go_wp2
           go_loopw [11] (fun v W => ∃ k:Nat,v = .int .i64 (k:Int)/\i2<=k+1/\k<=j/\St w0 g o N dk W/\scanDown (fun x => !lt x dk[a]!) dk i2 j=scanDown (fun x => !lt x dk[a]!) dk i2 k) (fun v _=>(intOf v).toNat)
           case atStart=>exact⟨j,by first | rfl | (congr 1;omega),by omega,Nat.le_refl _,HS.out,rfl⟩
           case round =>
            clear HS hc hf
            obtain⟨k,rfl,hk1,hk2,hS,hJ⟩:=hrel
            have HS:Hid _:=hS
            have HJ:Hid _:=hJ
            clear hJ HG
            obtain⟨G,HG,hc,hf⟩:=hS.look R
            clear hS
            go_wp2
            by_cases hik:i2<=k
            ·have hk0:0<k:=by omega
             by_cases hl:lt (G k) (G a)=true
             ·have HJ2:Hid (k=scanDown (fun x => !lt x dk[a]!) dk i2 j):=by show k=_;rw[HJ.out,scanDown_end (fun x => !lt x dk[a]!) dk i2 k (Or.inr (by rw[HG.out,HG.out,hl];rfl))]
              have hlt:i2<k:=part_scans_lt lt a i j dk (by omega) HI.out HJ2.out hik
              have elt : ¬ (k:Int)<(i2:Int):=by omega
              go_quiet (first | (go_at_call 169;refine Calls.quiet_of_same (less_any _ _ _)))
              replace HS:Hid (St w0 g o N dk (wr.drewN nq)):=HS.out.drewN nq
              replace hc : ∀ t,t<N->(wr.drewN nq).cell? ⟨g,o+t,none⟩=some (.int .u16 ((G t).toNat:Int)):=hc
              replace hf : ∀ t,t<N->(wr.drewN nq).frozen? ⟨g,o+t,none⟩=false:=hf
              generalize wr.drewN nq=wrk at HS hc hf ⊢
              clear nq
              go_wp2
              go_region
              all_goals go_wp2
              go_roundw
              case rel=>exact⟨i2+1,k - 1,swp dk i2 k,by go_num,by congr 1;omega,by omega,by omega,by omega,HS.out.swap R HG.out _ i2 k (by omega) (by omega),by rw[<- HO.out,part_go lt a i j dk HI.out HJ2.out (by omega)]⟩
              case measure=>simp[intOf];omega
             ·have hl':lt (G k) (G a)=false:=by simpa using hl
              clear hl
              go_quiet (first | (go_at_call 169;refine Calls.quiet_of_same (less_any _ _ _)))
              go_wp2
              go_roundw
              case rel=>exact⟨k - 1,by congr 1;omega,by omega,by omega,HS.out.drewN _,by rw[HJ.out,scanDown_go (fun x => !lt x dk[a]!) dk i2 k hik hk0 (by rw[HG.out,HG.out,hl'];rfl)]⟩
              case measure=>simp[intOf];omega
            ·have eik:decide ((i2:Int)<=(k:Int))=false:=decide_eq_false (by omega)
             have HJ2:Hid (k=scanDown (fun x => !lt x dk[a]!) dk i2 j):=by show k=_;rw[HJ.out,scanDown_end (fun x => !lt x dk[a]!) dk i2 k (Or.inl hik)]
             have elt:(k:Int)<(i2:Int):=by omega
             go_quiet (first | (go_at_call 169;refine Calls.quiet_of_same (less_any _ _ _)))
             replace HS:Hid (St w0 g o N dk (wr.drewN nq)):=HS.out.drewN nq
             replace hc : ∀ t,t<N->(wr.drewN nq).cell? ⟨g,o+t,none⟩=some (.int .u16 ((G t).toNat:Int)):=hc
             replace hf : ∀ t,t<N->(wr.drewN nq).frozen? ⟨g,o+t,none⟩=false:=hf
             generalize wr.drewN nq=wrk at HS hc hf ⊢
             clear nq
             clear eik
             have hkN:k<N:=by omega
             obtain⟨x0,hx0⟩:=two hc k a hkN haN (.int .u16 ((G a).toNat:Int))
             go_wp2
             go_region
             all_goals go_wp2
             go_ret2
             have e:=HO.out
             rw[part_break lt a i j dk HI.out HJ2.out (by omega)] at e
             rw[HE.out, <- e]
             exact⟨rfl,HS.out.swap R HG.out 1 k a hkN haN⟩
         ·have eik:decide ((i2:Int)<=(j:Int))=false:=decide_eq_false (by omega)
          have HI:Hid (i2=scanUp (fun x=>lt x dk[a]!) dk j i):=by show i2=_;rw[HII.out,scanUp_end (fun x=>lt x dk[a]!) dk j i2 (Or.inl hik)]
          go_quiet (first | (go_at_call 169;refine Calls.quiet_of_same (less_any _ _ _)))
          replace HS:Hid (St w0 g o N dk (wr.drewN nq)):=HS.out.drewN nq
          replace hc : ∀ t,t<N->(wr.drewN nq).cell? ⟨g,o+t,none⟩=some (.int .u16 ((G t).toNat:Int)):=hc
          replace hf : ∀ t,t<N->(wr.drewN nq).frozen? ⟨g,o+t,none⟩=false:=hf
          generalize wr.drewN nq=wr2 at HS hc hf ⊢
          clear nq
          clear HII eik
          go_wp2
          go_loopw [11] (fun v W => ∃ k:Nat,v = .int .i64 (k:Int)/\i2<=k+1/\k<=j/\St w0 g o N dk W/\scanDown (fun x => !lt x dk[a]!) dk i2 j=scanDown (fun x => !lt x dk[a]!) dk i2 k) (fun v _=>(intOf v).toNat)
          case atStart=>exact⟨j,by first | rfl | (congr 1;omega),by omega,Nat.le_refl _,HS.out,rfl⟩
          case round =>
           clear HS hc hf
           obtain⟨k,rfl,hk1,hk2,hS,hJ⟩:=hrel
           have HS:Hid _:=hS
           have HJ:Hid _:=hJ
           clear hJ HG
           obtain⟨G,HG,hc,hf⟩:=hS.look R
           clear hS
           go_wp2
           by_cases hik:i2<=k
           ·omega
           ·have eik:decide ((i2:Int)<=(k:Int))=false:=decide_eq_false (by omega)
            have HJ2:Hid (k=scanDown (fun x => !lt x dk[a]!) dk i2 j):=by show k=_;rw[HJ.out,scanDown_end (fun x => !lt x dk[a]!) dk i2 k (Or.inl hik)]
            have elt:(k:Int)<(i2:Int):=by omega
            go_quiet (first | (go_at_call 169;refine Calls.quiet_of_same (less_any _ _ _)))
            replace HS:Hid (St w0 g o N dk (wr.drewN nq)):=HS.out.drewN nq
            replace hc : ∀ t,t<N->(wr.drewN nq).cell? ⟨g,o+t,none⟩=some (.int .u16 ((G t).toNat:Int)):=hc
            replace hf : ∀ t,t<N->(wr.drewN nq).frozen? ⟨g,o+t,none⟩=false:=hf
            generalize wr.drewN nq=wrk at HS hc hf ⊢
            clear nq
            clear eik
            have hkN:k<N:=by omega
            obtain⟨x0,hx0⟩:=two hc k a hkN haN (.int .u16 ((G a).toNat:Int))
            go_wp2
            go_region
            all_goals go_wp2
            go_ret2
            have e:=HO.out
            rw[part_break lt a i j dk HI.out HJ2.out (by omega)] at e
            rw[HE.out, <- e]
            exact⟨rfl,HS.out.swap R HG.out 1 k a hkN haN⟩
      ·have hl':lt (G k) (G a)=false:=by simpa using hl
       clear hl
       go_quiet (first | (go_at_call 169;refine Calls.quiet_of_same (less_any _ _ _)))
       go_wp2
       go_roundw
       case rel=>exact⟨k - 1,by congr 1;omega,by omega,by omega,HS.out.drewN _,by rw[HJ.out,scanDown_go (fun x => !lt x dk[a]!) dk i2 k hik hk0 (by rw[HG.out,HG.out,hl'];rfl)]⟩
       case measure=>simp[intOf];omega
     ·have eik:decide ((i2:Int)<=(k:Int))=false:=decide_eq_false (by omega)
      have HJ2:Hid (k=scanDown (fun x => !lt x dk[a]!) dk i2 j):=by show k=_;rw[HJ.out,scanDown_end (fun x => !lt x dk[a]!) dk i2 k (Or.inl hik)]
      have elt:(k:Int)<(i2:Int):=by omega
      go_quiet (first | (go_at_call 169;refine Calls.quiet_of_same (less_any _ _ _)))
      replace HS:Hid (St w0 g o N dk (wr.drewN nq)):=HS.out.drewN nq
      replace hc : ∀ t,t<N->(wr.drewN nq).cell? ⟨g,o+t,none⟩=some (.int .u16 ((G t).toNat:Int)):=hc
      replace hf : ∀ t,t<N->(wr.drewN nq).frozen? ⟨g,o+t,none⟩=false:=hf
      generalize wr.drewN nq=wrk at HS hc hf ⊢
      clear nq
      clear eik
      have hkN:k<N:=by omega
      obtain⟨x0,hx0⟩:=two hc k a hkN haN (.int .u16 ((G a).toNat:Int))
      go_wp2
      go_region
      all_goals go_wp2
      go_ret2
      rw[part_first_break lt d a b p HI0.out.1 HI0.out.2.1 HI0.out.2.2 HI.out HJ2.out (by omega)]
      exact⟨rfl,HS.out.swap R HG.out 1 k a hkN haN⟩
  ·have eik:decide ((i2:Int)<=(j:Int))=false:=decide_eq_false (by omega)
   have HI:Hid (i2=scanUp (fun x=>lt x dk[a]!) dk j i):=by show i2=_;rw[HII.out,scanUp_end (fun x=>lt x dk[a]!) dk j i2 (Or.inl hik)]
   go_quiet (first | (go_at_call 169;refine Calls.quiet_of_same (less_any _ _ _)))
   replace HS:Hid (St w0 g o N dk (wr.drewN nq)):=HS.out.drewN nq
   replace hc : ∀ t,t<N->(wr.drewN nq).cell? ⟨g,o+t,none⟩=some (.int .u16 ((G t).toNat:Int)):=hc
   replace hf : ∀ t,t<N->(wr.drewN nq).frozen? ⟨g,o+t,none⟩=false:=hf
   generalize wr.drewN nq=wr2 at HS hc hf ⊢
   clear nq
   clear HII eik
   go_wp2
   go_loopw [11] (fun v W => ∃ k:Nat,v = .int .i64 (k:Int)/\i2<=k+1/\k<=j/\St w0 g o N dk W/\scanDown (fun x => !lt x dk[a]!) dk i2 j=scanDown (fun x => !lt x dk[a]!) dk i2 k) (fun v _=>(intOf v).toNat)
   case atStart=>exact⟨j,by first | rfl | (congr 1;omega),by omega,Nat.le_refl _,HS.out,rfl⟩
   case round =>
    clear HS hc hf
    obtain⟨k,rfl,hk1,hk2,hS,hJ⟩:=hrel
    have HS:Hid _:=hS
    have HJ:Hid _:=hJ
    clear hJ HG
    obtain⟨G,HG,hc,hf⟩:=hS.look R
    clear hS
    go_wp2
    by_cases hik:i2<=k
    ·omega
    ·have eik:decide ((i2:Int)<=(k:Int))=false:=decide_eq_false (by omega)
     have HJ2:Hid (k=scanDown (fun x => !lt x dk[a]!) dk i2 j):=by show k=_;rw[HJ.out,scanDown_end (fun x => !lt x dk[a]!) dk i2 k (Or.inl hik)]
     have elt:(k:Int)<(i2:Int):=by omega
     go_quiet (first | (go_at_call 169;refine Calls.quiet_of_same (less_any _ _ _)))
     replace HS:Hid (St w0 g o N dk (wr.drewN nq)):=HS.out.drewN nq
     replace hc : ∀ t,t<N->(wr.drewN nq).cell? ⟨g,o+t,none⟩=some (.int .u16 ((G t).toNat:Int)):=hc
     replace hf : ∀ t,t<N->(wr.drewN nq).frozen? ⟨g,o+t,none⟩=false:=hf
     generalize wr.drewN nq=wrk at HS hc hf ⊢
     clear nq
     clear eik
     have hkN:k<N:=by omega
     obtain⟨x0,hx0⟩:=two hc k a hkN haN (.int .u16 ((G a).toNat:Int))
     go_wp2
     go_region
     all_goals go_wp2
     go_ret2
     rw[part_first_break lt d a b p HI0.out.1 HI0.out.2.1 HI0.out.2.2 HI.out HJ2.out (by omega)]
     exact⟨rfl,HS.out.swap R HG.out 1 k a hkN haN⟩
open Go.RowKit Go.Sort Q
set_option maxRecDepth 100000 in
set_option maxHeartbeats 25600000 in
theorem pdq_step (w0:World) (g o N cap:Nat) (R:Rw w0 g o N) (n:Nat)
 (ih : ∀ m,m<n -> ∀ (w:World) (a b:Nat) (z:Int) (d:Array UInt16),St w0 g o N d w->a<=b->b<=N->Go.Sort.Below lt a b d->b - a=m->Calls Tryz.prog 133 #[.slice (some ⟨g,o,none⟩) N cap,.int .i64 a,.int .i64 b,.int .i64 z] w fun e w'=>e = .returned (.tuple #[]) /\ ∃ d',PermIn a b d d'/\SortedIn lt a b d'/\St w0 g o N d' w')
 (w:World) (a b:Nat) (z:Int) (d:Array UInt16) (h:St w0 g o N d w) (hab:a<=b) (hb:b<=N) (hB:Go.Sort.Below lt a b d) (hn:b - a=n) :
 Calls Tryz.prog 133 #[.slice (some ⟨g,o,none⟩) N cap,.int .i64 a,.int .i64 b,.int .i64 z] w fun e w'=>e = .returned (.tuple #[]) /\ ∃ d',PermIn a b d d'/\SortedIn lt a b d'/\St w0 g o N d' w':=by
 have hsm:=R.small
 go_enter Tryz.func133,Tryz.ntmps133
 go_wp2
 go_loopg [1,2,3,8,9] (b - a) (fun k s1 s2 s3 s8 s9 wr => ∃ (x y:Nat) (z:Int) (wb wp:Bool) (dk:Array UInt16),s1 = .int .i64 (x:Int)/\s2 = .int .i64 (y:Int)/\s3 = .int .i64 z/\s8 = .bool wb/\s9 = .bool wp/\x<=y/\y<=N/\y - x<=k/\k<=n/\St w0 g o N dk wr/\Go.Sort.Below lt x y dk /\ ∀ Z,PermIn x y dk Z->SortedIn lt x y Z->PermIn a b d Z/\SortedIn lt a b Z)
 case atStart=>exact⟨a,b,z,true,true,d,rfl,rfl,rfl,rfl,rfl,hab,hb,Nat.le_refl _,by omega,h,hB,fun _ z1 z2=>⟨z1,z2⟩⟩
 case round =>
  clear h hB hn
  obtain⟨x,y,z,wb,wp,dk,rfl,rfl,rfl,rfl,rfl,hxy,hyN,hyx,hkn,hS,hB,hK⟩:=hrel
  have HK:Hid _:=hK
  have HB0:Hid (Go.Sort.Below lt x y dk):=hB
  have hsz:y<=dk.size:=by rw[hS.size];exact hyN
  have HSZ:Hid (y<=dk.size):=hsz
  clear hK hB hsz
  by_cases h12:y - x<=12
  ·have e12:(y:Int) - (x:Int)<=12:=by omega
   go_wp2_with (go_at_call 163;refine (ins_any w0 _ g o N cap x y dk R hS hxy hyN).mono ?_;rintro e w1 ⟨rfl,hS1⟩)
   have hi:=insertionSort_holds swo dk x y hxy HSZ.out
   obtain⟨i1,i2⟩:=HK.out _ hi.1 hi.2
   (try simp only[Exit.inBlock,Exit.then]);refine bodyPost_ret (results_none rfl _ _ _) rfl ?_
   exact⟨rfl,_,i1,i2,hS1⟩
  ·have e12 : ¬ (y:Int) - (x:Int)<=12:=by omega
   by_cases hz:z=0
   ·subst hz
    go_wp2_with (go_at_call 164;refine (heap_any w0 _ g o N cap x y dk R hS hxy hyN).mono ?_;rintro e w1 ⟨rfl,hS1⟩)
    have hi:=heapSort_holds swo dk x y hxy HSZ.out
    obtain⟨i1,i2⟩:=HK.out _ hi.1 hi.2
    (try simp only[Exit.inBlock,Exit.then]);refine bodyPost_ret (results_none rfl _ _ _) rfl ?_
    exact⟨rfl,_,i1,i2,hS1⟩
   ·have ez:(z == 0)=false:=by simpa using hz
    clear hz
    go_upto_if 35 with fail
    go_cut [3] from 19 (fun s3 wc => ∃ (zl:Int) (d1:Array UInt16),s3 = .int .i64 zl/\PermIn x y dk d1/\St w0 g o N d1 wc)
    case first =>
     cases wb
     ·go_wp2_with (go_at_call 165;refine (brk_any w0 _ g o N cap x y dk R hS (by omega) hyN).mono ?_;rintro e w1 ⟨rfl,d1,hp1,hS1⟩)
      go_meet
      case rel=>exact⟨_,d1,rfl,hp1,hS1⟩
     ·go_wp2_with fail
      go_meet
      case rel=>exact⟨z,dk,rfl,permIn_refl _ _ _,hS⟩
    case rest =>
     clear hS ez
     obtain⟨zl,d1,rfl,hp1,hS1⟩:=hcut
     have HP1:Hid _:=hp1
     clear hp1
     go_upto_if 50 with (go_at_call 166;refine (piv_any w0 _ g o N cap x y d1 R hS1 (by omega) hyN).mono ?_;rintro e w2 ⟨p0,zh,rfl,q1,q2,hS2⟩)
     clear hS1
     go_cut [11,12] from 19 (fun s11 s12 wc => ∃ (p:Nat) (zh:Int) (d2:Array UInt16),s11 = .int .i64 (p:Int)/\s12 = .int .i64 zh/\x<=p/\p<y/\PermIn x y dk d2/\St w0 g o N d2 wc)
     case first =>
      by_cases hzh:zh=2
      ·subst hzh
       go_wp2_with (go_at_call 167;refine (rev_any w0 _ g o N cap x y d1 R hS2 hxy hyN).mono ?_;rintro e w3 ⟨rfl,hS3⟩)
       go_meet
       case rel=>exact⟨(y - 1) - (p0 - x),1,reverseRange d1 x y,by congr 1;omega,rfl,by omega,by omega,permIn_trans _ _ _ _ _ HP1.out (reverseRange_holds d1 x y hxy (by rw[hS2.size];exact hyN)),hS3⟩
      ·have ezh:(zh == 2)=false:=by simpa using hzh
       go_wp2_with fail
       go_meet
       case rel=>exact⟨p0,zh,d1,rfl,rfl,q1,q2,HP1.out,hS2⟩
     case rest =>
      clear hS2 HP1 q1 q2
      obtain⟨p,zh,d2,rfl,rfl,hpx,hpy,hp2,hS2⟩:=hcut
      have HP2:Hid _:=hp2
      clear hp2
      go_upto_region 15 with fail
      go_cut [12,68] from 19 (fun s12 s68 wx => ∃ t:Bool,s12 = .int .i64 zh/\s68 = .bool t/\wx=wc)
      case first =>
       cases wb
       ·go_wp2_with fail
        go_meet
        case rel=>exact⟨_,rfl,rfl,rfl⟩
       ·cases wp
        ·go_wp2_with fail
         go_meet
         case rel=>exact⟨_,rfl,rfl,rfl⟩
        ·go_wp2_with fail
         go_meet
         case rel=>exact⟨_,rfl,rfl,rfl⟩
      case rest =>
       obtain⟨t,rfl,rfl,rfl⟩:=hcut
       go_upto_if 68 with fail
       go_cut [] from 19 (fun wx => ∃ d3:Array UInt16,PermIn x y dk d3/\St w0 g o N d3 wx)
       case first =>
        cases t
        ·go_wp2_with fail
         go_meet
         case rel=>exact⟨d2,HP2.out,hS2⟩
        ·have hpi:=partialInsertionSort_holds swo d2 x y (by omega) (by rw[hS2.size];exact hyN) (HB0.out.perm HSZ.out HP2.out)
         have hcp:=pins_any w0 wc g o N cap x y d2 R hS2 (by omega) hyN
         obtain⟨d3,bi,hdi⟩ : ∃ d3 bi,partialInsertionSort lt d2 x y=(d3,bi):=⟨_,_,rfl⟩
         rw[hdi] at hpi hcp
         have HPI:Hid _:=hpi
         clear hpi hdi
         cases bi
         ·go_wp2_with (go_at_call 168;refine hcp.mono ?_;rintro e w4 ⟨rfl,hS4⟩)
          go_meet
          case rel=>exact⟨d3,permIn_trans _ _ _ _ _ HP2.out HPI.out.1,hS4⟩
         ·go_wp2_with (go_at_call 168;refine hcp.mono ?_;rintro e w4 ⟨rfl,hS4⟩)
          (try simp only[Exit.inBlock,Exit.then]);refine bodyPost_ret (results_none rfl _ _ _) rfl ?_
          obtain⟨k1,k2⟩:=HK.out d3 (permIn_trans _ _ _ _ _ HP2.out HPI.out.1) (HPI.out.2 (by trivial))
          exact⟨rfl,d3,k1,k2,hS4⟩
       case rest =>
        clear hS2 HP2
        obtain⟨d3,hp3,hS3⟩:=hcut
        have HP:Hid _:=hp3
        have HB:Hid (Go.Sort.Below lt x y d3):=HB0.out.perm HSZ.out hp3
        clear hp3 HB0 HSZ
        obtain⟨G,HG,hc,hf⟩:=hS3.look R
        have hpN:p<N:=by omega
        go_upto_region 17 with fail
        go_cut [87] from 19 (fun s87 wx => ∃ t:Bool,s87 = .bool t/\(t=true->0<x/\lt d3[x - 1]! d3[p]! = false)/\St w0 g o N d3 wx)
        case first =>
         by_cases hx0:0<x
         ·go_quiet (first | (go_at_call 169;refine Calls.quiet_of_same (less_any _ _ _)))
          go_wp2_with fail
          go_meet
          case rel=>exact⟨_,rfl,fun ht=>⟨hx0,by rw[HG.out,HG.out];simpa using ht⟩,hS3.drewN _⟩
         ·have ex0:decide ((0:Int)<(x:Int))=false:=decide_eq_false (by omega)
          go_quiet (first | (go_at_call 169;refine Calls.quiet_of_same (less_any _ _ _)))
          go_wp2_with fail
          go_meet
          case rel=>exact⟨false,rfl,fun ht=>(by cases ht),hS3.drewN _⟩
        case rest =>
         clear hS3 hc hf HG
         obtain⟨t,rfl,ht,hS5⟩:=hcut
         cases t
         ·clear ht
          obtain⟨mid,ap,d4,hpt⟩ : ∃ mid ap d4,partition lt d3 x y p=(mid,ap,d4):=⟨_,_,_,rfl⟩
          have hcp:=part_any w0 wc g o N cap x y p d3 R hS5 hpx hpy hyN
          obtain⟨m1,m2,m3,m4,m5,mL,mR⟩:=round_part swo (partition_holds lt) hpx hpy (by rw[hS5.size];exact hyN) HB.out hpt
          rw[hpt] at hcp
          have MF:Hid _:=And.intro m4 m5
          have ML:Hid _:=mL
          have MR:Hid _:=mR
          clear hpt m3 m4 m5 mL mR HB
          go_upto_if 113 with (go_at_call 171;refine hcp.mono ?_;rintro e w6 ⟨rfl,hS6⟩)
          clear hS5 hcp
          by_cases hlr:mid - x<y - mid
          ·have elr:(mid:Int) - (x:Int)<(y:Int) - (mid:Int):=by omega
           go_wp2_with (go_at_call 133;refine (ih (mid - x) (by omega) _ x mid zl d4 hS6 m1 (by omega) MF.out.1 rfl).mono ?_;rintro e w7 ⟨rfl,dl,hL1,hL2,hS7⟩)
           go_roundg (y - (mid+1))
           case measure=>omega
           case rel=>exact⟨mid+1,y,zl,_,ap,dl,by go_num,rfl,rfl,rfl,rfl,by omega,hyN,Nat.le_refl _,by omega,hS7,(ML.out dl hL1 hL2).1,fun Z z1 z2=>by obtain⟨y1,y2⟩:=(ML.out dl hL1 hL2).2 Z z1 z2;exact HK.out Z (permIn_trans _ _ _ _ _ HP.out y1) y2⟩
          ·have elr : ¬ (mid:Int) - (x:Int)<(y:Int) - (mid:Int):=by omega
           have hih:=ih (y - (mid+1)) (by omega) w6 (mid+1) y zl d4 hS6 (by omega) hyN MF.out.2 rfl
           rw[show ((mid+1:Nat):Int)=(mid:Int)+1 by omega] at hih
           go_wp2_with (go_at_call 133;refine hih.mono ?_;rintro e w7 ⟨rfl,dl,hL1,hL2,hS7⟩)
           go_roundg (mid - x)
           case measure=>omega
           case rel=>exact⟨x,mid,zl,_,ap,dl,rfl,rfl,rfl,rfl,rfl,by omega,by omega,Nat.le_refl _,by omega,hS7,(MR.out dl hL1 hL2).1,fun Z z1 z2=>by obtain⟨y1,y2⟩:=(MR.out dl hL1 hL2).2 Z z1 z2;exact HK.out Z (permIn_trans _ _ _ _ _ HP.out y1) y2⟩
         ·obtain⟨hx0,hl⟩:=ht rfl
          obtain⟨mid,d4,hpe⟩ : ∃ mid d4,partitionEqual lt d3 x y p=(mid,d4):=⟨_,_,rfl⟩
          have hcp:=peq_any w0 wc g o N cap x y p d3 R hS5 hpx hpy hyN
          obtain⟨m1,m2,m3,m4,mR⟩:=round_eq swo (partitionEqual_holds lt) hx0 hpx hpy (by rw[hS5.size];exact hyN) HB.out hl hpe
          rw[hpe] at hcp
          have MF:Hid _:=m4
          have MR:Hid _:=mR
          clear m3 m4 mR hl hpe ht
          go_wp2_with (go_at_call 170;refine hcp.mono ?_;rintro e w6 ⟨rfl,hS6⟩)
          go_roundg (y - mid)
          case measure=>omega
          case rel=>exact⟨mid,y,zl,_,_,d4,rfl,rfl,rfl,rfl,rfl,m2,hyN,Nat.le_refl _,by omega,hS6,MF.out,fun Z z1 z2=>by obtain⟨y1,y2⟩:=MR.out Z z1 z2;exact HK.out Z (permIn_trans _ _ _ _ _ HP.out y1) y2⟩
theorem pdq_any (w0:World) (g o N cap:Nat) (R:Rw w0 g o N) (n:Nat) : ∀ (w:World) (a b:Nat) (z:Int) (d:Array UInt16),St w0 g o N d w->a<=b->b<=N->Go.Sort.Below lt a b d->b - a=n->Calls Tryz.prog 133 #[.slice (some ⟨g,o,none⟩) N cap,.int .i64 a,.int .i64 b,.int .i64 z] w fun e w'=>e = .returned (.tuple #[]) /\ ∃ d',PermIn a b d d'/\SortedIn lt a b d'/\St w0 g o N d' w':=by
 induction n using Nat.strongRecOn with
 | _ n ih=>exact fun w a b z d h hab hb hB hn=>pdq_step w0 g o N cap R n ih w a b z d h hab hb hB hn
open Go.RowKit Go.Sort Q
theorem ins_none (v:Value) (w:World):Calls Tryz.prog 163 #[v,.int .i64 0,.int .i64 0] w fun e w'=>e = .returned (.tuple #[])/\w'=w:=by
 go_enter Tryz.func163,Tryz.ntmps163
 go_wp2
 go_loopw [6] (fun v W=>v = .int .i64 1/\W=w) (fun _ _=>0)
 case atStart=>exact⟨rfl,rfl⟩
 case round =>
  obtain⟨rfl,rfl⟩:=hrel
  go_wp2
  go_end0
  exact⟨rfl,rfl⟩
theorem pdq_none (v:Value) (z:Int) (w:World):Calls Tryz.prog 133 #[v,.int .i64 0,.int .i64 0,.int .i64 z] w fun e w'=>e = .returned (.tuple #[])/\w'=w:=by
 go_enter Tryz.func133,Tryz.ntmps133
 go_wp2
 go_loopw [1,2] (fun v u W=>v = .int .i64 0/\u = .int .i64 0/\W=w) (fun _ _ _=>0)
 case atStart=>exact⟨rfl,rfl,rfl⟩
 case round =>
  obtain⟨rfl,rfl,rfl⟩:=hrel
  go_wp2_with (go_at_call 163;refine (ins_none _ _).mono ?_;rintro e w1 ⟨rfl,rfl⟩)
  (try simp only[Exit.inBlock,Exit.then]);refine bodyPost_ret (results_none rfl _ _ _) rfl ?_
  exact⟨rfl,rfl⟩
theorem sort_none (ao:Option Addr) (cap:Nat) (w:World):Calls Tryz.prog 103 #[.slice ao 0 cap] w fun e w'=>e = .returned (.tuple #[])/\w'=w:=by
 go_enter Tryz.func103,Tryz.ntmps103
 go_wp2_with fail
 go_at_call 134
 refine (Tryz.bits_Len 0 _ (by omega) (by omega)).mono ?_
 rintro e w1 ⟨rfl,rfl⟩
 go_wp2_with fail
 go_at_call 133
 refine (pdq_none _ _ _).mono ?_
 rintro e w1 ⟨rfl,rfl⟩
 go_wp2
 go_end0
 exact⟨rfl,rfl⟩
theorem sort_any (w:World) (g o N cap:Nat) (d:Array UInt16) (hd:d.size=N) (hN:N<4611686018427387904) (hg:g<w.heap.size) (hH:Holds enc w g o d) :
 Calls Tryz.prog 103 #[.slice (some ⟨g,o,none⟩) N cap] w fun e w'=>e = .returned (.tuple #[]) /\ ∃ d',PermIn 0 N d d'/\SortedIn lt 0 N d'/\St w g o N d' w':=by
 have R:Rw w g o N:=⟨⟨d,hd,⟨fun _=>rfl,hH,hg⟩⟩,hN⟩
 have h:St w g o N d w:=⟨hd,SW.start hH⟩
 have c0:=Tryz.bits_Len (N:Int) w (by omega) (by omega)
 generalize Lib.bitLen (N:Int).toNat=bl at c0
 have c1:=pdq_any w g o N cap R N w 0 N (bl:Int) d h (by omega) (Nat.le_refl _) (Or.inl rfl) rfl
 go_enter Tryz.func103,Tryz.ntmps103
 go_wp2_with fail
 go_at_call 134
 refine c0.mono ?_
 rintro e w1 ⟨rfl,rfl⟩
 go_wp2_with fail
 go_at_call 133
 refine c1.mono ?_
 rintro e w1 ⟨rfl,d',h1,h2,h3⟩
 go_wp2
 go_end0
 exact⟨rfl,d',h1,h2,h3⟩
open Go.RowKit
theorem SlL.drop {w:World} {b o k:Nat} {n:List UInt8} (h:SlL w (some ⟨b,o,none⟩) n) (hk:k<=n.length):SlL w (some ⟨b,o+k,none⟩) (n.drop k):=fun hn=>by
 rw[List.length_drop] at hn
 obtain⟨b',o',e,hlt,hc⟩:=h (by omega)
 cases e
 refine⟨b,o+k,rfl,hlt,fun j hj=>?_⟩
 rw[List.length_drop] at hj
 rw[show o+k+j=o+(k+j) by omega,hc (k+j) (by omega)]
 simp[List.getD_eq_getElem?_getD,List.getElem?_drop]
def vh (l:List (UInt16)):List Value:=l.map (fun b => .int .u16 b.toNat)
theorem vh_len (l:List (UInt16)):(vh l).length=l.length:=by simp[vh]
theorem vh_app (l m:List (UInt16)):vh (l++m)=vh l++vh m:=by simp[vh]
theorem vh_one (l:List (UInt16)) : ∀ v∈vh l,v.oneCell'=true:=fun v hv=>by
 simp only[vh,List.mem_map] at hv;obtain⟨j,_,rfl⟩:=hv;rfl
theorem vh_get (l:List (UInt16)) (j:Nat) (h:j<l.length):(vh l)[j]?=some (.int .u16 (l.getD j 0).toNat):=by simp[vh,h]
def SlH (w:World) (ao:Option Addr) (l:List (UInt16)):Prop:=0<l.length -> ∃ b o,ao=some ⟨b,o,none⟩/\b<w.heap.size /\ ∀ j,j<l.length->w.cell? ⟨b,o+j,none⟩=some (.int .u16 (l.getD j 0).toNat)
theorem SlH.below {B:Nat} {w w':World} {ao:Option Addr} {l:List (UInt16)} (h:SlH w ao l) (hb:Below B w w') (hB:w.heap.size<=B):SlH w' ao l:=fun hn=>by
 obtain⟨b,o,e,hlt,hc⟩:=h hn
 exact⟨b,o,e,Nat.lt_of_lt_of_le hlt hb.size,fun j hj=>(hb.cell (p:=⟨b,o+j,none⟩) (Nat.lt_of_lt_of_le hlt hB)).trans (hc j hj)⟩
theorem SlH.one (w:World) (b:UInt16) (t:TypeId):SlH (w.alloc (.cells #[.int .u16 b.toNat] t)) (some ⟨w.heap.size,0,none⟩) [b]:=fun _=>by
 refine⟨w.heap.size,0,rfl,by simp,fun j hj=>?_⟩
 have:j=0:=by simpa using hj
 subst this
 rw[cell_of_row _ _ _ _ t (0,0) (heap_alloc_last w _)];rfl
theorem SlH.oneI (w:World) (x:Int) (b:UInt16) (t:TypeId) (h:x=(b.toNat:Int)):SlH (w.alloc (.cells #[.int .u16 x] t)) (some ⟨w.heap.size,0,none⟩) [b]:=by
 subst h;exact SlH.one w b t
def OwnH (w:World) (base:Nat) (v:Value) (l:List (UInt16)):Prop:=w.ownsRow base 36 1 v l.length (vh l)
theorem OwnH.nil (w:World) (base:Nat):OwnH w base (.slice none 0 0) []:=World.ownsRow_nil _ _ _ _
theorem OwnH.alloc {w:World} {base:Nat} {v:Value} {l:List (UInt16)} (h:OwnH w base v l) (o:Obj):OwnH (w.alloc o) base v l:=World.ownsRow.alloc h o
theorem OwnH.form {w:World} {base:Nat} {v:Value} {l:List (UInt16)} (h:OwnH w base v l) (hl:0<l.length) : ∃ g cap,v = .slice (some ⟨g,0,none⟩) l.length cap/\base<=g/\l.length<=cap/\cap<=maxLen/\g<w.heap.size /\ ∀ j,j<l.length->w.cell? ⟨g,j,none⟩=some (.int .u16 (l.getD j 0).toNat):=by
 have h0:w.ownsRow base 36 1 v l.length (vh l):=h
 rcases h0.2 with⟨_,h'⟩ | ⟨g,cap,cur,rfl,hb,hg,hc,hm,_,_⟩
 ·omega
 ·exact⟨g,cap,rfl,hb,hc,hm,(Array.getElem?_eq_some_iff.1 hg).1,fun j hj=>by rw[World.ownsRow.cellAt h0 j (by omega),vh_get l j hj]⟩
theorem infoH:(Tryz.prog.info? 36).map (fun i=>(i.zero,i.size,i.bytes))=some (some (.int .u16 0),1,2):=by kernel_rfl
theorem wpList_append_H {w:World} {ops:Array Oper} {rest:List Oper} {o:Oper} {a:Act} {Q:Exit->Act->World->Prop} (hgd:o.guard=none) (s x:Operand)
 (ho:o.op = .call { callee := .builtin .append,args := #[s,x],argTypes := #[51,51] }) (base:Nat) (v:Value) (l:List (UInt16)) (hs:a.eval s=v) (hown:OwnH w base v l)
 (ao:Option Addr) (m c:Nat) (l2:List (UInt16)) (hx:a.eval x = .slice ao m c) (hm:l2.length=m) (hsrc:SlH w ao l2) (hnil:ao=none->c=0) (hbound:l.length+m<=1099511627776) (hbase:base<=w.heap.size)
 (h : ∀ v' w',OwnH w' base v' (l++l2)->w.grownBy w' v.ownBlock->wpList Tryz.prog ops Q rest (a.put o.dst v') w'):wpList Tryz.prog ops Q (o::rest) a w:=by
 obtain⟨i0,hi,hz0,hz1,hz2⟩:=info_parts infoH
 subst hm
 cases ao with
 | none =>
  have h0:l2.length=0:=by
   rcases Nat.eq_zero_or_pos l2.length with h | h
   ·exact h
   ·obtain⟨b,o,e,_⟩:=hsrc h;cases e
  obtain rfl:l2 = []:=List.eq_nil_of_length_eq_zero h0
  obtain rfl:=hnil rfl
  refine wpList_append_own_none hgd s x 51 ho base 36 i0 1 Tryz.underlying51 hi v l.length (vh l) hs hown hx ?_
  exact h v w (by rw[List.append_nil];exact hown) ⟨rfl,rfl,rfl,Nat.le_refl _,fun _ _ _=>rfl⟩
 | some ad =>
  refine wpList_append_own w hgd s x 51 ho base 36 i0 (.int .u16 0) 1 2 Tryz.underlying51 hi hz0 hz1 hz2 rfl (by decide) v l.length (vh l) hs hown ad l2.length c (vh l2) hx (by rw[vh_len,Nat.mul_one]) ?_ (vh_one l2) (by unfold maxLen;omega) (by omega) hbase ?_
  ·intro j u hu
   have hj:j<l2.length:=by have:=(List.getElem?_eq_some_iff.1 hu).1;rwa [vh_len] at this
   obtain⟨b,o',e,_,hc⟩:=hsrc (by omega)
   cases e
   rw[Addr.add_mid,hc j hj, <- vh_get l2 j hj,hu]
  ·intro v' w' h1 h2 _
   exact h v' w' (by unfold OwnH;rw[List.length_append,vh_app];exact h1) h2
theorem grown_belowH {w w' w0:World} {base:Nat} {v:Value} {l:List (UInt16)} (hown:OwnH w base v l) (hg:w.grownBy w' v.ownBlock) (hb:Below base w0 w) (hB:base<=w.heap.size):Below base w0 w':=by
 refine hb.grown hg hB fun k hk=>?_
 have h0:w.ownsRow base 36 1 v l.length (vh l):=hown
 rcases h0.2 with⟨rfl,_⟩ | ⟨g,cap,cur,rfl,hg',_⟩
 ·simp[Value.ownBlock] at hk
 ·simp[Value.ownBlock] at hk;omega
theorem OwnH.below {w w':World} {base:Nat} {v:Value} {l:List (UInt16)} (h:OwnH w base v l) (hb:Below w.heap.size w w'):OwnH w' base v l:=by
 have h0:w.ownsRow base 36 1 v l.length (vh l):=h
 refine⟨h0.1,?_⟩
 rcases h0.2 with h1 | ⟨g,cap,cur,e,h1,h2,h3⟩
 ·exact Or.inl h1
 ·exact Or.inr ⟨g,cap,cur,e,h1,by rw[hb.block g (Array.getElem?_eq_some_iff.1 h2).1];exact h2,h3⟩
theorem OwnH.open {w:World} {base:Nat} {v:Value} {l:List UInt16} (h:OwnH w base v l) : ∃ ao c,v = .slice ao l.length c/\SlH w ao l/\(ao=none->c=0)/\l.length<=c/\c<=maxLen:=by
 have h0:w.ownsRow base 36 1 v l.length (vh l):=h
 rcases h0.2 with⟨rfl,hn⟩ | ⟨g,cap,cur,rfl,hb,hg,hc,hm,_,_⟩
 ·exact⟨none,0,by rw[hn],fun hh=>by omega,fun _=>rfl,by omega,by unfold maxLen;omega⟩
 ·exact⟨_,cap,rfl,fun hl=>⟨g,0,rfl,(Array.getElem?_eq_some_iff.1 hg).1,fun j hj=>by rw[Nat.zero_add,World.ownsRow.cellAt h0 j (by omega),vh_get l j hj]⟩,fun hh=>(by cases hh),hc,hm⟩
theorem OwnH.lower {w:World} {base base':Nat} {v:Value} {n:List UInt16} (h:OwnH w base v n) (hb:base'<=base):OwnH w base' v n:=by
 have h0:w.ownsRow base 36 1 v n.length (vh n):=h
 refine⟨h0.1,?_⟩
 rcases h0.2 with h1 | ⟨g,cap,cur,e,h1,h2,h3⟩
 ·exact Or.inl h1
 ·exact Or.inr ⟨g,cap,cur,e,Nat.le_trans hb h1,h2,h3⟩
theorem SlH.drop {w:World} {b o k:Nat} {n:List UInt16} (h:SlH w (some ⟨b,o,none⟩) n) (hk:k<=n.length):SlH w (some ⟨b,o+k,none⟩) (n.drop k):=fun hn=>by
 rw[List.length_drop] at hn
 obtain⟨b',o',e,hlt,hc⟩:=h (by omega)
 cases e
 refine⟨b,o+k,rfl,hlt,fun j hj=>?_⟩
 rw[List.length_drop] at hj
 rw[show o+k+j=o+(k+j) by omega,hc (k+j) (by omega)]
 simp[List.getD_eq_getElem?_getD,List.getElem?_drop]
open Go.RowKit Go.Sort
namespace Q
theorem row_put {w:World} {g n:Nat} {os:Array Obj} {cur:Array Value} {e:TypeId} {fr:Nat × Nat} (d:Array UInt16) (hb:w.heap[g]?=some (.cells cur e fr)) :
 (grow (putRow enc (Sort.ahead w n) g 0 d) os).heap[g]?=some (.cells (putCells enc 0 d cur) e fr):=by
 have hg:g<w.heap.size:=(Array.getElem?_eq_some_iff.1 hb).1
 rw[heap_grow_old _ _ (by simpa using hg)]
 simp[putRow,mapBlock,Sort.ahead,Array.getElem?_modify,hb,onCells]
theorem below_put {w:World} {B g n:Nat} (os:Array Obj) (d:Array UInt16) (hB:B<=g) (hw:B<=w.heap.size):Below B w (grow (putRow enc (Sort.ahead w n) g 0 d) os):=by
 refine⟨rfl,rfl,rfl,by simp,fun k hk=>?_⟩
 rw[heap_grow_old _ _ (by simp;omega)]
 have:g≠k:=by omega
 simp[putRow,mapBlock,Sort.ahead,Array.getElem?_modify,this]
theorem take_put (cur:Array Value) (d:Array UInt16) (k:Nat) (hk:k<=d.size) (h:d.size<=cur.size):(putCells enc 0 d cur).toList.take k=vh (d.toList.take k):=by
 apply List.ext_getElem?
 intro j
 by_cases hj:j<k
 ·have h1:j<cur.size:=by omega
  have h2:j<d.size:=by omega
  rw[List.getElem?_take_of_lt hj,Array.getElem?_toList]
  simp[putCells,h1,h2,vh,List.getElem?_take_of_lt hj,enc]
 ·rw[List.getElem?_eq_none (by simp;omega),List.getElem?_eq_none (by simp[vh];omega)]
theorem own_put {w:World} {base g cap n:Nat} {os:Array Obj} {l:List UInt16} (h:OwnH w base (.slice (some ⟨g,0,none⟩) l.length cap) l) (d:Array UInt16) (hd:d.size=l.length) (k:Nat) (hk:k<=d.size) :
 OwnH (grow (putRow enc (Sort.ahead w n) g 0 d) os) base (.slice (some ⟨g,0,none⟩) k cap) (d.toList.take k):=by
 have h0:w.ownsRow base 36 1 (.slice (some ⟨g,0,none⟩) l.length cap) l.length (vh l):=h
 have hkl:(d.toList.take k).length=k:=by rw[List.length_take];simp;omega
 unfold OwnH
 rw[hkl]
 refine⟨by rw[vh_len,hkl,Nat.mul_one],?_⟩
 rcases h0.2 with⟨e,_⟩ | ⟨g',cap',cur,e,h1,h2,h3,h4,h5,h6⟩
 ·cases e
 ·cases e
  exact Or.inr ⟨g,cap,_,rfl,h1,row_put d h2,by omega,h4,by simp[putCells,h5],by rw[Nat.mul_one];exact take_put cur d k hk (by omega)⟩
theorem own_holds {w:World} {base g cap:Nat} {l:List UInt16} (h:OwnH w base (.slice (some ⟨g,0,none⟩) l.length cap) l):Holds enc w g 0 l.toArray/\g<w.heap.size/\base<=g/\l.length<=cap/\cap<=maxLen:=by
 have h0:w.ownsRow base 36 1 (.slice (some ⟨g,0,none⟩) l.length cap) l.length (vh l):=h
 rcases h0.2 with⟨e,_⟩ | ⟨g',cap',cur,e,h1,h2,h3,h4,h5,h6⟩
 ·cases e
 ·cases e
  refine⟨fun j hj=>?_,(Array.getElem?_eq_some_iff.1 h2).1,h1,h3,h4⟩
  have hj':j<l.length:=by simpa using hj
  refine⟨?_,by rw[Nat.zero_add];exact frozen_of_row w g j cur 36 h2⟩
  rw[Nat.zero_add,World.ownsRow.cellAt h0 j (by omega),vh_get l j hj']
  simp[enc,hj',List.getD_eq_getElem?_getD]
open Go.Lib
theorem compact_rising (d:Array UInt16) (hs:SortedIn lt 0 d.size d):T.Rising (compactUpTo d d.size):=by
 have hle : ∀ i j,i<=j->j<d.size->d[i]!.toNat<=d[j]!.toNat:=fun i j hij hj=>by
  rcases Nat.lt_or_ge i j with h | h
  ·have:=hs i j (Nat.zero_le _) h hj
   simp only[lt,decide_eq_false_iff_not] at this;omega
  ·obtain rfl:i=j:=by omega
   exact Nat.le_refl _
 unfold compactUpTo T.Rising
 rw[List.pairwise_map]
 refine (List.Pairwise.filter (keeps d) List.pairwise_lt_range).imp_of_mem fun {i j} _ hj hij=>?_
 rw[List.mem_filter,List.mem_range] at hj
 have hk:=hj.2
 have h1:=hle i (j - 1) (by omega) (by omega)
 have h2:=hle (j - 1) j (by omega) hj.1
 have h3:d[j]! ≠ d[j - 1]! := by
  unfold keeps at hk
  simpa [show j≠0 by omega] using hk
 have h4:d[j]!.toNat≠d[j - 1]!.toNat:=fun e=>h3 (UInt16.toNat_inj.1 e)
 omega
theorem compact_mem (d:Array UInt16) (x:UInt16):x∈compactUpTo d d.size↔x∈d.toList:=by
 have key : ∀ j,j<d.size->d[j]! ∈ compactUpTo d d.size:=fun j=>by
  induction j with
  | zero=>exact fun hj=>List.mem_map.2 ⟨0,List.mem_filter.2 ⟨List.mem_range.2 hj,by simp[keeps]⟩,rfl⟩
  | succ j ih =>
   intro hj
   by_cases hk:keeps d (j+1)=true
   ·exact List.mem_map.2 ⟨j+1,List.mem_filter.2 ⟨List.mem_range.2 hj,hk⟩,rfl⟩
   ·have e:d[j+1]! = d[j]! := by
     unfold keeps at hk
     simpa using hk
    rw[e];exact ih (by omega)
 constructor
 ·intro hx
  obtain⟨j,hj,rfl⟩:=List.mem_map.1 hx
  have hj':=List.mem_range.1 (List.mem_filter.1 hj).1
  rw[getElem!_pos d j hj'];simp
 ·intro hx
  obtain⟨j,hj,rfl⟩:=List.getElem_of_mem hx
  have hj':j<d.size:=by simpa using hj
  have:=key j hj'
  rw[getElem!_pos d j hj'] at this
  simpa using this
theorem perm_mem {d d':Array UInt16} {N:Nat} (hd:d.size=N) (h:PermIn 0 N d d') (x:UInt16):x∈d'.toList↔x∈d.toList:=by
 have h3:=h.2.2
 have e1:d'.extract 0 N=d':=by rw[<- hd, <- h.1];exact Array.extract_size
 have e2:d.extract 0 N=d:=by rw[<- hd];exact Array.extract_size
 rw[e1,e2] at h3
 exact h3.mem_iff
end Q
open Q Go.Lib
theorem compact_short (ao:Option Addr) (n cap:Nat) (w:World) (hn:n<2):Calls Tryz.prog 218 #[.slice ao n cap] w fun e w'=>e = .returned (.slice ao n cap)/\w'=w:=by
 have e1:(n:Int)<2:=by omega
 go_enter Tryz.func218,Tryz.ntmps218
 go_wp2
 go_ret
 exact⟨rfl,rfl⟩
theorem zero16 (w:World):(zeroValue 36).run Tryz.prog w = .ok (Q.enc 0) w:=Tryz.zeroValue36 w
theorem dec16 (x y:UInt16):decide ((x.toNat:Int)=(y.toNat:Int))=decide (x=y):=by
 apply decide_eq_decide.2
 constructor
 ·intro h;exact UInt16.toNat_inj.1 (by omega)
 ·rintro rfl;rfl
theorem eql16:EqlAt Tryz.prog 36 Q.enc (fun x y=>decide (x=y)):=by
 refine⟨fun x y w=>?_,fun op a b x y w=>GuardAt.int Tryz.prog 36 .u16 op a b x.toNat y.toNat w⟩
 have h:=(EqlAt.intD Tryz.prog 36 .u16).1 (x.toNat:Int) (y.toNat:Int) w
 simp only[dec16] at h
 exact h
theorem neq16:NeqAt Tryz.prog 36 Q.enc (fun x y=>decide (x=y)):=by
 refine⟨fun x y w=>?_,fun op a b x y w=>GuardAt.int Tryz.prog 36 .u16 op a b x.toNat y.toNat w⟩
 have h:=(NeqAt.intD Tryz.prog 36 .u16).1 (x.toNat:Int) (y.toNat:Int) w
 simp only[dec16] at h
 exact h
theorem clean_any (l:List UInt16) (ao:Option Addr) (len cap:Nat) (w:World) (hl:Hid (l.length=len)) (hs:SlH w ao l) (hnil:ao=none->cap=0) (hlen:len<=1000000) :
 Calls Tryz.prog 206 #[.slice ao len cap] w fun e w' => ∃ v c,e = .returned v/\T.IsClean l c/\c.length<=len/\OwnH w' w.heap.size v c/\Below w.heap.size w w':=by
 have HS:=hide hs
 clear hs
 go_enter Tryz.func206,Tryz.ntmps206
 go_wp2_with (at_builtin;refine wpList_append_H rfl (.const (.slice none 0 0)) (.tmp 4) rfl w.heap.size (.slice none 0 0) [] rfl (OwnH.nil _ _) ao _ cap l rfl hl.out (by exact HS.out) hnil (by simp;omega) (Nat.le_refl _) ?_;intro v1 w1 hO1 hG1;have hB1:=grown_belowH (OwnH.nil w w.heap.size) hG1 (Below.refl w.heap.size w) (Nat.le_refl _);rw[List.nil_append] at hO1;clear hG1)
 obtain⟨a1,c1,rfl,hS1,hn1,hc1,hm1⟩:=hO1.open
 by_cases h0:l.length=0
 ·obtain rfl:l = []:=List.eq_nil_of_length_eq_zero h0
  refine (sort_none a1 c1 _).mono ?_
  rintro e w2 ⟨rfl,rfl⟩
  clear hS1 hl
  go_wp2_with (go_at_call 218;refine (compact_short a1 0 c1 _ (by omega)).mono ?_;rintro e w3 ⟨rfl,rfl⟩)
  go_ret
  exact⟨_, [],rfl,⟨List.Pairwise.nil,fun _=>Iff.rfl⟩,by simp,hO1,hB1⟩
 ·obtain⟨g,cap1,e1,hbg,_,_,hglt,_⟩:=hO1.form (by omega)
  cases e1
  obtain⟨hH,hg,_,hlc,hcm⟩:=own_holds hO1
  have hz1:=hB1.size
  refine (sort_any w1 g 0 l.length c1 l.toArray (by simp) (by have:=hl.out;omega) hg hH).mono ?_
  rintro e w2 ⟨rfl,d',hp,hsrt,hSt⟩
  have hd:d'.size=l.length:=hSt.size
  have hmem : ∀ x,x∈d'.toList↔x∈l:=fun x=>by have:=perm_mem (by simp) hp x;simpa using this
  obtain⟨n2,os2,hw2⟩:=hSt.sw
  have hO2:OwnH w2 w.heap.size (.slice (some ⟨g,0,none⟩) l.length c1) d'.toList:=by
   have:=own_put (n:=n2) (os:=os2) hO1 d' hd d'.size (Nat.le_refl _)
   rw[hd,show d'.toList.take l.length=d'.toList from List.take_of_length_le (by simp;omega)] at this
   rw[hw2];exact this
  have hB2:Below w.heap.size w w2:=by
   rw[hw2];exact hB1.trans (below_put os2 d' hbg hz1)
  rw[<- hd] at hsrt
  have hcl:T.IsClean l (compactUpTo d' d'.size):=⟨compact_rising d' hsrt,fun x=>(compact_mem d' x).trans (hmem x)⟩
  have hz2:=hB2.size
  have hO2':OwnH w2 w.heap.size (.slice (some ⟨g,0,none⟩) d'.toList.length c1) d'.toList:=by
   rw[show d'.toList.length=l.length by simpa using hd];exact hO2
  obtain⟨hH2,_,_,_,_⟩:=own_holds hO2'
  have hH2':Holds Q.enc w2 g 0 d':=by simpa using hH2
  have cc:=Tryz.slices_Compact Q.enc (fun _=>rfl) eql16 neq16 0 zero16 g 0 c1 d' w2 hH2' (by have:=hl.out;omega) (by omega)
  rw[hd] at cc
  have hcle:(compactUpTo d' l.length).length<=l.length:=by
   unfold compactUpTo;rw[List.length_map];exact Nat.le_trans (List.length_filter_le _ _) (by simp)
  have HD:=hide hd
  have HCL:=hide hcl
  rw[hd] at HCL
  clear hS1 hH hH2 hH2' hO1 hO2 hp hsrt hSt hw2 hmem hB1 hcl hd
  generalize compactUpTo d' l.length=c at cc HCL hcle
  go_wp2_with (go_at_call 218;refine cc.mono ?_;rintro e w3 ⟨rfl,q,hw3⟩)
  go_ret
  refine⟨_,c,rfl,HCL.out,by rw[<- hl.out];exact hcle,?_,?_⟩
  ·have:=own_put (n:=q) (os := #[]) hO2' (c++List.replicate (l.length - c.length) 0).toArray (by have:=HD.out;simp;omega) c.length (by simp)
   rw[grow_empty] at this
   simpa using this
  ·have:=below_put (n:=q) #[] (c++List.replicate (l.length - c.length) 0).toArray hbg hz2
   rw[grow_empty] at this
   exact hB2.trans this
open Go.RowKit
namespace T
theorem takeWhile_len (p:UInt16->Bool) : ∀ (l:List UInt16) (i:Nat),(∀ j,j<i->p (l.getD j 0)=true)->(i=l.length\/(i<l.length/\p (l.getD i 0)=false))->(l.takeWhile p).length=i
 | [],i,_,h=>by simp at h ⊢; omega
 | x::l,0,_,h=>by
  have:p x=false:=by simpa using h
  simp[this]
 | x::l,i+1,h1,h2=>by
  have hx:p x=true:=by simpa using h1 0 (by omega)
  rw[List.takeWhile_cons,if_pos hx,List.length_cons,takeWhile_len p l i (fun j hj=>by simpa using h1 (j+1) (by omega)) (by simpa using h2)]
theorem same_hi (t x:UInt16):same t x=decide (x.toNat / 256=t.toNat / 256):=rfl
end T
theorem wrap_hi (x:UInt16):IntKind.u16.wrap ((x.toNat:Int) / 256)=((T.hi x:Nat):Int):=by
 have:=x.toNat_lt
 rw[IntKind.wrap_u16];unfold T.hi;omega
theorem bitOf_any (p:Nat) (hp:p<1000000) (w:World):Calls Tryz.prog 219 #[.int .i64 (p:Int)] w fun e w'=>e = .returned (.int .u8 ((2 ^ (7 - p % 8):Nat):Int))/\w'=w:=by
 obtain⟨r,hr⟩ : ∃ r,p % 8=r:=⟨_,rfl⟩
 have h8:r<8:=by omega
 have e1:Int.tmod (p:Int) 8=(r:Int):=by rw[Int.tmod_eq_emod_of_nonneg (by omega)];omega
 have e2:(p:Int) % 8=(r:Int):=by omega
 rw[hr]
 clear hr
 go_enter Tryz.func219,Tryz.ntmps219
 rcases (by omega:r=0\/r=1\/r=2\/r=3\/r=4\/r=5\/r=6\/r=7) with rfl | rfl | rfl | rfl | rfl | rfl | rfl | rfl
 all_goals
  go_wp2
  go_ret
  exact⟨rfl,rfl⟩
set_option maxHeartbeats 1600000 in
theorem firstWindow_any (t:UInt16) (r:List UInt16) (b o cap:Nat) (w:World) (hs:SlH w (some ⟨b,o,none⟩) (t::r)) (hlen:r.length<1000000) :
 Calls Tryz.prog 207 #[.slice (some ⟨b,o,none⟩) (r.length+1) cap] w fun e w'=>e = .returned (.int .i64 (((t::r).takeWhile (T.same t)).length:Nat))/\w'=w:=by
 obtain⟨b',o',e,hb,hc⟩:=hs (by simp)
 cases e
 obtain⟨N,hN⟩ : ∃ N,r.length+1=N:=⟨_,rfl⟩
 have hl:(t::r).length=N:=by simpa using hN
 have hlN:N<=1000000:=by omega
 have hN0:0<N:=by omega
 rw[hl] at hc
 have ht:(t::r).getD 0 0=t:=rfl
 have c0:=hc 0 hN0
 rw[ht] at c0
 have hf:=T.takeWhile_len (T.same t) (t::r)
 rw[hl] at hf
 rw[hN]
 obtain⟨G,hG⟩ : ∃ G:Nat->UInt16,∀ j,(t::r).getD j 0=G j:=⟨fun j=>(t::r).getD j 0,fun _=>rfl⟩
 have HG0:Hid (G 0=t):=(hG 0).symm.trans ht
 have e0:=wrap_hi (G 0)
 simp only[hG] at hc hf
 have HF:=hide hf
 generalize ((t::r).takeWhile (T.same t)).length=K at HF
 clear hf hs hG ht hl hN
 go_enter Tryz.func207,Tryz.ntmps207
 go_wp2
 go_loopw [7] (fun v W => ∃ i:Nat,v = .int .i64 (i:Int)/\i<=N/\W=w /\ ∀ j,j<i->T.same t (G j)=true) (fun v _=>N - (intOf v).toNat)
 case atStart=>exact⟨0,rfl,by omega,rfl,fun j hj=>by omega⟩
 case round =>
  obtain⟨i,rfl,hi,rfl,hall⟩:=hrel
  have HA:=hide hall
  clear hall
  by_cases hiN:i<N
  ·have c1:=hc i hiN
   have e1:=wrap_hi (G i)
   go_wp2
   ·have hne:(((T.hi (G i):Nat):Int) != ((T.hi (G 0):Nat):Int))=true:=by assumption
    have hne2:T.same t (G i)=false:=by
     rw[<- HG0.out]
     simp only[T.same,decide_eq_false_iff_not]
     intro e
     rw[e] at hne;simp at hne
    go_ret
    exact⟨by rw[HF.out i HA.out (Or.inr ⟨hiN,hne2⟩)];rfl,rfl⟩
   ·have heq:(((T.hi (G i):Nat):Int) != ((T.hi (G 0):Nat):Int))=false:=by assumption
    have heq2:T.same t (G i)=true:=by
     rw[<- HG0.out]
     simp only[T.same,decide_eq_true_eq]
     simp at heq;omega
    go_roundw
    case rel=>exact⟨i+1,by go_num,by omega,by trivial,fun j hj=>by
     rcases Nat.lt_or_ge j i with h | h
     ·exact HA.out j h
     ·obtain rfl:j=i:=by omega
      exact heq2⟩
    case measure=>simp[intOf];omega
  ·obtain rfl:i=N:=by omega
   go_wp2
   go_ret
   exact⟨by rw[HF.out i HA.out (Or.inl rfl)];rfl,rfl⟩
def ArB (w:World) (g:Nat) (q:List UInt8):Prop:=w.heap[g]?=some (.cells (vb q).toArray 269 (0,0))
theorem ArB.cell {w:World} {g:Nat} {q:List UInt8} (h:ArB w g q) (j:Nat) (hj:j<q.length):w.cell? ⟨g,j,none⟩=some (.int .u8 (q.getD j 0).toNat):=by
 rw[cell_of_row w g j _ 269 (0,0) h]
 simp only[List.getElem?_toArray]
 exact vb_get q j hj
theorem ArB.frozen {w:World} {g:Nat} {q:List UInt8} (h:ArB w g q) (j:Nat):w.frozen? ⟨g,j,none⟩=false:=frozen_of_row w g j _ 269 h
theorem ArB.lt {w:World} {g:Nat} {q:List UInt8} (h:ArB w g q):g<w.heap.size:=(Array.getElem?_eq_some_iff.1 h).1
theorem ArB.set {w:World} {g:Nat} {q:List UInt8} (h:ArB w g q) (j:Nat) (c:UInt8):ArB (w.setCell ⟨g,j,none⟩ (.int .u8 (c.toNat:Int))) g (q.set j c):=by
 unfold ArB
 rw[heap_setCell_same w g j _ 269 _ h]
 simp[vb,List.map_set]
theorem ArB.sl {w:World} {g:Nat} {q:List UInt8} (h:ArB w g q) (n:Nat):SlL w (some ⟨g,0,none⟩) (q.take n):=fun _ =>
 ⟨g,0,rfl,h.lt,fun j hj=>by
  rw[List.length_take] at hj
  rw[Nat.zero_add,h.cell j (by omega),List.getD_eq_getElem?_getD,List.getD_eq_getElem?_getD,List.getElem?_take_of_lt (by omega)]⟩
theorem ArB.drewN {w:World} {g:Nat} {q:List UInt8} (h:ArB w g q) (n:Nat):ArB (w.drewN n) g q:=h
open Go.RowKit
namespace T
theorem take_nextH (n:List UInt16) (j:Nat) (h:j<n.length):n.take (j+1)=n.take j ++ [n.getD j 0]:=by
 rw[List.take_add_one,List.getElem?_eq_getElem h,List.getD_eq_getElem?_getD,List.getElem?_eq_getElem h];rfl
theorem map_take_next (l:List UInt16) (i:Nat) (h:i<l.length):(l.take (i+1)).map lo=(l.take i).map lo ++ [lo (l.getD i 0)]:=by
 rw[take_nextH l i h,List.map_append];rfl
theorem setb_at (b:List UInt8) (p:Nat):setb b p=b.set (p / 8) (UInt8.ofNat ((b.getD (p / 8) 0).toNat ||| 2 ^ (7 - p % 8))):=rfl
theorem last_lo (l:List UInt16) (h:0<l.length):(l.map lo).getLastD 0=lo (l.getD (l.length - 1) 0):=by
 have hne:l ≠ []:=by intro e;subst e;simp at h
 rw[List.getLastD_eq_getLast?,List.getLast?_map,List.getLast?_eq_getElem?,List.getD_eq_getElem?_getD,List.getElem?_eq_getElem (by omega)]
 rfl
end T
theorem grown_ar {w w':World} {g:Nat} {q:List UInt8} {k:Option Nat} (h:ArB w g q) (hg:w.grownBy w' k) (hk:k≠some g):ArB w' g q:=by
 unfold ArB
 rw[hg.block g h.lt (fun e=>hk e.symm)];exact h
theorem OwnB.ar {w:World} {B:Nat} {v:Value} {q:List UInt8} (h:OwnB w B v q) {g:Nat} {x:List UInt8} (hg:ArB w g x) (j:Nat) (c:Value):OwnB (w.setCell ⟨g,j,none⟩ c) B v q:=by
 have h0:w.ownsRow B 5 1 v q.length (vb q):=h
 refine⟨h0.1,?_⟩
 rcases h0.2 with h2 | ⟨g',cap,cur',rfl,h3,hg',h4⟩
 ·exact Or.inl h2
 ·refine Or.inr ⟨g',cap,cur',rfl,h3,?_,h4⟩
  rw[heap_setCell_other _ _ _ _ (fun e1=>?_)]
  ·exact hg'
  ·have e2:g'=g:=e1
   subst e2
   unfold ArB at hg
   rw[hg] at hg'
   simp at hg'
theorem OwnB.ne_ar {w:World} {B:Nat} {v:Value} {q:List UInt8} (h:OwnB w B v q) {g:Nat} {x:List UInt8} (hg:ArB w g x):v.ownBlock≠some g:=by
 have h0:w.ownsRow B 5 1 v q.length (vb q):=h
 rcases h0.2 with⟨rfl,_⟩ | ⟨g',cap,cur',rfl,h3,hg',h4⟩
 ·simp[Value.ownBlock]
 ·intro e
  have e2:g'=g:=by simpa [Value.ownBlock] using e
  subst e2
  unfold ArB at hg
  rw[hg] at hg'
  simp at hg'
theorem ArB.alloc {w:World} {g:Nat} {q:List UInt8} (h:ArB w g q) (o:Obj):ArB (w.alloc o) g q:=by
 have hb:=((Below.refl w.heap.size w).alloc (Nat.le_refl _) o).block g h.lt
 unfold ArB;rw[hb];exact h
theorem OwnB.drewN {w:World} {B:Nat} {v:Value} {q:List UInt8} (h:OwnB w B v q) (n:Nat):OwnB (w.drewN n) B v q:=h
set_option maxRecDepth 3000 in
set_option maxHeartbeats 3200000 in
theorem appendWindow_any (t:UInt16) (l:List UInt16) (q:List UInt8) (B b o len cap:Nat) (v:Value) (w:World) (hl:Hid (l.length=len)) (h0:0<len) (hlen:len<=1000000) (hs:SlH w (some ⟨b,o,none⟩) l) (hO:OwnB w B v q) (hB:B<=w.heap.size) (hq:q.length<=10000000) (hh : ∀ x∈l,T.hi x=T.hi t) (hR:T.Rising l) :
 Calls Tryz.prog 208 #[v,.slice (some ⟨b,o,none⟩) len cap] w fun e w' => ∃ v',e = .returned v'/\OwnB w' B v' (q++T.win (T.hi t) (l.map T.lo))/\Below B w w':=by
 obtain⟨b',o',e,hb,hc⟩:=hs (by rw[hl.out];exact h0)
 cases e
 rw[hl.out] at hc
 clear hs
 have HPS:Hid (T.Rise (l.map T.lo)):=T.rise_lo t l hR hh
 clear hR
 have hA:ArB (w.alloc (.cells (vb (List.replicate 32 0)).toArray 269 (0,0))) w.heap.size (T.row 32 ((l.take 0).map T.lo)):=heap_alloc_last w _
 go_enter Tryz.func208,Tryz.ntmps208
 go_wp2
 have hO1:OwnB (w.alloc (.cells (vb (List.replicate 32 0)).toArray 269 (0,0))) B v q:=hO.alloc _
 have hB1:Below w.heap.size w (w.alloc (.cells (vb (List.replicate 32 0)).toArray 269 (0,0))):=(Below.refl _ _).alloc (Nat.le_refl _) _
 clear hO
 go_loopw [13] (fun u W => ∃ i:Nat,u = .int .i64 (i:Int)/\i<=len/\ArB W w.heap.size (T.row 32 ((l.take i).map T.lo))/\OwnB W B v q/\Below w.heap.size w W) (fun u _=>len - (intOf u).toNat)
 case atStart=>exact⟨0,rfl,by omega,hA,hO1,hB1⟩
 case round =>
  clear hA hO1 hB1
  obtain⟨i,rfl,hi,hA,hO,hBw⟩:=hrel
  have hz:=hBw.size
  by_cases hil:i<len
  ·have hx:=(hBw.cell (p:=⟨b,o+i,none⟩) hb).trans (hc i hil)
   have hn:=T.map_take_next l i (by rw[hl.out];exact hil)
   obtain⟨x,hxd⟩ : ∃ x,l.getD i 0=x:=⟨_,rfl⟩
   rw[hxd] at hx hn
   clear hxd
   obtain⟨p,hp⟩ : ∃ p,T.lo x=p:=⟨_,rfl⟩
   have hp2:p<256:=by rw[<- hp];exact T.lo_lt x
   have e1:(x.toNat:Int) % 256=(p:Int):=by rw[<- hp];unfold T.lo;omega
   have e1':Int.tmod (x.toNat:Int) 256=(p:Int):=by rw[Int.tmod_eq_emod_of_nonneg (by omega)];exact e1
   have e1'':IntKind.u16.wrap (p:Int)=(p:Int):=by rw[IntKind.wrap_u16];omega
   obtain⟨k,hk⟩ : ∃ k,p / 8=k:=⟨_,rfl⟩
   have e2:(p:Int) / 8=(k:Int):=by omega
   have e2':Int.tdiv (p:Int) 8=(k:Int):=by rw[Int.tdiv_eq_ediv_of_nonneg (by omega)];exact e2
   have hk2:k<32:=by omega
   have hk2':(k:Int)<32:=by omega
   have e4:IntKind.i64.wrap (k:Int)=(k:Int):=wrap_nat k (by omega)
   rw[hp] at hn
   have hrow:=T.row_snoc 32 ((l.take i).map T.lo) p
   rw[<- hn,T.setb_at,hk] at hrow
   have hcell:=hA.cell k (by rw[T.row_len];exact hk2)
   have hfr:=hA.frozen k
   obtain⟨y,hy⟩ : ∃ y,(T.row 32 ((l.take i).map T.lo)).getD k 0=y:=⟨_,rfl⟩
   rw[hy] at hcell hrow
   obtain⟨m,hm⟩ : ∃ m:Nat,2 ^ (7 - p % 8)=m:=⟨_,rfl⟩
   have hm2:y.toNat ||| m<256:=by rw[<- hm];exact T.or_small y _ (by omega)
   have hm3:m<256:=by
    rw[<- hm]
    have:2 ^ (7 - p % 8)<2 ^ 8:=Nat.pow_lt_pow_right (by omega) (by omega)
    omega
   rw[hm] at hrow
   obtain⟨z,hzz⟩ : ∃ z,UInt8.ofNat (y.toNat ||| m)=z:=⟨_,rfl⟩
   have e3:bits .or .u8 (y.toNat:Int) (m:Int)=(z.toNat:Int):=by
    rw[u8_or_nat _ _ y.toNat_lt hm3, <- hzz,T.nat8 _ hm2]
   rw[hzz] at hrow
   have cb:=fun W=>bitOf_any p (by omega) W
   rw[hm] at cb
   have HR:=hide hrow
   have HA:=hide hA
   have HO:=hide hO
   clear hrow hn hA hO hm hm2 hm3 hzz hy hk hp
   go_wp2
   go_region_with (go_at_call 219;refine (cb _).mono ?_;rintro e w5 ⟨rfl,rfl⟩)
   all_goals go_wp2
   all_goals
    go_roundw
    case rel=>exact⟨i+1,by go_num,by omega,(by rw[HR.out];exact (HA.out.set k z).drewN 1),(HO.out.ar HA.out k _).drewN 1,below_drew (hBw.setCell (Nat.le_refl _) _)⟩
    case measure=>simp[intOf];omega
  ·obtain rfl:i=len:=by omega
   rw[show l.take i=l from List.take_of_length_le (by rw[hl.out];exact Nat.le_refl _)] at hA
   have hx:=(hBw.cell (p:=⟨b,o+(i - 1),none⟩) hb).trans (hc (i - 1) (by omega))
   have hlast:=T.last_lo l (by rw[hl.out];exact h0)
   rw[hl.out] at hlast
   have hmem:l.getD (i - 1) 0∈l:=by
    rw[List.getD_eq_getElem?_getD,List.getElem?_eq_getElem (by rw[hl.out];omega)]
    exact List.getElem_mem _
   have hhi:=hh _ hmem
   obtain⟨x,hxd⟩ : ∃ x,l.getD (i - 1) 0=x:=⟨_,rfl⟩
   rw[hxd] at hx hlast hhi
   clear hxd hmem hh
   obtain⟨p,hp⟩ : ∃ p,T.lo x=p:=⟨_,rfl⟩
   have hp2:p<256:=by rw[<- hp];exact T.lo_lt x
   have e1:(x.toNat:Int) % 256=(p:Int):=by rw[<- hp];unfold T.lo;omega
   have e1':Int.tmod (x.toNat:Int) 256=(p:Int):=by rw[Int.tmod_eq_emod_of_nonneg (by omega)];exact e1
   have e1'':IntKind.u16.wrap (p:Int)=(p:Int):=by rw[IntKind.wrap_u16];omega
   obtain⟨k,hk⟩ : ∃ k,p / 8=k:=⟨_,rfl⟩
   have e2:(p:Int) / 8=(k:Int):=by omega
   have e2':Int.tdiv (p:Int) 8=(k:Int):=by rw[Int.tdiv_eq_ediv_of_nonneg (by omega)];exact e2
   have e2'':IntKind.u16.wrap (k:Int)=(k:Int):=by rw[IntKind.wrap_u16];omega
   have e5:=wrap_hi x
   have h256:=T.hi_lt x
   rw[hhi] at e5 h256
   obtain⟨H,hH⟩ : ∃ H,T.hi t=H:=⟨_,rfl⟩
   rw[hH] at e5 h256
   obtain⟨n,hn⟩ : ∃ n,k+1=n:=⟨_,rfl⟩
   have e6:IntKind.u16.wrap ((k:Int)+1)=(n:Int):=by rw[IntKind.wrap_u16];omega
   have e7:IntKind.u8.wrap (H:Int)=(H:Int):=by rw[IntKind.wrap_u8];omega
   have e8:IntKind.u8.wrap (n:Int)=(n:Int):=by rw[IntKind.wrap_u8];omega
   have hn32:n<=32:=by omega
   have hn32':(n:Int)<=32:=by omega
   have hsz:T.size (l.map T.lo)=n:=by unfold T.size;rw[hlast,hp];omega
   have hwin:T.win (T.hi t) (l.map T.lo) = [UInt8.ofNat H,UInt8.ofNat n]++(T.row 32 (l.map T.lo)).take n:=by
    have hb8:=T.size_bound _ HPS.out
    rw[hsz] at hb8
    unfold T.win
    rw[hsz,hH,T.row_take n 32 _ hb8 hn32];rfl
   have hrl:((T.row 32 (l.map T.lo)).take n).length=n:=by rw[List.length_take,T.row_len];omega
   have HW:=hide hwin
   have HA:=hide hA
   have HO:=hide hO
   have hz1:B<=wr.heap.size:=by omega
   clear hwin hsz hA hO hn hk hp hlast hhi hH hc
   generalize hrw:(T.row 32 (l.map T.lo))=rw32 at HW HA hrl
   have HRL:=hide hrl
   clear hrw hrl
   go_wp2_with (first
    | (at_builtin;refine wpList_append_B rfl (.tmp 39) (.tmp 45) rfl B v q rfl (by exact HO.out.alloc _) _ _ _ [UInt8.ofNat H,UInt8.ofNat n] rfl rfl (SlL.litm _ _ _ _ _ (by simp[vb,T.nat8 H h256,T.nat8 n (by omega)])) (by simp) (by simp;omega) (by simp;omega) ?_;intro v4 w4 hO4 hG4;have HO4:=hide hO4;have hB4:=grown_below (HO.out.alloc _) hG4 ((hBw.mono hB).alloc hz1 _) (by simp;omega);have hA4:=grown_ar (HA.out.alloc _) hG4 (HO.out.ne_ar HA.out);have HA4:=hide hA4;have hz4:B<=w4.heap.size:=(by have:=hG4.size;simp at this;omega);clear hG4 hO4 hA4)
    | (at_builtin;refine wpList_append_B rfl (.tmp 47) (.tmp 49) rfl B v4 _ rfl (by exact HO4.out) _ _ _ (rw32.take n) rfl HRL.out (by exact HA4.out.sl n) (by simp) (by simp;omega) hz4 ?_;intro v5 w5 hO5 hG5;have hB5:=grown_below HO4.out hG5 hB4 hz4;clear hG5))
   go_ret
   refine⟨_,rfl,?_,hB5⟩
   rw[HW.out, <- List.append_assoc];exact hO5
open Go.RowKit
namespace T
theorem win_len (w:Nat) (ps:List Nat):(win w ps).length=2+size ps:=by unfold win;rw[List.length_cons,List.length_cons,row_len];omega
theorem bmp_len (k:Nat) : ∀ l:List UInt16,l.length<=k->(bmp l).length<=34*l.length:=by
 induction k with
 | zero=>intro l hl;obtain rfl:l = []:=List.eq_nil_of_length_eq_zero (by omega);rw[bmp_nil];simp
 | succ k ih =>
  intro l hl
  cases l with
  | nil=>rw[bmp_nil];simp
  | cons t r =>
   rw[bmp_cons,List.length_append,win_len]
   have h1:=size_le ((t::r.takeWhile (same t)).map lo) (fun p hp=>by obtain⟨x,_,rfl⟩:=List.mem_map.1 hp;exact lo_lt x)
   have h2:=drop_le t r
   have h3:=ih (r.dropWhile (same t)) (by simp at hl;omega)
   simp only[List.length_cons]
   omega
theorem tw_self (t:UInt16) (r:List UInt16):(t::r).takeWhile (same t)=t::r.takeWhile (same t):=by
 rw[List.takeWhile_cons,if_pos (by simp[same])]
theorem tw_take (p:UInt16->Bool) (l:List UInt16):l.take (l.takeWhile p).length=l.takeWhile p/\l.drop (l.takeWhile p).length=l.dropWhile p:=by
 have h:=List.takeWhile_append_dropWhile (p:=p) (l:=l)
 have h1:(l.takeWhile p++l.dropWhile p).take (l.takeWhile p).length=l.takeWhile p:=List.take_left
 have h2:(l.takeWhile p++l.dropWhile p).drop (l.takeWhile p).length=l.dropWhile p:=List.drop_left
 rw[h] at h1 h2
 exact⟨h1,h2⟩
theorem dw_self (t:UInt16) (r:List UInt16):(t::r).dropWhile (same t)=r.dropWhile (same t):=by
 rw[List.dropWhile_cons,if_pos (by simp[same])]
end T
def lenOf:Value->Nat | .slice _ n _=>n | _=>0
theorem SlH.take {w:World} {ao:Option Addr} {l:List UInt16} (h:SlH w ao l) (k:Nat):SlH w ao (l.take k):=fun hn=>by
 rw[List.length_take] at hn
 obtain⟨b,o,e,hlt,hc⟩:=h (by omega)
 refine⟨b,o,e,hlt,fun j hj=>?_⟩
 rw[List.length_take] at hj
 rw[hc j (by omega),List.getD_eq_getElem?_getD,List.getD_eq_getElem?_getD,List.getElem?_take_of_lt (by omega)]
set_option maxRecDepth 3000 in
set_option maxHeartbeats 3200000 in
theorem bitmap_any (l:List UInt16) (ao:Option Addr) (len cap:Nat) (w:World) (hl:Hid (l.length=len)) (hs:SlH w ao l) (hnil:ao=none->cap=0) (hlen:len<=70000) :
 Calls Tryz.prog 185 #[.slice ao len cap] w fun e w' => ∃ v c,e = .returned v/\T.IsClean l c/\c.length<=len/\OwnB w' w.heap.size v (T.bmp c)/\Below w.heap.size w w':=by
 have cc:=clean_any l ao len cap w hl hs hnil (by omega)
 clear hs
 go_enter Tryz.func185,Tryz.ntmps185
 go_wp2_with (go_at_call 206;refine cc.mono ?_;rintro e w1 ⟨v1,c,rfl,hcl,hcn,hO1,hB1⟩)
 clear cc
 obtain⟨a1,c1,rfl,hS1,hn1,hc1,hm1⟩:=hO1.open
 have hbl:=T.bmp_len c.length c (Nat.le_refl _)
 have HCL:=hide hcl
 have hR:=hcl.1
 clear hcl hO1
 go_loopw [3,4] (fun v3 v4 W => ∃ (rest:List UInt16) (ao:Option Addr) (cap:Nat) (q:List UInt8),v4 = .slice ao rest.length cap/\SlH w1 ao rest/\rest.length<=cap/\cap<=maxLen/\rest.length<=c.length/\T.Rising rest/\OwnB W w1.heap.size v3 q/\Below w1.heap.size w1 W/\q++T.bmp rest=T.bmp c) (fun _ v4 _=>lenOf v4)
 case atStart=>exact⟨c,a1,c1, [],rfl,hS1,hc1,hm1,Nat.le_refl _,hR,OwnB.nil _ _,Below.refl _ _,rfl⟩
 case round =>
  clear hS1 hn1 hc1 hm1 hR
  obtain⟨rest,ao,cap2,q,rfl,hS,hcap,hmax,hrl,hR,hO,hB,hE⟩:=hrel
  have hz:=hB.size
  cases rest with
  | nil =>
   have HE:=hide hE
   clear hE
   go_wp2
   go_ret
   refine⟨_,c,rfl,HCL.out,hcn,?_,hB1.trans (hB.mono hB1.size)⟩
   have e:=HE.out
   rw[T.bmp_nil,List.append_nil] at e
   rw[<- e]
   exact hO.lower hB1.size
  | cons t r =>
   have hSr:SlH wr ao (t::r):=hS.below hB (Nat.le_refl _)
   obtain⟨b,o,rfl,hb,hcc⟩:=hS (by simp)
   have hrN:r.length+1<=70000:=by simp at hrl;omega
   have cf:=firstWindow_any t r b o cap2 wr hSr (by omega)
   have hts:=T.tw_self t r
   obtain⟨m1,m2⟩:=T.tw_take (T.same t) (t::r)
   have hkle:((t::r).takeWhile (T.same t)).length<=r.length+1:=by
    have:=(List.takeWhile_sublist (p:=T.same t) (l:=t::r)).length_le;simpa using this
   have hk1:1<=((t::r).takeWhile (T.same t)).length:=by rw[hts];simp
   have hS2:SlH wr (some ⟨b,o,none⟩) ((t::r).takeWhile (T.same t)):=by rw[<- m1];exact hSr.take _
   have hbm:=T.bmp_cons t r
   rw[<- hts, <- T.dw_self t r] at hbm
   have hRt:T.Rising ((t::r).takeWhile (T.same t)):=by rw[hts];exact T.rising_take t r hR
   have hhi : ∀ x∈(t::r).takeWhile (T.same t),T.hi x=T.hi t:=by rw[hts];exact T.take_hi t r
   have hRd:T.Rising ((t::r).dropWhile (T.same t)):=by rw[T.dw_self];exact T.rising_rest t r hR
   have hql:q.length<=10000000:=by
    have:=congrArg List.length hE
    rw[List.length_append] at this;omega
   have hdl:((t::r).dropWhile (T.same t)).length+((t::r).takeWhile (T.same t)).length=r.length+1:=by
    have:=congrArg List.length (List.takeWhile_append_dropWhile (p:=T.same t) (l:=t::r))
    rw[List.length_append] at this
    simp at this ⊢; omega
   have hSd:SlH w1 (some ⟨b,o+((t::r).takeWhile (T.same t)).length,none⟩) ((t::r).dropWhile (T.same t)):=by
    rw[<- m2];exact SlH.drop hS (by simpa using hkle)
   rw[hbm] at hE
   have ca:=fun v=>appendWindow_any t ((t::r).takeWhile (T.same t)) q w1.heap.size b o ((t::r).takeWhile (T.same t)).length cap2 v wr rfl hk1 (by omega) hS2
   generalize (t::r).takeWhile (T.same t)=tw at *
   generalize (t::r).dropWhile (T.same t)=dw at *
   have HE:=hide hE
   have HO:=hide hO
   obtain⟨k,hk⟩ : ∃ k,tw.length=k:=⟨_,rfl⟩
   rw[hk] at cf ca hkle hk1 hdl hSd
   simp only[List.length_cons] at hcap
   have hkc:k<=cap2:=by omega
   clear hE hO hbm m1 m2 hts hS hSr hcc hS2 hk hR
   simp only[List.length_cons]
   go_wp2_with (first
    | (go_at_call 207;refine cf.mono ?_;rintro e w2 ⟨rfl,rfl⟩)
    | (go_at_call 208;refine (ca _ HO.out hz hql hhi hRt).mono ?_;rintro e w3 ⟨v3,rfl,hO3,hB3⟩))
   go_roundw
   case rel =>
    refine⟨dw,_,cap2 - k,_,by rw[show dw.length=r.length+1 - k by omega],?_,by omega,by omega,by simp at hrl;omega,hRd,hO3,hB.trans hB3,by rw[<- HE.out,List.append_assoc]⟩
    by_cases e:cap2=k
    ·intro hn;omega
    ·rw[if_neg e];exact hSd
   case measure=>simp[lenOf];omega
end Go.Proofs.YtmbcegljmhcdeaaGreat
