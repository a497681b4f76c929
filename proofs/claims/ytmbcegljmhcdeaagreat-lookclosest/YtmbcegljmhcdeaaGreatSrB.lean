/- slices.Sort at uint16, second part (texts of stage 4, at this seat). -/
import Derived.Test.YtmbcegljmhcdeaaGreatSh
import Derived.Lib.ItoaNum
import Derived.WalkKit
import Derived.BigCall
import Derived.BigQuiet
import Derived.Shelf.SlSortCmp.Kit1
import Derived.Sort.WalkB3
import Derived.Sort.Walk7
import Derived.Sort.LotD1
import Derived.Laws.Bits64b
import Derived.Sort.WalkA6
import Derived.Sort.WalkC4
namespace Go.Proofs.YtmbcegljmhcdeaaGreat
set_option maxRecDepth 5000
open Go.RowKit Go.Sort
namespace Q
def enc (x:UInt16):Value := .int .u16 (x.toNat:Int)
def lt (x y:UInt16):Bool:=decide (x.toNat<y.toNat)
theorem swo:SWO lt where
 irrefl x:=by simp[lt]
 trans x y z h1 h2:=by simp only[lt,decide_eq_true_eq] at *; omega
 ntrans x y z h1 h2:=by simp only[lt,decide_eq_false_iff_not] at *; omega
structure Rw (w0:World) (g o N:Nat):Prop where
 row : ∃ d0:Array UInt16,d0.size=N/\Row1 enc w0 g o d0
 small:N<4611686018427387904
structure St (w0:World) (g o N:Nat) (d:Array UInt16) (W:World):Prop where
 size:d.size=N
 sw:SW enc w0 g o d W
theorem St.look {w0 W:World} {g o N:Nat} {d:Array UInt16} (h:St w0 g o N d W) (R:Rw w0 g o N) :
 ∃ G:Nat->UInt16,Hid (∀ t,d[t]! = G t)/\(∀ t,t<N->W.cell? ⟨g,o+t,none⟩=some (.int .u16 ((G t).toNat:Int)))/\(∀ t,t<N->W.frozen? ⟨g,o+t,none⟩=false):=by
 obtain⟨⟨d0,h0,R1⟩,_⟩:=R
 obtain⟨hd,hS⟩:=h
 exact⟨fun t=>d[t]!,fun _=>rfl,fun t ht=>hS.c1 R1 (by omega) t (by omega),fun t ht=>hS.f1 R1 (by omega) t (by omega)⟩
theorem St.drewN {w0 W:World} {g o N:Nat} {d:Array UInt16} (h:St w0 g o N d W) (q:Nat):St w0 g o N d (W.drewN q):=⟨h.1,h.2.drewN q⟩
theorem St.swap {w0 W:World} {g o N:Nat} {d:Array UInt16} (h:St w0 g o N d W) (R:Rw w0 g o N) {G:Nat->UInt16} (hG : ∀ t,d[t]! = G t) (q i j:Nat) (hi:i<N) (hj:j<N) :
 St w0 g o N (swp d i j) (((W.drewN q).setCell ⟨g,o+i,none⟩ (.int .u16 ((G j).toNat:Int))).setCell ⟨g,o+j,none⟩ (.int .u16 ((G i).toNat:Int))):=by
 obtain⟨⟨d0,h0,R1⟩,_⟩:=R
 obtain⟨hd,hS⟩:=h
 refine⟨by rw[size_swp];exact hd,?_⟩
 have:=(hS.drewN q).swap R1.hblk i j (by omega) (by omega)
 rw[hG,hG] at this
 exact this
end Q
open Q
theorem nan_any (x:UInt16) (w:World):Calls Tryz.prog 201 #[.int .u16 (x.toNat:Int)] w fun e w'=>e = .returned (.bool false)/\w'=w:=by
 go_enter Tryz.func201,Tryz.ntmps201
 go_wp2
 go_ret
 exact⟨rfl,rfl⟩
theorem less_any (x y:UInt16) (w:World):Calls Tryz.prog 169 #[.int .u16 (x.toNat:Int),.int .u16 (y.toNat:Int)] w fun e w'=>e = .returned (.bool (lt x y))/\w'=w:=by
 unfold lt
 go_enter Tryz.func169,Tryz.ntmps169
 go_wp2_with (go_at_call 201;refine (nan_any x _).mono ?_;rintro e w' ⟨rfl,rfl⟩)
 go_ret
 exact⟨rfl,rfl⟩
set_option maxHeartbeats 3200000 in
theorem ins_any (w0 w:World) (g o N cap a b:Nat) (d:Array UInt16) (R:Rw w0 g o N) (h:St w0 g o N d w) (hab:a<=b) (hb:b<=N) :
 Calls Tryz.prog 163 #[.slice (some ⟨g,o,none⟩) N cap,.int .i64 a,.int .i64 b] w fun e w'=>e = .returned (.tuple #[])/\St w0 g o N (Sort.insertionSort lt d a b) w':=by
 have hsm:=R.small
 go_enter Tryz.func163,Tryz.ntmps163
 go_wp2
 go_loopw [6] (fun v W => ∃ (i:Nat) (dk:Array UInt16),v = .int .i64 (i:Int)/\a<i/\i<=b+1/\St w0 g o N dk W/\insOuter lt a b i dk=insOuter lt a b (a+1) d) (fun v _=>b+1 - (intOf v).toNat)
 case atStart=>exact⟨a+1,d,by go_num,by omega,by omega,h,rfl⟩
 case round =>
  clear h
  obtain⟨i,dk,rfl,hai,hib,hS,hO⟩:=hrel
  have HO:Hid _:=hO
  clear hO
  go_wp2
  ·have hlt:i<b:=by assumption
   go_loopw [7] (fun v W => ∃ (j:Nat) (dj:Array UInt16),v = .int .i64 (j:Int)/\a<=j/\j<=i/\St w0 g o N dj W/\insInner lt a j dj=insInner lt a i dk) (fun v _=>(intOf v).toNat)
   case atStart=>exact⟨i,dk,rfl,by omega,Nat.le_refl _,hS,rfl⟩
   case round =>
    clear hS
    obtain⟨j,dj,rfl,haj,hji,hS,hI⟩:=hrel
    obtain⟨G,HG,hc,hf⟩:=hS.look R
    have HS:Hid _:=hS
    have HI:Hid _:=hI
    clear hS hI
    have OUT:(j<=a\/lt (G j) (G (j - 1))=false) -> ∀ q,∃ (i':Nat) (dk':Array UInt16),Value.int .i64 ((i:Int)+1) = .int .i64 (i':Int)/\a<i'/\i'<=b+1/\St w0 g o N dk' (wr.drewN q)/\insOuter lt a b i' dk'=insOuter lt a b (a+1) d:=fun hs q =>
     ⟨i+1,dj,by go_num,by omega,by omega,HS.out.drewN q,by rw[<- HO.out,insOuter_go _ _ _ _ _ hlt, <- HI.out,insInner_stop _ _ _ _ (by rw[HG.out,HG.out];exact hs)]⟩
    have OUT':Hid _:=OUT
    clear OUT
    go_wp2
    by_cases hja:a<j
    ·go_quiet (first | (go_at_call 169;refine Calls.quiet_of_same (less_any _ _ _)))
     go_wp2
     ·have hl:lt (G j) (G (j - 1))=true:=by assumption
      go_region
      all_goals go_wp2
      go_roundw
      case rel=>exact⟨j - 1,swp dj j (j - 1),by congr 1;omega,by omega,by omega,HS.out.swap R HG.out _ j (j - 1) (by omega) (by omega),by rw[<- HI.out,insInner_go lt a j dj hja (by rw[HG.out,HG.out];exact hl)]⟩
      case measure=>simp[intOf];omega
     ·have hl:lt (G j) (G (j - 1))=false:=by assumption
      go_roundw
      case rel=>exact OUT'.out (Or.inr hl) nq
      case measure=>simp[intOf];omega
    ·go_quiet (first | (go_at_call 169;refine Calls.quiet_of_same (less_any _ _ _)))
     go_wp2
     go_roundw
     case rel=>exact OUT'.out (Or.inl (by omega)) nq
     case measure=>simp[intOf];omega
  ·have hge : ¬ i<b:=by assumption
   go_end0
   exact⟨rfl,by unfold Sort.insertionSort;rw[<- HO.out,insOuter_stop _ _ _ _ _ hge];exact hS⟩
open Go.RowKit Go.Sort Q
set_option maxHeartbeats 3200000 in
theorem rev_any (w0 w:World) (g o N cap a b:Nat) (d:Array UInt16) (R:Rw w0 g o N) (h:St w0 g o N d w) (hab:a<=b) (hb:b<=N) :
 Calls Tryz.prog 167 #[.slice (some ⟨g,o,none⟩) N cap,.int .i64 a,.int .i64 b] w fun e w'=>e = .returned (.tuple #[])/\St w0 g o N (Sort.reverseRange d a b) w':=by
 have hsm:=R.small
 go_enter Tryz.func167,Tryz.ntmps167
 go_wp2
 go_loopw [6,7] (fun v u W => ∃ (i j:Nat) (dk:Array UInt16),v = .int .i64 (i:Int)/\u = .int .i64 ((j:Int) - 1)/\i<=N/\j<=N/\St w0 g o N dk W/\reverseLoop i (j - 1) dk=reverseLoop a (b - 1) d) (fun v u _=>((intOf u) - (intOf v)).toNat)
 case atStart=>exact⟨a,b,d,rfl,rfl,by omega,hb,h,rfl⟩
 case round =>
  clear h
  obtain⟨i,j,dk,rfl,rfl,hi,hj,hS,hO⟩:=hrel
  obtain⟨G,HG,hc,hf⟩:=hS.look R
  have HO:Hid _:=hO
  have HS:Hid _:=hS
  clear hO hS
  by_cases hlt:i<j - 1
  ·have e1:(i:Int)<(j:Int) - 1:=by omega
   have e2:((j:Int) - 1)=((j - 1:Nat):Int):=by omega
   rw[e2] at *
   go_wp2
   go_region
   all_goals go_wp2
   go_roundw
   case rel=>exact⟨i+1,j - 1,swp dk i (j - 1),by go_num,by go_num,by omega,by omega,HS.out.swap R HG.out _ i (j - 1) (by omega) (by omega),by rw[<- HO.out];conv=>rhs;rw[reverseLoop,if_pos hlt]⟩
   case measure=>simp[intOf];omega
  ·have e1 : ¬ ((i:Int)<(j:Int) - 1):=by omega
   go_wp2
   go_end0
   refine⟨rfl,?_⟩
   unfold Sort.reverseRange
   rw[<- HO.out,reverseLoop,if_neg hlt];exact HS.out
set_option maxHeartbeats 6400000 in
theorem sift_any (w0 w:World) (g o N cap l hi F:Nat) (d:Array UInt16) (R:Rw w0 g o N) (h:St w0 g o N d w) (hb:F+hi<=N) (hl:l<=N) :
 Calls Tryz.prog 196 #[.slice (some ⟨g,o,none⟩) N cap,.int .i64 l,.int .i64 hi,.int .i64 F] w fun e w'=>e = .returned (.tuple #[])/\St w0 g o N (Sort.siftDown lt hi F l d) w':=by
 have hsm:=R.small
 go_enter Tryz.func196,Tryz.ntmps196
 go_wp2
 go_loopw [8] (fun v W => ∃ (r:Nat) (dk:Array UInt16),v = .int .i64 (r:Int)/\r<=N/\St w0 g o N dk W/\siftDown lt hi F r dk=siftDown lt hi F l d) (fun v _=>N+1 - (intOf v).toNat)
 case atStart=>exact⟨l,d,rfl,hl,h,rfl⟩
 case round =>
  clear h
  obtain⟨r,dk,rfl,hr,hS,hO⟩:=hrel
  obtain⟨G,HG,hc,hf⟩:=hS.look R
  have HO:Hid _:=hO
  have HS:Hid _:=hS
  clear hO hS
  by_cases hend:hi<=2*r+1
  ·have e1:(hi:Int)<=2*(r:Int)+1:=by omega
   go_wp2
   go_end0
   exact⟨rfl,by rw[<- HO.out,sd_end lt dk hend];exact HS.out⟩
  ·have e1 : ¬ (hi:Int)<=2*(r:Int)+1:=by omega
   obtain⟨c,hcc⟩ : ∃ c,2*r+1=c:=⟨_,rfl⟩
   have e2:2*(r:Int)+1=(c:Int):=by omega
   have HC:Hid _:=hcc
   clear hcc
   rw[e2] at e1
   have hcN:F+c<N:=by omega
   have hrN:F+r<N:=by have:=HC.out;omega
   go_wp2
   by_cases hc1:c+1<hi
   ·have e3:(c:Int)+1<(hi:Int):=by omega
    have hcN1:F+c+1<N:=by omega
    go_quiet (first | (go_at_call 169;refine Calls.quiet_of_same (less_any _ _ _)))
    go_wp2
    ·have hl1:lt (G (F+c)) (G (F+c+1))=true:=by assumption
     have hXr:r<c+1:=by have:=HC.out;omega
     have hXN:F+(c+1)<N:=by omega
     go_wp2
     replace HS:Hid (St w0 g o N dk (wr.drewN nq)):=HS.out.drewN nq
     replace hc : ∀ t,t<N->(wr.drewN nq).cell? ⟨g,o+t,none⟩=some (.int .u16 ((G t).toNat:Int)):=hc
     replace hf : ∀ t,t<N->(wr.drewN nq).frozen? ⟨g,o+t,none⟩=false:=hf
     generalize wr.drewN nq=wr2 at HS hc hf ⊢
     clear nq
     go_quiet (first | (go_at_call 169;refine Calls.quiet_of_same (less_any _ _ _)))
     go_wp2
     ·have hl:lt (G (F+r)) (G (F+(c+1)))=false:=by
       have:(!lt (G (F+r)) (G (F+(c+1))))=true:=by assumption
       simpa using this
      (try simp only[Exit.inBlock,Exit.then]);refine bodyPost_ret (results_none rfl _ _ _) rfl ?_
      have:=HC.out
      exact⟨rfl,by rw[<- HO.out,sd_right_stop lt dk (by omega) (by rw[HG.out,HG.out,show F+(2*r+1)=F+c by omega,show F+(2*r+2)=F+c+1 by omega];exact hl1) (by rw[HG.out,HG.out,show F+(2*r+2)=F+(c+1) by omega];exact hl)];exact HS.out.drewN _⟩
     ·have hl:lt (G (F+r)) (G (F+(c+1)))=true:=by
       have:(!lt (G (F+r)) (G (F+(c+1))))=false:=by assumption
       simpa using this
      replace HS:Hid (St w0 g o N dk (wr2.drewN nq)):=HS.out.drewN nq
      replace hc : ∀ t,t<N->(wr2.drewN nq).cell? ⟨g,o+t,none⟩=some (.int .u16 ((G t).toNat:Int)):=hc
      replace hf : ∀ t,t<N->(wr2.drewN nq).frozen? ⟨g,o+t,none⟩=false:=hf
      generalize wr2.drewN nq=wr3 at HS hc hf ⊢
      clear nq
      go_region
      all_goals go_wp2
      go_roundw
      case rel =>
       have:=HC.out
       exact⟨c+1,swp dk (F+r) (F+(c+1)),by go_num,by omega,HS.out.swap R HG.out _ (F+r) (F+(c+1)) (by omega) (by omega),by rw[<- HO.out,sd_right_go lt dk (by omega) (by rw[HG.out,HG.out,show F+(2*r+1)=F+c by omega,show F+(2*r+2)=F+c+1 by omega];exact hl1) (by rw[HG.out,HG.out,show F+(2*r+2)=F+(c+1) by omega];exact hl),show 2*r+2=c+1 by omega]⟩
      case measure=>simp[intOf];omega
    ·have hl1:lt (G (F+c)) (G (F+c+1))=false:=by assumption
     have hXr:r<c:=by have:=HC.out;omega
     have hXN:F+(c)<N:=by omega
     go_wp2
     replace HS:Hid (St w0 g o N dk (wr.drewN nq)):=HS.out.drewN nq
     replace hc : ∀ t,t<N->(wr.drewN nq).cell? ⟨g,o+t,none⟩=some (.int .u16 ((G t).toNat:Int)):=hc
     replace hf : ∀ t,t<N->(wr.drewN nq).frozen? ⟨g,o+t,none⟩=false:=hf
     generalize wr.drewN nq=wr2 at HS hc hf ⊢
     clear nq
     go_quiet (first | (go_at_call 169;refine Calls.quiet_of_same (less_any _ _ _)))
     go_wp2
     ·have hl:lt (G (F+r)) (G (F+(c)))=false:=by
       have:(!lt (G (F+r)) (G (F+(c))))=true:=by assumption
       simpa using this
      (try simp only[Exit.inBlock,Exit.then]);refine bodyPost_ret (results_none rfl _ _ _) rfl ?_
      have:=HC.out
      exact⟨rfl,by rw[<- HO.out,sd_left_stop lt dk (by omega) (fun _=>(by rw[HG.out,HG.out,show F+(2*r+1)=F+c by omega,show F+(2*r+2)=F+c+1 by omega];exact hl1)) (by rw[HG.out,HG.out,show F+(2*r+1)=F+c by omega];exact hl)];exact HS.out.drewN _⟩
     ·have hl:lt (G (F+r)) (G (F+(c)))=true:=by
       have:(!lt (G (F+r)) (G (F+(c))))=false:=by assumption
       simpa using this
      replace HS:Hid (St w0 g o N dk (wr2.drewN nq)):=HS.out.drewN nq
      replace hc : ∀ t,t<N->(wr2.drewN nq).cell? ⟨g,o+t,none⟩=some (.int .u16 ((G t).toNat:Int)):=hc
      replace hf : ∀ t,t<N->(wr2.drewN nq).frozen? ⟨g,o+t,none⟩=false:=hf
      generalize wr2.drewN nq=wr3 at HS hc hf ⊢
      clear nq
      go_region
      all_goals go_wp2
      go_roundw
      case rel =>
       have:=HC.out
       exact⟨c,swp dk (F+r) (F+(c)),by go_num,by omega,HS.out.swap R HG.out _ (F+r) (F+(c)) (by omega) (by omega),by rw[<- HO.out,sd_left_go lt dk (by omega) (fun _=>(by rw[HG.out,HG.out,show F+(2*r+1)=F+c by omega,show F+(2*r+2)=F+c+1 by omega];exact hl1)) (by rw[HG.out,HG.out,show F+(2*r+1)=F+c by omega];exact hl),this]⟩
      case measure=>simp[intOf];omega
   ·have e3:decide ((c:Int)+1<(hi:Int))=false:=decide_eq_false (by omega)
    go_quiet (first | (go_at_call 169;refine Calls.quiet_of_same (less_any _ _ _)))
    have hXr:r<c:=by have:=HC.out;omega
    have hXN:F+(c)<N:=by omega
    go_wp2
    replace HS:Hid (St w0 g o N dk (wr.drewN nq)):=HS.out.drewN nq
    replace hc : ∀ t,t<N->(wr.drewN nq).cell? ⟨g,o+t,none⟩=some (.int .u16 ((G t).toNat:Int)):=hc
    replace hf : ∀ t,t<N->(wr.drewN nq).frozen? ⟨g,o+t,none⟩=false:=hf
    generalize wr.drewN nq=wr2 at HS hc hf ⊢
    clear nq
    go_quiet (first | (go_at_call 169;refine Calls.quiet_of_same (less_any _ _ _)))
    go_wp2
    ·have hl:lt (G (F+r)) (G (F+(c)))=false:=by
      have:(!lt (G (F+r)) (G (F+(c))))=true:=by assumption
      simpa using this
     (try simp only[Exit.inBlock,Exit.then]);refine bodyPost_ret (results_none rfl _ _ _) rfl ?_
     have:=HC.out
     exact⟨rfl,by rw[<- HO.out,sd_left_stop lt dk (by omega) (fun h=>absurd h (by omega)) (by rw[HG.out,HG.out,show F+(2*r+1)=F+c by omega];exact hl)];exact HS.out.drewN _⟩
    ·have hl:lt (G (F+r)) (G (F+(c)))=true:=by
      have:(!lt (G (F+r)) (G (F+(c))))=false:=by assumption
      simpa using this
     replace HS:Hid (St w0 g o N dk (wr2.drewN nq)):=HS.out.drewN nq
     replace hc : ∀ t,t<N->(wr2.drewN nq).cell? ⟨g,o+t,none⟩=some (.int .u16 ((G t).toNat:Int)):=hc
     replace hf : ∀ t,t<N->(wr2.drewN nq).frozen? ⟨g,o+t,none⟩=false:=hf
     generalize wr2.drewN nq=wr3 at HS hc hf ⊢
     clear nq
     go_region
     all_goals go_wp2
     go_roundw
     case rel =>
      have:=HC.out
      exact⟨c,swp dk (F+r) (F+(c)),by go_num,by omega,HS.out.swap R HG.out _ (F+r) (F+(c)) (by omega) (by omega),by rw[<- HO.out,sd_left_go lt dk (by omega) (fun h=>absurd h (by omega)) (by rw[HG.out,HG.out,show F+(2*r+1)=F+c by omega];exact hl),this]⟩
     case measure=>simp[intOf];omega
open Go.RowKit Go.Sort Q
namespace Q
theorem two {W:World} {g o N:Nat} {G:Nat->UInt16} (hc : ∀ t,t<N->W.cell? ⟨g,o+t,none⟩=some (.int .u16 ((G t).toNat:Int))) (i j:Nat) (hi:i<N) (hj:j<N) (v:Value) : ∃ u,(W.setCell ⟨g,o+i,none⟩ v).cell? ⟨g,o+j,none⟩=some u:=by
 by_cases e:i=j
 ·subst e;exact⟨v,World.cell?_setCell_same _ _ _ (hc i hi)⟩
 ·exact⟨_,(World.cell?_setCell_other _ _ _ _ (by intro e';simp only[Addr.mk.injEq] at e';omega)).trans (hc j hj)⟩
end Q
set_option maxHeartbeats 6400000 in
theorem heap_any (w0 w:World) (g o N cap a b:Nat) (d:Array UInt16) (R:Rw w0 g o N) (h:St w0 g o N d w) (hab:a<=b) (hb:b<=N) :
 Calls Tryz.prog 164 #[.slice (some ⟨g,o,none⟩) N cap,.int .i64 a,.int .i64 b] w fun e w'=>e = .returned (.tuple #[])/\St w0 g o N (Sort.heapSort lt d a b) w':=by
 have hsm:=R.small
 obtain⟨H,hH⟩ : ∃ H:Nat,b - a=H:=⟨_,rfl⟩
 have e0:(b:Int) - (a:Int)=(H:Int):=by omega
 have hs:=half_start hab
 rw[e0,hH] at hs
 have HB:Hid _:=hH
 clear hH
 go_enter Tryz.func164,Tryz.ntmps164
 go_wp2
 go_loopw [9] (fun v W => ∃ (k:Nat) (dk:Array UInt16),v = .int .i64 ((k:Int) - 1)/\k<=(H - 1) / 2+1/\St w0 g o N dk W/\heapBuild lt H a k dk=heapBuild lt H a ((H - 1) / 2+1) d) (fun v _=>((intOf v)+1).toNat)
 case atStart=>exact⟨(H - 1) / 2+1,d,by congr 1;omega,Nat.le_refl _,h,rfl⟩
 case round =>
  clear h
  obtain⟨k,dk,rfl,hk,hS,hO⟩:=hrel
  have HO:Hid _:=hO
  clear hO
  by_cases hk0:k=0
  ·subst hk0
   have e1:((0:Nat):Int) - 1 = -1:=by omega
   rw[e1]
   clear e1
   go_wp2
   go_loopw [10] (fun v W => ∃ (k:Nat) (dj:Array UInt16),v = .int .i64 ((k:Int) - 1)/\k<=H/\St w0 g o N dj W/\heapPop lt a k dj=heapPop lt a H dk) (fun v _=>((intOf v)+1).toNat)
   case atStart=>exact⟨H,dk,rfl,Nat.le_refl _,hS,rfl⟩
   case round =>
    clear hS hk
    obtain⟨k,dj,rfl,hk,hS,hP⟩:=hrel
    have HP:Hid _:=hP
    clear hP
    by_cases hk0:k=0
    ·subst hk0
     go_wp2
     go_end0
     refine⟨rfl,?_⟩
     unfold Sort.heapSort
     have e:=HO.out
     rw[heapBuild] at e
     rw[HB.out, <- e, <- HP.out];exact hS
    ·obtain⟨m,rfl⟩ : ∃ m,k=m+1:=⟨k - 1,by omega⟩
     have e1:((m+1:Nat):Int) - 1=(m:Int):=by omega
     rw[e1] at *
     obtain⟨G,HG,hc,hf⟩:=hS.look R
     have haN:a<N:=by have:=HB.out;omega
     have hamN:a+m<N:=by have:=HB.out;omega
     have HS:Hid _:=hS
     clear hS
     obtain⟨x0,hx0⟩:=two hc a (a+m) haN hamN (.int .u16 ((G (a+m)).toNat:Int))
     go_wp2
     go_region
     all_goals go_wp2_with fail
     go_wp2_with (go_at_call 196;refine (sift_any w0 _ g o N cap 0 m a (swp dj a (a+m)) R (HS.out.swap R HG.out _ a (a+m) haN hamN) (by omega) (by omega)).mono ?_;rintro e w' ⟨rfl,hS'⟩)
     go_roundw
     case rel=>exact⟨m,_,rfl,by omega,hS',HP.out⟩
     case measure=>simp[intOf]
  ·obtain⟨m,rfl⟩ : ∃ m,k=m+1:=⟨k - 1,by omega⟩
   have e1:((m+1:Nat):Int) - 1=(m:Int):=by omega
   rw[e1] at *
   go_wp2_with (go_at_call 196;refine (sift_any w0 _ g o N cap m H a dk R hS (by have:=HB.out;omega) (by omega)).mono ?_;rintro e w' ⟨rfl,hS'⟩)
   go_roundw
   case rel=>exact⟨m,siftDown lt H a m dk,rfl,by omega,hS',HO.out⟩
   case measure=>simp[intOf]
open Go.RowKit Go.Sort Q
namespace Q
structure Cn (w0:World) (g o N:Nat) (d:Array UInt16) (c:Nat) (W:World):Prop where
 st:St w0 g o N d W
 cell : ∃ z:Int,W.cell? ⟨c,0,none⟩=some (.int .i64 z)
 frozen:W.frozen? ⟨c,0,none⟩=false
 new:w0.heap.size<=c
 lt:c<W.heap.size
theorem Cn.drewN {w0 W:World} {g o N c:Nat} {d:Array UInt16} (h:Cn w0 g o N d c W) (q:Nat):Cn w0 g o N d c (W.drewN q):=⟨h.st.drewN q,h.cell,h.frozen,h.new,h.lt⟩
theorem Cn.bump {w0 W:World} {g o N c:Nat} {d:Array UInt16} (h:Cn w0 g o N d c W) (z:Int):Cn w0 g o N d c (W.setCell ⟨c,0,none⟩ (.int .i64 z)):=by
 obtain⟨z0,hz⟩:=h.cell
 exact⟨⟨h.st.size,h.st.sw.setCell_new c 0 _ h.new⟩,⟨z,World.cell?_setCell_same _ _ _ hz⟩,by rw[World.frozen?_setCell];exact h.frozen,h.new,by simpa using h.lt⟩
theorem Cn.start {w0 W:World} {g o N:Nat} {d:Array UInt16} (h:St w0 g o N d W) (T:TypeId):Cn w0 g o N d W.heap.size (W.alloc (.cells #[.int .i64 0] T)) :=
 ⟨⟨h.size,h.sw.alloc _⟩,⟨0,by simp⟩,by simp,h.sw.le,by simp⟩
end Q
set_option maxHeartbeats 3200000 in
theorem ord2_any (w0 w:World) (g o N cap a b c:Nat) (d:Array UInt16) (R:Rw w0 g o N) (C:Cn w0 g o N d c w) (ha:a<N) (hb:b<N) :
 Calls Tryz.prog 215 #[.slice (some ⟨g,o,none⟩) N cap,.int .i64 a,.int .i64 b,.pointer (some ⟨c,0,none⟩)] w fun e w' => ∃ x y:Nat,e = .returned (.tuple #[.int .i64 x,.int .i64 y])/\((x=a/\y=b)\/(x=b/\y=a))/\Cn w0 g o N d c w':=by
 have hsm:=R.small
 obtain⟨G,HG,hc,hf⟩:=C.st.look R
 obtain⟨z,hz⟩:=C.cell
 have hfz:=C.frozen
 have HS:Hid _:=C
 clear C
 go_enter Tryz.func215,Tryz.ntmps215
 go_wp2
 go_quiet (first | (go_at_call 169;refine Calls.quiet_of_same (less_any _ _ _)))
 go_wp2
 ·go_ret2
  exact⟨b,a,rfl,Or.inr ⟨rfl,rfl⟩,(HS.out.drewN _).bump _⟩
 ·go_ret2
  exact⟨a,b,rfl,Or.inl ⟨rfl,rfl⟩,HS.out.drewN _⟩
set_option maxHeartbeats 3200000 in
theorem med_any (w0 w:World) (g o N cap a b k c:Nat) (d:Array UInt16) (R:Rw w0 g o N) (C:Cn w0 g o N d c w) (ha:a<N) (hb:b<N) (hk:k<N) :
 Calls Tryz.prog 200 #[.slice (some ⟨g,o,none⟩) N cap,.int .i64 a,.int .i64 b,.int .i64 k,.pointer (some ⟨c,0,none⟩)] w fun e w' => ∃ x:Nat,e = .returned (.int .i64 x)/\(x=a\/x=b\/x=k)/\Cn w0 g o N d c w':=by
 go_enter Tryz.func200,Tryz.ntmps200
 go_wp2_with fail
 go_at_call 215
 refine (ord2_any w0 _ g o N cap a b c d R C ha hb).mono ?_
 rintro e w1 ⟨x1,y1,rfl,h1,C1⟩
 have hx1:x1<N:=by omega
 have hy1:y1<N:=by omega
 go_wp2_with fail
 go_at_call 215
 refine (ord2_any w0 _ g o N cap y1 k c d R C1 hy1 hk).mono ?_
 rintro e w2 ⟨x2,y2,rfl,h2,C2⟩
 have hx2:x2<N:=by omega
 go_wp2_with fail
 go_at_call 215
 refine (ord2_any w0 _ g o N cap x1 x2 c d R C2 hx1 hx2).mono ?_
 rintro e w3 ⟨x3,y3,rfl,h3,C3⟩
 have HH:Hid (y3=a\/y3=b\/y3=k):=by show y3=a\/y3=b\/y3=k;omega
 clear h1 h2 h3
 go_wp2_with fail
 go_ret
 exact⟨y3,rfl,HH.out,C3⟩
set_option maxHeartbeats 3200000 in
theorem medadj_any (w0 w:World) (g o N cap a c:Nat) (d:Array UInt16) (R:Rw w0 g o N) (C:Cn w0 g o N d c w) (ha:0<a) (hb:a+1<N) :
 Calls Tryz.prog 199 #[.slice (some ⟨g,o,none⟩) N cap,.int .i64 a,.pointer (some ⟨c,0,none⟩)] w fun e w' => ∃ x:Nat,e = .returned (.int .i64 x)/\a - 1<=x/\x<=a+1/\Cn w0 g o N d c w':=by
 have hsm:=R.small
 go_enter Tryz.func199,Tryz.ntmps199
 go_wp2_with fail
 go_at_call 200
 rw[show (a:Int) - 1=((a - 1:Nat):Int) by omega,show (a:Int)+1=((a+1:Nat):Int) by omega]
 refine (med_any w0 _ g o N cap (a - 1) a (a+1) c d R C (by omega) (by omega) (by omega)).mono ?_
 rintro e w1 ⟨x1,rfl,h1,C1⟩
 have HH:Hid (a - 1<=x1/\x1<=a+1):=by show a - 1<=x1/\x1<=a+1;omega
 clear h1
 go_wp2_with fail
 go_ret
 exact⟨x1,rfl,HH.out.1,HH.out.2,C1⟩
set_option maxHeartbeats 6400000 in
theorem piv_any (w0 w:World) (g o N cap a b:Nat) (d:Array UInt16) (R:Rw w0 g o N) (h:St w0 g o N d w) (hab:a+12<b) (hb:b<=N) :
 Calls Tryz.prog 166 #[.slice (some ⟨g,o,none⟩) N cap,.int .i64 a,.int .i64 b] w fun e w' => ∃ (x:Nat) (z:Int),e = .returned (.tuple #[.int .i64 x,.int .i64 z])/\a<=x/\x<b/\St w0 g o N d w':=by
 have hsm:=R.small
 obtain⟨L,hL⟩ : ∃ L:Nat,b - a=L:=⟨_,rfl⟩
 obtain⟨q,hq⟩ : ∃ q:Nat,L / 4=q:=⟨_,rfl⟩
 have e0:(b:Int) - (a:Int)=(L:Int):=by omega
 have e1:(L:Int) / 4=(q:Int):=by omega
 have e2:Int.tdiv (L:Int) 4=(q:Int):=by rw[Int.tdiv_eq_ediv_of_nonneg (by omega)];exact e1
 have h8:(8:Int)<=(L:Int):=by omega
 have HL:Hid (L=b - a/\q=L / 4):=⟨hL.symm,hq.symm⟩
 have b1:a+q*3+1<b/\3<=q:=by omega
 obtain⟨b1,b2⟩:=b1
 have hLN:L<=N:=by omega
 clear hL hq
 obtain⟨i,hi⟩ : ∃ i:Nat,a+q=i:=⟨_,rfl⟩
 obtain⟨j,hj⟩ : ∃ i:Nat,a+q*2=i:=⟨_,rfl⟩
 obtain⟨k,hk⟩ : ∃ i:Nat,a+q*3=i:=⟨_,rfl⟩
 have ei:(a:Int)+(q:Int)=(i:Int):=by omega
 have ej:(a:Int)+(q:Int)*2=(j:Int):=by omega
 have ek:(a:Int)+(q:Int)*3=(k:Int):=by omega
 have hB:Hid (a+1<=i/\i+2<=j/\j+2<=k/\k+1<b):=by show a+1<=i/\i+2<=j/\j+2<=k/\k+1<b;omega
 clear hi hj hk
 have C:=Cn.start h 3
 go_enter Tryz.func166,Tryz.ntmps166
 by_cases h50:50<=L
 ·have e50:(50:Int)<=(L:Int):=by omega
  go_wp2_with fail
  refine (medadj_any w0 _ g o N cap i _ d R C (by have:=hB.out;omega) (by have:=hB.out;omega)).mono ?_
  rintro e w1 ⟨x1,rfl,h1,h1',C1⟩
  generalize w.heap.size=c at C1
  go_wp2_with fail
  refine (medadj_any w0 _ g o N cap j _ d R C1 (by have:=hB.out;omega) (by have:=hB.out;omega)).mono ?_
  rintro e w2 ⟨x2,rfl,h2,h2',C2⟩
  go_wp2_with fail
  refine (medadj_any w0 _ g o N cap k _ d R C2 (by have:=hB.out;omega) (by have:=hB.out;omega)).mono ?_
  rintro e w3 ⟨x3,rfl,h3,h3',C3⟩
  go_wp2_with fail
  refine (med_any w0 _ g o N cap x1 x2 x3 _ d R C3 (by have:=hB.out;omega) (by have:=hB.out;omega) (by have:=hB.out;omega)).mono ?_
  rintro e w4 ⟨x,rfl,hx,C4⟩
  have HX:Hid (a<=x/\x<b):=by have:=hB.out;show a<=x/\x<b;omega
  clear hx C C1 C2 C3 h
  obtain⟨z,hz⟩:=C4.cell
  go_wp2
  all_goals
   go_ret2
   exact⟨x,_,rfl,HX.out.1,HX.out.2,C4.st⟩
 ·have e50 : ¬ (50:Int)<=(L:Int):=by omega
  go_wp2_with fail
  refine (med_any w0 _ g o N cap i j k _ d R C (by have:=hB.out;omega) (by have:=hB.out;omega) (by have:=hB.out;omega)).mono ?_
  rintro e w4 ⟨x,rfl,hx,C4⟩
  have HX:Hid (a<=x/\x<b):=by have:=hB.out;show a<=x/\x<b;omega
  clear hx C h
  obtain⟨z,hz⟩:=C4.cell
  go_wp2
  all_goals
   go_ret2
   exact⟨x,_,rfl,HX.out.1,HX.out.2,C4.st⟩
open Go.RowKit Go.Sort Q
namespace Q
structure Cx (w0:World) (g o N:Nat) (d:Array UInt16) (c:Nat) (W:World):Prop where
 st:St w0 g o N d W
 cell : ∃ X:Nat,X<18446744073709551616/\W.cell? ⟨c,0,none⟩=some (.int .u64 (X:Int))
 frozen:W.frozen? ⟨c,0,none⟩=false
 new:w0.heap.size<=c
 lt:c<W.heap.size
theorem Cx.drewN {w0 W:World} {g o N c:Nat} {d:Array UInt16} (h:Cx w0 g o N d c W) (q:Nat):Cx w0 g o N d c (W.drewN q):=⟨h.st.drewN q,h.cell,h.frozen,h.new,h.lt⟩
theorem Cx.put {w0 W:World} {g o N c:Nat} {d:Array UInt16} (h:Cx w0 g o N d c W) (X:Nat) (hX:X<18446744073709551616):Cx w0 g o N d c (W.setCell ⟨c,0,none⟩ (.int .u64 (X:Int))):=by
 obtain⟨z0,_,hz⟩:=h.cell
 exact⟨⟨h.st.size,h.st.sw.setCell_new c 0 _ h.new⟩,⟨X,hX,World.cell?_setCell_same _ _ _ hz⟩,by rw[World.frozen?_setCell];exact h.frozen,h.new,by simpa using h.lt⟩
end Q
set_option maxHeartbeats 3200000 in
theorem xnext_any (w0 w:World) (g o N c:Nat) (d:Array UInt16) (C:Cx w0 g o N d c w) :
 Calls Tryz.prog 198 #[.pointer (some ⟨c,0,none⟩)] w fun e w' => ∃ X:Nat,X<18446744073709551616/\e = .returned (.int .u64 (X:Int))/\Cx w0 g o N d c w':=by
 obtain⟨X,hX,hc⟩:=C.cell
 have hf:=C.frozen
 obtain⟨A,hA⟩ : ∃ A:Nat,A=X ^^^ (X*8192 % 18446744073709551616):=⟨_,rfl⟩
 obtain⟨B,hB⟩ : ∃ B:Nat,B=A ^^^ (A / 128):=⟨_,rfl⟩
 obtain⟨D,hD⟩ : ∃ D:Nat,D=B ^^^ (B*131072 % 18446744073709551616):=⟨_,rfl⟩
 have lA:A<18446744073709551616:=by rw[hA];exact Nat.xor_lt_two_pow (n:=64) (by omega) (by omega)
 have lB:B<18446744073709551616:=by rw[hB];exact Nat.xor_lt_two_pow (n:=64) (by omega) (by omega)
 have lD:D<18446744073709551616:=by rw[hD];exact Nat.xor_lt_two_pow (n:=64) (by omega) (by omega)
 have e1:bits .xor .u64 (X:Int) (IntKind.u64.wrap ((X:Int)*8192))=(A:Int):=by
  rw[IntKind.wrap_u64,show (X:Int)*8192 % 18446744073709551616=((X*8192 % 18446744073709551616:Nat):Int) by omega,bits_xor_u64_nat _ _ hX (by omega),hA]
 have e2:bits .xor .u64 (A:Int) ((A:Int) / 128)=(B:Int):=by
  rw[show (A:Int) / 128=((A / 128:Nat):Int) by omega,bits_xor_u64_nat _ _ lA (by omega),hB]
 have e3:bits .xor .u64 (B:Int) (IntKind.u64.wrap ((B:Int)*131072))=(D:Int):=by
  rw[IntKind.wrap_u64,show (B:Int)*131072 % 18446744073709551616=((B*131072 % 18446744073709551616:Nat):Int) by omega,bits_xor_u64_nat _ _ lB (by omega),hD]
 clear hA hB hD
 have HC:Hid _:=C
 clear C
 go_enter Tryz.func198,Tryz.ntmps198
 go_wp2
 go_region
 have hf2:((w.setCell ⟨c,0,none⟩ (.int .u64 (A:Int))).drew).frozen? ⟨c,0,none⟩=false:=((HC.out.put A lA).drewN 1).frozen
 have hc2:((w.setCell ⟨c,0,none⟩ (.int .u64 (A:Int))).drew).cell? ⟨c,0,none⟩=some (.int .u64 (A:Int)):=World.cell?_setCell_same _ _ _ hc
 have HC2:Hid (Cx w0 g o N d c (w.setCell ⟨c,0,none⟩ (.int .u64 (A:Int))).drew):=(HC.out.put A lA).drewN 1
 clear HC hf hc
 have HC:=HC2
 have hf:=hf2
 have hc:=hc2
 clear HC2 hf2 hc2
 generalize (w.setCell ⟨c,0,none⟩ (.int .u64 (A:Int))).drew=w1 at HC hf hc ⊢
 go_wp2
 go_region
 have hf2:((w1.setCell ⟨c,0,none⟩ (.int .u64 (B:Int))).drew).frozen? ⟨c,0,none⟩=false:=((HC.out.put B lB).drewN 1).frozen
 have hc2:((w1.setCell ⟨c,0,none⟩ (.int .u64 (B:Int))).drew).cell? ⟨c,0,none⟩=some (.int .u64 (B:Int)):=World.cell?_setCell_same _ _ _ hc
 have HC2:Hid (Cx w0 g o N d c (w1.setCell ⟨c,0,none⟩ (.int .u64 (B:Int))).drew):=(HC.out.put B lB).drewN 1
 clear HC hf hc
 have HC:=HC2
 have hf:=hf2
 have hc:=hc2
 clear HC2 hf2 hc2
 generalize (w1.setCell ⟨c,0,none⟩ (.int .u64 (B:Int))).drew=w2 at HC hf hc ⊢
 go_wp2
 go_region
 have hf2:((w2.setCell ⟨c,0,none⟩ (.int .u64 (D:Int))).drew).frozen? ⟨c,0,none⟩=false:=((HC.out.put D lD).drewN 1).frozen
 have hc2:((w2.setCell ⟨c,0,none⟩ (.int .u64 (D:Int))).drew).cell? ⟨c,0,none⟩=some (.int .u64 (D:Int)):=World.cell?_setCell_same _ _ _ hc
 have HC2:Hid (Cx w0 g o N d c (w2.setCell ⟨c,0,none⟩ (.int .u64 (D:Int))).drew):=(HC.out.put D lD).drewN 1
 clear HC hf hc
 have HC:=HC2
 have hf:=hf2
 have hc:=hc2
 clear HC2 hf2 hc2
 generalize (w2.setCell ⟨c,0,none⟩ (.int .u64 (D:Int))).drew=w3 at HC hf hc ⊢
 go_wp2
 go_ret
 exact⟨D,lD,rfl,HC.out⟩
theorem npow_any (n:Nat) (hn:0<n) (hn2:n<4611686018427387904) (w:World) :
 Calls Tryz.prog 197 #[.int .i64 n] w fun e w' => ∃ M:Nat,0<M/\M<=2*n/\e = .returned (.int .u64 (M:Int))/\w'=w:=by
 obtain⟨b1,b2,b3⟩:=Lib.bitLenAux_bounds 64 n (by omega) (by omega)
 have hk:Lib.bitLen n<=62:=Lib.bitLen_le n 62 (by omega) (by omega)
 have hp:=wrap_two_pow (Lib.bitLen n) hk
 have hle:1 <<< Lib.bitLen n<=2*n:=by
  rw[Nat.one_shiftLeft]
  have:2 ^ Lib.bitLen n=2*2 ^ (Lib.bitLen n - 1):=by
   rw[<- Nat.pow_succ'];congr 1;unfold Lib.bitLen;omega
  unfold Lib.bitLen at *; omega
 have h0:0<1 <<< Lib.bitLen n:=by rw[Nat.one_shiftLeft];exact Nat.pow_pos (by omega)
 generalize 1 <<< Lib.bitLen n=M at hp hle h0
 have c0:=Tryz.bits_Len (n:Int) w (by omega) (by omega)
 rw[Int.toNat_natCast] at c0
 clear b1 b2 b3
 generalize Lib.bitLen n=k at *
 go_enter Tryz.func197,Tryz.ntmps197
 go_wp2_with (go_at_call 134;refine c0.mono ?_;rintro e w' ⟨rfl,rfl⟩)
 go_ret
 exact⟨M,h0,hle,rfl,rfl⟩
namespace Q
theorem Cx.start {w0 W:World} {g o N:Nat} {d:Array UInt16} (h:St w0 g o N d W) (T:TypeId) (X:Nat) (hX:X<18446744073709551616):Cx w0 g o N d W.heap.size (W.alloc (.cells #[.int .u64 (X:Int)] T)) :=
 ⟨⟨h.size,h.sw.alloc _⟩,⟨X,hX,by simp⟩,by simp,h.sw.le,by simp⟩
theorem Cx.swap {w0 W:World} {g o N c:Nat} {d:Array UInt16} (h:Cx w0 g o N d c W) (R:Rw w0 g o N) {G:Nat->UInt16} (hG : ∀ t,d[t]! = G t) (q i j:Nat) (hi:i<N) (hj:j<N) :
 Cx w0 g o N (swp d i j) c (((W.drewN q).setCell ⟨g,o+i,none⟩ (.int .u16 ((G j).toNat:Int))).setCell ⟨g,o+j,none⟩ (.int .u16 ((G i).toNat:Int))):=by
 have hne:c≠g:=by
  obtain⟨⟨d0,_,R1⟩,_⟩:=R
  have:=R1.hblk;have:=h.new;omega
 obtain⟨X,hX,hc⟩:=h.cell
 refine⟨h.st.swap R hG q i j hi hj,⟨X,hX,?_⟩,?_,h.new,by simpa using h.lt⟩
 ·rw[World.cell?_setCell_other _ _ _ _ (by intro e;simp only[Addr.mk.injEq] at e;exact hne e.1.symm),World.cell?_setCell_other _ _ _ _ (by intro e;simp only[Addr.mk.injEq] at e;exact hne e.1.symm)];exact hc
 ·rw[World.frozen?_setCell,World.frozen?_setCell];exact h.frozen
end Q
set_option maxHeartbeats 6400000 in
theorem brk_any (w0 w:World) (g o N cap a b:Nat) (d:Array UInt16) (R:Rw w0 g o N) (h:St w0 g o N d w) (hab:a+12<b) (hb:b<=N) :
 Calls Tryz.prog 165 #[.slice (some ⟨g,o,none⟩) N cap,.int .i64 a,.int .i64 b] w fun e w'=>e = .returned (.tuple #[]) /\ ∃ d',PermIn a b d d'/\St w0 g o N d' w':=by
 have hsm:=R.small
 obtain⟨L,hL⟩ : ∃ L:Nat,b - a=L:=⟨_,rfl⟩
 obtain⟨q,hq⟩ : ∃ q:Nat,L / 4=q:=⟨_,rfl⟩
 have e0:(b:Int) - (a:Int)=(L:Int):=by omega
 have e1:(L:Int) / 4=(q:Int):=by omega
 have e2:Int.tdiv (L:Int) 4=(q:Int):=by rw[Int.tdiv_eq_ediv_of_nonneg (by omega)];exact e1
 have h8:(8:Int)<=(L:Int):=by omega
 obtain⟨j,hj⟩ : ∃ i:Nat,a+q*2=i:=⟨_,rfl⟩
 have ej:(a:Int)+(q:Int)*2=(j:Int):=by omega
 have hB:Hid (a+1<=j/\j+1<b/\a+L=b/\b<=N):=by show a+1<=j/\j+1<b/\a+L=b/\b<=N;omega
 have hL1:L<4611686018427387904:=by omega
 have hL0:0<L:=by omega
 have hq1:q<4611686018427387904:=by omega
 have hj1:j<4611686018427387904:=by omega
 have hj0:1<=j:=by omega
 clear hL hq hj
 have C:=Cx.start h 246 L (by omega)
 go_enter Tryz.func165,Tryz.ntmps165
 go_wp2_with fail
 refine (npow_any L hL0 hL1 _).mono ?_
 rintro e w1 ⟨M,hM0,hM1,rfl,rfl⟩
 generalize w.heap.size=c at C ⊢
 generalize w.alloc (.cells #[.int .u64 (L:Int)] 246)=w1 at C ⊢
 clear h
 go_wp2
 go_loopw [9] (fun v W => ∃ (i:Nat) (dk:Array UInt16),v = .int .i64 (i:Int)/\j<=i+1/\i<=j+2/\Cx w0 g o N dk c W/\PermIn a b d dk) (fun v _=>j+2 - (intOf v).toNat)
 case atStart=>exact⟨j - 1,d,by congr 1;omega,by omega,by omega,C,permIn_refl _ _ _⟩
 case round =>
  clear C
  obtain⟨i,dk,rfl,hi1,hi2,C,hP⟩:=hrel
  have HP:Hid _:=hP
  clear hP
  have hi3:i<4611686018427387904:=by omega
  by_cases hlt:i<=j+1
  ·have elt:(i:Int)<=(j:Int)+1:=by omega
   go_wp2_with fail
   refine (xnext_any w0 _ g o N c dk C).mono ?_
   rintro e w2 ⟨X,hX,rfl,C2⟩
   clear C
   obtain⟨r,hr⟩ : ∃ r:Nat,X &&& (M - 1)=r:=⟨_,rfl⟩
   have hr1:r<=M - 1:=by rw[<- hr];exact Nat.and_le_right
   have ea:bits .and .u64 (X:Int) ((M:Int) - 1)=(r:Int):=by
    rw[show (M:Int) - 1=((M - 1:Nat):Int) by omega,bits_and_u64_nat _ _ hX (by omega),hr]
   clear hr
   obtain⟨G,HG,hc,hf⟩:=C2.st.look R
   have HC:Hid _:=C2
   clear C2
   by_cases hrl:L<=r
   ·have erl:(L:Int)<=(r:Int):=by omega
    obtain⟨k,hk⟩ : ∃ k:Nat,r - L=k:=⟨_,rfl⟩
    have ek:(r:Int) - (L:Int)=(k:Int):=by omega
    have hkL:a+k<b/\b<=N:=by have:=hB.out;omega
    have hiN:i<N/\a<=i/\i<b:=by have:=hB.out;omega
    obtain⟨hkb,hbN⟩:=hkL
    obtain⟨hiN,hia,hib⟩:=hiN
    have hkN:a+k<N:=by omega
    obtain⟨x0,hx0⟩:=two hc i (a+k) hiN hkN (.int .u16 ((G (a+k)).toNat:Int))
    clear hk
    go_wp2
    go_region
    all_goals go_wp2
    go_roundw
    case rel=>exact⟨i+1,swp dk i (a+k),by go_num,by omega,by omega,HC.out.swap R HG.out _ i (a+k) hiN hkN,permIn_trans _ _ _ _ _ HP.out (swp_permIn _ _ _ _ _ hia hib (by omega) hkb (by rw[HC.out.st.size];exact hbN))⟩
    case measure=>simp[intOf];omega
   ·have erl : ¬ (L:Int)<=(r:Int):=by omega
    have hkL:a+r<b/\b<=N:=by have:=hB.out;omega
    have hiN:i<N/\a<=i/\i<b:=by have:=hB.out;omega
    obtain⟨hkb,hbN⟩:=hkL
    obtain⟨hiN,hia,hib⟩:=hiN
    have hkN:a+r<N:=by omega
    obtain⟨x0,hx0⟩:=two hc i (a+r) hiN hkN (.int .u16 ((G (a+r)).toNat:Int))
    go_wp2
    go_region
    all_goals go_wp2
    go_roundw
    case rel=>exact⟨i+1,swp dk i (a+r),by go_num,by omega,by omega,HC.out.swap R HG.out _ i (a+r) hiN hkN,permIn_trans _ _ _ _ _ HP.out (swp_permIn _ _ _ _ _ hia hib (by omega) hkb (by rw[HC.out.st.size];exact hbN))⟩
    case measure=>simp[intOf];omega
  ·have elt : ¬ (i:Int)<=(j:Int)+1:=by omega
   go_wp2
   go_end0
   exact⟨rfl,dk,HP.out,C.st⟩
end Go.Proofs.YtmbcegljmhcdeaaGreat
namespace Go.Proofs.YtmbcegljmhcdeaaGreat
set_option maxRecDepth 5000
open Go.RowKit Go.Sort Q
set_option maxRecDepth 100000 in
set_option maxHeartbeats 12800000 in
theorem pins_any (w0 w:World) (g o N cap a b:Nat) (d:Array UInt16) (R:Rw w0 g o N) (h:St w0 g o N d w) (hab:a<b) (hb:b<=N) :
 Calls Tryz.prog 168 #[.slice (some ⟨g,o,none⟩) N cap,.int .i64 a,.int .i64 b] w fun e w'=>e = .returned (.bool (partialInsertionSort lt d a b).2)/\St w0 g o N (partialInsertionSort lt d a b).1 w':=by
 have hsm:=R.small
 go_enter Tryz.func168,Tryz.ntmps168
 go_wp2
 go_loopw [7,8] (fun v u W => ∃ (i s:Nat) (dk:Array UInt16),v = .int .i64 (i:Int)/\u = .int .i64 (s:Int)/\a<i/\i<=b/\s<=5/\St w0 g o N dk W/\partialIns lt a b (5 - s) i dk=partialInsertionSort lt d a b) (fun _ u _=>5 - (intOf u).toNat)
 case atStart=>exact⟨a+1,0,d,by go_num,rfl,by omega,by omega,by omega,h,rfl⟩
 case round =>
  clear h
  obtain⟨i0,s,dk,rfl,rfl,hai0,hib0,hs,hS,hO⟩:=hrel
  have HO:Hid _:=hO
  clear hO
  by_cases hs5:s<5
  ·go_wp2
   go_loopw [7] (fun v W => ∃ i:Nat,v = .int .i64 (i:Int)/\i0<=i/\i<=b/\St w0 g o N dk W/\scanSorted lt dk b i0=scanSorted lt dk b i) (fun v _=>b - (intOf v).toNat)
   case atStart=>exact⟨i0,rfl,Nat.le_refl _,hib0,hS,rfl⟩
   case round =>
    clear hS
    obtain⟨i,rfl,hi1,hi2,hS,hK⟩:=hrel
    obtain⟨G,HG,hc,hf⟩:=hS.look R
    have HS:Hid _:=hS
    have HKK:Hid _:=hK
    clear hS hK
    go_wp2
    by_cases hib:i<b
    ·have hne:((i:Int) == (b:Int))=false:=by simp;omega
     go_quiet (first | (go_at_call 169;refine Calls.quiet_of_same (less_any _ _ _)))
     go_wp2
     ·have hl:lt (G i) (G (i - 1))=false:=by
       have:(!lt (G i) (G (i - 1)))=true:=by assumption
       simpa using this
      go_roundw
      case rel=>exact⟨i+1,by go_num,by omega,by omega,HS.out.drewN _,by rw[HKK.out,scanSorted_go lt dk b i hib (by rw[HG.out,HG.out];exact hl)]⟩
      case measure=>simp[intOf];omega
     ·have hl:lt (G i) (G (i - 1))=true:=by
       have:(!lt (G i) (G (i - 1)))=false:=by assumption
       simpa using this
      have e50:(b:Int) - (a:Int)<50:=by assumption
      have h50:b - a<50:=by omega
      have HK:Hid (scanSorted lt dk b i0=i):=by show scanSorted lt dk b i0=i;rw[HKK.out,scanSorted_stop lt dk b i (Or.inr (by rw[HG.out,HG.out];exact hl))]
      go_ret
      have e:=pi_short lt a b s i0 dk hs5 (by rw[HK.out];omega) h50
      rw[HO.out] at e
      rw[e];exact⟨rfl,HS.out.drewN _⟩
     ·have hl:lt (G i) (G (i - 1))=true:=by
       have:(!lt (G i) (G (i - 1)))=false:=by assumption
       simpa using this
      have e50:50<=(b:Int) - (a:Int):=by assumption
      have h50 : ¬ b - a<50:=by omega
      have HK:Hid (scanSorted lt dk b i0=i):=by show scanSorted lt dk b i0=i;rw[HKK.out,scanSorted_stop lt dk b i (Or.inr (by rw[HG.out,HG.out];exact hl))]
      clear HKK hl e50 hne
      replace HS:Hid (St w0 g o N dk (wr.drewN nq)):=HS.out.drewN nq
      replace hc : ∀ t,t<N->(wr.drewN nq).cell? ⟨g,o+t,none⟩=some (.int .u16 ((G t).toNat:Int)):=hc
      replace hf : ∀ t,t<N->(wr.drewN nq).frozen? ⟨g,o+t,none⟩=false:=hf
      generalize wr.drewN nq=wr2 at HS hc hf ⊢
      clear nq
      go_region
      have HS1:Hid (St w0 g o N (swp dk i (i - 1)) ((wr2.setCell ⟨g,o+i,none⟩ (.int .u16 ((G (i - 1)).toNat:Int))).setCell ⟨g,o+(i - 1),none⟩ (.int .u16 ((G i).toNat:Int))).drew):=HS.out.swap R HG.out 1 i (i - 1) (by omega) (by omega)
      clear HS hc hf
      have HS:=HS1
      clear HS1
      generalize ((wr2.setCell ⟨g,o+i,none⟩ (.int .u16 ((G (i - 1)).toNat:Int))).setCell ⟨g,o+(i - 1),none⟩ (.int .u16 ((G i).toNat:Int))).drew=wr3 at HS ⊢
      clear HG
      obtain⟨d1,hd1⟩ : ∃ d1,swp dk i (i - 1)=d1:=⟨_,rfl⟩
      rw[hd1] at HS
      have HD1:Hid _:=hd1
      clear hd1
      have eKK:Hid (∀ dy:Array UInt16,fixUp lt b i (fixDown lt a i d1)=dy->partialIns lt a b (5 - (s+1)) i dy=partialInsertionSort lt d a b):=fun dy hdy=>by rw[<- HO.out,pi_go lt a b s i0 i dk hs5 HK.out (by omega) h50,HD1.out,hdy]
      clear HO HK HD1 h50
      obtain⟨G1,HG,hc,hf⟩:=HS.out.look R
      have hai:a<i:=by omega
      by_cases h2:2<=i - a
      ·have e2:(2:Int)<=(i:Int) - (a:Int):=by omega
       go_wp2
       go_loopw [9] (fun v W => ∃ (j:Nat) (dj:Array UInt16),v = .int .i64 (j:Int)/\j<i/\St w0 g o N dj W/\shiftDown lt j dj=fixDown lt a i d1) (fun v _=>(intOf v).toNat)
       case atStart=>exact⟨i - 1,d1,by congr 1;omega,by omega,HS.out,by rw[fixDown,if_pos h2]⟩
       case round =>
        clear HS hc hf HG
        obtain⟨j,dj,rfl,hj1,hS,hDD⟩:=hrel
        have HS:Hid _:=hS
        have HDD:Hid _:=hDD
        clear hDD
        obtain⟨G,HG,hc,hf⟩:=hS.look R
        clear hS
        by_cases hj0:1<=j
        ·have ej0:(1:Int)<=(j:Int):=by omega
         go_wp2
         by_cases hl:lt (G j) (G (j - 1))=true
         ·go_quiet (first | (go_at_call 169;refine Calls.quiet_of_same (less_any _ _ _)))
          replace HS:Hid (St w0 g o N dj (wr.drewN nq)):=HS.out.drewN nq
          replace hc : ∀ t,t<N->(wr.drewN nq).cell? ⟨g,o+t,none⟩=some (.int .u16 ((G t).toNat:Int)):=hc
          replace hf : ∀ t,t<N->(wr.drewN nq).frozen? ⟨g,o+t,none⟩=false:=hf
          generalize wr.drewN nq=wr4 at HS hc hf ⊢
          clear nq
          go_wp2
          go_region
          all_goals go_wp2
          go_roundw
          case rel=>exact⟨j - 1,swp dj j (j - 1),by congr 1;omega,by omega,HS.out.swap R HG.out _ j (j - 1) (by omega) (by omega),by rw[<- HDD.out,shiftDown_go lt j dj hj0 (by rw[HG.out,HG.out];exact hl)]⟩
          case measure=>simp[intOf];omega
         ·have hl:lt (G j) (G (j - 1))=false:=by simpa using hl
          have HD:Hid (fixDown lt a i d1=dj):=by show fixDown lt a i d1=dj;rw[<- HDD.out,shiftDown_stop lt j dj (Or.inr (by rw[HG.out,HG.out];exact hl))]
          go_quiet (first | (go_at_call 169;refine Calls.quiet_of_same (less_any _ _ _)))
          replace HS:Hid (St w0 g o N dj (wr.drewN nq)):=HS.out.drewN nq
          replace hc : ∀ t,t<N->(wr.drewN nq).cell? ⟨g,o+t,none⟩=some (.int .u16 ((G t).toNat:Int)):=hc
          replace hf : ∀ t,t<N->(wr.drewN nq).frozen? ⟨g,o+t,none⟩=false:=hf
          generalize wr.drewN nq=wr4 at HS hc hf ⊢
          clear nq
          clear hl HDD ej0 hj0
          clear hc hf HG
          obtain⟨G,HG,hc,hf⟩:=HS.out.look R
          by_cases hbi:2<=b - i
          ·have ebi:(2:Int)<=(b:Int) - (i:Int):=by omega
           go_wp2
           go_loopw [10] (fun v W => ∃ (j:Nat) (du:Array UInt16),v = .int .i64 (j:Int)/\i<j/\j<=b/\St w0 g o N du W/\shiftUp lt b j du=shiftUp lt b (i+1) dj) (fun v _=>b - (intOf v).toNat)
           case atStart=>exact⟨i+1,dj,by go_num,by omega,by omega,HS.out,rfl⟩
           case round =>
            clear HS hc hf HG
            obtain⟨j,du,rfl,hj1,hj2,hS,hU⟩:=hrel
            have HS:Hid _:=hS
            have HUU:Hid _:=hU
            clear hU
            obtain⟨G,HG,hc,hf⟩:=hS.look R
            clear hS
            by_cases hjb:j<b
            ·go_wp2
             go_quiet (first | (go_at_call 169;refine Calls.quiet_of_same (less_any _ _ _)))
             go_wp2
             ·have hl:lt (G j) (G (j - 1))=false:=by
               have:(!lt (G j) (G (j - 1)))=true:=by assumption
               simpa using this
              have HU:Hid (fixUp lt b i dj=du):=by show fixUp lt b i dj=du;rw[fixUp,if_pos hbi, <- HUU.out,shiftUp_stop lt b j du (Or.inr (by rw[HG.out,HG.out];exact hl))]
              go_roundw
              case rel=>exact⟨i,s+1,du,by go_num,by go_num,by omega,by omega,by omega,HS.out.drewN _,eKK.out _ (by rw[HD.out,HU.out])⟩
              case measure=>simp[intOf];omega
             ·have hl:lt (G j) (G (j - 1))=true:=by
               have:(!lt (G j) (G (j - 1)))=false:=by assumption
               simpa using this
              replace HS:Hid (St w0 g o N du (wr.drewN nq)):=HS.out.drewN nq
              replace hc : ∀ t,t<N->(wr.drewN nq).cell? ⟨g,o+t,none⟩=some (.int .u16 ((G t).toNat:Int)):=hc
              replace hf : ∀ t,t<N->(wr.drewN nq).frozen? ⟨g,o+t,none⟩=false:=hf
              generalize wr.drewN nq=wr2 at HS hc hf ⊢
              clear nq
              go_region
              all_goals go_wp2
              go_roundw
              case rel=>exact⟨j+1,swp du j (j - 1),by go_num,by omega,by omega,HS.out.swap R HG.out _ j (j - 1) (by omega) (by omega),by rw[<- HUU.out,shiftUp_go lt b j du hjb (by rw[HG.out,HG.out];exact hl)]⟩
              case measure=>simp[intOf];omega
            ·go_wp2
             have HU:Hid (fixUp lt b i dj=du):=by show fixUp lt b i dj=du;rw[fixUp,if_pos hbi, <- HUU.out,shiftUp_stop lt b j du (Or.inl hjb)]
             go_roundw
             case rel=>exact⟨i,s+1,du,by go_num,by go_num,by omega,by omega,by omega,HS.out,eKK.out _ (by rw[HD.out,HU.out])⟩
             case measure=>simp[intOf];omega
          ·have ebi : ¬ (2:Int)<=(b:Int) - (i:Int):=by omega
           go_wp2
           have HU:Hid (fixUp lt b i dj=dj):=by show fixUp lt b i dj=dj;rw[fixUp,if_neg hbi]
           go_roundw
           case rel=>exact⟨i,s+1,dj,by go_num,by go_num,by omega,by omega,by omega,HS.out,eKK.out _ (by rw[HD.out,HU.out])⟩
           case measure=>simp[intOf];omega
        ·have ej0 : ¬ (1:Int)<=(j:Int):=by omega
         have HD:Hid (fixDown lt a i d1=dj):=by show fixDown lt a i d1=dj;rw[<- HDD.out,shiftDown_stop lt j dj (Or.inl (by omega))]
         clear HDD hj0
         clear hc hf HG
         obtain⟨G,HG,hc,hf⟩:=HS.out.look R
         by_cases hbi:2<=b - i
         ·have ebi:(2:Int)<=(b:Int) - (i:Int):=by omega
          go_wp2
          go_loopw [10] (fun v W => ∃ (j:Nat) (du:Array UInt16),v = .int .i64 (j:Int)/\i<j/\j<=b/\St w0 g o N du W/\shiftUp lt b j du=shiftUp lt b (i+1) dj) (fun v _=>b - (intOf v).toNat)
          case atStart=>exact⟨i+1,dj,by go_num,by omega,by omega,HS.out,rfl⟩
          case round =>
           clear HS hc hf HG
           obtain⟨j,du,rfl,hj1,hj2,hS,hU⟩:=hrel
           have HS:Hid _:=hS
           have HUU:Hid _:=hU
           clear hU
           obtain⟨G,HG,hc,hf⟩:=hS.look R
           clear hS
           by_cases hjb:j<b
           ·go_wp2
            go_quiet (first | (go_at_call 169;refine Calls.quiet_of_same (less_any _ _ _)))
            go_wp2
            ·have hl:lt (G j) (G (j - 1))=false:=by
              have:(!lt (G j) (G (j - 1)))=true:=by assumption
              simpa using this
             have HU:Hid (fixUp lt b i dj=du):=by show fixUp lt b i dj=du;rw[fixUp,if_pos hbi, <- HUU.out,shiftUp_stop lt b j du (Or.inr (by rw[HG.out,HG.out];exact hl))]
             go_roundw
             case rel=>exact⟨i,s+1,du,by go_num,by go_num,by omega,by omega,by omega,HS.out.drewN _,eKK.out _ (by rw[HD.out,HU.out])⟩
             case measure=>simp[intOf];omega
            ·have hl:lt (G j) (G (j - 1))=true:=by
              have:(!lt (G j) (G (j - 1)))=false:=by assumption
              simpa using this
             replace HS:Hid (St w0 g o N du (wr.drewN nq)):=HS.out.drewN nq
             replace hc : ∀ t,t<N->(wr.drewN nq).cell? ⟨g,o+t,none⟩=some (.int .u16 ((G t).toNat:Int)):=hc
             replace hf : ∀ t,t<N->(wr.drewN nq).frozen? ⟨g,o+t,none⟩=false:=hf
             generalize wr.drewN nq=wr2 at HS hc hf ⊢
             clear nq
             go_region
             all_goals go_wp2
             go_roundw
             case rel=>exact⟨j+1,swp du j (j - 1),by go_num,by omega,by omega,HS.out.swap R HG.out _ j (j - 1) (by omega) (by omega),by rw[<- HUU.out,shiftUp_go lt b j du hjb (by rw[HG.out,HG.out];exact hl)]⟩
             case measure=>simp[intOf];omega
           ·go_wp2
            have HU:Hid (fixUp lt b i dj=du):=by show fixUp lt b i dj=du;rw[fixUp,if_pos hbi, <- HUU.out,shiftUp_stop lt b j du (Or.inl hjb)]
            go_roundw
            case rel=>exact⟨i,s+1,du,by go_num,by go_num,by omega,by omega,by omega,HS.out,eKK.out _ (by rw[HD.out,HU.out])⟩
            case measure=>simp[intOf];omega
         ·have ebi : ¬ (2:Int)<=(b:Int) - (i:Int):=by omega
          go_wp2
          have HU:Hid (fixUp lt b i dj=dj):=by show fixUp lt b i dj=dj;rw[fixUp,if_neg hbi]
          go_roundw
          case rel=>exact⟨i,s+1,dj,by go_num,by go_num,by omega,by omega,by omega,HS.out,eKK.out _ (by rw[HD.out,HU.out])⟩
          case measure=>simp[intOf];omega
      ·have e2 : ¬ (2:Int)<=(i:Int) - (a:Int):=by omega
       have HD:Hid (fixDown lt a i d1=d1):=by show fixDown lt a i d1=d1;rw[fixDown,if_neg h2]
       clear hc hf HG
       obtain⟨G,HG,hc,hf⟩:=HS.out.look R
       by_cases hbi:2<=b - i
       ·have ebi:(2:Int)<=(b:Int) - (i:Int):=by omega
        go_wp2
        go_loopw [10] (fun v W => ∃ (j:Nat) (du:Array UInt16),v = .int .i64 (j:Int)/\i<j/\j<=b/\St w0 g o N du W/\shiftUp lt b j du=shiftUp lt b (i+1) d1) (fun v _=>b - (intOf v).toNat)
        case atStart=>exact⟨i+1,d1,by go_num,by omega,by omega,HS.out,rfl⟩
        case round =>
         clear HS hc hf HG
         obtain⟨j,du,rfl,hj1,hj2,hS,hU⟩:=hrel
         have HS:Hid _:=hS
         have HUU:Hid _:=hU
         clear hU
         obtain⟨G,HG,hc,hf⟩:=hS.look R
         clear hS
         by_cases hjb:j<b
         ·go_wp2
          go_quiet (first | (go_at_call 169;refine Calls.quiet_of_same (less_any _ _ _)))
          go_wp2
          ·have hl:lt (G j) (G (j - 1))=false:=by
            have:(!lt (G j) (G (j - 1)))=true:=by assumption
            simpa using this
           have HU:Hid (fixUp lt b i d1=du):=by show fixUp lt b i d1=du;rw[fixUp,if_pos hbi, <- HUU.out,shiftUp_stop lt b j du (Or.inr (by rw[HG.out,HG.out];exact hl))]
           go_roundw
           case rel=>exact⟨i,s+1,du,by go_num,by go_num,by omega,by omega,by omega,HS.out.drewN _,eKK.out _ (by rw[HD.out,HU.out])⟩
           case measure=>simp[intOf];omega
          ·have hl:lt (G j) (G (j - 1))=true:=by
            have:(!lt (G j) (G (j - 1)))=false:=by assumption
            simpa using this
           replace HS:Hid (St w0 g o N du (wr.drewN nq)):=HS.out.drewN nq
           replace hc : ∀ t,t<N->(wr.drewN nq).cell? ⟨g,o+t,none⟩=some (.int .u16 ((G t).toNat:Int)):=hc
           replace hf : ∀ t,t<N->(wr.drewN nq).frozen? ⟨g,o+t,none⟩=false:=hf
           generalize wr.drewN nq=wr2 at HS hc hf ⊢
           clear nq
           go_region
           all_goals go_wp2
           go_roundw
           case rel=>exact⟨j+1,swp du j (j - 1),by go_num,by omega,by omega,HS.out.swap R HG.out _ j (j - 1) (by omega) (by omega),by rw[<- HUU.out,shiftUp_go lt b j du hjb (by rw[HG.out,HG.out];exact hl)]⟩
           case measure=>simp[intOf];omega
         ·go_wp2
          have HU:Hid (fixUp lt b i d1=du):=by show fixUp lt b i d1=du;rw[fixUp,if_pos hbi, <- HUU.out,shiftUp_stop lt b j du (Or.inl hjb)]
          go_roundw
          case rel=>exact⟨i,s+1,du,by go_num,by go_num,by omega,by omega,by omega,HS.out,eKK.out _ (by rw[HD.out,HU.out])⟩
          case measure=>simp[intOf];omega
       ·have ebi : ¬ (2:Int)<=(b:Int) - (i:Int):=by omega
        go_wp2
        have HU:Hid (fixUp lt b i d1=d1):=by show fixUp lt b i d1=d1;rw[fixUp,if_neg hbi]
        go_roundw
        case rel=>exact⟨i,s+1,d1,by go_num,by go_num,by omega,by omega,by omega,HS.out,eKK.out _ (by rw[HD.out,HU.out])⟩
        case measure=>simp[intOf];omega
    ·have eib:decide ((i:Int)<(b:Int))=false:=decide_eq_false (by omega)
     obtain rfl:i=b:=by omega
     go_quiet (first | (go_at_call 169;refine Calls.quiet_of_same (less_any _ _ _)))
     go_wp2
     go_ret
     have e:=pi_true lt a i s i0 dk hs5 (by rw[HKK.out,scanSorted_stop lt dk i i (Or.inl (by omega))])
     rw[HO.out] at e
     rw[e];exact⟨rfl,HS.out.drewN _⟩
  ·obtain rfl:s=5:=by omega
   go_wp2
   go_ret
   have e:=HO.out
   rw[pi_end] at e
   rw[<- e];exact⟨rfl,hS⟩
end Go.Proofs.YtmbcegljmhcdeaaGreat
namespace Go.Proofs.YtmbcegljmhcdeaaGreat
set_option maxRecDepth 5000
open Go.RowKit Go.Sort Q
set_option maxRecDepth 100000 in
set_option maxHeartbeats 12800000 in
theorem peq_any (w0 w:World) (g o N cap a b p:Nat) (d:Array UInt16) (R:Rw w0 g o N) (h:St w0 g o N d w) (hap:a<=p) (hpb:p<b) (hb:b<=N) :
 Calls Tryz.prog 170 #[.slice (some ⟨g,o,none⟩) N cap,.int .i64 a,.int .i64 b,.int .i64 p] w fun e w'=>e = .returned (.int .i64 ((partitionEqual lt d a b p).1:Int))/\St w0 g o N (partitionEqual lt d a b p).2 w':=by
 have hsm:=R.small
 obtain⟨G,HG,hc,hf⟩:=h.look R
 obtain⟨x0,hx0⟩:=two hc a p (by omega) (by omega) (.int .u16 ((G p).toNat:Int))
 have HS:Hid _:=h
 clear h
 have haN:a<N:=by omega
 have hpN:p<N:=by omega
 go_enter Tryz.func170,Tryz.ntmps170
 go_wp2
 go_region
 have HS1:Hid (St w0 g o N (swp d a p) ((w.setCell ⟨g,o+a,none⟩ (.int .u16 ((G p).toNat:Int))).setCell ⟨g,o+p,none⟩ (.int .u16 ((G a).toNat:Int))).drew):=HS.out.swap R HG.out 1 a p haN hpN
 clear HS hc hf hx0
 generalize ((w.setCell ⟨g,o+a,none⟩ (.int .u16 ((G p).toNat:Int))).setCell ⟨g,o+p,none⟩ (.int .u16 ((G a).toNat:Int))).drew=w1 at HS1 ⊢
 clear HG
 go_wp2
 go_loopw [9,10] (fun v u W => ∃ (i j:Nat) (dk:Array UInt16),v = .int .i64 (i:Int)/\u = .int .i64 (j:Int)/\a<i/\i<=j+1/\j<b/\St w0 g o N dk W/\partEqLoop lt a i j dk=partitionEqual lt d a b p) (fun v u _=>((intOf u)+1 - (intOf v)).toNat)
 case atStart=>exact⟨a+1,b - 1,swp d a p,by go_num,by congr 1;omega,by omega,by omega,by omega,HS1.out,rfl⟩
 case round =>
  clear HS1
  obtain⟨i,j,dk,rfl,rfl,hai,hij,hjb,hS,hO⟩:=hrel
  have HO:Hid _:=hO
  clear hO
  go_wp2
  go_loopw [9] (fun v W => ∃ k:Nat,v = .int .i64 (k:Int)/\i<=k/\k<=j+1/\St w0 g o N dk W/\scanUp (fun x => !lt dk[a]! x) dk j i=scanUp (fun x => !lt dk[a]! x) dk j k) (fun v _=>j+1 - (intOf v).toNat)
  case atStart=>exact⟨i,rfl,Nat.le_refl _,hij,hS,rfl⟩
  case round =>
   clear hS
   obtain⟨i2,rfl,hi1,hi2,hS,hI⟩:=hrel
   obtain⟨G,HG,hc,hf⟩:=hS.look R
   have HS:Hid _:=hS
   have HII:Hid _:=hI
   clear hS hI
   go_wp2
   by_cases hik:i2<=j
   ·by_cases hl:lt (G a) (G i2)=true
    ·have HI:Hid (i2=scanUp (fun x => !lt dk[a]! x) dk j i):=by show i2=_;rw[HII.out,scanUp_end (fun x => !lt dk[a]! x) dk j i2 (Or.inr (by rw[HG.out,HG.out,hl];rfl))]
     go_quiet (first | (go_at_call 169;refine Calls.quiet_of_same (less_any _ _ _)))
     replace HS:Hid (St w0 g o N dk (wr.drewN nq)):=HS.out.drewN nq
     replace hc : ∀ t,t<N->(wr.drewN nq).cell? ⟨g,o+t,none⟩=some (.int .u16 ((G t).toNat:Int)):=hc
     replace hf : ∀ t,t<N->(wr.drewN nq).frozen? ⟨g,o+t,none⟩=false:=hf
     generalize wr.drewN nq=wr2 at HS hc hf ⊢
     clear nq
     clear HII
     go_wp2
     go_loopw [10] (fun v W => ∃ k:Nat,v = .int .i64 (k:Int)/\i2<=k+1/\k<=j/\St w0 g o N dk W/\scanDown (fun x=>lt dk[a]! x) dk i2 j=scanDown (fun x=>lt dk[a]! x) dk i2 k) (fun v _=>(intOf v).toNat)
     case atStart=>exact⟨j,rfl,by omega,Nat.le_refl _,HS.out,rfl⟩
     case round =>
      clear HS hc hf
      obtain⟨k,rfl,hk1,hk2,hS,hJ⟩:=hrel
      have HS:Hid _:=hS
      have HJ:Hid _:=hJ
      clear hJ HG
      obtain⟨G,HG,hc,hf⟩:=hS.look R
      clear hS
      go_wp2
      by_cases hik:i2<=k
      ·have hk0:0<k:=by omega
       by_cases hl:lt (G a) (G k)=true
       ·go_quiet (first | (go_at_call 169;refine Calls.quiet_of_same (less_any _ _ _)))
        go_wp2
        go_roundw
        case rel=>exact⟨k - 1,by congr 1;omega,by omega,by omega,HS.out.drewN _,by rw[HJ.out,scanDown_go (fun x=>lt dk[a]! x) dk i2 k hik hk0 (by rw[HG.out,HG.out];exact hl)]⟩
        case measure=>simp[intOf];omega
       ·have hl':lt (G a) (G k)=false:=by simpa using hl
        clear hl
        have HJ2:Hid (k=scanDown (fun x=>lt dk[a]! x) dk i2 j):=by show k=_;rw[HJ.out,scanDown_end (fun x=>lt dk[a]! x) dk i2 k (Or.inr (by rw[HG.out,HG.out];exact hl'))]
        have hlt:i2<k:=scans_lt lt a i j dk (by omega) HI.out HJ2.out hik
        have elt : ¬ (k:Int)<(i2:Int):=by omega
        go_quiet (first | (go_at_call 169;refine Calls.quiet_of_same (less_any _ _ _)))
        replace HS:Hid (St w0 g o N dk (wr.drewN nq)):=HS.out.drewN nq
        replace hc : ∀ t,t<N->(wr.drewN nq).cell? ⟨g,o+t,none⟩=some (.int .u16 ((G t).toNat:Int)):=hc
        replace hf : ∀ t,t<N->(wr.drewN nq).frozen? ⟨g,o+t,none⟩=false:=hf
        generalize wr.drewN nq=wrk at HS hc hf ⊢
        clear nq
        go_wp2
        go_region
        all_goals go_wp2
        go_roundw
        case rel=>exact⟨i2+1,k - 1,swp dk i2 k,by go_num,by congr 1;omega,by omega,by omega,by omega,HS.out.swap R HG.out _ i2 k (by omega) (by omega),by rw[<- HO.out,partEq_go lt a i j dk HI.out HJ2.out (by omega)]⟩
        case measure=>simp[intOf];omega
      ·have eik:decide ((i2:Int)<=(k:Int))=false:=decide_eq_false (by omega)
       have HJ2:Hid (k=scanDown (fun x=>lt dk[a]! x) dk i2 j):=by show k=_;rw[HJ.out,scanDown_end (fun x=>lt dk[a]! x) dk i2 k (Or.inl hik)]
       have elt:(k:Int)<(i2:Int):=by omega
       go_quiet (first | (go_at_call 169;refine Calls.quiet_of_same (less_any _ _ _)))
       go_wp2
       go_ret
       have e:=HO.out
       rw[partEq_break lt a i j dk HI.out HJ2.out (by omega)] at e
       rw[<- e];exact⟨rfl,HS.out.drewN _⟩
    ·have hl':lt (G a) (G i2)=false:=by simpa using hl
     clear hl
     go_quiet (first | (go_at_call 169;refine Calls.quiet_of_same (less_any _ _ _)))
     go_wp2
     go_roundw
     case rel=>exact⟨i2+1,by go_num,by omega,by omega,HS.out.drewN _,by rw[HII.out,scanUp_go (fun x => !lt dk[a]! x) dk j i2 hik (by rw[HG.out,HG.out,hl'];rfl)]⟩
     case measure=>simp[intOf];omega
   ·have eik:decide ((i2:Int)<=(j:Int))=false:=decide_eq_false (by omega)
    have HI:Hid (i2=scanUp (fun x => !lt dk[a]! x) dk j i):=by show i2=_;rw[HII.out,scanUp_end (fun x => !lt dk[a]! x) dk j i2 (Or.inl hik)]
    go_quiet (first | (go_at_call 169;refine Calls.quiet_of_same (less_any _ _ _)))
    replace HS:Hid (St w0 g o N dk (wr.drewN nq)):=HS.out.drewN nq
    replace hc : ∀ t,t<N->(wr.drewN nq).cell? ⟨g,o+t,none⟩=some (.int .u16 ((G t).toNat:Int)):=hc
    replace hf : ∀ t,t<N->(wr.drewN nq).frozen? ⟨g,o+t,none⟩=false:=hf
    generalize wr.drewN nq=wr2 at HS hc hf ⊢
    clear nq
    clear HII eik
    go_wp2
    go_loopw [10] (fun v W => ∃ k:Nat,v = .int .i64 (k:Int)/\i2<=k+1/\k<=j/\St w0 g o N dk W/\scanDown (fun x=>lt dk[a]! x) dk i2 j=scanDown (fun x=>lt dk[a]! x) dk i2 k) (fun v _=>(intOf v).toNat)
    case atStart=>exact⟨j,rfl,by omega,Nat.le_refl _,HS.out,rfl⟩
    case round =>
     clear HS hc hf
     obtain⟨k,rfl,hk1,hk2,hS,hJ⟩:=hrel
     have HS:Hid _:=hS
     have HJ:Hid _:=hJ
     clear hJ HG
     obtain⟨G,HG,hc,hf⟩:=hS.look R
     clear hS
     go_wp2
     by_cases hik:i2<=k
     ·omega
     ·have eik:decide ((i2:Int)<=(k:Int))=false:=decide_eq_false (by omega)
      have HJ2:Hid (k=scanDown (fun x=>lt dk[a]! x) dk i2 j):=by show k=_;rw[HJ.out,scanDown_end (fun x=>lt dk[a]! x) dk i2 k (Or.inl hik)]
      have elt:(k:Int)<(i2:Int):=by omega
      go_quiet (first | (go_at_call 169;refine Calls.quiet_of_same (less_any _ _ _)))
      go_wp2
      go_ret
      have e:=HO.out
      rw[partEq_break lt a i j dk HI.out HJ2.out (by omega)] at e
      rw[<- e];exact⟨rfl,HS.out.drewN _⟩
end Go.Proofs.YtmbcegljmhcdeaaGreat
