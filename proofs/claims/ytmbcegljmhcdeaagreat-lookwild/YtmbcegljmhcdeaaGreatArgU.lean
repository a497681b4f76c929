/- Arguments: a slice of numbers of 32 bits. -/
import Derived.Test.YtmbcegljmhcdeaaGreatRpv
import Derived.Test.YtmbcegljmhcdeaaGreatZlw
import Derived.Test.YtmbcegljmhcdeaaGreatRdq
import Derived.Deep.Cut
import Derived.Test.YtmbcegljmhcdeaaGreatRows
import Derived.Test.YtmbcegljmhcdeaaGreatRefK
import Derived.LaidMore
import Derived.Lay
import Derived.OpenShut
import Derived.ProofKit
import Derived.WalkKit
import Derived.WalkLawsBesides
import Derived.Test.YtmbcegljmhcdeaaGreatZrc
import Derived.Stop.Joined
import Derived.Deep.Strs
import Derived.Deep.Fields
import Derived.Deep.RegionHeld3
import Derived.Test.YtmbcegljmhcdeaaGreatZrs
import Derived.Test.YtmbcegljmhcdeaaGreatSrA
import Derived.Test.YtmbcegljmhcdeaaGreatLay
import Derived.Test.YtmbcegljmhcdeaaGreatZsw
namespace Go.Proofs.YtmbcegljmhcdeaaGreat
set_option maxRecDepth 5000
open Go.RowKit
set_option maxRecDepth 5000 in
theorem mPut_any (w:World) (base m:Nat) (A:List (List UInt8)) (L:List Z.R) (hR:RZAt w base m A L) (hbase:base<=w.heap.size) (hA:Hid (N.Small A)) (n:List (List UInt8)) (na:Option Addr) (nl nc:Nat) (hl:Hid (n.length=nl)) (hnc:nl<=nc) (hs:SlS w na n) (hm:Hid (N.Small n)) (t cl ttl:Nat) (d:List UInt8) (da:Option Addr) (dl dc:Nat) (hdl:Hid (d.length=dl)) (hsd:SlL w da d) (hnd:da=none->dc=0) (hdc:dl<=dc) (h8:dl<=8192) (ht:t<65536) (httl:ttl<4294967296) :
 Calls Tryz.prog 45 #[.pointer (some ⟨m,0,none⟩),recV na nl nc t cl ttl da dl dc] w fun e w'=>e = .returned (.tuple #[.bool (Z.putR A L n t cl ttl d).1,.int .i64 ((Z.putR A L n t cl ttl d).2.1:Int)])/\RZAt w' base m A (Z.putR A L n t cl ttl d).2.2/\RM base m w w':=by
 by_cases hbad:N.chk n≠0\/N.within n A=false
 ·have e:Z.putR A L n t cl ttl d=(false,110,L):=by unfold Z.putR;rw[if_pos hbad]
  rw[e]
  exact mPut_name w base m A L hR hA n na nl nc hl hnc hs hm t cl ttl d da dl dc hdl hsd hnd hdc h8 hbad
 ·have hgood:N.chk n=0:=Classical.byContradiction fun h=>hbad (Or.inl h)
  have hwin:N.within n A=true:=by
   cases h:N.within n A with
   | true=>rfl
   | false=>exact absurd (Or.inr h) hbad
  by_cases hcl:cl≠1\/cn t d=none
  ·have e:Z.putR A L n t cl ttl d=(false,50,L):=by
    unfold Z.putR;rw[if_neg hbad]
    by_cases h:cl≠1
    ·rw[if_pos h]
    ·rw[if_neg h,hcl.resolve_left h]
   rw[e]
   exact mPut_data w base m A L hR hA n na nl nc hl hnc hs hm t cl ttl d da dl dc hdl hsd hnd hdc h8 hgood hwin hcl
  ·have hc1:cl=1:=Classical.byContradiction fun h=>hcl (Or.inl h)
   cases hcn:cn t d with
   | none=>exact absurd (Or.inr hcn) hcl
   | some c=>exact mPut_good w base m A L hR hA n na nl nc hl hnc hs hm t cl ttl d da dl dc hdl hsd hnd hdc h8 hbase ht httl c hgood hwin hc1 hcn _ (by unfold Z.putR;rw[if_neg hbad,if_neg (by simp[hc1]),hcn])
end Go.Proofs.YtmbcegljmhcdeaaGreat
namespace Go.Proofs.YtmbcegljmhcdeaaGreat
open Go.RowKit
set_option maxRecDepth 5000
open Go.RowKit
open Go.ChangeShapes Go.WideShapes Go.ChangeAt Go.WideMaps Go.WideElems
theorem ownK:ownKnob Tryz.prog.godebug=none:=by kernel_rfl
theorem laidOutT:laidOutB Tryz.prog=true:=by kernel_rfl
open Go.ChangeShapes Go.WideShapes Go.ChangeAt Go.WideMaps Go.WideElems Go.RowKit Go.Deep
theorem cellsU8:Tryz.prog.cellsOf 5=1:=by kernel_rfl
theorem open_bytes {H:Type} {enc:TypeId × Value->H} {W:World} {a0:Option Addr} {len cap:Nat} {d:DataW H} {p:List MemPlace} (h0:DataW.Trod enc Tryz.prog W 0 (fun _=>true) true 37 (.slice a0 len cap) d p) :
 ∃ bs:List UInt8,bs.length=len/\SlL W a0 bs/\(a0=none->cap=0)/\len<=cap/\cap<=maxLen:=by
 obtain⟨fuel,hf⟩:=h0
 rcases open_ints Tryz.underlying37 Tryz.underlying5 cellsU8 hf with⟨hcs,hx⟩ | ⟨a,len',cap',zs,hcs,_,hl,hm,hz,hx,hcell,hwz⟩
 ·simp[Value.cells] at hcs
  obtain⟨rfl,rfl,rfl⟩:=hcs
  exact⟨[],rfl,SlL.nil _ _,fun _=>rfl,Nat.le_refl _,Nat.zero_le _⟩
 ·simp[Value.cells] at hcs
  obtain⟨rfl,rfl,rfl⟩:=hcs
  simp only[if_true] at hz
  have hlen:((zs.take len).map fun z=>UInt8.ofNat z.toNat).length=len:=by simp;omega
  refine⟨(zs.take len).map fun z=>UInt8.ofNat z.toNat,hlen,fun hn=>?_,fun h=>(by cases h),hl,hm⟩
  rw[hlen] at hn
  obtain⟨b,off,rfl,hc⟩:=ints_at hcell (by omega)
  refine⟨b,off,rfl,block_lt_of_cell (hc 0 (by omega)),fun j hj=>?_⟩
  rw[hlen] at hj
  rw[hc j (by omega)]
  have hjz:j<zs.length:=by omega
  have hw:=bounds_u8 (hwz _ (List.getElem_mem hjz))
  have e1:zs.getD j 0=zs[j]:=by simp[hjz]
  have e2:((zs.take len).map fun z=>UInt8.ofNat z.toNat).getD j 0=UInt8.ofNat (zs[j]).toNat:=by
   simp[hj,hjz]
  rw[e1,e2,UInt8.toNat_ofNat']
  congr 2
  omega
open Go.ChangeShapes Go.WideShapes Go.ChangeAt Go.WideMaps Go.WideElems Go.RowKit Go.Deep
open Go.RowKit
open Go.RowKit
theorem has_nil (p:List (List UInt8)):Z.has [] p=false:=rfl
open Go.RowKit
open Go.RowKit
end Go.Proofs.YtmbcegljmhcdeaaGreat
namespace Go.Proofs.YtmbcegljmhcdeaaGreat
set_option maxRecDepth 5000
open Go.RowKit
set_option maxRecDepth 3000 in
theorem hname_any (n m:List (List UInt8)) (ao bo:Option Addr) (la lb ca cb:Nat) (w:World) (hla:Hid (n.length=la)) (hlb:Hid (m.length=lb)) (hsa:SlS w ao n) (hsb:SlS w bo m) (hma:la<=9223372036854775807) (hmb:lb<=9223372036854775807) :
 Calls Tryz.prog 29 #[.slice ao la ca,.slice bo lb cb] w fun e w'=>e = .returned (.bool (decide (n=m))) /\ ∃ k,w'=w.drewN k:=by
 have HSA:=hide hsa
 have HSB:=hide hsb
 clear hsa hsb
 by_cases hab:la=lb
 ·subst hab
  go_enter Tryz.func29,Tryz.ntmps29
  go_wp2
  go_loopw [5] (fun i wr => ∃ j:Nat,i = .int .i64 (j:Int)/\j<=la/\Hid (n.take j=m.take j) /\ ∃ k,wr=w.drewN k) (fun i _=>la - (intOf i).toNat)
  case atStart=>exact⟨0,rfl,by omega,hide rfl,0,rfl⟩
  case round =>
   obtain⟨j,rfl,hj,HE,hm⟩:=hrel
   have HM:=hide hm
   clear hm
   by_cases hlt:j<la
   ·obtain⟨b1,o1,rfl,_,hc1⟩:=HSA.out (by have:=hla.out;omega)
    obtain⟨b2,o2,rfl,_,hc2⟩:=HSB.out (by have:=hlb.out;omega)
    have hx1:wr.cell? ⟨b1,o1+j,none⟩=some (.string ⟨(n.getD j []).toArray⟩):=by
     obtain⟨m,rfl⟩:=HM.out
     exact hc1 j (by have:=hla.out;omega)
    have hx2:wr.cell? ⟨b2,o2+j,none⟩=some (.string ⟨(m.getD j []).toArray⟩):=by
     obtain⟨m,rfl⟩:=HM.out
     exact hc2 j (by have:=hlb.out;omega)
    clear hc1 hc2
    obtain⟨x,hx⟩ : ∃ x,x=n.getD j []:=⟨_,rfl⟩
    obtain⟨y,hy⟩ : ∃ y,y=m.getD j []:=⟨_,rfl⟩
    rw[<- hx] at hx1
    rw[<- hy] at hx2
    have HX:=hide hx
    have HY:=hide hy
    clear hx hy
    have hj1:(j:Int)<(la:Int):=by omega
    by_cases hq:x=y
    ·have HQ:=hide hq
     subst hq
     go_wp2
     go_quiet (fail)
     go_wp2
     go_roundw
     case rel =>
      refine⟨j+1,by go_num,by omega,hide ?_,drew_more _ HM.out⟩
      have h1:j<n.length:=by have:=hla.out;omega
      have h2:j<m.length:=by have:=hlb.out;omega
      have e1:=HX.out
      have e2:=HY.out
      rw[List.getD_eq_getElem?_getD,List.getElem?_eq_getElem h1] at e1
      rw[List.getD_eq_getElem?_getD,List.getElem?_eq_getElem h2] at e2
      rw[List.take_succ_eq_append_getElem h1,List.take_succ_eq_append_getElem h2,HE.out]
      have e3:n[j]=m[j]:=e1.symm.trans e2
      rw[e3]
     case measure=>simp[intOf];omega
    ·have hq1:(x == y)=false:=by simp[hq]
     have hq2:decide (x=y)=false:=by simp[hq]
     have hres:decide (n=m)=false:=by
      refine decide_eq_false fun e=>hq ?_
      rw[HX.out,HY.out,e]
     go_wp2
     go_quiet (fail)
     go_wp2
     go_ret
     exact⟨by rw[hres];rfl,drew_more _ HM.out⟩
   ·obtain rfl:j=la:=by omega
    have hres:decide (n=m)=true:=by
     have h:=HE.out
     rw[List.take_of_length_le (by have:=hla.out;omega),List.take_of_length_le (by have:=hlb.out;omega)] at h
     exact decide_eq_true h
    go_wp2
    go_ret
    exact⟨by rw[hres];rfl,HM.out⟩
 ·have hres:decide (n=m)=false:=by
   refine decide_eq_false fun e=>hab ?_
   rw[<- hla.out, <- hlb.out,e]
  have hab1 : ¬ ((la:Int)=(lb:Int)):=by omega
  go_enter Tryz.func29,Tryz.ntmps29
  go_wp2
  go_ret
  exact⟨by rw[hres];rfl,0,rfl⟩
end Go.Proofs.YtmbcegljmhcdeaaGreat
namespace Go.Proofs.YtmbcegljmhcdeaaGreat
open Go.RowKit
set_option maxRecDepth 5000
end Go.Proofs.YtmbcegljmhcdeaaGreat
namespace Go.Proofs.YtmbcegljmhcdeaaGreat
open Go.RowKit
set_option maxRecDepth 5000
def SlM (w:World) (ao:Option Addr) (L:List (List (List UInt8))):Prop:=0<L.length -> ∃ b o,ao=some ⟨b,o,none⟩/\b<w.heap.size /\ ∀ j,j<L.length -> ∃ a c,w.cell? ⟨b,o+j,none⟩=some (.slice a (L.getD j []).length c)/\SlS w a (L.getD j [])
set_option maxRecDepth 5000 in
theorem drew_two (w:World) (a b:Nat):(w.drewN a).drewN b=w.drewN (a+b):=by
 show ({ w with drawn:=w.drawn+a+b } : World) = { w with drawn:=w.drawn+(a+b) }
 rw[Nat.add_assoc]
set_option maxRecDepth 3000 in
theorem hnames_any (L M:List (List (List UInt8))) (ao bo:Option Addr) (la lb ca cb:Nat) (w:World) (hla:Hid (L.length=la)) (hlb:Hid (M.length=lb)) (hsa:SlM w ao L) (hsb:SlM w bo M) (hma:la<=9223372036854775807) (hmb:lb<=9223372036854775807) (hna:Hid (∀ n∈L,n.length<=9223372036854775807)) (hnb:Hid (∀ n∈M,n.length<=9223372036854775807)) :
 Calls Tryz.prog 18 #[.slice ao la ca,.slice bo lb cb] w fun e w'=>e = .returned (.bool (decide (L=M))) /\ ∃ k,w'=w.drewN k:=by
 have HSA:=hide hsa
 have HSB:=hide hsb
 clear hsa hsb
 by_cases hab:la=lb
 ·subst hab
  go_enter Tryz.func18,Tryz.ntmps18
  go_wp2
  go_loopw [5] (fun i wr => ∃ j:Nat,i = .int .i64 (j:Int)/\j<=la/\Hid (L.take j=M.take j) /\ ∃ k,wr=w.drewN k) (fun i _=>la - (intOf i).toNat)
  case atStart=>exact⟨0,rfl,by omega,hide rfl,0,rfl⟩
  case round =>
   obtain⟨j,rfl,hj,HE,hm⟩:=hrel
   have HM:=hide hm
   clear hm
   by_cases hlt:j<la
   ·obtain⟨b1,o1,rfl,_,hc1⟩:=HSA.out (by have:=hla.out;omega)
    obtain⟨b2,o2,rfl,_,hc2⟩:=HSB.out (by have:=hlb.out;omega)
    obtain⟨a1,c1,hd1,hs1⟩:=hc1 j (by have:=hla.out;omega)
    obtain⟨a2,c2,hd2,hs2⟩:=hc2 j (by have:=hlb.out;omega)
    have h1:j<L.length:=by have:=hla.out;omega
    have h2:j<M.length:=by have:=hlb.out;omega
    have e1:L.getD j []=L[j]:=by rw[List.getD_eq_getElem?_getD,List.getElem?_eq_getElem h1];rfl
    have e2:M.getD j []=M[j]:=by rw[List.getD_eq_getElem?_getD,List.getElem?_eq_getElem h2];rfl
    have hm1:(L.getD j []).length<=9223372036854775807:=by rw[e1];exact hna.out _ (List.getElem_mem _)
    have hm2:(M.getD j []).length<=9223372036854775807:=by rw[e2];exact hnb.out _ (List.getElem_mem _)
    have hstep:L[j]=M[j]->L.take (j+1)=M.take (j+1):=fun e=>by
     rw[List.take_succ_eq_append_getElem h1,List.take_succ_eq_append_getElem h2,HE.out,e]
    rw[<- e1, <- e2] at hstep
    clear hc1 hc2 e1 e2 h1 h2
    obtain⟨x,hx⟩ : ∃ x,x=L.getD j []:=⟨_,rfl⟩
    obtain⟨y,hy⟩ : ∃ y,y=M.getD j []:=⟨_,rfl⟩
    rw[<- hx] at hd1 hs1 hm1 hstep
    rw[<- hy] at hd2 hs2 hm2 hstep
    have HSTEP:=hide hstep
    have HX:=hide hx
    have HY:=hide hy
    clear hx hy hstep
    obtain⟨nx,hnx⟩ : ∃ nx,nx=x.length:=⟨_,rfl⟩
    obtain⟨ny,hny⟩ : ∃ ny,ny=y.length:=⟨_,rfl⟩
    rw[<- hnx] at hd1 hm1
    rw[<- hny] at hd2 hm2
    have HNX:Hid (x.length=nx):=hide hnx.symm
    have HNY:Hid (y.length=ny):=hide hny.symm
    clear hnx hny
    have f1:wr.cell? ⟨b1,o1+j,none⟩=some (.slice a1 nx c1):=by obtain⟨m,rfl⟩:=HM.out;exact hd1
    have f2:wr.cell? ⟨b2,o2+j,none⟩=some (.slice a2 ny c2):=by obtain⟨m,rfl⟩:=HM.out;exact hd2
    have HS1:Hid (SlS wr a1 x):=by obtain⟨m,rfl⟩:=HM.out;exact hide hs1
    have HS2:Hid (SlS wr a2 y):=by obtain⟨m,rfl⟩:=HM.out;exact hide hs2
    clear hd1 hd2 hs1 hs2
    have hj1:(j:Int)<(la:Int):=by omega
    obtain⟨r,hr⟩ : ∃ r,r=decide (x=y):=⟨_,rfl⟩
    have HR:=hide hr
    clear hr
    go_wp2
    go_cut [26] from 27 (fun s26 wc=>s26 = .bool (!r) /\ ∃ k,wc=wr.drewN k)
    case first =>
     go_region_held3 (fun w'=>w'.cell? ⟨b1,o1+j,none⟩=some (.slice a1 nx c1)/\w'.cell? ⟨b2,o2+j,none⟩=some (.slice a2 ny c2)) (exact⟨f1,f2⟩) ((go_at_call 29;refine (hname_any x y a1 a2 nx ny c1 c2 _ HNX HNY (by exact HS1.out) (by exact HS2.out) hm1 hm2).mono ?_;rintro e wq ⟨he,k,rfl⟩;rw[<- HR.out] at he;subst he))
     all_goals go_wp2_with fail
     all_goals go_meet
     all_goals exact⟨rfl,_,rfl⟩
    case rest =>
     obtain⟨rfl,hk⟩:=hcut
     have HK:=hide hk
     clear hk
     have HM2:Hid (∃ k,wc=w.drewN k):=by
      obtain⟨m,rfl⟩:=HM.out
      obtain⟨k,rfl⟩:=HK.out
      exact hide ⟨_,drew_two _ _ _⟩
     cases r with
     | true =>
      go_wp2
      go_roundw
      case rel=>exact⟨j+1,by go_num,by omega,hide (HSTEP.out (of_decide_eq_true HR.out.symm)),HM2.out⟩
      case measure=>simp[intOf];omega
     | false =>
      have hres:decide (L=M)=false:=by
       refine decide_eq_false fun e=>of_decide_eq_false HR.out.symm ?_
       rw[HX.out,HY.out,e]
      go_wp2
      go_ret
      exact⟨by rw[hres];rfl,HM2.out⟩
   ·obtain rfl:j=la:=by omega
    have hres:decide (L=M)=true:=by
     have h:=HE.out
     rw[List.take_of_length_le (by have:=hla.out;omega),List.take_of_length_le (by have:=hlb.out;omega)] at h
     exact decide_eq_true h
    go_wp2
    go_ret
    exact⟨by rw[hres];rfl,HM.out⟩
 ·have hres:decide (L=M)=false:=by
   refine decide_eq_false fun e=>hab ?_
   rw[<- hla.out, <- hlb.out,e]
  have hab1 : ¬ ((la:Int)=(lb:Int)):=by omega
  go_enter Tryz.func18,Tryz.ntmps18
  go_wp2
  go_ret
  exact⟨by rw[hres];rfl,0,rfl⟩
set_option maxRecDepth 5000 in
theorem slM_en {w:World} {base:Nat} {a:Option Addr} {n c:Nat} {M:List (List (List UInt8))} (h:OwnL 28 1 EN w base (.slice a n c) M):SlM w a M:=fun hn=>by
 obtain⟨g,rfl,h1,h2,_,hc⟩:=h.get hn
 refine⟨g,0,rfl,h2,fun j hj=>?_⟩
 have e:M.getD j []=M[j]:=by rw[List.getD_eq_getElem?_getD,List.getElem?_eq_getElem hj];rfl
 obtain⟨us,hu,⟨a',c',hE,hT,_⟩,ht⟩:=hc j M[j] (List.getElem?_eq_getElem hj)
 rw[e]
 refine⟨a',c',?_,hT.1⟩
 have:=ht 0 (by omega)
 rw[hE] at this
 rw[Nat.zero_add]
 simpa using this
set_option maxRecDepth 5000 in
theorem RZAt.empty (W:World) (base:Nat) (a:Option Addr) (n c:Nat) (hn:n=Z.exA.length) (hs:SlS W a Z.exA) (hc:n<=c):RZAt (W.alloc (.cells #[.slice a n c,.slice none 0 0] 33)) base W.heap.size Z.exA []:=by
 subst hn
 exact⟨⟨a,c,none,0,RowAt.new W _ _,hs.below ((Below.refl _ W).alloc (Nat.le_refl _) _) (Nat.le_refl _),hc,RL.nil _ _ _ _ (fun _=>rfl)⟩,List.Pairwise.nil,fun x hx=>(by cases hx),Nat.zero_le _,fun x hx=>(by cases hx),fun x hx=>(by cases hx),fun x hx=>(by cases hx)⟩
end Go.Proofs.YtmbcegljmhcdeaaGreat
namespace Go.Proofs.YtmbcegljmhcdeaaGreat
set_option maxRecDepth 5000
open Go.RowKit
structure MK (w w':World):Prop where
 size:w.heap.size<=w'.heap.size
 rows : ∀ (g:Nat) (c:Array Value) (et:TypeId) (fr:Nat × Nat),w.heap[g]?=some (Obj.cells c et fr)->et≠107->et≠94->et≠33->w'.heap[g]?=some (Obj.cells c et fr)
theorem MK.refl (w:World):MK w w:=⟨Nat.le_refl _,fun _ _ _ _ h _ _ _=>h⟩
theorem MK.kb {w w':World} (h:MK w w'):KB w w':=⟨h.size,fun g c et fr hg he=>h.rows g c et fr hg (fun e=>by rcases he with h | h <;> (rw[h] at e;exact absurd e (by decide))) (fun e=>by rcases he with h | h <;> (rw[h] at e;exact absurd e (by decide))) (fun e=>by rcases he with h | h <;> (rw[h] at e;exact absurd e (by decide)))⟩
theorem MK.zk {X:Nat->Prop} {w w1 w2:World} (h:MK w w1) (k:ZKp X w1 w2):MK w w2:=⟨Nat.le_trans h.size k.size,fun g c et fr hg h1 h2 h3=>by
 have h4:=h.rows g c et fr hg h1 h2 h3
 exact (k.rows g c et fr h4 h1 h2).trans h4⟩
theorem MK.rm {base m:Nat} {w w1 w2:World} (h:MK w w1) {c:Array Value} (hr:RowAt w1 m 33 c) (k:RM base m w1 w2) (hb:w.heap.size<=base):MK w w2:=⟨Nat.le_trans h.size k.size,fun g cs et fr hg h1 h2 h3=>by
 have h4:=h.rows g cs et fr hg h1 h2 h3
 have hlt:=(Array.getElem?_eq_some_iff.1 hg).1
 refine (k.keep g (Array.getElem?_eq_some_iff.1 h4).1 (fun e=>?_) (Or.inl (Nat.lt_of_lt_of_le hlt hb))).trans h4
 have hr:w1.heap[m]?=some (Obj.cells c 33):=hr
 rw[e,hr] at h4;injection h4 with h4;injection h4 with _ h4 _
 exact h3 h4.symm⟩
def putsR (rs:List RcT):List Z.R:=rs.foldl (fun L x=>(Z.putR Z.exA L x.n x.t 1 x.ttl x.d).2.2) []
theorem putsR_snoc (rs:List RcT) (j:Nat) (x:RcT) (hx:rs[j]?=some x):putsR (rs.take (j+1))=(Z.putR Z.exA (putsR (rs.take j)) x.n x.t 1 x.ttl x.d).2.2:=by
 unfold putsR
 rw[List.take_add_one,hx,List.foldl_append]
 rfl
set_option maxRecDepth 20000 in
set_option maxHeartbeats 1500000 in
theorem made_any (l:List Nat) (ao:Option Addr) (len cap:Nat) (w:World) (hl:Hid (l.length=len)) (hs:SlU w ao l) (hlt : ∀ x∈l,x<4294967296) (hm:len<=9223372036854775807) :
 Calls Tryz.prog 36 #[.slice ao len cap] w fun e w' => ∃ V m base rs,e = .returned (.tuple #[.pointer (some ⟨V,0,none⟩),.pointer (some ⟨m,0,none⟩)])/\Duo w.heap.size w' V base m Z.exA (putsR rs) 4200/\(∀ x∈rs,x.Good)/\(len=0->rs = [soa0,ns0])/\Below w.heap.size w w':=by
 have HS:=hide hs
 have HLT:=hide hlt
 obtain⟨B,hBe⟩ : ∃ B,B=w.heap.size:=⟨_,rfl⟩
 have HBe:=hide hBe
 have HBle:Hid (B<=w.heap.size):=hide (Nat.le_of_eq hBe)
 have hT0:True:=trivial
 rw[<- hBe]
 clear hs hlt hBe
 go_enter Tryz.func36,Tryz.ntmps36
 go_wp2_with (first
  | (go_at_call 68;go_loud (refine (begin_any l ao len cap _ hl (HS.out.below HB04.out (Nat.le_of_eq HBe.out.symm)) HLT.out hm).mono ?_;rintro e w5 ⟨v5,rfl,j0,hj0,hj12,hjz,rs,hB5,hO5,hG5,hrl5,hz5⟩))
  | (go_at_call 13;have hq:=HZ1.out;clear hq;go_loud (refine (apex_any w2).mono ?_;rintro e w3 ⟨v3,rfl,hO3,hB3⟩;obtain⟨a3,c3,rfl,hS3,_,hc3,_⟩:=hO3.open;have HB04:Hid (Below B w (w3.alloc (.cells #[.slice a3 Z.exA.length c3,.slice none 0 0] 33))):=hide ((HB02.out.trans (hB3.mono (Nat.le_trans HBle.out HB02.out.size))).alloc (Nat.le_trans HBle.out (Nat.le_trans HB02.out.size hB3.size)) _)))
  | (go_at_call 12;go_loud (refine (znew_live (fun i=>i<B) w1 (fun i hi=>by have:=HB1.out.size;have:=HBe.out;omega) Z.exA a1 _ c1 (hide rfl) hS1 (hide exA_small)).mono ?_;rintro e w2 ⟨V,rfl,_,hZ1,hB2⟩;rw[exA_low] at hZ1;have HB02:=hide ((HB1.out.mono (Nat.le_of_eq HBe.out)).trans (hB2.mono (Nat.le_trans (Nat.le_of_eq HBe.out) HB1.out.size)));have HZ1:=hide hZ1;clear hZ1))
  | (go_at_call 13;have hq:=hT0;clear hq hT0;go_loud (refine (apex_any w).mono ?_;rintro e w1 ⟨v1,rfl,hO1,hB1⟩;obtain⟨a1,c1,rfl,hS1,_,hc1,_⟩:=hO1.open;have HB1:=hide hB1))
  | fail)
 obtain⟨w4,hw4⟩ : ∃ w4,w4=w3.alloc (.cells #[.slice a3 Z.exA.length c3,.slice none 0 0] 33):=⟨_,rfl⟩
 obtain⟨m,hmm⟩ : ∃ m,m=w3.heap.size:=⟨_,rfl⟩
 have hb4:Below w3.heap.size w3 w4:=by rw[hw4];exact (Below.refl _ w3).alloc (Nat.le_refl _) _
 have hR4:RZAt w4 w5.heap.size m Z.exA []:=by rw[hw4,hmm];exact RZAt.empty w3 w5.heap.size a3 _ c3 rfl hS3 hc3
 rw[<- hmm]
 have hB45:Below w4.heap.size w4 w5:=by rw[hw4];exact hB5
 have hZ5:=((HZ1.out.bel hB3).bel hb4).bel hB45
 have s2:=HB02.out.size
 have s3:=hB3.size
 have s4:=hb4.size
 have s5:=hB45.size
 have s0:=HBle.out
 have hD:Duo B w5 V w5.heap.size m Z.exA [] 0:=⟨hZ5,hR4.bel hB45,by omega,by omega,Nat.le_refl _⟩
 have hBW:Below B w w5:=((HB02.out.trans (hB3.mono (by omega))).trans (hb4.mono (by omega))).trans (hB45.mono (by omega))
 obtain⟨g5,c5,hv5,hn5,hc5⟩:=hO5.slice
 obtain⟨q,hq⟩ : ∃ q,q=rs.length:=⟨_,rfl⟩
 rw[<- hq] at hv5
 subst hv5
 have hq14:q<=14:=by omega
 have HD:=hide hD
 have HBW:=hide hBW
 have HO5:=hide hO5
 have HG5:=hide hG5
 have HQ:=hide hq
 have HZ5:=hide (fun h:len=0=>hz5 (by omega:j0=0))
 clear hw4 hmm hb4 hR4 hB45 hZ5 s2 s3 s4 s5 s0 hD hBW hO5 hG5 hq hz5 hB5 hB3 hO3 hS3 hc3 HZ1 HB02 HB04 hn5 hc5 hrl5
 go_loopw [7] (fun i wr => ∃ j:Nat,i = .int .i64 (j:Int)/\j<=q/\Duo B wr V w5.heap.size m Z.exA (putsR (rs.take j)) (j*300)/\MK w5 wr/\Below B w wr) (fun i _=>q - (intOf i).toNat)
 case atStart=>exact⟨0,rfl,by omega,HD.out,MK.refl _,HBW.out⟩
 case round =>
  obtain⟨j,rfl,hj,hD,hMK,hB⟩:=hrel
  have HDr:=hide hD
  have HMK:=hide hMK
  have HB:=hide hB
  clear hD hMK hB HD HBW
  by_cases hlt:j<q
  ·have hjr:j<rs.length:=by rw[<- HQ.out];exact hlt
   obtain⟨x,hx⟩ : ∃ x,rs[j]?=some x:=⟨_,List.getElem?_eq_getElem hjr⟩
   have hxg:=HG5.out x (List.mem_of_getElem? hx)
   obtain⟨g,rfl,hgb,hgl,⟨cur,hcur⟩,hel⟩:=HO5.out.get (by omega)
   obtain⟨us,hus,⟨xa,xc,da,dc,rfl,hxT,hxc,hdT,hdn,hdc⟩,hcells⟩:=hel j x hx
   obtain⟨xl,hxl⟩ : ∃ xl,xl=x.n.length:=⟨_,rfl⟩
   obtain⟨dl,hdl⟩ : ∃ dl,dl=x.d.length:=⟨_,rfl⟩
   obtain⟨xt,hxt⟩ : ∃ xt,xt=x.t:=⟨_,rfl⟩
   obtain⟨tt,htt⟩ : ∃ tt,tt=x.ttl:=⟨_,rfl⟩
   have hsn:=putsR_snoc rs j x hx
   rw[<- hxt, <- htt] at hsn
   rw[<- hxl, <- hdl, <- hxt, <- htt] at hcells
   rw[<- hxl] at hxc
   rw[<- hdl] at hdc
   have HCELL:Hid (∀ W,MK w5 W->W.cell? ⟨g,j*5,none⟩=some (.slice xa xl xc)/\W.cell? ⟨g,j*5+1,none⟩=some (.int .u16 (xt:Int))/\W.cell? ⟨g,j*5+2,none⟩=some (.int .u16 1)/\W.cell? ⟨g,j*5+3,none⟩=some (.int .u32 (tt:Int))/\W.cell? ⟨g,j*5+4,none⟩=some (.slice da dl dc)):=hide fun W hW=>by
    have hr:W.heap[g]?=w5.heap[g]?:=(hW.rows g cur _ _ hcur (by decide) (by decide) (by decide)).trans hcur.symm
    have hk : ∀ k,k<5->W.cell? ⟨g,j*5+k,none⟩ = [Value.slice xa xl xc,.int .u16 (xt:Int),.int .u16 1,.int .u32 (tt:Int),.slice da dl dc][k]?:=fun k hk=>(World.cell?_of_block hr).trans (hcells k hk)
    exact⟨hk 0 (by omega),hk 1 (by omega),hk 2 (by omega),hk 3 (by omega),hk 4 (by omega)⟩
   obtain⟨P,hP⟩ : ∃ P,P=Z.putR Z.exA (putsR (rs.take j)) x.n xt 1 tt x.d:=⟨_,rfl⟩
   obtain⟨p1,hp1⟩ : ∃ p1,p1=P.1:=⟨_,rfl⟩
   obtain⟨p2,hp2⟩ : ∃ p2,p2=P.2.1:=⟨_,rfl⟩
   obtain⟨L',hL'⟩ : ∃ L',L'=P.2.2:=⟨_,rfl⟩
   rw[<- hP, <- hL'] at hsn
   have hzp:Calls Tryz.prog 44 #[.pointer (some ⟨V,0,none⟩),.agg #[.slice xa xl xc,.int .u16 (xt:Int),.int .u16 1,.int .u32 (tt:Int),.slice da dl dc]] wr fun e w'=>e = .returned (.tuple #[.bool p1,.int .i64 (p2:Int)])/\ZLive (fun i=>i<B) w' V Z.exA L' (j*300+xl+1)/\ZKp (fun i=>i<B) wr w':=by
    have h:=zput_live HDr.out.z (hide exA_small) x.n xa xl xc (hide hxl.symm) hxc (hxT.kb HMK.out.kb).1 (hide hxg.small) xt 1 tt x.d da dl dc (hide hdl.symm) (hdT.kb HMK.out.kb).1 hdn hdc (by rw[hxt];exact hxg.t) (by rw[htt];exact hxg.ttl) (by have:=hxg.len;omega)
    unfold recV at h
    have e1:((1:Nat):Int)=1:=rfl
    rw[<- hP, <- hp1, <- hp2, <- hL',e1] at h
    exact h
   have hmp : ∀ W,ZKp (fun i=>i<B) wr W->Calls Tryz.prog 45 #[.pointer (some ⟨m,0,none⟩),.agg #[.slice xa xl xc,.int .u16 (xt:Int),.int .u16 1,.int .u32 (tt:Int),.slice da dl dc]] W fun e w'=>e = .returned (.tuple #[.bool p1,.int .i64 (p2:Int)])/\RZAt w' w5.heap.size m Z.exA L'/\RM w5.heap.size m W w':=fun W hW=>by
    have hk:=(HMK.out.zk hW).kb
    have h:=mPut_any W w5.heap.size m Z.exA (putsR (rs.take j)) (HDr.out.r.zk hW) (Nat.le_trans HDr.out.bs hW.size) (hide exA_small) x.n xa xl xc (hide hxl.symm) hxc (hxT.kb hk).1 (hide hxg.small) xt 1 tt x.d da dl dc (hide hdl.symm) (hdT.kb hk).1 hdn hdc (by rw[hdl];exact hxg.dl) (by rw[hxt];exact hxg.t) (by rw[htt];exact hxg.ttl)
    unfold recV at h
    have e1:((1:Nat):Int)=1:=rfl
    rw[<- hP, <- hp1, <- hp2, <- hL',e1] at h
    exact h
   have HZP:=hide hzp
   have HMP:=hide hmp
   have HSN:=hide hsn
   have HXL:=hide hxl
   have HXG:=hide hxg
   obtain⟨q0,q1,q2,q3,q4⟩:=HCELL.out wr HMK.out
   clear hzp hmp hsn hxl hdl hxt htt hP hp1 hp2 hL' hxg hx hcells hel hxT hdT hus hcur hgl hgb
   go_wp2_with (first
    | (go_at_call 45;have hq:=HK6.out;clear hq;go_loud (refine (HMP.out w6 HK6.out).mono ?_;rintro e w7 ⟨rfl,hR7,hM7⟩))
    | (go_at_call 44;go_loud (refine HZP.out.mono ?_;rintro e w6 ⟨rfl,hZ6,hK6⟩;obtain⟨r0,r1,r2,r3,r4⟩:=HCELL.out w6 (HMK.out.zk hK6);have HK6:=hide hK6;have HZ6:=hide hZ6;clear hK6 hZ6))
    | fail)
   go_roundw
   case rel =>
    have hl4:=HXG.out.len
    have hl5:=HXL.out
    obtain⟨D7,hB7⟩:=HDr.out.step HK6.out HZ6.out hR7 hM7
    obtain⟨ra,rac,rb,rbc,hrr,_⟩:=(HDr.out.r.zk HK6.out).row
    refine⟨j+1,by go_num,by omega,?_,(HMK.out.zk HK6.out).rm hrr hM7 (Nat.le_refl _),HB.out.trans hB7⟩
    rw[HSN.out]
    exact D7.mono (by omega)
   case measure=>simp[intOf];omega
  ·obtain rfl:j=q:=by omega
   have e:rs.take j=rs:=List.take_of_length_le (by rw[<- HQ.out];exact Nat.le_refl _)
   rw[e] at HDr
   go_wp2
   go_ret2
   exact⟨V,m,w5.heap.size,rs,rfl,HDr.out.mono (by omega),HG5.out,HZ5.out,HB.out⟩
open Go.RowKit
open Go.RowKit
def L00:List Z.R:=putsR [soa0,ns0]
def own1:List (List UInt8) := [[97], [101,120,97,109,112,108,101]]
def own3:List (List UInt8) := [[99], [98], [101,120,97,109,112,108,101]]
set_option maxRecDepth 100000 in
theorem known_plain:Z.typesAt L00 (path Z.exA) = [2,6]/\(Z.setAt L00 (path Z.exA) 6 = [])=False/\Z.typesAt L00 (path own1) = []/\Z.has L00 (path own1)=false/\Z.setAt L00 ((path own1).take 2) 2 = []/\Z.typesAt L00 (path (starN own1 1)) = []/\Z.typesAt L00 (path (starN own1 2)) = []/\(Z.setAt L00 (path (own1.drop 1)) 6 = [])=False/\Z.has L00 ((path own3).take 2)=false:=by
 have h1:Z.typesAt L00 (path Z.exA) = [2,6]:=by decide +kernel
 have h2:(Z.setAt L00 (path Z.exA) 6).isEmpty=false:=by decide +kernel
 have h3:Z.typesAt L00 (path own1) = []:=by decide +kernel
 have h4:Z.has L00 (path own1)=false:=by decide +kernel
 have h5:(Z.setAt L00 ((path own1).take 2) 2).isEmpty=true:=by decide +kernel
 have h6:Z.typesAt L00 (path (starN own1 1)) = []:=by decide +kernel
 have h7:Z.typesAt L00 (path (starN own1 2)) = []:=by decide +kernel
 have h8:(Z.setAt L00 (path (own1.drop 1)) 6).isEmpty=false:=by decide +kernel
 have h9:Z.has L00 ((path own3).take 2)=false:=by decide +kernel
 exact⟨h1,eq_false (fun h=>by rw[h] at h2;cases h2),h3,h4,List.isEmpty_iff.1 h5,h6,h7,eq_false (fun h=>by rw[h] at h8;cases h8),h9⟩
theorem own1_in:N.within own1 Z.exA=true:=by decide +kernel
theorem own3_in:N.within own3 Z.exA=true:=by decide +kernel
theorem own1_small:N.Small own1:=by
 have h2:own1.length<=1000000 /\ ∀ l∈own1,l.length<=1000000:=by decide
 exact h2
theorem own3_small:N.Small own3:=by
 have h2:own3.length<=1000000 /\ ∀ l∈own3,l.length<=1000000:=by decide
 exact h2
theorem own1_is:Z.owner 1=own1:=by decide +kernel
theorem own3_is:Z.owner 3=own3:=by decide +kernel
theorem setsP_one {L:List Z.R} {n:List (List UInt8)} {t:Nat} (h:(Z.setAt L (path n) t = [])=False):setsP L n [t] = [setP L n t]:=by
 unfold setsP
 rw[List.flatMap_cons,List.flatMap_nil,List.append_nil,if_neg (by rw[h];exact id)]
theorem kfind1 {X:Nat->Prop} {W:World} {V K:Nat} (Z0:ZLive X W V Z.exA L00 K) (hK:K<=1000000) (a:Option Addr) (c:Nat) (hs:SlS W a Z.exA) (hc:1<=c) :
 Calls Tryz.prog 39 #[.pointer (some ⟨V,0,none⟩),.slice a 1 c,.int .u16 6] W fun e w' => ∃ a9 c9 na nc,e = .returned (.agg #[.int .i64 0,.slice a9 1 c9,.slice none 0 0,.slice none 0 0,.slice none 0 0,.slice na 1 nc])/\Below W.heap.size W w':=by
 obtain⟨h1,h2,_⟩:=known_plain
 refine (find_answer Z0 hK Z.exA a 1 c (hide rfl) hs hc (hide exA_small) exA_in 6 (by decide) (by decide) (fun d hd hcut=>?_) (by rw[h1];decide)).mono ?_
 ·have h3:=hcut.1
  have h4:Z.exA.length=1:=rfl
  omega
 ·rintro e w' ⟨v',na,nc,rfl,hO,_,hB⟩
  obtain⟨a9,c9,hv,_,_⟩:=hO.slice
  rw[setsP_one h2] at hv
  subst hv
  exact⟨a9,c9,na,nc,rfl,hB⟩
theorem kfind2 {X:Nat->Prop} {W:World} {V K:Nat} (Z0:ZLive X W V Z.exA L00 K) (hK:K<=1000000) (a:Option Addr) (c:Nat) (hs:SlS W a own1) (hc:2<=c) :
 Calls Tryz.prog 39 #[.pointer (some ⟨V,0,none⟩),.slice a 2 c,.int .u16 1] W fun e w' => ∃ a9 c9 na nc,e = .returned (.agg #[.int .i64 4,.slice none 0 0,.slice a9 1 c9,.slice none 0 0,.slice none 0 0,.slice na 2 nc])/\Below W.heap.size W w':=by
 obtain⟨_,_,h3,h4,h5,h6,h7,h8,_⟩:=known_plain
 refine (find_nothing Z0 hK own1 a 2 c (hide rfl) hs hc (hide own1_small) own1_in (by decide) 1 (fun d hd hcut=>?_) h3 h4 (fun k hk=>?_)).mono ?_
 ·have h9:=hcut.1
  have h10:Z.exA.length=1:=rfl
  have h11:own1.length=2:=rfl
  obtain rfl:d=2:=by omega
  exact hcut.2 h5
 ·have h9:=hk.1
  have h10:=hk.2.1
  have h11:own1.length=2:=rfl
  have:k=1\/k=2:=by omega
  rcases this with rfl | rfl
  ·exact h6
  ·exact h7
 ·rintro e w' ⟨v',na,nc,rfl,hO,_,hB⟩
  obtain⟨a9,c9,hv,_,_⟩:=hO.slice
  rw[setsP_one h8] at hv
  subst hv
  exact⟨a9,c9,na,nc,rfl,hB⟩
theorem kclose {X:Nat->Prop} {W:World} {V K:Nat} (Z0:ZLive X W V Z.exA L00 K) (a:Option Addr) (c:Nat) (hs:SlS W a own3) (hc:3<=c) :
 Calls Tryz.prog 41 #[.pointer (some ⟨V,0,none⟩),.slice a 3 c] W fun e w' => ∃ a1 c1 b2 c2,e = .returned (.tuple #[.slice a1 1 c1,.slice (some ⟨b2,0,none⟩) 2 c2])/\w'.cell? ⟨b2,0,none⟩=some (.string { data := #[98] })/\Below W.heap.size W w':=by
 obtain⟨_,_,_,_,_,_,_,_,h9⟩:=known_plain
 refine (lclosest_any Z0 own3 a 3 c (hide rfl) hs (hs.flat (by decide)) hc (hide own3_small) own3_in).mono ?_
 rintro e w' ⟨k,v1,v2,rfl,hk,hO1,hO2,hB⟩
 have hk1:k=1:=by
  have h10:=hk.1
  rcases Nat.lt_or_ge 1 k with h | h
  ·have h11:=has_take (i:=2) (by omega) (hk.2.2.1 (by omega))
   rw[h9] at h11;cases h11
  ·omega
 subst hk1
 obtain⟨a1,c1,hv1,_⟩:=hO1.open
 have hO2:OwnS w' W.heap.size v2 [[98], [101,120,97,109,112,108,101]]:=hO2
 obtain⟨a2,c2,hv2,hS2,_⟩:=hO2.open
 subst hv1;subst hv2
 have h0:w'.ownsRow W.heap.size 9 1 (.slice a2 2 c2) 2 (vs [[98], [101,120,97,109,112,108,101]]):=hO2
 rcases h0.2 with⟨_,h1⟩ | ⟨g,cap,cur,e1,_,hgb,_⟩
 ·cases h1
 ·injection e1 with e1 _ _
  subst e1
  obtain⟨b,o,e2,_,hc2⟩:=hS2 (by decide)
  injection e2 with e2;injection e2 with e2 e3 _
  subst e2;subst e3
  exact⟨a1,c1,g,c2,rfl,hc2 0 (by decide),hB⟩
set_option maxRecDepth 20000 in
set_option maxHeartbeats 1500000 in
theorem knownL_any (w:World):Calls Tryz.prog 35 #[] w fun e w'=>e = .returned (.bool true)/\Below w.heap.size w w':=by
 have hmade:Calls Tryz.prog 36 #[.slice none 0 0] w fun e w' => ∃ V m base,e = .returned (.tuple #[.pointer (some ⟨V,0,none⟩),.pointer (some ⟨m,0,none⟩)])/\Duo w.heap.size w' V base m Z.exA L00 4200/\Below w.heap.size w w':=by
  refine (made_any [] none 0 0 w (hide rfl) (fun h=>absurd h (by simp)) (fun x hx=>by cases hx) (by decide)).mono ?_
  rintro e w' ⟨V,m,base,rs,rfl,hD,_,hz,hB⟩
  rw[hz rfl] at hD
  exact⟨V,m,base,rfl,hD,hB⟩
 have HMADE:=hide hmade
 have HT0:=hide trivial
 have hKb:4200<=1000000:=by decide
 clear hmade
 go_enter Tryz.func35,Tryz.ntmps35
 go_wp2_with (first
  | (go_at_call 36;go_loud (refine HMADE.out.mono ?_;rintro e w1 ⟨V,m,base,rfl,hD,hB1⟩;have HZ1:=hide hD.z;have HB1:=hide hB1;clear hD hB1))
  | (go_at_call 13;go_loud (refine (apex_any w1).mono ?_;rintro e w2 ⟨v2,rfl,hO2,hB2⟩;obtain⟨a2,c2,rfl,hS2,_,hc2,_⟩:=hO2.open;have HB2:=hide (HB1.out.trans (hB2.mono HB1.out.size));have HZ2:=hide (HZ1.out.bel hB2)))
  | (go_at_call 39;have hq:=HB5.out;clear hq;go_loud (refine (kfind2 HZ5.out hKb a5 c5 hS5 hc5).mono ?_;rintro e w6 ⟨a6,c6,na6,nc6,rfl,hB6⟩;have HB6:=hide (HB5.out.trans (hB6.mono HB5.out.size));have HZ6:=hide (HZ5.out.bel hB6);have HR6:=hide (HR5.out.below hB6 HR5.out.lt)))
  | (go_at_call 39;go_loud (refine (kfind1 HZ2.out hKb a2 c2 hS2 hc2).mono ?_;rintro e w3 ⟨a3,c3,na3,nc3,rfl,hB3⟩;have HB3:=hide (HB2.out.trans (hB3.mono HB2.out.size));have HZ3:=hide (HZ2.out.bel hB3)))
  | (go_at_call 22;have hq:=HB6.out;clear hq;go_loud (have hb7:Below w6.heap.size w6 (w6.alloc (.cells #[.int .i64 4,.slice none 0 0,.slice a6 1 c6,.slice none 0 0,.slice none 0 0,.slice na6 2 nc6] 70)):=(Below.refl _ w6).alloc (Nat.le_refl _) _;refine (owner_any 3 (by decide) _).mono ?_;rw[own3_is];rintro e w8 ⟨v8,rfl,hO8,hB8⟩;obtain⟨a8,c8,rfl,hS8,_,hc8,_⟩:=hO8.open;have hb68:=hb7.trans (hB8.mono hb7.size);have HB8:=hide (HB6.out.trans (hb68.mono HB6.out.size));have HZ8:=hide (HZ6.out.bel hb68);have HR8:=hide (HR6.out.below hb68 HR6.out.lt);have HQ8:=hide ((RowAt.new w6 70 #[.int .i64 4,.slice none 0 0,.slice a6 1 c6,.slice none 0 0,.slice none 0 0,.slice na6 2 nc6]).below hB8 (by simp))))
  | (go_at_call 22;go_loud (have hb4:Below w3.heap.size w3 (w3.alloc (.cells #[.int .i64 0,.slice a3 1 c3,.slice none 0 0,.slice none 0 0,.slice none 0 0,.slice na3 1 nc3] 70)):=(Below.refl _ w3).alloc (Nat.le_refl _) _;refine (owner_any 1 (by decide) _).mono ?_;rw[own1_is];rintro e w5 ⟨v5,rfl,hO5,hB5⟩;obtain⟨a5,c5,rfl,hS5,_,hc5,_⟩:=hO5.open;have hb35:=hb4.trans (hB5.mono hb4.size);have HB5:=hide (HB3.out.trans (hb35.mono HB3.out.size));have HZ5:=hide (HZ3.out.bel hb35);have HR5:=hide ((RowAt.new w3 70 #[.int .i64 0,.slice a3 1 c3,.slice none 0 0,.slice none 0 0,.slice none 0 0,.slice na3 1 nc3]).below hB5 (by simp))))
  | (go_at_call 41;go_loud (refine (kclose HZ8.out a8 c8 hS8 hc8).mono ?_;rintro e w9 ⟨a9,c9,b9,d9,rfl,k98,hB9⟩;have HB9:=hide (HB8.out.trans (hB9.mono HB8.out.size));obtain⟨r0,r1,r2,_⟩:=fd_facts (HR8.out.below hB9 HR8.out.lt);obtain⟨s0,s1,s2,_⟩:=fd_facts (HQ8.out.below hB9 HQ8.out.lt)))
  | fail)
 go_ret
 exact⟨rfl,HB9.out⟩
open Go.RowKit
open Go.RowKit
def abcd (i:Nat):UInt8 := [97,98,99,100].getD i 0
def xyL (i:Nat):UInt8 := [120,121].getD i 0
def abxyz (i:Nat):UInt8 := [97,98,120,121,122].getD i 0
theorem sl_abcd (i i1:Nat) (h:i<4) (h1:i1=i+1) (W:World):(Instr.slice 9 (.string { data := #[97,98,99,100] }) (some (.int .u8 (i:Int))) (some (.int .u8 (i1:Int))) none).run Tryz.prog W = .ok (.string ⟨#[abcd i]⟩) W:=by
 subst h1
 match i,h with
 | 0,_=>rfl
 | 1,_=>rfl
 | 2,_=>rfl
 | 3,_=>rfl
theorem sl_xy (i i1:Nat) (h:i<2) (h1:i1=i+1) (W:World):(Instr.slice 9 (.string { data := #[120,121] }) (some (.int .u8 (i:Int))) (some (.int .u8 (i1:Int))) none).run Tryz.prog W = .ok (.string ⟨#[xyL i]⟩) W:=by
 subst h1
 match i,h with
 | 0,_=>rfl
 | 1,_=>rfl
theorem sl_abxyz (i i1:Nat) (h:i<5) (h1:i1=i+1) (W:World):(Instr.slice 9 (.string { data := #[97,98,120,121,122] }) (some (.int .u8 (i:Int))) (some (.int .u8 (i1:Int))) none).run Tryz.prog W = .ok (.string ⟨#[abxyz i]⟩) W:=by
 subst h1
 match i,h with
 | 0,_=>rfl
 | 1,_=>rfl
 | 2,_=>rfl
 | 3,_=>rfl
 | 4,_=>rfl
def ltr (x:UInt8):UInt8:=abxyz (x.toNat % 5)
theorem step_appS {w:World} {ops:Array Oper} {o:Oper} {a:Act} {J:Act->World->Prop} {Q:Exit->Act->World->Prop} {F:Prop} (hgd:o.guard=none) (s x:Operand)
 (ho:o.op = .call { callee := .builtin .append,args := #[s,x],argTypes := #[28,28] }) (base:Nat) (v:Value) (n:List (List UInt8)) (hs:a.eval s=v) (hown:OwnS w base v n) (ad:Addr) (c:Nat) (l:List UInt8) (hx:a.eval x = .slice (some ad) 1 c) (hr:w.cell? ad=some (.string ⟨l.toArray⟩)) (hbound:n.length<=1000000) (hbase:base<=w.heap.size)
 (h : ∀ v' w',OwnS w' base v' (n ++ [l])->w.grownBy w' v.ownBlock->J (a.put o.dst v') w'):if Region.wanted o (yielded ops a.tmps)=true then Oper.wp Tryz.prog o a w J Q else F:=by
 have hw:Region.wanted o (yielded ops a.tmps)=true:=by simp[Region.wanted,hgd]
 rw[if_pos hw]
 obtain⟨i0,hi,hz0,hz1,hz2⟩:=info_parts infoS
 have hv:w.ownsRow base 9 1 v n.length (vs n):=hown
 obtain⟨v',w',h1,h2,h3,_⟩:=run_append_own (P:=Tryz.prog) w base 28 o.type 9 i0 (.string ⟨#[]⟩) 1 16 Tryz.underlying28 hi hz0 hz1 hz2 rfl (by decide) v n.length (vs n) hv ad 1 c [.string ⟨l.toArray⟩] rfl (fun j u hu=>by
  match j with
  | 0 =>
   have hu:Value.string ⟨l.toArray⟩=u:=by simpa using hu
   rw[<- hu, <- hr];rfl
  | j+1=>simp at hu) (by simp[Value.oneCell']) (by unfold maxLen;omega) (by omega) hbase
 unfold Oper.wp execOp
 simp only[ho,resolve,invoke,builtin,Sem.run_bind,Sem.run_pure,Result.andThen_ok,List.map_toArray,List.map_cons,List.map_nil,hs,hx,h1]
 refine h v' w' ?_ h3
 show w'.ownsRow base 9 1 v' (n ++ [l]).length (vs (n ++ [l]))
 have e:vs (n ++ [l])=vs n ++ [.string ⟨l.toArray⟩]:=by unfold vs;rw[List.map_append];rfl
 rw[e,List.length_append,List.length_singleton]
 exact h2
theorem abcd_ok (i:Nat) (h:i<4):97<=abcd i/\abcd i<=100:=by
 have h2 : ∀ i,i<4->97<=abcd i/\abcd i<=100:=by decide
 exact h2 i h
theorem abxyz_ok (i:Nat) (h:i<5):okLet (abxyz i):=by
 have h2 : ∀ i,i<5->97<=abxyz i/\abxyz i<=122:=by decide
 exact h2 i h
theorem ask_in {qs:List UInt8} (h : ∀ x∈qs,okLet x):N.within (askN qs) Z.exA=true:=by
 rw[within_path2,path_ask h]
 have e:(askN qs).reverse = [exL, [119]]++(qs.map (fun x => [x])).reverse:=by unfold askN;rw[List.reverse_append];rfl
 have e2:path Z.exA = [exL]:=by decide +kernel
 rw[e,e2]
 exact⟨[[119]]++(qs.map (fun x => [x])).reverse,rfl⟩
theorem ask_small {qs:List UInt8} (h:qs.length<=100):N.Small (askN qs):=⟨by rw[ask_len];omega,fun l hl=>by
 unfold askN at hl
 rcases List.mem_append.1 hl with hl | hl
 ·obtain⟨x,_,rfl⟩:=List.mem_map.1 hl;simp
 ·have h2 : ∀ l ∈ [[119],exL],l.length<=1000000:=by decide
  exact h2 l hl⟩
theorem one9 : ∀ n ∈ [star3],n.length<=9223372036854775807:=by decide
theorem slM_one {w:World} {gs:Nat} (h:SlS (w.alloc (.cells #[.slice (some ⟨gs,0,none⟩) 3 3] 28)) (some ⟨gs,0,none⟩) star3):SlM (w.alloc (.cells #[.slice (some ⟨gs,0,none⟩) 3 3] 28)) (some ⟨w.heap.size,0,none⟩) [star3]:=fun _=>by
 refine⟨w.heap.size,0,rfl,by simp,fun j hj=>?_⟩
 have:j=0:=by simpa using hj
 subst this
 exact⟨some ⟨gs,0,none⟩,3,(RowAt.new w 28 #[.slice (some ⟨gs,0,none⟩) 3 3]).cell 0,h⟩
theorem txt_small (a b:UInt8):N.Small (txtN a b):=⟨by show 4<=_;omega,fun l hl=>by
 unfold txtN exL at hl
 simp at hl
 rcases hl with rfl | rfl | rfl | rfl <;> simp⟩
theorem star3_small:N.Small star3:=by
 have h2:star3.length<=1000000 /\ ∀ l∈star3,l.length<=1000000:=by decide
 exact h2
set_option maxRecDepth 20000 in
set_option maxHeartbeats 2000000 in
theorem lookWild_walk (l:List UInt8) (lo:Option Addr) (ll lc:Nat) (q:List UInt8) (qo:Option Addr) (ql qc:Nat) (w:World) (hll:Hid (l.length=ll)) (hls:SlL w lo l) (hlm:ll<=9223372036854775807) (hql:Hid (q.length=ql)) (hqs:SlL w qo q) (hqm:ql<=9223372036854775807) :
 Calls Tryz.prog 9 #[.slice lo ll lc,.slice qo ql qc] w fun e w'=>e = .returned (.bool true)/\Below w.heap.size w w':=by
 have HLS:=hide hls
 have HQS:=hide hqs
 obtain⟨B,hBe⟩ : ∃ B,B=w.heap.size:=⟨_,rfl⟩
 have HBe:=hide hBe
 have HBle:Hid (B<=w.heap.size):=hide (Nat.le_of_eq hBe)
 have hT0:True:=trivial
 rw[<- hBe]
 clear hls hqs hBe
 by_cases h6:6<ll
 ·have h6i:(6:Int)<(ll:Int):=by omega
  go_enter Tryz.func9,Tryz.ntmps9
  go_wp2_with (go_at_call 35;refine (knownL_any w).mono ?_;rintro e w1 ⟨rfl,hB1⟩)
  go_ret
  exact⟨rfl,hB1.mono HBle.out⟩
 ·have h6i : ¬ ((6:Int)<(ll:Int)):=by omega
  by_cases h4:4<ql
  ·have h4i:(4:Int)<(ql:Int):=by omega
   go_enter Tryz.func9,Tryz.ntmps9
   go_wp2_with (go_at_call 35;refine (knownL_any w).mono ?_;rintro e w1 ⟨rfl,hB1⟩)
   go_ret
   exact⟨rfl,hB1.mono HBle.out⟩
  ·have h4i : ¬ ((4:Int)<(ql:Int)):=by omega
   go_enter Tryz.func9,Tryz.ntmps9
   go_wp2_with (first
    | (go_at_call 44;go_loud (have hput:=zput_live (HZ3.out.bel HB35.out) (hide exA_small) star3 (some ⟨w3.heap.size,0,none⟩) 3 3 (hide rfl) (Nat.le_refl _) HST5.out (hide star3_small) 1 1 5 [1,1,1,1] (some ⟨w3.heap.size+1,0,none⟩) 4 4 (hide rfl) HDA5.out (fun h=>by cases h) (Nat.le_refl _) (by decide) (by decide) (by decide);unfold recV at hput;refine hput.mono ?_;rintro e w6 ⟨rfl,hZ6,hK6⟩;have HZ6:=hide hZ6;have HB6:=hide (HB3.out.trans ((HB35.out.mono HBz3.out).trans (hK6.below (fun i hi=>hi) (Nat.le_trans HBz3.out HB35.out.size))));have HST6:=hide (hK6.ss _ _ HST5.out);clear hput hZ6 hK6))
    | (go_at_call 12;go_loud (refine (znew_live (fun i=>i<B) w2 (fun i hi=>by have:=HB2.out.size;have:=HBe.out;omega) Z.exA a2 _ c2 (hide rfl) HS2.out (hide exA_small)).mono ?_;rintro e w3 ⟨V,rfl,_,hZ3,hB3⟩;rw[exA_low] at hZ3;have HZ3:=hide hZ3;have HB3:=hide ((HB2.out.trans (hB3.mono HB2.out.size)).mono HBle.out);have HBz3:=hide (Nat.le_trans HBle.out (Nat.le_trans HB2.out.size hB3.size));have HB35:Hid (Below w3.heap.size w3 ((w3.alloc (.cells #[.string { data := #[42] },.string { data := #[119] },.string { data := #[101,120,97,109,112,108,101] }] 9)).alloc (.cells #[.int .u8 1,.int .u8 1,.int .u8 1,.int .u8 1] 5))):=hide (((Below.refl _ w3).alloc (Nat.le_refl _) _).alloc (by simp) _);have HST5:=hide ((SlS.litm w3 star3 #[.string { data := #[42] },.string { data := #[119] },.string { data := #[101,120,97,109,112,108,101] }] 9 (0,0) rfl).alloc (.cells #[.int .u8 1,.int .u8 1,.int .u8 1,.int .u8 1] 5));have hda:=SlL.litm (w3.alloc (.cells #[.string { data := #[42] },.string { data := #[119] },.string { data := #[101,120,97,109,112,108,101] }] 9)) [1,1,1,1] #[.int .u8 1,.int .u8 1,.int .u8 1,.int .u8 1] 5 (0,0) rfl;rw[World.size_alloc] at hda;have HDA5:=hide hda;clear hda hZ3 hB3))
    | (go_at_call 13;go_loud (refine (apex_any w1).mono ?_;rintro e w2 ⟨v2,rfl,hO2,hB2⟩;obtain⟨a2,c2,rfl,hS2,_,hc2,_⟩:=hO2.open;have HS2:=hide hS2;have HB2:=hide (HB1.out.trans (hB2.mono HB1.out.size));clear hO2 hS2 hB2))
    | (go_at_call 35;go_loud (refine (knownL_any w).mono ?_;rintro e w1 ⟨rfl,hB1⟩;have HB1:=hide hB1;clear hB1))
    | fail)
   obtain⟨gs,hgs⟩ : ∃ gs,gs=w3.heap.size:=⟨_,rfl⟩
   rw[<- hgs] at HST6 ⊢
   have HZ6':Hid (ZLive (fun i=>i<B) w6 V Z.exA L0w 6):=hide (HZ6.out.mono (by omega))
   clear hgs HZ6 HB3 HBz3 HB35 HST5 HDA5 HZ3 HB2 HS2 HB1
   go_loopw [7] (fun i wr => ∃ (j:Nat) (L:List Z.R),i = .int .i64 (j:Int)/\j<=ll/\ZLive (fun i=>i<B) wr V Z.exA L (6+j*6)/\WL L/\Below B w wr/\SlS wr (some ⟨gs,0,none⟩) star3) (fun i _=>ll - (intOf i).toNat)
   case atStart=>exact⟨0,L0w,rfl,by omega,HZ6'.out,WL.zero,HB6.out,HST6.out⟩
   case round =>
    obtain⟨j,L,rfl,hj,hZ,hWL,hB,hST⟩:=hrel
    have HZ:=hide hZ
    have HWL:=hide hWL
    have HB:=hide hB
    have HST:=hide hST
    have HBz:Hid (B<=wr.heap.size):=hide (Nat.le_trans HBle.out hB.size)
    clear hZ hWL hB hST HZ6' HB6 HST6
    by_cases hlt:j<ll
    ·have hjl:j<l.length:=by have:=hll.out;omega
     obtain⟨b,o,rfl,hblt,hcl0⟩:=HLS.out (by omega)
     obtain⟨x,hx⟩ : ∃ x,x=(l.getD j 0).toNat:=⟨_,rfl⟩
     have hcl:w.cell? ⟨b,o+j,none⟩=some (.int .u8 (x:Int)):=by rw[hx];exact hcl0 j hjl
     have hx256:x<256:=by rw[hx];exact (l.getD j 0).toNat_lt
     obtain⟨i,hi⟩ : ∃ i,i=x % 4:=⟨_,rfl⟩
     obtain⟨i1,hi1⟩ : ∃ i1,i1=i+1:=⟨_,rfl⟩
     obtain⟨k,hk⟩ : ∃ k,k=x / 4 % 2:=⟨_,rfl⟩
     obtain⟨k1,hk1⟩ : ∃ k1,k1=k+1:=⟨_,rfl⟩
     have e1:(x:Int).tmod 4=(i:Int):=by rw[Int.tmod_eq_emod_of_nonneg (by omega)];omega
     have e2:IntKind.u8.wrap ((i:Int)+1)=(i1:Int):=by rw[IntKind.wrap_u8];omega
     have e3:(IntKind.u8.wrap ((x:Int) / 4)).tmod 2=(k:Int):=by rw[IntKind.wrap_u8,Int.tmod_eq_emod_of_nonneg (by omega)];omega
     have e4:IntKind.u8.wrap ((k:Int)+1)=(k1:Int):=by rw[IntKind.wrap_u8];omega
     have hi4:i<4:=by omega
     have hk2:k<2:=by omega
     obtain⟨c1,hc1⟩ : ∃ c1,c1=abcd i:=⟨_,rfl⟩
     obtain⟨c2,hc2⟩ : ∃ c2,c2=xyL k:=⟨_,rfl⟩
     have hs1:=fun W=>sl_abcd i i1 hi4 hi1 W
     have hs2:=fun W=>sl_xy k k1 hk2 hk1 W
     rw[<- hc1] at hs1
     rw[<- hc2] at hs2
     have hco:=abcd_ok i hi4
     rw[<- hc1] at hco
     obtain⟨L',hL'⟩ : ∃ L',L'=(Z.putR Z.exA L (txtN c1 c2) 16 1 5 [0]).2.2:=⟨_,rfl⟩
     have HWL':Hid (WL L'):=hide (by rw[hL'];exact HWL.out.put c1 c2 hco.1 hco.2 1 5 [0])
     obtain⟨p1,hp1⟩ : ∃ p1,p1=(Z.putR Z.exA L (txtN c1 c2) 16 1 5 [0]).1:=⟨_,rfl⟩
     obtain⟨p2,hp2⟩ : ∃ p2,p2=(Z.putR Z.exA L (txtN c1 c2) 16 1 5 [0]).2.1:=⟨_,rfl⟩
     have HPUT:Hid (∀ W gA gD,Below wr.heap.size wr W->SlS W (some ⟨gA,0,none⟩) (txtN c1 c2)->SlL W (some ⟨gD,0,none⟩) [0]->Calls Tryz.prog 44 #[.pointer (some ⟨V,0,none⟩),.agg #[.slice (some ⟨gA,0,none⟩) 4 4,.int .u16 16,.int .u16 1,.int .u32 5,.slice (some ⟨gD,0,none⟩) 1 1]] W fun e w'=>e = .returned (.tuple #[.bool p1,.int .i64 (p2:Int)])/\ZLive (fun i=>i<B) w' V Z.exA L' (6+j*6+4+1)/\ZKp (fun i=>i<B) W w'):=hide fun W gA gD hW hA hD=>by
      have h:=zput_live (HZ.out.bel hW) (hide exA_small) (txtN c1 c2) (some ⟨gA,0,none⟩) 4 4 (hide rfl) (Nat.le_refl _) hA (hide (txt_small c1 c2)) 16 1 5 [0] (some ⟨gD,0,none⟩) 1 1 (hide rfl) hD (fun h=>by cases h) (Nat.le_refl _) (by decide) (by decide) (by omega)
      unfold recV at h
      rw[<- hp1, <- hp2, <- hL'] at h
      exact h
     have hji:(j:Int)<(ll:Int):=by omega
     clear hx hi hi1 hk hk1 hc1 hc2 hco hL' hp1 hp2 hcl0
     go_wp2
     have SAll2:Hid (∀ W,Below B w W->W.cell? ⟨b,o+j,none⟩=some (.int .u8 (x:Int))):=hide fun W hW=>(hW.cell (p:=⟨b,o+j,none⟩) (by rw[HBe.out];exact hblt)).trans hcl
     have SAll:Hid (∀ W,Below wr.heap.size wr W->W.cell? ⟨b,o+j,none⟩=some (.int .u8 (x:Int))):=hide fun W hW=>SAll2.out W (HB.out.trans (hW.mono HBz.out))
     refine wp_region_X (S:=fun w'=>w'.cell? ⟨b,o+j,none⟩=some (.int .u8 (x:Int))) (jS:=1000) (by kernel_rfl) ?_
     have BA:Hid (Below wr.heap.size wr wr.drew):=hide ((Below.refl _ wr).drew)
     have SA:=hide (SAll.out _ BA.out)
     generalize wr.drew=w1 at BA SA ⊢
     refine tk gt0 SA.out ?_
     refine tk gt1 SA.out ?_
     refine tk gt2 SA.out ?_
     refine tk gt3 SA.out ?_
     refine tk gt4 SA.out ?_
     refine tk gt5 SA.out ?_ (v := .int .u8 (i:Int)) (hy:=fun wq _=>by go_simp)
     refine tk gt6 SA.out ?_
     refine tk gt7 SA.out ?_
     refine tk gt8 SA.out ?_
     refine tk gt9 SA.out ?_
     refine tk gt10 SA.out ?_ (v := .int .u8 (i:Int)) (hy:=fun wq _=>by go_simp)
     refine tk gt11 SA.out ?_ (v := .int .u8 (i1:Int)) (hy:=fun wq _=>by go_simp)
     refine tk gt12 SA.out ?_ (v := .string ⟨#[c1]⟩) (hy:=fun wq _=>by go_simp)
     refine tk gt13 SA.out ?_
     refine tk gt14 SA.out ?_
     refine tk gt15 SA.out ?_
     refine tk gt16 SA.out ?_
     refine tk gt17 SA.out ?_
     refine tk gt18 SA.out ?_ (v := .int .u8 (k:Int)) (hy:=fun wq _=>by go_simp)
     refine tk gt19 SA.out ?_
     refine tk gt20 SA.out ?_
     refine tk gt21 SA.out ?_
     refine tk gt22 SA.out ?_
     refine tk gt23 SA.out ?_
     refine tk gt24 SA.out ?_ (v := .int .u8 (k:Int)) (hy:=fun wq _=>by go_simp)
     refine tk gt25 SA.out ?_ (v := .int .u8 (k1:Int)) (hy:=fun wq _=>by go_simp)
     refine tk gt26 SA.out ?_ (v := .string ⟨#[c2]⟩) (hy:=fun wq _=>by go_simp)
     refine wpAnyX_ready (rs := [27,28]) (by kernel_rfl) (by simp) (AllX.cons gt27 (fun K hKK=>?br1) (AllX.cons gt28 (fun K hKK=>?br2) AllX.nil))
     case br1 =>
      go_simp
      have hSA1:=SlS.litm w1 (txtN c1 c2) #[.string ⟨#[c1]⟩,.string ⟨#[c2]⟩,.string { data := #[119] },.string { data := #[101,120,97,109,112,108,101] }] 9 (0,0) rfl
      have SB:=hide (SAll.out _ (BA.out.alloc BA.out.size (.cells #[.string ⟨#[c1]⟩,.string ⟨#[c2]⟩,.string { data := #[119] },.string { data := #[101,120,97,109,112,108,101] }] 9)))
      refine kk hKK (Or.inr SB.out) ?_
      clear hKK SA
      refine rdy gt28 (fun K hKK=>?_)
      go_simp
      have HD:=hide (SlL.litm (w1.alloc (.cells #[.string ⟨#[c1]⟩,.string ⟨#[c2]⟩,.string { data := #[119] },.string { data := #[101,120,97,109,112,108,101] }] 9)) [0] #[.int .u8 0] 5 (0,0) rfl)
      have HA:=hide (hSA1.alloc (.cells #[.int .u8 0] 5))
      have HBN:=hide ((BA.out.alloc BA.out.size (.cells #[.string ⟨#[c1]⟩,.string ⟨#[c2]⟩,.string { data := #[119] },.string { data := #[101,120,97,109,112,108,101] }] 9)).alloc (Nat.le_trans BA.out.size (by simp)) (.cells #[.int .u8 0] 5))
      have SC:=hide (SAll.out _ HBN.out)
      refine kk hKK (Or.inr SC.out) ?_
      clear hKK hSA1 SB
      refine tk gt29 SC.out ?_
      refine rdy gt30 (fun K hKK=>?_)
      have hput:=HPUT.out _ _ _ HBN.out HA.out HD.out
      simp only[World.size_alloc] at hput
      refine step_fng (by rfl) _ _ (by go_simp) hput (by rintro e w' ⟨rfl,_⟩;exact⟨_,rfl⟩) ?_
      rintro _ w6 ⟨he,hZ6,hK6⟩
      cases he
      have HZ6:=hide hZ6
      have HK6:=hide hK6
      have HB6:=hide (HB.out.trans ((HBN.out.mono HBz.out).trans (hK6.below (fun i hi=>hi) (Nat.le_trans HBz.out HBN.out.size))))
      have HST6:=hide (hK6.ss _ _ (HST.out.below HBN.out (Nat.le_refl _)))
      have SD:=hide (SAll2.out _ HB6.out)
      refine kk hKK (Or.inr SD.out) ?_
      clear hKK hput hZ6 hK6
      refine wpAnyX_done (by kernel_rfl) ?_ _
      go_wp2
      go_roundw
      case rel=>exact⟨j+1,L',by go_num,by omega,HZ6.out.mono (by omega),HWL'.out,HB6.out,HST6.out⟩
      case measure=>simp[intOf];omega
     case br2 =>
      go_simp
      have hSD1:=SlL.litm w1 [0] #[.int .u8 0] 5 (0,0) rfl
      have SB:=hide (SAll.out _ (BA.out.alloc BA.out.size (.cells #[.int .u8 0] 5)))
      refine kk hKK (Or.inr SB.out) ?_
      clear hKK SA
      refine rdy gt27 (fun K hKK=>?_)
      go_simp
      have HA:=hide (SlS.litm (w1.alloc (.cells #[.int .u8 0] 5)) (txtN c1 c2) #[.string ⟨#[c1]⟩,.string ⟨#[c2]⟩,.string { data := #[119] },.string { data := #[101,120,97,109,112,108,101] }] 9 (0,0) rfl)
      have HD:=hide (hSD1.alloc (.cells #[.string ⟨#[c1]⟩,.string ⟨#[c2]⟩,.string { data := #[119] },.string { data := #[101,120,97,109,112,108,101] }] 9))
      have HBN:=hide ((BA.out.alloc BA.out.size (.cells #[.int .u8 0] 5)).alloc (Nat.le_trans BA.out.size (by simp)) (.cells #[.string ⟨#[c1]⟩,.string ⟨#[c2]⟩,.string { data := #[119] },.string { data := #[101,120,97,109,112,108,101] }] 9))
      have SC:=hide (SAll.out _ HBN.out)
      refine kk hKK (Or.inr SC.out) ?_
      clear hKK hSD1 SB
      refine tk gt29 SC.out ?_
      refine rdy gt30 (fun K hKK=>?_)
      have hput:=HPUT.out _ _ _ HBN.out HA.out HD.out
      simp only[World.size_alloc] at hput
      refine step_fng (by rfl) _ _ (by go_simp) hput (by rintro e w' ⟨rfl,_⟩;exact⟨_,rfl⟩) ?_
      rintro _ w6 ⟨he,hZ6,hK6⟩
      cases he
      have HZ6:=hide hZ6
      have HK6:=hide hK6
      have HB6:=hide (HB.out.trans ((HBN.out.mono HBz.out).trans (hK6.below (fun i hi=>hi) (Nat.le_trans HBz.out HBN.out.size))))
      have HST6:=hide (hK6.ss _ _ (HST.out.below HBN.out (Nat.le_refl _)))
      have SD:=hide (SAll2.out _ HB6.out)
      refine kk hKK (Or.inr SD.out) ?_
      clear hKK hput hZ6 hK6
      refine wpAnyX_done (by kernel_rfl) ?_ _
      go_wp2
      go_roundw
      case rel=>exact⟨j+1,L',by go_num,by omega,HZ6.out.mono (by omega),HWL'.out,HB6.out,HST6.out⟩
      case measure=>simp[intOf];omega
    ·obtain rfl:j=ll:=by omega
     obtain⟨wz,hwz⟩ : ∃ wz,wz=wr:=⟨_,rfl⟩
     subst hwz
     go_wp2
     go_loopw [8,9] (fun v i wr => ∃ j2:Nat,i = .int .i64 (j2:Int)/\j2<=ql/\Below wz.heap.size wz wr/\OwnS wr wz.heap.size v ((((q.take j2).map ltr)).map (fun x => [x]))) (fun _ i _=>ql - (intOf i).toNat)
     case atStart=>exact⟨0,rfl,by omega,Below.refl _ _,by simpa using OwnS.nil wz wz.heap.size⟩
     case round =>
      obtain⟨j2,rfl,hj2,hBI,hO⟩:=hrel
      have HBI:=hide hBI
      have HO:=hide hO
      clear hBI hO
      by_cases hlt2:j2<ql
      ·have hjq:j2<q.length:=by have:=hql.out;omega
       obtain⟨b,o,rfl,hblt,hcl0⟩:=HQS.out (by omega)
       obtain⟨x,hx⟩ : ∃ x,x=(q.getD j2 0).toNat:=⟨_,rfl⟩
       have hcl:w.cell? ⟨b,o+j2,none⟩=some (.int .u8 (x:Int)):=by rw[hx];exact hcl0 j2 hjq
       have hx256:x<256:=by rw[hx];exact (q.getD j2 0).toNat_lt
       obtain⟨i,hi⟩ : ∃ i,i=x % 5:=⟨_,rfl⟩
       obtain⟨i1,hi1⟩ : ∃ i1,i1=i+1:=⟨_,rfl⟩
       have e1:(x:Int).tmod 5=(i:Int):=by rw[Int.tmod_eq_emod_of_nonneg (by omega)];omega
       have e2:IntKind.u8.wrap ((i:Int)+1)=(i1:Int):=by rw[IntKind.wrap_u8];omega
       have hi5:i<5:=by omega
       obtain⟨c1,hc1⟩ : ∃ c1,c1=abxyz i:=⟨_,rfl⟩
       have hs1:=fun W=>sl_abxyz i i1 hi5 hi1 W
       rw[<- hc1] at hs1
       obtain⟨qs,hqs⟩ : ∃ qs,qs=((q.take j2).map ltr).map (fun x => [x]):=⟨_,rfl⟩
       have HQT:Hid (((q.take (j2+1)).map ltr).map (fun x => [x])=qs ++ [[c1]]):=hide (by
        have e:q[j2]?=some (q.getD j2 0):=by rw[List.getD_eq_getElem?_getD,List.getElem?_eq_getElem hjq];rfl
        rw[hqs,List.take_add_one,e,List.map_append,List.map_append]
        show _ ++ [[ltr (q.getD j2 0)]]=_
        unfold ltr
        rw[<- hx, <- hi, <- hc1])
       have hqsl:qs.length<=1000:=by rw[hqs,List.length_map,List.length_map,List.length_take];omega
       rw[<- hqs] at HO
       have hji2:(j2:Int)<(ql:Int):=by omega
       clear hx hi hi1 hc1 hcl0 hqs
       go_wp2
       have SAll2:Hid (∀ W,Below wz.heap.size wz W->W.cell? ⟨b,o+j2,none⟩=some (.int .u8 (x:Int))):=hide fun W hW=>((HB.out.trans (hW.mono HBz.out)).cell (p:=⟨b,o+j2,none⟩) (by rw[HBe.out];exact hblt)).trans hcl
       have SAll:Hid (∀ W,Below wr.heap.size wr W->W.cell? ⟨b,o+j2,none⟩=some (.int .u8 (x:Int))):=hide fun W hW=>SAll2.out W (HBI.out.trans (hW.mono HBI.out.size))
       refine wp_region_X (S:=fun w'=>w'.cell? ⟨b,o+j2,none⟩=some (.int .u8 (x:Int))) (jS:=1000) (by kernel_rfl) ?_
       have BA:Hid (Below wr.heap.size wr wr.drew):=hide ((Below.refl _ wr).drew)
       have SA:=hide (SAll.out _ BA.out)
       generalize wr.drew=w1 at BA SA ⊢
       refine tk gt0 SA.out ?_
       refine tk gt1 SA.out ?_
       refine tk gt2 SA.out ?_
       refine tk gt3 SA.out ?_
       refine tk gt4 SA.out ?_
       refine tk gt5 SA.out ?_ (v := .int .u8 (i:Int)) (hy:=fun wq _=>by go_simp)
       refine tk gt6 SA.out ?_
       refine tk gt7 SA.out ?_
       refine tk gt8 SA.out ?_
       refine tk gt9 SA.out ?_
       refine tk gt10 SA.out ?_ (v := .int .u8 (i:Int)) (hy:=fun wq _=>by go_simp)
       refine tk gt11 SA.out ?_ (v := .int .u8 (i1:Int)) (hy:=fun wq _=>by go_simp)
       refine tk gt12 SA.out ?_ (v := .string ⟨#[c1]⟩) (hy:=fun wq _=>by go_simp)
       refine rdy gt13 (fun K hKK=>?_)
       go_simp
       have hone:=RowAt.new w1 9 #[.string ⟨#[c1]⟩]
       have HBN:=hide (BA.out.alloc BA.out.size (.cells #[.string ⟨#[c1]⟩] 9))
       have SB:=hide (SAll.out _ HBN.out)
       have HONE:=hide (hone.cell 0)
       refine kk hKK (Or.inr SB.out) ?_
       clear hKK SA hone
       refine rdy gt14 (fun K hKK=>?_)
       refine step_appS rfl (.tmp 74) (.tmp 87) rfl wz.heap.size _ qs (by rfl) (HO.out.below HBN.out) ⟨w1.heap.size,0,none⟩ 1 [c1] (by rfl) HONE.out (by omega) (by exact Nat.le_trans HBI.out.size HBN.out.size) ?_
       intro v7 w7 hO7 hG7
       have HB7:=hide (HBI.out.trans ((HBN.out.mono HBI.out.size).trans (grown_belowS (HO.out.below HBN.out) hG7 (Below.refl _ _) (by exact Nat.le_trans HBI.out.size HBN.out.size))))
       have HO7:=hide hO7
       have SC:=hide (SAll2.out _ HB7.out)
       refine kk hKK (Or.inr SC.out) ?_
       clear hKK hO7 hG7
       refine tk gt15 SC.out ?_
       refine wpAnyX_done (by kernel_rfl) ?_ _
       go_wp2
       go_roundw
       case rel =>
        refine⟨j2+1,by go_num,by omega,HB7.out,?_⟩
        rw[HQT.out]
        exact HO7.out
       case measure=>simp[intOf];omega
      ·obtain rfl:j2=ql:=by omega
       have e:q.take j2=q:=List.take_of_length_le (by have:=hql.out;omega)
       rw[e] at HO
       obtain⟨qs,hqs⟩ : ∃ qs,qs=q.map ltr:=⟨_,rfl⟩
       rw[<- hqs] at HO
       have hok : ∀ x∈qs,okLet x:=fun x hx=>by
        rw[hqs] at hx
        obtain⟨y,_,rfl⟩:=List.mem_map.1 hx
        exact abxyz_ok _ (Nat.mod_lt _ (by decide))
       have hqsl:qs.length<=4:=by rw[hqs,List.length_map,hql.out];omega
       obtain⟨n,hn⟩ : ∃ n,n=askN qs:=⟨_,rfl⟩
       obtain⟨nl,hnl⟩ : ∃ nl,nl=n.length:=⟨_,rfl⟩
       have hnl6:nl<=6:=by rw[hnl,hn,ask_len];omega
       have hnl2:2<=nl:=by rw[hnl,hn,ask_len];omega
       have HOK:=hide hok
       have HN:=hide hn
       have HNL:=hide hnl
       have HQSL:=hide hqsl
       clear e hqs hok hn hnl hqsl
       have HBN:=hide ((Below.refl _ wr).alloc (Nat.le_refl _) (.cells #[.string { data := #[119] },.string { data := #[101,120,97,109,112,108,101] }] 9))
       go_upto_region 18 with (at_builtin;go_loud (refine wpList_append_SN rfl (.tmp 89) (.tmp 90) rfl wz.heap.size _ (qs.map (fun x => [x])) rfl (HO.out.below HBN.out) (some ⟨wr.heap.size,0,none⟩) 2 2 [[119],exL] rfl rfl (SlS.litm wr [[119],exL] #[.string { data := #[119] },.string { data := #[101,120,97,109,112,108,101] }] 9 (0,0) rfl) (fun h=>by cases h) (by have:=HQSL.out;rw[List.length_map];omega) (by exact Nat.le_trans HBI.out.size HBN.out.size) ?_;intro v8 w8 hO8 hG8;have HB8:=hide (HBI.out.trans ((HBN.out.mono HBI.out.size).trans (grown_belowS (HO.out.below HBN.out) hG8 (Below.refl _ _) (by exact Nat.le_trans HBI.out.size HBN.out.size))));obtain⟨a8,c8,hv8,hS8,_,hc8,_⟩:=hO8.open;have e8:qs.map (fun x => [x]) ++ [[119],exL]=n:=(by rw[HN.out];rfl);rw[e8] at hv8 hS8 hc8;rw[<- HNL.out] at hv8 hc8;subst hv8;have HS8:=hide hS8;have HST8:=hide (HST.out.below HB8.out (Nat.le_refl _));clear hO8 hG8 hS8 e8))
       have hin:N.within n Z.exA=true:=by rw[HN.out];exact ask_in HOK.out
       have hsm:N.Small n:=by rw[HN.out];exact ask_small (by have:=HQSL.out;omega)
       have hlow:N.lowN n=n:=by rw[HN.out];exact low_ask HOK.out
       have hZ8:=HZ.out.bel HB8.out
       have hKb:6+j*6<=1000000:=by omega
       have hnocut : ∀ d,d<=n.length -> ¬ cutL Z.exA L (path n) d:=fun d _ hc=>hc.2 (HWL.out.no_cut _)
       have hno1:1 ∉ Z.typesAt L (path n):=by rw[HN.out];exact HWL.out.no_a HOK.out
       have hhasc : ∀ W,Below w8.heap.size w8 W->Calls Tryz.prog 30 #[.pointer (some ⟨V,0,none⟩),.slice a8 nl c8] W fun e w'=>e = .returned (.bool (Z.has L (path n)))/\Below W.heap.size W w':=fun W hW=>zhas_live (hZ8.bel hW) n a8 nl c8 (hide HNL.out.symm) (HS8.out.below hW (Nat.le_refl _)) (hide hsm)
       have fin : ∀ W,Below w8.heap.size w8 W->Below B w W:=fun W hW=>HB.out.trans ((HB8.out.mono HBz.out).trans (hW.mono (Nat.le_trans HBz.out HB8.out.size)))
       have FIN:=hide fin
       by_cases hhas:Z.has L (path n)=true
       ·have hfind:Calls Tryz.prog 39 #[.pointer (some ⟨V,0,none⟩),.slice a8 nl c8,.int .u16 1] w8 fun e w' => ∃ a9 q9 c9 na nc,e = .returned (.agg #[.int .i64 3,.slice none 0 0,.slice a9 q9 c9,.slice none 0 0,.slice none 0 0,.slice na nl nc])/\Below w8.heap.size w8 w':=by
         by_cases hty:Z.typesAt L (path n) = []
         ·refine (find_has hZ8 hKb n a8 nl c8 (hide HNL.out.symm) HS8.out hc8 (hide hsm) hin 1 hnocut hty hhas).mono ?_
          rintro e w' ⟨v',na,nc,rfl,hO,_,hB'⟩
          obtain⟨a9,c9,rfl,_⟩:=hO.slice
          exact⟨a9,_,c9,na,nc,rfl,hB'⟩
         ·refine (find_other hZ8 hKb n a8 nl c8 (hide HNL.out.symm) HS8.out hc8 (hide hsm) hin 1 (by decide) hnocut hty hno1 (HWL.out.no_alias _)).mono ?_
          rintro e w' ⟨v',na,nc,rfl,hO,_,hB'⟩
          obtain⟨a9,c9,rfl,_⟩:=hO.slice
          exact⟨a9,_,c9,na,nc,rfl,hB'⟩
        rw[hhas] at hhasc
        have HF:=hide hfind
        have HH:=hide hhasc
        clear hfind hhasc hZ8 hnocut hno1 hhas hin hsm hlow fin
        go_wp2_with (first
         | (go_at_call 39;go_loud (refine HF.out.mono ?_;rintro e w9 ⟨a9,q9,c9,na,nc,rfl,hB9⟩;have HB9:=hide (hB9.alloc hB9.size (.cells #[.int .i64 3,.slice none 0 0,.slice a9 q9 c9,.slice none 0 0,.slice none 0 0,.slice na nl nc] 70));clear hB9))
         | (go_at_call 30;go_loud (refine (HH.out _ HB9.out).mono ?_;rintro e w10 ⟨rfl,hB10⟩;obtain⟨r0,r1,r2,r3,r4,_⟩:=fd_facts ((RowAt.new w9 70 #[.int .i64 3,.slice none 0 0,.slice a9 q9 c9,.slice none 0 0,.slice none 0 0,.slice na nl nc]).below hB10 (by simp));have HB10:=hide (HB9.out.trans (hB10.mono HB9.out.size));clear hB10))
         | fail)
        go_ret
        exact⟨rfl,FIN.out _ HB10.out⟩
       ·have hh:Z.has L (path n)=false:=by
         cases h:Z.has L (path n) with
         | false=>rfl
         | true=>exact absurd h hhas
        rw[hh] at hhasc
        have hty:Z.typesAt L (path n) = []:=Classical.byContradiction fun h=>hhas (has_of_types h)
        obtain⟨c,hc⟩:=exists_cl L n (by rw[<- HNL.out];omega)
        have hc2:2<=c:=by rw[HN.out] at hc;exact HWL.out.cl2 HOK.out hc
        have hclo:=fun W (hW:Below w8.heap.size w8 W)=>lclosest_any (hZ8.bel hW) n a8 nl c8 (hide HNL.out.symm) (HS8.out.below hW (Nat.le_refl _)) (HS8.out.flat (by rw[<- HNL.out];omega)) hc8 (hide hsm) hin
        have hclo2 : ∀ W,Below w8.heap.size w8 W->Calls Tryz.prog 41 #[.pointer (some ⟨V,0,none⟩),.slice a8 nl c8] W fun e w' => ∃ a1 c1 a2 n2 c2,e = .returned (.tuple #[.slice a1 c c1,.slice a2 n2 c2])/\Below W.heap.size W w':=fun W hW=>by
         refine (hclo W hW).mono ?_
         rintro e w' ⟨c',v1,v2,rfl,hc',hO1,hO2,hB'⟩
         obtain rfl:=hc.uniq hc'
         obtain⟨a1,c1,hv1,_⟩:=hO1.open
         obtain⟨a2,c2,hv2,_⟩:=hO2.open
         have e1:(n.drop (nl - c)).length=c:=by rw[List.length_drop, <- HNL.out];have:=hc.2.1;have:=HNL.out;omega
         rw[e1] at hv1
         subst hv1;subst hv2
         exact⟨a1,c1,a2,_,c2,rfl,hB'⟩
        have hnb:nl<=100000:=by omega
        by_cases hc22:c=2
        ·subst hc22
         have hfind:Calls Tryz.prog 39 #[.pointer (some ⟨V,0,none⟩),.slice a8 nl c8,.int .u16 1] w8 fun e w' => ∃ g9 c9 xa xc aw cw na nc,e = .returned (.agg #[.int .i64 0,.slice (some ⟨g9,0,none⟩) 1 c9,.slice none 0 0,.slice none 0 0,.slice aw 1 cw,.slice na nl nc])/\w'.cell? ⟨g9,0,none⟩=some (.slice xa nl xc)/\g9<w'.heap.size/\SlS w' xa n/\OwnL 28 1 EN w' w8.heap.size (.slice aw 1 cw) [star3]/\Below w8.heap.size w8 w':=by
          refine (find_wild hZ8 hKb n a8 nl c8 (hide HNL.out.symm) HS8.out hc8 (hide hsm) hin 1 (by decide) (by decide) hnocut hnb hty hh (fun c' hc'=>?_)).mono ?_
          ·obtain rfl:=hc.uniq hc'
           rw[HN.out];exact HWL.out.star_a _
          ·rintro e w' ⟨m,v',aw,cw,na,nc,hm,rfl,hO,hOw,_,hB'⟩
           obtain rfl:=hc.uniq hm
           have hst:starN n 2=star3:=by rw[HN.out];exact star_two
           rw[hst] at hO hOw
           have hne:(Z.setAt L (path star3) 1 = [])=False:=eq_false fun h=>by
            obtain⟨x,h1,h2,h3⟩:=HWL.out.2
            have:=Z.mem_setAt.2 ⟨h1,h2,h3⟩
            rw[h] at this;cases this
           rw[setsP_one hne] at hO
           obtain⟨a9,c9,hv,_,_⟩:=hO.slice
           have hv:v' = .slice a9 1 c9:=hv
           subst hv
           obtain⟨g9,rfl,_,hg9,_,hel⟩:=hO.get (by simp)
           obtain⟨us,_,⟨xa,xc,da,dc,bse,rfl,hT,_,_⟩,hcell⟩:=hel 0 _ rfl
           have hn0:(PSet.as (N.lowN n) (setP L star3 1)).n=n:=hlow
           have h0:=hcell 0 (by omega)
           rw[hn0] at h0 hT
           rw[<- HNL.out] at h0
           exact⟨g9,c9,xa,xc,aw,cw,na,nc,rfl,h0,hg9,hT.1,hOw,hB'⟩
         have HF:=hide hfind
         have HH:=hide hhasc
         have HC:=hide hclo2
         have hnl9:nl<=9223372036854775807:=by omega
         clear hfind hhasc hclo hclo2 hZ8 hnocut hno1 hhas hin hsm hlow fin hty hh hc hc2
         go_wp2_with (first
          | (go_at_call 39;go_loud (refine HF.out.mono ?_;rintro e w9 ⟨g9,c9,xa,xc,aw,cw,na,nc,rfl,hx0,hg9,hxS,hOw,hB9⟩;have hba:Below w9.heap.size w9 (w9.alloc (.cells #[.int .i64 0,.slice (some ⟨g9,0,none⟩) 1 c9,.slice none 0 0,.slice none 0 0,.slice aw 1 cw,.slice na nl nc] 70)):=(Below.refl _ w9).alloc (Nat.le_refl _) _;have HBA:=hide hba;have HB9:=hide (hB9.trans (hba.mono hB9.size));have HX0:=hide hx0;have HG9:=hide hg9;have HXS:=hide hxS;have HOW:=hide hOw;clear hx0 hg9 hxS hOw hB9 hba))
          | (go_at_call 30;go_loud (refine (HH.out _ HB9.out).mono ?_;rintro e w10 ⟨rfl,hB10⟩;have HB10:=hide (HB9.out.trans (hB10.mono HB9.out.size));have HBF:=hide hB10;clear hB10))
          | (go_at_call 41;go_loud (refine (HC.out _ HB10.out).mono ?_;rintro e w11 ⟨a1,d1,a2,n2,d2,rfl,hB11⟩;have hbf:=HBF.out.trans (hB11.mono HBF.out.size);obtain⟨r0,r1,r2,r3,r4,_⟩:=fd_facts ((RowAt.new w9 70 #[.int .i64 0,.slice (some ⟨g9,0,none⟩) 1 c9,.slice none 0 0,.slice none 0 0,.slice aw 1 cw,.slice na nl nc]).below hbf (by simp));have hb911:=HBA.out.trans (hbf.mono HBA.out.size);have x0:w11.cell? ⟨g9,0,none⟩=some (.slice xa nl xc):=(World.cell?_of_block (hb911.block g9 HG9.out)).trans HX0.out;have HB11:=hide (HB10.out.trans (hB11.mono HB10.out.size));have HB911:=hide hb911;have R4:=hide r4;have HFR:=hide ((RowAt.new w9 70 #[.int .i64 0,.slice (some ⟨g9,0,none⟩) 1 c9,.slice none 0 0,.slice none 0 0,.slice aw 1 cw,.slice na nl nc]).below hbf (by simp));clear hbf hb911 hB11))
          | (go_at_call 18;go_loud (have h:=hnames_any [star3] [star3] aw (some ⟨w12.heap.size,0,none⟩) 1 1 cw 1 (w12.alloc (.cells #[.slice (some ⟨gs,0,none⟩) 3 3] 28)) (hide rfl) (hide rfl) (slM_en (HOW.out.bel (fun _ _ h=>h.kb (KB.of_below (HB912.out.alloc HB912.out.size (.cells #[.slice (some ⟨gs,0,none⟩) 3 3] 28)))) (HB912.out.alloc HB912.out.size (.cells #[.slice (some ⟨gs,0,none⟩) 3 3] 28)))) (slM_one (HST8.out.below (HB12.out.alloc HB12.out.size (.cells #[.slice (some ⟨gs,0,none⟩) 3 3] 28)) (Nat.le_refl _))) (by decide) (by decide) (hide one9) (hide one9);rw[decide_eq_true rfl] at h;refine h.mono ?_;rintro e w13 ⟨rfl,hk13⟩;have HB13:Hid (Below w8.heap.size w8 w13):=(by obtain⟨q,rfl⟩:=hk13;exact hide (below_drewN (HB12.out.alloc HB12.out.size _) q));clear h hk13))
          | (go_at_call 29;go_loud (have h:=hname_any n n xa a8 nl nl xc c8 w11 (hide HNL.out.symm) (hide HNL.out.symm) (HXS.out.below HB911.out (Nat.le_refl _)) (HS8.out.below HB11.out (Nat.le_refl _)) hnl9 hnl9;rw[decide_eq_true rfl] at h;refine h.mono ?_;rintro e w12 ⟨rfl,hk12⟩;have HB12:Hid (Below w8.heap.size w8 w12):=(by obtain⟨q,rfl⟩:=hk12;exact hide (below_drewN HB11.out q));have HB912:Hid (Below w9.heap.size w9 w12):=(by obtain⟨q,rfl⟩:=hk12;exact hide (below_drewN HB911.out q));have t4:w12.cell? ⟨w9.heap.size,4,none⟩=some (.slice aw 1 cw):=(by obtain⟨q,rfl⟩:=hk12;exact R4.out);clear h hk12))
          | fail)
         go_ret
         exact⟨rfl,FIN.out _ HB13.out⟩
        ·have hc3:3<=c:=by omega
         have hci:((c:Int) == 2)=false:=by simp;omega
         have hfind:Calls Tryz.prog 39 #[.pointer (some ⟨V,0,none⟩),.slice a8 nl c8,.int .u16 1] w8 fun e w' => ∃ a9 q9 c9 na nc,e = .returned (.agg #[.int .i64 4,.slice none 0 0,.slice a9 q9 c9,.slice none 0 0,.slice none 0 0,.slice na nl nc])/\Below w8.heap.size w8 w':=by
          refine (find_nothing hZ8 hKb n a8 nl c8 (hide HNL.out.symm) HS8.out hc8 (hide hsm) hin hnb 1 hnocut hty hh (fun c' hc'=>?_)).mono ?_
          ·obtain rfl:=hc.uniq hc'
           rw[HN.out] at hc ⊢
           exact HWL.out.star_no hc hc3
          ·rintro e w' ⟨v',na,nc,rfl,hO,_,hB'⟩
           obtain⟨a9,c9,rfl,_⟩:=hO.slice
           exact⟨a9,_,c9,na,nc,rfl,hB'⟩
         have HF:=hide hfind
         have HH:=hide hhasc
         have HC:=hide hclo2
         clear hfind hhasc hclo hclo2 hZ8 hnocut hno1 hhas hin hsm hlow fin hty hh hc hc2
         go_wp2_with (first
          | (go_at_call 39;go_loud (refine HF.out.mono ?_;rintro e w9 ⟨a9,q9,c9,na,nc,rfl,hB9⟩;have HB9:=hide (hB9.alloc hB9.size (.cells #[.int .i64 4,.slice none 0 0,.slice a9 q9 c9,.slice none 0 0,.slice none 0 0,.slice na nl nc] 70));clear hB9))
          | (go_at_call 30;go_loud (refine (HH.out _ HB9.out).mono ?_;rintro e w10 ⟨rfl,hB10⟩;have HB10:=hide (HB9.out.trans (hB10.mono HB9.out.size));have HBF:=hide hB10;clear hB10))
          | (go_at_call 41;go_loud (refine (HC.out _ HB10.out).mono ?_;rintro e w11 ⟨a1,d1,a2,n2,d2,rfl,hB11⟩;obtain⟨r0,r1,r2,r3,r4,_⟩:=fd_facts ((RowAt.new w9 70 #[.int .i64 4,.slice none 0 0,.slice a9 q9 c9,.slice none 0 0,.slice none 0 0,.slice na nl nc]).below (HBF.out.trans (hB11.mono HBF.out.size)) (by simp));have HB11:=hide (HB10.out.trans (hB11.mono HB10.out.size));clear hB11))
          | fail)
         go_ret
         exact⟨rfl,FIN.out _ HB11.out⟩
open Go.ChangeShapes Go.WideShapes Go.ChangeAt Go.WideMaps Go.WideElems Go.RowKit
end Go.Proofs.YtmbcegljmhcdeaaGreat
