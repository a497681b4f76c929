/- lookup.apexAbove, at the apex of the statements. -/
import Derived.Test.YtmbcegljmhcdeaaGreatRdq
import Derived.Deep.Cut
import Derived.Test.YtmbcegljmhcdeaaGreatRpu
import Derived.Test.YtmbcegljmhcdeaaGreatRows
import Derived.Test.YtmbcegljmhcdeaaGreatZlw
import Derived.LaidMore
import Derived.Lay
import Derived.OpenShut
import Derived.ProofKit
import Derived.WalkKit
import Derived.WalkLawsBesides
import Derived.Test.YtmbcegljmhcdeaaGreatDat
import Derived.Stop.Joined
import Derived.Deep.Strs
import Derived.Deep.Fields
import Derived.Deep.RegionHeld3
import Derived.Test.YtmbcegljmhcdeaaGreatSh
import Derived.Test.YtmbcegljmhcdeaaGreatRefI
import Derived.Test.YtmbcegljmhcdeaaGreatSrh
import Derived.Test.YtmbcegljmhcdeaaGreatBwd
import Derived.Laws.Small
namespace Go.Proofs.YtmbcegljmhcdeaaGreat
set_option maxRecDepth 5000
open Go.RowKit
set_option maxRecDepth 100000 in
set_option maxHeartbeats 1500000 in
theorem mPut_name (w:World) (base m:Nat) (A:List (List UInt8)) (L:List Z.R) (hR:RZAt w base m A L) (hA:Hid (N.Small A)) (n:List (List UInt8)) (na:Option Addr) (nl nc:Nat) (hl:Hid (n.length=nl)) (hnc:nl<=nc) (hs:SlS w na n) (hm:Hid (N.Small n)) (t cl ttl:Nat) (d:List UInt8) (da:Option Addr) (dl dc:Nat) (_hdl:Hid (d.length=dl)) (hsd:SlL w da d) (_hnd:da=none->dc=0) (_hdc:dl<=dc) (_h8:dl<=8192) (hbad:N.chk n≠0\/N.within n A=false) :
 Calls Tryz.prog 45 #[.pointer (some ⟨m,0,none⟩),recV na nl nc t cl ttl da dl dc] w fun e w'=>e = .returned (.tuple #[.bool false,.int .i64 110])/\RZAt w' base m A L/\RM base m w w':=by
 obtain⟨aa,ac,a,c,hrow,hsA,hac,hRL⟩:=hR.row
 obtain⟨k,hk⟩ : ∃ k,k=L.length:=⟨_,rfl⟩
 obtain⟨al,hal⟩ : ∃ al,al=A.length:=⟨_,rfl⟩
 rw[<- hk, <- hal] at hrow
 have hkb:k<=2000:=by rw[hk];exact hR.num
 obtain⟨w1,hw1⟩ : ∃ w1,w1=w.alloc (.cells #[.slice na nl nc,.int .u16 (t:Int),.int .u16 (cl:Int),.int .u32 (ttl:Int),.slice da dl dc] 39):=⟨_,rfl⟩
 have hb1:Below w.heap.size w w1:=by rw[hw1];exact (Below.refl _ w).alloc (Nat.le_refl _) _
 have hbx1:RowAt w1 w.heap.size 39 #[.slice na nl nc,.int .u16 (t:Int),.int .u16 (cl:Int),.int .u32 (ttl:Int),.slice da dl dc]:=by rw[hw1];exact RowAt.new w _ _
 have hnl:nl<=1000000:=by rw[<- hl.out];exact hm.out.1
 have hchk : ∀ W,Below w.heap.size w W->Calls Tryz.prog 88 #[.slice na nl nc] W fun e w'=>e = .returned (.int .i64 (N.chk n))/\w'=W:=fun W hW=>rCheck_any n na nl nc W hl (hs.below hW (Nat.le_refl _)) hm
 have hwin : ∀ W,Below w.heap.size w W->Calls Tryz.prog 64 #[.slice na nl nc,.slice aa al ac] W fun e w'=>e = .returned (.bool (N.within n A))/\Below W.heap.size W w':=fun W hW=>rWithin_any n A na aa nl al nc ac W hl (hide hal.symm) (hs.below hW (Nat.le_refl _)) (hsA.below hW (Nat.le_refl _)) (by omega) hnc (Sane.small hm.out) (Sane.small hA.out)
 have HR:=hide hR
 have HRL:=hide hRL
 have HROW:=hide hrow
 have HSA:=hide hsA
 have HK:=hide hk
 have HAL:=hide hal
 have HS:=hide hs
 have HSD:=hide hsd
 have HAC:=hide hac
 have HW1:=hide hw1
 have HB1:=hide hb1
 have HBX1:=hide hbx1
 clear hR hRL hrow hk hs hsd hsA hac hw1 hb1 hbx1 hal
 by_cases hck:N.chk n=0
 ·have hwf:N.within n A=false:=by rcases hbad with h | h;exact absurd hck h;exact h
  rw[hck] at hchk
  rw[hwf] at hwin
  have HCHK:=hide hchk
  have HWIN:=hide hwin
  clear hbad hck hwf hchk hwin
  unfold recV
  go_enter Tryz.func45,Tryz.ntmps45
  go_wp2
  rw[<- HW1.out]
  refine wp_region_X (S:=fun w'=>w'.cell? ⟨w.heap.size,0,none⟩=some (.slice na nl nc)/\w'.cell? ⟨m,0,none⟩=some (.slice aa al ac)) (jS:=1000) (by kernel_rfl) ?_
  have BA:Hid (Below w.heap.size w w1.drew):=hide (HB1.out.drew)
  have SAll:Hid (∀ w',Below w.heap.size w w'->Below w1.heap.size w1 w'->w'.cell? ⟨w.heap.size,0,none⟩=some (.slice na nl nc)/\w'.cell? ⟨m,0,none⟩=some (.slice aa al ac)):=hide (fun W hW hW1=>⟨(HBX1.out.below hW1 HBX1.out.lt).cell 0,(HROW.out.below hW HROW.out.lt).cell 0⟩)
  have BA1:Hid (Below w1.heap.size w1 w1.drew):=hide (Below.refl _ w1).drew
  have SA:=hide (SAll.out _ BA.out BA1.out)
  generalize w1.drew=w1d at BA BA1 SA ⊢
  refine tk gt0 SA.out ?_
  refine tk gt1 SA.out ?_
  refine wpAnyX_ready (rs := [2]) (by kernel_rfl) (by simp) (AllX.cons gt2 (fun K hKK=>?_) AllX.nil)
  refine step_fng (by rfl) 88 #[.slice na nl nc] (by go_simp) (HCHK.out _ BA.out) (by rintro e w' ⟨rfl,_⟩;exact⟨_,rfl⟩) ?_
  rintro _ w2 ⟨he,hw2⟩
  cases he
  subst hw2
  refine kk hKK (Or.inr SA.out) ?_
  clear hKK
  refine tk gt3 SA.out ?_
  refine tk gt4 SA.out ?_
  refine tk gt5 SA.out ?_
  refine tk gt6 SA.out ?_
  refine tk gt7 SA.out ?_
  refine tk gt8 SA.out ?_
  refine tk gt9 SA.out ?_
  refine tk gt10 SA.out ?_
  refine wpAnyX_ready (rs := [11]) (by kernel_rfl) (by simp) (AllX.cons gt11 (fun K hKK=>?_) AllX.nil)
  refine step_fng (by rfl) 64 #[.slice na nl nc,.slice aa al ac] (by go_simp) (HWIN.out _ BA.out) (by rintro e w' ⟨rfl,_⟩;exact⟨_,rfl⟩) ?_
  rintro _ w2 ⟨he,hb2⟩
  cases he
  have B2:=hide (BA.out.trans (hb2.mono BA.out.size))
  have SB:=hide (SAll.out _ B2.out (BA1.out.trans (hb2.mono BA1.out.size)))
  refine kk hKK (Or.inr SB.out) ?_
  clear hKK
  refine tk gt12 SB.out ?_
  refine tk gt13 SB.out ?_
  refine wpAnyX_done (by kernel_rfl) ?_ _
  go_wp2
  go_ret2
  exact⟨rfl,HR.out.bel B2.out,RM.of_below B2.out⟩
 ·obtain⟨ck,hckk⟩ : ∃ ck,ck=N.chk n:=⟨_,rfl⟩
  rw[<- hckk] at hchk hck
  have hckb:(ck != 0)=true:=by simp[hck]
  have HCHK:=hide hchk
  clear hbad hck hckk hchk hwin
  unfold recV
  go_enter Tryz.func45,Tryz.ntmps45
  go_wp2
  rw[<- HW1.out]
  refine wp_region_X (S:=fun w'=>w'.cell? ⟨w.heap.size,0,none⟩=some (.slice na nl nc)/\w'.cell? ⟨m,0,none⟩=some (.slice aa al ac)) (jS:=1000) (by kernel_rfl) ?_
  have BA:Hid (Below w.heap.size w w1.drew):=hide (HB1.out.drew)
  have SAll:Hid (∀ w',Below w.heap.size w w'->Below w1.heap.size w1 w'->w'.cell? ⟨w.heap.size,0,none⟩=some (.slice na nl nc)/\w'.cell? ⟨m,0,none⟩=some (.slice aa al ac)):=hide (fun W hW hW1=>⟨(HBX1.out.below hW1 HBX1.out.lt).cell 0,(HROW.out.below hW HROW.out.lt).cell 0⟩)
  have BA1:Hid (Below w1.heap.size w1 w1.drew):=hide (Below.refl _ w1).drew
  have SA:=hide (SAll.out _ BA.out BA1.out)
  generalize w1.drew=w1d at BA BA1 SA ⊢
  refine tk gt0 SA.out ?_
  refine tk gt1 SA.out ?_
  refine wpAnyX_ready (rs := [2]) (by kernel_rfl) (by simp) (AllX.cons gt2 (fun K hKK=>?_) AllX.nil)
  refine step_fng (by rfl) 88 #[.slice na nl nc] (by go_simp) (HCHK.out _ BA.out) (by rintro e w' ⟨rfl,_⟩;exact⟨_,rfl⟩) ?_
  rintro _ w2 ⟨he,hw2⟩
  cases he
  subst hw2
  refine kk hKK (Or.inr SA.out) ?_
  clear hKK
  refine tk gt3 SA.out ?_
  refine tk gt4 SA.out ?_
  refine tu gt5 SA.out ?_
  refine tu gt6 SA.out ?_
  refine tu gt7 SA.out ?_
  refine tu gt8 SA.out ?_
  refine tu gt9 SA.out ?_
  refine tu gt10 SA.out ?_
  refine tu gt11 SA.out ?_
  refine tu gt12 SA.out ?_
  refine tk gt13 SA.out ?_
  refine wpAnyX_done (by kernel_rfl) ?_ _
  go_wp2
  go_ret2
  exact⟨rfl,HR.out.bel BA.out,RM.of_below BA.out⟩
set_option maxRecDepth 100000 in
set_option maxHeartbeats 1500000 in
theorem mPut_data (w:World) (base m:Nat) (A:List (List UInt8)) (L:List Z.R) (hR:RZAt w base m A L) (hA:Hid (N.Small A)) (n:List (List UInt8)) (na:Option Addr) (nl nc:Nat) (hl:Hid (n.length=nl)) (hnc:nl<=nc) (hs:SlS w na n) (hm:Hid (N.Small n)) (t cl ttl:Nat) (d:List UInt8) (da:Option Addr) (dl dc:Nat) (hdl:Hid (d.length=dl)) (hsd:SlL w da d) (hnd:da=none->dc=0) (hdc:dl<=dc) (h8:dl<=8192) (hgood:N.chk n=0) (hwit:N.within n A=true) (hbad:cl≠1\/cn t d=none) :
 Calls Tryz.prog 45 #[.pointer (some ⟨m,0,none⟩),recV na nl nc t cl ttl da dl dc] w fun e w'=>e = .returned (.tuple #[.bool false,.int .i64 50])/\RZAt w' base m A L/\RM base m w w':=by
 obtain⟨aa,ac,a,c,hrow,hsA,hac,hRL⟩:=hR.row
 obtain⟨k,hk⟩ : ∃ k,k=L.length:=⟨_,rfl⟩
 obtain⟨al,hal⟩ : ∃ al,al=A.length:=⟨_,rfl⟩
 rw[<- hk, <- hal] at hrow
 have hkb:k<=2000:=by rw[hk];exact hR.num
 obtain⟨w1,hw1⟩ : ∃ w1,w1=w.alloc (.cells #[.slice na nl nc,.int .u16 (t:Int),.int .u16 (cl:Int),.int .u32 (ttl:Int),.slice da dl dc] 39):=⟨_,rfl⟩
 have hb1:Below w.heap.size w w1:=by rw[hw1];exact (Below.refl _ w).alloc (Nat.le_refl _) _
 have hbx1:RowAt w1 w.heap.size 39 #[.slice na nl nc,.int .u16 (t:Int),.int .u16 (cl:Int),.int .u32 (ttl:Int),.slice da dl dc]:=by rw[hw1];exact RowAt.new w _ _
 have hnl:nl<=1000000:=by rw[<- hl.out];exact hm.out.1
 have hchk : ∀ W,Below w.heap.size w W->Calls Tryz.prog 88 #[.slice na nl nc] W fun e w'=>e = .returned (.int .i64 (N.chk n))/\w'=W:=fun W hW=>rCheck_any n na nl nc W hl (hs.below hW (Nat.le_refl _)) hm
 have hwin : ∀ W,Below w.heap.size w W->Calls Tryz.prog 64 #[.slice na nl nc,.slice aa al ac] W fun e w'=>e = .returned (.bool (N.within n A))/\Below W.heap.size W w':=fun W hW=>rWithin_any n A na aa nl al nc ac W hl (hide hal.symm) (hs.below hW (Nat.le_refl _)) (hsA.below hW (Nat.le_refl _)) (by omega) hnc (Sane.small hm.out) (Sane.small hA.out)
 have HR:=hide hR
 have HRL:=hide hRL
 have HROW:=hide hrow
 have HSA:=hide hsA
 have HK:=hide hk
 have HAL:=hide hal
 have HS:=hide hs
 have HSD:=hide hsd
 have HAC:=hide hac
 have HW1:=hide hw1
 have HB1:=hide hb1
 have HBX1:=hide hbx1
 clear hR hRL hrow hk hs hsd hsA hac hw1 hb1 hbx1 hal
 rw[hgood] at hchk
 rw[hwit] at hwin
 have HCHK:=hide hchk
 have HWIN:=hide hwin
 clear hchk hwin
 unfold recV
 go_enter Tryz.func45,Tryz.ntmps45
 go_wp2
 rw[<- HW1.out]
 refine wp_region_X (S:=fun w'=>w'.cell? ⟨w.heap.size,0,none⟩=some (.slice na nl nc)/\w'.cell? ⟨m,0,none⟩=some (.slice aa al ac)) (jS:=1000) (by kernel_rfl) ?_
 have BA:Hid (Below w.heap.size w w1.drew):=hide (HB1.out.drew)
 have SAll:Hid (∀ w',Below w.heap.size w w'->Below w1.heap.size w1 w'->w'.cell? ⟨w.heap.size,0,none⟩=some (.slice na nl nc)/\w'.cell? ⟨m,0,none⟩=some (.slice aa al ac)):=hide (fun W hW hW1=>⟨(HBX1.out.below hW1 HBX1.out.lt).cell 0,(HROW.out.below hW HROW.out.lt).cell 0⟩)
 have BA1:Hid (Below w1.heap.size w1 w1.drew):=hide (Below.refl _ w1).drew
 have SA:=hide (SAll.out _ BA.out BA1.out)
 generalize w1.drew=w1d at BA BA1 SA ⊢
 refine tk gt0 SA.out ?_
 refine tk gt1 SA.out ?_
 refine wpAnyX_ready (rs := [2]) (by kernel_rfl) (by simp) (AllX.cons gt2 (fun K hKK=>?_) AllX.nil)
 refine step_fng (by rfl) 88 #[.slice na nl nc] (by go_simp) (HCHK.out _ BA.out) (by rintro e w' ⟨rfl,_⟩;exact⟨_,rfl⟩) ?_
 rintro _ w2 ⟨he,hw2⟩
 cases he
 subst hw2
 refine kk hKK (Or.inr SA.out) ?_
 clear hKK
 refine tk gt3 SA.out ?_
 refine tk gt4 SA.out ?_
 refine tk gt5 SA.out ?_
 refine tk gt6 SA.out ?_
 refine tk gt7 SA.out ?_
 refine tk gt8 SA.out ?_
 refine tk gt9 SA.out ?_
 refine tk gt10 SA.out ?_
 refine wpAnyX_ready (rs := [11]) (by kernel_rfl) (by simp) (AllX.cons gt11 (fun K hKK=>?_) AllX.nil)
 refine step_fng (by rfl) 64 #[.slice na nl nc,.slice aa al ac] (by go_simp) (HWIN.out _ BA.out) (by rintro e w' ⟨rfl,_⟩;exact⟨_,rfl⟩) ?_
 rintro _ w2 ⟨he,hb2⟩
 cases he
 have B2:=hide (BA.out.trans (hb2.mono BA.out.size))
 have SB:=hide (SAll.out _ B2.out (BA1.out.trans (hb2.mono BA1.out.size)))
 refine kk hKK (Or.inr SB.out) ?_
 clear hKK
 refine tk gt12 SB.out ?_
 refine tk gt13 SB.out ?_
 refine wpAnyX_done (by kernel_rfl) ?_ _
 have HB2:=B2
 have hB1:=HB1.out
 have x1:w2.cell? ⟨w.heap.size,1,none⟩=some (.int .u16 (t:Int)):=(HBX1.out.below (BA1.out.trans (hb2.mono BA1.out.size)) HBX1.out.lt).cell 1
 have x2:w2.cell? ⟨w.heap.size,2,none⟩=some (.int .u16 (cl:Int)):=(HBX1.out.below (BA1.out.trans (hb2.mono BA1.out.size)) HBX1.out.lt).cell 2
 have x4:w2.cell? ⟨w.heap.size,4,none⟩=some (.slice da dl dc):=(HBX1.out.below (BA1.out.trans (hb2.mono BA1.out.size)) HBX1.out.lt).cell 4
 have hck:=sCheck_any t d da dl dc w2 hdl (HSD.out.below B2.out (Nat.le_refl _)) hdc hnd h8
 by_cases hcl:cl=1
 ·have hcn:D.full d (D.can t d)=none:=by rcases hbad with h | h;exact absurd hcl h;exact h
  rw[hcn] at hck
  have hclb:((cl:Int) != 1)=false:=by simp[hcl]
  clear hb2 hbad
  go_wp2_with (go_at_call 89;refine hck.mono ?_;rintro e w3 ⟨rfl,hb3⟩)
  go_ret2
  have HB3:=hide (B2.out.trans (hb3.mono B2.out.size))
  exact⟨rfl,HR.out.bel HB3.out,RM.of_below HB3.out⟩
 ·have hclb:((cl:Int) != 1)=true:=by simp;omega
  clear hb2 hbad hck
  go_wp2
  go_ret2
  exact⟨rfl,HR.out.bel B2.out,RM.of_below B2.out⟩
set_option maxRecDepth 5000 in
theorem mPut_any (w:World) (base m:Nat) (A:List (List UInt8)) (L:List Z.R) (hR:RZAt w base m A L) (hbase:base<=w.heap.size) (hA:Hid (N.Small A)) (n:List (List UInt8)) (na:Option Addr) (nl nc:Nat) (hl:Hid (n.length=nl)) (hnc:nl<=nc) (hs:SlS w na n) (hm:Hid (N.Small n)) (t cl ttl:Nat) (d:List UInt8) (da:Option Addr) (dl dc:Nat) (hdl:Hid (d.length=dl)) (hsd:SlL w da d) (hnd:da=none->dc=0) (hdc:dl<=dc) (h8:dl<=8192) (ht:t<65536) (httl:ttl<4294967296) :
 Calls Tryz.prog 45 #[.pointer (some ⟨m,0,none⟩),recV na nl nc t cl ttl da dl dc] w fun e w'=>e = .returned (.tuple #[.bool (Z.putR A L n t cl ttl d).1,.int .i64 ((Z.putR A L n t cl ttl d).2.1:Int)])/\RZAt w' base m A (Z.putR A L n t cl ttl d).2.2/\RM base m w w':=by
 by_cases hbad:N.chk n≠0\/N.within n A=false
 ·have e:Z.putR A L n t cl ttl d=(false,110,L):=by unfold Z.putR;rw[if_pos hbad]
  rw[e]
  exact mPut_name w base m A L hR hA n na nl nc hl hnc hs hm t cl ttl d da dl dc hdl hsd hnd hdc h8 hbad
 ·have hgood:N.chk n=0:=Classical.byContradiction fun h=>hbad (Or.inl h)
  have hwin:N.within n A=true:=by
   cases h:N.within n A with
   | true=>rfl
   | false=>exact absurd (Or.inr h) hbad
  by_cases hcl:cl≠1\/cn t d=none
  ·have e:Z.putR A L n t cl ttl d=(false,50,L):=by
    unfold Z.putR;rw[if_neg hbad]
    by_cases h:cl≠1
    ·rw[if_pos h]
    ·rw[if_neg h,hcl.resolve_left h]
   rw[e]
   exact mPut_data w base m A L hR hA n na nl nc hl hnc hs hm t cl ttl d da dl dc hdl hsd hnd hdc h8 hgood hwin hcl
  ·have hc1:cl=1:=Classical.byContradiction fun h=>hcl (Or.inl h)
   cases hcn:cn t d with
   | none=>exact absurd (Or.inr hcn) hcl
   | some c=>exact mPut_good w base m A L hR hA n na nl nc hl hnc hs hm t cl ttl d da dl dc hdl hsd hnd hdc h8 hbase ht httl c hgood hwin hc1 hcn _ (by unfold Z.putR;rw[if_neg hbad,if_neg (by simp[hc1]),hcn])
end Go.Proofs.YtmbcegljmhcdeaaGreat
namespace Go.Proofs.YtmbcegljmhcdeaaGreat
open Go.RowKit
set_option maxRecDepth 5000
open Go.RowKit
open Go.ChangeShapes Go.WideShapes Go.ChangeAt Go.WideMaps Go.WideElems
theorem ownK:ownKnob Tryz.prog.godebug=none:=by kernel_rfl
theorem laidOutT:laidOutB Tryz.prog=true:=by kernel_rfl
theorem u8_of {a:Int} (h:(Lit.int .u8 a).wf=true) : ∃ b:Nat,a=(b:Int)/\b<256:=by
 have h1:IntKind.u8.min=0:=by decide
 have h2:IntKind.u8.max=255:=by decide
 simp only[Lit.wf,Bool.and_eq_true,decide_eq_true_eq,h1,h2] at h
 exact⟨a.toNat,by omega,by omega⟩
open Go.ChangeShapes Go.WideShapes Go.ChangeAt Go.WideMaps Go.WideElems Go.RowKit Go.Deep
theorem cellsStr:Tryz.prog.cellsOf 9=1:=by kernel_rfl
theorem open_name {H:Type} {enc:TypeId × Value->H} {W:World} {a0:Option Addr} {len cap:Nat} {d:DataW H} {p:List MemPlace} (h0:DataW.Trod enc Tryz.prog W 0 (fun _=>true) true 28 (.slice a0 len cap) d p) :
 ∃ n:List (List UInt8),n.length=len/\SlS W a0 n/\Sane n/\len<=cap/\cap<=9223372036854775807:=by
 obtain⟨fuel,hf⟩:=h0
 rcases open_strs Tryz.underlying28 Tryz.underlying9 cellsStr hf with⟨hcs,hx⟩ | ⟨a,len',cap',m,Sx,hcs,_,hl,hm,hmm,hx,hcell⟩
 ·simp[Value.cells] at hcs
  obtain⟨rfl,rfl,rfl⟩:=hcs
  exact⟨[],rfl,SlS.nil _ _,fun l hl=>by simp at hl,Nat.le_refl _,by omega⟩
 ·simp[Value.cells] at hcs
  obtain⟨rfl,rfl,rfl⟩:=hcs
  simp only[if_true] at hmm
  subst hmm
  unfold maxLen at hm
  have hlen:((List.range len).map fun r=>(Sx r).data.toList).length=len:=by simp
  refine⟨(List.range len).map fun r=>(Sx r).data.toList,hlen,fun hn=>?_,fun l hl'=>?_,hl,by omega⟩
  ·rw[hlen] at hn
   have hc0:=(hcell 0 (by omega)).1
   have hspot:a.spot=none:=by
    have:=World.cell?_spot hc0
    simpa [Addr.add] using this
   obtain⟨b,off,spot⟩:=a
   simp only at hspot
   subst hspot
   refine⟨b,off,rfl,?_,fun j hj=>?_⟩
   ·have:=block_lt_of_cell hc0
    rw[Addr.add_mid] at this;exact this
   ·rw[hlen] at hj
    have hc:=(hcell j (by omega)).1
    rw[Addr.add_mid] at hc
    rw[hc]
    have e:((List.range len).map fun r=>(Sx r).data.toList).getD j []=(Sx j).data.toList:=by simp[hj]
    rw[e]
  ·simp only[List.mem_map,List.mem_range] at hl'
   obtain⟨r,hr,rfl⟩:=hl'
   have:=(hcell r (by omega)).2
   unfold maxLen at this
   show (Sx r).size<=_
   omega
open Go.ChangeShapes Go.WideShapes Go.ChangeAt Go.WideMaps Go.WideElems Go.RowKit Go.Deep
open Go.RowKit
open Go.RowKit
theorem has_nil (p:List (List UInt8)):Z.has [] p=false:=rfl
open Go.RowKit
open Go.RowKit
end Go.Proofs.YtmbcegljmhcdeaaGreat
namespace Go.Proofs.YtmbcegljmhcdeaaGreat
set_option maxRecDepth 5000
open Go.RowKit
set_option maxRecDepth 3000 in
theorem hname_any (n m:List (List UInt8)) (ao bo:Option Addr) (la lb ca cb:Nat) (w:World) (hla:Hid (n.length=la)) (hlb:Hid (m.length=lb)) (hsa:SlS w ao n) (hsb:SlS w bo m) (hma:la<=9223372036854775807) (hmb:lb<=9223372036854775807) :
 Calls Tryz.prog 29 #[.slice ao la ca,.slice bo lb cb] w fun e w'=>e = .returned (.bool (decide (n=m))) /\ ∃ k,w'=w.drewN k:=by
 have HSA:=hide hsa
 have HSB:=hide hsb
 clear hsa hsb
 by_cases hab:la=lb
 ·subst hab
  go_enter Tryz.func29,Tryz.ntmps29
  go_wp2
  go_loopw [5] (fun i wr => ∃ j:Nat,i = .int .i64 (j:Int)/\j<=la/\Hid (n.take j=m.take j) /\ ∃ k,wr=w.drewN k) (fun i _=>la - (intOf i).toNat)
  case atStart=>exact⟨0,rfl,by omega,hide rfl,0,rfl⟩
  case round =>
   obtain⟨j,rfl,hj,HE,hm⟩:=hrel
   have HM:=hide hm
   clear hm
   by_cases hlt:j<la
   ·obtain⟨b1,o1,rfl,_,hc1⟩:=HSA.out (by have:=hla.out;omega)
    obtain⟨b2,o2,rfl,_,hc2⟩:=HSB.out (by have:=hlb.out;omega)
    have hx1:wr.cell? ⟨b1,o1+j,none⟩=some (.string ⟨(n.getD j []).toArray⟩):=by
     obtain⟨m,rfl⟩:=HM.out
     exact hc1 j (by have:=hla.out;omega)
    have hx2:wr.cell? ⟨b2,o2+j,none⟩=some (.string ⟨(m.getD j []).toArray⟩):=by
     obtain⟨m,rfl⟩:=HM.out
     exact hc2 j (by have:=hlb.out;omega)
    clear hc1 hc2
    obtain⟨x,hx⟩ : ∃ x,x=n.getD j []:=⟨_,rfl⟩
    obtain⟨y,hy⟩ : ∃ y,y=m.getD j []:=⟨_,rfl⟩
    rw[<- hx] at hx1
    rw[<- hy] at hx2
    have HX:=hide hx
    have HY:=hide hy
    clear hx hy
    have hj1:(j:Int)<(la:Int):=by omega
    by_cases hq:x=y
    ·have HQ:=hide hq
     subst hq
     go_wp2
     go_quiet (fail)
     go_wp2
     go_roundw
     case rel =>
      refine⟨j+1,by go_num,by omega,hide ?_,drew_more _ HM.out⟩
      have h1:j<n.length:=by have:=hla.out;omega
      have h2:j<m.length:=by have:=hlb.out;omega
      have e1:=HX.out
      have e2:=HY.out
      rw[List.getD_eq_getElem?_getD,List.getElem?_eq_getElem h1] at e1
      rw[List.getD_eq_getElem?_getD,List.getElem?_eq_getElem h2] at e2
      rw[List.take_succ_eq_append_getElem h1,List.take_succ_eq_append_getElem h2,HE.out]
      have e3:n[j]=m[j]:=e1.symm.trans e2
      rw[e3]
     case measure=>simp[intOf];omega
    ·have hq1:(x == y)=false:=by simp[hq]
     have hq2:decide (x=y)=false:=by simp[hq]
     have hres:decide (n=m)=false:=by
      refine decide_eq_false fun e=>hq ?_
      rw[HX.out,HY.out,e]
     go_wp2
     go_quiet (fail)
     go_wp2
     go_ret
     exact⟨by rw[hres];rfl,drew_more _ HM.out⟩
   ·obtain rfl:j=la:=by omega
    have hres:decide (n=m)=true:=by
     have h:=HE.out
     rw[List.take_of_length_le (by have:=hla.out;omega),List.take_of_length_le (by have:=hlb.out;omega)] at h
     exact decide_eq_true h
    go_wp2
    go_ret
    exact⟨by rw[hres];rfl,HM.out⟩
 ·have hres:decide (n=m)=false:=by
   refine decide_eq_false fun e=>hab ?_
   rw[<- hla.out, <- hlb.out,e]
  have hab1 : ¬ ((la:Int)=(lb:Int)):=by omega
  go_enter Tryz.func29,Tryz.ntmps29
  go_wp2
  go_ret
  exact⟨by rw[hres];rfl,0,rfl⟩
end Go.Proofs.YtmbcegljmhcdeaaGreat
namespace Go.Proofs.YtmbcegljmhcdeaaGreat
open Go.RowKit
set_option maxRecDepth 5000
open Go.RowKit
open Go.RowKit
end Go.Proofs.YtmbcegljmhcdeaaGreat
namespace Go.Proofs.YtmbcegljmhcdeaaGreat
set_option maxRecDepth 5000
open Go.RowKit
set_option maxRecDepth 5000 in
theorem RZAt.empty (W:World) (base:Nat) (a:Option Addr) (n c:Nat) (hn:n=Z.exA.length) (hs:SlS W a Z.exA) (hc:n<=c):RZAt (W.alloc (.cells #[.slice a n c,.slice none 0 0] 33)) base W.heap.size Z.exA []:=by
 subst hn
 exact⟨⟨a,c,none,0,RowAt.new W _ _,hs.below ((Below.refl _ W).alloc (Nat.le_refl _) _) (Nat.le_refl _),hc,RL.nil _ _ _ _ (fun _=>rfl)⟩,List.Pairwise.nil,fun x hx=>(by cases hx),Nat.zero_le _,fun x hx=>(by cases hx),fun x hx=>(by cases hx),fun x hx=>(by cases hx)⟩
end Go.Proofs.YtmbcegljmhcdeaaGreat
namespace Go.Proofs.YtmbcegljmhcdeaaGreat
set_option maxRecDepth 5000
open Go.RowKit
structure MK (w w':World):Prop where
 size:w.heap.size<=w'.heap.size
 rows : ∀ (g:Nat) (c:Array Value) (et:TypeId) (fr:Nat × Nat),w.heap[g]?=some (Obj.cells c et fr)->et≠107->et≠94->et≠33->w'.heap[g]?=some (Obj.cells c et fr)
theorem MK.refl (w:World):MK w w:=⟨Nat.le_refl _,fun _ _ _ _ h _ _ _=>h⟩
theorem MK.kb {w w':World} (h:MK w w'):KB w w':=⟨h.size,fun g c et fr hg he=>h.rows g c et fr hg (fun e=>by rcases he with h | h <;> (rw[h] at e;exact absurd e (by decide))) (fun e=>by rcases he with h | h <;> (rw[h] at e;exact absurd e (by decide))) (fun e=>by rcases he with h | h <;> (rw[h] at e;exact absurd e (by decide)))⟩
theorem MK.zk {X:Nat->Prop} {w w1 w2:World} (h:MK w w1) (k:ZKp X w1 w2):MK w w2:=⟨Nat.le_trans h.size k.size,fun g c et fr hg h1 h2 h3=>by
 have h4:=h.rows g c et fr hg h1 h2 h3
 exact (k.rows g c et fr h4 h1 h2).trans h4⟩
theorem MK.rm {base m:Nat} {w w1 w2:World} (h:MK w w1) {c:Array Value} (hr:RowAt w1 m 33 c) (k:RM base m w1 w2) (hb:w.heap.size<=base):MK w w2:=⟨Nat.le_trans h.size k.size,fun g cs et fr hg h1 h2 h3=>by
 have h4:=h.rows g cs et fr hg h1 h2 h3
 have hlt:=(Array.getElem?_eq_some_iff.1 hg).1
 refine (k.keep g (Array.getElem?_eq_some_iff.1 h4).1 (fun e=>?_) (Or.inl (Nat.lt_of_lt_of_le hlt hb))).trans h4
 have hr:w1.heap[m]?=some (Obj.cells c 33):=hr
 rw[e,hr] at h4;injection h4 with h4;injection h4 with _ h4 _
 exact h3 h4.symm⟩
def putsR (rs:List RcT):List Z.R:=rs.foldl (fun L x=>(Z.putR Z.exA L x.n x.t 1 x.ttl x.d).2.2) []
theorem putsR_snoc (rs:List RcT) (j:Nat) (x:RcT) (hx:rs[j]?=some x):putsR (rs.take (j+1))=(Z.putR Z.exA (putsR (rs.take j)) x.n x.t 1 x.ttl x.d).2.2:=by
 unfold putsR
 rw[List.take_add_one,hx,List.foldl_append]
 rfl
set_option maxRecDepth 20000 in
set_option maxHeartbeats 1500000 in
theorem made_any (l:List Nat) (ao:Option Addr) (len cap:Nat) (w:World) (hl:Hid (l.length=len)) (hs:SlU w ao l) (hlt : ∀ x∈l,x<4294967296) (hm:len<=9223372036854775807) :
 Calls Tryz.prog 36 #[.slice ao len cap] w fun e w' => ∃ V m base rs,e = .returned (.tuple #[.pointer (some ⟨V,0,none⟩),.pointer (some ⟨m,0,none⟩)])/\Duo w.heap.size w' V base m Z.exA (putsR rs) 4200/\(∀ x∈rs,x.Good)/\(len=0->rs = [soa0,ns0])/\Below w.heap.size w w':=by
 have HS:=hide hs
 have HLT:=hide hlt
 obtain⟨B,hBe⟩ : ∃ B,B=w.heap.size:=⟨_,rfl⟩
 have HBe:=hide hBe
 have HBle:Hid (B<=w.heap.size):=hide (Nat.le_of_eq hBe)
 have hT0:True:=trivial
 rw[<- hBe]
 clear hs hlt hBe
 go_enter Tryz.func36,Tryz.ntmps36
 go_wp2_with (first
  | (go_at_call 68;go_loud (refine (begin_any l ao len cap _ hl (HS.out.below HB04.out (Nat.le_of_eq HBe.out.symm)) HLT.out hm).mono ?_;rintro e w5 ⟨v5,rfl,j0,hj0,hj12,hjz,rs,hB5,hO5,hG5,hrl5,hz5⟩))
  | (go_at_call 13;have hq:=HZ1.out;clear hq;go_loud (refine (apex_any w2).mono ?_;rintro e w3 ⟨v3,rfl,hO3,hB3⟩;obtain⟨a3,c3,rfl,hS3,_,hc3,_⟩:=hO3.open;have HB04:Hid (Below B w (w3.alloc (.cells #[.slice a3 Z.exA.length c3,.slice none 0 0] 33))):=hide ((HB02.out.trans (hB3.mono (Nat.le_trans HBle.out HB02.out.size))).alloc (Nat.le_trans HBle.out (Nat.le_trans HB02.out.size hB3.size)) _)))
  | (go_at_call 12;go_loud (refine (znew_live (fun i=>i<B) w1 (fun i hi=>by have:=HB1.out.size;have:=HBe.out;omega) Z.exA a1 _ c1 (hide rfl) hS1 (hide exA_small)).mono ?_;rintro e w2 ⟨V,rfl,_,hZ1,hB2⟩;rw[exA_low] at hZ1;have HB02:=hide ((HB1.out.mono (Nat.le_of_eq HBe.out)).trans (hB2.mono (Nat.le_trans (Nat.le_of_eq HBe.out) HB1.out.size)));have HZ1:=hide hZ1;clear hZ1))
  | (go_at_call 13;have hq:=hT0;clear hq hT0;go_loud (refine (apex_any w).mono ?_;rintro e w1 ⟨v1,rfl,hO1,hB1⟩;obtain⟨a1,c1,rfl,hS1,_,hc1,_⟩:=hO1.open;have HB1:=hide hB1))
  | fail)
 obtain⟨w4,hw4⟩ : ∃ w4,w4=w3.alloc (.cells #[.slice a3 Z.exA.length c3,.slice none 0 0] 33):=⟨_,rfl⟩
 obtain⟨m,hmm⟩ : ∃ m,m=w3.heap.size:=⟨_,rfl⟩
 have hb4:Below w3.heap.size w3 w4:=by rw[hw4];exact (Below.refl _ w3).alloc (Nat.le_refl _) _
 have hR4:RZAt w4 w5.heap.size m Z.exA []:=by rw[hw4,hmm];exact RZAt.empty w3 w5.heap.size a3 _ c3 rfl hS3 hc3
 rw[<- hmm]
 have hB45:Below w4.heap.size w4 w5:=by rw[hw4];exact hB5
 have hZ5:=((HZ1.out.bel hB3).bel hb4).bel hB45
 have s2:=HB02.out.size
 have s3:=hB3.size
 have s4:=hb4.size
 have s5:=hB45.size
 have s0:=HBle.out
 have hD:Duo B w5 V w5.heap.size m Z.exA [] 0:=⟨hZ5,hR4.bel hB45,by omega,by omega,Nat.le_refl _⟩
 have hBW:Below B w w5:=((HB02.out.trans (hB3.mono (by omega))).trans (hb4.mono (by omega))).trans (hB45.mono (by omega))
 obtain⟨g5,c5,hv5,hn5,hc5⟩:=hO5.slice
 obtain⟨q,hq⟩ : ∃ q,q=rs.length:=⟨_,rfl⟩
 rw[<- hq] at hv5
 subst hv5
 have hq14:q<=14:=by omega
 have HD:=hide hD
 have HBW:=hide hBW
 have HO5:=hide hO5
 have HG5:=hide hG5
 have HQ:=hide hq
 have HZ5:=hide (fun h:len=0=>hz5 (by omega:j0=0))
 clear hw4 hmm hb4 hR4 hB45 hZ5 s2 s3 s4 s5 s0 hD hBW hO5 hG5 hq hz5 hB5 hB3 hO3 hS3 hc3 HZ1 HB02 HB04 hn5 hc5 hrl5
 go_loopw [7] (fun i wr => ∃ j:Nat,i = .int .i64 (j:Int)/\j<=q/\Duo B wr V w5.heap.size m Z.exA (putsR (rs.take j)) (j*300)/\MK w5 wr/\Below B w wr) (fun i _=>q - (intOf i).toNat)
 case atStart=>exact⟨0,rfl,by omega,HD.out,MK.refl _,HBW.out⟩
 case round =>
  obtain⟨j,rfl,hj,hD,hMK,hB⟩:=hrel
  have HDr:=hide hD
  have HMK:=hide hMK
  have HB:=hide hB
  clear hD hMK hB HD HBW
  by_cases hlt:j<q
  ·have hjr:j<rs.length:=by rw[<- HQ.out];exact hlt
   obtain⟨x,hx⟩ : ∃ x,rs[j]?=some x:=⟨_,List.getElem?_eq_getElem hjr⟩
   have hxg:=HG5.out x (List.mem_of_getElem? hx)
   obtain⟨g,rfl,hgb,hgl,⟨cur,hcur⟩,hel⟩:=HO5.out.get (by omega)
   obtain⟨us,hus,⟨xa,xc,da,dc,rfl,hxT,hxc,hdT,hdn,hdc⟩,hcells⟩:=hel j x hx
   obtain⟨xl,hxl⟩ : ∃ xl,xl=x.n.length:=⟨_,rfl⟩
   obtain⟨dl,hdl⟩ : ∃ dl,dl=x.d.length:=⟨_,rfl⟩
   obtain⟨xt,hxt⟩ : ∃ xt,xt=x.t:=⟨_,rfl⟩
   obtain⟨tt,htt⟩ : ∃ tt,tt=x.ttl:=⟨_,rfl⟩
   have hsn:=putsR_snoc rs j x hx
   rw[<- hxt, <- htt] at hsn
   rw[<- hxl, <- hdl, <- hxt, <- htt] at hcells
   rw[<- hxl] at hxc
   rw[<- hdl] at hdc
   have HCELL:Hid (∀ W,MK w5 W->W.cell? ⟨g,j*5,none⟩=some (.slice xa xl xc)/\W.cell? ⟨g,j*5+1,none⟩=some (.int .u16 (xt:Int))/\W.cell? ⟨g,j*5+2,none⟩=some (.int .u16 1)/\W.cell? ⟨g,j*5+3,none⟩=some (.int .u32 (tt:Int))/\W.cell? ⟨g,j*5+4,none⟩=some (.slice da dl dc)):=hide fun W hW=>by
    have hr:W.heap[g]?=w5.heap[g]?:=(hW.rows g cur _ _ hcur (by decide) (by decide) (by decide)).trans hcur.symm
    have hk : ∀ k,k<5->W.cell? ⟨g,j*5+k,none⟩ = [Value.slice xa xl xc,.int .u16 (xt:Int),.int .u16 1,.int .u32 (tt:Int),.slice da dl dc][k]?:=fun k hk=>(World.cell?_of_block hr).trans (hcells k hk)
    exact⟨hk 0 (by omega),hk 1 (by omega),hk 2 (by omega),hk 3 (by omega),hk 4 (by omega)⟩
   obtain⟨P,hP⟩ : ∃ P,P=Z.putR Z.exA (putsR (rs.take j)) x.n xt 1 tt x.d:=⟨_,rfl⟩
   obtain⟨p1,hp1⟩ : ∃ p1,p1=P.1:=⟨_,rfl⟩
   obtain⟨p2,hp2⟩ : ∃ p2,p2=P.2.1:=⟨_,rfl⟩
   obtain⟨L',hL'⟩ : ∃ L',L'=P.2.2:=⟨_,rfl⟩
   rw[<- hP, <- hL'] at hsn
   have hzp:Calls Tryz.prog 44 #[.pointer (some ⟨V,0,none⟩),.agg #[.slice xa xl xc,.int .u16 (xt:Int),.int .u16 1,.int .u32 (tt:Int),.slice da dl dc]] wr fun e w'=>e = .returned (.tuple #[.bool p1,.int .i64 (p2:Int)])/\ZLive (fun i=>i<B) w' V Z.exA L' (j*300+xl+1)/\ZKp (fun i=>i<B) wr w':=by
    have h:=zput_live HDr.out.z (hide exA_small) x.n xa xl xc (hide hxl.symm) hxc (hxT.kb HMK.out.kb).1 (hide hxg.small) xt 1 tt x.d da dl dc (hide hdl.symm) (hdT.kb HMK.out.kb).1 hdn hdc (by rw[hxt];exact hxg.t) (by rw[htt];exact hxg.ttl) (by have:=hxg.len;omega)
    unfold recV at h
    have e1:((1:Nat):Int)=1:=rfl
    rw[<- hP, <- hp1, <- hp2, <- hL',e1] at h
    exact h
   have hmp : ∀ W,ZKp (fun i=>i<B) wr W->Calls Tryz.prog 45 #[.pointer (some ⟨m,0,none⟩),.agg #[.slice xa xl xc,.int .u16 (xt:Int),.int .u16 1,.int .u32 (tt:Int),.slice da dl dc]] W fun e w'=>e = .returned (.tuple #[.bool p1,.int .i64 (p2:Int)])/\RZAt w' w5.heap.size m Z.exA L'/\RM w5.heap.size m W w':=fun W hW=>by
    have hk:=(HMK.out.zk hW).kb
    have h:=mPut_any W w5.heap.size m Z.exA (putsR (rs.take j)) (HDr.out.r.zk hW) (Nat.le_trans HDr.out.bs hW.size) (hide exA_small) x.n xa xl xc (hide hxl.symm) hxc (hxT.kb hk).1 (hide hxg.small) xt 1 tt x.d da dl dc (hide hdl.symm) (hdT.kb hk).1 hdn hdc (by rw[hdl];exact hxg.dl) (by rw[hxt];exact hxg.t) (by rw[htt];exact hxg.ttl)
    unfold recV at h
    have e1:((1:Nat):Int)=1:=rfl
    rw[<- hP, <- hp1, <- hp2, <- hL',e1] at h
    exact h
   have HZP:=hide hzp
   have HMP:=hide hmp
   have HSN:=hide hsn
   have HXL:=hide hxl
   have HXG:=hide hxg
   obtain⟨q0,q1,q2,q3,q4⟩:=HCELL.out wr HMK.out
   clear hzp hmp hsn hxl hdl hxt htt hP hp1 hp2 hL' hxg hx hcells hel hxT hdT hus hcur hgl hgb
   go_wp2_with (first
    | (go_at_call 45;have hq:=HK6.out;clear hq;go_loud (refine (HMP.out w6 HK6.out).mono ?_;rintro e w7 ⟨rfl,hR7,hM7⟩))
    | (go_at_call 44;go_loud (refine HZP.out.mono ?_;rintro e w6 ⟨rfl,hZ6,hK6⟩;obtain⟨r0,r1,r2,r3,r4⟩:=HCELL.out w6 (HMK.out.zk hK6);have HK6:=hide hK6;have HZ6:=hide hZ6;clear hK6 hZ6))
    | fail)
   go_roundw
   case rel =>
    have hl4:=HXG.out.len
    have hl5:=HXL.out
    obtain⟨D7,hB7⟩:=HDr.out.step HK6.out HZ6.out hR7 hM7
    obtain⟨ra,rac,rb,rbc,hrr,_⟩:=(HDr.out.r.zk HK6.out).row
    refine⟨j+1,by go_num,by omega,?_,(HMK.out.zk HK6.out).rm hrr hM7 (Nat.le_refl _),HB.out.trans hB7⟩
    rw[HSN.out]
    exact D7.mono (by omega)
   case measure=>simp[intOf];omega
  ·obtain rfl:j=q:=by omega
   have e:rs.take j=rs:=List.take_of_length_le (by rw[<- HQ.out];exact Nat.le_refl _)
   rw[e] at HDr
   go_wp2
   go_ret2
   exact⟨V,m,w5.heap.size,rs,rfl,HDr.out.mono (by omega),HG5.out,HZ5.out,HB.out⟩
open Go.RowKit
structure PSet where
 n:List (List UInt8)
 t:Nat
 ttl:Nat
 d:List (List UInt8)
def setP (L:List Z.R) (n:List (List UInt8)) (t:Nat):PSet:=⟨N.lowN n,t,Z.ttlAt L (path n) t,(Z.setAt L (path n) t).map (·.d)⟩
def setsP (L:List Z.R) (n:List (List UInt8)) (ts:List Nat):List PSet:=ts.flatMap fun t=>if Z.setAt L (path n) t = [] then [] else [setP L n t]
theorem setsP_snoc (L:List Z.R) (n:List (List UInt8)) (ts:List Nat) (j:Nat) (hj:j<ts.length):setsP L n (ts.take (j+1))=setsP L n (ts.take j)++if Z.setAt L (path n) ts[j] = [] then [] else [setP L n ts[j]]:=Z.flat_succ _ ts j hj
theorem setsP_len (L:List Z.R) (n:List (List UInt8)) (ts:List Nat):(setsP L n ts).length<=ts.length:=by
 unfold setsP
 induction ts with
 | nil=>simp
 | cons t r ih =>
  rw[List.flatMap_cons,List.length_append,List.length_cons]
  have h:(if Z.setAt L (path n) t = [] then [] else [setP L n t]).length<=1:=by split <;> simp
  omega
def ES (w:World) (x:PSet) (us:List Value):Prop := ∃ na nc da dc base,us = [.slice na x.n.length nc,.int .u16 (x.t:Int),.int .u32 (x.ttl:Int),.slice da x.d.length dc]/\TyS w na x.n/\x.n.length<=nc/\OwnL 37 1 EB w base (.slice da x.d.length dc) x.d
theorem ES.kx {et:TypeId} (h1:et≠5/\et≠9) (h2:37≠et) {w w':World} {x:PSet} {us:List Value} (h:ES w x us) (k:KX et w w'):ES w' x us:=by
 obtain⟨na,nc,da,dc,base,e,hT,hc,hO⟩:=h
 exact⟨na,nc,da,dc,base,e,hT.kb (k.kb h1),hc,hO.kx k (fun _ _ h=>h.kb (k.kb h1)) h2⟩
theorem ES.bel {w w':World} {x:PSet} {us:List Value} (h:ES w x us) (k:Below w.heap.size w w'):ES w' x us:=by
 obtain⟨na,nc,da,dc,base,e,hT,hc,hO⟩:=h
 exact⟨na,nc,da,dc,base,e,hT.kb (KB.of_below k),hc,hO.bel (fun _ _ h=>h.kb (KB.of_below k)) k⟩
theorem OwnL.ob {α : Type} {et:TypeId} {sz:Nat} {E:World -> α -> List Value->Prop} {w:World} {base:Nat} {v:Value} {L:List α} (h:OwnL et sz E w base v L) (k:Nat) (hk:w.heap.size<=k):some k≠v.ownBlock:=by
 obtain⟨vss,h,_⟩:=h
 rcases h.2 with⟨rfl,_⟩ | ⟨g,cap,cur,rfl,h1,h2,_⟩
 ·intro e;simp[Value.ownBlock] at e
 ·intro e
  have e2:k=g:=by simpa [Value.ownBlock] using e
  have:=(Array.getElem?_eq_some_iff.1 h2).1
  omega
theorem infoAs:(Tryz.prog.info? 54).map (fun i=>(i.zero,i.size,i.bytes))=some (some (.agg #[.slice none 0 0,.int .u16 0,.int .u32 0,.slice none 0 0]),4,56):=by kernel_rfl
theorem wpList_appX {α : Type} {et:TypeId} {sz:Nat} {E:World -> α -> List Value->Prop} {w:World} {ops:Array Oper} {rest:List Oper} {o:Oper} {a:Act} {Q:Exit->Act->World->Prop} (hgd:o.guard=none) (s x:Operand) (st:TypeId)
 (ho:o.op = .call { callee := .builtin .append,args := #[s,x],argTypes := #[st,st] }) (hu:Tryz.prog.underlying st=some (.slice et)) (z:Value) (bytes:Nat) (hie : ∃ i,Tryz.prog.info? et=some i/\i.zero=some z/\i.size=sz/\i.bytes=bytes) (hzc:z.cells.size=sz) (hsz:0<sz) (hby:bytes<=200)
 (base:Nat) (v:Value) (L:List α) (hs:a.eval s=v) (hown:OwnL et sz E w base v L) (ad:Addr) (c:Nat) (y : α) (us:List Value) (hx:a.eval x = .slice (some ad) 1 c) (hr : ∀ j u,us[j]?=some u->w.cell? (ad.add j)=some u) (hlen:us.length=sz) (hone : ∀ u∈us,u.oneCell'=true) (hEy:E w y us)
 (hEk : ∀ w' x us,KX et w w'->E w x us->E w' x us) (hbound:L.length<=1000000) (hbase:base<=w.heap.size)
 (h : ∀ v' w',OwnL et sz E w' base v' (L ++ [y])->KX et w w'->Below base w w'->w.grownBy w' v.ownBlock->wpList Tryz.prog ops Q rest (a.put o.dst v') w'):wpList Tryz.prog ops Q (o::rest) a w:=by
 obtain⟨i0,hi,hz0,hz1,hz2⟩:=hie
 obtain⟨vss,hv,hE⟩:=hown
 have hmul:(L.length+1)*bytes<=1000001*200:=Nat.mul_le_mul (by omega) hby
 refine wpList_append_own w hgd s x st ho base et i0 z sz bytes hu hi hz0 hz1 hz2 hzc hsz v L.length vss.flatten hs hv ad 1 c us hx (by omega) hr hone (by unfold maxLen;omega) (by omega) hbase ?_
 intro v' w' h1 h2 _
 have hk:=KX.grown hv h2
 refine h v' w' ⟨vss ++ [us],?_,(hE.kb fun x us=>hEk w' x us hk).app (Els.one hlen hone (hEk w' y us hk hEy))⟩ hk (owns_below hv h2 hbase) h2
 rw[List.length_append,List.length_singleton,List.flatten_append,List.flatten_cons,List.flatten_nil,List.append_nil]
 exact h1
theorem step_appX {α : Type} {et:TypeId} {sz:Nat} {E:World -> α -> List Value->Prop} {w:World} {ops:Array Oper} {o:Oper} {a:Act} {J:Act->World->Prop} {Q:Exit->Act->World->Prop} {F:Prop} (hgd:o.guard=none) (s x:Operand) (st:TypeId)
 (ho:o.op = .call { callee := .builtin .append,args := #[s,x],argTypes := #[st,st] }) (hu:Tryz.prog.underlying st=some (.slice et)) (z:Value) (bytes:Nat) (hie : ∃ i,Tryz.prog.info? et=some i/\i.zero=some z/\i.size=sz/\i.bytes=bytes) (hzc:z.cells.size=sz) (hsz:0<sz) (hby:bytes<=200)
 (base:Nat) (v:Value) (L:List α) (hs:a.eval s=v) (hown:OwnL et sz E w base v L) (ad:Addr) (c:Nat) (y : α) (us:List Value) (hx:a.eval x = .slice (some ad) 1 c) (hr : ∀ j u,us[j]?=some u->w.cell? (ad.add j)=some u) (hlen:us.length=sz) (hone : ∀ u∈us,u.oneCell'=true) (hEy:E w y us)
 (hEk : ∀ w' x us,KX et w w'->E w x us->E w' x us) (hbound:L.length<=1000000) (hbase:base<=w.heap.size)
 (h : ∀ v' w',OwnL et sz E w' base v' (L ++ [y])->KX et w w'->Below base w w'->w.grownBy w' v.ownBlock->J (a.put o.dst v') w'):if Region.wanted o (yielded ops a.tmps)=true then Oper.wp Tryz.prog o a w J Q else F:=by
 have hw:Region.wanted o (yielded ops a.tmps)=true:=by simp[Region.wanted,hgd]
 rw[if_pos hw]
 obtain⟨i0,hi,hz0,hz1,hz2⟩:=hie
 obtain⟨vss,hv,hE⟩:=hown
 have hmul:(L.length+1)*bytes<=1000001*200:=Nat.mul_le_mul (by omega) hby
 obtain⟨v',w',h1,h2,h3,_⟩:=run_append_own (P:=Tryz.prog) w base st o.type et i0 z sz bytes hu hi hz0 hz1 hz2 hzc hsz v L.length vss.flatten hv ad 1 c us (by omega) hr hone (by unfold maxLen;omega) (by omega) hbase
 have hk:=KX.grown hv h3
 unfold Oper.wp execOp
 simp only[ho,resolve,invoke,builtin,Sem.run_bind,Sem.run_pure,Result.andThen_ok,List.map_toArray,List.map_cons,List.map_nil,hs,hx,h1]
 refine h v' w' ⟨vss ++ [us],?_,(hE.kb fun x us=>hEk w' x us hk).app (Els.one hlen hone (hEk w' y us hk hEy))⟩ hk (owns_below hv h3 hbase) h3
 rw[List.length_append,List.length_singleton,List.flatten_append,List.flatten_cons,List.flatten_nil,List.append_nil]
 exact h2
end Go.Proofs.YtmbcegljmhcdeaaGreat
namespace Go.Proofs.YtmbcegljmhcdeaaGreat
set_option maxRecDepth 5000
open Go.RowKit
set_option maxRecDepth 20000 in
set_option maxHeartbeats 1500000 in
theorem sets_any {X:Nat->Prop} {w:World} {Zb:Nat} {A:List (List UInt8)} {L:List Z.R} {K:Nat} (Z0:ZLive X w Zb A L K) (hK:K<=1000000) (sb:Nat) (hsb:sb<w.heap.size) (h0:w.cell? ⟨sb,0,none⟩=some (.pointer (some ⟨Zb,0,none⟩))) (n:List (List UInt8)) (ao:Option Addr) (len cap:Nat) (hl:Hid (n.length=len)) (hs:SlS w ao n) (hm:Hid (N.Small n)) (ts:List UInt16) (ta:Option Addr) (tl tc:Nat) (htl:Hid (ts.length=tl)) (hts:SlH w ta ts) (hb:tl<=70000) :
 Calls Tryz.prog 107 #[.pointer (some ⟨sb,0,none⟩),.slice ao len cap,.slice ta tl tc] w fun e w' => ∃ v,e = .returned v/\OwnL 54 4 ES w' w.heap.size v (setsP L n (ts.map (·.toNat)))/\Below w.heap.size w w':=by
 have HZ:=hide Z0
 have HS:=hide hs
 have HTS:=hide hts
 have H0:=hide h0
 obtain⟨T,hT⟩ : ∃ T,T=ts.map (·.toNat):=⟨_,rfl⟩
 have hTl:T.length=tl:=by rw[hT,List.length_map,htl.out]
 rw[<- hT]
 have HT:=hide hT
 have HTL:=hide hTl
 clear Z0 hs hts h0 hT hTl
 go_enter Tryz.func107,Tryz.ntmps107
 go_wp2
 go_loopw [7,14] (fun v i wr => ∃ j:Nat,i = .int .i64 (j:Int)/\j<=tl/\Below w.heap.size w wr/\OwnL 54 4 ES wr w.heap.size v (setsP L n (T.take j))) (fun _ i _=>tl - (intOf i).toNat)
 case atStart=>exact⟨0,rfl,by omega,Below.refl _ _,by simpa [setsP] using OwnL.nil 54 4 ES w w.heap.size⟩
 case round =>
  obtain⟨j,rfl,hj,hB,hO⟩:=hrel
  have HB:=hide hB
  have HO:=hide hO
  have y0:wr.cell? ⟨sb,0,none⟩=some (.pointer (some ⟨Zb,0,none⟩)):=(hB.cell (p:=⟨sb,0,none⟩) hsb).trans H0.out
  clear hB hO
  by_cases hlt:j<tl
  ·have hjT:j<T.length:=by rw[HTL.out];exact hlt
   have hjt:j<ts.length:=by rw[htl.out];exact hlt
   obtain⟨b,o,rfl,hblt,hc⟩:=(HTS.out.below HB.out (Nat.le_refl _)) (by omega)
   obtain⟨t,ht⟩ : ∃ t,t=(ts.getD j 0).toNat:=⟨_,rfl⟩
   have y1:wr.cell? ⟨b,o+j,none⟩=some (.int .u16 (t:Int)):=by rw[ht];exact hc j hjt
   have ht1:t<65536:=by rw[ht];exact (ts.getD j 0).toNat_lt
   have hTj:T[j]=t:=by
    have e:T[j]?=some t:=by rw[HT.out,List.getElem?_map,List.getElem?_eq_getElem hjt,ht,List.getD_eq_getElem?_getD,List.getElem?_eq_getElem hjt];rfl
    rw[List.getElem?_eq_getElem hjT] at e;injection e
   have hsn:=setsP_snoc L n T j hjT
   rw[hTj] at hsn
   have hset:=zset_live (HZ.out.bel HB.out) hK n ao len cap hl (HS.out.below HB.out (Nat.le_refl _)) hm t ht1
   have hln:(setsP L n (T.take j)).length<=1000000:=by
    have h1:=setsP_len L n (T.take j)
    rw[List.length_take] at h1
    omega
   have hjk:(j:Int)<(tl:Int):=by omega
   unfold SetR at hset
   have HSN:=hide hsn
   have HLN:=hide hln
   clear hc ht hTj hsn hln
   by_cases hn0:Z.setAt L (path n) t = []
   ·have HSET:=hide (hset.mono (R':=fun e w'=>e = .returned (.tuple #[.agg #[.slice none 0 0,.int .u16 0,.int .u32 0,.slice none 0 0],.bool false])/\Below wr.heap.size wr w') fun e w' ⟨hb2,h⟩=>by
     rcases h with⟨_,he⟩ | ⟨h1,_⟩
     ·exact⟨he,hb2⟩
     ·exact absurd hn0 h1)
    have hsn:=HSN.out
    rw[if_pos hn0,List.append_nil] at hsn
    have HSN2:=hide hsn
    clear hset hsn hn0
    go_wp2_with (go_at_call 24;refine HSET.out.mono ?_;rintro e w2 ⟨rfl,hb2⟩)
    go_roundw
    case rel =>
     have hb3:=hb2.alloc hb2.size (.cells #[.slice none 0 0,.int .u16 0,.int .u32 0,.slice none 0 0] 54)
     exact⟨j+1,by go_num,by omega,HB.out.trans (hb3.mono HB.out.size),by rw[HSN2.out];exact HO.out.bel (fun _ _ h=>h.bel hb3) hb3⟩
    case measure=>simp[intOf];omega
   ·have HSET:=hide (hset.mono (R':=fun e w' => ∃ (na:Option Addr) (nc:Nat) (q:Option Addr) (ql qc tt:Nat),e = .returned (.tuple #[.agg #[.slice na len nc,.int .u16 (t:Int),.int .u32 (tt:Int),.slice q ql qc],.bool true])/\ES w' (setP L n t) [.slice na len nc,.int .u16 (t:Int),.int .u32 (tt:Int),.slice q ql qc]/\Below wr.heap.size wr w') fun e w' ⟨hb2,h⟩=>by
     rcases h with⟨h1,_⟩ | ⟨_,na,nc,v,he,hT,hc,hO⟩
     ·exact absurd h1 hn0
     ·obtain⟨q,qc,rfl,_,_⟩:=hO.slice
      refine⟨na,nc,q,_,qc,_,he,⟨na,nc,q,qc,wr.heap.size,?_,hT,?_,hO⟩,hb2⟩
      ·have e:(setP L n t).n.length=len:=(N.lowN_len n).trans hl.out
       rw[e];rfl
      ·have e:(setP L n t).n.length=len:=(N.lowN_len n).trans hl.out
       rw[e];exact hc)
    have hsn:=HSN.out
    rw[if_neg hn0] at hsn
    have HSN2:=hide hsn
    clear hset hsn hn0
    go_wp2_with (first
     | (go_at_call 24;refine HSET.out.mono ?_;rintro e w2 ⟨na,nc,q,ql,qc,tt,rfl,hES,hb2⟩;have HES:=hide hES;have HB2:=hide hb2;clear hES hb2)
     | (at_builtin;(refine wpList_appX rfl (.tmp 29) (.tmp 31) 68 rfl Tryz.underlying68 _ 56 (info_parts infoAs) rfl (by decide) (by decide) w.heap.size _ (setsP L n (T.take j)) rfl (HO.out.bel (fun _ _ h=>h.bel (HB2.out.trans ((((Below.refl _ w2).alloc (Nat.le_refl _) _).alloc (by simp) _).mono HB2.out.size))) (HB2.out.trans ((((Below.refl _ w2).alloc (Nat.le_refl _) _).alloc (by simp) _).mono HB2.out.size))) ⟨w2.heap.size+1,0,none⟩ 1 (setP L n t) [.slice na len nc,.int .u16 (t:Int),.int .u32 (tt:Int),.slice q ql qc] rfl (one_cell _ _ #[.slice na len nc,.int .u16 (t:Int),.int .u32 (tt:Int),.slice q ql qc] 54 (by have:=RowAt.new (w2.alloc (.cells #[.slice na len nc,.int .u16 (t:Int),.int .u32 (tt:Int),.slice q ql qc] 54)) 54 #[.slice na len nc,.int .u16 (t:Int),.int .u32 (tt:Int),.slice q ql qc];rw[World.size_alloc] at this;exact this)) rfl (by simp[Value.oneCell']) (HES.out.bel (((Below.refl _ w2).alloc (Nat.le_refl _) _).alloc (by simp) _)) (fun _ _ _ k h=>h.kx (by decide) (by decide) k) HLN.out (by have:=HB.out.size;have:=HB2.out.size;simp;omega) ?_);intro v3 w3 hO3 hK3 hB3 hG3)
     | fail)
    go_roundw
    case rel =>
     exact⟨j+1,by go_num,by omega,(HB.out.trans ((HB2.out.trans ((((Below.refl _ w2).alloc (Nat.le_refl _) _).alloc (by simp) _).mono HB2.out.size)).mono HB.out.size)).trans hB3,by rw[HSN2.out];exact hO3⟩
    case measure=>simp[intOf];omega
  ·obtain rfl:j=tl:=by omega
   have e:T.take j=T:=List.take_of_length_le (by rw[HTL.out];omega)
   rw[e] at HO
   go_wp2
   go_ret
   exact⟨_,rfl,HO.out,HB.out⟩
set_option maxRecDepth 5000 in
theorem KX.set {w:World} {g:Nat} {et:TypeId} {c:Array Value} (h:RowAt w g et c) (j:Nat) (v:Value):KX et w (w.setCell ⟨g,j,none⟩ v):=⟨by simp,fun b cs t fr hb ht=>by
 have hne:b≠g:=fun e=>by
  have h:w.heap[g]?=_:=h
  rw[e,h] at hb;injection hb with hb;injection hb with _ hb _;exact ht hb.symm
 exact (heap_setCell_other _ _ _ _ hne).trans hb⟩
end Go.Proofs.YtmbcegljmhcdeaaGreat
namespace Go.Proofs.YtmbcegljmhcdeaaGreat
set_option maxRecDepth 5000
open Go.RowKit
structure KA (w w':World):Prop where
 size:w.heap.size<=w'.heap.size
 rows : ∀ (g:Nat) (c:Array Value) (et:TypeId) (fr:Nat × Nat),w.heap[g]?=some (Obj.cells c et fr)->et≠54->et≠122->w'.heap[g]?=some (Obj.cells c et fr)
theorem KA.refl (w:World):KA w w:=⟨Nat.le_refl _,fun _ _ _ _ h _ _=>h⟩
theorem KA.trans {a b c:World} (h:KA a b) (k:KA b c):KA a c:=⟨Nat.le_trans h.size k.size,fun g x et fr hg h1 h2=>k.rows g x et fr (h.rows g x et fr hg h1 h2) h1 h2⟩
theorem KA.bel {w w':World} (h:Below w.heap.size w w'):KA w w':=⟨h.size,fun g _ _ _ hg _ _=>(h.block g (Array.getElem?_eq_some_iff.1 hg).1).trans hg⟩
theorem KA.kx {et0:TypeId} {w w':World} (h:KX et0 w w') (he:et0=54\/et0=122):KA w w':=⟨h.size,fun g c et fr hg h1 h2=>h.rows g c et fr hg fun e=>by rcases he with he | he;exact h1 (e.trans he);exact h2 (e.trans he)⟩
theorem KA.kb {w w':World} (h:KA w w'):KB w w':=⟨h.size,fun g c et fr hg he=>h.rows g c et fr hg (fun e=>by rcases he with h | h <;> (rw[h] at e;exact absurd e (by decide))) (fun e=>by rcases he with h | h <;> (rw[h] at e;exact absurd e (by decide)))⟩
def PSet.as (m:List (List UInt8)) (x:PSet):PSet:=⟨m,x.t,x.ttl,x.d⟩
theorem cell_set_ne {w:World} {g j:Nat} {et:TypeId} {c:Array Value} (hr:RowAt w g et c) {b o:Nat} {u v x:Value} (hq:w.cell? ⟨b,o,none⟩=some u) (hx:c[j]?=some x) (hne:u≠x):(w.setCell ⟨g,j,none⟩ v).cell? ⟨b,o,none⟩=some u:=by
 by_cases hb:b=g
 ·subst hb
  rw[hr.cell] at hq
  rw[(hr.set j v).cell,Array.getElem?_setIfInBounds]
  by_cases ho:j=o
  ·subst ho
   rw[hx] at hq;injection hq with hq;exact absurd hq.symm hne
  ·rw[if_neg ho];exact hq
 ·rw[<- hq];exact World.cell?_of_block (heap_setCell_other _ _ _ _ hb)
theorem SlS.put {w:World} {g j:Nat} {et:TypeId} {c:Array Value} (hr:RowAt w g et c) {x:Value} (hx:c[j]?=some x) (hne : ∀ s,Value.string s≠x) (v:Value) {ao:Option Addr} {n:List (List UInt8)} (hs:SlS w ao n):SlS (w.setCell ⟨g,j,none⟩ v) ao n:=fun hn=>by
 obtain⟨b,o,e,hlt,hc⟩:=hs hn
 exact⟨b,o,e,by rw[World.size_setCell];exact hlt,fun i hi=>cell_set_ne hr (hc i hi) hx (hne _)⟩
theorem SlH.put {w:World} {g j:Nat} {et:TypeId} {c:Array Value} (hr:RowAt w g et c) {x:Value} (hx:c[j]?=some x) (hne : ∀ s,Value.int .u16 s≠x) (v:Value) {ao:Option Addr} {n:List UInt16} (hs:SlH w ao n):SlH (w.setCell ⟨g,j,none⟩ v) ao n:=fun hn=>by
 obtain⟨b,o,e,hlt,hc⟩:=hs hn
 exact⟨b,o,e,by rw[World.size_setCell];exact hlt,fun i hi=>cell_set_ne hr (hc i hi) hx (hne _)⟩
open Go.RowKit
def cutL (A:List (List UInt8)) (L:List Z.R) (q:List (List UInt8)) (d:Nat):Prop:=A.length<d/\Z.setAt L (q.take d) 2 ≠ []
def CutL (w:World) (A:List (List UInt8)) (L:List Z.R) (n:List (List UInt8)) (e:Ending) (w':World):Prop :=
 Below w.heap.size w w'/\((e = .returned (.tuple #[.slice none 0 0,.bool false]) /\ ∀ d,d<=n.length -> ¬ cutL A L (path n) d) \/
  ∃ (d:Nat) (na:Option Addr) (c:Nat),d<=n.length/\cutL A L (path n) d/\(∀ j,j<d -> ¬ cutL A L (path n) j)/\e = .returned (.tuple #[.slice na d c,.bool true])/\SlS w' na ((N.lowN n).drop (n.length - d)))
theorem zcut_live {X:Nat->Prop} {w:World} {Zb:Nat} {A:List (List UInt8)} {L:List Z.R} {K:Nat} (Z0:ZLive X w Zb A L K) (hA:A.length<=1000000) (n:List (List UInt8)) (ao:Option Addr) (len cap:Nat) (hl:Hid (n.length=len)) (hs:SlS w ao n) (hm:Hid (N.Small n)) :
 Calls Tryz.prog 27 #[.pointer (some ⟨Zb,0,none⟩),.slice ao len cap] w fun e w'=>CutL w A L n e w':=by
 obtain⟨ρ,G,C,Zx,hX,hth⟩:=Z0
 have hit : ∀ d,cutHit A C (path n) d↔cutL A L (path n) d:=fun d=>by
  unfold cutHit cutL
  have h:=Z.Of.none_iff Zx.of ((path n).take d) 2
  rw[Option.isSome_iff_ne_none]
  exact⟨fun ⟨h1,h2⟩=>⟨h1,fun h3=>h2 (h.2 h3)⟩,fun ⟨h1,h2⟩=>⟨h1,fun h3=>h2 (h.1 h3)⟩⟩
 refine (zcut_any w Zb A L ρ G C K Zx hA n ao len cap hl hs hm).mono ?_
 rintro e w' ⟨hb,⟨rfl,h⟩ | ⟨d,b,o,c,h1,h2,h3,rfl,h4,_⟩⟩
 ·exact⟨hb,Or.inl ⟨rfl,fun d hd hc=>h d hd ((hit d).2 hc)⟩⟩
 ·exact⟨hb,Or.inr ⟨d,some ⟨b,o,none⟩,c,h1,(hit d).1 h2,fun j hj hc=>h3 j hj ((hit j).2 hc),rfl,h4.1⟩⟩
theorem path_drop (n:List (List UInt8)) (k:Nat):path (n.drop k)=(path n).take (n.length - k):=by
 unfold path N.lowN
 rw[List.map_drop,List.reverse_drop,List.length_map]
theorem within_path2 (n A:List (List UInt8)):N.within n A=true↔path A <+: path n:=by
 rw[N.within_iff]
 have e1:N.lowN A.reverse=path A:=by unfold path;exact List.map_reverse
 have e2:N.lowN n.reverse=path n:=by unfold path;exact List.map_reverse
 rw[e1,e2]
end Go.Proofs.YtmbcegljmhcdeaaGreat
namespace Go.Proofs.YtmbcegljmhcdeaaGreat
set_option maxRecDepth 5000
open Go.RowKit
set_option maxRecDepth 100000 in
set_option maxHeartbeats 1500000 in
theorem givenAway_none {X:Nat->Prop} {w:World} {Zb:Nat} {A:List (List UInt8)} {L:List Z.R} {K:Nat} (Z0:ZLive X w Zb A L K) (hA:A.length<=1000000) (sb:Nat) (va v v2 v3 v4:Value) (t:Nat) (kd:Int) (sa:Option Addr) (sl sc:Nat) (nm:List (List UInt8)) (na:Option Addr) (nl nc:Nat) (hnl:Hid (nm.length=nl))
 (hrow:RowAt w sb 122 #[.pointer (some ⟨Zb,0,none⟩),va,.int .u16 (t:Int),.slice sa sl sc,.int .i64 kd,v,v2,v3,v4,.slice na nl nc]) (hs:SlS w na nm) (hnm:Hid (N.Small nm)) (hno : ∀ d,d<=nm.length -> ¬ cutL A L (path nm) d) :
 Calls Tryz.prog 71 #[.pointer (some ⟨sb,0,none⟩)] w fun e w'=>e = .returned (.tuple #[.slice none 0 0,.bool false])/\Below w.heap.size w w':=by
 have hcut : ∀ W,Below w.heap.size w W->Calls Tryz.prog 27 #[.pointer (some ⟨Zb,0,none⟩),.slice na nl nc] W fun e w'=>e = .returned (.tuple #[.slice none 0 0,.bool false])/\Below W.heap.size W w':=fun W hW=>by
  refine (zcut_live (Z0.bel hW) hA nm na nl nc hnl (hs.below hW (Nat.le_refl _)) hnm).mono ?_
  rintro e w' ⟨hb,⟨rfl,_⟩ | ⟨d,b,c,h1,h2,_⟩⟩
  ·exact⟨rfl,hb⟩
  ·exact absurd h2 (hno d h1)
 have HCUT:=hide hcut
 have HROW:=hide hrow
 have HS:=hide hs
 clear hcut hrow hs hno Z0
 go_enter Tryz.func71,Tryz.ntmps71
 go_wp2
 have SAll:Hid (∀ W,Below w.heap.size w W->W.cell? ⟨sb,0,none⟩=some (.pointer (some ⟨Zb,0,none⟩))/\W.cell? ⟨sb,9,none⟩=some (.slice na nl nc)):=hide fun W hW=>⟨(HROW.out.below hW HROW.out.lt).cell 0,(HROW.out.below hW HROW.out.lt).cell 9⟩
 refine wp_region_X (S:=fun w'=>w'.cell? ⟨sb,0,none⟩=some (.pointer (some ⟨Zb,0,none⟩))/\w'.cell? ⟨sb,9,none⟩=some (.slice na nl nc)) (jS:=1000) (by kernel_rfl) ?_
 have BA:Hid (Below w.heap.size w w.drew):=hide ((Below.refl _ w).drew)
 have SA:=hide (SAll.out _ BA.out)
 generalize w.drew=w1 at BA SA ⊢
 refine tk gt0 SA.out ?_
 refine tk gt1 SA.out ?_
 refine tk gt2 SA.out ?_
 refine tk gt3 SA.out ?_
 refine tk gt4 SA.out ?_
 refine tk gt5 SA.out ?_
 refine tk gt6 SA.out ?_
 refine tk gt7 SA.out ?_
 refine tk gt8 SA.out ?_
 refine wpAnyX_ready (rs := [9]) (by kernel_rfl) (by simp) (AllX.cons gt9 (fun K hKK=>?_) AllX.nil)
 refine step_fng (by rfl) 27 #[.pointer (some ⟨Zb,0,none⟩),.slice na nl nc] (by go_simp) (HCUT.out _ BA.out) (by rintro e w' ⟨rfl,_⟩;exact⟨_,rfl⟩) ?_
 rintro _ w2 ⟨he,hb⟩
 cases he
 have B2:=hide (BA.out.trans (hb.mono BA.out.size))
 have SB:=hide (SAll.out _ B2.out)
 refine kk hKK (Or.inr SB.out) ?_
 clear hKK hb SA
 refine tk gt10 SB.out ?_
 refine tk gt11 SB.out ?_
 refine tk gt12 SB.out ?_
 refine tk gt13 SB.out ?_
 refine tk gt14 SB.out ?_
 refine wpAnyX_done (by kernel_rfl) ?_ _
 obtain⟨z0,z9⟩:=SB.out
 have z2:w2.cell? ⟨sb,2,none⟩=some (.int .u16 (t:Int)):=(HROW.out.below B2.out HROW.out.lt).cell 2
 have z3:w2.cell? ⟨sb,3,none⟩=some (.slice sa sl sc):=(HROW.out.below B2.out HROW.out.lt).cell 3
 by_cases ht:t=43
 ·have htb:((t:Int) == 43)=true:=by simp[ht]
  by_cases hsl:sl=0
  ·have hsb:((sl:Int) == 0)=true:=by simp[hsl]
   have hsame:=same_any [] nm none na 0 nl 0 nc w2 (hide rfl) hnl (fun h=>absurd h (by simp)) (HS.out.below B2.out (Nat.le_refl _)) (by omega) (by have:=hnm.out.1;have:=hnl.out;omega) (hide (Sane.small ⟨by simp,by simp⟩)) (hide (Sane.small hnm.out))
   have HSAME:=hide hsame
   clear hsame ht hsl
   go_wp2_with (go_at_call 106;refine HSAME.out.mono ?_;rintro e w3 ⟨rfl,hB3⟩)
   go_ret2
   obtain⟨m,rfl⟩:=hB3
   exact⟨rfl,below_drewN B2.out m⟩
  ·have hsb:((sl:Int) == 0)=false:=by simp;omega
   clear ht hsl
   go_wp2
   go_ret2
   exact⟨rfl,B2.out⟩
 ·have htb:((t:Int) == 43)=false:=by simp;omega
  clear ht
  go_wp2
  go_ret2
  exact⟨rfl,B2.out⟩
end Go.Proofs.YtmbcegljmhcdeaaGreat
namespace Go.Proofs.YtmbcegljmhcdeaaGreat
set_option maxRecDepth 5000
open Go.RowKit
def Flat (ao:Option Addr):Prop:=ao=none \/ ∃ b o,ao=some ⟨b,o,none⟩
theorem SlS.flat {w:World} {ao:Option Addr} {n:List (List UInt8)} (h:SlS w ao n) (hn:0<n.length):Flat ao:=by
 obtain⟨b,o,e,_,_⟩:=h hn;exact Or.inr ⟨b,o,e⟩
theorem nclone_all (w:World) (ao:Option Addr) (len c:Nat) (l:List (List UInt8)) (hl:l.length=len) (hl2:len<=1000000) (hf:Flat ao) (hs:SlS w ao l) :
 Calls Tryz.prog 56 #[.slice ao len c] w fun e w' => ∃ v,e = .returned v/\OwnS w' w.heap.size v l/\Below w.heap.size w w':=by
 subst hl
 obtain⟨i0,hi,hz0,hz1,hz2⟩:=info_parts infoS
 rcases hf with rfl | ⟨b,o,rfl⟩
 ·have e:l = []:=by
   cases l with
   | nil=>rfl
   | cons x l=>obtain⟨b,o,e,_⟩:=hs (by simp);cases e
  subst e
  refine (nclone_nil w 0 c).mono ?_
  rintro e w' ⟨rfl,rfl⟩
  exact⟨_,rfl,OwnS.nil _ _,Below.refl _ _⟩
 ·refine (AnyE.slices_Clone Tryz.nCloneA i0 (.string ⟨#[]⟩) 1 16 hi hz0 hz1 hz2 rfl (by decide) Tryz.sizeOf9 b o l.length c (vs l) w (by rw[vs_len];omega) (by unfold maxLen;omega) (by omega) (fun j u hu=>?_) (vs_one l)).mono ?_
  ·have hj:j<l.length:=by have:=(List.getElem?_eq_some_iff.1 hu).1;rwa [vs_len] at this
   obtain⟨b',o',e,_,hc⟩:=hs (by omega)
   injection e with e;injection e with e1 e2 _
   subst e1;subst e2
   rw[hc j hj, <- vs_get l j hj,hu]
  ·rintro e w' ⟨v,rfl,h1,_,h2⟩
   exact⟨v,rfl,h1,h2⟩
theorem slice_flat {w:World} {ao:Option Addr} {n:List (List UInt8)} {len cap k:Nat} {x:Int} (hx:x=(k:Int)) (hs:SlS w ao n) (hf:Flat ao) (hl:n.length=len) (hk:k<=len) (hc:len<=cap) :
 ∃ ao',(∀ W,(Instr.slice 28 (.slice ao len cap) (some (.int .i64 x)) none none).run Tryz.prog W = .ok (.slice ao' (len - k) (cap - k)) W)/\SlS w ao' (n.drop k)/\Flat ao':=by
 subst hx
 refine⟨if cap=k then ao else ao.map (·.add (k*1)),fun W=>?_,fun hn=>?_,?_⟩
 ·rw[run_slice_l W 28 ao len cap Tryz.underlying28 .i64 (k:Int) (by omega) (by omega)]
  have hz:(sizeOf (Tryz.prog.elem 28)).run Tryz.prog W = .ok 1 W:=Tryz.sizeOf9 W
  rw[hz]
  simp only[Result.andThen,sliced,Int.toNat_natCast]
 ·rw[List.length_drop] at hn
  obtain⟨b,o,rfl,hlt,hcell⟩:=hs (by omega)
  rw[if_neg (by omega)]
  obtain⟨b',o',e,h1,h2⟩:=(SlS.drop (w:=w) (b:=b) (o:=o) (k:=k) (n:=n) (fun _=>⟨b,o,rfl,hlt,hcell⟩) (by omega)) (by rw[List.length_drop];omega)
  refine⟨b',o',?_,h1,h2⟩
  rw[<- e,Option.map_some,Nat.mul_one,addr_add]
 ·split
  ·exact hf
  ·rcases hf with rfl | ⟨b,o,rfl⟩
   ·exact Or.inl rfl
   ·exact Or.inr ⟨b,o+k,by rw[Option.map_some,Nat.mul_one,addr_add]⟩
theorem llast_any (n:List (List UInt8)) (ao:Option Addr) (len cap c:Nat) (w:World) (hl:Hid (n.length=len)) (hs:SlS w ao n) (hf:Flat ao) (hcl:c<=len) (hcap:len<=cap) (hm:len<=1000000) :
 Calls Tryz.prog 80 #[.slice ao len cap,.int .i64 (c:Int)] w fun e w' => ∃ v,e = .returned v/\OwnS w' w.heap.size v (n.drop (len - c))/\Below w.heap.size w w':=by
 obtain⟨k,hk⟩ : ∃ k,k=len - c:=⟨_,rfl⟩
 have hki:IntKind.i64.wrap ((len:Int) - (c:Int))=(k:Int):=by rw[IntKind.wrap_i64];omega
 obtain⟨ao',hsl,hs',hf'⟩:=slice_flat (k:=k) (x:=(k:Int)) rfl hs hf hl.out (by omega) hcap
 have hcl2:=nclone_all w ao' (len - k) (cap - k) (n.drop k) (by rw[List.length_drop,hl.out]) (by omega) hf' hs'
 rw[<- hk]
 have HCL:=hide hcl2
 clear hcl2 hs' hf' hs hf hk
 go_enter Tryz.func80,Tryz.ntmps80
 go_wp2_with (go_at_call 56;refine HCL.out.mono ?_;rintro e w2 ⟨v,rfl,hO,hB⟩)
 go_ret
 exact⟨v,rfl,hO,hB⟩
open Go.RowKit
theorem zput_idle {X:Nat->Prop} {w:World} {Zb:Nat} {A:List (List UInt8)} {L:List Z.R} {K:Nat} (Z0:ZLive X w Zb A L K) (hA:Hid (N.Small A)) (n:List (List UInt8)) (na:Option Addr) (nl nc:Nat) (hl:Hid (n.length=nl)) (hnc:nl<=nc) (hs:SlS w na n) (hm:Hid (N.Small n)) :
 Calls Tryz.prog 44 #[.pointer (some ⟨Zb,0,none⟩),.agg #[.slice na nl nc,.int .u16 0,.int .u16 0,.int .u32 0,.slice none 0 0]] w fun e w'=>e = .returned (.tuple #[.bool false,.int .i64 (if N.chk n=0/\N.within n A=true then 50 else 110)])/\Below w.heap.size w w':=by
 obtain⟨ρ,G,C,Zx,hX,hth⟩:=Z0
 by_cases h:N.chk n=0/\N.within n A=true
 ·rw[if_pos h]
  exact zput_data w Zb A L ρ G C K Zx hA n na nl nc hl hnc hs hm 0 0 0 [] none 0 (fun h=>absurd h (by simp)) (fun _=>rfl) (Nat.le_refl _) h.1 h.2 (Or.inl (by decide))
 ·rw[if_neg h]
  refine zput_name w Zb A L ρ G C K Zx hA n na nl nc hl hnc hs hm 0 0 0 [] none 0 (fun h=>absurd h (by simp)) (fun _=>rfl) (Nat.le_refl _) ?_
  by_cases h1:N.chk n=0
  ·right
   cases h2:N.within n A with
   | false=>rfl
   | true=>exact absurd ⟨h1,h2⟩ h
  ·exact Or.inl h1
theorem within_last (n:List (List UInt8)) (j:Nat) (h1:1<=j) (h2:j<=n.length):N.within (n.drop (n.length - j)) Z.exA=N.within n Z.exA:=by
 have h:N.within (n.drop (n.length - j)) Z.exA=true↔N.within n Z.exA=true:=by
  rw[within_path2,within_path2,path_drop,List.prefix_take_iff,path_len,show n.length - (n.length - j)=j by omega]
  exact⟨fun h=>h.1,fun h=>⟨h,h1⟩⟩
 cases ha:N.within (n.drop (n.length - j)) Z.exA <;> cases hb:N.within n Z.exA <;> simp_all
theorem within_chk (n:List (List UInt8)) (h:N.within n Z.exA=true):1<=n.length/\N.chk (n.drop (n.length - 1))=0:=by
 have h0:=(within_path2 _ _).1 h
 have h1:1<=n.length:=by
  have:=h0.length_le
  rw[path_len,path_len] at this
  exact this
 refine⟨h1,?_⟩
 have h2:=within_last n 1 (Nat.le_refl _) h1
 rw[h,within_path2] at h2
 have hlen:(n.drop (n.length - 1)).length=1:=by rw[List.length_drop];omega
 obtain⟨x,hx⟩:=List.length_eq_one_iff.1 hlen
 rw[hx] at h2 ⊢
 have h3:path Z.exA=path [x]:=h2.eq_of_length (by rw[path_len,path_len];rfl)
 have h4:N.lowL [101,120,97,109,112,108,101]=N.lowL x:=by
  have:([N.lowL [101,120,97,109,112,108,101]]:List (List UInt8)) = [N.lowL x]:=h3
  injection this
 have h5:x.length=7:=by
  have:=congrArg List.length h4
  rw[N.lowL_len,N.lowL_len] at this
  exact this.symm
 refine N.chk_ok ?_ ?_ ?_
 ·intro hm
  have:([]:List UInt8)=x:=by simpa using hm
  rw[<- this] at h5;cases h5
 ·have:N.size [x]=x.length+2:=by simp[N.size];try omega
  omega
 ·intro l hl
  have:l=x:=by simpa using hl
  rw[this];omega
theorem within_none:N.within [] Z.exA=false:=by decide +kernel
set_option maxRecDepth 20000 in
set_option maxHeartbeats 1000000 in
theorem lapex_any {X:Nat->Prop} {w:World} {Zb:Nat} {L:List Z.R} {K:Nat} (Z0:ZLive X w Zb Z.exA L K) (n:List (List UInt8)) (ao:Option Addr) (len cap:Nat) (hl:Hid (n.length=len)) (hs:SlS w ao n) (hf:Flat ao) (hcap:len<=cap) (hm:Hid (N.Small n)) :
 Calls Tryz.prog 70 #[.pointer (some ⟨Zb,0,none⟩),.slice ao len cap] w fun e w' => ∃ v,e = .returned (.tuple #[v,.bool (N.within n Z.exA)])/\OwnS w' w.heap.size v (if N.within n Z.exA=true then n.drop (len - 1) else [])/\Below w.heap.size w w':=by
 have HZ:=hide Z0
 have HS:=hide hs
 have HF:=hide hf
 have hlen:len<=1000000:=by rw[<- hl.out];exact hm.out.1
 have hone:N.within n Z.exA=true->1<=len:=fun h=>by rw[<- hl.out];exact (within_chk n h).1
 have HONE:=hide hone
 obtain⟨T,hT⟩ : ∃ T,T=(if N.within n Z.exA=true then n.drop (len - 1) else []):=⟨_,rfl⟩
 obtain⟨bw,hbw⟩ : ∃ bw,bw=N.within n Z.exA:=⟨_,rfl⟩
 rw[<- hT, <- hbw]
 have HT:=hide hT
 have HBW:=hide hbw
 clear Z0 hs hf hone hT hbw
 go_enter Tryz.func70,Tryz.ntmps70
 go_wp2
 go_loopw [6] (fun i wr => ∃ j:Nat,i = .int .i64 (j:Int)/\j<=len+1/\j<=128/\(N.within n Z.exA=true->j<=1)/\Below w.heap.size w wr) (fun i _=>len+1 - (intOf i).toNat)
 case atStart=>exact⟨0,rfl,by omega,by omega,fun _=>by omega,Below.refl _ _⟩
 case round =>
  obtain⟨j,rfl,hj,hj2,hj1,hB⟩:=hrel
  have HB:=hide hB
  have HJ1:=hide hj1
  clear hB hj1
  by_cases hlt:j<=len/\j<=127
  ·have hjk:(j:Int)<=(len:Int):=by omega
   have hjk2:(j:Int)<=127:=by omega
   have hlast:=llast_any n ao len cap j wr hl (HS.out.below HB.out (Nat.le_refl _)) HF.out hlt.1 hcap hlen
   have hq:(n.drop (len - j)).length=j:=by rw[List.length_drop,hl.out];omega
   have hqs:N.Small (n.drop (len - j)):=⟨by rw[hq];omega,fun l h=>hm.out.2 l (List.mem_of_mem_drop h)⟩
   obtain⟨q,hqe⟩ : ∃ q,q=n.drop (len - j):=⟨_,rfl⟩
   rw[<- hqe] at hlast hq hqs
   have hhit:(if N.chk q=0/\N.within q Z.exA=true then (50:Int) else 110)=if N.within n Z.exA=true/\j=1 then 50 else 110:=by
    by_cases h:N.within n Z.exA=true
    ·have h1:=HJ1.out h
     rcases Nat.eq_zero_or_pos j with h0 | h0
     ·subst h0
      have:q = []:=List.eq_nil_of_length_eq_zero hq
      rw[this,within_none];simp
     ·have e:j=1:=by omega
      subst e
      have h2:=within_last n 1 (Nat.le_refl _) (by rw[hl.out];omega)
      have h3:=(within_chk n h).2
      rw[hl.out, <- hqe] at h2 h3
      rw[if_pos ⟨h3,h2.trans h⟩,if_pos ⟨h,rfl⟩]
    ·rw[if_neg (c:=N.within n Z.exA=true/\j=1) (fun e=>h e.1)]
     refine if_neg fun e=>?_
     rcases Nat.eq_zero_or_pos j with h0 | h0
     ·subst h0
      have:q = []:=List.eq_nil_of_length_eq_zero hq
      rw[this,within_none] at e;cases e.2
     ·have h2:=within_last n j h0 (by rw[hl.out];exact hlt.1)
      rw[hl.out, <- hqe] at h2
      exact h (h2.symm.trans e.2)
   have HLAST:=hide hlast
   have HQ:=hide hq
   have HQS:=hide hqs
   have HHIT:=hide hhit
   have HQE:=hide hqe
   clear hlast hq hqs hhit hqe
   by_cases hh:N.within n Z.exA=true/\j=1
   ·have hput : ∀ W a c,Below w.heap.size w W->SlS W a q->j<=c->Calls Tryz.prog 44 #[.pointer (some ⟨Zb,0,none⟩),.agg #[.slice a j c,.int .u16 0,.int .u16 0,.int .u32 0,.slice none 0 0]] W fun e w'=>e = .returned (.tuple #[.bool false,.int .i64 50])/\Below W.heap.size W w':=fun W a c hW hS hc=>by
     have h:=zput_idle (HZ.out.bel hW) (hide exA_small) q a j c HQ hc hS HQS
     rw[HHIT.out,if_pos hh] at h;exact h
    have HPUT:=hide hput
    have HH:=hide hh
    clear hput hh
    go_wp2_with (first
     | (go_at_call 44;refine (HPUT.out w2 a2 c2 HB2.out HS2.out hc2).mono ?_;rintro e w3 ⟨rfl,hB3⟩)
     | (go_at_call 80;refine HLAST.out.mono ?_;rintro e w2 ⟨v,rfl,hO,hB2⟩;obtain⟨a2,c2,rfl,hS2,_,hc2,_⟩:=hO.open;rw[HQ.out] at hc2 hO ⊢; have HO:=hide hO;have HS2:=hide hS2;have HB2:=hide (HB.out.trans (hB2.mono HB.out.size));clear hO hS2 hB2)
     | fail)
    go_ret2
    refine⟨.slice a2 j c2,congrArg (fun b=>Ending.returned (.tuple #[.slice a2 j c2,.bool b])) (HBW.out.trans HH.out.1).symm,?_,HB2.out.trans (hB3.mono HB2.out.size)⟩
    have e:=HQE.out
    rw[HH.out.2] at e
    rw[HT.out,if_pos HH.out.1, <- e]
    have h1:OwnS w3 wr.heap.size (.slice a2 j c2) q:=HO.out.below hB3
    exact h1.lower HB.out.size
   ·have hput : ∀ W a c,Below w.heap.size w W->SlS W a q->j<=c->Calls Tryz.prog 44 #[.pointer (some ⟨Zb,0,none⟩),.agg #[.slice a j c,.int .u16 0,.int .u16 0,.int .u32 0,.slice none 0 0]] W fun e w'=>e = .returned (.tuple #[.bool false,.int .i64 110])/\Below W.heap.size W w':=fun W a c hW hS hc=>by
     have h:=zput_idle (HZ.out.bel hW) (hide exA_small) q a j c HQ hc hS HQS
     rw[HHIT.out,if_neg hh] at h;exact h
    have HPUT:=hide hput
    have HH:=hide hh
    clear hput hh
    go_wp2_with (first
     | (go_at_call 44;refine (HPUT.out w2 a2 c2 HB2.out HS2.out hc2).mono ?_;rintro e w3 ⟨rfl,hB3⟩)
     | (go_at_call 80;refine HLAST.out.mono ?_;rintro e w2 ⟨v,rfl,hO,hB2⟩;obtain⟨a2,c2,rfl,hS2,_,hc2,_⟩:=hO.open;rw[HQ.out] at hc2 hO ⊢; have HO:=hide hO;have HS2:=hide hS2;have HB2:=hide (HB.out.trans (hB2.mono HB.out.size));clear hO hS2 hB2)
     | fail)
    go_roundw
    case rel =>
     refine⟨j+1,by go_num,by omega,by omega,fun h=>?_,HB2.out.trans (hB3.mono HB2.out.size)⟩
     have h1:=HJ1.out h
     have h2:j≠1:=fun e=>HH.out ⟨h,e⟩
     omega
    case measure=>simp[intOf];omega
  ·have hno:N.within n Z.exA=false:=by
    cases h:N.within n Z.exA with
    | false=>rfl
    | true =>
     have h1:=HJ1.out h
     have h2:=HONE.out h
     exact absurd ⟨by omega,by omega⟩ hlt
   have hjk : ¬ ((j:Int)<=min (len:Int) 127):=by omega
   have HNO:=hide hno
   clear hno hlt
   go_wp2
   go_ret2
   refine⟨.slice none 0 0,congrArg (fun b=>Ending.returned (.tuple #[.slice none 0 0,.bool b])) (HBW.out.trans HNO.out).symm,?_,HB.out⟩
   rw[HT.out,HNO.out,if_neg (by simp)]
   exact OwnS.nil _ _
end Go.Proofs.YtmbcegljmhcdeaaGreat
