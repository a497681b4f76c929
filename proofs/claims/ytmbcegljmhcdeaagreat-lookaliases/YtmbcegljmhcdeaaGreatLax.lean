/- LookAliases walked. Made by glax.py. -/
import Derived.Test.YtmbcegljmhcdeaaGreatLgs
import Derived.Test.YtmbcegljmhcdeaaGreatZpw
namespace Go.Proofs.YtmbcegljmhcdeaaGreat
set_option maxRecDepth 5000
open Go.RowKit
structure MK (w w':World):Prop where
 size:w.heap.size<=w'.heap.size
 rows : ∀ (g:Nat) (c:Array Value) (et:TypeId) (fr:Nat × Nat),w.heap[g]?=some (Obj.cells c et fr)->et≠107->et≠94->et≠33->w'.heap[g]?=some (Obj.cells c et fr)
theorem MK.refl (w:World):MK w w:=⟨Nat.le_refl _,fun _ _ _ _ h _ _ _=>h⟩
theorem MK.kb {w w':World} (h:MK w w'):KB w w':=⟨h.size,fun g c et fr hg he=>h.rows g c et fr hg (fun e=>by rcases he with h | h <;> (rw[h] at e;exact absurd e (by decide))) (fun e=>by rcases he with h | h <;> (rw[h] at e;exact absurd e (by decide))) (fun e=>by rcases he with h | h <;> (rw[h] at e;exact absurd e (by decide)))⟩
theorem MK.zk {X:Nat->Prop} {w w1 w2:World} (h:MK w w1) (k:ZKp X w1 w2):MK w w2:=⟨Nat.le_trans h.size k.size,fun g c et fr hg h1 h2 h3=>by
 have h4:=h.rows g c et fr hg h1 h2 h3
 exact (k.rows g c et fr h4 h1 h2).trans h4⟩
theorem MK.rm {base m:Nat} {w w1 w2:World} (h:MK w w1) {c:Array Value} (hr:RowAt w1 m 33 c) (k:RM base m w1 w2) (hb:w.heap.size<=base):MK w w2:=⟨Nat.le_trans h.size k.size,fun g cs et fr hg h1 h2 h3=>by
 have h4:=h.rows g cs et fr hg h1 h2 h3
 have hlt:=(Array.getElem?_eq_some_iff.1 hg).1
 refine (k.keep g (Array.getElem?_eq_some_iff.1 h4).1 (fun e=>?_) (Or.inl (Nat.lt_of_lt_of_le hlt hb))).trans h4
 have hr:w1.heap[m]?=some (Obj.cells c 33):=hr
 rw[e,hr] at h4;injection h4 with h4;injection h4 with _ h4 _
 exact h3 h4.symm⟩
def putsR (rs:List RcT):List Z.R:=rs.foldl (fun L x=>(Z.putR Z.exA L x.n x.t 1 x.ttl x.d).2.2) []
theorem putsR_snoc (rs:List RcT) (j:Nat) (x:RcT) (hx:rs[j]?=some x):putsR (rs.take (j+1))=(Z.putR Z.exA (putsR (rs.take j)) x.n x.t 1 x.ttl x.d).2.2:=by
 unfold putsR
 rw[List.take_add_one,hx,List.foldl_append]
 rfl
set_option maxRecDepth 20000 in
set_option maxHeartbeats 1500000 in
theorem made_any (l:List Nat) (ao:Option Addr) (len cap:Nat) (w:World) (hl:Hid (l.length=len)) (hs:SlU w ao l) (hlt : ∀ x∈l,x<4294967296) (hm:len<=9223372036854775807) :
 Calls Tryz.prog 36 #[.slice ao len cap] w fun e w' => ∃ V m base rs,e = .returned (.tuple #[.pointer (some ⟨V,0,none⟩),.pointer (some ⟨m,0,none⟩)])/\Duo w.heap.size w' V base m Z.exA (putsR rs) 4200/\(∀ x∈rs,x.Good)/\(len=0->rs = [soa0,ns0])/\Below w.heap.size w w':=by
 have HS:=hide hs
 have HLT:=hide hlt
 obtain⟨B,hBe⟩ : ∃ B,B=w.heap.size:=⟨_,rfl⟩
 have HBe:=hide hBe
 have HBle:Hid (B<=w.heap.size):=hide (Nat.le_of_eq hBe)
 have hT0:True:=trivial
 rw[<- hBe]
 clear hs hlt hBe
 go_enter Tryz.func36,Tryz.ntmps36
 go_wp2_with (first
  | (go_at_call 68;go_loud (refine (begin_any l ao len cap _ hl (HS.out.below HB04.out (Nat.le_of_eq HBe.out.symm)) HLT.out hm).mono ?_;rintro e w5 ⟨v5,rfl,j0,hj0,hj12,hjz,rs,hB5,hO5,hG5,hrl5,hz5⟩))
  | (go_at_call 13;have hq:=HZ1.out;clear hq;go_loud (refine (apex_any w2).mono ?_;rintro e w3 ⟨v3,rfl,hO3,hB3⟩;obtain⟨a3,c3,rfl,hS3,_,hc3,_⟩:=hO3.open;have HB04:Hid (Below B w (w3.alloc (.cells #[.slice a3 Z.exA.length c3,.slice none 0 0] 33))):=hide ((HB02.out.trans (hB3.mono (Nat.le_trans HBle.out HB02.out.size))).alloc (Nat.le_trans HBle.out (Nat.le_trans HB02.out.size hB3.size)) _)))
  | (go_at_call 12;go_loud (refine (znew_live (fun i=>i<B) w1 (fun i hi=>by have:=HB1.out.size;have:=HBe.out;omega) Z.exA a1 _ c1 (hide rfl) hS1 (hide exA_small)).mono ?_;rintro e w2 ⟨V,rfl,_,hZ1,hB2⟩;rw[exA_low] at hZ1;have HB02:=hide ((HB1.out.mono (Nat.le_of_eq HBe.out)).trans (hB2.mono (Nat.le_trans (Nat.le_of_eq HBe.out) HB1.out.size)));have HZ1:=hide hZ1;clear hZ1))
  | (go_at_call 13;have hq:=hT0;clear hq hT0;go_loud (refine (apex_any w).mono ?_;rintro e w1 ⟨v1,rfl,hO1,hB1⟩;obtain⟨a1,c1,rfl,hS1,_,hc1,_⟩:=hO1.open;have HB1:=hide hB1))
  | fail)
 obtain⟨w4,hw4⟩ : ∃ w4,w4=w3.alloc (.cells #[.slice a3 Z.exA.length c3,.slice none 0 0] 33):=⟨_,rfl⟩
 obtain⟨m,hmm⟩ : ∃ m,m=w3.heap.size:=⟨_,rfl⟩
 have hb4:Below w3.heap.size w3 w4:=by rw[hw4];exact (Below.refl _ w3).alloc (Nat.le_refl _) _
 have hR4:RZAt w4 w5.heap.size m Z.exA []:=by rw[hw4,hmm];exact RZAt.empty w3 w5.heap.size a3 _ c3 rfl hS3 hc3
 rw[<- hmm]
 have hB45:Below w4.heap.size w4 w5:=by rw[hw4];exact hB5
 have hZ5:=((HZ1.out.bel hB3).bel hb4).bel hB45
 have s2:=HB02.out.size
 have s3:=hB3.size
 have s4:=hb4.size
 have s5:=hB45.size
 have s0:=HBle.out
 have hD:Duo B w5 V w5.heap.size m Z.exA [] 0:=⟨hZ5,hR4.bel hB45,by omega,by omega,Nat.le_refl _⟩
 have hBW:Below B w w5:=((HB02.out.trans (hB3.mono (by omega))).trans (hb4.mono (by omega))).trans (hB45.mono (by omega))
 obtain⟨g5,c5,hv5,hn5,hc5⟩:=hO5.slice
 obtain⟨q,hq⟩ : ∃ q,q=rs.length:=⟨_,rfl⟩
 rw[<- hq] at hv5
 subst hv5
 have hq14:q<=14:=by omega
 have HD:=hide hD
 have HBW:=hide hBW
 have HO5:=hide hO5
 have HG5:=hide hG5
 have HQ:=hide hq
 have HZ5:=hide (fun h:len=0=>hz5 (by omega:j0=0))
 clear hw4 hmm hb4 hR4 hB45 hZ5 s2 s3 s4 s5 s0 hD hBW hO5 hG5 hq hz5 hB5 hB3 hO3 hS3 hc3 HZ1 HB02 HB04 hn5 hc5 hrl5
 go_loopw [7] (fun i wr => ∃ j:Nat,i = .int .i64 (j:Int)/\j<=q/\Duo B wr V w5.heap.size m Z.exA (putsR (rs.take j)) (j*300)/\MK w5 wr/\Below B w wr) (fun i _=>q - (intOf i).toNat)
 case atStart=>exact⟨0,rfl,by omega,HD.out,MK.refl _,HBW.out⟩
 case round =>
  obtain⟨j,rfl,hj,hD,hMK,hB⟩:=hrel
  have HDr:=hide hD
  have HMK:=hide hMK
  have HB:=hide hB
  clear hD hMK hB HD HBW
  by_cases hlt:j<q
  ·have hjr:j<rs.length:=by rw[<- HQ.out];exact hlt
   obtain⟨x,hx⟩ : ∃ x,rs[j]?=some x:=⟨_,List.getElem?_eq_getElem hjr⟩
   have hxg:=HG5.out x (List.mem_of_getElem? hx)
   obtain⟨g,rfl,hgb,hgl,⟨cur,hcur⟩,hel⟩:=HO5.out.get (by omega)
   obtain⟨us,hus,⟨xa,xc,da,dc,rfl,hxT,hxc,hdT,hdn,hdc⟩,hcells⟩:=hel j x hx
   obtain⟨xl,hxl⟩ : ∃ xl,xl=x.n.length:=⟨_,rfl⟩
   obtain⟨dl,hdl⟩ : ∃ dl,dl=x.d.length:=⟨_,rfl⟩
   obtain⟨xt,hxt⟩ : ∃ xt,xt=x.t:=⟨_,rfl⟩
   obtain⟨tt,htt⟩ : ∃ tt,tt=x.ttl:=⟨_,rfl⟩
   have hsn:=putsR_snoc rs j x hx
   rw[<- hxt, <- htt] at hsn
   rw[<- hxl, <- hdl, <- hxt, <- htt] at hcells
   rw[<- hxl] at hxc
   rw[<- hdl] at hdc
   have HCELL:Hid (∀ W,MK w5 W->W.cell? ⟨g,j*5,none⟩=some (.slice xa xl xc)/\W.cell? ⟨g,j*5+1,none⟩=some (.int .u16 (xt:Int))/\W.cell? ⟨g,j*5+2,none⟩=some (.int .u16 1)/\W.cell? ⟨g,j*5+3,none⟩=some (.int .u32 (tt:Int))/\W.cell? ⟨g,j*5+4,none⟩=some (.slice da dl dc)):=hide fun W hW=>by
    have hr:W.heap[g]?=w5.heap[g]?:=(hW.rows g cur _ _ hcur (by decide) (by decide) (by decide)).trans hcur.symm
    have hk : ∀ k,k<5->W.cell? ⟨g,j*5+k,none⟩ = [Value.slice xa xl xc,.int .u16 (xt:Int),.int .u16 1,.int .u32 (tt:Int),.slice da dl dc][k]?:=fun k hk=>(World.cell?_of_block hr).trans (hcells k hk)
    exact⟨hk 0 (by omega),hk 1 (by omega),hk 2 (by omega),hk 3 (by omega),hk 4 (by omega)⟩
   obtain⟨P,hP⟩ : ∃ P,P=Z.putR Z.exA (putsR (rs.take j)) x.n xt 1 tt x.d:=⟨_,rfl⟩
   obtain⟨p1,hp1⟩ : ∃ p1,p1=P.1:=⟨_,rfl⟩
   obtain⟨p2,hp2⟩ : ∃ p2,p2=P.2.1:=⟨_,rfl⟩
   obtain⟨L',hL'⟩ : ∃ L',L'=P.2.2:=⟨_,rfl⟩
   rw[<- hP, <- hL'] at hsn
   have hzp:Calls Tryz.prog 44 #[.pointer (some ⟨V,0,none⟩),.agg #[.slice xa xl xc,.int .u16 (xt:Int),.int .u16 1,.int .u32 (tt:Int),.slice da dl dc]] wr fun e w'=>e = .returned (.tuple #[.bool p1,.int .i64 (p2:Int)])/\ZLive (fun i=>i<B) w' V Z.exA L' (j*300+xl+1)/\ZKp (fun i=>i<B) wr w':=by
    have h:=zput_live HDr.out.z (hide exA_small) x.n xa xl xc (hide hxl.symm) hxc (hxT.kb HMK.out.kb).1 (hide hxg.small) xt 1 tt x.d da dl dc (hide hdl.symm) (hdT.kb HMK.out.kb).1 hdn hdc (by rw[hxt];exact hxg.t) (by rw[htt];exact hxg.ttl) (by have:=hxg.len;omega)
    unfold recV at h
    have e1:((1:Nat):Int)=1:=rfl
    rw[<- hP, <- hp1, <- hp2, <- hL',e1] at h
    exact h
   have hmp : ∀ W,ZKp (fun i=>i<B) wr W->Calls Tryz.prog 45 #[.pointer (some ⟨m,0,none⟩),.agg #[.slice xa xl xc,.int .u16 (xt:Int),.int .u16 1,.int .u32 (tt:Int),.slice da dl dc]] W fun e w'=>e = .returned (.tuple #[.bool p1,.int .i64 (p2:Int)])/\RZAt w' w5.heap.size m Z.exA L'/\RM w5.heap.size m W w':=fun W hW=>by
    have hk:=(HMK.out.zk hW).kb
    have h:=mPut_any W w5.heap.size m Z.exA (putsR (rs.take j)) (HDr.out.r.zk hW) (Nat.le_trans HDr.out.bs hW.size) (hide exA_small) x.n xa xl xc (hide hxl.symm) hxc (hxT.kb hk).1 (hide hxg.small) xt 1 tt x.d da dl dc (hide hdl.symm) (hdT.kb hk).1 hdn hdc (by rw[hdl];exact hxg.dl) (by rw[hxt];exact hxg.t) (by rw[htt];exact hxg.ttl)
    unfold recV at h
    have e1:((1:Nat):Int)=1:=rfl
    rw[<- hP, <- hp1, <- hp2, <- hL',e1] at h
    exact h
   have HZP:=hide hzp
   have HMP:=hide hmp
   have HSN:=hide hsn
   have HXL:=hide hxl
   have HXG:=hide hxg
   obtain⟨q0,q1,q2,q3,q4⟩:=HCELL.out wr HMK.out
   clear hzp hmp hsn hxl hdl hxt htt hP hp1 hp2 hL' hxg hx hcells hel hxT hdT hus hcur hgl hgb
   go_wp2_with (first
    | (go_at_call 45;have hq:=HK6.out;clear hq;go_loud (refine (HMP.out w6 HK6.out).mono ?_;rintro e w7 ⟨rfl,hR7,hM7⟩))
    | (go_at_call 44;go_loud (refine HZP.out.mono ?_;rintro e w6 ⟨rfl,hZ6,hK6⟩;obtain⟨r0,r1,r2,r3,r4⟩:=HCELL.out w6 (HMK.out.zk hK6);have HK6:=hide hK6;have HZ6:=hide hZ6;clear hK6 hZ6))
    | fail)
   go_roundw
   case rel =>
    have hl4:=HXG.out.len
    have hl5:=HXL.out
    obtain⟨D7,hB7⟩:=HDr.out.step HK6.out HZ6.out hR7 hM7
    obtain⟨ra,rac,rb,rbc,hrr,_⟩:=(HDr.out.r.zk HK6.out).row
    refine⟨j+1,by go_num,by omega,?_,(HMK.out.zk HK6.out).rm hrr hM7 (Nat.le_refl _),HB.out.trans hB7⟩
    rw[HSN.out]
    exact D7.mono (by omega)
   case measure=>simp[intOf];omega
  ·obtain rfl:j=q:=by omega
   have e:rs.take j=rs:=List.take_of_length_le (by rw[<- HQ.out];exact Nat.le_refl _)
   rw[e] at HDr
   go_wp2
   go_ret2
   exact⟨V,m,w5.heap.size,rs,rfl,HDr.out.mono (by omega),HG5.out,HZ5.out,HB.out⟩
open Go.RowKit
def L00:List Z.R:=putsR [soa0,ns0]
def own1:List (List UInt8) := [[97], [101,120,97,109,112,108,101]]
def own3:List (List UInt8) := [[99], [98], [101,120,97,109,112,108,101]]
set_option maxRecDepth 100000 in
theorem known_plain:Z.typesAt L00 (path Z.exA) = [2,6]/\(Z.setAt L00 (path Z.exA) 6 = [])=False/\Z.typesAt L00 (path own1) = []/\Z.has L00 (path own1)=false/\Z.setAt L00 ((path own1).take 2) 2 = []/\Z.typesAt L00 (path (starN own1 1)) = []/\Z.typesAt L00 (path (starN own1 2)) = []/\(Z.setAt L00 (path (own1.drop 1)) 6 = [])=False/\Z.has L00 ((path own3).take 2)=false:=by
 have h1:Z.typesAt L00 (path Z.exA) = [2,6]:=by decide +kernel
 have h2:(Z.setAt L00 (path Z.exA) 6).isEmpty=false:=by decide +kernel
 have h3:Z.typesAt L00 (path own1) = []:=by decide +kernel
 have h4:Z.has L00 (path own1)=false:=by decide +kernel
 have h5:(Z.setAt L00 ((path own1).take 2) 2).isEmpty=true:=by decide +kernel
 have h6:Z.typesAt L00 (path (starN own1 1)) = []:=by decide +kernel
 have h7:Z.typesAt L00 (path (starN own1 2)) = []:=by decide +kernel
 have h8:(Z.setAt L00 (path (own1.drop 1)) 6).isEmpty=false:=by decide +kernel
 have h9:Z.has L00 ((path own3).take 2)=false:=by decide +kernel
 exact⟨h1,eq_false (fun h=>by rw[h] at h2;cases h2),h3,h4,List.isEmpty_iff.1 h5,h6,h7,eq_false (fun h=>by rw[h] at h8;cases h8),h9⟩
theorem own1_in:N.within own1 Z.exA=true:=by decide +kernel
theorem own3_in:N.within own3 Z.exA=true:=by decide +kernel
theorem own1_small:N.Small own1:=by
 have h2:own1.length<=1000000 /\ ∀ l∈own1,l.length<=1000000:=by decide
 exact h2
theorem own3_small:N.Small own3:=by
 have h2:own3.length<=1000000 /\ ∀ l∈own3,l.length<=1000000:=by decide
 exact h2
theorem own1_is:Z.owner 1=own1:=by decide +kernel
theorem own3_is:Z.owner 3=own3:=by decide +kernel
theorem setsP_one {L:List Z.R} {n:List (List UInt8)} {t:Nat} (h:(Z.setAt L (path n) t = [])=False):setsP L n [t] = [setP L n t]:=by
 unfold setsP
 rw[List.flatMap_cons,List.flatMap_nil,List.append_nil,if_neg (by rw[h];exact id)]
theorem kfind1 {X:Nat->Prop} {W:World} {V K:Nat} (Z0:ZLive X W V Z.exA L00 K) (hK:K<=1000000) (a:Option Addr) (c:Nat) (hs:SlS W a Z.exA) (hc:1<=c) :
 Calls Tryz.prog 39 #[.pointer (some ⟨V,0,none⟩),.slice a 1 c,.int .u16 6] W fun e w' => ∃ a9 c9 na nc,e = .returned (.agg #[.int .i64 0,.slice a9 1 c9,.slice none 0 0,.slice none 0 0,.slice none 0 0,.slice na 1 nc])/\Below W.heap.size W w':=by
 obtain⟨h1,h2,_⟩:=known_plain
 refine (find_answer Z0 hK Z.exA a 1 c (hide rfl) hs hc (hide exA_small) exA_in 6 (by decide) (by decide) (fun d hd hcut=>?_) (by rw[h1];decide)).mono ?_
 ·have h3:=hcut.1
  have h4:Z.exA.length=1:=rfl
  omega
 ·rintro e w' ⟨v',na,nc,rfl,hO,_,hB⟩
  obtain⟨a9,c9,hv,_,_⟩:=hO.slice
  rw[setsP_one h2] at hv
  subst hv
  exact⟨a9,c9,na,nc,rfl,hB⟩
theorem kfind2 {X:Nat->Prop} {W:World} {V K:Nat} (Z0:ZLive X W V Z.exA L00 K) (hK:K<=1000000) (a:Option Addr) (c:Nat) (hs:SlS W a own1) (hc:2<=c) :
 Calls Tryz.prog 39 #[.pointer (some ⟨V,0,none⟩),.slice a 2 c,.int .u16 1] W fun e w' => ∃ a9 c9 na nc,e = .returned (.agg #[.int .i64 4,.slice none 0 0,.slice a9 1 c9,.slice none 0 0,.slice none 0 0,.slice na 2 nc])/\Below W.heap.size W w':=by
 obtain⟨_,_,h3,h4,h5,h6,h7,h8,_⟩:=known_plain
 refine (find_nothing Z0 hK own1 a 2 c (hide rfl) hs hc (hide own1_small) own1_in (by decide) 1 (fun d hd hcut=>?_) h3 h4 (fun k hk=>?_)).mono ?_
 ·have h9:=hcut.1
  have h10:Z.exA.length=1:=rfl
  have h11:own1.length=2:=rfl
  obtain rfl:d=2:=by omega
  exact hcut.2 h5
 ·have h9:=hk.1
  have h10:=hk.2.1
  have h11:own1.length=2:=rfl
  have:k=1\/k=2:=by omega
  rcases this with rfl | rfl
  ·exact h6
  ·exact h7
 ·rintro e w' ⟨v',na,nc,rfl,hO,_,hB⟩
  obtain⟨a9,c9,hv,_,_⟩:=hO.slice
  rw[setsP_one h8] at hv
  subst hv
  exact⟨a9,c9,na,nc,rfl,hB⟩
theorem kclose {X:Nat->Prop} {W:World} {V K:Nat} (Z0:ZLive X W V Z.exA L00 K) (a:Option Addr) (c:Nat) (hs:SlS W a own3) (hc:3<=c) :
 Calls Tryz.prog 41 #[.pointer (some ⟨V,0,none⟩),.slice a 3 c] W fun e w' => ∃ a1 c1 b2 c2,e = .returned (.tuple #[.slice a1 1 c1,.slice (some ⟨b2,0,none⟩) 2 c2])/\w'.cell? ⟨b2,0,none⟩=some (.string { data := #[98] })/\Below W.heap.size W w':=by
 obtain⟨_,_,_,_,_,_,_,_,h9⟩:=known_plain
 refine (lclosest_any Z0 own3 a 3 c (hide rfl) hs (hs.flat (by decide)) hc (hide own3_small) own3_in).mono ?_
 rintro e w' ⟨k,v1,v2,rfl,hk,hO1,hO2,hB⟩
 have hk1:k=1:=by
  have h10:=hk.1
  rcases Nat.lt_or_ge 1 k with h | h
  ·have h11:=has_take (i:=2) (by omega) (hk.2.2.1 (by omega))
   rw[h9] at h11;cases h11
  ·omega
 subst hk1
 obtain⟨a1,c1,hv1,_⟩:=hO1.open
 have hO2:OwnS w' W.heap.size v2 [[98], [101,120,97,109,112,108,101]]:=hO2
 obtain⟨a2,c2,hv2,hS2,_⟩:=hO2.open
 subst hv1;subst hv2
 have h0:w'.ownsRow W.heap.size 9 1 (.slice a2 2 c2) 2 (vs [[98], [101,120,97,109,112,108,101]]):=hO2
 rcases h0.2 with⟨_,h1⟩ | ⟨g,cap,cur,e1,_,hgb,_⟩
 ·cases h1
 ·injection e1 with e1 _ _
  subst e1
  obtain⟨b,o,e2,_,hc2⟩:=hS2 (by decide)
  injection e2 with e2;injection e2 with e2 e3 _
  subst e2;subst e3
  exact⟨a1,c1,g,c2,rfl,hc2 0 (by decide),hB⟩
set_option maxRecDepth 20000 in
set_option maxHeartbeats 1500000 in
theorem knownL_any (w:World):Calls Tryz.prog 35 #[] w fun e w'=>e = .returned (.bool true)/\Below w.heap.size w w':=by
 have hmade:Calls Tryz.prog 36 #[.slice none 0 0] w fun e w' => ∃ V m base,e = .returned (.tuple #[.pointer (some ⟨V,0,none⟩),.pointer (some ⟨m,0,none⟩)])/\Duo w.heap.size w' V base m Z.exA L00 4200/\Below w.heap.size w w':=by
  refine (made_any [] none 0 0 w (hide rfl) (fun h=>absurd h (by simp)) (fun x hx=>by cases hx) (by decide)).mono ?_
  rintro e w' ⟨V,m,base,rs,rfl,hD,_,hz,hB⟩
  rw[hz rfl] at hD
  exact⟨V,m,base,rfl,hD,hB⟩
 have HMADE:=hide hmade
 have HT0:=hide trivial
 have hKb:4200<=1000000:=by decide
 clear hmade
 go_enter Tryz.func35,Tryz.ntmps35
 go_wp2_with (first
  | (go_at_call 36;go_loud (refine HMADE.out.mono ?_;rintro e w1 ⟨V,m,base,rfl,hD,hB1⟩;have HZ1:=hide hD.z;have HB1:=hide hB1;clear hD hB1))
  | (go_at_call 13;go_loud (refine (apex_any w1).mono ?_;rintro e w2 ⟨v2,rfl,hO2,hB2⟩;obtain⟨a2,c2,rfl,hS2,_,hc2,_⟩:=hO2.open;have HB2:=hide (HB1.out.trans (hB2.mono HB1.out.size));have HZ2:=hide (HZ1.out.bel hB2)))
  | (go_at_call 39;have hq:=HB5.out;clear hq;go_loud (refine (kfind2 HZ5.out hKb a5 c5 hS5 hc5).mono ?_;rintro e w6 ⟨a6,c6,na6,nc6,rfl,hB6⟩;have HB6:=hide (HB5.out.trans (hB6.mono HB5.out.size));have HZ6:=hide (HZ5.out.bel hB6);have HR6:=hide (HR5.out.below hB6 HR5.out.lt)))
  | (go_at_call 39;go_loud (refine (kfind1 HZ2.out hKb a2 c2 hS2 hc2).mono ?_;rintro e w3 ⟨a3,c3,na3,nc3,rfl,hB3⟩;have HB3:=hide (HB2.out.trans (hB3.mono HB2.out.size));have HZ3:=hide (HZ2.out.bel hB3)))
  | (go_at_call 22;have hq:=HB6.out;clear hq;go_loud (have hb7:Below w6.heap.size w6 (w6.alloc (.cells #[.int .i64 4,.slice none 0 0,.slice a6 1 c6,.slice none 0 0,.slice none 0 0,.slice na6 2 nc6] 70)):=(Below.refl _ w6).alloc (Nat.le_refl _) _;refine (owner_any 3 (by decide) _).mono ?_;rw[own3_is];rintro e w8 ⟨v8,rfl,hO8,hB8⟩;obtain⟨a8,c8,rfl,hS8,_,hc8,_⟩:=hO8.open;have hb68:=hb7.trans (hB8.mono hb7.size);have HB8:=hide (HB6.out.trans (hb68.mono HB6.out.size));have HZ8:=hide (HZ6.out.bel hb68);have HR8:=hide (HR6.out.below hb68 HR6.out.lt);have HQ8:=hide ((RowAt.new w6 70 #[.int .i64 4,.slice none 0 0,.slice a6 1 c6,.slice none 0 0,.slice none 0 0,.slice na6 2 nc6]).below hB8 (by simp))))
  | (go_at_call 22;go_loud (have hb4:Below w3.heap.size w3 (w3.alloc (.cells #[.int .i64 0,.slice a3 1 c3,.slice none 0 0,.slice none 0 0,.slice none 0 0,.slice na3 1 nc3] 70)):=(Below.refl _ w3).alloc (Nat.le_refl _) _;refine (owner_any 1 (by decide) _).mono ?_;rw[own1_is];rintro e w5 ⟨v5,rfl,hO5,hB5⟩;obtain⟨a5,c5,rfl,hS5,_,hc5,_⟩:=hO5.open;have hb35:=hb4.trans (hB5.mono hb4.size);have HB5:=hide (HB3.out.trans (hb35.mono HB3.out.size));have HZ5:=hide (HZ3.out.bel hb35);have HR5:=hide ((RowAt.new w3 70 #[.int .i64 0,.slice a3 1 c3,.slice none 0 0,.slice none 0 0,.slice none 0 0,.slice na3 1 nc3]).below hB5 (by simp))))
  | (go_at_call 41;go_loud (refine (kclose HZ8.out a8 c8 hS8 hc8).mono ?_;rintro e w9 ⟨a9,c9,b9,d9,rfl,k98,hB9⟩;have HB9:=hide (HB8.out.trans (hB9.mono HB8.out.size));obtain⟨r0,r1,r2,_⟩:=fd_facts (HR8.out.below hB9 HR8.out.lt);obtain⟨s0,s1,s2,_⟩:=fd_facts (HQ8.out.below hB9 HQ8.out.lt)))
  | fail)
 go_ret
 exact⟨rfl,HB9.out⟩
open Go.RowKit
theorem sl_am (i i1:Nat) (h:i<13) (h1:i1=i+1) (W:World):(Instr.slice 9 (.string { data := #[97,98,99,100,101,102,103,104,105,106,107,108,109] }) (some (.int .i64 (i:Int))) (some (.int .i64 (i1:Int))) none).run Tryz.prog W = .ok (.string ⟨#[UInt8.ofNat (97+i)]⟩) W:=by
 subst h1
 match i,h with
 | 0,_=>rfl
 | 1,_=>rfl
 | 2,_=>rfl
 | 3,_=>rfl
 | 4,_=>rfl
 | 5,_=>rfl
 | 6,_=>rfl
 | 7,_=>rfl
 | 8,_=>rfl
 | 9,_=>rfl
 | 10,_=>rfl
 | 11,_=>rfl
 | 12,_=>rfl
theorem at_any (i:Nat) (w:World) (hi:i<13):Calls Tryz.prog 46 #[.int .i64 (i:Int)] w fun e w' => ∃ a c,e = .returned (.slice a 2 c)/\TyS w' a (atN i)/\2<=c/\(a=none->c=0)/\Below w.heap.size w w':=by
 obtain⟨i1,hi1⟩ : ∃ i1,i1=i+1:=⟨_,rfl⟩
 have e1:(i:Int)+1=(i1:Int):=by omega
 have hs:=fun W=>sl_am i i1 hi hi1 W
 have hb1:i1<=13:=by omega
 obtain⟨x,hx⟩ : ∃ x,x=UInt8.ofNat (97+i):=⟨_,rfl⟩
 have hat:atN i = [[x],exL]:=by rw[hx];rfl
 rw[<- hx] at hs
 rw[hat]
 clear hi1 hx hat
 go_enter Tryz.func46,Tryz.ntmps46
 go_wp2
 go_ret
 refine⟨_,_,rfl,⟨SlS.litm w [[x],exL] #[.string ⟨#[x]⟩,.string { data := #[101,120,97,109,112,108,101] }] 9 (0,0) rfl,fun a e=>?_⟩,Nat.le_refl _,(fun h=>(by cases h)),(Below.refl _ w).alloc (Nat.le_refl _) _⟩
 injection e with e
 subst e
 exact⟨_,_,RowAt.new w 9 #[.string ⟨#[x]⟩,.string { data := #[101,120,97,109,112,108,101] }]⟩
theorem at_zero (w:World):Calls Tryz.prog 46 #[.int .i64 0] w fun e w' => ∃ a c,e = .returned (.slice a 2 c)/\TyS w' a (atN 0)/\2<=c/\(a=none->c=0)/\Below w.heap.size w w':=at_any 0 w (by decide)
theorem atN_small (i:Nat):N.Small (atN i):=⟨by show 2<=_;omega,fun l hl=>by
 unfold atN at hl
 rcases List.mem_cons.1 hl with rfl | hl
 ·simp
 ·rw[List.mem_singleton.1 hl];decide⟩
set_option maxRecDepth 20000 in
set_option maxHeartbeats 4000000 in
theorem lookAliases_walk (nn rr:Nat) (hn:nn<256) (hr:rr<256) (out:Bool) (w:World) :
 Calls Tryz.prog 8 #[.int .u8 (nn:Int),.int .u8 (rr:Int),.bool out] w fun e w'=>e = .returned (.bool true)/\Below w.heap.size w w':=by
 obtain⟨B,hBe⟩ : ∃ B,B=w.heap.size:=⟨_,rfl⟩
 have HBe:=hide hBe
 have HBle:Hid (B<=w.heap.size):=hide (Nat.le_of_eq hBe)
 rw[<- hBe]
 clear hBe
 obtain⟨k,hk⟩ : ∃ k,k=nn % 12:=⟨_,rfl⟩
 have ek:(nn:Int).tmod 12=(k:Int):=by rw[Int.tmod_eq_emod_of_nonneg (by omega)];omega
 have hk12:k<=11:=by omega
 obtain⟨r3,hr3⟩ : ∃ r3,r3=rr % 3:=⟨_,rfl⟩
 have er3:(rr:Int).tmod 3=(r3:Int):=by rw[Int.tmod_eq_emod_of_nonneg (by omega)];omega
 have hr33:r3<3:=by omega
 have HR3:=hide hr3
 clear hk hr3
 go_enter Tryz.func8,Tryz.ntmps8
 go_wp2_with (first
  | (go_at_call 12;go_loud (refine (znew_live (fun i=>i<B) w2 (fun i hi=>by have:=HB2.out.size;have:=HBe.out;omega) Z.exA a2 _ c2 (hide rfl) HS2.out (hide exA_small)).mono ?_;rintro e w3 ⟨V,rfl,_,hZ3,hB3⟩;rw[exA_low] at hZ3;have HZ3:=hide hZ3;have HB3:=hide ((HB2.out.trans (hB3.mono HB2.out.size)).mono HBle.out);clear hZ3 hB3))
  | (go_at_call 13;go_loud (refine (apex_any w1).mono ?_;rintro e w2 ⟨v2,rfl,hO2,hB2⟩;obtain⟨a2,c2,rfl,hS2,_,hc2,_⟩:=hO2.open;have HS2:=hide hS2;have HB2:=hide (HB1.out.trans (hB2.mono HB1.out.size));clear hO2 hS2 hB2))
  | (go_at_call 35;go_loud (refine (knownL_any w).mono ?_;rintro e w1 ⟨rfl,hB1⟩;have HB1:=hide hB1;clear hB1))
  | fail)
 clear HB2 HS2 HB1
 go_loopw [10] (fun i wr => ∃ (j:Nat) (L:List Z.R),i = .int .i64 (j:Int)/\j<=k/\ZLive (fun i=>i<B) wr V Z.exA L (j*3)/\AL k out rr j L/\Below B w wr) (fun i _=>k - (intOf i).toNat)
 case atStart=>exact⟨0, [],rfl,by omega,HZ3.out,AL.zero k out rr,HB3.out⟩
 case round =>
  obtain⟨j,L,rfl,hj,hZ,hAL,hB⟩:=hrel
  have HZ:=hide hZ
  have HAL:=hide hAL
  have HB:=hide hB
  have HBz:Hid (B<=wr.heap.size):=hide (Nat.le_trans HBle.out hB.size)
  clear hZ hAL hB HZ3 HB3
  by_cases hlt:j<k
  ·obtain⟨T,hT⟩ : ∃ T,T=toN k out rr j:=⟨_,rfl⟩
   obtain⟨L',hL'⟩ : ∃ L',L'=(Z.putR Z.exA L (atN j) 5 1 5 (N.wire T)).2.2:=⟨_,rfl⟩
   obtain⟨p1,hp1⟩ : ∃ p1,p1=(Z.putR Z.exA L (atN j) 5 1 5 (N.wire T)).1:=⟨_,rfl⟩
   obtain⟨p2,hp2⟩ : ∃ p2,p2=(Z.putR Z.exA L (atN j) 5 1 5 (N.wire T)).2.1:=⟨_,rfl⟩
   obtain⟨j1,hj1⟩ : ∃ j1,j1=j+1:=⟨_,rfl⟩
   have HAL':Hid (AL k out rr j1 L'):=hide (by rw[hL',hT,hj1];exact HAL.out.put hlt hk12)
   have HTS:Hid (N.Small T):=hide (by rw[hT];exact (toN_ok hlt hk12).2.2)
   have HPUT:Hid (∀ W an ac da dl dc,Below wr.heap.size wr W->SlS W an (atN j)->2<=ac->SlL W da (N.wire T)->(N.wire T).length=dl->dl<=dc->(da=none->dc=0)->Calls Tryz.prog 44 #[.pointer (some ⟨V,0,none⟩),.agg #[.slice an 2 ac,.int .u16 5,.int .u16 1,.int .u32 5,.slice da dl dc]] W fun e w'=>e = .returned (.tuple #[.bool p1,.int .i64 (p2:Int)])/\ZLive (fun i=>i<B) w' V Z.exA L' (j*3+2+1)/\ZKp (fun i=>i<B) W w'):=hide fun W an ac da dl dc hW hA hac hD hdl hdc hdn=>by
    have h:=zput_live (HZ.out.bel hW) (hide exA_small) (atN j) an 2 ac (hide rfl) hac hA (hide (atN_small j)) 5 1 5 (N.wire T) da dl dc (hide hdl) hD hdn hdc (by decide) (by decide) (by omega)
    unfold recV at h
    rw[<- hp1, <- hp2, <- hL'] at h
    exact h
   have hji:(j:Int)<(k:Int):=by omega
   have ej1:(j:Int)+1=(j1:Int):=by omega
   have hj12:j1<=12:=by omega
   have hj13:j1<13:=by omega
   have hjj:j<13:=by omega
   have HJ1:=hide hj1
   have HTE:=hide hT
   clear hL' hp1 hp2 hj1 hT
   by_cases hl:j1=k
   ·have ek1:(k:Int) - 1=(j:Int):=by omega
    have hkz:((k:Int) == 0)=false:=by simp;omega
    have hkz2 : ¬ ((k:Int)=0):=by omega
    obtain⟨q,hq⟩ : ∃ q,q=rr % k:=⟨_,rfl⟩
    have eq1:(rr:Int).tmod (k:Int)=(q:Int):=by rw[Int.tmod_eq_emod_of_nonneg (by omega),hq];rfl
    have hq13:q<13:=by have:=Nat.mod_lt rr (show 0<k by omega);omega
    have hqk:q<=255:=by omega
    have HQ:=hide hq
    have HL:=hide hl
    clear hq hl
    by_cases h0:r3=0
    ·subst h0
     have HT2:Hid (T=atN q):=hide (by rw[HTE.out,HQ.out];unfold toN;rw[if_pos ⟨by have:=HJ1.out;have:=HL.out;omega,HR3.out.symm⟩])
     cases out with
     | true =>
      go_wp2_with (first
       | (go_at_call 44;go_loud (refine (HPUT.out w5 a4 c4 a5 dl c5 HB5.out HA5.out HC4.out HS5.out HDL.out HC5.out HN5.out).mono ?_;rintro e w6 ⟨rfl,hZ6,hK6⟩;have HZ6:=hide hZ6;have HB6:=hide (HB.out.trans ((HB5.out.mono HBz.out).trans (hK6.below (fun i hi=>hi) (Nat.le_trans HBz.out HB5.out.size))));clear hZ6 hK6))
       | (go_at_call 47;go_loud (refine (rWire_any T a3 2 c3 w4 (by rw[HT2.out];exact hide rfl) (by rw[HT2.out];exact HST.out) HTS.out).mono ?_;rintro e w5 ⟨v5,rfl,hO5,hB5⟩;obtain⟨a5,c5,rfl,hS5,hn5,hc5,_⟩:=hO5.open;obtain⟨dl,hdl⟩ : ∃ dl,dl=(N.wire T).length:=⟨_,rfl⟩;rw[<- hdl] at hc5 ⊢; have HDL:=hide hdl.symm;have HS5:=hide hS5;have HN5:=hide hn5;have HC5:=hide hc5;have HA5:=hide (HS4.out.1.below hB5 (Nat.le_refl _));have HB5:=hide (HB4.out.trans (hB5.mono HB4.out.size));clear hO5 hS5 hn5 hc5 hB5 hdl))
       | ((with_reducible show Calls Tryz.prog 46 _ _ _);have hq:=F3.out;clear hq;go_loud (refine (at_any j _ hjj).mono ?_;rintro e w4 ⟨a4,c4,rfl,hS4,hc4,hn4,hB4⟩;have HST:=hide (HS3.out.1.below hB4 (Nat.le_refl _));have HS4:=hide hS4;have HC4:=hide hc4;have HB4:=hide (HB3.out.trans (hB4.mono HB3.out.size));have F4:=hide trivial;clear hS4 hc4 hn4 hB4))
       | ((with_reducible show Calls Tryz.prog 46 _ _ _);have hq:=F2.out;clear hq;go_loud (refine (at_any q _ hq13).mono ?_;rintro e w3 ⟨a3,c3,rfl,hS3,hc3,hn3,hB3⟩;have HS3:=hide hS3;have HC3:=hide hc3;have HB3:=hide ((HB2.out.alloc HB2.out.size (.cells #[.string { data := #[102,97,114] }] 9)).trans (hB3.mono (HB2.out.alloc HB2.out.size (.cells #[.string { data := #[102,97,114] }] 9)).size));have F3:=hide trivial;clear hS3 hc3 hn3 hB3))
       | ((with_reducible show Calls Tryz.prog 46 _ _ _);go_loud (refine (at_any j1 _ hj13).mono ?_;rintro e w2 ⟨a2,c2,rfl,hS2,hc2,hn2,hB2⟩;have HS2:=hide hS2;have HC2:=hide hc2;have HB2:=hide ((Below.refl wr.heap.size wr).trans (hB2.mono (Below.refl wr.heap.size wr).size));have F2:=hide trivial;clear hS2 hc2 hn2 hB2))
       | fail)
      go_roundw
      case rel=>exact⟨j1,L',rfl,by have:=HJ1.out;omega,HZ6.out.mono (by have:=HJ1.out;omega),HAL'.out,HB6.out⟩
      case measure=>simp[intOf];have:=HJ1.out;omega
     | false =>
      go_wp2_with (first
       | (go_at_call 44;go_loud (refine (HPUT.out w5 a4 c4 a5 dl c5 HB5.out HA5.out HC4.out HS5.out HDL.out HC5.out HN5.out).mono ?_;rintro e w6 ⟨rfl,hZ6,hK6⟩;have HZ6:=hide hZ6;have HB6:=hide (HB.out.trans ((HB5.out.mono HBz.out).trans (hK6.below (fun i hi=>hi) (Nat.le_trans HBz.out HB5.out.size))));clear hZ6 hK6))
       | (go_at_call 47;go_loud (refine (rWire_any T a3 2 c3 w4 (by rw[HT2.out];exact hide rfl) (by rw[HT2.out];exact HST.out) HTS.out).mono ?_;rintro e w5 ⟨v5,rfl,hO5,hB5⟩;obtain⟨a5,c5,rfl,hS5,hn5,hc5,_⟩:=hO5.open;obtain⟨dl,hdl⟩ : ∃ dl,dl=(N.wire T).length:=⟨_,rfl⟩;rw[<- hdl] at hc5 ⊢; have HDL:=hide hdl.symm;have HS5:=hide hS5;have HN5:=hide hn5;have HC5:=hide hc5;have HA5:=hide (HS4.out.1.below hB5 (Nat.le_refl _));have HB5:=hide (HB4.out.trans (hB5.mono HB4.out.size));clear hO5 hS5 hn5 hc5 hB5 hdl))
       | ((with_reducible show Calls Tryz.prog 46 _ _ _);have hq:=F3.out;clear hq;go_loud (refine (at_any j _ hjj).mono ?_;rintro e w4 ⟨a4,c4,rfl,hS4,hc4,hn4,hB4⟩;have HST:=hide (HS3.out.1.below hB4 (Nat.le_refl _));have HS4:=hide hS4;have HC4:=hide hc4;have HB4:=hide (HB3.out.trans (hB4.mono HB3.out.size));have F4:=hide trivial;clear hS4 hc4 hn4 hB4))
       | ((with_reducible show Calls Tryz.prog 46 _ _ _);have hq:=F2.out;clear hq;go_loud (refine (at_any q _ hq13).mono ?_;rintro e w3 ⟨a3,c3,rfl,hS3,hc3,hn3,hB3⟩;have HS3:=hide hS3;have HC3:=hide hc3;have HB3:=hide (HB2.out.trans (hB3.mono HB2.out.size));have F3:=hide trivial;clear hS3 hc3 hn3 hB3))
       | ((with_reducible show Calls Tryz.prog 46 _ _ _);go_loud (refine (at_any j1 _ hj13).mono ?_;rintro e w2 ⟨a2,c2,rfl,hS2,hc2,hn2,hB2⟩;have HS2:=hide hS2;have HC2:=hide hc2;have HB2:=hide ((Below.refl wr.heap.size wr).trans (hB2.mono (Below.refl wr.heap.size wr).size));have F2:=hide trivial;clear hS2 hc2 hn2 hB2))
       | fail)
      go_roundw
      case rel=>exact⟨j1,L',rfl,by have:=HJ1.out;omega,HZ6.out.mono (by have:=HJ1.out;omega),HAL'.out,HB6.out⟩
      case measure=>simp[intOf];have:=HJ1.out;omega
    ·have hr0:((r3:Int) == 0)=false:=by simp;omega
     cases out with
     | true =>
      have HT2:Hid (T=farN):=hide (by rw[HTE.out];unfold toN;rw[if_neg (fun hc=>h0 (HR3.out.trans hc.2)),if_pos ⟨by have:=HJ1.out;have:=HL.out;omega,rfl⟩])
      clear h0
      go_wp2_with (first
       | (go_at_call 44;go_loud (refine (HPUT.out w5 a4 c4 a5 dl c5 HB5.out HA5.out HC4.out HS5.out HDL.out HC5.out HN5.out).mono ?_;rintro e w6 ⟨rfl,hZ6,hK6⟩;have HZ6:=hide hZ6;have HB6:=hide (HB.out.trans ((HB5.out.mono HBz.out).trans (hK6.below (fun i hi=>hi) (Nat.le_trans HBz.out HB5.out.size))));clear hZ6 hK6))
       | (go_at_call 47;go_loud (refine (rWire_any T (some ⟨w2.heap.size,0,none⟩) 1 1 w4 (by rw[HT2.out];exact hide rfl) (by rw[HT2.out];exact HST.out) HTS.out).mono ?_;rintro e w5 ⟨v5,rfl,hO5,hB5⟩;obtain⟨a5,c5,rfl,hS5,hn5,hc5,_⟩:=hO5.open;obtain⟨dl,hdl⟩ : ∃ dl,dl=(N.wire T).length:=⟨_,rfl⟩;rw[<- hdl] at hc5 ⊢; have HDL:=hide hdl.symm;have HS5:=hide hS5;have HN5:=hide hn5;have HC5:=hide hc5;have HA5:=hide (HS4.out.1.below hB5 (Nat.le_refl _));have HB5:=hide (HB4.out.trans (hB5.mono HB4.out.size));clear hO5 hS5 hn5 hc5 hB5 hdl))
       | ((with_reducible show Calls Tryz.prog 46 _ _ _);have hq:=F2.out;clear hq;go_loud (refine (at_any j _ hjj).mono ?_;rintro e w4 ⟨a4,c4,rfl,hS4,hc4,hn4,hB4⟩;have HST:=hide ((SlS.litm w2 farN #[.string { data := #[102,97,114] }] 9 (0,0) rfl).below hB4 (Nat.le_refl _));have HS4:=hide hS4;have HC4:=hide hc4;have HB4:=hide ((HB2.out.alloc HB2.out.size (.cells #[.string { data := #[102,97,114] }] 9)).trans (hB4.mono (HB2.out.alloc HB2.out.size (.cells #[.string { data := #[102,97,114] }] 9)).size));have F4:=hide trivial;clear hS4 hc4 hn4 hB4))
       | ((with_reducible show Calls Tryz.prog 46 _ _ _);go_loud (refine (at_any j1 _ hj13).mono ?_;rintro e w2 ⟨a2,c2,rfl,hS2,hc2,hn2,hB2⟩;have HS2:=hide hS2;have HC2:=hide hc2;have HB2:=hide ((Below.refl wr.heap.size wr).trans (hB2.mono (Below.refl wr.heap.size wr).size));have F2:=hide trivial;clear hS2 hc2 hn2 hB2))
       | fail)
      go_roundw
      case rel=>exact⟨j1,L',rfl,by have:=HJ1.out;omega,HZ6.out.mono (by have:=HJ1.out;omega),HAL'.out,HB6.out⟩
      case measure=>simp[intOf];have:=HJ1.out;omega
     | false =>
      have HT2:Hid (T=atN j1):=hide (by rw[HTE.out,HJ1.out];unfold toN;rw[if_neg (fun hc=>h0 (HR3.out.trans hc.2)),if_neg (fun hc=>by cases hc.2)])
      clear h0
      go_wp2_with (first
       | (go_at_call 44;go_loud (refine (HPUT.out w5 a4 c4 a5 dl c5 HB5.out HA5.out HC4.out HS5.out HDL.out HC5.out HN5.out).mono ?_;rintro e w6 ⟨rfl,hZ6,hK6⟩;have HZ6:=hide hZ6;have HB6:=hide (HB.out.trans ((HB5.out.mono HBz.out).trans (hK6.below (fun i hi=>hi) (Nat.le_trans HBz.out HB5.out.size))));clear hZ6 hK6))
       | (go_at_call 47;go_loud (refine (rWire_any T a2 2 c2 w4 (by rw[HT2.out];exact hide rfl) (by rw[HT2.out];exact HST.out) HTS.out).mono ?_;rintro e w5 ⟨v5,rfl,hO5,hB5⟩;obtain⟨a5,c5,rfl,hS5,hn5,hc5,_⟩:=hO5.open;obtain⟨dl,hdl⟩ : ∃ dl,dl=(N.wire T).length:=⟨_,rfl⟩;rw[<- hdl] at hc5 ⊢; have HDL:=hide hdl.symm;have HS5:=hide hS5;have HN5:=hide hn5;have HC5:=hide hc5;have HA5:=hide (HS4.out.1.below hB5 (Nat.le_refl _));have HB5:=hide (HB4.out.trans (hB5.mono HB4.out.size));clear hO5 hS5 hn5 hc5 hB5 hdl))
       | ((with_reducible show Calls Tryz.prog 46 _ _ _);have hq:=F2.out;clear hq;go_loud (refine (at_any j _ hjj).mono ?_;rintro e w4 ⟨a4,c4,rfl,hS4,hc4,hn4,hB4⟩;have HST:=hide (HS2.out.1.below hB4 (Nat.le_refl _));have HS4:=hide hS4;have HC4:=hide hc4;have HB4:=hide (HB2.out.trans (hB4.mono HB2.out.size));have F4:=hide trivial;clear hS4 hc4 hn4 hB4))
       | ((with_reducible show Calls Tryz.prog 46 _ _ _);go_loud (refine (at_any j1 _ hj13).mono ?_;rintro e w2 ⟨a2,c2,rfl,hS2,hc2,hn2,hB2⟩;have HS2:=hide hS2;have HC2:=hide hc2;have HB2:=hide ((Below.refl wr.heap.size wr).trans (hB2.mono (Below.refl wr.heap.size wr).size));have F2:=hide trivial;clear hS2 hc2 hn2 hB2))
       | fail)
      go_roundw
      case rel=>exact⟨j1,L',rfl,by have:=HJ1.out;omega,HZ6.out.mono (by have:=HJ1.out;omega),HAL'.out,HB6.out⟩
      case measure=>simp[intOf];have:=HJ1.out;omega
   ·obtain⟨k1,hk1⟩ : ∃ k1,k1=k - 1:=⟨_,rfl⟩
    have ek1:(k:Int) - 1=(k1:Int):=by omega
    have hne:((j:Int) == (k1:Int))=false:=by simp;have:=HJ1.out;omega
    have hne2 : ¬ ((j:Int)=(k1:Int)):=by have:=HJ1.out;omega
    have hk11:k1<=11:=by omega
    have HT2:Hid (T=atN j1):=hide (by rw[HTE.out,HJ1.out];unfold toN;rw[if_neg (fun hc=>hl (HJ1.out.trans hc.1)),if_neg (fun hc=>hl (HJ1.out.trans hc.1))])
    clear hk1
    go_wp2_with (first
     | (go_at_call 44;go_loud (refine (HPUT.out w5 a4 c4 a5 dl c5 HB5.out HA5.out HC4.out HS5.out HDL.out HC5.out HN5.out).mono ?_;rintro e w6 ⟨rfl,hZ6,hK6⟩;have HZ6:=hide hZ6;have HB6:=hide (HB.out.trans ((HB5.out.mono HBz.out).trans (hK6.below (fun i hi=>hi) (Nat.le_trans HBz.out HB5.out.size))));clear hZ6 hK6))
     | (go_at_call 47;go_loud (refine (rWire_any T a2 2 c2 w4 (by rw[HT2.out];exact hide rfl) (by rw[HT2.out];exact HST.out) HTS.out).mono ?_;rintro e w5 ⟨v5,rfl,hO5,hB5⟩;obtain⟨a5,c5,rfl,hS5,hn5,hc5,_⟩:=hO5.open;obtain⟨dl,hdl⟩ : ∃ dl,dl=(N.wire T).length:=⟨_,rfl⟩;rw[<- hdl] at hc5 ⊢; have HDL:=hide hdl.symm;have HS5:=hide hS5;have HN5:=hide hn5;have HC5:=hide hc5;have HA5:=hide (HS4.out.1.below hB5 (Nat.le_refl _));have HB5:=hide (HB4.out.trans (hB5.mono HB4.out.size));clear hO5 hS5 hn5 hc5 hB5 hdl))
     | ((with_reducible show Calls Tryz.prog 46 _ _ _);have hq:=F2.out;clear hq;go_loud (refine (at_any j _ hjj).mono ?_;rintro e w4 ⟨a4,c4,rfl,hS4,hc4,hn4,hB4⟩;have HST:=hide (HS2.out.1.below hB4 (Nat.le_refl _));have HS4:=hide hS4;have HC4:=hide hc4;have HB4:=hide (HB2.out.trans (hB4.mono HB2.out.size));have F4:=hide trivial;clear hS4 hc4 hn4 hB4))
     | ((with_reducible show Calls Tryz.prog 46 _ _ _);go_loud (refine (at_any j1 _ hj13).mono ?_;rintro e w2 ⟨a2,c2,rfl,hS2,hc2,hn2,hB2⟩;have HS2:=hide hS2;have HC2:=hide hc2;have HB2:=hide ((Below.refl wr.heap.size wr).trans (hB2.mono (Below.refl wr.heap.size wr).size));have F2:=hide trivial;clear hS2 hc2 hn2 hB2))
     | fail)
    go_roundw
    case rel=>exact⟨j1,L',rfl,by have:=HJ1.out;omega,HZ6.out.mono (by have:=HJ1.out;omega),HAL'.out,HB6.out⟩
    case measure=>simp[intOf];have:=HJ1.out;omega
  ·skip
   have hjk:k=j:=by omega
   subst hjk
   obtain⟨L1,hL1⟩ : ∃ L1,L1=(Z.putR Z.exA L (atN k) 1 1 5 [1,2,3,4]).2.2:=⟨_,rfl⟩
   obtain⟨p1,hp1⟩ : ∃ p1,p1=(Z.putR Z.exA L (atN k) 1 1 5 [1,2,3,4]).1:=⟨_,rfl⟩
   obtain⟨p2,hp2⟩ : ∃ p2,p2=(Z.putR Z.exA L (atN k) 1 1 5 [1,2,3,4]).2.1:=⟨_,rfl⟩
   have haf:AF k out rr L1:=by rw[hL1];exact HAL.out.done hk12
   have HPUT:Hid (∀ W an ac da dc,Below wr.heap.size wr W->SlS W an (atN k)->2<=ac->SlL W da [1,2,3,4]->4<=dc->(da=none->dc=0)->Calls Tryz.prog 44 #[.pointer (some ⟨V,0,none⟩),.agg #[.slice an 2 ac,.int .u16 1,.int .u16 1,.int .u32 5,.slice da 4 dc]] W fun e w'=>e = .returned (.tuple #[.bool p1,.int .i64 (p2:Int)])/\ZLive (fun i=>i<B) w' V Z.exA L1 (k*3+2+1)/\ZKp (fun i=>i<B) W w'):=hide fun W an ac da dc hW hA hac hD hdc hdn=>by
    have h:=zput_live (HZ.out.bel hW) (hide exA_small) (atN k) an 2 ac (hide rfl) hac hA (hide (atN_small k)) 1 1 5 [1,2,3,4] da 4 dc (hide rfl) hD hdn hdc (by decide) (by decide) (by omega)
    unfold recV at h
    rw[<- hp1, <- hp2, <- hL1] at h
    exact h
   obtain⟨F,hF,hG⟩:=runs_alias haf hk12 k 0 [] (by omega) (by omega) (fun h hc=>by omega) rfl
   have HFD : ∀ W a c,ZLive (fun i=>i<B) W V Z.exA L1 (k*3+2+1)->SlS W a (atN 0)->2<=c->Calls Tryz.prog 39 #[.pointer (some ⟨V,0,none⟩),.slice a 2 c,.int .u16 1] W fun e w' => ∃ v v2 vw na nc,e = .returned (.agg #[.int .i64 F.kind,v,v2,.slice none 0 0,vw,.slice na F.a.length nc])/\OwnL 54 4 ES w' W.heap.size v F.M/\OwnL 54 4 ES w' W.heap.size v2 F.au/\OwnL 28 1 EN w' W.heap.size vw F.ws/\SlS w' na F.a/\Below W.heap.size W w':=fun W a c hZ hS hc=>find_runs hZ (by omega) (atN 0) a 2 c (hide rfl) hS hc (hide (atN_small 0)) (by decide) (by omega) 1 (by decide) F hF
   unfold GoodA at hG
   clear hL1 hp1 hp2 haf hF
   have hk13:k<13:=by omega
   obtain⟨k2,hk2⟩ : ∃ k2,k2=k+1:=⟨_,rfl⟩
   have ek2:(k:Int)+1=(k2:Int):=by omega
   have hk2b:k2<=12:=by omega
   have hkk2:k<k2:=by omega
   by_cases hbad:(0<k/\(out=true\/rr % 3=0))\/8<=k
   ·rw[if_pos hbad] at hG
    obtain⟨m,hm⟩ : ∃ m,m=min k 8:=⟨_,rfl⟩
    have HFD:Hid (∀ W a c,ZLive (fun i=>i<B) W V Z.exA L1 (k*3+2+1)->SlS W a (atN 0)->2<=c->Calls Tryz.prog 39 #[.pointer (some ⟨V,0,none⟩),.slice a 2 c,.int .u16 1] W fun e w' => ∃ va vc x1 x2 x3 y1 y2 y3 na nl nc,e = .returned (.agg #[.int .i64 1,.slice va m vc,.slice x1 x2 x3,.slice none 0 0,.slice y1 y2 y3,.slice na nl nc])/\Below W.heap.size W w'):=hide fun W a c h1 h2 h3=>by
     refine (HFD W a c h1 h2 h3).mono ?_
     rintro e w' ⟨v,v2,vw,na,nc,rfl,hO1,hO2,hO3,_,hB'⟩
     obtain⟨va,vc,rfl,_⟩:=hO1.slice
     obtain⟨x1,x3,rfl,_⟩:=hO2.slice
     obtain⟨y1,y3,rfl,_⟩:=hO3.slice
     rw[hG.1,hG.2, <- hm]
     exact⟨va,vc,x1,_,x3,y1,_,y3,na,_,nc,rfl,hB'⟩
    have hkp:(0:Int)<(k:Int):=by omega
    have hm8:m<=8:=by omega
    have emin:(if (k:Int)<=8 then (k:Int) else 8)=(m:Int):=by split <;> omega
    have emin2:min (k:Int) 8=(m:Int):=by omega
    clear hG hk2 hm
    go_upto_region 17 with (first
     | ((with_reducible show Calls Tryz.prog 46 _ _ _);have hq:=F2.out;clear hq;go_loud (refine (at_zero w3).mono ?_;rintro e w4 ⟨a4,c4,rfl,hS4,hc4,hn4,hB4⟩;have HS4:=hide hS4.1;have HC4:=hide hc4;have HZ4:=hide (HZ3.out.bel hB4);have HB4:=hide (HB3.out.trans (hB4.mono (Nat.le_trans HBle.out HB3.out.size)));clear hS4 hc4 hn4 hB4))
     | (go_at_call 39;go_loud (refine (HFD.out w4 a4 c4 HZ4.out HS4.out HC4.out).mono ?_;rintro e w5 ⟨va,vc,x1,x2,x3,y1,y2,y3,na,nl,nc,rfl,hB5⟩;have HB5:=hide (HB4.out.trans (hB5.mono (Nat.le_trans HBle.out HB4.out.size)));clear hB5))
     | (go_at_call 44;go_loud (refine (HPUT.out _ a2 c2 (some ⟨w2.heap.size,0,none⟩) 4 HB2.out HS2.out HC2.out HD2.out (Nat.le_refl _) (fun h=>by cases h)).mono ?_;rintro e w3 ⟨rfl,hZ3,hK3⟩;have HZ3:=hide hZ3;have HB3:=hide (HB.out.trans ((HB2.out.mono HBz.out).trans (hK3.below (fun i hi=>hi) (Nat.le_trans HBz.out HB2.out.size))));clear hZ3 hK3))
     | ((with_reducible show Calls Tryz.prog 46 _ _ _);go_loud (refine (at_any k _ hk13).mono ?_;rintro e w2 ⟨a2,c2,rfl,hS2,hc2,hn2,hB2⟩;have HBD:=hide ((Below.refl _ w2).alloc (Nat.le_refl _) (.cells #[.int .u8 1,.int .u8 2,.int .u8 3,.int .u8 4] 5));have HS2:=hide (hS2.1.below HBD.out (Nat.le_refl _));have HC2:=hide hc2;have HD2:=hide (SlL.litm w2 [1,2,3,4] #[.int .u8 1,.int .u8 2,.int .u8 3,.int .u8 4] 5 (0,0) rfl);have HB2:=hide (hB2.trans (HBD.out.mono hB2.size));have F2:=hide trivial;clear hS2 hc2 hn2 hB2))
     | fail)
    obtain⟨w6,hw6⟩ : ∃ w6,w6=w5.alloc (.cells #[.int .i64 1,.slice va m vc,.slice x1 x2 x3,.slice none 0 0,.slice y1 y2 y3,.slice na nl nc] 70):=⟨_,rfl⟩
    obtain⟨gf,hgf⟩ : ∃ gf,gf=w5.heap.size:=⟨_,rfl⟩
    rw[<- hw6, <- hgf]
    have hrf:RowAt w6 gf 70 #[.int .i64 1,.slice va m vc,.slice x1 x2 x3,.slice none 0 0,.slice y1 y2 y3,.slice na nl nc]:=by rw[hw6,hgf];exact RowAt.new w5 _ _
    have HB6:Hid (Below B w w6):=hide (by rw[hw6];exact HB5.out.alloc (Nat.le_trans HBle.out HB5.out.size) _)
    have r0:=hrf.cell 0
    have r1:=hrf.cell 1
    clear hw6 hgf hrf
    cases out with
    | true =>
     go_wp2
     go_ret
     exact⟨by first | rfl | simp,HB6.out⟩
    | false =>
     by_cases h0:r3=0
     ·subst h0
      go_wp2
      go_ret
      exact⟨by first | rfl | simp,HB6.out⟩
     ·have hr0:((r3:Int) == 0)=false:=by simp;omega
      have hk8:(8:Int)<=(k:Int):=by have:=HR3.out;rcases hbad with⟨_,h | h⟩ | h;cases h;omega;omega
      go_wp2
      go_ret
      exact⟨by first | rfl | simp,HB6.out⟩
   ·rw[if_neg hbad] at hG
    have HFD:Hid (∀ W a c,ZLive (fun i=>i<B) W V Z.exA L1 (k*3+2+1)->SlS W a (atN 0)->2<=c->Calls Tryz.prog 39 #[.pointer (some ⟨V,0,none⟩),.slice a 2 c,.int .u16 1] W fun e w' => ∃ g vc x1 x2 x3 y1 y2 y3 na nl nc,e = .returned (.agg #[.int .i64 0,.slice (some ⟨g,0,none⟩) k2 vc,.slice x1 x2 x3,.slice none 0 0,.slice y1 y2 y3,.slice na nl nc])/\w'.cell? ⟨g,k*4+1,none⟩=some (.int .u16 1)/\g<w'.heap.size/\Below W.heap.size W w'):=hide fun W a c h1 h2 h3=>by
     refine (HFD W a c h1 h2 h3).mono ?_
     rintro e w' ⟨v,v2,vw,na,nc,rfl,hO1,hO2,hO3,_,hB'⟩
     obtain⟨va,vc,rfl,_⟩:=hO1.slice
     obtain⟨x1,x3,rfl,_⟩:=hO2.slice
     obtain⟨y1,y3,rfl,_⟩:=hO3.slice
     obtain⟨hg1,hg2,p,hp,hpt⟩:=hG
     obtain⟨g,rfl,_,hgl,_,hel⟩:=hO1.get (by omega)
     obtain⟨us,_,⟨xa,xc,da,dc,bse,rfl,_,_,_⟩,hcell⟩:=hel k p hp
     have h0:=hcell 1 (by omega)
     rw[hpt] at h0
     rw[hg1,hg2, <- hk2]
     exact⟨g,vc,x1,_,x3,y1,_,y3,na,_,nc,rfl,h0,hgl,hB'⟩
    have hk8 : ¬ (8:Int)<=(k:Int):=by omega
    clear hG hk2
    go_upto_region 17 with (first
     | ((with_reducible show Calls Tryz.prog 46 _ _ _);have hq:=F2.out;clear hq;go_loud (refine (at_zero w3).mono ?_;rintro e w4 ⟨a4,c4,rfl,hS4,hc4,hn4,hB4⟩;have HS4:=hide hS4.1;have HC4:=hide hc4;have HZ4:=hide (HZ3.out.bel hB4);have HB4:=hide (HB3.out.trans (hB4.mono (Nat.le_trans HBle.out HB3.out.size)));clear hS4 hc4 hn4 hB4))
     | (go_at_call 39;go_loud (refine (HFD.out w4 a4 c4 HZ4.out HS4.out HC4.out).mono ?_;rintro e w5 ⟨g,vc,x1,x2,x3,y1,y2,y3,na,nl,nc,rfl,hx,hg5,hB5⟩;have HX:=hide hx;have HG5:=hide hg5;have HB5:=hide (HB4.out.trans (hB5.mono (Nat.le_trans HBle.out HB4.out.size)));clear hx hg5 hB5))
     | (go_at_call 44;go_loud (refine (HPUT.out _ a2 c2 (some ⟨w2.heap.size,0,none⟩) 4 HB2.out HS2.out HC2.out HD2.out (Nat.le_refl _) (fun h=>by cases h)).mono ?_;rintro e w3 ⟨rfl,hZ3,hK3⟩;have HZ3:=hide hZ3;have HB3:=hide (HB.out.trans ((HB2.out.mono HBz.out).trans (hK3.below (fun i hi=>hi) (Nat.le_trans HBz.out HB2.out.size))));clear hZ3 hK3))
     | ((with_reducible show Calls Tryz.prog 46 _ _ _);go_loud (refine (at_any k _ hk13).mono ?_;rintro e w2 ⟨a2,c2,rfl,hS2,hc2,hn2,hB2⟩;have HBD:=hide ((Below.refl _ w2).alloc (Nat.le_refl _) (.cells #[.int .u8 1,.int .u8 2,.int .u8 3,.int .u8 4] 5));have HS2:=hide (hS2.1.below HBD.out (Nat.le_refl _));have HC2:=hide hc2;have HD2:=hide (SlL.litm w2 [1,2,3,4] #[.int .u8 1,.int .u8 2,.int .u8 3,.int .u8 4] 5 (0,0) rfl);have HB2:=hide (hB2.trans (HBD.out.mono hB2.size));have F2:=hide trivial;clear hS2 hc2 hn2 hB2))
     | fail)
    obtain⟨w6,hw6⟩ : ∃ w6,w6=w5.alloc (.cells #[.int .i64 0,.slice (some ⟨g,0,none⟩) k2 vc,.slice x1 x2 x3,.slice none 0 0,.slice y1 y2 y3,.slice na nl nc] 70):=⟨_,rfl⟩
    obtain⟨gf,hgf⟩ : ∃ gf,gf=w5.heap.size:=⟨_,rfl⟩
    rw[<- hw6, <- hgf]
    have hrf:RowAt w6 gf 70 #[.int .i64 0,.slice (some ⟨g,0,none⟩) k2 vc,.slice x1 x2 x3,.slice none 0 0,.slice y1 y2 y3,.slice na nl nc]:=by rw[hw6,hgf];exact RowAt.new w5 _ _
    have HB6:Hid (Below B w w6):=hide (by rw[hw6];exact HB5.out.alloc (Nat.le_trans HBle.out HB5.out.size) _)
    have r0:=hrf.cell 0
    have r1:=hrf.cell 1
    have hx6:w6.cell? ⟨g,k*4+1,none⟩=some (.int .u16 1):=by rw[hw6];exact ((Below.refl w5.heap.size w5).alloc (Nat.le_refl _) _).cell (p:=⟨g,k*4+1,none⟩) HG5.out |>.trans HX.out
    clear hw6 hgf hrf
    by_cases hkp:(0:Int)<(k:Int)
    ·cases out with
     | true=>exact absurd (Or.inl ⟨by omega,Or.inl rfl⟩) hbad
     | false =>
      have hr0:((r3:Int) == 0)=false:=by simp;have:=HR3.out;intro h;exact hbad (Or.inl ⟨by omega,Or.inr (by omega)⟩)
      go_wp2
      go_ret
      exact⟨by first | rfl | simp,HB6.out⟩
    ·skip
     go_wp2
     go_ret
     exact⟨by first | rfl | simp,HB6.out⟩
end Go.Proofs.YtmbcegljmhcdeaaGreat
