/- Appending to a list, and where the new one lies; what a store and an append leave. -/
import Derived.Test.YtmbcegljmhcdeaaGreatZlw
import Derived.Test.YtmbcegljmhcdeaaGreatRefK
import Derived.Laws.Small
import Derived.Test.YtmbcegljmhcdeaaGreatZrs
import Derived.WalkMore
import Derived.Maps.AppendAt
namespace Go.Proofs.YtmbcegljmhcdeaaGreat
set_option maxRecDepth 5000
open Go.RowKit
theorem zput_idle {X:Nat->Prop} {w:World} {Zb:Nat} {A:List (List UInt8)} {L:List Z.R} {K:Nat} (Z0:ZLive X w Zb A L K) (hA:Hid (N.Small A)) (n:List (List UInt8)) (na:Option Addr) (nl nc:Nat) (hl:Hid (n.length=nl)) (hnc:nl<=nc) (hs:SlS w na n) (hm:Hid (N.Small n)) :
 Calls Tryz.prog 44 #[.pointer (some ⟨Zb,0,none⟩),.agg #[.slice na nl nc,.int .u16 0,.int .u16 0,.int .u32 0,.slice none 0 0]] w fun e w'=>e = .returned (.tuple #[.bool false,.int .i64 (if N.chk n=0/\N.within n A=true then 50 else 110)])/\Below w.heap.size w w':=by
 obtain⟨ρ,G,C,Zx,hX,hth⟩:=Z0
 by_cases h:N.chk n=0/\N.within n A=true
 ·rw[if_pos h]
  exact zput_data w Zb A L ρ G C K Zx hA n na nl nc hl hnc hs hm 0 0 0 [] none 0 (fun h=>absurd h (by simp)) (fun _=>rfl) (Nat.le_refl _) h.1 h.2 (Or.inl (by decide))
 ·rw[if_neg h]
  refine zput_name w Zb A L ρ G C K Zx hA n na nl nc hl hnc hs hm 0 0 0 [] none 0 (fun h=>absurd h (by simp)) (fun _=>rfl) (Nat.le_refl _) ?_
  by_cases h1:N.chk n=0
  ·right
   cases h2:N.within n A with
   | false=>rfl
   | true=>exact absurd ⟨h1,h2⟩ h
  ·exact Or.inl h1
theorem within_last (n:List (List UInt8)) (j:Nat) (h1:1<=j) (h2:j<=n.length):N.within (n.drop (n.length - j)) Z.exA=N.within n Z.exA:=by
 have h:N.within (n.drop (n.length - j)) Z.exA=true↔N.within n Z.exA=true:=by
  rw[within_path2,within_path2,path_drop,List.prefix_take_iff,path_len,show n.length - (n.length - j)=j by omega]
  exact⟨fun h=>h.1,fun h=>⟨h,h1⟩⟩
 cases ha:N.within (n.drop (n.length - j)) Z.exA <;> cases hb:N.within n Z.exA <;> simp_all
theorem within_chk (n:List (List UInt8)) (h:N.within n Z.exA=true):1<=n.length/\N.chk (n.drop (n.length - 1))=0:=by
 have h0:=(within_path2 _ _).1 h
 have h1:1<=n.length:=by
  have:=h0.length_le
  rw[path_len,path_len] at this
  exact this
 refine⟨h1,?_⟩
 have h2:=within_last n 1 (Nat.le_refl _) h1
 rw[h,within_path2] at h2
 have hlen:(n.drop (n.length - 1)).length=1:=by rw[List.length_drop];omega
 obtain⟨x,hx⟩:=List.length_eq_one_iff.1 hlen
 rw[hx] at h2 ⊢
 have h3:path Z.exA=path [x]:=h2.eq_of_length (by rw[path_len,path_len];rfl)
 have h4:N.lowL [101,120,97,109,112,108,101]=N.lowL x:=by
  have:([N.lowL [101,120,97,109,112,108,101]]:List (List UInt8)) = [N.lowL x]:=h3
  injection this
 have h5:x.length=7:=by
  have:=congrArg List.length h4
  rw[N.lowL_len,N.lowL_len] at this
  exact this.symm
 refine N.chk_ok ?_ ?_ ?_
 ·intro hm
  have:([]:List UInt8)=x:=by simpa using hm
  rw[<- this] at h5;cases h5
 ·have:N.size [x]=x.length+2:=by simp[N.size];try omega
  omega
 ·intro l hl
  have:l=x:=by simpa using hl
  rw[this];omega
theorem within_none:N.within [] Z.exA=false:=by decide +kernel
set_option maxRecDepth 20000 in
set_option maxHeartbeats 1000000 in
theorem lapex_any {X:Nat->Prop} {w:World} {Zb:Nat} {L:List Z.R} {K:Nat} (Z0:ZLive X w Zb Z.exA L K) (n:List (List UInt8)) (ao:Option Addr) (len cap:Nat) (hl:Hid (n.length=len)) (hs:SlS w ao n) (hf:Flat ao) (hcap:len<=cap) (hm:Hid (N.Small n)) :
 Calls Tryz.prog 70 #[.pointer (some ⟨Zb,0,none⟩),.slice ao len cap] w fun e w' => ∃ v,e = .returned (.tuple #[v,.bool (N.within n Z.exA)])/\OwnS w' w.heap.size v (if N.within n Z.exA=true then n.drop (len - 1) else [])/\Below w.heap.size w w':=by
 have HZ:=hide Z0
 have HS:=hide hs
 have HF:=hide hf
 have hlen:len<=1000000:=by rw[<- hl.out];exact hm.out.1
 have hone:N.within n Z.exA=true->1<=len:=fun h=>by rw[<- hl.out];exact (within_chk n h).1
 have HONE:=hide hone
 obtain⟨T,hT⟩ : ∃ T,T=(if N.within n Z.exA=true then n.drop (len - 1) else []):=⟨_,rfl⟩
 obtain⟨bw,hbw⟩ : ∃ bw,bw=N.within n Z.exA:=⟨_,rfl⟩
 rw[<- hT, <- hbw]
 have HT:=hide hT
 have HBW:=hide hbw
 clear Z0 hs hf hone hT hbw
 go_enter Tryz.func70,Tryz.ntmps70
 go_wp2
 go_loopw [6] (fun i wr => ∃ j:Nat,i = .int .i64 (j:Int)/\j<=len+1/\j<=128/\(N.within n Z.exA=true->j<=1)/\Below w.heap.size w wr) (fun i _=>len+1 - (intOf i).toNat)
 case atStart=>exact⟨0,rfl,by omega,by omega,fun _=>by omega,Below.refl _ _⟩
 case round =>
  obtain⟨j,rfl,hj,hj2,hj1,hB⟩:=hrel
  have HB:=hide hB
  have HJ1:=hide hj1
  clear hB hj1
  by_cases hlt:j<=len/\j<=127
  ·have hjk:(j:Int)<=(len:Int):=by omega
   have hjk2:(j:Int)<=127:=by omega
   have hlast:=llast_any n ao len cap j wr hl (HS.out.below HB.out (Nat.le_refl _)) HF.out hlt.1 hcap hlen
   have hq:(n.drop (len - j)).length=j:=by rw[List.length_drop,hl.out];omega
   have hqs:N.Small (n.drop (len - j)):=⟨by rw[hq];omega,fun l h=>hm.out.2 l (List.mem_of_mem_drop h)⟩
   obtain⟨q,hqe⟩ : ∃ q,q=n.drop (len - j):=⟨_,rfl⟩
   rw[<- hqe] at hlast hq hqs
   have hhit:(if N.chk q=0/\N.within q Z.exA=true then (50:Int) else 110)=if N.within n Z.exA=true/\j=1 then 50 else 110:=by
    by_cases h:N.within n Z.exA=true
    ·have h1:=HJ1.out h
     rcases Nat.eq_zero_or_pos j with h0 | h0
     ·subst h0
      have:q = []:=List.eq_nil_of_length_eq_zero hq
      rw[this,within_none];simp
     ·have e:j=1:=by omega
      subst e
      have h2:=within_last n 1 (Nat.le_refl _) (by rw[hl.out];omega)
      have h3:=(within_chk n h).2
      rw[hl.out, <- hqe] at h2 h3
      rw[if_pos ⟨h3,h2.trans h⟩,if_pos ⟨h,rfl⟩]
    ·rw[if_neg (c:=N.within n Z.exA=true/\j=1) (fun e=>h e.1)]
     refine if_neg fun e=>?_
     rcases Nat.eq_zero_or_pos j with h0 | h0
     ·subst h0
      have:q = []:=List.eq_nil_of_length_eq_zero hq
      rw[this,within_none] at e;cases e.2
     ·have h2:=within_last n j h0 (by rw[hl.out];exact hlt.1)
      rw[hl.out, <- hqe] at h2
      exact h (h2.symm.trans e.2)
   have HLAST:=hide hlast
   have HQ:=hide hq
   have HQS:=hide hqs
   have HHIT:=hide hhit
   have HQE:=hide hqe
   clear hlast hq hqs hhit hqe
   by_cases hh:N.within n Z.exA=true/\j=1
   ·have hput : ∀ W a c,Below w.heap.size w W->SlS W a q->j<=c->Calls Tryz.prog 44 #[.pointer (some ⟨Zb,0,none⟩),.agg #[.slice a j c,.int .u16 0,.int .u16 0,.int .u32 0,.slice none 0 0]] W fun e w'=>e = .returned (.tuple #[.bool false,.int .i64 50])/\Below W.heap.size W w':=fun W a c hW hS hc=>by
     have h:=zput_idle (HZ.out.bel hW) (hide exA_small) q a j c HQ hc hS HQS
     rw[HHIT.out,if_pos hh] at h;exact h
    have HPUT:=hide hput
    have HH:=hide hh
    clear hput hh
    go_wp2_with (first
     | (go_at_call 44;refine (HPUT.out w2 a2 c2 HB2.out HS2.out hc2).mono ?_;rintro e w3 ⟨rfl,hB3⟩)
     | (go_at_call 80;refine HLAST.out.mono ?_;rintro e w2 ⟨v,rfl,hO,hB2⟩;obtain⟨a2,c2,rfl,hS2,_,hc2,_⟩:=hO.open;rw[HQ.out] at hc2 hO ⊢; have HO:=hide hO;have HS2:=hide hS2;have HB2:=hide (HB.out.trans (hB2.mono HB.out.size));clear hO hS2 hB2)
     | fail)
    go_ret2
    refine⟨.slice a2 j c2,congrArg (fun b=>Ending.returned (.tuple #[.slice a2 j c2,.bool b])) (HBW.out.trans HH.out.1).symm,?_,HB2.out.trans (hB3.mono HB2.out.size)⟩
    have e:=HQE.out
    rw[HH.out.2] at e
    rw[HT.out,if_pos HH.out.1, <- e]
    have h1:OwnS w3 wr.heap.size (.slice a2 j c2) q:=HO.out.below hB3
    exact h1.lower HB.out.size
   ·have hput : ∀ W a c,Below w.heap.size w W->SlS W a q->j<=c->Calls Tryz.prog 44 #[.pointer (some ⟨Zb,0,none⟩),.agg #[.slice a j c,.int .u16 0,.int .u16 0,.int .u32 0,.slice none 0 0]] W fun e w'=>e = .returned (.tuple #[.bool false,.int .i64 110])/\Below W.heap.size W w':=fun W a c hW hS hc=>by
     have h:=zput_idle (HZ.out.bel hW) (hide exA_small) q a j c HQ hc hS HQS
     rw[HHIT.out,if_neg hh] at h;exact h
    have HPUT:=hide hput
    have HH:=hide hh
    clear hput hh
    go_wp2_with (first
     | (go_at_call 44;refine (HPUT.out w2 a2 c2 HB2.out HS2.out hc2).mono ?_;rintro e w3 ⟨rfl,hB3⟩)
     | (go_at_call 80;refine HLAST.out.mono ?_;rintro e w2 ⟨v,rfl,hO,hB2⟩;obtain⟨a2,c2,rfl,hS2,_,hc2,_⟩:=hO.open;rw[HQ.out] at hc2 hO ⊢; have HO:=hide hO;have HS2:=hide hS2;have HB2:=hide (HB.out.trans (hB2.mono HB.out.size));clear hO hS2 hB2)
     | fail)
    go_roundw
    case rel =>
     refine⟨j+1,by go_num,by omega,by omega,fun h=>?_,HB2.out.trans (hB3.mono HB2.out.size)⟩
     have h1:=HJ1.out h
     have h2:j≠1:=fun e=>HH.out ⟨h,e⟩
     omega
    case measure=>simp[intOf];omega
  ·have hno:N.within n Z.exA=false:=by
    cases h:N.within n Z.exA with
    | false=>rfl
    | true =>
     have h1:=HJ1.out h
     have h2:=HONE.out h
     exact absurd ⟨by omega,by omega⟩ hlt
   have hjk : ¬ ((j:Int)<=min (len:Int) 127):=by omega
   have HNO:=hide hno
   clear hno hlt
   go_wp2
   go_ret2
   refine⟨.slice none 0 0,congrArg (fun b=>Ending.returned (.tuple #[.slice none 0 0,.bool b])) (HBW.out.trans HNO.out).symm,?_,HB.out⟩
   rw[HT.out,HNO.out,if_neg (by simp)]
   exact OwnS.nil _ _
open Go.RowKit
def IsCl (L:List Z.R) (n:List (List UInt8)) (c:Nat):Prop:=1<=c/\c<=n.length/\(2<=c->Z.has L ((path n).take c)=true)/\(c<n.length->Z.has L ((path n).take (c+1))=false)
theorem has_take {L:List Z.R} {p:List (List UInt8)} {i j:Nat} (h:i<=j) (hj:Z.has L (p.take j)=true):Z.has L (p.take i)=true:=by
 rw[Z.has_iff] at *
 obtain⟨x,hx,hp⟩:=hj
 have h1:p.take i <+: p.take j:=List.prefix_take_iff.2 ⟨List.take_prefix _ _,by rw[List.length_take];omega⟩
 exact⟨x,hx,h1.trans hp⟩
theorem IsCl.le {L:List Z.R} {n:List (List UInt8)} {c d:Nat} (h:IsCl L n c) (k:IsCl L n d):d<=c:=by
 obtain⟨h1,h2,h3,h4⟩:=h
 obtain⟨k1,k2,k3,k4⟩:=k
 rcases Nat.lt_or_ge c d with hlt | hge
 ·have e1:=k3 (by omega)
  have e2:=has_take (i:=c+1) (by omega) e1
  rw[h4 (by omega)] at e2;cases e2
 ·exact hge
theorem IsCl.uniq {L:List Z.R} {n:List (List UInt8)} {c d:Nat} (h:IsCl L n c) (k:IsCl L n d):c=d:=Nat.le_antisymm (k.le h) (h.le k)
set_option maxRecDepth 20000 in
set_option maxHeartbeats 1000000 in
theorem lclosest_any {X:Nat->Prop} {w:World} {Zb:Nat} {L:List Z.R} {K:Nat} (Z0:ZLive X w Zb Z.exA L K) (n:List (List UInt8)) (ao:Option Addr) (len cap:Nat) (hl:Hid (n.length=len)) (hs:SlS w ao n) (hf:Flat ao) (hcap:len<=cap) (hm:Hid (N.Small n)) (hin:N.within n Z.exA=true) :
 Calls Tryz.prog 41 #[.pointer (some ⟨Zb,0,none⟩),.slice ao len cap] w fun e w' => ∃ c v1 v2,e = .returned (.tuple #[v1,v2])/\IsCl L n c/\OwnS w' w.heap.size v1 (n.drop (len - c))/\OwnS w' w.heap.size v2 (n.drop (len - min (c+1) len))/\Below w.heap.size w w':=by
 have HZ:=hide Z0
 have HS:=hide hs
 have HF:=hide hf
 have hlen:len<=1000000:=by rw[<- hl.out];exact hm.out.1
 have h1len:1<=len:=by rw[<- hl.out];exact (within_chk n hin).1
 have hap:Calls Tryz.prog 70 #[.pointer (some ⟨Zb,0,none⟩),.slice ao len cap] w fun e w' => ∃ a c,e = .returned (.tuple #[.slice a 1 c,.bool true])/\Below w.heap.size w w':=by
  refine (lapex_any Z0 n ao len cap hl hs hf hcap hm).mono ?_
  rintro e w' ⟨v,rfl,hO,hB⟩
  rw[if_pos hin] at hO
  obtain⟨a,c,rfl,_⟩:=hO.open
  refine⟨a,c,?_,hB⟩
  rw[hin,List.length_drop,hl.out,show len - (len - 1)=1 by omega]
 have HAP:=hide hap
 clear Z0 hs hf hap hin
 go_enter Tryz.func41,Tryz.ntmps41
 go_wp2_with (go_at_call 70;refine HAP.out.mono ?_;rintro e w1 ⟨a1,c1,rfl,hB1⟩)
 have HB1:=hide hB1
 clear hB1
 go_loopw [8] (fun i wr => ∃ j:Nat,i = .int .i64 (j:Int)/\1<=j/\j<=len/\Hid (2<=j->Z.has L ((path n).take j)=true)/\Below w.heap.size w wr) (fun i _=>len - (intOf i).toNat)
 case atStart=>exact⟨1,rfl,by omega,by omega,hide fun h=>absurd h (by omega),HB1.out⟩
 case round =>
  obtain⟨j,rfl,hj1,hj,HJ,hB⟩:=hrel
  have HB:=hide hB
  clear hB HB1
  by_cases hlt:j<len
  ·have hjk:(j:Int)<(len:Int):=by omega
   obtain⟨j1,hj1e⟩ : ∃ j1,j1=j+1:=⟨_,rfl⟩
   have hw:IntKind.i64.wrap ((j:Int)+1)=(j1:Int):=by rw[IntKind.wrap_i64];omega
   have hmin:min (j1:Int) (len:Int)=(j1:Int):=by omega
   have hlast:=fun W (hW:Below w.heap.size w W)=>llast_any n ao len cap j1 W hl (HS.out.below hW (Nat.le_refl _)) HF.out (by omega) hcap hlen
   have hlast0:=fun W (hW:Below w.heap.size w W)=>llast_any n ao len cap j W hl (HS.out.below hW (Nat.le_refl _)) HF.out (by omega) hcap hlen
   have hqe:path (n.drop (len - j1))=(path n).take j1:=by rw[path_drop,hl.out,show len - (len - j1)=j1 by omega]
   have hql:(n.drop (len - j1)).length=j1:=by rw[List.length_drop,hl.out];omega
   have hqs:N.Small (n.drop (len - j1)):=⟨by rw[hql];omega,fun l h=>hm.out.2 l (List.mem_of_mem_drop h)⟩
   obtain⟨V,hV⟩ : ∃ V,V=Z.has L ((path n).take j1):=⟨_,rfl⟩
   obtain⟨qn,hqn⟩ : ∃ qn,qn=n.drop (len - j1):=⟨_,rfl⟩
   have hhas : ∀ W a c,Below w.heap.size w W->SlS W a qn->Calls Tryz.prog 30 #[.pointer (some ⟨Zb,0,none⟩),.slice a j1 c] W fun e w'=>e = .returned (.bool V)/\Below W.heap.size W w':=fun W a c hW hS=>by
    rw[hqn] at hS
    have h:=zhas_live (HZ.out.bel hW) (n.drop (len - j1)) a j1 c (hide hql) hS (hide hqs)
    rw[hqe, <- hV] at h
    exact h
   rw[<- hqn] at hlast hql
   have HLAST:=hide hlast
   have HLAST0:=hide hlast0
   have HHAS:=hide hhas
   have HQL:=hide hql
   have HV:=hide hV
   have HQN:=hide hqn
   have HJE:=hide hj1e
   clear hlast hlast0 hhas hqe hql hqs hV hqn hj1e
   cases V with
   | true =>
    go_wp2_with (first
     | (go_at_call 30;refine (HHAS.out w2 a2 c2 HB2.out HS2.out).mono ?_;rintro e w3 ⟨rfl,hB3⟩)
     | (go_at_call 80;refine (HLAST.out _ HB.out).mono ?_;rintro e w2 ⟨v,rfl,hO,hB2⟩;obtain⟨a2,c2,rfl,hS2,_,hc2,_⟩:=hO.open;rw[HQL.out];have HS2:=hide hS2;have HB2:=hide (HB.out.trans (hB2.mono HB.out.size));clear hO hS2 hB2 hc2)
     | fail)
    go_roundw
    case rel=>exact⟨j1,rfl,by have:=HJE.out;omega,by have:=HJE.out;omega,hide fun _=>HV.out.symm,HB2.out.trans (hB3.mono HB2.out.size)⟩
    case measure=>have:=HJE.out;simp[intOf];omega
   | false =>
    go_wp2_with (first
     | (go_at_call 80;have hq:=HE2.out;clear hq;refine (HLAST.out _ HB4.out).mono ?_;rintro e w5 ⟨v5,rfl,hO5,hB5⟩)
     | (go_at_call 80;have hq:=HE1.out;clear hq;refine (HLAST0.out _ HB3.out).mono ?_;rintro e w4 ⟨v4,rfl,hO4,hB4⟩;have HO4:=hide hO4;have HB34:=hide hB4;have HB4:=hide (HB3.out.trans (hB4.mono HB3.out.size));have HE2:=hide trivial;clear hO4 hB4)
     | (go_at_call 30;refine (HHAS.out w2 a2 c2 HB2.out HS2.out).mono ?_;rintro e w3 ⟨rfl,hB3⟩;have HB3:=hide (HB2.out.trans (hB3.mono HB2.out.size));have HE1:=hide trivial;clear hB3)
     | (go_at_call 80;refine (HLAST.out _ HB.out).mono ?_;rintro e w2 ⟨v,rfl,hO,hB2⟩;obtain⟨a2,c2,rfl,hS2,_,hc2,_⟩:=hO.open;rw[HQL.out];have HS2:=hide hS2;have HB2:=hide (HB.out.trans (hB2.mono HB.out.size));clear hO hS2 hB2 hc2)
     | fail)
    go_ret2
    have hje:=HJE.out
    refine⟨j,v4,v5,rfl,⟨hj1,by rw[hl.out];omega,HJ.out,fun _=>by rw[<- hje];exact HV.out.symm⟩,(HO4.out.below hB5).lower HB3.out.size,?_,HB4.out.trans (hB5.mono HB4.out.size)⟩
    rw[show min (j+1) len=j1 by omega, <- HQN.out]
    exact hO5.lower HB4.out.size
  ·obtain rfl:j=len:=by omega
   have hjk : ¬ ((j:Int)<(j:Int)):=by omega
   obtain⟨j1,hj1e⟩ : ∃ j1,j1=j+1:=⟨_,rfl⟩
   have hw:IntKind.i64.wrap ((j:Int)+1)=(j1:Int):=by rw[IntKind.wrap_i64];omega
   have hmin:min (j1:Int) (j:Int)=(j:Int):=by omega
   clear hj1e
   have hlast:=fun W (hW:Below w.heap.size w W)=>llast_any n ao j cap j W hl (HS.out.below hW (Nat.le_refl _)) HF.out (by omega) hcap hlen
   have HLAST:=hide hlast
   clear hlast
   go_wp2_with (first
    | (go_at_call 80;have hq:=HE2.out;clear hq;refine (HLAST.out _ HB4.out).mono ?_;rintro e w5 ⟨v5,rfl,hO5,hB5⟩)
    | (go_at_call 80;refine (HLAST.out _ HB.out).mono ?_;rintro e w4 ⟨v4,rfl,hO4,hB4⟩;have HO4:=hide hO4;have HB4:=hide (HB.out.trans (hB4.mono HB.out.size));have HE2:=hide trivial;clear hO4 hB4)
    | fail)
   go_ret2
   refine⟨j,v4,v5,rfl,⟨hj1,by rw[hl.out];omega,HJ.out,fun h=>absurd h (by rw[hl.out];omega)⟩,(HO4.out.below hB5).lower HB.out.size,?_,HB4.out.trans (hB5.mono HB4.out.size)⟩
   rw[show min (j+1) j=j by omega]
   exact hO5.lower HB4.out.size
end Go.Proofs.YtmbcegljmhcdeaaGreat
namespace Go.Proofs.YtmbcegljmhcdeaaGreat
open Go.RowKit
set_option maxRecDepth 5000
def starN (nm:List (List UInt8)) (c:Nat):List (List UInt8) := [42]::N.lowN (nm.drop (nm.length - c))
set_option maxRecDepth 20000 in
set_option maxHeartbeats 1000000 in
theorem owner_at {X:Nat->Prop} {w:World} {Zb:Nat} {A:List (List UInt8)} {L:List Z.R} {K:Nat} (Z0:ZLive X w Zb A L K) (hK:K<=1000000) (sb:Nat) (va vt v1 vk v v2 v3 v4:Value) (nm:List (List UInt8)) (na:Option Addr) (nl nc:Nat) (hnl:Hid (nm.length=nl))
 (hrow:RowAt w sb 122 #[.pointer (some ⟨Zb,0,none⟩),va,vt,v1,vk,v,v2,v3,v4,.slice na nl nc]) (hs:SlS w na nm) (hnm:Hid (N.Small nm)) (hat:Z.typesAt L (path nm) ≠ []) :
 Calls Tryz.prog 73 #[.pointer (some ⟨sb,0,none⟩)] w fun e w'=>e = .returned (.tuple #[.slice na nl nc,.bool true])/\Below w.heap.size w w':=by
 have htypes:Calls Tryz.prog 33 #[.pointer (some ⟨Zb,0,none⟩),.slice na nl nc] w fun e w' => ∃ a n c,e = .returned (.slice a n c)/\0<n/\Below w.heap.size w w':=by
  refine (ztypes_live Z0 hK nm na nl nc hnl hs hnm).mono ?_
  rintro e w' ⟨v,rfl,ts,hts,hO,hb⟩
  obtain⟨a,c,rfl,_⟩:=hO.open
  refine⟨a,_,c,rfl,?_,hb⟩
  rcases Nat.eq_zero_or_pos ts.length with h | h
  ·exact absurd (by rw[<- hts,List.eq_nil_of_length_eq_zero h];rfl) hat
  ·exact h
 have z0:w.cell? ⟨sb,0,none⟩=some (.pointer (some ⟨Zb,0,none⟩)):=hrow.cell 0
 have z9:w.cell? ⟨sb,9,none⟩=some (.slice na nl nc):=hrow.cell 9
 have HT:=hide htypes
 clear htypes hrow hs hat Z0
 go_enter Tryz.func73,Tryz.ntmps73
 go_wp2_with (go_at_call 33;refine HT.out.mono ?_;rintro e w2 ⟨a,n,c,rfl,hn,hB2⟩;have hni:(0:Int)<(n:Int):=by omega)
 go_ret2
 exact⟨rfl,hB2⟩
set_option maxRecDepth 20000 in
set_option maxHeartbeats 1500000 in
theorem owner_nothing {X:Nat->Prop} {w0 w:World} {Zb:Nat} {L:List Z.R} {K:Nat} (Z0:ZLive X w0 Zb Z.exA L K) (hK:K<=1000000) (hw:Below w0.heap.size w0 w) (sb:Nat) (hsb0:w0.heap.size<=sb) (va vt v1 v v2 v3 v4:Value) (kd:Int) (nm:List (List UInt8)) (na:Option Addr) (nl nc:Nat) (hnl:Hid (nm.length=nl)) (hnc:nl<=nc) (hnb:nl<=100000)
 (hrow:RowAt w sb 122 #[.pointer (some ⟨Zb,0,none⟩),va,vt,v1,.int .i64 kd,v,v2,v3,v4,.slice na nl nc]) (hs:SlS w na nm) (hnm:Hid (N.Small nm)) (hin:N.within nm Z.exA=true) (hat:Z.typesAt L (path nm) = []) (hhas:Z.has L (path nm)=false) (hst : ∀ c,IsCl L nm c->Z.typesAt L (path (starN nm c)) = []) :
 Calls Tryz.prog 73 #[.pointer (some ⟨sb,0,none⟩)] w fun e w'=>e = .returned (.tuple #[.slice none 0 0,.bool false])/\RowAt w' sb 122 #[.pointer (some ⟨Zb,0,none⟩),va,vt,v1,.int .i64 4,v,v2,v3,v4,.slice na nl nc]/\KA w w'/\Below w0.heap.size w w':=by
 have Zw:=Z0.bel hw
 have h1nl:1<=nl:=by rw[<- hnl.out];exact (within_chk nm hin).1
 have hf:Flat na:=hs.flat (by rw[hnl.out];omega)
 have htypes:Calls Tryz.prog 33 #[.pointer (some ⟨Zb,0,none⟩),.slice na nl nc] w fun e w' => ∃ a c,e = .returned (.slice a 0 c)/\Below w.heap.size w w':=by
  refine (ztypes_live Zw hK nm na nl nc hnl hs hnm).mono ?_
  rintro e w' ⟨v,rfl,ts,hts,hO,hb⟩
  obtain⟨a,c,rfl,_⟩:=hO.open
  rw[hat] at hts
  have:ts.length=0:=by have:=congrArg List.length hts;simpa using this
  exact⟨a,c,by rw[this],hb⟩
 have hhasc:=fun W (hW:Below w.heap.size w W)=>zhas_live (Zw.bel hW) nm na nl nc hnl (hs.below hW (Nat.le_refl _)) hnm
 rw[hhas] at hhasc
 have hclo:=fun W (hW:Below w.heap.size w W)=>lclosest_any (Zw.bel hW) nm na nl nc hnl (hs.below hW (Nat.le_refl _)) hf hnc hnm hin
 have hlow : ∀ W a c m,Below w.heap.size w W->m<=nl->SlS W a (nm.drop (nl - m))->Calls Tryz.prog 48 #[.slice a m c] W fun e w' => ∃ v,e = .returned v/\OwnS w' W.heap.size v (N.lowN (nm.drop (nl - m)))/\Below W.heap.size W w':=fun W a c m hW hm hS=>lower_any (nm.drop (nl - m)) a m c W (hide (by rw[List.length_drop,hnl.out];omega)) hS (hide ⟨by rw[List.length_drop];have:=hnm.out.1;omega,fun l h=>hnm.out.2 l (List.mem_of_mem_drop h)⟩)
 have hstar : ∀ W a c m,Below w.heap.size w W->IsCl L nm m->SlS W a (starN nm m)->Calls Tryz.prog 33 #[.pointer (some ⟨Zb,0,none⟩),.slice a (m+1) c] W fun e w' => ∃ a c,e = .returned (.slice a 0 c)/\Below W.heap.size W w':=fun W a c m hW hm hS=>by
  have hlen:(starN nm m).length=m+1:=by
   unfold starN
   rw[List.length_cons,N.lowN_len,List.length_drop]
   have:=hm.2.1;omega
  have hsm:N.Small (starN nm m):=by
   refine⟨by rw[hlen];have:=hm.2.1;have:=hnl.out;omega,fun l hl=>?_⟩
   unfold starN at hl
   rcases List.mem_cons.1 hl with rfl | hl
   ·simp
   ·unfold N.lowN at hl
    obtain⟨l0,h0,rfl⟩:=List.mem_map.1 hl
    rw[N.lowL_len]
    exact hnm.out.2 l0 (List.mem_of_mem_drop h0)
  refine (ztypes_live (Zw.bel hW) hK (starN nm m) a (m+1) c (hide hlen) hS (hide hsm)).mono ?_
  rintro e w' ⟨v,rfl,ts,hts,hO,hb⟩
  obtain⟨a,c,rfl,_⟩:=hO.open
  rw[hst m hm] at hts
  have:ts.length=0:=by have:=congrArg List.length hts;simpa using this
  exact⟨a,c,by rw[this],hb⟩
 have HROW:=hide hrow
 have HT:=hide htypes
 have HH:=hide hhasc
 have HC:=hide hclo
 have HL:=hide hlow
 have HST:=hide hstar
 have HW:=hide hw
 have RF:Hid (∀ W,Below w.heap.size w W->W.cell? ⟨sb,0,none⟩=some (.pointer (some ⟨Zb,0,none⟩))/\W.cell? ⟨sb,9,none⟩=some (.slice na nl nc)/\W.frozen? ⟨sb,4,none⟩=false/\W.cell? ⟨sb,4,none⟩=some (.int .i64 kd)):=hide fun W hW=>⟨(HROW.out.below hW HROW.out.lt).cell 0,(HROW.out.below hW HROW.out.lt).cell 9,(HROW.out.below hW HROW.out.lt).frozen 4,(HROW.out.below hW HROW.out.lt).cell 4⟩
 obtain⟨z0,z9,f4,c4⟩:=RF.out w (Below.refl _ w)
 have hnlb:nl<=1000000:=by rw[<- hnl.out];exact hnm.out.1
 clear htypes hhasc hclo hlow hstar hrow hs hat hhas hst Z0 Zw hw hin hf
 go_enter Tryz.func73,Tryz.ntmps73
 go_wp2_with (first
  | (go_at_call 33;have hq:=HE4.out;clear hq;refine (HST.out w6 a6 c6 m HB6.out HM.out HS6.out).mono ?_;rintro e w7 ⟨a7,c7,rfl,hB7⟩;have HB7:=hide (HB6.out.trans (hB7.mono HB6.out.size));clear hB7;obtain⟨z0,z9,f4,c4⟩:=RF.out w7 HB7.out)
  | (at_builtin;have hq:=HE3.out;clear hq;(refine wpList_append_SN rfl (.tmp 41) (.tmp 43) rfl w4.heap.size (.slice (some ⟨w4.heap.size,0,none⟩) 1 1) [[42]] rfl HLIT5.out a5 m c5 (N.lowN (nm.drop (nl - m))) rfl HML.out HS5.out HN5.out (by have:=HMB.out;simp;omega) (by have:=HB5z.out;omega) ?_);intro v6 w6 hO6 hG6;have HB6:=hide ((HB4.out.trans ((grown_belowS HLIT5.out hG6 HB45.out HB5z.out).mono HB4.out.size)));have HE4:=hide trivial;obtain⟨a6,c6,hv6,hS6,_,_⟩:=hO6.open;rw[HST1.out] at hv6 hS6;rw[HST2.out] at hv6;subst hv6;have HS6:=hide hS6;clear hO6 hG6 hS6;obtain⟨z0,z9,f4,c4⟩:=RF.out w6 HB6.out)
  | (go_at_call 48;have hq:=HE2.out;clear hq;refine (HL.out _ a4 c4' m HBL.out HMB.out HSL.out).mono ?_;rintro e w5 ⟨v5,rfl,hO5,hB5⟩;obtain⟨a5,c5,hv5,hS5,hn5,_⟩:=hO5.open;rw[HML.out] at hv5;subst hv5;have HS5:=hide hS5;have HN5:=hide hn5;have HLIT5:=hide (HLIT.out.below hB5);have HB45:=hide (HBW.out.trans (hB5.mono (by simp)));have HB5z:=hide (Nat.le_trans (Nat.le_of_lt (by simp)) hB5.size:w4.heap.size<=w5.heap.size);have HE3:=hide trivial;clear hO5 hB5 hS5 hn5)
  | (go_at_call 41;refine (HC.out w3 HB3.out).mono ?_;rintro e w4 ⟨m,v4',v5',rfl,hM,hO4,_,hB4⟩;have HM:=hide hM;have hmb:m<=nl:=by rw[<- hnl.out];exact hM.2.1
     have hlm:(nm.drop (nl - m)).length=m:=by rw[List.length_drop,hnl.out];omega
     obtain⟨a4,c4',hv4,hS4,_⟩:=hO4.open;rw[hlm] at hv4;subst hv4
     have HB4:=hide (HB3.out.trans (hB4.mono HB3.out.size))
     have HBW:Hid (Below w4.heap.size w4 (w4.alloc (.cells #[.string { data := #[42] }] 9))):=hide ((Below.refl _ w4).alloc (Nat.le_refl _) _)
     have HBL:=hide (HB4.out.trans (HBW.out.mono HB4.out.size))
     have HSL:=hide (hS4.below HBW.out (Nat.le_refl _))
     have HLIT:=hide (OwnS.lit w4 [[42]] #[.string { data := #[42] }] w4.heap.size (Nat.le_refl _) rfl (by decide) 1 rfl)
     have HML:Hid ((N.lowN (nm.drop (nl - m))).length=m):=hide (by rw[N.lowN_len];exact hlm)
     have HST1:Hid ([[42]]++N.lowN (nm.drop (nl - m))=starN nm m):=hide (by unfold starN;rw[hnl.out];rfl)
     have HST2:Hid ((starN nm m).length=m+1):=hide (by rw[<- HST1.out,List.length_append,HML.out,List.length_singleton];omega)
     have HMB:=hide hmb
     have HE2:=hide trivial;clear hM hO4 hB4 hS4 hmb hlm)
  | (go_at_call 30;refine (HH.out w2 HB2.out).mono ?_;rintro e w3 ⟨rfl,hB3⟩;have HB3:=hide (HB2.out.trans (hB3.mono HB2.out.size));clear hB3;obtain⟨z0,z9,f4,c4⟩:=RF.out w3 HB3.out)
  | (go_at_call 33;refine HT.out.mono ?_;rintro e w2 ⟨a2,c2,rfl,hB2⟩;have HB2:=hide hB2;clear hB2;obtain⟨z0,z9,f4,c4⟩:=RF.out w2 HB2.out)
  | fail)
 go_ret2
 have hr7:=HROW.out.below HB7.out HROW.out.lt
 refine⟨rfl,hr7.set 4 _,(KA.bel HB7.out).trans (KA.kx (KX.set hr7 4 _) (Or.inr rfl)),?_⟩
 exact (HB7.out.mono HW.out.size).setCell (p:=⟨sb,4,none⟩) hsb0 _
set_option maxRecDepth 5000 in
theorem OwnL.ob2 {α : Type} {et:TypeId} {sz:Nat} {E:World -> α -> List Value->Prop} {w:World} {base:Nat} {v:Value} {L:List α} (_h:OwnL et sz E w base v L) (k:Nat) (hk:some k≠v.ownBlock):some k≠v.ownBlock:=hk
set_option maxRecDepth 100000 in
set_option maxHeartbeats 1500000 in
theorem answer_first {X:Nat->Prop} {w0 w:World} {Zb:Nat} {A:List (List UInt8)} {L:List Z.R} {K:Nat} (Z0:ZLive X w0 Zb A L K) (hK:K<=1000000) (hw:Below w0.heap.size w0 w) (sb:Nat) (hsb0:w0.heap.size<=sb) (va vas v2 v3 v4:Value) (t kd:Int) (nm:List (List UInt8)) (na:Option Addr) (nl nc:Nat) (hnl:Hid (nm.length=nl))
 (hrow:RowAt w sb 122 #[.pointer (some ⟨Zb,0,none⟩),va,.int .u16 t,vas,.int .i64 kd,.slice none 0 0,v2,v3,v4,.slice na nl nc]) (hnt:TyS w na nm) (hnm:Hid (N.Small nm)) (n:List (List UInt8)) (ao:Option Addr) (len cap:Nat) (hl:Hid (n.length=len)) (hs:SlS w ao n) (hm:Hid (N.Small n)) (ts:List UInt16) (ta:Option Addr) (tl tc:Nat) (htl:Hid (ts.length=tl)) (hts:SlH w ta ts) (hb:tl<=70000) :
 Calls Tryz.prog 74 #[.pointer (some ⟨sb,0,none⟩),.slice ao len cap,.slice ta tl tc] w fun e w'=>e = .returned (.tuple #[]) /\ ∃ v',RowAt w' sb 122 #[.pointer (some ⟨Zb,0,none⟩),va,.int .u16 t,vas,.int .i64 0,v',v2,v3,v4,.slice na nl nc]/\OwnL 54 4 ES w' w0.heap.size v' ((setsP L n (ts.map (·.toNat))).map (PSet.as (N.lowN nm)))/\KA w w'/\Below w0.heap.size w w':=by
 obtain⟨wA,hwA⟩ : ∃ wA,wA=w.setCell ⟨sb,4,none⟩ (.int .i64 0):=⟨_,rfl⟩
 have hrowA:RowAt wA sb 122 #[.pointer (some ⟨Zb,0,none⟩),va,.int .u16 t,vas,.int .i64 0,.slice none 0 0,v2,v3,v4,.slice na nl nc]:=by rw[hwA];exact hrow.set 4 _
 have hbA:Below w0.heap.size w wA:=by rw[hwA];exact (Below.refl _ w).setCell (p:=⟨sb,4,none⟩) hsb0 _
 have hkA:KA w wA:=by rw[hwA];exact KA.kx (KX.set hrow 4 _) (Or.inr rfl)
 have hsA:SlS wA ao n:=by rw[hwA];exact hs.put hrow (j:=4) (x := .int .i64 kd) rfl (fun s=>by simp) _
 have htsA:SlH wA ta ts:=by rw[hwA];exact hts.put hrow (j:=4) (x := .int .i64 kd) rfl (fun s=>by simp) _
 have hsets:=sets_any (Z0.bel (hw.trans hbA)) hK sb hrowA.lt (hrowA.cell 0) n ao len cap hl hsA hm ts ta tl tc htl htsA hb
 obtain⟨S,hS⟩ : ∃ S,S=setsP L n (ts.map (·.toNat)):=⟨_,rfl⟩
 rw[<- hS] at hsets ⊢
 have hSl:S.length<=70000:=by
  have h:=setsP_len L n (ts.map (·.toNat))
  rw[<- hS,List.length_map,htl.out] at h
  omega
 have f4:w.frozen? ⟨sb,4,none⟩=false:=hrow.frozen 4
 have c4:w.cell? ⟨sb,4,none⟩=some (.int .i64 kd):=hrow.cell 4
 have HWA:=hide hwA
 have HROWA:=hide hrowA
 have HBA:=hide hbA
 have HKA:=hide hkA
 have HSETS:=hide hsets
 have HW:=hide hw
 have HNT:=hide hnt
 have hwz:w0.heap.size<=wA.heap.size:=Nat.le_trans hw.size hbA.size
 clear hrow hrowA hbA hkA hsA htsA hsets hS hs hts hwA hnt hw Z0
 go_enter Tryz.func74,Tryz.ntmps74
 go_wp2_with (go_at_call 107;go_loud (rw[<- HWA.out];refine HSETS.out.mono ?_;rintro e w1 ⟨v,rfl,hO1,hB1⟩;obtain⟨qa,qc,hv,_,_⟩:=hO1.slice;obtain⟨q,hq⟩ : ∃ q,q=S.length:=⟨_,rfl⟩;rw[<- hq] at hv;subst hv;have HQ:=hide hq;clear hq))
 clear f4 c4
 have HO1:=hide hO1
 have HB1:=hide (HBA.out.trans (hB1.mono hwz))
 have HK1:=hide (HKA.out.trans (KA.bel hB1))
 have HR1:=hide (HROWA.out.below hB1 HROWA.out.lt)
 have HSB:Hid (sb<w1.heap.size):=hide (Nat.lt_of_lt_of_le HROWA.out.lt hB1.size)
 have HB01:Hid (w0.heap.size<=w1.heap.size):=hide (Nat.le_trans hwz hB1.size)
 have hwz2:wA.heap.size<=w1.heap.size:=hB1.size
 clear hO1 hB1
 go_loopw [17] (fun i wr => ∃ (j:Nat) (v':Value),i = .int .i64 (j:Int)/\j<=q/\Below w0.heap.size w wr/\RowAt wr sb 122 #[.pointer (some ⟨Zb,0,none⟩),va,.int .u16 t,vas,.int .i64 0,v',v2,v3,v4,.slice na nl nc]/\OwnL 54 4 ES wr w1.heap.size v' ((S.take j).map (PSet.as (N.lowN nm)))/\KA w1 wr /\ ∀ g,g<w1.heap.size->g≠sb->wr.heap[g]?=w1.heap[g]?) (fun i _=>q - (intOf i).toNat)
 case atStart=>exact⟨0,.slice none 0 0,rfl,by omega,HB1.out,HR1.out,by simpa using OwnL.nil 54 4 ES w1 w1.heap.size,KA.refl _,fun _ _ _=>rfl⟩
 case round =>
  obtain⟨j,v',rfl,hj,hB,hR,hO,hKA,hgS⟩:=hrel
  have HB:=hide hB
  have HR:=hide hR
  have HO:=hide hO
  have HKR:=hide hKA
  have HGR:=hide hgS
  clear hB hR hO hKA hgS
  by_cases hlt:j<q
  ·have hjS:j<S.length:=by rw[<- HQ.out];exact hlt
   obtain⟨x,hx⟩ : ∃ x,S[j]?=some x:=⟨_,List.getElem?_eq_getElem hjS⟩
   obtain⟨gS,rfl,hgb,hgl,⟨cur,hcur⟩,hel⟩:=HO1.out.get (by omega)
   obtain⟨us,hus,hES,hcells⟩:=hel j x hx
   have hgne:gS≠sb:=fun e=>by
    have h1:w1.heap[sb]?=some (Obj.cells _ 122):=HR1.out
    rw[<- e,hcur] at h1;injection h1 with h1;injection h1 with _ h1 _;exact absurd h1 (by decide)
   obtain⟨xa,xc,da,dc,bse,rfl,hxT,hxc,hxO⟩:=hES
   obtain⟨xn,hxn⟩ : ∃ xn,xn=x.n.length:=⟨_,rfl⟩
   obtain⟨dl,hdl⟩ : ∃ dl,dl=x.d.length:=⟨_,rfl⟩
   obtain⟨xt,hxt⟩ : ∃ xt,xt=x.t:=⟨_,rfl⟩
   obtain⟨xl,hxl⟩ : ∃ xl,xl=x.ttl:=⟨_,rfl⟩
   rw[<- hxn, <- hdl, <- hxt, <- hxl] at hcells
   rw[<- hdl] at hxO
   have hcr : ∀ k,k<4->wr.cell? ⟨gS,j*4+k,none⟩ = [Value.slice xa xn xc,.int .u16 (xt:Int),.int .u32 (xl:Int),.slice da dl dc][k]?:=fun k hk=>(World.cell?_of_block (HGR.out gS hgl hgne)).trans (hcells k hk)
   have y0:wr.cell? ⟨gS,j*4,none⟩=some (.slice xa xn xc):=hcr 0 (by omega)
   have y1:wr.cell? ⟨gS,j*4+1,none⟩=some (.int .u16 (xt:Int)):=hcr 1 (by omega)
   have y2:wr.cell? ⟨gS,j*4+2,none⟩=some (.int .u32 (xl:Int)):=hcr 2 (by omega)
   have y3:wr.cell? ⟨gS,j*4+3,none⟩=some (.slice da dl dc):=hcr 3 (by omega)
   obtain⟨gb,hgb2⟩ : ∃ gb,gb=wr.heap.size:=⟨_,rfl⟩
   obtain⟨w2,hw2⟩ : ∃ w2,w2=wr.alloc (.cells #[.slice xa xn xc,.int .u16 (xt:Int),.int .u32 (xl:Int),.slice da dl dc] 54):=⟨_,rfl⟩
   have hb2:Below wr.heap.size wr w2:=by rw[hw2];exact (Below.refl _ wr).alloc (Nat.le_refl _) _
   have h2b:RowAt w2 gb 54 #[.slice xa xn xc,.int .u16 (xt:Int),.int .u32 (xl:Int),.slice da dl dc]:=by rw[hw2,hgb2];exact RowAt.new wr _ _
   have h2s:=HR.out.below hb2 HR.out.lt
   have hntr:TyS wr na nm:=HNT.out.kb (HK1.out.trans HKR.out).kb
   have hlow:=lower_any nm na nl nc w2 hnl (hntr.1.below hb2 (Nat.le_refl _)) hnm
   have HX:=hide hx
   have HLOW:=hide hlow
   have HB2:=hide hb2
   have H2B:=hide h2b
   have H2S:=hide h2s
   have HXO:=hide hxO
   have HW2:=hide hw2
   have HGB:=hide hgb2
   have HDL:=hide hdl
   have HXT:=hide hxt
   have HXL:=hide hxl
   have z9:(wr.alloc (.cells #[.slice xa xn xc,.int .u16 (xt:Int),.int .u32 (xl:Int),.slice da dl dc] 54)).cell? ⟨sb,9,none⟩=some (.slice na nl nc):=by rw[<- hw2];exact h2s.cell 9
   have hjk:(j:Int)<(q:Int):=by omega
   clear hx hlow hb2 h2b h2s hxO hw2 hgb2 hdl hxt hxl hcr hcells hel hxT hxc hcur hntr hxn hus
   go_wp2_with (go_at_call 48;rw[<- HW2.out];refine HLOW.out.mono ?_;rintro e w3 ⟨v3',rfl,hO3,hB3⟩;obtain⟨a3,c3,hv3,hT3,hn3,hc3⟩:=hO3.ty;rw[N.lowN_len,hnl.out] at hv3 hc3;subst hv3;have hrb:=H2B.out.below hB3 H2B.out.lt;rw[HGB.out] at hrb;have k0:=hrb.cell 0;have k1:w3.frozen? ⟨wr.heap.size,0,none⟩=false:=hrb.frozen 0;clear hrb)
   clear k0 k1
   rw[<- HGB.out]
   obtain⟨w4,hw4⟩ : ∃ w4,w4=w3.setCell ⟨gb,0,none⟩ (.slice a3 nl c3):=⟨_,rfl⟩
   rw[<- hw4]
   have hb34:Below wr.heap.size wr w4:=by rw[hw4];exact (HB2.out.trans (hB3.mono HB2.out.size)).setCell (p:=⟨gb,0,none⟩) (Nat.le_of_eq HGB.out.symm) _
   have hsgb:sb≠gb:=by have:=HR.out.lt;have:=HGB.out;omega
   have H4s:Hid (RowAt w4 sb 122 #[.pointer (some ⟨Zb,0,none⟩),va,.int .u16 t,vas,.int .i64 0,v',v2,v3,v4,.slice na nl nc]):=hide (by rw[hw4];exact (H2S.out.below hB3 H2S.out.lt).other ⟨gb,0,none⟩ _ hsgb)
   have H4b:Hid (RowAt w4 gb 54 #[.slice a3 nl c3,.int .u16 (xt:Int),.int .u32 (xl:Int),.slice da dl dc]):=hide (by rw[hw4];exact (H2B.out.below hB3 H2B.out.lt).set 0 _)
   have hk4:KA w1 w4:=HKR.out.trans (KA.bel hb34)
   have HO4:=hide (HO.out.bel (fun _ _ h=>h.bel hb34) hb34)
   have hT4:TyS w4 a3 (N.lowN nm):=by rw[hw4];exact hT3.kb (KB.setCell (H2B.out.below hB3 H2B.out.lt) (by decide) 0 _)
   have HE4:Hid (ES w4 (PSet.as (N.lowN nm) x) [.slice a3 nl c3,.int .u16 (xt:Int),.int .u32 (xl:Int),.slice da dl dc]):=hide (by
    have e:(PSet.as (N.lowN nm) x).n.length=nl:=(N.lowN_len nm).trans hnl.out
    refine⟨a3,c3,da,dc,bse,?_,hT4,by rw[e];exact hc3,?_⟩
    ·rw[e]
     show _ = [Value.slice a3 nl c3,.int .u16 (x.t:Int),.int .u32 (x.ttl:Int),.slice da x.d.length dc]
     rw[<- HXT.out, <- HXL.out, <- HDL.out]
    ·show OwnL 37 1 EB w4 bse (.slice da x.d.length dc) x.d
     rw[<- HDL.out]
     exact HXO.out.kept (fun _ _ h=>h.kb hk4.kb) fun g c fr _ hg=>(hk4.rows g c _ fr hg (by decide) (by decide)).trans hg.symm)
   have HB4:Hid (Below w0.heap.size w w4):=hide (HB.out.trans (hb34.mono (Nat.le_trans HB01.out HKR.out.size)))
   have HK4:=hide hk4
   have HG4:Hid (∀ g,g<w1.heap.size->g≠sb->w4.heap[g]?=w1.heap[g]?):=hide fun g hg hne=>(hb34.block g (Nat.lt_of_lt_of_le hg HKR.out.size)).trans (HGR.out g hg hne)
   have HZ4:Hid (w1.heap.size<=w4.heap.size):=hide hk4.size
   have HV5:Hid (some gb≠v'.ownBlock):=hide (HO.out.ob gb (Nat.le_of_eq HGB.out.symm))
   clear hw4 hb34 hsgb hk4 hT4 hT3 hO3 hB3 hn3 hc3 z9 HR HO HKR HGR HB HB2 H2B H2S HW2 HXO HDL HXT HXL HGB HLOW
   have SAll:Hid (∀ w',RowAt w' sb 122 #[.pointer (some ⟨Zb,0,none⟩),va,.int .u16 t,vas,.int .i64 0,v',v2,v3,v4,.slice na nl nc]->RowAt w' gb 54 #[.slice a3 nl c3,.int .u16 (xt:Int),.int .u32 (xl:Int),.slice da dl dc]->w'.cell? ⟨sb,5,none⟩=some v'/\w'.cell? ⟨gb,0,none⟩=some (.slice a3 nl c3)/\w'.cell? ⟨gb,1,none⟩=some (.int .u16 (xt:Int))/\w'.cell? ⟨gb,2,none⟩=some (.int .u32 (xl:Int))/\w'.cell? ⟨gb,3,none⟩=some (.slice da dl dc)):=hide fun W h1 h2=>⟨h1.cell 5,h2.cell 0,h2.cell 1,h2.cell 2,h2.cell 3⟩
   have bd:Below w4.heap.size w4 w4.drew:=(Below.refl _ w4).drew
   have H5s:=hide (H4s.out.below bd H4s.out.lt)
   have H5b:=hide (H4b.out.below bd H4b.out.lt)
   have HO5:=hide (HO4.out.bel (fun _ _ h=>h.bel bd) bd)
   have HE5:=hide (HE4.out.bel bd)
   have HB5:=hide (HB4.out.trans (bd.mono (Nat.le_trans HB01.out HZ4.out)))
   have HK5:=hide (HK4.out.trans (KA.bel bd))
   have HG5:Hid (∀ g,g<w1.heap.size->g≠sb->w4.drew.heap[g]?=w1.heap[g]?):=hide fun g hg hne=>(bd.block g (Nat.lt_of_lt_of_le hg HZ4.out)).trans (HG4.out g hg hne)
   have HZ5:Hid (w1.heap.size<=w4.drew.heap.size):=hide (Nat.le_trans HZ4.out bd.size)
   have HB5z:Hid (w0.heap.size<=w4.drew.heap.size):=hide (Nat.le_trans HB01.out HZ5.out)
   have SA:=hide (SAll.out _ H5s.out H5b.out)
   refine wp_region_X (S:=fun w'=>w'.cell? ⟨sb,5,none⟩=some v'/\w'.cell? ⟨gb,0,none⟩=some (.slice a3 nl c3)/\w'.cell? ⟨gb,1,none⟩=some (.int .u16 (xt:Int))/\w'.cell? ⟨gb,2,none⟩=some (.int .u32 (xl:Int))/\w'.cell? ⟨gb,3,none⟩=some (.slice da dl dc)) (jS:=12) (by kernel_rfl) ?_
   clear bd H4s H4b HO4 HE4 HB4 HK4 HG4 HZ4
   generalize w4.drew=w5 at H5s H5b HO5 HE5 HB5 HK5 HG5 HZ5 HB5z SA ⊢
   refine tk gt0 SA.out ?_
   refine tk gt1 SA.out ?_
   refine tk gt2 SA.out ?_
   refine tk gt3 SA.out ?_
   refine tk gt4 SA.out ?_
   refine tk gt5 SA.out ?_
   refine tk gt6 SA.out ?_
   refine rdy gt7 (fun K hKK=>?_)
   go_simp
   have HB6:=hide ((Below.refl _ w5).alloc (Nat.le_refl _) (.cells #[.slice a3 nl c3,.int .u16 (xt:Int),.int .u32 (xl:Int),.slice da dl dc] 54))
   have hone:=RowAt.new w5 54 #[.slice a3 nl c3,.int .u16 (xt:Int),.int .u32 (xl:Int),.slice da dl dc]
   have SB:=hide (SAll.out _ (H5s.out.alloc (.cells #[.slice a3 nl c3,.int .u16 (xt:Int),.int .u32 (xl:Int),.slice da dl dc] 54)) (H5b.out.alloc (.cells #[.slice a3 nl c3,.int .u16 (xt:Int),.int .u32 (xl:Int),.slice da dl dc] 54)))
   have HONE:=hide hone
   refine kk hKK (Or.inr SB.out) ?_
   clear hKK SA hone
   refine rdy gt8 (fun K hKK=>?_)
   refine step_appX rfl (.tmp 33) (.tmp 35) 68 rfl Tryz.underlying68 _ 56 (info_parts infoAs) rfl (by decide) (by decide) w1.heap.size v' ((S.take j).map (PSet.as (N.lowN nm))) (by rfl) (HO5.out.bel (fun _ _ h=>h.bel HB6.out) HB6.out) ⟨w5.heap.size,0,none⟩ 1 (PSet.as (N.lowN nm) x) [.slice a3 nl c3,.int .u16 (xt:Int),.int .u32 (xl:Int),.slice da dl dc] (by rfl) (by exact one_cell _ _ #[.slice a3 nl c3,.int .u16 (xt:Int),.int .u32 (xl:Int),.slice da dl dc] 54 HONE.out) rfl (by simp[Value.oneCell']) (HE5.out.bel HB6.out) (fun _ _ _ k h=>h.kx (by decide) (by decide) k) (by rw[List.length_map,List.length_take];omega) (by exact Nat.le_trans HZ5.out (HB6.out.size)) ?_
   intro v7 w7 hO7 hK7 hB7 hG7
   obtain⟨a7,c7,hv7,_,_⟩:=hO7.slice
   obtain⟨q7,hq7⟩ : ∃ q7,v7 = .slice a7 q7 c7:=⟨_,hv7⟩
   subst hq7
   clear hv7
   have H6s:=H5s.out.alloc (.cells #[.slice a3 nl c3,.int .u16 (xt:Int),.int .u32 (xl:Int),.slice da dl dc] 54)
   have H6b:=H5b.out.alloc (.cells #[.slice a3 nl c3,.int .u16 (xt:Int),.int .u32 (xl:Int),.slice da dl dc] 54)
   have H7s:=hide (hK7.row H6s (by decide))
   have h7b:RowAt w7 gb 54 #[.slice a3 nl c3,.int .u16 (xt:Int),.int .u32 (xl:Int),.slice da dl dc]:=(hG7.block gb H6b.lt (HO5.out.ob2 gb HV5.out)).trans H6b
   have SC:=hide (SAll.out _ H7s.out h7b)
   have HB67:=hide hB7
   have HK67:=hide hK7
   have HO7:=hide hO7
   have p5:w7.cell? ⟨sb,5,none⟩=some v':=H7s.out.cell 5
   have f5:w7.frozen? ⟨sb,5,none⟩=false:=H7s.out.frozen 5
   refine kk hKK (Or.inr SC.out) ?_
   clear hKK SB H6s H6b h7b hB7 hK7 hO7 hG7
   refine rdy gt9 (fun K hKK=>?_)
   go_simp
   refine kk hKK (Or.inr SC.out) ?_
   clear hKK
   refine rdy gt10 (fun K hKK=>?_)
   go_simp
   refine kk hKK (Or.inr SC.out) ?_
   clear hKK
   refine tk gt11 SC.out ?_
   refine rdy gt12 (fun K hKK=>?_)
   go_simp
   refine kk hKK (Or.inl rfl) ?_
   clear hKK
   refine wpAnyX_done (by kernel_rfl) ?_ _
   clear p5 f5
   have h8s:RowAt (w7.setCell ⟨sb,5,none⟩ (.slice a7 q7 c7)) sb 122 #[.pointer (some ⟨Zb,0,none⟩),va,.int .u16 t,vas,.int .i64 0,.slice a7 q7 c7,v2,v3,v4,.slice na nl nc]:=H7s.out.set 5 (.slice a7 q7 c7)
   have hkx:=KX.set H7s.out 5 (.slice a7 q7 c7)
   have hk57:KA w5 w7:=(KA.bel HB6.out).trans (KA.kx HK67.out (Or.inl rfl))
   have hk58:=hk57.trans (KA.kx hkx (Or.inr rfl))
   have ho8:=HO7.out.kx hkx (fun _ _ h=>h.kx (by decide) (by decide) hkx) (by decide)
   have hb8:Below w0.heap.size w (w7.setCell ⟨sb,5,none⟩ (.slice a7 q7 c7)):=((HB5.out.trans (HB6.out.mono HB5z.out)).trans (HB67.out.mono HB01.out)).setCell (p:=⟨sb,5,none⟩) hsb0 _
   have hg8 : ∀ g,g<w1.heap.size->g≠sb->(w7.setCell ⟨sb,5,none⟩ (.slice a7 q7 c7)).heap[g]?=w1.heap[g]?:=fun g hg hne=>(heap_setCell_other _ _ _ _ hne).trans ((HB67.out.block g hg).trans ((HB6.out.block g (Nat.lt_of_lt_of_le hg HZ5.out)).trans (HG5.out g hg hne)))
   have H8S:=hide h8s
   have HK8:=hide hk58
   have HO8:=hide ho8
   have HB8:=hide hb8
   have HG8:=hide hg8
   clear h8s hkx hk57 hk58 ho8 hb8 hg8 HO7 HB67 HK67
   go_wp2
   go_roundw
   case rel =>
    refine⟨j+1,.slice a7 q7 c7,by go_num,by omega,HB8.out,H8S.out,?_,HK5.out.trans HK8.out,HG8.out⟩
    rw[List.take_add_one,HX.out,List.map_append]
    exact HO8.out
   case measure=>simp[intOf];omega
  ·obtain rfl:j=q:=by omega
   have e:S.take j=S:=List.take_of_length_le (by rw[<- HQ.out];exact Nat.le_refl _)
   rw[e] at HO
   go_wp2
   exact bodyPost_end (v := .tuple #[]) (by simp[results,Tryz.results74]) rfl ⟨rfl,v',HR.out,HO.out.low HB01.out,HK1.out.trans HKR.out,HB.out⟩
end Go.Proofs.YtmbcegljmhcdeaaGreat
namespace Go.Proofs.YtmbcegljmhcdeaaGreat
set_option maxRecDepth 5000
open Go.RowKit
theorem hindex_any (ts:List UInt16) (ta:Option Addr) (tl tc:Nat) (x:Nat) (w:World) (htl:Hid (ts.length=tl)) (hs:SlH w ta ts) (hb:tl<=1000000) :
 Calls Tryz.prog 109 #[.slice ta tl tc,.int .u16 (x:Int)] w fun e w' => ∃ i:Int,e = .returned (.int .i64 i)/\(0<=i↔x∈ts.map (·.toNat))/\w'=w:=by
 have HS:=hide hs
 clear hs
 go_enter Tryz.func109,Tryz.ntmps109
 go_wp2
 go_loopw [8] (fun i wr => ∃ j:Nat,i = .int .i64 (j:Int)/\j<=tl/\Hid (∀ k,k<j->(ts.getD k 0).toNat≠x)/\wr=w) (fun i _=>tl - (intOf i).toNat)
 case atStart=>exact⟨0,rfl,by omega,hide fun k hk=>absurd hk (Nat.not_lt_zero k),rfl⟩
 case round =>
  obtain⟨j,rfl,hj,HN,rfl⟩:=hrel
  by_cases hlt:j<tl
  ·obtain⟨b,o,rfl,_,hc⟩:=HS.out (by have:=htl.out;omega)
   obtain⟨t,ht⟩ : ∃ t,t=(ts.getD j 0).toNat:=⟨_,rfl⟩
   have y1:wr.cell? ⟨b,o+j,none⟩=some (.int .u16 (t:Int)):=by rw[ht];exact hc j (by have:=htl.out;omega)
   have hjk:(j:Int)<(tl:Int):=by omega
   have HT:=hide ht
   clear hc ht
   by_cases he:x=t
   ·have heb:((x:Int) == (t:Int))=true:=by simp[he]
    have HE:=hide he
    clear he
    go_wp2
    go_ret
    refine⟨(j:Int),rfl,⟨fun _=>?_,fun _=>by omega⟩,rfl⟩
    rw[HE.out,HT.out]
    have hjt:j<ts.length:=by have:=htl.out;omega
    rw[List.getD_eq_getElem?_getD,List.getElem?_eq_getElem hjt]
    exact List.mem_map.2 ⟨ts[j],List.getElem_mem hjt,rfl⟩
   ·have heb:((x:Int) == (t:Int))=false:=by simp;omega
    have HE:=hide he
    clear he
    go_wp2
    go_roundw
    case rel =>
     refine⟨j+1,by go_num,by omega,hide fun k hk=>?_,trivial⟩
     by_cases e:k=j
     ·rw[e, <- HT.out];exact fun h=>HE.out h.symm
     ·exact HN.out k (by omega)
    case measure=>simp[intOf];omega
  ·obtain rfl:j=tl:=by omega
   go_wp2
   go_ret
   refine⟨-1,rfl,⟨fun h=>absurd h (by omega),fun h=>?_⟩,rfl⟩
   obtain⟨y,hy,e⟩:=List.mem_map.1 h
   obtain⟨k,hk,e2⟩:=List.getElem_of_mem hy
   refine absurd ?_ (HN.out k (by have:=htl.out;omega))
   rw[List.getD_eq_getElem?_getD,List.getElem?_eq_getElem hk]
   show ts[k].toNat=x
   rw[e2];exact e
theorem hcontains_any (ts:List UInt16) (ta:Option Addr) (tl tc:Nat) (x:Nat) (w:World) (htl:Hid (ts.length=tl)) (hs:SlH w ta ts) (hb:tl<=1000000) :
 Calls Tryz.prog 75 #[.slice ta tl tc,.int .u16 (x:Int)] w fun e w'=>e = .returned (.bool (decide (x∈ts.map (·.toNat))))/\w'=w:=by
 have hi:=hindex_any ts ta tl tc x w htl hs hb
 obtain⟨P,hP⟩ : ∃ P:Prop,P=(x∈ts.map (·.toNat)):=⟨_,rfl⟩
 obtain⟨V,hV⟩ : ∃ V,V=decide (x∈ts.map (·.toNat)):=⟨_,rfl⟩
 have hVP:V=true↔P:=by rw[hV,hP];exact decide_eq_true_iff
 rw[<- hP] at hi
 rw[<- hV]
 have HI:=hide hi
 have HVP:=hide hVP
 clear hi hP hV hVP hs
 cases V with
 | true =>
  go_enter Tryz.func75,Tryz.ntmps75
  go_wp2_with (go_at_call 109;refine HI.out.mono ?_;rintro e w2 ⟨i,rfl,hi,rfl⟩;have h0:(0:Int)<=i:=hi.2 (HVP.out.1 rfl);clear hi)
  go_ret
  exact⟨rfl,rfl⟩
 | false =>
  go_enter Tryz.func75,Tryz.ntmps75
  go_wp2_with (go_at_call 109;refine HI.out.mono ?_;rintro e w2 ⟨i,rfl,hi,rfl⟩;have h0 : ¬ ((0:Int)<=i):=(fun h=>by have:=HVP.out.2 (hi.1 h);cases this);clear hi)
  go_ret
  refine⟨?_,rfl⟩
  show Ending.returned (.bool (decide ((0:Int)<=i)))=_
  rw[decide_eq_false (by omega)]
set_option maxRecDepth 20000 in
theorem deny_skip {w:World} (sb:Nat) (va vt v0 v1 v v2 v3 v4 v5:Value) (kd:Int) (hk3:kd≠3) (hk4:kd≠4) (hrow:RowAt w sb 122 #[v0,va,vt,v1,.int .i64 kd,v,v2,v3,v4,v5]) :
 Calls Tryz.prog 77 #[.pointer (some ⟨sb,0,none⟩)] w fun e w'=>e = .returned (.tuple #[])/\w'=w:=by
 have c4:w.cell? ⟨sb,4,none⟩=some (.int .i64 kd):=hrow.cell 4
 have h3:(kd == 3)=false:=by simpa using hk3
 have h4:(kd == 4)=false:=by simpa using hk4
 clear hrow
 go_enter Tryz.func77,Tryz.ntmps77
 go_wp2
 exact bodyPost_end (v := .tuple #[]) (by simp[results,Tryz.results77]) rfl ⟨rfl,rfl⟩
set_option maxRecDepth 20000 in
set_option maxHeartbeats 1000000 in
theorem deny_soa {X:Nat->Prop} {w0 w:World} {Zb:Nat} {A:List (List UInt8)} {L:List Z.R} {K:Nat} (Z0:ZLive X w0 Zb A L K) (hK:K<=1000000) (hw:Below w0.heap.size w0 w) (sb:Nat) (hsb0:w0.heap.size<=sb) (ap:List (List UInt8)) (aa:Option Addr) (al ac:Nat) (vt v1 v v2 v3 v4 v5:Value) (kd:Int) (hkd:kd=3\/kd=4) (hal:Hid (ap.length=al)) (hrow:RowAt w sb 122 #[.pointer (some ⟨Zb,0,none⟩),.slice aa al ac,vt,v1,.int .i64 kd,v,v2,v3,v4,v5]) (hs:SlS w aa ap) (hm:Hid (N.Small ap)) :
 Calls Tryz.prog 77 #[.pointer (some ⟨sb,0,none⟩)] w fun e w'=>e = .returned (.tuple #[]) /\ ∃ v',RowAt w' sb 122 #[.pointer (some ⟨Zb,0,none⟩),.slice aa al ac,vt,v1,.int .i64 kd,v,v',v3,v4,v5]/\OwnL 54 4 ES w' w0.heap.size v' (setsP L ap [6])/\KA w w'/\Below w0.heap.size w w':=by
 have c4:w.cell? ⟨sb,4,none⟩=some (.int .i64 kd):=hrow.cell 4
 obtain⟨wA,hwA⟩ : ∃ wA,wA=w.alloc (.cells #[.int .u16 6] 36):=⟨_,rfl⟩
 have hbA:Below w.heap.size w wA:=by rw[hwA];exact (Below.refl _ w).alloc (Nat.le_refl _) _
 have hrowA:=hrow.below hbA hrow.lt
 have hlit:SlH wA (some ⟨w.heap.size,0,none⟩) [6]:=by rw[hwA];exact SlH.oneI w 6 6 36 rfl
 have hsets:=sets_any (Z0.bel (hw.trans (hbA.mono hw.size))) hK sb hrowA.lt (hrowA.cell 0) ap aa al ac hal (hs.below hbA (Nat.le_refl _)) hm [6] (some ⟨w.heap.size,0,none⟩) 1 1 (hide rfl) hlit (by omega)
 have c1:w.cell? ⟨sb,1,none⟩=some (.slice aa al ac):=hrow.cell 1
 have HSETS:=hide hsets
 have HWA:=hide hwA
 have HBA:=hide hbA
 have HRA:=hide hrowA
 have HW:=hide hw
 clear hsets hwA hbA hrowA hrow hlit hs Z0 hw
 have fin : ∀ w2 a q c,OwnL 54 4 ES w2 wA.heap.size (.slice a q c) (setsP L ap [6])->Below wA.heap.size wA w2->(RowAt (w2.setCell ⟨sb,6,none⟩ (.slice a q c)) sb 122 #[.pointer (some ⟨Zb,0,none⟩),.slice aa al ac,vt,v1,.int .i64 kd,v,.slice a q c,v3,v4,v5]/\OwnL 54 4 ES (w2.setCell ⟨sb,6,none⟩ (.slice a q c)) w0.heap.size (.slice a q c) (setsP L ap [6])/\KA w (w2.setCell ⟨sb,6,none⟩ (.slice a q c))/\Below w0.heap.size w (w2.setCell ⟨sb,6,none⟩ (.slice a q c))):=fun w2 a q c hO hB=>by
  have h1:=HRA.out.below hB HRA.out.lt
  have hkx:=KX.set h1 6 (.slice a q c)
  refine⟨h1.set 6 _,(hO.kx hkx (fun _ _ h=>h.kx (by decide) (by decide) hkx) (by decide)).low (Nat.le_trans HW.out.size HBA.out.size),((KA.bel HBA.out).trans (KA.bel hB)).trans (KA.kx hkx (Or.inr rfl)),?_⟩
  exact ((HBA.out.mono HW.out.size).trans (hB.mono (Nat.le_trans HW.out.size HBA.out.size))).setCell (p:=⟨sb,6,none⟩) hsb0 _
 have FIN:=hide fin
 clear fin
 rcases hkd with rfl | rfl
 all_goals
  go_enter Tryz.func77,Tryz.ntmps77
  go_wp2_with (go_at_call 107;rw[<- HWA.out];refine HSETS.out.mono ?_;rintro e w2 ⟨v',rfl,hO,hB⟩;obtain⟨a2,c2,hv,_,_⟩:=hO.slice;obtain⟨q,hq⟩ : ∃ q,v' = .slice a2 q c2:=⟨_,hv⟩;subst hq;clear hv;have h2:=HRA.out.below hB HRA.out.lt;have k6:w2.cell? ⟨sb,6,none⟩=some v2:=h2.cell 6;have f6:w2.frozen? ⟨sb,6,none⟩=false:=h2.frozen 6;have HF:=hide (FIN.out w2 a2 q c2 hO hB);clear h2 hO hB)
  exact bodyPost_end (v := .tuple #[]) (by simp[results,Tryz.results77]) rfl ⟨rfl,.slice a2 q c2,HF.out⟩
open Go.RowKit
theorem infoFd:(Tryz.prog.info? 70).map (·.size)=some 6:=by kernel_rfl
theorem results_fd {fn:Func} {p:Tmp} (h:fn.results = #[.cell p 70]) (tmps:Array Value) (w:World) (g:Nat) (cs:Array Value) (hs:cs.size=6) (hp:tmps.getD p undef = .pointer (some ⟨g,0,none⟩)) (hg:RowAt w g 70 cs) :
 (results fn tmps).run Tryz.prog w = .ok (.agg cs) w :=
 results_cell_row h tmps w g 70 cs (0,0) _ hp hg Tryz.underlying70 rfl (by rw[hs];exact infoFd)
theorem Z.dd1_len (acc:List Nat) (x:Nat):(Z.dd1 acc x).length<=acc.length+1:=by
 unfold Z.dd1;split <;> simp
theorem Z.dd1s_len : ∀ (l acc:List Nat),(l.foldl Z.dd1 acc).length<=acc.length+l.length
 | [],acc=>by simp
 | x::l,acc=>by
  have h1:=Z.dd1_len acc x
  have h2:=Z.dd1s_len l (Z.dd1 acc x)
  rw[List.foldl_cons,List.length_cons];omega
theorem Z.typesAt_len (L:List Z.R) (p:List (List UInt8)):(Z.typesAt L p).length<=L.length:=by
 unfold Z.typesAt
 have h1:=Z.dd1s_len ((L.filter (fun x=>decide (x.p=p))).map (·.t)) []
 have h2:=List.length_filter_le (fun x:Z.R=>decide (x.p=p)) L
 rw[List.length_map] at h1
 simp at h1 ⊢
 omega
structure FSt (w w1:World) (sb:Nat) (row:Array Value) (na:Option Addr) (n:List (List UInt8)) (W:World):Prop where
 bel:Below w.heap.size w W
 row:RowAt W sb 122 row
 ka:KA w1 W
 ty:TyS W na n
theorem FSt.step {w w1:World} {sb:Nat} {row:Array Value} {na:Option Addr} {n:List (List UInt8)} {W W':World} (h:FSt w w1 sb row na n W) (hb:Below W.heap.size W W'):FSt w w1 sb row na n W' :=
 ⟨h.bel.trans (hb.mono h.bel.size),h.row.below hb h.row.lt,h.ka.trans (KA.bel hb),h.ty.kb (KB.of_below hb)⟩
theorem fd_facts {W:World} {g:Nat} {c0 c1 c2 c3 c4 c5:Value} (h:RowAt W g 70 #[c0,c1,c2,c3,c4,c5]):W.cell? ⟨g,0,none⟩=some c0/\W.cell? ⟨g,1,none⟩=some c1/\W.cell? ⟨g,2,none⟩=some c2/\W.cell? ⟨g,3,none⟩=some c3/\W.cell? ⟨g,4,none⟩=some c4/\W.cell? ⟨g,5,none⟩=some c5/\W.frozen? ⟨g,0,none⟩=false/\W.frozen? ⟨g,1,none⟩=false/\W.frozen? ⟨g,2,none⟩=false/\W.frozen? ⟨g,3,none⟩=false/\W.frozen? ⟨g,4,none⟩=false/\W.frozen? ⟨g,5,none⟩=false :=
 ⟨h.cell 0,h.cell 1,h.cell 2,h.cell 3,h.cell 4,h.cell 5,h.frozen 0,h.frozen 1,h.frozen 2,h.frozen 3,h.frozen 4,h.frozen 5⟩
theorem se_facts {W:World} {g:Nat} {s0 s1 s2 s3 c0 c1 c2 c3 c4 c5:Value} (h:RowAt W g 122 #[s0,s1,s2,s3,c0,c1,c2,c3,c4,c5]):W.cell? ⟨g,4,none⟩=some c0/\W.cell? ⟨g,5,none⟩=some c1/\W.cell? ⟨g,6,none⟩=some c2/\W.cell? ⟨g,7,none⟩=some c3/\W.cell? ⟨g,8,none⟩=some c4/\W.cell? ⟨g,9,none⟩=some c5 :=
 ⟨h.cell 4,h.cell 5,h.cell 6,h.cell 7,h.cell 8,h.cell 9⟩
def fdSet (W:World) (g:Nat) (d0 d1 d2 d3 d4 d5:Value):World:=(((((W.setCell ⟨g,0,none⟩ d0).setCell ⟨g,1,none⟩ d1).setCell ⟨g,2,none⟩ d2).setCell ⟨g,3,none⟩ d3).setCell ⟨g,4,none⟩ d4).setCell ⟨g,5,none⟩ d5
theorem fdSet_row {W:World} {g:Nat} {c0 c1 c2 c3 c4 c5:Value} (h:RowAt W g 70 #[c0,c1,c2,c3,c4,c5]) (d0 d1 d2 d3 d4 d5:Value):RowAt (fdSet W g d0 d1 d2 d3 d4 d5) g 70 #[d0,d1,d2,d3,d4,d5]/\KX 70 W (fdSet W g d0 d1 d2 d3 d4 d5) /\ ∀ B,B<=g -> ∀ w,Below B w W->Below B w (fdSet W g d0 d1 d2 d3 d4 d5):=by
 have r1:=h.set 0 d0
 have r2:=r1.set 1 d1
 have r3:=r2.set 2 d2
 have r4:=r3.set 3 d3
 have r5:=r4.set 4 d4
 have r6:=r5.set 5 d5
 refine⟨r6,((((((KX.set h 0 d0).trans (KX.set r1 1 d1)).trans (KX.set r2 2 d2)).trans (KX.set r3 3 d3)).trans (KX.set r4 4 d4)).trans (KX.set r5 5 d5)),fun B hB w hw=>?_⟩
 exact (((((hw.setCell (p:=⟨g,0,none⟩) hB _).setCell (p:=⟨g,1,none⟩) hB _).setCell (p:=⟨g,2,none⟩) hB _).setCell (p:=⟨g,3,none⟩) hB _).setCell (p:=⟨g,4,none⟩) hB _).setCell (p:=⟨g,5,none⟩) hB _
set_option maxRecDepth 20000 in
set_option maxHeartbeats 2000000 in
theorem find_answer {X:Nat->Prop} {w:World} {Zb:Nat} {L:List Z.R} {K:Nat} (Z0:ZLive X w Zb Z.exA L K) (hK:K<=1000000) (n:List (List UInt8)) (ao:Option Addr) (len cap:Nat) (hl:Hid (n.length=len)) (hs:SlS w ao n) (hcap:len<=cap) (hm:Hid (N.Small n)) (hin:N.within n Z.exA=true) (t:Nat) (ht:t<65536) (ht2:t≠255) (hno : ∀ d,d<=n.length -> ¬ cutL Z.exA L (path n) d) (hat:t∈Z.typesAt L (path n)) :
 Calls Tryz.prog 39 #[.pointer (some ⟨Zb,0,none⟩),.slice ao len cap,.int .u16 (t:Int)] w fun e w' => ∃ v' na nc,e = .returned (.agg #[.int .i64 0,v',.slice none 0 0,.slice none 0 0,.slice none 0 0,.slice na len nc])/\OwnL 54 4 ES w' w.heap.size v' ((setsP L n [t]).map (PSet.as (N.lowN n)))/\SlS w' na n/\Below w.heap.size w w':=by
 have hf:Flat ao:=hs.flat (by have:=(within_chk n hin).1;omega)
 have hlen:len<=1000000:=by rw[<- hl.out];exact hm.out.1
 have h1len:1<=len:=by rw[<- hl.out];exact (within_chk n hin).1
 have hap : ∀ W,Below w.heap.size w W->Calls Tryz.prog 70 #[.pointer (some ⟨Zb,0,none⟩),.slice ao len cap] W fun e w' => ∃ a c,e = .returned (.tuple #[.slice a 1 c,.bool true])/\Below W.heap.size W w':=fun W hW=>by
  refine (lapex_any (Z0.bel hW) n ao len cap hl (hs.below hW (Nat.le_refl _)) hf hcap hm).mono ?_
  rintro e w' ⟨v,rfl,hO,hB⟩
  rw[if_pos hin] at hO
  obtain⟨a,c,rfl,_⟩:=hO.open
  refine⟨a,c,?_,hB⟩
  rw[hin,List.length_drop,hl.out,show len - (len - 1)=1 by omega]
 have hcl : ∀ W,Below w.heap.size w W->Calls Tryz.prog 56 #[.slice ao len cap] W fun e w' => ∃ a c,e = .returned (.slice a len c)/\TyS w' a n/\len<=c/\Below W.heap.size W w':=fun W hW=>by
  refine (nclone_all W ao len cap n hl.out hlen hf (hs.below hW (Nat.le_refl _))).mono ?_
  rintro e w' ⟨v,rfl,hO,hB⟩
  obtain⟨a,c,rfl,hT,_,hc⟩:=hO.ty
  rw[hl.out] at hc ⊢
  exact⟨a,c,rfl,hT,hc,hB⟩
 have hne:Z.typesAt L (path n) ≠ []:=fun h=>by rw[h] at hat;cases hat
 have HAP:=hide hap
 have HCL:=hide hcl
 have HZ:=hide Z0
 have HNO:=hide hno
 have HAT:=hide hat
 have HNE:=hide hne
 have htb:((t:Int) == 255)=false:=by simp;omega
 clear hap hcl Z0 hno hat hne hs hf
 obtain⟨w1,hw1⟩ : ∃ w1,w1=w.alloc (.cells #[.int .i64 0,.slice none 0 0,.slice none 0 0,.slice none 0 0,.slice none 0 0,.slice none 0 0] 70):=⟨_,rfl⟩
 have hb1:Below w.heap.size w w1:=by rw[hw1];exact (Below.refl _ w).alloc (Nat.le_refl _) _
 have hr1:RowAt w1 w.heap.size 70 #[.int .i64 0,.slice none 0 0,.slice none 0 0,.slice none 0 0,.slice none 0 0,.slice none 0 0]:=by rw[hw1];exact RowAt.new w _ _
 have HW1:=hide hw1
 have HB1:=hide hb1
 have HR1:=hide hr1
 clear hw1 hb1 hr1
 have HFD:Hid (∀ W,KA w1 W->RowAt W w.heap.size 70 #[.int .i64 0,.slice none 0 0,.slice none 0 0,.slice none 0 0,.slice none 0 0,.slice none 0 0]):=hide fun W hW=>hW.rows _ _ _ _ HR1.out (by decide) (by decide)
 have HTY:Hid (∀ W na nc,Below w.heap.size w W->SlS W na n->Calls Tryz.prog 33 #[.pointer (some ⟨Zb,0,none⟩),.slice na len nc] W fun e w' => ∃ a tl c,e = .returned (.slice a tl c)/\Calls Tryz.prog 75 #[.slice a tl c,.int .u16 (t:Int)] w' (fun e w''=>e = .returned (.bool true)/\w''=w')/\Below W.heap.size W w'):=hide fun W na nc hW hS=>by
  refine (ztypes_live (HZ.out.bel hW) hK n na len nc hl hS hm).mono ?_
  rintro e w' ⟨v,rfl,ts,hts,hO,hb⟩
  obtain⟨a,c,rfl,hS7,_⟩:=hO.open
  have hln:ts.length<=1000000:=by
   have h1:=congrArg List.length hts
   rw[List.length_map] at h1
   have h2:=Z.typesAt_len L (path n)
   have h3:=HZ.out.num
   omega
  have hc:=hcontains_any ts a ts.length c t w' (hide rfl) hS7 hln
  rw[hts,decide_eq_true HAT.out] at hc
  exact⟨a,_,c,rfl,hc,hb⟩
 go_enter Tryz.func39,Tryz.ntmps39
 go_wp2
 go_step3
 rw[<- HW1.out]
 go_wp2_with (first
  | (go_at_call 56;go_loud (refine (HCL.out w2 HB2.out).mono ?_;rintro e w3 ⟨na,nc,rfl,hT3,hc3,hB3⟩;have HB3:=hide (HB2.out.trans (hB3.mono HB2.out.size));have HT3:=hide hT3;have HK3:=hide ((KA.bel hB2k).trans (KA.bel hB3));clear hT3 hB3 hB2k))
  | (go_at_call 70;go_loud (refine (HAP.out _ HB1.out).mono ?_;rintro e w2 ⟨a2,c2,rfl,hB2⟩;have hB2k:=hB2;have HB2:=hide (HB1.out.trans (hB2.mono HB1.out.size));clear hB2))
  | fail)
 go_step3
 go_wp2
 obtain⟨w4,hw4⟩ : ∃ w4,w4=w3.alloc (.cells #[.pointer (some ⟨Zb,0,none⟩),.slice a2 1 c2,.int .u16 (t:Int),.slice none 0 0,.int .i64 0,.slice none 0 0,.slice none 0 0,.slice none 0 0,.slice none 0 0,.slice na len nc] 122):=⟨_,rfl⟩
 rw[<- hw4]
 obtain⟨sb,hsb⟩ : ∃ sb,sb=w3.heap.size:=⟨_,rfl⟩
 rw[<- hsb]
 have hb4:Below w3.heap.size w3 w4:=by rw[hw4];exact (Below.refl _ w3).alloc (Nat.le_refl _) _
 have hsb0:w.heap.size<=sb:=by rw[hsb];exact HB3.out.size
 have HR4:Hid (RowAt w4 sb 122 #[.pointer (some ⟨Zb,0,none⟩),.slice a2 1 c2,.int .u16 (t:Int),.slice none 0 0,.int .i64 0,.slice none 0 0,.slice none 0 0,.slice none 0 0,.slice none 0 0,.slice na len nc]):=hide (by rw[hw4,hsb];exact RowAt.new w3 _ _)
 have HB4:=hide (HB3.out.trans (hb4.mono HB3.out.size))
 have HK4:=hide (HK3.out.trans (KA.bel hb4))
 have HT4:=hide (HT3.out.kb (KB.of_below hb4))
 clear hw4 hsb hb4 HB3 HK3 HT3 HB2
 have hu16:(UInt16.ofNat t).toNat=t:=by rw[UInt16.toNat_ofNat'];omega
 have HAN:Hid (∀ W,Below w.heap.size w W->RowAt W sb 122 #[.pointer (some ⟨Zb,0,none⟩),.slice a2 1 c2,.int .u16 (t:Int),.slice none 0 0,.int .i64 0,.slice none 0 0,.slice none 0 0,.slice none 0 0,.slice none 0 0,.slice na len nc]->TyS W na n->Calls Tryz.prog 74 #[.pointer (some ⟨sb,0,none⟩),.slice na len nc,.slice (some ⟨W.heap.size,0,none⟩) 1 1] (W.alloc (.cells #[.int .u16 (t:Int)] 36)) fun e w'=>e = .returned (.tuple #[]) /\ ∃ v',RowAt w' sb 122 #[.pointer (some ⟨Zb,0,none⟩),.slice a2 1 c2,.int .u16 (t:Int),.slice none 0 0,.int .i64 0,v',.slice none 0 0,.slice none 0 0,.slice none 0 0,.slice na len nc]/\OwnL 54 4 ES w' w.heap.size v' ((setsP L n [t]).map (PSet.as (N.lowN n)))/\KA W w'/\Below w.heap.size W w'):=hide fun W hW hR hT=>by
  have hb:Below W.heap.size W (W.alloc (.cells #[.int .u16 (t:Int)] 36)):=(Below.refl _ W).alloc (Nat.le_refl _) _
  have hlit:SlH (W.alloc (.cells #[.int .u16 (t:Int)] 36)) (some ⟨W.heap.size,0,none⟩) [UInt16.ofNat t]:=SlH.oneI W t (UInt16.ofNat t) 36 (by rw[hu16])
  have hT2:=hT.kb (KB.of_below hb)
  have h:=answer_first HZ.out hK (hW.trans (hb.mono hW.size)) sb hsb0 (.slice a2 1 c2) (.slice none 0 0) (.slice none 0 0) (.slice none 0 0) (.slice none 0 0) (t:Int) 0 n na len nc hl (hR.below hb hR.lt) hT2 hm n na len nc hl hT2.1 hm [UInt16.ofNat t] (some ⟨W.heap.size,0,none⟩) 1 1 (hide rfl) hlit (by omega)
  refine h.mono ?_
  rintro e w' ⟨rfl,v',h1,h2,h3,h4⟩
  have e1 : [UInt16.ofNat t].map (·.toNat) = [t]:=by simp[hu16]
  rw[e1] at h2
  exact⟨rfl,v',h1,h2,(KA.bel hb).trans h3,(hb.mono hW.size).trans h4⟩
 clear hu16
 go_loopw [10] (fun _ wr=>wr=w4) (fun _ _=>0)
 case atStart=>rfl
 case round =>
  subst hrel
  have H4:Hid (FSt w w1 sb #[.pointer (some ⟨Zb,0,none⟩),.slice a2 1 c2,.int .u16 (t:Int),.slice none 0 0,.int .i64 0,.slice none 0 0,.slice none 0 0,.slice none 0 0,.slice none 0 0,.slice na len nc] na n wr):=hide ⟨HB4.out,HR4.out,HK4.out,HT4.out⟩
  have hgive:=givenAway_none (HZ.out.bel HB4.out) (by decide:Z.exA.length<=1000000) sb (.slice a2 1 c2) (.slice none 0 0) (.slice none 0 0) (.slice none 0 0) (.slice none 0 0) t 0 none 0 0 n na len nc hl HR4.out HT4.out.1 hm HNO.out
  have HGIVE:=hide hgive
  clear hgive HB4 HR4 HK4 HT4
  go_wp2_with (first
   | (go_at_call 71;go_loud (refine HGIVE.out.mono ?_;rintro e w5 ⟨rfl,hB5⟩;have H5:=hide (H4.out.step hB5);clear hB5))
   | (go_at_call 73;go_loud (refine (owner_at (HZ.out.bel H5.out.bel) hK sb _ _ _ _ _ _ _ _ n na len nc hl H5.out.row H5.out.ty.1 hm HNE.out).mono ?_;rintro e w6 ⟨rfl,hB6⟩;have H6:=hide (H5.out.step hB6);clear hB6))
   | (go_at_call 33;go_loud (refine (HTY.out w6 na nc H6.out.bel H6.out.ty.1).mono ?_;rintro e w7 ⟨a7,tl,c7,rfl,hC7,hB7⟩;have H7:=hide (H6.out.step hB7);have HC7:=hide hC7;clear hC7 hB7))
   | (go_at_call 75;go_loud (refine HC7.out.mono ?_;rintro e w8 ⟨rfl,hw8⟩;have hw9:=hw8.symm;subst hw9;clear hw8))
   | (go_at_call 74;go_loud (refine (HAN.out w7 H7.out.bel (by first | exact H7.out.row) H7.out.ty).mono ?_;rintro e w9 ⟨rfl,v9,hrow9,hO9,hK9,hB9⟩;obtain⟨a9,c9,hv9,_,_⟩:=hO9.slice;obtain⟨q9,hq9⟩ : ∃ q9,v9 = .slice a9 q9 c9:=⟨_,hv9⟩;subst hq9;clear hv9;have HROW9:=hide hrow9;have HO9:=hide hO9;have HK9:=hide (H7.out.ka.trans hK9);have HB9:=hide (H7.out.bel.trans hB9);have HT9:=hide (H7.out.ty.kb hK9.kb);clear hrow9 hO9 hK9 hB9))
   | (go_at_call 77;go_loud (refine (deny_skip sb _ _ _ _ _ _ _ _ _ 0 (by decide) (by decide) HROW9.out).mono ?_;rintro e w10 ⟨rfl,hw10⟩;have hw11:=hw10.symm;subst hw11;clear hw10;obtain⟨s4,s5,s6,s7,s8,s9⟩:=se_facts HROW9.out;obtain⟨r0,r1,r2,r3,r4,r5,g0,g1,g2,g3,g4,g5⟩:=fd_facts (HFD.out w9 HK9.out)))
   | fail)
  rw[Exit.noGoto_ret]
  have hfd:=fdSet_row (HFD.out w9 HK9.out) (.int .i64 0) (.slice a9 q9 c9) (.slice none 0 0) (.slice none 0 0) (.slice none 0 0) (.slice na len nc)
  refine bodyPost_ret (v := .agg _) (results_fd Tryz.results39 _ _ w.heap.size _ rfl rfl hfd.1) rfl ⟨_,na,nc,rfl,?_,?_,hfd.2.2 _ (Nat.le_refl _) _ HB9.out⟩
  ·exact HO9.out.kx hfd.2.1 (fun _ _ h=>h.kx (by decide) (by decide) hfd.2.1) (by decide)
  ·exact (HT9.out.kb (hfd.2.1.kb (by decide))).1
open Go.RowKit
theorem wpList_appY {α : Type} {et:TypeId} {sz:Nat} {E:World -> α -> List Value->Prop} {w:World} {ops:Array Oper} {rest:List Oper} {o:Oper} {a:Act} {Q:Exit->Act->World->Prop} (hgd:o.guard=none) (s x:Operand) (st:TypeId)
 (ho:o.op = .call { callee := .builtin .append,args := #[s,x],argTypes := #[st,st] }) (hu:Tryz.prog.underlying st=some (.slice et)) (z:Value) (bytes:Nat) (hie : ∃ i,Tryz.prog.info? et=some i/\i.zero=some z/\i.size=sz/\i.bytes=bytes) (hzc:z.cells.size=sz) (hsz:0<sz) (hby:bytes<=200)
 (base:Nat) (v:Value) (L:List α) (hs:a.eval s=v) (hown:OwnL et sz E w base v L) (ad:Addr) (c:Nat) (y : α) (us:List Value) (hx:a.eval x = .slice (some ad) 1 c) (hr : ∀ j u,us[j]?=some u->w.cell? (ad.add j)=some u) (hlen:us.length=sz) (hone : ∀ u∈us,u.oneCell'=true) (hEy:E w y us)
 (hEk : ∀ w' x us,KX et w w'->E w x us->E w' x us) (hbound:L.length<=1000000) (hbase:base<=w.heap.size)
 (h : ∀ v' w',OwnL et sz E w' base v' (L ++ [y])->KX et w w'->Below base w w'->w.grownBy w' v.ownBlock->(v'.ownBlock=v.ownBlock\/v'.ownBlock=some w.heap.size)->wpList Tryz.prog ops Q rest (a.put o.dst v') w'):wpList Tryz.prog ops Q (o::rest) a w:=by
 obtain⟨i0,hi,hz0,hz1,hz2⟩:=hie
 obtain⟨vss,hv,hE⟩:=hown
 have hmul:(L.length+1)*bytes<=1000001*200:=Nat.mul_le_mul (by omega) hby
 refine wpList_append_own_at w hgd s x st ho base et i0 z sz bytes hu hi hz0 hz1 hz2 hzc hsz v L.length vss.flatten hs hv ad 1 c us hx (by omega) hr hone (by unfold maxLen;omega) (by omega) hbase ?_
 intro v' w' h1 h2 _ h5
 have hk:=KX.grown hv h2
 refine h v' w' ⟨vss ++ [us],?_,(hE.kb fun x us=>hEk w' x us hk).app (Els.one hlen hone (hEk w' y us hk hEy))⟩ hk (owns_below hv h2 hbase) h2 h5
 rw[List.length_append,List.length_singleton,List.flatten_append,List.flatten_cons,List.flatten_nil,List.append_nil]
 exact h1
structure GB (sb:Nat) (row:Option Nat) (w w':World):Prop where
 size:w.heap.size<=w'.heap.size
 block : ∀ g,g<w.heap.size->some g≠row->g≠sb->w'.heap[g]?=w.heap[g]?
theorem GB.bel {sb:Nat} {row:Option Nat} {w w':World} (h:Below w.heap.size w w'):GB sb row w w':=⟨h.size,fun g hg _ _=>h.block g hg⟩
theorem GB.trans {sb:Nat} {row:Option Nat} {a b c:World} (h:GB sb row a b) (k:GB sb row b c):GB sb row a c:=⟨Nat.le_trans h.size k.size,fun g hg h1 h2=>(k.block g (Nat.lt_of_lt_of_le hg h.size) h1 h2).trans (h.block g hg h1 h2)⟩
theorem GB.grown {sb:Nat} {row:Option Nat} {w w':World} (h:w.grownBy w' row):GB sb row w w':=⟨h.size,fun g hg h1 _=>h.block g hg h1⟩
theorem GB.set {sb j:Nat} {row:Option Nat} {w:World} (v:Value):GB sb row w (w.setCell ⟨sb,j,none⟩ v):=⟨by simp,fun g _ _ h=>heap_setCell_other _ _ _ _ h⟩
end Go.Proofs.YtmbcegljmhcdeaaGreat
