/- Arguments: a slice of numbers of 32 bits. -/
import Derived.Test.YtmbcegljmhcdeaaGreatLap
import Derived.Test.YtmbcegljmhcdeaaGreatRcl
import Derived.Test.YtmbcegljmhcdeaaGreatZlw
namespace Go.Proofs.YtmbcegljmhcdeaaGreat
set_option maxRecDepth 5000
open Go.RowKit
def L00:List Z.R:=putsR [soa0,ns0]
def own1:List (List UInt8) := [[97], [101,120,97,109,112,108,101]]
def own3:List (List UInt8) := [[99], [98], [101,120,97,109,112,108,101]]
set_option maxRecDepth 100000 in
theorem known_plain:Z.typesAt L00 (path Z.exA) = [2,6]/\(Z.setAt L00 (path Z.exA) 6 = [])=False/\Z.typesAt L00 (path own1) = []/\Z.has L00 (path own1)=false/\Z.setAt L00 ((path own1).take 2) 2 = []/\Z.typesAt L00 (path (starN own1 1)) = []/\Z.typesAt L00 (path (starN own1 2)) = []/\(Z.setAt L00 (path (own1.drop 1)) 6 = [])=False/\Z.has L00 ((path own3).take 2)=false:=by
 have h1:Z.typesAt L00 (path Z.exA) = [2,6]:=by decide +kernel
 have h2:(Z.setAt L00 (path Z.exA) 6).isEmpty=false:=by decide +kernel
 have h3:Z.typesAt L00 (path own1) = []:=by decide +kernel
 have h4:Z.has L00 (path own1)=false:=by decide +kernel
 have h5:(Z.setAt L00 ((path own1).take 2) 2).isEmpty=true:=by decide +kernel
 have h6:Z.typesAt L00 (path (starN own1 1)) = []:=by decide +kernel
 have h7:Z.typesAt L00 (path (starN own1 2)) = []:=by decide +kernel
 have h8:(Z.setAt L00 (path (own1.drop 1)) 6).isEmpty=false:=by decide +kernel
 have h9:Z.has L00 ((path own3).take 2)=false:=by decide +kernel
 exact⟨h1,eq_false (fun h=>by rw[h] at h2;cases h2),h3,h4,List.isEmpty_iff.1 h5,h6,h7,eq_false (fun h=>by rw[h] at h8;cases h8),h9⟩
theorem own1_in:N.within own1 Z.exA=true:=by decide +kernel
theorem own3_in:N.within own3 Z.exA=true:=by decide +kernel
theorem own1_small:N.Small own1:=by
 have h2:own1.length<=1000000 /\ ∀ l∈own1,l.length<=1000000:=by decide
 exact h2
theorem own3_small:N.Small own3:=by
 have h2:own3.length<=1000000 /\ ∀ l∈own3,l.length<=1000000:=by decide
 exact h2
theorem own1_is:Z.owner 1=own1:=by decide +kernel
theorem own3_is:Z.owner 3=own3:=by decide +kernel
theorem setsP_one {L:List Z.R} {n:List (List UInt8)} {t:Nat} (h:(Z.setAt L (path n) t = [])=False):setsP L n [t] = [setP L n t]:=by
 unfold setsP
 rw[List.flatMap_cons,List.flatMap_nil,List.append_nil,if_neg (by rw[h];exact id)]
theorem kfind1 {X:Nat->Prop} {W:World} {V K:Nat} (Z0:ZLive X W V Z.exA L00 K) (hK:K<=1000000) (a:Option Addr) (c:Nat) (hs:SlS W a Z.exA) (hc:1<=c) :
 Calls Tryz.prog 39 #[.pointer (some ⟨V,0,none⟩),.slice a 1 c,.int .u16 6] W fun e w' => ∃ a9 c9 na nc,e = .returned (.agg #[.int .i64 0,.slice a9 1 c9,.slice none 0 0,.slice none 0 0,.slice none 0 0,.slice na 1 nc])/\Below W.heap.size W w':=by
 obtain⟨h1,h2,_⟩:=known_plain
 refine (find_answer Z0 hK Z.exA a 1 c (hide rfl) hs hc (hide exA_small) exA_in 6 (by decide) (by decide) (fun d hd hcut=>?_) (by rw[h1];decide)).mono ?_
 ·have h3:=hcut.1
  have h4:Z.exA.length=1:=rfl
  omega
 ·rintro e w' ⟨v',na,nc,rfl,hO,_,hB⟩
  obtain⟨a9,c9,hv,_,_⟩:=hO.slice
  rw[setsP_one h2] at hv
  subst hv
  exact⟨a9,c9,na,nc,rfl,hB⟩
theorem kfind2 {X:Nat->Prop} {W:World} {V K:Nat} (Z0:ZLive X W V Z.exA L00 K) (hK:K<=1000000) (a:Option Addr) (c:Nat) (hs:SlS W a own1) (hc:2<=c) :
 Calls Tryz.prog 39 #[.pointer (some ⟨V,0,none⟩),.slice a 2 c,.int .u16 1] W fun e w' => ∃ a9 c9 na nc,e = .returned (.agg #[.int .i64 4,.slice none 0 0,.slice a9 1 c9,.slice none 0 0,.slice none 0 0,.slice na 2 nc])/\Below W.heap.size W w':=by
 obtain⟨_,_,h3,h4,h5,h6,h7,h8,_⟩:=known_plain
 refine (find_nothing Z0 hK own1 a 2 c (hide rfl) hs hc (hide own1_small) own1_in (by decide) 1 (fun d hd hcut=>?_) h3 h4 (fun k hk=>?_)).mono ?_
 ·have h9:=hcut.1
  have h10:Z.exA.length=1:=rfl
  have h11:own1.length=2:=rfl
  obtain rfl:d=2:=by omega
  exact hcut.2 h5
 ·have h9:=hk.1
  have h10:=hk.2.1
  have h11:own1.length=2:=rfl
  have:k=1\/k=2:=by omega
  rcases this with rfl | rfl
  ·exact h6
  ·exact h7
 ·rintro e w' ⟨v',na,nc,rfl,hO,_,hB⟩
  obtain⟨a9,c9,hv,_,_⟩:=hO.slice
  rw[setsP_one h8] at hv
  subst hv
  exact⟨a9,c9,na,nc,rfl,hB⟩
theorem kclose {X:Nat->Prop} {W:World} {V K:Nat} (Z0:ZLive X W V Z.exA L00 K) (a:Option Addr) (c:Nat) (hs:SlS W a own3) (hc:3<=c) :
 Calls Tryz.prog 41 #[.pointer (some ⟨V,0,none⟩),.slice a 3 c] W fun e w' => ∃ a1 c1 b2 c2,e = .returned (.tuple #[.slice a1 1 c1,.slice (some ⟨b2,0,none⟩) 2 c2])/\w'.cell? ⟨b2,0,none⟩=some (.string { data := #[98] })/\Below W.heap.size W w':=by
 obtain⟨_,_,_,_,_,_,_,_,h9⟩:=known_plain
 refine (lclosest_any Z0 own3 a 3 c (hide rfl) hs (hs.flat (by decide)) hc (hide own3_small) own3_in).mono ?_
 rintro e w' ⟨k,v1,v2,rfl,hk,hO1,hO2,hB⟩
 have hk1:k=1:=by
  have h10:=hk.1
  rcases Nat.lt_or_ge 1 k with h | h
  ·have h11:=has_take (i:=2) (by omega) (hk.2.2.1 (by omega))
   rw[h9] at h11;cases h11
  ·omega
 subst hk1
 obtain⟨a1,c1,hv1,_⟩:=hO1.open
 have hO2:OwnS w' W.heap.size v2 [[98], [101,120,97,109,112,108,101]]:=hO2
 obtain⟨a2,c2,hv2,hS2,_⟩:=hO2.open
 subst hv1;subst hv2
 have h0:w'.ownsRow W.heap.size 9 1 (.slice a2 2 c2) 2 (vs [[98], [101,120,97,109,112,108,101]]):=hO2
 rcases h0.2 with⟨_,h1⟩ | ⟨g,cap,cur,e1,_,hgb,_⟩
 ·cases h1
 ·injection e1 with e1 _ _
  subst e1
  obtain⟨b,o,e2,_,hc2⟩:=hS2 (by decide)
  injection e2 with e2;injection e2 with e2 e3 _
  subst e2;subst e3
  exact⟨a1,c1,g,c2,rfl,hc2 0 (by decide),hB⟩
set_option maxRecDepth 20000 in
set_option maxHeartbeats 1500000 in
theorem knownL_any (w:World):Calls Tryz.prog 35 #[] w fun e w'=>e = .returned (.bool true)/\Below w.heap.size w w':=by
 have hmade:Calls Tryz.prog 36 #[.slice none 0 0] w fun e w' => ∃ V m base,e = .returned (.tuple #[.pointer (some ⟨V,0,none⟩),.pointer (some ⟨m,0,none⟩)])/\Duo w.heap.size w' V base m Z.exA L00 4200/\Below w.heap.size w w':=by
  refine (made_any [] none 0 0 w (hide rfl) (fun h=>absurd h (by simp)) (fun x hx=>by cases hx) (by decide)).mono ?_
  rintro e w' ⟨V,m,base,rs,rfl,hD,_,hz,hB⟩
  rw[hz rfl] at hD
  exact⟨V,m,base,rfl,hD,hB⟩
 have HMADE:=hide hmade
 have HT0:=hide trivial
 have hKb:4200<=1000000:=by decide
 clear hmade
 go_enter Tryz.func35,Tryz.ntmps35
 go_wp2_with (first
  | (go_at_call 36;go_loud (refine HMADE.out.mono ?_;rintro e w1 ⟨V,m,base,rfl,hD,hB1⟩;have HZ1:=hide hD.z;have HB1:=hide hB1;clear hD hB1))
  | (go_at_call 13;go_loud (refine (apex_any w1).mono ?_;rintro e w2 ⟨v2,rfl,hO2,hB2⟩;obtain⟨a2,c2,rfl,hS2,_,hc2,_⟩:=hO2.open;have HB2:=hide (HB1.out.trans (hB2.mono HB1.out.size));have HZ2:=hide (HZ1.out.bel hB2)))
  | (go_at_call 39;have hq:=HB5.out;clear hq;go_loud (refine (kfind2 HZ5.out hKb a5 c5 hS5 hc5).mono ?_;rintro e w6 ⟨a6,c6,na6,nc6,rfl,hB6⟩;have HB6:=hide (HB5.out.trans (hB6.mono HB5.out.size));have HZ6:=hide (HZ5.out.bel hB6);have HR6:=hide (HR5.out.below hB6 HR5.out.lt)))
  | (go_at_call 39;go_loud (refine (kfind1 HZ2.out hKb a2 c2 hS2 hc2).mono ?_;rintro e w3 ⟨a3,c3,na3,nc3,rfl,hB3⟩;have HB3:=hide (HB2.out.trans (hB3.mono HB2.out.size));have HZ3:=hide (HZ2.out.bel hB3)))
  | (go_at_call 22;have hq:=HB6.out;clear hq;go_loud (have hb7:Below w6.heap.size w6 (w6.alloc (.cells #[.int .i64 4,.slice none 0 0,.slice a6 1 c6,.slice none 0 0,.slice none 0 0,.slice na6 2 nc6] 70)):=(Below.refl _ w6).alloc (Nat.le_refl _) _;refine (owner_any 3 (by decide) _).mono ?_;rw[own3_is];rintro e w8 ⟨v8,rfl,hO8,hB8⟩;obtain⟨a8,c8,rfl,hS8,_,hc8,_⟩:=hO8.open;have hb68:=hb7.trans (hB8.mono hb7.size);have HB8:=hide (HB6.out.trans (hb68.mono HB6.out.size));have HZ8:=hide (HZ6.out.bel hb68);have HR8:=hide (HR6.out.below hb68 HR6.out.lt);have HQ8:=hide ((RowAt.new w6 70 #[.int .i64 4,.slice none 0 0,.slice a6 1 c6,.slice none 0 0,.slice none 0 0,.slice na6 2 nc6]).below hB8 (by simp))))
  | (go_at_call 22;go_loud (have hb4:Below w3.heap.size w3 (w3.alloc (.cells #[.int .i64 0,.slice a3 1 c3,.slice none 0 0,.slice none 0 0,.slice none 0 0,.slice na3 1 nc3] 70)):=(Below.refl _ w3).alloc (Nat.le_refl _) _;refine (owner_any 1 (by decide) _).mono ?_;rw[own1_is];rintro e w5 ⟨v5,rfl,hO5,hB5⟩;obtain⟨a5,c5,rfl,hS5,_,hc5,_⟩:=hO5.open;have hb35:=hb4.trans (hB5.mono hb4.size);have HB5:=hide (HB3.out.trans (hb35.mono HB3.out.size));have HZ5:=hide (HZ3.out.bel hb35);have HR5:=hide ((RowAt.new w3 70 #[.int .i64 0,.slice a3 1 c3,.slice none 0 0,.slice none 0 0,.slice none 0 0,.slice na3 1 nc3]).below hB5 (by simp))))
  | (go_at_call 41;go_loud (refine (kclose HZ8.out a8 c8 hS8 hc8).mono ?_;rintro e w9 ⟨a9,c9,b9,d9,rfl,k98,hB9⟩;have HB9:=hide (HB8.out.trans (hB9.mono HB8.out.size));obtain⟨r0,r1,r2,_⟩:=fd_facts (HR8.out.below hB9 HR8.out.lt);obtain⟨s0,s1,s2,_⟩:=fd_facts (HQ8.out.below hB9 HQ8.out.lt)))
  | fail)
 go_ret
 exact⟨rfl,HB9.out⟩
open Go.RowKit
theorem path_app (a b:List (List UInt8)):path (a++b)=path b++path a:=by
 unfold path N.lowN;rw[List.map_append,List.reverse_append]
theorem within_app (a o:List (List UInt8)) (h:N.within o Z.exA=true):N.within (a++o) Z.exA=true:=by
 rw[within_path2] at h ⊢
 rw[path_app]
 exact h.trans (List.prefix_append _ _)
theorem qn_ok (n:List (List UInt8)) (k:Nat) (h:Light n):N.Small (n++Z.owner k)/\(n++Z.owner k).length<=204/\1<=(n++Z.owner k).length:=by
 have h1:=(Z.owner_good k).2.2.1
 have h2:=Z.owner_small k
 have h3:1<=(Z.owner k).length:=by
  obtain⟨q,_,e⟩:=Z.owner_at k
  rw[e,List.length_append]
  have:Z.exA.length=1:=rfl
  omega
 have h4:=h.1
 rw[List.length_append]
 refine⟨⟨by rw[List.length_append];omega,fun l hl=>?_⟩,by omega,by omega⟩
 rcases List.mem_append.1 hl with hl | hl
 ·exact h.small.2 l hl
 ·exact h2.2 l hl
set_option maxRecDepth 20000 in
set_option maxHeartbeats 1500000 in
theorem lookClosest_walk (l:List Nat) (lo:Option Addr) (ll lc:Nat) (n:List (List UInt8)) (ao:Option Addr) (len cap:Nat) (k:Nat) (w:World) (hll:Hid (l.length=ll)) (hls:SlU w lo l) (hlt : ∀ x∈l,x<4294967296) (hlm:ll<=9223372036854775807) (hl:Hid (n.length=len)) (hs:SlS w ao n) (hnil:ao=none->cap=0) (hm:len<=9223372036854775807) (hk:k<256) :
 Calls Tryz.prog 6 #[.slice lo ll lc,.slice ao len cap,.int .u8 (k:Int)] w fun e w'=>e = .returned (.bool true)/\Below w.heap.size w w':=by
 have HLS:=hide hls
 have HLT:=hide hlt
 have HS:=hide hs
 have HNIL:=hide hnil
 clear hls hlt hs hnil
 by_cases h12:12<ll
 ·have h12i:(12:Int)<(ll:Int):=by omega
  go_enter Tryz.func6,Tryz.ntmps6
  go_wp2_with (go_at_call 35;refine (knownL_any w).mono ?_;rintro e w1 ⟨rfl,hB1⟩)
  go_ret
  exact⟨rfl,hB1⟩
 ·have h12i : ¬ ((12:Int)<(ll:Int)):=by omega
  have hli:=fun W (hW:Below w.heap.size w W)=>light_any n ao len cap W hl (HS.out.below hW (Nat.le_refl _)) hm
  have HLI:=hide hli
  clear hli
  obtain⟨qn,hqn⟩ : ∃ qn,qn=n++Z.owner k:=⟨_,rfl⟩
  obtain⟨ql,hql⟩ : ∃ ql,ql=qn.length:=⟨_,rfl⟩
  have HQI:Hid (N.within qn Z.exA=true):=hide (by rw[hqn];exact within_app n _ (Z.owner_good k).2.1)
  have HOL:=hide (Z.owner_good k).2.2.1
  have HQF:Hid (Light n->N.Small qn/\ql<=204/\1<=ql):=hide fun h=>by rw[hql,hqn];exact qn_ok n k h
  have HQL:=hide hql
  have HQN:=hide hqn
  clear hqn hql
  go_enter Tryz.func6,Tryz.ntmps6
  go_wp2_with (first
   | (go_at_call 21;go_loud (refine (HLI.out w1 HB1.out).mono ?_;rintro e w2 ⟨t,rfl,ht,hw2⟩;have hw3:=hw2.symm;subst hw3;clear hw2;have HT:=hide ht;clear ht;cases t))
   | (go_at_call 35;go_loud (refine (knownL_any w).mono ?_;rintro e w1 ⟨rfl,hB1⟩;have HB1:=hide hB1;clear hB1))
   | (go_at_call 36;go_loud (refine (made_any l lo ll lc w1 hll (HLS.out.below HB1.out (Nat.le_refl _)) HLT.out hlm).mono ?_;rintro e w4 ⟨V,m,base,rs,rfl,hD,hG,_,hB4⟩;have HD:=hide hD;have HB4:=hide (HB1.out.trans (hB4.mono HB1.out.size));have HX:=hide hG;clear hD hG hB4))
   | (at_builtin;have hq:=HA6.out;clear hq;go_loud (refine wpList_append_SN rfl (.tmp 30) (.tmp 32) rfl w4.heap.size v5 n rfl HO6.out a6 _ c6 (Z.owner k) rfl rfl HA6.out hn6 (by have:=HOL.out;have:=(HT.out (by first | exact trivial | rfl)).1;omega) HZ46.out ?_;intro v7 w7 hO7 hG7;have HB7:=hide (HB4.out.trans ((grown_belowS HO6.out hG7 HB46.out HZ46.out).mono HB4.out.size));have HB47:=hide (grown_belowS HO6.out hG7 HB46.out HZ46.out);obtain⟨a7,c7,hv7,hS7,_,hc7,_⟩:=hO7.open;rw[<- HQN.out] at hv7 hS7 hc7;rw[<- HQL.out] at hv7 hc7;subst hv7;have HS7:=hide hS7;clear hO7 hG7 hS7))
   | (at_builtin;go_loud (refine wpList_append_SN rfl (.const (.slice none 0 0)) (.tmp 29) rfl w4.heap.size (.slice none 0 0) [] rfl (OwnS.nil _ _) ao len cap n rfl hl.out (HS.out.below HB4.out (Nat.le_refl _)) HNIL.out (by have:=(HT.out (by first | exact trivial | rfl)).1;have:=hl.out;simp;omega) (Nat.le_refl _) ?_;intro v5 w5 hO5 hG5;have HB45:=hide (grown_belowS (OwnS.nil w4 w4.heap.size) hG5 (Below.refl _ _) (Nat.le_refl _));have HO5:=hide (show OwnS w5 w4.heap.size v5 n by simpa using hO5);clear hO5 hG5))
   | (go_at_call 22;go_loud (refine (owner_any k hk w5).mono ?_;rintro e w6 ⟨v6,rfl,hO6,hB6⟩;obtain⟨a6,c6,rfl,hS6,hn6,_⟩:=hO6.open;have HA6:=hide hS6;have HO6:=hide (HO5.out.below hB6);have HB46:=hide (HB45.out.trans (hB6.mono HB45.out.size));have HZ46:=hide (Nat.le_trans HB45.out.size hB6.size);clear hO6 hS6 hB6))
   | (go_at_call 41;go_loud (refine (lclosest_any (HD.out.z.bel HB47.out) qn a7 ql c7 (hide HQL.out.symm) HS7.out (HS7.out.flat (by have:=HQL.out;have:=(HQF.out (HT.out (by first | exact trivial | rfl))).2.2;omega)) hc7 (hide (HQF.out (HT.out (by first | exact trivial | rfl))).1) HQI.out).mono ?_;rintro e w8 ⟨c,v1,v2,rfl,hc,hO1,hO2,hB8⟩;obtain⟨a1,c1,hv1,hS1,_⟩:=hO1.open;obtain⟨a2,c2,hv2,hS2,_⟩:=hO2.open;have hcl:=hc.2.1;rw[<- HQL.out] at hcl;obtain⟨cm,hcm⟩ : ∃ cm,cm=min (c+1) ql:=⟨_,rfl⟩;have e1:(qn.drop (ql - c)).length=c:=(by rw[List.length_drop, <- HQL.out];omega);have e2:(qn.drop (ql - cm)).length=cm:=(by rw[List.length_drop, <- HQL.out];omega);rw[<- hcm] at hv2 hS2;rw[e1] at hv1;rw[e2] at hv2;subst hv1;subst hv2;have HC:=hide hc;have HCM:=hide hcm;have HE1:=hide e1;have HE2:=hide e2;have HS1:=hide hS1;have HS2:=hide hS2;have HB8:=hide hB8;have HCB:=hide hcl;clear hc hcm e1 e2 hS1 hS2 hB8 hO1 hO2 hcl))
   | (go_at_call 42;go_loud (refine (mclosest_any w8 base m (putsR rs) ((HD.out.r.bel HB47.out).bel HB8.out) qn a7 ql c7 (hide HQL.out.symm) hc7 (HS7.out.below HB8.out (Nat.le_refl _)) (hide (HQF.out (HT.out (by first | exact trivial | rfl))).1) (by have:=HQL.out;have:=(HQF.out (HT.out (by first | exact trivial | rfl))).2.2;omega)).mono ?_;rintro e w9 ⟨c',b1,d1,b2,d2,rfl,hc',hT1,hT2,hB9⟩;obtain rfl:=HC.out.uniq hc';rw[<- HCM.out] at hT2 ⊢; have HT1:=hide hT1;have HT2:=hide hT2;have HB9:=hide hB9;have HU1:=hide (HS1.out.below hB9 (Nat.le_refl _));have HU2:=hide (HS2.out.below hB9 (Nat.le_refl _));clear hT1 hT2 hB9 hc'))
   | (go_at_call 29;have hq:=HN1.out;clear hq;go_loud (have h:=hname_any (qn.drop (ql - cm)) (qn.drop (ql - cm)) a2 b2 cm cm c2 d2 w10 (hide HE2.out) (hide HE2.out) (HU2.out.below HB910.out (Nat.le_refl _)) (HT2.out.below HB910.out (Nat.le_refl _)) (by have:=(HQF.out (HT.out (by first | exact trivial | rfl))).2.1;have:=HCM.out;omega) (by have:=(HQF.out (HT.out (by first | exact trivial | rfl))).2.1;have:=HCM.out;omega);rw[decide_eq_true rfl] at h;refine h.mono ?_;rintro e w11 ⟨rfl,hk11⟩;have HB11:Hid (Below w9.heap.size w9 w11):=(by obtain⟨q,rfl⟩:=hk11;exact hide (below_drewN HB910.out q));clear h hk11))
   | (go_at_call 29;go_loud (have h:=hname_any (qn.drop (ql - c)) (qn.drop (ql - c)) a1 b1 c c c1 d1 w9 (hide HE1.out) (hide HE1.out) HU1.out HT1.out (by have:=(HQF.out (HT.out (by first | exact trivial | rfl))).2.1;have:=HCB.out;omega) (by have:=(HQF.out (HT.out (by first | exact trivial | rfl))).2.1;have:=HCB.out;omega);rw[decide_eq_true rfl] at h;refine h.mono ?_;rintro e w10 ⟨rfl,hk10⟩;have HB910:Hid (Below w9.heap.size w9 w10):=(by obtain⟨q,rfl⟩:=hk10;exact hide (below_drewN (Below.refl _ _) q));have HN1:=hide trivial;clear h hk10))
   | fail)
  ·go_ret
   exact⟨rfl,HB1.out⟩
  ·go_ret
   exact⟨rfl,HB7.out.trans (((HB8.out.trans (HB9.out.mono HB8.out.size)).trans (HB11.out.mono (Nat.le_trans HB8.out.size HB9.out.size))).mono HB7.out.size)⟩
open Go.ChangeShapes Go.WideShapes Go.ChangeAt Go.WideMaps Go.WideElems Go.RowKit
theorem cellsU32:Tryz.prog.cellsOf 35=1:=by kernel_rfl
theorem open_u32s {H:Type} {enc:TypeId × Value->H} {W:World} {a0:Option Addr} {len cap:Nat} {d:DataW H} {p:List MemPlace} (h0:DataW.Trod enc Tryz.prog W 0 (fun _=>true) true 64 (.slice a0 len cap) d p) :
 ∃ A:List Nat,A.length=len/\SlU W a0 A/\(∀ x∈A,x<4294967296)/\len<=maxLen:=by
 obtain⟨fuel,hf⟩:=h0
 rcases open_ints Tryz.underlying64 Tryz.underlying35 cellsU32 hf with⟨hcs,hx⟩ | ⟨a,len',cap',zs,hcs,_,hl,hm,hz,hx,hcell,hwz⟩
 ·simp[Value.cells] at hcs
  obtain⟨rfl,rfl,rfl⟩:=hcs
  exact⟨[],rfl,fun h=>by simp at h,fun x hx=>by simp at hx,Nat.zero_le _⟩
 ·simp[Value.cells] at hcs
  obtain⟨rfl,rfl,rfl⟩:=hcs
  simp only[if_true] at hz
  have hlen:((zs.take len).map fun z=>z.toNat).length=len:=by simp;omega
  refine⟨(zs.take len).map fun z=>z.toNat,hlen,fun hn=>?_,fun x hx=>?_,by omega⟩
  ·rw[hlen] at hn
   obtain⟨b,off,rfl,hc⟩:=ints_at hcell (by omega)
   refine⟨b,off,rfl,block_lt_of_cell (hc 0 (by omega)),fun j hj=>?_⟩
   rw[hlen] at hj
   rw[hc j (by omega)]
   have hjz:j<zs.length:=by omega
   have hw:=bounds_u32 (hwz _ (List.getElem_mem hjz))
   have e1:zs.getD j 0=zs[j]:=by simp[hjz]
   have e2:((zs.take len).map fun z=>z.toNat).getD j 0=(zs[j]).toNat:=by
    simp[hj,hjz]
   rw[e1,e2]
   congr 2;omega
  ·obtain⟨z,hz',rfl⟩:=List.mem_map.1 hx
   have hw:=bounds_u32 (hwz _ (List.mem_of_mem_take hz'))
   omega
theorem nil_cap {H:Type} {enc:TypeId × Value->H} {W:World} {a0:Option Addr} {len cap:Nat} {d:DataW H} {p:List MemPlace} (h0:DataW.Trod enc Tryz.prog W 0 (fun _=>true) true 28 (.slice a0 len cap) d p):a0=none->cap=0:=by
 obtain⟨fuel,hf⟩:=h0
 rcases Go.Deep.open_strs Tryz.underlying28 Tryz.underlying9 cellsStr hf with⟨hcs,_⟩ | ⟨a,len',cap',m,Sx,hcs,_⟩
 ·simp[Value.cells] at hcs
  exact fun _=>hcs.2.2
 ·simp[Value.cells] at hcs
  intro h
  rw[hcs.1] at h;cases h
end Go.Proofs.YtmbcegljmhcdeaaGreat
