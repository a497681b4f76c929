/- The reference's Key; parts by their places (texts of stage 5, at this seat). -/
import Derived.Test.YtbkegikdmmnkaaaGreatRefG
import Derived.Deep.RegionHeld3
import Derived.Test.YtbkegikdmmnkaaaGreatNdr
import Derived.Test.YtbkegikdmmnkaaaGreatNmC
namespace Go.Proofs.YtbkegikdmmnkaaaGreat
set_option maxRecDepth 5000
open Go.RowKit
def Z.Thin (L:List Z.R):Prop := ∀ x∈L,∀ l∈x.p,l.length<=63
theorem path_rev {p:List (List UInt8)} (h:Z.Low p):path p.reverse=p:=by
 unfold path
 have e:N.lowN p.reverse=(N.lowN p).reverse:=List.map_reverse
 unfold Z.Low at h
 rw[e,h,List.reverse_reverse]
theorem nclone_two (w:World) (a:Option Addr) (c:Nat) (n:List (List UInt8)) (len:Nat) (hl:Hid (n.length=len)) (h0:n = []->a=none) (hl2:len<=1000000) (hs:SlS w a n) :
 Calls Tryz.prog 55 #[.slice a len c] w fun e w' => ∃ v,e = .returned v/\OwnS w' w.heap.size v n/\Below w.heap.size w w':=by
 have hl:=hl.out
 subst hl
 by_cases e:n = []
 ·rw[h0 e]
  refine (nclone_nil w n.length c).mono ?_
  rintro e2 w' ⟨rfl,rfl⟩
  rw[e]
  exact⟨_,rfl,OwnS.nil _ _,Below.refl _ _⟩
 ·exact nclone_any w a c n (List.length_pos_iff.2 e) hl2 hs
theorem OwnH.at_ {w:World} {base m c:Nat} {a:Option Addr} {l:List UInt16} (h:OwnH w base (.slice a m c) l) (hm:m=l.length) (j:Nat) (hj:j<l.length) : ∃ g,a=some ⟨g,0,none⟩/\w.cell? ⟨g,j,none⟩=some (.int .u16 (l.getD j 0).toNat):=by
 have h0:w.ownsRow base 36 1 (.slice a m c) l.length (vh l):=h
 subst hm
 rcases h0.2 with⟨h1,h2⟩ | ⟨g,cap,cur,e,h1,h2,h3⟩
 ·omega
 ·injection e with e1 e2 e3
  subst e1;subst e3
  refine⟨g,rfl,?_⟩
  have:=(OwnH.sl (g:=g) (cap:=c) h) (by omega)
  obtain⟨b,o,e,_,hc⟩:=this
  injection e with e;injection e with e1 e2
  subst e1;subst e2
  have:=hc j hj
  rwa [Nat.zero_add] at this
structure RIs (w:World) (A1:Value) (P:List (List (List UInt8))) (v:Value) (M:List Z.R) (wr:World):Prop where
 out:OwnL 39 5 ER wr w.heap.size v M
 bel:Below w.heap.size w wr
 nms:OwnL 28 1 EM wr w.heap.size A1 (P.map List.reverse)
theorem RIs.mv {w wr wq:World} {A1:Value} {P:List (List (List UInt8))} {v:Value} {M:List Z.R} (h:RIs w A1 P v M wr) (hb:Below wr.heap.size wr wq):RIs w A1 P v M wq :=
 ⟨h.out.bel (fun _ _ h=>h.kb (KB.of_below hb)) hb,h.bel.trans (hb.mono h.bel.size),h.nms.bel (fun _ _ h=>h.kb (KB.of_below hb)) hb⟩
theorem RIs.add {w wr wq:World} {A1:Value} {P:List (List (List UInt8))} {v v':Value} {M M':List Z.R} (h:RIs w A1 P v M wr) (hk:KX 39 wr wq) (hb:Below w.heap.size wr wq) (ho:OwnL 39 5 ER wq w.heap.size v' M'):RIs w A1 P v' M' wq :=
 ⟨ho,h.bel.trans hb,h.nms.kx hk (fun _ _ h=>h.kb (hk.kb (by decide))) (by decide)⟩
theorem one_cell (w:World) (g:Nat) (c:Array Value) (t:TypeId) (h:RowAt w g t c) : ∀ j u,c.toList[j]?=some u->w.cell? ((⟨g,0,none⟩:Addr).add j)=some u:=fun j u hu=>by
 rw[Addr.add_mid,Nat.zero_add,h.cell j]
 simpa using hu
theorem er_mk {w':World} {r:Z.R} {p n:List (List UInt8)} {t T pl dl c6 dc:Nat} {a6 da:Option Addr} (hR:r.p=p/\r.t=t/\r.ttl=T) (hn:n=p.reverse) (hpl:pl=p.length) (hdl:dl=r.d.length) (T6:TyS w' a6 n) (h1:pl<=c6) (h2:a6=none->c6=0) (TD:TyL w' da r.d) (h3:da=none->dc=0) (h4:r.d.length<=dc) :
 ER w' r [.slice a6 pl c6,.int .u16 (t:Int),.int .u16 1,.int .u32 (T:Int),.slice da dl dc]:=by
 obtain⟨e1,e2,e3⟩:=hR
 subst e1;subst e2;subst e3;subst hpl;subst hdl;subst hn
 exact⟨a6,c6,da,dc,rfl,T6,h1,h2,TD,h3,h4⟩
set_option maxRecDepth 100000 in
set_option maxHeartbeats 2000000 in
theorem zrecords_any (w:World) (Zb:Nat) (A:List (List UInt8)) (L:List Z.R) (ρ : Nat->Role) (G:List (List UInt8)->Option Nd) (C:List (List UInt8)->Nat->Option Z.St) (K:Nat) (Zx:ZAt w Zb A L ρ G C K) (hK:K<=1000000) (hth:Z.Thin L) :
 Calls Tryz.prog 16 #[.pointer (some ⟨Zb,0,none⟩)] w fun e w' => ∃ v,e = .returned v/\OwnL 39 5 ER w' w.heap.size v L/\Below w.heap.size w w':=by
 obtain⟨P,hP⟩ : ∃ P,P=Z.paths L:=⟨_,rfl⟩
 obtain⟨np,hnp⟩ : ∃ np,np=P.length:=⟨_,rfl⟩
 obtain⟨F,hF⟩ : ∃ F,F=Z.recsAt L:=⟨_,rfl⟩
 have hwhole:P.flatMap F=L:=by rw[hP,hF];exact Z.whole Zx.rise Zx.lows
 have hnum:=Zx.num
 have hnpb:np<=2000:=by rw[hnp,hP];exact Nat.le_trans (Z.paths_len L) hnum
 have hps:=(Z.paths_rise Zx.rise Zx.lows).2
 rw[<- hP] at hps
 have hcall:=znames_any w Zb A L ρ G C K Zx hK
 rw[<- hP] at hcall
 have HZ:=hide Zx
 have HP:=hide hP
 have HNP:=hide hnp
 have HF:=hide hF
 have HWH:=hide hwhole
 have HPS:=hide hps
 have HTH:=hide hth
 clear Zx hP hnp hF hwhole hps hth
 go_enter Tryz.func16,Tryz.ntmps16
 go_wp2_with (go_at_call 18;refine hcall.mono ?_;rintro e w1 ⟨v1,rfl,hN,hB⟩;obtain⟨a1,c1,hv1,hn1,hc1⟩:=hN.slice;rw[List.length_map, <- HNP.out] at hv1 hc1;subst hv1)
 have hI0:RIs w (.slice a1 np c1) P (.slice none 0 0) [] w1:=⟨OwnL.nil _ _ _ _ _,hB,hN⟩
 clear hcall hN hB
 go_loopw [3,15] (fun v i wr => ∃ j:Nat,i = .int .i64 (j:Int)/\j<=np/\RIs w (.slice a1 np c1) P v ((P.take j).flatMap F) wr) (fun _ i _=>np - (intOf i).toNat)
 case atStart=>exact⟨0,rfl,by omega,hI0⟩
 case round =>
  obtain⟨j,rfl,hj,hI⟩:=hrel
  clear hI0
  by_cases hlt:j<np
  ·have hjP:j<P.length:=by have:=HNP.out;omega
   obtain⟨p,hp⟩ : ∃ p,p=P[j]:=⟨_,rfl⟩
   have hpP:p∈P:=by rw[hp];exact List.getElem_mem hjP
   obtain⟨r0,hr0,hr0p⟩:=(HPS.out p).1 hpP
   have hlow:Z.Low p:=by rw[<- hr0p];exact HZ.out.lows r0 hr0
   have hpl:p.length<=128:=by rw[<- hr0p];exact (HZ.out.okk r0 hr0).2.2.2.2
   obtain⟨pl,hpl2⟩ : ∃ pl,pl=p.length:=⟨_,rfl⟩
   have hnl:Hid (p.reverse.length=pl):=by show _=_;rw[List.length_reverse,hpl2]
   have hsm:Hid (N.Small p.reverse):=by
    show _/\_
    refine⟨by rw[List.length_reverse];omega,fun l hl=>?_⟩
    have:=HTH.out r0 hr0 l (by rw[hr0p];simpa using hl)
    omega
   have hpath:=path_rev hlow
   obtain⟨g1,rfl,_,_,_,hg1⟩:=hI.nms.get (by rw[List.length_map];omega)
   obtain⟨us,_,⟨an,cn,rfl,hTn,hnn,hcn,h0n⟩,hus⟩:=hg1 j p.reverse (by rw[List.getElem?_map,List.getElem?_eq_getElem hjP, <- hp];rfl)
   have hcell:wr.cell? ⟨g1,j,none⟩=some (.slice an pl cn):=by
    have:=hus 0 (by omega)
    rw[Nat.mul_one,Nat.add_zero,hnl.out] at this
    exact this
   rw[hnl.out] at hcn
   have hM1:=Z.flat_succ F P j hjP
   rw[<- hp] at hM1
   have hpre:=Z.flat_pre F P j hjP (X:=F p) (by rw[<- hp];exact List.prefix_refl _)
   rw[HWH.out] at hpre
   obtain⟨n,hn⟩ : ∃ n,n=p.reverse:=⟨_,rfl⟩
   rw[<- hn] at hnl hsm hpath hTn h0n
   obtain⟨M1,hM⟩ : ∃ M1,M1=(P.take j).flatMap F:=⟨_,rfl⟩
   rw[<- hM] at hI hM1 hpre
   have hty:=ztypes_any wr Zb A L ρ G C K (HZ.out.bel hI.bel) hK n an pl cn hnl hTn.1 hsm
   rw[hpath] at hty
   have HI:=hide hI
   have HTN:=hide hTn
   have HM1:=hide hM1
   have HPRE:=hide hpre
   have H0N:=hide h0n
   have HPA:=hide hpath
   have HN:=hide hn
   have HPL:=hide hpl2
   clear hI hTn hM1 hpre h0n hpath hn hM hp hg1 hus hpP hr0 hr0p hlow hpl2
   obtain⟨wA,rfl⟩ : ∃ wA,wA=wr:=⟨wr,rfl⟩
   go_wp2_with (go_at_call 32;refine hty.mono ?_;rintro e w2 ⟨v2,rfl,ts,hts,hO2,hb2⟩;obtain⟨a2,c2,hv2,_,_,hc2,hc2m⟩:=hO2.open;obtain⟨nt,hnt⟩ : ∃ nt,nt=ts.length:=⟨_,rfl⟩;rw[<- hnt] at hv2 hc2;have HNT:=hide hnt;have HTS:=hide hts;clear hnt hts;subst hv2)
   have hI2:=HI.out.mv hb2
   have HTN2:=hide (HTN.out.kb (KB.of_below hb2))
   have hntl:(Z.typesAt L p).length=nt:=by rw[<- HTS.out,List.length_map,HNT.out]
   have HNTL:=hide hntl
   have hFp:F p=(Z.typesAt L p).flatMap (fun t=>Z.setAt L p t):=by rw[HF.out];rfl
   have HFP:=hide hFp
   have hntb:nt<=9223372036854775807:=by unfold maxLen at hc2m;omega
   clear hc2 hc2m hntl hFp hty hb2
   go_loopw [3,23] (fun v i wr => ∃ k:Nat,i = .int .i64 (k:Int)/\k<=nt/\RIs w (.slice (some ⟨g1,0,none⟩) np c1) P v (M1++((Z.typesAt L p).take k).flatMap (fun t=>Z.setAt L p t)) wr/\OwnH wr wA.heap.size (.slice a2 nt c2) ts/\TyS wr an n) (fun _ i _=>nt - (intOf i).toNat)
   case atStart=>exact⟨0,rfl,Nat.zero_le _,by simpa using hI2,hO2,HTN2.out⟩
   case round =>
    obtain⟨k,rfl,hk,hI,hO,hT⟩:=hrel
    clear hI2 hO2
    by_cases hlt2:k<nt
    ·have hkT:k<(Z.typesAt L p).length:=by have:=HNTL.out;omega
     obtain⟨t,ht⟩ : ∃ t,t=(Z.typesAt L p)[k]:=⟨_,rfl⟩
     obtain⟨g2,rfl,hcell2⟩:=hO.at_ HNT.out k (by have:=HNT.out;omega)
     have htk:((ts.getD k 0).toNat:Int)=(t:Int):=by
      rw[ht]
      have h1:k<ts.length:=by have:=HNT.out;omega
      simp[<- HTS.out,List.getD_eq_getElem?_getD,h1]
     rw[htk] at hcell2
     have ht16:t<65536:=by
      have:=(ts.getD k 0).toNat_lt
      omega
     have htm:t∈Z.typesAt L p:=by rw[ht];exact List.getElem_mem hkT
     have hsome:=(HZ.out.of.isSome p t).2 (((Z.types_rise HZ.out.rise p).2 t).1 htm)
     have hM2:=Z.flat_succ (fun t=>Z.setAt L p t) (Z.typesAt L p) k hkT
     rw[<- ht] at hM2
     have hpre2 : ∀ i,(M1++((Z.typesAt L p).take k).flatMap (fun t=>Z.setAt L p t)++(Z.setAt L p t).take i).length<=2000:=fun i=>by
      have h1:=Z.flat_pre (fun t=>Z.setAt L p t) (Z.typesAt L p) k hkT (X:=(Z.setAt L p t).take i) (by rw[<- ht];exact List.take_prefix _ _)
      rw[<- HFP.out] at h1
      have h2:=((List.prefix_append_right_inj M1).2 h1).trans HPRE.out
      have h3:=h2.length_le
      rw[<- List.append_assoc] at h3
      omega
     have hset:=zset_any wr Zb A L ρ G C K (HZ.out.bel hI.bel) hK n an pl cn hnl hT.1 hsm t ht16
     unfold SetPost at hset
     rw[HPA.out] at hset
     have HI2:=hide hI
     have HO2:=hide hO
     have HT2:=hide hT
     have HM2:=hide hM2
     have HPRE2:=hide hpre2
     have HSM:=hide hsome
     clear hI hO hT hM2 hpre2 hsome htm htk ht
     obtain⟨wB,rfl⟩ : ∃ wB,wB=wr:=⟨wr,rfl⟩
     go_wp2_with (go_at_call 23;refine hset.mono ?_;rintro e w3 ⟨hb3,⟨hno,_⟩ | ⟨S,na5,nc5,v5,hS,rfl,hT5,hnc5,hO5⟩⟩;(· exact absurd HSM.out (by rw[hno];simp));obtain⟨a5,c5,hv5,hn5,hc5⟩:=hO5.slice;obtain⟨nd,hnd⟩ : ∃ nd,nd=(Z.setAt L p t).length:=⟨_,rfl⟩;rw[List.length_map, <- hnd] at hv5 hc5;have HND:=hide hnd;clear hnd;subst hv5;have hbx:=RowAt.new w3 54 #[.slice na5 pl nc5,.int .u16 (t:Int),.int .u32 (S.ttl:Int),.slice a5 nd c5];have q3:(w3.alloc (.cells #[.slice na5 pl nc5,.int .u16 (t:Int),.int .u32 (S.ttl:Int),.slice a5 nd c5] 54)).cell? ⟨w3.heap.size,3,none⟩=some (.slice a5 nd c5):=hbx.cell 3)
     have hb34:Below w3.heap.size w3 (w3.alloc (.cells #[.slice na5 pl nc5,.int .u16 (t:Int),.int .u32 (S.ttl:Int),.slice a5 nd c5] 54)):=(Below.refl _ w3).alloc (Nat.le_refl _) _
     have hbB4:Below wB.heap.size wB (w3.alloc (.cells #[.slice na5 pl nc5,.int .u16 (t:Int),.int .u32 (S.ttl:Int),.slice a5 nd c5] 54)):=hb3.trans (hb34.mono hb3.size)
     have hI4:=HI2.out.mv hbB4
     have hO4:=HO2.out.kx (KX.of_below (et0:=39) hbB4) (by decide)
     have hT4:=HT2.out.kb (KB.of_below hbB4)
     have hD4:=hO5.bel (fun _ _ h=>h.kb (KB.of_below hb34)) hb34
     have HS:=hide hS
     have hndb:nd<=2000:=by
      have h1:=HND.out
      have h2:(Z.setAt L p t).length<=L.length:=List.length_filter_le _ _
      omega
     clear hb34 hbB4 hb3 hO5 hS q3 hT5 hnc5 hc5 hset
     go_loopw [3,37] (fun v i wr => ∃ q:Nat,i = .int .i64 (q:Int)/\q<=nd/\RIs w (.slice (some ⟨g1,0,none⟩) np c1) P v (M1++((Z.typesAt L p).take k).flatMap (fun t=>Z.setAt L p t)++(Z.setAt L p t).take q) wr/\OwnH wr wA.heap.size (.slice (some ⟨g2,0,none⟩) nt c2) ts/\TyS wr an n/\OwnL 37 1 EB wr wB.heap.size (.slice a5 nd c5) ((Z.setAt L p t).map (·.d))/\RowAt wr w3.heap.size 54 #[.slice na5 pl nc5,.int .u16 (t:Int),.int .u32 (S.ttl:Int),.slice a5 nd c5]) (fun _ i _=>nd - (intOf i).toNat)
     case atStart=>exact⟨0,rfl,Nat.zero_le _,by simpa using hI4,hO4,hT4,hD4,hbx⟩
     case round =>
      obtain⟨q,rfl,hq,hI,hO,hT,hD,hX⟩:=hrel
      clear hI4 hO4 hT4 hD4 hbx
      by_cases hlt3:q<nd
      ·have hqs:q<(Z.setAt L p t).length:=by have:=HND.out;omega
       obtain⟨r,hr⟩ : ∃ r,r=(Z.setAt L p t)[q]:=⟨_,rfl⟩
       have hrm:r∈Z.setAt L p t:=by rw[hr];exact List.getElem_mem hqs
       obtain⟨hrL,hrp,hrt⟩:=Z.mem_setAt.1 hrm
       have httl:r.ttl=S.ttl:=(HZ.out.of.at_ r hrL S (by rw[hrp,hrt];exact HS.out)).1
       have hM3:(Z.setAt L p t).take (q+1)=(Z.setAt L p t).take q ++ [r]:=by rw[hr,List.take_append_getElem]
       obtain⟨g5,rfl,_,_,_,hg5⟩:=hD.get (by rw[List.length_map];omega)
       obtain⟨us5,_,⟨da,dc,rfl,hTd,hnd0,hdc⟩,hus5⟩:=hg5 q r.d (by rw[List.getElem?_map,List.getElem?_eq_getElem hqs, <- hr];rfl)
       obtain⟨dl,hdl⟩ : ∃ dl,dl=r.d.length:=⟨_,rfl⟩
       have hcell5:wr.cell? ⟨g5,q,none⟩=some (.slice da dl dc):=by
        have:=hus5 0 (by omega)
        rw[Nat.mul_one,Nat.add_zero, <- hdl] at this
        exact this
       have x2:wr.cell? ⟨w3.heap.size,2,none⟩=some (.int .u32 (S.ttl:Int)):=hX.cell 2
       have hlen:=HPRE2.out q
       have HI3:=hide hI
       have HO3:=hide hO
       have HT3:=hide hT
       have HD3:=hide hD
       have HX3:=hide hX
       have HR:=hide (show r.p=p/\r.t=t/\r.ttl=S.ttl from ⟨hrp,hrt,httl⟩)
       have HM3:=hide hM3
       have HTD:=hide hTd
       have HDL:=hide hdl
       have HND0:=hide hnd0
       have HLEN:=hide hlen
       clear hI hO hT hD hX hrm hrL hrp hrt httl hM3 hg5 hus5 hTd hdl hr hnd0 hlen
       go_wp2
       go_region_held3 (fun w'=>w'.cell? ⟨w3.heap.size,2,none⟩=some (.int .u32 (S.ttl:Int))) (first | exact x2 | exact y2 | exact y3 | exact y4) ((first
        | (go_at_call 55;refine (nclone_two _ an cn n pl hnl H0N.out (by have:=HPL.out;omega) (by exact HT3.out.1)).mono ?_;rintro e w5 ⟨v6,rfl,hO6,hB5⟩;obtain⟨a6,c6,hv6,hT6,hn6,hc6⟩:=hO6.ty;rw[hnl.out] at hv6 hc6;subst hv6;have HB5:Hid (Below wr.heap.size wr w5):=hide (by first | exact hB5 | exact (below_drewN (Below.refl _ wr) 1).trans hB5);have HT6:=hide hT6;have y2:w5.cell? ⟨w3.heap.size,2,none⟩=some (.int .u32 (S.ttl:Int)):=(HX3.out.below HB5.out HX3.out.lt).cell 2;have y3:(w5.alloc (.cells #[.slice a6 pl c6,.int .u16 (t:Int),.int .u16 1,.int .u32 (S.ttl:Int),.slice da dl dc] 39)).cell? ⟨w3.heap.size,2,none⟩=some (.int .u32 (S.ttl:Int)):=((HX3.out.below HB5.out HX3.out.lt).alloc _).cell 2;have HB6:Hid (Below wr.heap.size wr (w5.alloc (.cells #[.slice a6 pl c6,.int .u16 (t:Int),.int .u16 1,.int .u32 (S.ttl:Int),.slice da dl dc] 39))):=hide (HB5.out.alloc HB5.out.size _);clear hO6 hB5 hT6)
        | (refine step_appL rfl (.tmp 41) (.tmp 49) 31 rfl Tryz.underlying31 _ 56 (info_parts infoRc) rfl (by decide) (by decide) (by decide) w.heap.size _ (M1++((Z.typesAt L p).take k).flatMap (fun t=>Z.setAt L p t)++(Z.setAt L p t).take q) rfl (by exact (HI3.out.mv HB6.out).out) ⟨w5.heap.size,0,none⟩ 1 r [.slice a6 pl c6,.int .u16 (t:Int),.int .u16 1,.int .u32 (S.ttl:Int),.slice da dl dc] rfl (by exact one_cell _ _ #[.slice a6 pl c6,.int .u16 (t:Int),.int .u16 1,.int .u32 (S.ttl:Int),.slice da dl dc] 39 (RowAt.new w5 _ _)) rfl (by simp[Value.oneCell']) (er_mk HR.out HN.out HPL.out HDL.out (HT6.out.kb (KB.alloc _ _)) hc6 hn6 (HTD.out.kb (KB.of_below HB6.out)) HND0.out hdc) (fun _ _ _ k h=>h.kb k) (by have:=HLEN.out;omega) (by exact (HI3.out.bel.trans (HB6.out.mono HI3.out.bel.size)).size) ?_;intro v7 w7 hO7 hK7 hB7;have y4:w7.cell? ⟨w3.heap.size,2,none⟩=some (.int .u32 (S.ttl:Int)):=(((KX.of_below HB6.out).trans hK7).row HX3.out (by decide)).cell 2)))
       all_goals
        have hkx:KX 39 wr w7:=(KX.of_below HB6.out).trans hK7
        have hkb:KB wr w7:=hkx.kb (by decide)
        have hI7:RIs w (.slice (some ⟨g1,0,none⟩) np c1) P v7 (M1++((Z.typesAt L p).take k).flatMap (fun t=>Z.setAt L p t)++(Z.setAt L p t).take (q+1)) w7:=by
         rw[HM3.out, <- List.append_assoc]
         exact (HI3.out.mv HB6.out).add hK7 hB7 hO7
        have hO7b:=HO3.out.kx hkx (by decide)
        have hD7:=HD3.out.kx hkx (fun _ _ h=>h.kb hkb) (by decide)
        have hX7:=hkx.row HX3.out (by decide)
        have HI7:=hide hI7
        have HO7:=hide hO7b
        have HD7:=hide hD7
        have HX7:=hide hX7
        have HT7:=hide (HT3.out.kb hkb)
        clear hI7 hO7b hD7 hX7 hO7 hK7 hB7 hkx hkb
        go_wp2
        exact⟨⟨q+1,by go_num,by omega,by exact HI7.out,by exact HO7.out,by exact HT7.out,by exact HD7.out,by exact HX7.out⟩,by simp[intOf];omega⟩
      ·obtain rfl:q=nd:=by omega
       have e3:(Z.setAt L p t).take q=Z.setAt L p t:=by rw[HND.out];exact List.take_length
       rw[e3,List.append_assoc, <- HM2.out] at hI
       have HI3:=hide hI
       have HO3:=hide hO
       have HT3:=hide hT
       clear hI hO hT hD hX
       go_wp2
       exact⟨⟨k+1,by go_num,by omega,HI3.out,HO3.out,HT3.out⟩,by simp[intOf];omega⟩
    ·obtain rfl:k=nt:=by omega
     rw[<- HNTL.out,List.take_length, <- HFP.out, <- HM1.out] at hI
     have HI2:=hide hI
     clear hI hO hT
     go_wp2
     exact⟨⟨j+1,by go_num,by omega,HI2.out⟩,by simp[intOf];omega⟩
  ·obtain rfl:j=np:=by omega
   go_wp2
   go_ret
   have e:P.take j=P:=by rw[HNP.out];exact List.take_length
   rw[e,HWH.out] at hI
   exact⟨_,rfl,hI.out,hI.bel⟩
open Go.RowKit
namespace Z
theorem chk_len {n:List (List UInt8)} (h:N.chk n=0):n.length<=127:=by
 obtain⟨h1,h2,_⟩:=N.chk_small h
 have : ∀ m:List (List UInt8), [] ∉ m->2*m.length<=(m.map (fun l=>l.length+1)).sum:=fun m=>by
  induction m with
  | nil=>intro _;simp
  | cons a m ih =>
   intro hm
   have h3:=ih (fun h=>hm (by simp[h]))
   have h4:0<a.length:=List.length_pos_iff.2 fun e=>hm (by simp[e])
   rw[List.map_cons,List.sum_cons,List.length_cons];omega
 have:=this n h1
 unfold N.size at h2
 omega
def ttlAt (L:List R) (p:List (List UInt8)) (t:Nat):Nat:=((setAt L p t).head?.map (·.ttl)).getD 0
theorem Of.ttl {L:List R} {C:List (List UInt8)->Nat->Option St} (h:Of L C) (p:List (List UInt8)) (t:Nat):((C p t).map fun S=>S.ttl).getD 0=ttlAt L p t:=by
 unfold ttlAt
 cases hC:C p t with
 | none =>
  have h0:setAt L p t = []:=List.filter_eq_nil_iff.2 fun x hx hk=>by
   have hk:x.p=p/\x.t=t:=by simpa using hk
   exact h.no p t hC x hx hk
  rw[h0];rfl
 | some S =>
  obtain⟨x,hx,e1,e2⟩:=h.ex p t S hC
  cases hs:setAt L p t with
  | nil =>
   have:=mem_setAt.2 ⟨hx,e1,e2⟩
   rw[hs] at this;cases this
  | cons y r =>
   have hy:y∈setAt L p t:=by rw[hs];simp
   obtain⟨hy,e3,e4⟩:=mem_setAt.1 hy
   have:=(h.at_ y hy S (by rw[e3,e4];exact hC)).1
   show S.ttl=y.ttl
   exact this.symm
theorem Of.none_iff {L:List R} {C:List (List UInt8)->Nat->Option St} (h:Of L C) (p:List (List UInt8)) (t:Nat):C p t=none↔setAt L p t = []:=by
 constructor
 ·intro hC
  exact List.filter_eq_nil_iff.2 fun x hx hk=>by
   have hk:x.p=p/\x.t=t:=by simpa using hk
   exact h.no p t hC x hx hk
 ·intro hs
  cases hC:C p t with
  | none=>rfl
  | some S =>
   obtain⟨x,hx,e1,e2⟩:=h.ex p t S hC
   have:=mem_setAt.2 ⟨hx,e1,e2⟩
   rw[hs] at this;cases this
theorem thin_put {L:List R} (h:Thin L) {n:List (List UInt8)} (hg:N.chk n=0) {t ttl:Nat} {c d:List UInt8} : Thin (put L ⟨path n,t,c,ttl,d⟩):=fun x hx l hl=>by
 obtain⟨y,hy,rfl⟩:=mem_put.1 hx
 rw[setT_p] at hl
 rcases hy with hy | ⟨_,rfl⟩
 ·exact h y hy l hl
 ·have hl:l∈path n:=hl
  unfold path at hl
  rw[List.mem_reverse] at hl
  unfold N.lowN at hl
  obtain⟨l0,h0,rfl⟩:=List.mem_map.1 hl
  rw[N.lowL_len]
  exact (N.chk_small hg).2.2 l0 h0
def putR (A:List (List UInt8)) (L:List R) (n:List (List UInt8)) (t cl ttl:Nat) (d:List UInt8):Bool × Nat × List R :=
 if N.chk n≠0\/N.within n A=false then (false,110,L)
 else if cl≠1 then (false,50,L)
 else match cn t d with
 | none=>(false,50,L)
 | some c=>if there L ⟨path n,t,c,ttl,d⟩=true then (if ttlAt L (path n) t=ttl then (false,0,L) else (true,0,put L ⟨path n,t,c,ttl,d⟩))
  else if 2000<=L.length then (false,111,L) else (true,0,put L ⟨path n,t,c,ttl,d⟩)
def dropR (L:List R) (n:List (List UInt8)) (t:Nat) (d:List UInt8):Bool × List R :=
 match cn t d with
 | none=>(false,L)
 | some c=>if there L ⟨path n,t,c,0,d⟩=true then (true,drop L (path n) t c) else (false,L)
end Z
def ZLive (X:Nat->Prop) (w:World) (Zb:Nat) (A:List (List UInt8)) (L:List Z.R) (K:Nat):Prop := ∃ ρ G C,ZAt w Zb A L ρ G C K/\(∀ i,X i->i<w.heap.size/\i≠Zb /\ ρ i = .none)/\Z.Thin L
structure ZKp (X:Nat->Prop) (w w':World):Prop where
 os:w'.os=w.os
 tape:w'.tape=w.tape
 output:w'.output=w.output
 size:w.heap.size<=w'.heap.size
 keep : ∀ i,X i->i<w.heap.size->w'.heap[i]?=w.heap[i]?
 rows : ∀ (g:Nat) (c:Array Value) (et:TypeId) (fr:Nat × Nat),w.heap[g]?=some (Obj.cells c et fr)->et≠106->et≠93->w'.heap[g]?=w.heap[g]?
 sl : ∀ ao l,SlL w ao l->SlL w' ao l
 ss : ∀ ao l,SlS w ao l->SlS w' ao l
theorem ZKp.of_below {X:Nat->Prop} {w w':World} (h:Below w.heap.size w w'):ZKp X w w' :=
 ⟨h.os,h.tape,h.output,h.size,fun i _ hi=>h.block i hi,fun g _ _ _ hg _ _=>h.block g (Array.getElem?_eq_some_iff.1 hg).1,fun _ _ hs=>hs.below h (Nat.le_refl _),fun _ _ hs=>hs.below h (Nat.le_refl _)⟩
theorem ZKp.trans {X:Nat->Prop} {a b c:World} (h:ZKp X a b) (k:ZKp X b c):ZKp X a c :=
 ⟨k.os.trans h.os,k.tape.trans h.tape,k.output.trans h.output,Nat.le_trans h.size k.size,fun i hx hi=>(k.keep i hx (Nat.lt_of_lt_of_le hi h.size)).trans (h.keep i hx hi),fun g c et fr hg h1 h2=>(k.rows g c et fr ((h.rows g c et fr hg h1 h2).trans hg) h1 h2).trans (h.rows g c et fr hg h1 h2),fun _ _ hs=>k.sl _ _ (h.sl _ _ hs),fun _ _ hs=>k.ss _ _ (h.ss _ _ hs)⟩
theorem ZKp.kb {X:Nat->Prop} {w w':World} (h:ZKp X w w'):KB w w':=⟨h.size,fun g c et fr hg he=>(h.rows g c et fr hg (fun e=>by rcases he with rfl | rfl <;> exact absurd e (by decide)) (fun e=>by rcases he with rfl | rfl <;> exact absurd e (by decide))).trans hg⟩
theorem ZKp.row {X:Nat->Prop} {w w':World} (h:ZKp X w w') {g:Nat} {t:TypeId} {c:Array Value} (hr:RowAt w g t c) (h1:t≠106) (h2:t≠93):RowAt w' g t c:=(h.rows g c t _ hr h1 h2).trans hr
theorem ZKp.of_zm {X:Nat->Prop} {w w':World} {Zb:Nat} {A:List (List UInt8)} {L:List Z.R} {ρ : Nat->Role} {G:List (List UInt8)->Option Nd} {C:List (List UInt8)->Nat->Option Z.St} {K:Nat} (Zx:ZAt w Zb A L ρ G C K) (hX : ∀ i,X i->i<w.heap.size/\i≠Zb /\ ρ i = .none) (h:ZM Zb ρ w w'):ZKp X w w':=by
 obtain⟨ao,cap,hz,_,_⟩:=Zx.row
 have hk:=Zx.tree.kind
 refine⟨h.os,h.tape,h.output,h.size,fun i hx hi=>h.block i hi (hX i hx).2.1 (hX i hx).2.2,fun g c et fr hg h1 h2=>?_,fun _ _ hs=>slL_zm h hk hz hs,fun _ _ hs=>slS_zm h hk hz hs⟩
 refine h.block g (Array.getElem?_eq_some_iff.1 hg).1 (fun e=>?_) (Classical.byContradiction fun h0=>?_)
 ·have hz':w.heap[Zb]?=some (Obj.cells #[.slice ao A.length cap,ptr (nodeN G []),.int .i64 (L.length:Int)] 93):=hz
  rw[e,hz'] at hg;injection hg with hg;injection hg with _ hg _;exact h2 hg.symm
 ·rcases hk g h0 with⟨es,k,hb⟩ | ⟨a,b,hb⟩
  ·rw[hb] at hg;cases hg
  ·rw[hb] at hg;injection hg with hg;injection hg with _ hg _;exact h1 hg.symm
theorem ZLive.bel {X:Nat->Prop} {w w':World} {Zb:Nat} {A:List (List UInt8)} {L:List Z.R} {K:Nat} (h:ZLive X w Zb A L K) (hb:Below w.heap.size w w'):ZLive X w' Zb A L K:=by
 obtain⟨ρ,G,C,h1,h2,h3⟩:=h
 exact⟨ρ,G,C,h1.bel hb,fun i hi=>⟨Nat.lt_of_lt_of_le (h2 i hi).1 hb.size,(h2 i hi).2⟩,h3⟩
theorem ZLive.mono {X:Nat->Prop} {w:World} {Zb:Nat} {A:List (List UInt8)} {L:List Z.R} {K K':Nat} (h:ZLive X w Zb A L K) (hk:K<=K'):ZLive X w Zb A L K':=by
 obtain⟨ρ,G,C,h1,h2,h3⟩:=h
 exact⟨ρ,G,C,h1.mono hk,h2,h3⟩
theorem ZLive.lt {X:Nat->Prop} {w:World} {Zb:Nat} {A:List (List UInt8)} {L:List Z.R} {K:Nat} (h:ZLive X w Zb A L K):Zb<w.heap.size:=by
 obtain⟨ρ,G,C,h1,h2,h3⟩:=h;exact h1.lt
theorem znew_live (X:Nat->Prop) (w:World) (hX : ∀ i,X i->i<w.heap.size) (n:List (List UInt8)) (ao:Option Addr) (len cap:Nat) (hl:Hid (n.length=len)) (hs:SlS w ao n) (hm:Hid (N.Small n)) :
 Calls Tryz.prog 11 #[.slice ao len cap] w fun e w' => ∃ Zb,e = .returned (.pointer (some ⟨Zb,0,none⟩))/\w.heap.size<=Zb/\ZLive X w' Zb (N.lowN n) [] 0/\Below w.heap.size w w':=by
 refine (znew_any w n ao len cap hl hs hm).mono ?_
 rintro e w' ⟨Zb, ρ,G,rfl,h1,h2,h3,h4⟩
 exact⟨Zb,rfl,h1,⟨ρ,G,_,h2,fun i hi=>⟨Nat.lt_of_lt_of_le (hX i hi) h4.size,by have:=hX i hi;omega,h3 i (hX i hi)⟩,fun x hx=>(by cases hx)⟩,h4⟩
theorem zput_live {X:Nat->Prop} {w:World} {Zb:Nat} {A:List (List UInt8)} {L:List Z.R} {K:Nat} (Z0:ZLive X w Zb A L K) (hA:Hid (N.Small A)) (n:List (List UInt8)) (na:Option Addr) (nl nc:Nat) (hl:Hid (n.length=nl)) (hnc:nl<=nc) (hs:SlS w na n) (hm:Hid (N.Small n)) (t cl ttl:Nat) (d:List UInt8) (da:Option Addr) (dl dc:Nat) (hdl:Hid (d.length=dl)) (hsd:SlL w da d) (hnd:da=none->dc=0) (hdc:dl<=dc) (ht:t<65536) (httl:ttl<4294967296) (hK:K+nl+2<=1000000) :
 Calls Tryz.prog 45 #[.pointer (some ⟨Zb,0,none⟩),recV na nl nc t cl ttl da dl dc] w fun e w'=>e = .returned (.tuple #[.bool (Z.putR A L n t cl ttl d).1,.int .i64 ((Z.putR A L n t cl ttl d).2.1:Int)])/\ZLive X w' Zb A (Z.putR A L n t cl ttl d).2.2 (K+nl+1)/\ZKp X w w':=by
 have hdl':=hdl.out
 subst hdl'
 have Z0':=Z0
 obtain⟨ρ,G,C,Zx,hX,hth⟩:=Z0
 by_cases hbad:N.chk n≠0\/N.within n A=false
 ·have e:Z.putR A L n t cl ttl d=(false,110,L):=by unfold Z.putR;rw[if_pos hbad]
  rw[e]
  refine (zput_name w Zb A L ρ G C K Zx hA n na nl nc hl hnc hs hm t cl ttl d da dc hsd hnd hdc hbad).mono ?_
  rintro e w' ⟨rfl,hb⟩
  exact⟨rfl,(Z0'.bel hb).mono (by omega),.of_below hb⟩
 ·have hgood:N.chk n=0:=Classical.byContradiction fun h=>hbad (Or.inl h)
  have hwin:N.within n A=true:=by
   cases h:N.within n A with
   | true=>rfl
   | false=>exact absurd (Or.inr h) hbad
  by_cases hcl:cl≠1\/cn t d=none
  ·have e:Z.putR A L n t cl ttl d=(false,50,L):=by
    unfold Z.putR;rw[if_neg hbad]
    by_cases h:cl≠1
    ·rw[if_pos h]
    ·rw[if_neg h,hcl.resolve_left h]
   rw[e]
   refine (zput_data w Zb A L ρ G C K Zx hA n na nl nc hl hnc hs hm t cl ttl d da dc hsd hnd hdc hgood hwin hcl).mono ?_
   rintro e w' ⟨rfl,hb⟩
   exact⟨rfl,(Z0'.bel hb).mono (by omega),.of_below hb⟩
  ·have hc1:cl=1:=Classical.byContradiction fun h=>hcl (Or.inl h)
   subst hc1
   cases hcn:cn t d with
   | none=>exact absurd (Or.inr hcn) hcl
   | some c =>
    have hnl:nl<=128:=by have:=Z.chk_len hgood;have:=hl.out;omega
    have hthe:(Z.got C (path n) t c).isSome=Z.there L ⟨path n,t,c,ttl,d⟩:=Zx.of.got_there ⟨path n,t,c,ttl,d⟩
    have htt:=Z.Of.ttl Zx.of (path n) t
    have e0:Z.putR A L n t 1 ttl d=if Z.there L ⟨path n,t,c,ttl,d⟩=true then (if Z.ttlAt L (path n) t=ttl then (false,0,L) else (true,0,Z.put L ⟨path n,t,c,ttl,d⟩)) else if 2000<=L.length then (false,111,L) else (true,0,Z.put L ⟨path n,t,c,ttl,d⟩):=by
     unfold Z.putR;rw[if_neg hbad,if_neg (by simp),hcn]
    refine (zput_good w Zb A L ρ G C K Zx hA n na nl nc hl hnc hs hm t ttl d da dc hsd hnd hdc ht c hgood hwin hcn httl hnl hK).mono ?_
    rintro e w' ⟨b,cd,rfl,⟨rfl,hb,⟨rfl,h1,h2⟩ | ⟨rfl,h1,h2⟩⟩ | ⟨rfl,rfl,h1,h2, ρ',G',hZ,hmore,hzm⟩⟩
    ·have e:Z.putR A L n t 1 ttl d=(false,0,L):=by rw[e0,if_pos (by rw[<- hthe];exact h1),if_pos (by rw[<- htt];exact h2)]
     rw[e]
     exact⟨rfl,(Z0'.bel hb).mono (by omega),.of_below hb⟩
    ·have e:Z.putR A L n t 1 ttl d=(false,111,L):=by rw[e0,if_neg (by rw[<- hthe,h1];simp),if_pos h2]
     rw[e]
     exact⟨rfl,(Z0'.bel hb).mono (by omega),.of_below hb⟩
    ·have e:Z.putR A L n t 1 ttl d=(true,0,Z.put L ⟨path n,t,c,ttl,d⟩):=by
      rw[e0]
      by_cases ht:Z.there L ⟨path n,t,c,ttl,d⟩=true
      ·rw[if_pos ht,if_neg (fun h=>h1 ⟨by rw[hthe];exact ht,by rw[htt];exact h⟩)]
      ·rw[if_neg ht,if_neg (fun h=>h2 ⟨?_,h⟩)]
       cases hg:Z.got C (path n) t c with
       | none=>rfl
       | some z=>rw[hg] at hthe;exact absurd hthe.symm ht
     rw[e]
     exact⟨rfl,⟨ρ',G',_,hZ,fun i hi=>⟨Nat.lt_of_lt_of_le (hX i hi).1 hzm.size,(hX i hi).2.1,by rw[hmore i (hX i hi).1];exact (hX i hi).2.2⟩,Z.thin_put hth hgood⟩,.of_zm Zx hX hzm⟩
theorem zdrop_live {X:Nat->Prop} {w:World} {Zb:Nat} {A:List (List UInt8)} {L:List Z.R} {K:Nat} (Z0:ZLive X w Zb A L K) (n:List (List UInt8)) (na:Option Addr) (nl nc:Nat) (hl:Hid (n.length=nl)) (hs:SlS w na n) (hm:Hid (N.Small n)) (t cl ttl:Nat) (d:List UInt8) (da:Option Addr) (dl dc:Nat) (hdl:Hid (d.length=dl)) (hsd:SlL w da d) (hnd:da=none->dc=0) (hdc:dl<=dc) (ht:t<65536) :
 Calls Tryz.prog 50 #[.pointer (some ⟨Zb,0,none⟩),recV na nl nc t cl ttl da dl dc] w fun e w'=>e = .returned (.bool (Z.dropR L n t d).1)/\ZLive X w' Zb A (Z.dropR L n t d).2 K/\ZKp X w w':=by
 have hdl':=hdl.out
 subst hdl'
 have Z0':=Z0
 obtain⟨ρ,G,C,Zx,hX,hth⟩:=Z0
 refine (zdrop_any w Zb A L ρ G C K Zx n na nl nc hl hs hm t cl ttl d da dc hsd hnd hdc ht).mono ?_
 rintro e w' ⟨b,rfl,⟨rfl,hb,hno⟩ | ⟨rfl,c,hcn,hg,G',C',hZ,hzm⟩⟩
 ·have e:Z.dropR L n t d=(false,L):=by
   unfold Z.dropR
   rcases hno with h | ⟨c,h1,h2⟩
   ·rw[h]
   ·rw[h1]
    have hth:(Z.got C (path n) t c).isSome=Z.there L ⟨path n,t,c,0,d⟩:=Zx.of.got_there ⟨path n,t,c,0,d⟩
    rw[h2] at hth
    show (if _ then _ else _)=_
    rw[if_neg (by rw[<- hth];simp)]
  rw[e]
  exact⟨rfl,Z0'.bel hb,.of_below hb⟩
 ·have e:Z.dropR L n t d=(true,Z.drop L (path n) t c):=by
   unfold Z.dropR
   rw[hcn]
   have hth:(Z.got C (path n) t c).isSome=Z.there L ⟨path n,t,c,0,d⟩:=Zx.of.got_there ⟨path n,t,c,0,d⟩
   show (if _ then _ else _)=_
   rw[if_pos (by rw[<- hth];exact hg)]
  rw[e]
  exact⟨rfl,⟨ρ,G',C',hZ,fun i hi=>⟨Nat.lt_of_lt_of_le (hX i hi).1 hzm.size,(hX i hi).2⟩,fun x hx=>hth x (Z.mem_drop.1 hx).1⟩,.of_zm Zx hX hzm⟩
theorem zdropSet_live {X:Nat->Prop} {w:World} {Zb:Nat} {A:List (List UInt8)} {L:List Z.R} {K:Nat} (Z0:ZLive X w Zb A L K) (hK:K<=1000000) (n:List (List UInt8)) (ao:Option Addr) (len cap:Nat) (hl:Hid (n.length=len)) (hs:SlS w ao n) (hm:Hid (N.Small n)) (t:Nat) (ht:t<65536) :
 Calls Tryz.prog 52 #[.pointer (some ⟨Zb,0,none⟩),.slice ao len cap,.int .u16 (t:Int)] w fun e w'=>e = .returned (.int .i64 ((L.length - (Z.dropSet L (path n) t).length:Nat):Int))/\ZLive X w' Zb A (Z.dropSet L (path n) t) K/\ZKp X w w':=by
 obtain⟨ρ,G,C,Zx,hX,hth⟩:=Z0
 refine (zdropSet_any w Zb A L ρ G C K Zx hK n ao len cap hl hs hm t ht).mono ?_
 rintro e w' ⟨rfl,G',C',hZ,hzm⟩
 exact⟨rfl,⟨ρ,G',C',hZ,fun i hi=>⟨Nat.lt_of_lt_of_le (hX i hi).1 hzm.size,(hX i hi).2⟩,fun x hx=>hth x (Z.mem_dropSet.1 hx).1⟩,.of_zm Zx hX hzm⟩
theorem zlen_live {X:Nat->Prop} {w:World} {Zb:Nat} {A:List (List UInt8)} {L:List Z.R} {K:Nat} (Z0:ZLive X w Zb A L K):Calls Tryz.prog 14 #[.pointer (some ⟨Zb,0,none⟩)] w fun e w'=>e = .returned (.int .i64 (L.length:Int))/\w'=w:=by
 obtain⟨ρ,G,C,Zx,hX,hth⟩:=Z0
 exact zlen_any w Zb A L ρ G C K Zx
theorem zhas_live {X:Nat->Prop} {w:World} {Zb:Nat} {A:List (List UInt8)} {L:List Z.R} {K:Nat} (Z0:ZLive X w Zb A L K) (n:List (List UInt8)) (ao:Option Addr) (len cap:Nat) (hl:Hid (n.length=len)) (hs:SlS w ao n) (hm:Hid (N.Small n)) :
 Calls Tryz.prog 29 #[.pointer (some ⟨Zb,0,none⟩),.slice ao len cap] w fun e w'=>e = .returned (.bool (Z.has L (path n)))/\Below w.heap.size w w':=by
 obtain⟨ρ,G,C,Zx,hX,hth⟩:=Z0
 exact zhas_any w Zb A L ρ G C K Zx n ao len cap hl hs hm
def SetR (w:World) (L:List Z.R) (n:List (List UInt8)) (nl t:Nat) (e:Ending) (w':World):Prop :=
 Below w.heap.size w w'/\((Z.setAt L (path n) t = []/\e = .returned (.tuple #[asetZ,.bool false])) \/
  (Z.setAt L (path n) t ≠ [] /\ ∃ (na:Option Addr) (nc:Nat) (v:Value),e = .returned (.tuple #[.agg #[.slice na nl nc,.int .u16 (t:Int),.int .u32 (Z.ttlAt L (path n) t:Int),v],.bool true])/\TyS w' na (N.lowN n)/\nl<=nc/\OwnL 37 1 EB w' w.heap.size v ((Z.setAt L (path n) t).map (·.d))))
theorem zset_live {X:Nat->Prop} {w:World} {Zb:Nat} {A:List (List UInt8)} {L:List Z.R} {K:Nat} (Z0:ZLive X w Zb A L K) (hK:K<=1000000) (n:List (List UInt8)) (ao:Option Addr) (len cap:Nat) (hl:Hid (n.length=len)) (hs:SlS w ao n) (hm:Hid (N.Small n)) (t:Nat) (ht:t<65536) :
 Calls Tryz.prog 23 #[.pointer (some ⟨Zb,0,none⟩),.slice ao len cap,.int .u16 (t:Int)] w fun e w'=>SetR w L n len t e w':=by
 obtain⟨ρ,G,C,Zx,hX,hth⟩:=Z0
 refine (zset_any w Zb A L ρ G C K Zx hK n ao len cap hl hs hm t ht).mono ?_
 rintro e w' ⟨hb,⟨hC,rfl⟩ | ⟨S,na,nc,v,hC,rfl,h1,h2,h3⟩⟩
 ·exact⟨hb,Or.inl ⟨(Z.Of.none_iff Zx.of _ _).1 hC,rfl⟩⟩
 ·have htt:=Z.Of.ttl Zx.of (path n) t
  rw[hC] at htt
  have htt:S.ttl=Z.ttlAt L (path n) t:=htt
  refine⟨hb,Or.inr ⟨fun h=>?_,na,nc,v,by rw[htt],h1,h2,h3⟩⟩
  rw[(Z.Of.none_iff Zx.of _ _).2 h] at hC;cases hC
theorem ztypes_live {X:Nat->Prop} {w:World} {Zb:Nat} {A:List (List UInt8)} {L:List Z.R} {K:Nat} (Z0:ZLive X w Zb A L K) (hK:K<=1000000) (n:List (List UInt8)) (ao:Option Addr) (len cap:Nat) (hl:Hid (n.length=len)) (hs:SlS w ao n) (hm:Hid (N.Small n)) :
 Calls Tryz.prog 32 #[.pointer (some ⟨Zb,0,none⟩),.slice ao len cap] w fun e w' => ∃ v,e = .returned v /\ ∃ ts:List UInt16,ts.map (·.toNat)=Z.typesAt L (path n)/\OwnH w' w.heap.size v ts/\Below w.heap.size w w':=by
 obtain⟨ρ,G,C,Zx,hX,hth⟩:=Z0
 exact ztypes_any w Zb A L ρ G C K Zx hK n ao len cap hl hs hm
theorem zrecords_live {X:Nat->Prop} {w:World} {Zb:Nat} {A:List (List UInt8)} {L:List Z.R} {K:Nat} (Z0:ZLive X w Zb A L K) (hK:K<=1000000) :
 Calls Tryz.prog 16 #[.pointer (some ⟨Zb,0,none⟩)] w fun e w' => ∃ v,e = .returned v/\OwnL 39 5 ER w' w.heap.size v L/\Below w.heap.size w w':=by
 obtain⟨ρ,G,C,Zx,hX,hth⟩:=Z0
 exact zrecords_any w Zb A L ρ G C K Zx hK hth
theorem ZKp.below {X:Nat->Prop} {w w':World} {B:Nat} (h:ZKp X w w') (hX : ∀ i,i<B->X i) (hB:B<=w.heap.size):Below B w w' :=
 ⟨h.os,h.tape,h.output,h.size,fun i hi=>h.keep i (hX i hi) (Nat.lt_of_lt_of_le hi hB)⟩
open Go.RowKit
theorem list4 : ∀ {b:List UInt8},4<=b.length -> ∃ x0 x1 x2 x3 r,b=x0::x1::x2::x3::r
 | x0::x1::x2::x3::r,_=>⟨x0,x1,x2,x3,r,rfl⟩
 | [],h=>by simp at h
 | [_],h=>by simp at h
 | [_,_],h=>by simp at h
 | [_,_,_],h=>by simp at h
theorem cut_hd {w:World} {b o:Nat} {l:List UInt8} {len cap:Nat} (k:Nat) (hs:SlL w (some ⟨b,o,none⟩) l) (hl:l.length=len) (hk:k<=len) (hc:len<=cap) :
 ∃ ad,(∀ W,(Instr.slice 37 (.slice (some ⟨b,o,none⟩) len cap) none (some (.int .i64 (k:Int))) none).run Tryz.prog W = .ok (.slice (some ad) k cap) W)/\SlL w (some ad) (l.take k):=by
 subst hl
 have h:=hs.slB
 refine⟨if cap=0 then ⟨b,o,none⟩ else (⟨b,o,none⟩:Addr).add (0*1),fun W=>?_,?_⟩
 ·rw[run_slice_h W 37 _ l.length cap Tryz.underlying37 .i64 (k:Int) (by omega) (by omega)]
  have hz:(sizeOf (Tryz.prog.elem 37)).run Tryz.prog W = .ok 1 W:=Tryz.sizeOf5 W
  rw[hz]
  simp only[Result.andThen,sliced,Int.toNat_natCast,Nat.sub_zero,Option.map_some]
  split <;> rfl
 ·have:=SlB.sl (h.part (k:=0) (cap:=cap) k (by omega) hc) (Nat.le_refl _)
  rw[List.drop_zero] at this
  split
  ·rename_i h0;rwa [if_pos h0] at this
  ·rename_i h0;rwa [if_neg h0,Option.map_some] at this
theorem cut_tl {w:World} {b o:Nat} {l:List UInt8} {len cap:Nat} (k:Nat) (hs:SlL w (some ⟨b,o,none⟩) l) (hl:l.length=len) (hk:k<=len) (hc:len<=cap) :
 ∃ ad,(∀ W,(Instr.slice 37 (.slice (some ⟨b,o,none⟩) len cap) (some (.int .i64 (k:Int))) none none).run Tryz.prog W = .ok (.slice (some ad) (len - k) (cap - k)) W)/\SlL w (some ad) (l.drop k):=by
 subst hl
 have h:=hs.slB
 refine⟨if cap=k then ⟨b,o,none⟩ else (⟨b,o,none⟩:Addr).add (k*1),fun W=>?_,?_⟩
 ·rw[run_slice_l W 37 _ l.length cap Tryz.underlying37 .i64 (k:Int) (by omega) (by omega)]
  have hz:(sizeOf (Tryz.prog.elem 37)).run Tryz.prog W = .ok 1 W:=Tryz.sizeOf5 W
  rw[hz]
  simp only[Result.andThen,sliced,Int.toNat_natCast,Option.map_some]
  split <;> rfl
 ·have:=SlB.sl (h.part (k:=k) (cap:=cap) (l.length - k) (by omega) hc) (Nat.le_refl _)
  rw[List.take_of_length_le (by rw[List.length_drop];omega)] at this
  split
  ·rename_i h0;rwa [if_pos h0] at this
  ·rename_i h0;rwa [if_neg h0,Option.map_some] at this
theorem cut_mid {w:World} {b o:Nat} {l:List UInt8} {len cap:Nat} (k m:Nat) (hs:SlL w (some ⟨b,o,none⟩) l) (hl:l.length=len) (hk:k+m<=len) (hc:len<=cap) :
 ∃ ad,(∀ W,(Instr.slice 37 (.slice (some ⟨b,o,none⟩) len cap) (some (.int .i64 (k:Int))) (some (.int .i64 ((k+m:Nat):Int))) none).run Tryz.prog W = .ok (.slice (some ad) m (cap - k)) W)/\SlL w (some ad) ((l.drop k).take m):=by
 subst hl
 have h:=hs.slB
 refine⟨if cap=k then ⟨b,o,none⟩ else (⟨b,o,none⟩:Addr).add (k*1),fun W=>?_,?_⟩
 ·rw[run_slice_lh W 37 _ l.length cap Tryz.underlying37 .i64 .i64 (k:Int) ((k+m:Nat):Int) (by omega) (by omega) (by omega)]
  have hz:(sizeOf (Tryz.prog.elem 37)).run Tryz.prog W = .ok 1 W:=Tryz.sizeOf5 W
  rw[hz]
  simp only[Result.andThen,sliced,Int.toNat_natCast,Option.map_some]
  rw[show k+m - k=m by omega]
  split <;> rfl
 ·have:=SlB.sl (h.part (k:=k) (cap:=cap) m (by omega) hc) (Nat.le_refl _)
  split
  ·rename_i h0;rwa [if_pos h0] at this
  ·rename_i h0;rwa [if_neg h0,Option.map_some] at this
set_option maxHeartbeats 1600000 in
theorem sKey_any (b:List UInt8) (ao:Option Addr) (len cap:Nat) (w:World) (hl:Hid (b.length=len)) (hs:SlL w ao b) (hc:len<=cap) (h8:len<=8192) :
 Calls Tryz.prog 124 #[.slice ao len cap] w fun e w'=>Ans (D.full b (D.key b)) KeyV (.agg #[.int .u16 0,.int .u8 0,.int .u8 0,.slice none 0 0]) w e w':=by
 rcases Nat.lt_or_ge len 4 with hlt | hge
 ·have hlt':(len:Int)<4:=by omega
  have HF:Hid (D.full b (D.key b)=none):=by
   refine D.full_none ?_
   have hl':=hl.out
   match b with
   | []=>rfl
   | [x]=>rfl
   | [x,y]=>rfl
   | [x,y,z]=>rfl
   | x::y::z::u::r=>simp at hl';omega
  have hb0:=(Below.refl w.heap.size w).alloc (Nat.le_refl _) (.cells #[.int .u16 0,.int .u8 0,.int .u8 0,.slice none 0 0] 181)
  have R0:=RowAt.new w 181 #[.int .u16 0,.int .u8 0,.int .u8 0,.slice none 0 0]
  have HB:=hide hb0
  have HR:=hide R0
  clear hs hb0 R0
  go_enter Tryz.func124,Tryz.ntmps124
  go_wp2
  generalize (w.alloc (.cells #[.int .u16 0,.int .u8 0,.int .u8 0,.slice none 0 0] 181))=F at HB HR ⊢
  have q0:F.cell? ⟨w.heap.size,0,none⟩=some (.int .u16 0):=HR.out.cell 0
  have q1:F.cell? ⟨w.heap.size,1,none⟩=some (.int .u8 0):=HR.out.cell 1
  have q2:F.cell? ⟨w.heap.size,2,none⟩=some (.int .u8 0):=HR.out.cell 2
  have q3:F.cell? ⟨w.heap.size,3,none⟩=some (.slice none 0 0):=HR.out.cell 3
  simp[bodyPost,results,Tryz.results124,go_sem,q0,q1,q2,q3]
  exact⟨Or.inr ⟨HF.out,rfl⟩,HB.out⟩
 ·have hge' : ¬ (len:Int)<4:=by omega
  have hl':=hl.out
  obtain⟨x0,x1,x2,x3,r,rfl⟩:=list4 (by omega:4<=b.length)
  obtain⟨blk,o,rfl,hblt,hcell⟩:=hs (by simp)
  have hb0:=(Below.refl w.heap.size w).alloc (Nat.le_refl _) (.cells #[.int .u16 0,.int .u8 0,.int .u8 0,.slice none 0 0] 181)
  have c2:w.cell? ⟨blk,o+2,none⟩=some (.int .u8 (x2.toNat:Int)):=hcell 2 (by simp)
  have c3:w.cell? ⟨blk,o+3,none⟩=some (.int .u8 (x3.toNat:Int)):=hcell 3 (by simp)
  obtain⟨ad1,r1,s1⟩:=cut_hd 2 hs hl.out (by omega) hc
  obtain⟨ad2,r2,s2⟩:=cut_tl 4 hs hl.out (by omega) hc
  replace r1 : ∀ W,(Instr.slice 37 (.slice (some ⟨blk,o,none⟩) len cap) none (some (.int .i64 2)) none).run Tryz.prog W = .ok (.slice (some ad1) 2 cap) W:=r1
  replace r2 : ∀ W,(Instr.slice 37 (.slice (some ⟨blk,o,none⟩) len cap) (some (.int .i64 4)) none none).run Tryz.prog W = .ok (.slice (some ad2) (len - 4) (cap - 4)) W:=r2
  have S1:Hid (SlL w (some ad1) [x0,x1]):=s1
  have S2:Hid (SlL w (some ad2) r):=s2
  have hrl:Hid (r.length=len - 4):=by simp at hl';show _=_;omega
  have hrl2:r.length<=8192:=by simp at hl';omega
  have hw16:IntKind.u16.wrap (D.gv [x0,x1]:Int)=(D.gv [x0,x1]:Int):=by
   have:=D.gv_lt [x0,x1]
   rw[IntKind.wrap_u16]
   simp at this;omega
  have HF:Hid (D.full (x0::x1::x2::x3::r) (D.key (x0::x1::x2::x3::r))=some ⟨D.gv [x0,x1],x2.toNat,x3.toNat,r⟩) :=
   D.full_some (by rw[hl.out];exact h8) (by unfold D.key;rw[D.n16_gv];rfl)
  have C2:=hide c2
  have C3:=hide c3
  have e2:(w.alloc (.cells #[.int .u16 0,.int .u8 0,.int .u8 0,.slice none 0 0] 181)).cell? ⟨blk,o+2,none⟩=some (.int .u8 (x2.toNat:Int)):=(hb0.cell (p:=⟨blk,o+2,none⟩) hblt).trans c2
  have e3:(w.alloc (.cells #[.int .u16 0,.int .u8 0,.int .u8 0,.slice none 0 0] 181)).cell? ⟨blk,o+3,none⟩=some (.int .u8 (x3.toNat:Int)):=(hb0.cell (p:=⟨blk,o+3,none⟩) hblt).trans c3
  have HB:=hide hb0
  have HR:=hide (RowAt.new w 181 #[.int .u16 0,.int .u8 0,.int .u8 0,.slice none 0 0])
  have i2:(2:Int)<(len:Int):=by omega
  have i3:(3:Int)<(len:Int):=by omega
  clear hs hb0 c2 c3 hcell s1 s2
  have hget : ∀ W,SlL W (some ad1) [x0,x1]->Calls Tryz.prog 161 #[.slice (some ad1) 2 cap] W fun e w'=>e = .returned (.int .u32 (D.gv [x0,x1]:Int))/\w'=W:=fun W h=>get_any [x0,x1] (some ad1) 2 cap W rfl h (by omega)
  generalize D.gv [x0,x1]=g at hw16 HF hget
  go_enter Tryz.func124,Tryz.ntmps124
  go_wp2
  go_region_law (first
   | (refine step_fn 161 _ _ rfl rfl #[.slice (some ad1) 2 cap] (by go_simp) (hget _ (by first | exact S1.out.alloc _ | exact S1.out.below B4.out (Nat.le_refl _))) (by rintro e w' ⟨rfl,_⟩;exact⟨_,rfl⟩) ?_;rintro v1 w1 ⟨he,rfl⟩;cases he)
   | (refine step_append_B rfl (.const (.slice none 0 0)) (.tmp 19) rfl w.heap.size (.slice none 0 0) [] rfl (OwnB.nil _ _) ad2 (len - 4) (cap - 4) r (by rfl) hrl.out (by exact S2.out.alloc _) (by simp;omega) (by simp) ?_;intro v4 w4 hO4 hG4;obtain⟨a4,c4,rfl,_,_,_⟩:=hO4.open;have K4:=hide (Kp.grown (OwnB.nil _ w.heap.size) hG4 (by simp));have B4:=hide (HB.out.drew.trans K4.out.1);have R4:=hide (K4.out.2 _ _ _ HR.out (by decide));have d2:w4.cell? ⟨blk,o+2,none⟩=some (.int .u8 (x2.toNat:Int)):=(B4.out.cell (p:=⟨blk,o+2,none⟩) hblt).trans C2.out;have d3:w4.cell? ⟨blk,o+3,none⟩=some (.int .u8 (x3.toNat:Int)):=(B4.out.cell (p:=⟨blk,o+3,none⟩) hblt).trans C3.out;have O4:=hide hO4;have k0:w4.cell? ⟨w.heap.size,0,none⟩=some (.int .u16 0):=R4.out.cell 0;have k1:w4.cell? ⟨w.heap.size,1,none⟩=some (.int .u8 0):=R4.out.cell 1;have k2:w4.cell? ⟨w.heap.size,2,none⟩=some (.int .u8 0):=R4.out.cell 2;have k3:w4.cell? ⟨w.heap.size,3,none⟩=some (.slice none 0 0):=R4.out.cell 3;have f0:=R4.out.frozen 0;have f1:=R4.out.frozen 1;have f2:=R4.out.frozen 2;have f3:=R4.out.frozen 3;clear hO4 hG4 K4))
  all_goals
   have E0:=R4.out
   have E1:RowAt ((w4).setCell ⟨w.heap.size,0,none⟩ (.int .u16 (g:Int))) w.heap.size 181 #[.int .u16 (g:Int),.int .u8 0,.int .u8 0,.slice none 0 0]:=E0.set 0 _
   have E2:RowAt (((w4).setCell ⟨w.heap.size,0,none⟩ (.int .u16 (g:Int))).setCell ⟨w.heap.size,1,none⟩ (.int .u8 (x2.toNat:Int))) w.heap.size 181 #[.int .u16 (g:Int),.int .u8 (x2.toNat:Int),.int .u8 0,.slice none 0 0]:=E1.set 1 _
   have E3:RowAt ((((w4).setCell ⟨w.heap.size,0,none⟩ (.int .u16 (g:Int))).setCell ⟨w.heap.size,1,none⟩ (.int .u8 (x2.toNat:Int))).setCell ⟨w.heap.size,2,none⟩ (.int .u8 (x3.toNat:Int))) w.heap.size 181 #[.int .u16 (g:Int),.int .u8 (x2.toNat:Int),.int .u8 (x3.toNat:Int),.slice none 0 0]:=E2.set 2 _
   have E4:RowAt (((((w4).setCell ⟨w.heap.size,0,none⟩ (.int .u16 (g:Int))).setCell ⟨w.heap.size,1,none⟩ (.int .u8 (x2.toNat:Int))).setCell ⟨w.heap.size,2,none⟩ (.int .u8 (x3.toNat:Int))).setCell ⟨w.heap.size,3,none⟩ (.slice a4 r.length c4)) w.heap.size 181 #[.int .u16 (g:Int),.int .u8 (x2.toNat:Int),.int .u8 (x3.toNat:Int),.slice a4 r.length c4]:=E3.set 3 _
   have UE:Upd w.heap.size w4 (((((w4).setCell ⟨w.heap.size,0,none⟩ (.int .u16 (g:Int))).setCell ⟨w.heap.size,1,none⟩ (.int .u8 (x2.toNat:Int))).setCell ⟨w.heap.size,2,none⟩ (.int .u8 (x3.toNat:Int))).setCell ⟨w.heap.size,3,none⟩ (.slice a4 r.length c4)):=(((((Upd.refl w.heap.size w4).set 0 (.int .u16 (g:Int))).set 1 (.int .u8 (x2.toNat:Int))).set 2 (.int .u8 (x3.toNat:Int))).set 3 (.slice a4 r.length c4))
   have HE:=hide E4
   have HU:=hide UE
   clear E0 E1 E2 E3 E4 UE
   go_wp2
   obtain⟨F,hwo⟩ : ∃ F,F=wof HE.out:=⟨_,rfl⟩
   unfold wof at hwo
   rw[<- hwo] at HE HU ⊢
   clear hwo
   have q0:F.cell? ⟨w.heap.size,0,none⟩=some (.int .u16 (g:Int)):=HE.out.cell 0
   have q1:F.cell? ⟨w.heap.size,1,none⟩=some (.int .u8 (x2.toNat:Int)):=HE.out.cell 1
   have q2:F.cell? ⟨w.heap.size,2,none⟩=some (.int .u8 (x3.toNat:Int)):=HE.out.cell 2
   have q3:F.cell? ⟨w.heap.size,3,none⟩=some (.slice a4 r.length c4):=HE.out.cell 3
   simp[bodyPost,results,Tryz.results124,go_sem,q0,q1,q2,q3]
   exact⟨Or.inl ⟨_,_,HF.out,rfl,⟨_,_,rfl,HU.out.own R4.out (by decide) O4.out⟩⟩,B4.out.trans (HU.out.below (Nat.le_refl _))⟩
open Go.RowKit
theorem nil_grown {w w':World} (h:w.drew.grownBy w' (Value.slice none 0 0).ownBlock):Below w.heap.size w w':=⟨h.os,h.tape,h.output,h.size,fun k hk=>h.block k hk (by simp[Value.ownBlock])⟩
theorem cell_far {W:World} {b g j o:Nat} {v:Value} (h:b≠g):(W.setCell ⟨g,j,none⟩ v).cell? ⟨b,o,none⟩=W.cell? ⟨b,o,none⟩:=World.cell?_of_block (w:=W) (a:=⟨b,o,none⟩) (Below.heap_setCell _ _ _ _ h)
theorem Upd.drew {g:Nat} {W F:World} (h:Upd g W F):Upd g W F.drew:=h
theorem RowAt.drew {w:World} {g t:Nat} {c:Array Value} (h:RowAt w g t c):RowAt w.drew g t c:=h
theorem row_facts9 {w:World} {g t:Nat} {c0 c1 c2 c3 c4 c5 c6 c7 c8:Value} (h:RowAt w g t #[c0,c1,c2,c3,c4,c5,c6,c7,c8]):w.cell? ⟨g,0,none⟩=some c0/\w.cell? ⟨g,1,none⟩=some c1/\w.cell? ⟨g,2,none⟩=some c2/\w.cell? ⟨g,3,none⟩=some c3/\w.cell? ⟨g,4,none⟩=some c4/\w.cell? ⟨g,5,none⟩=some c5/\w.cell? ⟨g,6,none⟩=some c6/\w.cell? ⟨g,7,none⟩=some c7/\w.cell? ⟨g,8,none⟩=some c8/\w.frozen? ⟨g,0,none⟩=false/\w.frozen? ⟨g,1,none⟩=false/\w.frozen? ⟨g,2,none⟩=false/\w.frozen? ⟨g,3,none⟩=false/\w.frozen? ⟨g,4,none⟩=false/\w.frozen? ⟨g,5,none⟩=false/\w.frozen? ⟨g,6,none⟩=false/\w.frozen? ⟨g,7,none⟩=false/\w.frozen? ⟨g,8,none⟩=false :=
 ⟨h.cell 0,h.cell 1,h.cell 2,h.cell 3,h.cell 4,h.cell 5,h.cell 6,h.cell 7,h.cell 8,h.frozen 0,h.frozen 1,h.frozen 2,h.frozen 3,h.frozen 4,h.frozen 5,h.frozen 6,h.frozen 7,h.frozen 8⟩
theorem row_facts6 {w:World} {g t:Nat} {c0 c1 c2 c3 c4 c5:Value} (h:RowAt w g t #[c0,c1,c2,c3,c4,c5]):w.cell? ⟨g,0,none⟩=some c0/\w.cell? ⟨g,1,none⟩=some c1/\w.cell? ⟨g,2,none⟩=some c2/\w.cell? ⟨g,3,none⟩=some c3/\w.cell? ⟨g,4,none⟩=some c4/\w.cell? ⟨g,5,none⟩=some c5/\w.frozen? ⟨g,0,none⟩=false/\w.frozen? ⟨g,1,none⟩=false/\w.frozen? ⟨g,2,none⟩=false/\w.frozen? ⟨g,3,none⟩=false/\w.frozen? ⟨g,4,none⟩=false/\w.frozen? ⟨g,5,none⟩=false :=
 ⟨h.cell 0,h.cell 1,h.cell 2,h.cell 3,h.cell 4,h.cell 5,h.frozen 0,h.frozen 1,h.frozen 2,h.frozen 3,h.frozen 4,h.frozen 5⟩
namespace D
theorem n8_take {l:List UInt8} (h:1<=l.length):n8 l=some ((l.getD 0 0).toNat,l.drop 1):=by
 match l with
 | x::r=>rfl
 | []=>simp at h
theorem n16_take {l:List UInt8} (h:2<=l.length):n16 l=some (gv (l.take 2),l.drop 2):=by
 match l with
 | x::y::r=>exact n16_gv x y r
 | [x]=>simp at h
 | []=>simp at h
theorem n32_take {l:List UInt8} (h:4<=l.length):n32 l=some (gv (l.take 4),l.drop 4):=by
 obtain⟨x,y,z,u,r,rfl⟩:=list4 h
 exact n32_gv x y z u r
theorem soa_len {l r1 r2 r:List UInt8} {m x:List (List UInt8)} {s:Soa} (h1:nm l=some (m,r1)) (h2:nm r1=some (x,r2)) (h:soa l=some (s,r)):r2.length=20+r.length:=by
 simp only[soa,Option.bind_eq_some_iff,Option.map_eq_some_iff,Prod.exists] at h
 obtain⟨m',q1,g1,x',q2,g2,a,r3,h3,b,r4,h4,c,r5,h5,d,r6,h6,e,r7,h7,h⟩:=h
 rw[h1] at g1;cases g1
 rw[h2] at g2;cases g2
 cases h
 have l3:=congrArg List.length (n32_back h3).1
 have l4:=congrArg List.length (n32_back h4).1
 have l5:=congrArg List.length (n32_back h5).1
 have l6:=congrArg List.length (n32_back h6).1
 have l7:=congrArg List.length (n32_back h7).1
 simp only[List.length_append,p32_len] at l3 l4 l5 l6 l7
 omega
theorem soa_ref {l r1 r2:List UInt8} {m x:List (List UInt8)} (h1:nm l=some (m,r1)) (h2:nm r1=some (x,r2)) (h:r2.length=20) :
 soa l=some (⟨m,x,gv (r2.take 4),gv ((r2.drop 4).take 4),gv ((r2.drop 8).take 4),gv ((r2.drop 12).take 4),gv (r2.drop 16)⟩, []):=by
 unfold soa
 rw[h1];simp only[Option.bind_some]
 rw[h2];simp only[Option.bind_some]
 rw[n32_take (by omega)];simp only[Option.bind_some]
 rw[n32_take (by rw[List.length_drop];omega)];simp only[Option.bind_some,List.drop_drop]
 rw[n32_take (by rw[List.length_drop];omega)];simp only[Option.bind_some,List.drop_drop]
 rw[n32_take (by rw[List.length_drop];omega)];simp only[Option.bind_some,List.drop_drop]
 rw[n32_take (by rw[List.length_drop];omega)];simp only[Option.map_some,List.drop_drop]
 have e1:(r2.drop 16).take 4=r2.drop 16:=List.take_of_length_le (by rw[List.length_drop];omega)
 have e2:r2.drop 20 = []:=List.drop_eq_nil_of_le (by omega)
 show some ((⟨m,x,gv (r2.take 4),gv ((r2.drop 4).take 4),gv ((r2.drop 8).take 4),gv ((r2.drop 12).take 4),gv ((r2.drop 16).take 4)⟩:Soa),r2.drop 20)=_
 rw[e1,e2]
theorem soa_not {l r1 r2:List UInt8} {m x:List (List UInt8)} (h1:nm l=some (m,r1)) (h2:nm r1=some (x,r2)) (h:r2.length≠20):full l (soa l)=none:=by
 cases hh:full l (soa l) with
 | none=>rfl
 | some s =>
  have:=soa_len h1 h2 (full_iff.1 hh).2
  simp at this;omega
theorem soa_no1 {l:List UInt8} (h1:nm l=none):full l (soa l)=none:=full_none (by unfold soa;rw[h1];rfl)
theorem soa_no2 {l r1:List UInt8} {m:List (List UInt8)} (h1:nm l=some (m,r1)) (h2:nm r1=none):full l (soa l)=none:=full_none (by unfold soa;rw[h1];simp only[Option.bind_some];rw[h2];rfl)
theorem sig_ref {l r:List UInt8} {n:List (List UInt8)} (hl:18<=l.length) (h:nm (l.drop 18)=some (n,r)) :
 sig l=some (⟨gv (l.take 2),(l.getD 2 0).toNat,(l.getD 3 0).toNat,gv ((l.drop 4).take 4),gv ((l.drop 8).take 4),gv ((l.drop 12).take 4),gv ((l.drop 16).take 2),n,r⟩, []):=by
 unfold sig
 rw[n16_take (by omega)];simp only[Option.bind_some]
 rw[n8_take (by rw[List.length_drop];omega)];simp only[Option.bind_some,List.drop_drop]
 rw[n8_take (by rw[List.length_drop];omega)];simp only[Option.bind_some,List.drop_drop]
 rw[n32_take (by rw[List.length_drop];omega)];simp only[Option.bind_some,List.drop_drop]
 rw[n32_take (by rw[List.length_drop];omega)];simp only[Option.bind_some,List.drop_drop]
 rw[n32_take (by rw[List.length_drop];omega)];simp only[Option.bind_some,List.drop_drop]
 rw[n16_take (by rw[List.length_drop];omega)];simp only[Option.bind_some,List.drop_drop]
 rw[h]
 simp[List.getD_eq_getElem?_getD,List.getElem?_drop]
theorem sig_no {l:List UInt8} (h:l.length<18\/nm (l.drop 18)=none):full l (sig l)=none:=by
 cases hh:full l (sig l) with
 | none=>rfl
 | some s =>
  have h2:=(full_iff.1 hh).2
  simp only[sig,Option.bind_eq_some_iff,Option.map_eq_some_iff,Prod.exists] at h2
  obtain⟨t,r1,h1,a,r2,h2,k,r3,h3,x,r4,h4,y,r5,h5,z,r6,h6,g,r7,h7,n,r8,h8,_⟩:=h2
  have e1:=(n16_back h1).1
  have e2:=(n8_back h2).1
  have e3:=(n8_back h3).1
  have e4:=(n32_back h4).1
  have e5:=(n32_back h5).1
  have e6:=(n32_back h6).1
  have e7:=(n16_back h7).1
  have hd:l.drop 18=r7:=by rw[e1,e2,e3,e4,e5,e6,e7];rfl
  have hl:l.length=18+r7.length:=by rw[e1,e2,e3,e4,e5,e6,e7];simp only[List.length_append,List.length_cons,p16_len,p32_len];omega
  rcases h with h | h
  ·omega
  ·rw[hd,h8] at h;cases h
end D
open Go.RowKit
theorem nil_grown0 {w w':World} (h:w.grownBy w' (Value.slice none 0 0).ownBlock):Below w.heap.size w w':=⟨h.os,h.tape,h.output,h.size,fun k hk=>h.block k hk (by simp[Value.ownBlock])⟩
namespace D
theorem cnt_take {l:List UInt8} (h:1<=l.length):cnt l=by_ (l.getD 0 0).toNat (l.drop 1):=by
 unfold cnt
 rw[n8_take h];rfl
theorem getD_drop (l:List UInt8) (i j:Nat):(l.drop i).getD j 0=l.getD (i+j) 0:=by
 simp[List.getD_eq_getElem?_getD,List.getElem?_drop]
theorem chain_eq {l:List UInt8} (h:5<=l.length) :
 chain l=(by_ (l.getD 4 0).toNat (l.drop 5)).bind fun s=>(cnt s.2).bind fun n=>if n.1.length=0 then none else (T.opn 0 n.2).map fun t=>((⟨(l.getD 0 0).toNat,(l.getD 1 0).toNat,gv ((l.drop 2).take 2),s.1,n.1,t⟩:Chain),([]:List UInt8)):=by
 unfold chain
 rw[n8_take (by omega)];simp only[Option.bind_some]
 rw[n8_take (by rw[List.length_drop];omega)];simp only[Option.bind_some,List.drop_drop]
 rw[n16_take (by rw[List.length_drop];omega)];simp only[Option.bind_some,List.drop_drop]
 rw[cnt_take (by rw[List.length_drop];omega),List.drop_drop,getD_drop,getD_drop]
theorem chain_no1 {l:List UInt8} (h:l.length<5):full l (chain l)=none:=by
 refine full_none ?_
 match l with
 | []=>rfl
 | [x]=>rfl
 | [x,y]=>rfl
 | [x,y,z]=>rfl
 | [x,y,z,u]=>rfl
 | x::y::z::u::v::r=>simp at h;omega
theorem chain_no2 {l:List UInt8} (h:5<=l.length) (h2:l.length<5+(l.getD 4 0).toNat+1):full l (chain l)=none:=by
 refine full_none ?_
 rw[chain_eq h]
 unfold by_
 split
 ·rfl
 ·rename_i h3
  rw[List.length_drop] at h3
  simp only[Option.bind_some,List.drop_drop]
  have:l.drop (5+(l.getD 4 0).toNat) = []:=List.drop_eq_nil_of_le (by omega)
  rw[this];rfl
theorem chain_next {l:List UInt8} {i:Nat} (h:5<=l.length) (hi:5+(l.getD 4 0).toNat=i) (h2:i+1<=l.length) :
 chain l=(by_ (l.getD i 0).toNat (l.drop (i+1))).bind fun n=>if n.1.length=0 then none else (T.opn 0 n.2).map fun t=>((⟨(l.getD 0 0).toNat,(l.getD 1 0).toNat,gv ((l.drop 2).take 2),(l.drop 5).take (l.getD 4 0).toNat,n.1,t⟩:Chain),([]:List UInt8)):=by
 rw[chain_eq h]
 have e:by_ (l.getD 4 0).toNat (l.drop 5)=some ((l.drop 5).take (l.getD 4 0).toNat,l.drop i):=by
  unfold by_
  rw[if_neg (by rw[List.length_drop];omega),List.drop_drop,hi]
 rw[e]
 simp only[Option.bind_some]
 rw[cnt_take (by rw[List.length_drop];omega),List.drop_drop,getD_drop,Nat.add_zero]
theorem chain_no3 {l:List UInt8} {i:Nat} (h:5<=l.length) (hi:5+(l.getD 4 0).toNat=i) (h2:i+1<=l.length) (h3:(l.getD i 0).toNat=0\/l.length<i+1+(l.getD i 0).toNat):full l (chain l)=none:=by
 refine full_none ?_
 rw[chain_next h hi h2]
 unfold by_
 split
 ·rfl
 ·rename_i h4
  rw[List.length_drop] at h4
  simp only[Option.bind_some]
  rw[if_pos]
  rw[List.length_take];omega
theorem chain_last {l:List UInt8} {i k:Nat} (h:5<=l.length) (hi:5+(l.getD 4 0).toNat=i) (h2:i+1<=l.length) (h0:(l.getD i 0).toNat≠0) (hk:i+1+(l.getD i 0).toNat=k) (h3:k<=l.length) :
 chain l=(T.opn 0 (l.drop k)).map fun t=>((⟨(l.getD 0 0).toNat,(l.getD 1 0).toNat,gv ((l.drop 2).take 2),(l.drop 5).take (l.getD 4 0).toNat,(l.drop (i+1)).take (l.getD i 0).toNat,t⟩:Chain),([]:List UInt8)):=by
 rw[chain_next h hi h2]
 unfold by_
 rw[if_neg (by rw[List.length_drop];omega)]
 simp only[Option.bind_some,List.drop_drop]
 rw[if_neg (by rw[List.length_take,List.length_drop];omega),hk]
theorem chain_no4 {l:List UInt8} {i k:Nat} (h:5<=l.length) (hi:5+(l.getD 4 0).toNat=i) (h2:i+1<=l.length) (h0:(l.getD i 0).toNat≠0) (hk:i+1+(l.getD i 0).toNat=k) (h3:k<=l.length) (ho:T.opn 0 (l.drop k)=none):full l (chain l)=none :=
 full_none (by rw[chain_last h hi h2 h0 hk h3,ho];rfl)
end D
end Go.Proofs.YtbkegikdmmnkaaaGreat
