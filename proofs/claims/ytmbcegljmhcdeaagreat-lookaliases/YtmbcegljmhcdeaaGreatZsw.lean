/- The seat's names, types, data: signetseat's functions. -/
import Derived.Test.YtmbcegljmhcdeaaGreatLay
import Derived.Test.YtmbcegljmhcdeaaGreatZlw
import Derived.Test.YtmbcegljmhcdeaaGreatZrs
import Derived.Deep.Cut
import Derived.Deep.RegionWith
namespace Go.Proofs.YtmbcegljmhcdeaaGreat
set_option maxRecDepth 5000
open Go.RowKit
set_option maxRecDepth 20000 in
set_option maxHeartbeats 1000000 in
theorem owner_none {X:Nat->Prop} {w:World} {Zb:Nat} {A:List (List UInt8)} {L:List Z.R} {K:Nat} (Z0:ZLive X w Zb A L K) (hK:K<=1000000) (sb B:Nat) (hB:B<=sb) (hBw:B<=w.heap.size) (va vt v1 v v2 v3 v4:Value) (kd:Int) (nm:List (List UInt8)) (na:Option Addr) (nl nc:Nat) (hnl:Hid (nm.length=nl))
 (hrow:RowAt w sb 122 #[.pointer (some ⟨Zb,0,none⟩),va,vt,v1,.int .i64 kd,v,v2,v3,v4,.slice na nl nc]) (hs:SlS w na nm) (hnm:Hid (N.Small nm)) (hat:Z.typesAt L (path nm) = []) (hhas:Z.has L (path nm)=true) :
 Calls Tryz.prog 73 #[.pointer (some ⟨sb,0,none⟩)] w fun e w'=>e = .returned (.tuple #[.slice none 0 0,.bool false])/\RowAt w' sb 122 #[.pointer (some ⟨Zb,0,none⟩),va,vt,v1,.int .i64 3,v,v2,v3,v4,.slice na nl nc]/\KA w w'/\Below B w w':=by
 have htypes:Calls Tryz.prog 33 #[.pointer (some ⟨Zb,0,none⟩),.slice na nl nc] w fun e w' => ∃ a c,e = .returned (.slice a 0 c)/\Below w.heap.size w w':=by
  refine (ztypes_live Z0 hK nm na nl nc hnl hs hnm).mono ?_
  rintro e w' ⟨v,rfl,ts,hts,hO,hb⟩
  obtain⟨a,c,rfl,_⟩:=hO.open
  rw[hat] at hts
  have:ts.length=0:=by have:=congrArg List.length hts;simpa using this
  exact⟨a,c,by rw[this],hb⟩
 have hhasc:=fun W (hW:Below w.heap.size w W)=>zhas_live (Z0.bel hW) nm na nl nc hnl (hs.below hW (Nat.le_refl _)) hnm
 rw[hhas] at hhasc
 have HROW:=hide hrow
 have HT:=hide htypes
 have HH:=hide hhasc
 have RF:Hid (∀ W,Below w.heap.size w W->W.cell? ⟨sb,0,none⟩=some (.pointer (some ⟨Zb,0,none⟩))/\W.cell? ⟨sb,9,none⟩=some (.slice na nl nc)/\W.frozen? ⟨sb,4,none⟩=false/\W.cell? ⟨sb,4,none⟩=some (.int .i64 kd)):=hide fun W hW=>⟨(HROW.out.below hW HROW.out.lt).cell 0,(HROW.out.below hW HROW.out.lt).cell 9,(HROW.out.below hW HROW.out.lt).frozen 4,(HROW.out.below hW HROW.out.lt).cell 4⟩
 obtain⟨z0,z9,f4,c4⟩:=RF.out w (Below.refl _ w)
 clear htypes hhasc hrow hs hat hhas Z0
 go_enter Tryz.func73,Tryz.ntmps73
 go_wp2_with (first
  | (go_at_call 30;refine (HH.out w2 HB2.out).mono ?_;rintro e w3 ⟨rfl,hB3⟩;have HB3:=hide (HB2.out.trans (hB3.mono HB2.out.size));clear hB3;obtain⟨z0,z9,f4,c4⟩:=RF.out w3 HB3.out)
  | (go_at_call 33;refine HT.out.mono ?_;rintro e w2 ⟨a2,c2,rfl,hB2⟩;have HB2:=hide hB2;clear hB2;obtain⟨z0,z9,f4,c4⟩:=RF.out w2 HB2.out)
  | fail)
 go_ret2
 have hr7:=HROW.out.below HB3.out HROW.out.lt
 refine⟨rfl,hr7.set 4 _,(KA.bel HB3.out).trans (KA.kx (KX.set hr7 4 _) (Or.inr rfl)),?_⟩
 exact (HB3.out.mono hBw).setCell (p:=⟨sb,4,none⟩) hB _
set_option maxRecDepth 20000 in
set_option maxHeartbeats 1500000 in
theorem owner_wild {X:Nat->Prop} {w0 w:World} {Zb:Nat} {L:List Z.R} {K:Nat} (Z0:ZLive X w0 Zb Z.exA L K) (hK:K<=1000000) (hw:Below w0.heap.size w0 w) (sb:Nat) (hsb0:w0.heap.size<=sb) (va vt v1 v v2 v3 vw:Value) (kd:Int) (nm:List (List UInt8)) (na:Option Addr) (nl nc:Nat) (hnl:Hid (nm.length=nl)) (hnc:nl<=nc) (hnb:nl<=100000)
 (hrow:RowAt w sb 122 #[.pointer (some ⟨Zb,0,none⟩),va,vt,v1,.int .i64 kd,v,v2,v3,vw,.slice na nl nc]) (hs:SlS w na nm) (hnm:Hid (N.Small nm)) (hin:N.within nm Z.exA=true) (hat:Z.typesAt L (path nm) = []) (hhas:Z.has L (path nm)=false) (hst : ∀ c,IsCl L nm c->Z.typesAt L (path (starN nm c)) ≠ []) (ws:List (List (List UInt8))) (hOw:OwnL 28 1 EN w w0.heap.size vw ws) (hwl:ws.length<=1000) :
 Calls Tryz.prog 73 #[.pointer (some ⟨sb,0,none⟩)] w fun e w' => ∃ m a c vw',e = .returned (.tuple #[.slice a (m+1) c,.bool true])/\IsCl L nm m/\TyS w' a (starN nm m)/\m+1<=c/\RowAt w' sb 122 #[.pointer (some ⟨Zb,0,none⟩),va,vt,v1,.int .i64 kd,v,v2,v3,vw',.slice na nl nc]/\OwnL 28 1 EN w' w0.heap.size vw' (ws ++ [starN nm m])/\GB sb vw.ownBlock w w'/\(vw'.ownBlock=vw.ownBlock \/ ∃ g,vw'.ownBlock=some g/\w.heap.size<=g)/\Below w0.heap.size w w':=by
 have Zw:=Z0.bel hw
 have h1nl:1<=nl:=by rw[<- hnl.out];exact (within_chk nm hin).1
 have hf:Flat na:=hs.flat (by rw[hnl.out];omega)
 have htypes:Calls Tryz.prog 33 #[.pointer (some ⟨Zb,0,none⟩),.slice na nl nc] w fun e w' => ∃ a c,e = .returned (.slice a 0 c)/\Below w.heap.size w w':=by
  refine (ztypes_live Zw hK nm na nl nc hnl hs hnm).mono ?_
  rintro e w' ⟨v,rfl,ts,hts,hO,hb⟩
  obtain⟨a,c,rfl,_⟩:=hO.open
  rw[hat] at hts
  have:ts.length=0:=by have:=congrArg List.length hts;simpa using this
  exact⟨a,c,by rw[this],hb⟩
 have hhasc:=fun W (hW:Below w.heap.size w W)=>zhas_live (Zw.bel hW) nm na nl nc hnl (hs.below hW (Nat.le_refl _)) hnm
 rw[hhas] at hhasc
 have hclo:=fun W (hW:Below w.heap.size w W)=>lclosest_any (Zw.bel hW) nm na nl nc hnl (hs.below hW (Nat.le_refl _)) hf hnc hnm hin
 have hlow : ∀ W a c m,Below w.heap.size w W->m<=nl->SlS W a (nm.drop (nl - m))->Calls Tryz.prog 48 #[.slice a m c] W fun e w' => ∃ v,e = .returned v/\OwnS w' W.heap.size v (N.lowN (nm.drop (nl - m)))/\Below W.heap.size W w':=fun W a c m hW hm hS=>lower_any (nm.drop (nl - m)) a m c W (hide (by rw[List.length_drop,hnl.out];omega)) hS (hide ⟨by rw[List.length_drop];have:=hnm.out.1;omega,fun l h=>hnm.out.2 l (List.mem_of_mem_drop h)⟩)
 have hstar : ∀ W a c m,Below w.heap.size w W->IsCl L nm m->SlS W a (starN nm m)->Calls Tryz.prog 33 #[.pointer (some ⟨Zb,0,none⟩),.slice a (m+1) c] W fun e w' => ∃ a tl c,e = .returned (.slice a tl c)/\0<tl/\Below W.heap.size W w':=fun W a c m hW hm hS=>by
  have hlen:(starN nm m).length=m+1:=by
   unfold starN
   rw[List.length_cons,N.lowN_len,List.length_drop]
   have:=hm.2.1;omega
  have hsm:N.Small (starN nm m):=by
   refine⟨by rw[hlen];have:=hm.2.1;have:=hnl.out;omega,fun l hl=>?_⟩
   unfold starN at hl
   rcases List.mem_cons.1 hl with rfl | hl
   ·simp
   ·unfold N.lowN at hl
    obtain⟨l0,h0,rfl⟩:=List.mem_map.1 hl
    rw[N.lowL_len]
    exact hnm.out.2 l0 (List.mem_of_mem_drop h0)
  refine (ztypes_live (Zw.bel hW) hK (starN nm m) a (m+1) c (hide hlen) hS (hide hsm)).mono ?_
  rintro e w' ⟨v,rfl,ts,hts,hO,hb⟩
  obtain⟨a,c,rfl,_⟩:=hO.open
  refine⟨a,_,c,rfl,?_,hb⟩
  rcases Nat.eq_zero_or_pos ts.length with h | h
  ·exact absurd (by rw[<- hts,List.eq_nil_of_length_eq_zero h];rfl) (hst m hm)
  ·exact h
 have HROW:=hide hrow
 have HOW:=hide hOw
 have HT:=hide htypes
 have HH:=hide hhasc
 have HC:=hide hclo
 have HL:=hide hlow
 have HST:=hide hstar
 have HW:=hide hw
 have RF:Hid (∀ W,Below w.heap.size w W->W.cell? ⟨sb,0,none⟩=some (.pointer (some ⟨Zb,0,none⟩))/\W.cell? ⟨sb,9,none⟩=some (.slice na nl nc)/\W.frozen? ⟨sb,4,none⟩=false/\W.cell? ⟨sb,4,none⟩=some (.int .i64 kd)):=hide fun W hW=>⟨(HROW.out.below hW HROW.out.lt).cell 0,(HROW.out.below hW HROW.out.lt).cell 9,(HROW.out.below hW HROW.out.lt).frozen 4,(HROW.out.below hW HROW.out.lt).cell 4⟩
 obtain⟨z0,z9,f4,c4⟩:=RF.out w (Below.refl _ w)
 have hnlb:nl<=1000000:=by rw[<- hnl.out];exact hnm.out.1
 clear hOw htypes hhasc hclo hlow hstar hrow hs hat hhas hst Z0 Zw hw hin hf
 go_enter Tryz.func73,Tryz.ntmps73
 go_wp2_with (first
  | (at_builtin;have hq:=HT7.out;clear hq;go_loud (have HB9:=hide ((Below.refl _ w7).alloc (Nat.le_refl _) (.cells #[.slice a6 (m+1) c6] 28));refine wpList_appY rfl (.tmp 62) (.tmp 64) 46 rfl Tryz.underlying46 (.slice none 0 0) 24 (info_parts infoNs) rfl (by decide) (by decide) w0.heap.size vw ws rfl (HOW.out.bel (fun _ _ h=>h.kb (KB.of_below (HB7.out.trans (HB9.out.mono HB7.out.size)))) (HB7.out.trans (HB9.out.mono HB7.out.size))) ⟨w7.heap.size,0,none⟩ 1 (starN nm m) [.slice a6 (m+1) c6] rfl (one_cell _ _ #[.slice a6 (m+1) c6] 28 (RowAt.new w7 _ _)) rfl (by simp[Value.oneCell']) ⟨a6,c6,by rw[HST2.out],HT7.out.kb (KB.alloc _ _),HN6.out,by rw[HST2.out];exact HC6.out⟩ (fun _ _ _ k h=>h.kb (k.kb (by decide))) (by omega) (by exact Nat.le_trans HW.out.size (Nat.le_trans HB7.out.size HB9.out.size)) ?_;intro v10 w10 hO10 hK10 hB10 hG10 hL10;obtain⟨a10,c10,hv10,_,_⟩:=hO10.slice;obtain⟨q10,hq10⟩ : ∃ q10,v10 = .slice a10 q10 c10:=⟨_,hv10⟩;subst hq10;clear hv10;have H10s:=hide (hK10.row ((HROW.out.below HB7.out HROW.out.lt).alloc (.cells #[.slice a6 (m+1) c6] 28)) (by decide));have HO10:=hide hO10;have HK10:=hide hK10;have HB10:=hide hB10;have HG10:=hide hG10;have HL10:=hide hL10;have p8:w10.cell? ⟨sb,8,none⟩=some vw:=H10s.out.cell 8;have f8':w10.frozen? ⟨sb,8,none⟩=false:=H10s.out.frozen 8;clear hO10 hK10 hB10 hG10 hL10))
  | (go_at_call 33;have hq:=HE4.out;clear hq;refine (HST.out w6 a6 c6 m HB6.out HM.out HS6.out).mono ?_;rintro e w7 ⟨a7,tl7,c7,rfl,ht7,hB7⟩;have ht7i : ¬ ((tl7:Int)=0):=(by omega);have ht7b:((tl7:Int) == 0)=false:=(by simp;omega);have HT7:=hide (HT6.out.kb (KB.of_below hB7));have c8:w7.cell? ⟨sb,8,none⟩=some vw:=(HROW.out.below (HB6.out.trans (hB7.mono HB6.out.size)) HROW.out.lt).cell 8;have f8:w7.frozen? ⟨sb,8,none⟩=false:=(HROW.out.below (HB6.out.trans (hB7.mono HB6.out.size)) HROW.out.lt).frozen 8;have HB7:=hide (HB6.out.trans (hB7.mono HB6.out.size));clear hB7;obtain⟨z0,z9,f4,c4⟩:=RF.out w7 HB7.out)
  | (at_builtin;have hq:=HE3.out;clear hq;(refine wpList_append_SN rfl (.tmp 41) (.tmp 43) rfl w4.heap.size (.slice (some ⟨w4.heap.size,0,none⟩) 1 1) [[42]] rfl HLIT5.out a5 m c5 (N.lowN (nm.drop (nl - m))) rfl HML.out HS5.out HN5.out (by have:=HMB.out;simp;omega) (by have:=HB5z.out;omega) ?_);intro v6 w6 hO6 hG6;have HB6:=hide ((HB4.out.trans ((grown_belowS HLIT5.out hG6 HB45.out HB5z.out).mono HB4.out.size)));have HE4:=hide trivial;obtain⟨a6,c6,hv6,hT6,hn6,hc6⟩:=hO6.ty;rw[HST1.out] at hv6 hT6 hc6;rw[HST2.out] at hv6 hc6;subst hv6;have HS6:=hide hT6.1;have HT6:=hide hT6;have HN6:=hide hn6;have HC6:=hide hc6;clear hO6 hG6 hT6 hn6 hc6;obtain⟨z0,z9,f4,c4⟩:=RF.out w6 HB6.out)
  | (go_at_call 48;have hq:=HE2.out;clear hq;refine (HL.out _ a4 c4' m HBL.out HMB.out HSL.out).mono ?_;rintro e w5 ⟨v5,rfl,hO5,hB5⟩;obtain⟨a5,c5,hv5,hS5,hn5,_⟩:=hO5.open;rw[HML.out] at hv5;subst hv5;have HS5:=hide hS5;have HN5:=hide hn5;have HLIT5:=hide (HLIT.out.below hB5);have HB45:=hide (HBW.out.trans (hB5.mono (by simp)));have HB5z:=hide (Nat.le_trans (Nat.le_of_lt (by simp)) hB5.size:w4.heap.size<=w5.heap.size);have HE3:=hide trivial;clear hO5 hB5 hS5 hn5)
  | (go_at_call 41;refine (HC.out w3 HB3.out).mono ?_;rintro e w4 ⟨m,v4',v5',rfl,hM,hO4,_,hB4⟩;have HM:=hide hM;have hmb:m<=nl:=by rw[<- hnl.out];exact hM.2.1
     have hlm:(nm.drop (nl - m)).length=m:=by rw[List.length_drop,hnl.out];omega
     obtain⟨a4,c4',hv4,hS4,_⟩:=hO4.open;rw[hlm] at hv4;subst hv4
     have HB4:=hide (HB3.out.trans (hB4.mono HB3.out.size))
     have HBW:Hid (Below w4.heap.size w4 (w4.alloc (.cells #[.string { data := #[42] }] 9))):=hide ((Below.refl _ w4).alloc (Nat.le_refl _) _)
     have HBL:=hide (HB4.out.trans (HBW.out.mono HB4.out.size))
     have HSL:=hide (hS4.below HBW.out (Nat.le_refl _))
     have HLIT:=hide (OwnS.lit w4 [[42]] #[.string { data := #[42] }] w4.heap.size (Nat.le_refl _) rfl (by decide) 1 rfl)
     have HML:Hid ((N.lowN (nm.drop (nl - m))).length=m):=hide (by rw[N.lowN_len];exact hlm)
     have HST1:Hid ([[42]]++N.lowN (nm.drop (nl - m))=starN nm m):=hide (by unfold starN;rw[hnl.out];rfl)
     have HST2:Hid ((starN nm m).length=m+1):=hide (by rw[<- HST1.out,List.length_append,HML.out,List.length_singleton];omega)
     have HMB:=hide hmb
     have HE2:=hide trivial;clear hM hO4 hB4 hS4 hmb hlm)
  | (go_at_call 30;refine (HH.out w2 HB2.out).mono ?_;rintro e w3 ⟨rfl,hB3⟩;have HB3:=hide (HB2.out.trans (hB3.mono HB2.out.size));clear hB3;obtain⟨z0,z9,f4,c4⟩:=RF.out w3 HB3.out)
  | (go_at_call 33;refine HT.out.mono ?_;rintro e w2 ⟨a2,c2,rfl,hB2⟩;have HB2:=hide hB2;clear hB2;obtain⟨z0,z9,f4,c4⟩:=RF.out w2 HB2.out)
  | fail)
 go_ret2
 have hset:=KX.set H10s.out 8 (.slice a10 q10 c10)
 have hb8:=HB7.out
 refine⟨m,a6,c6,.slice a10 q10 c10,rfl,HM.out,?_,HC6.out,H10s.out.set 8 _,?_,?_,?_,?_⟩
 ·exact (((HT7.out.kb (KB.alloc _ _)).kb (HK10.out.kb (by decide))).kb (hset.kb (by decide)))
 ·exact HO10.out.kx hset (fun _ _ h=>h.kb (hset.kb (by decide))) (by decide)
 ·exact (((GB.bel hb8).trans (GB.bel HB9.out)).trans (GB.grown HG10.out)).trans (GB.set _)
 ·rcases HL10.out with h | h
  ·exact Or.inl h
  ·exact Or.inr ⟨_,h,Nat.le_trans hb8.size HB9.out.size⟩
 ·exact ((((hb8.mono HW.out.size).trans (HB9.out.mono (Nat.le_trans HW.out.size hb8.size))).trans HB10.out).setCell (p:=⟨sb,8,none⟩) hsb0 _)
end Go.Proofs.YtmbcegljmhcdeaaGreat
namespace Go.Proofs.YtmbcegljmhcdeaaGreat
set_option maxRecDepth 5000
open Go.RowKit
theorem KA.gb {w w':World} {sb:Nat} {c:Array Value} (hr:RowAt w sb 122 c) (h:GB sb none w w'):KA w w':=⟨h.size,fun g cs et fr hg _ h2=>(h.block g (Array.getElem?_eq_some_iff.1 hg).1 (by simp) (fun e=>by
 have hr:w.heap[sb]?=some (Obj.cells c 122):=hr
 rw[e,hr] at hg;injection hg with hg;injection hg with _ hg _;exact h2 hg.symm)).trans hg⟩
theorem starN_len {L:List Z.R} {n:List (List UInt8)} {m:Nat} (h:IsCl L n m):(starN n m).length=m+1:=by
 unfold starN
 rw[List.length_cons,N.lowN_len,List.length_drop]
 have:=h.2.1;omega
theorem starN_small {L:List Z.R} {n:List (List UInt8)} {m:Nat} (hn:N.Small n) (hb:n.length<=100000) (h:IsCl L n m):N.Small (starN n m):=by
 refine⟨by rw[starN_len h];have:=h.2.1;omega,fun l hl=>?_⟩
 unfold starN at hl
 rcases List.mem_cons.1 hl with rfl | hl
 ·simp
 ·unfold N.lowN at hl
  obtain⟨l0,h0,rfl⟩:=List.mem_map.1 hl
  rw[N.lowL_len]
  exact hn.2 l0 (List.mem_of_mem_drop h0)
set_option maxRecDepth 20000 in
set_option maxHeartbeats 2000000 in
theorem find_wild {X:Nat->Prop} {w:World} {Zb:Nat} {L:List Z.R} {K:Nat} (Z0:ZLive X w Zb Z.exA L K) (hK:K<=1000000) (n:List (List UInt8)) (ao:Option Addr) (len cap:Nat) (hl:Hid (n.length=len)) (hs:SlS w ao n) (hcap:len<=cap) (hm:Hid (N.Small n)) (hin:N.within n Z.exA=true) (t:Nat) (ht:t<65536) (ht2:t≠255) (hno : ∀ d,d<=n.length -> ¬ cutL Z.exA L (path n) d) (hnb:len<=100000) (hat:Z.typesAt L (path n) = []) (hhas:Z.has L (path n)=false) (hst : ∀ c,IsCl L n c->t∈Z.typesAt L (path (starN n c))) :
 Calls Tryz.prog 39 #[.pointer (some ⟨Zb,0,none⟩),.slice ao len cap,.int .u16 (t:Int)] w fun e w' => ∃ m v' aw cw na nc,IsCl L n m/\e = .returned (.agg #[.int .i64 0,v',.slice none 0 0,.slice none 0 0,.slice aw 1 cw,.slice na len nc])/\OwnL 54 4 ES w' w.heap.size v' ((setsP L (starN n m) [t]).map (PSet.as (N.lowN n)))/\OwnL 28 1 EN w' w.heap.size (.slice aw 1 cw) [starN n m]/\SlS w' na n/\Below w.heap.size w w':=by
 have hf:Flat ao:=hs.flat (by have:=(within_chk n hin).1;omega)
 have hlen:len<=1000000:=by rw[<- hl.out];exact hm.out.1
 have h1len:1<=len:=by rw[<- hl.out];exact (within_chk n hin).1
 have hap : ∀ W,Below w.heap.size w W->Calls Tryz.prog 70 #[.pointer (some ⟨Zb,0,none⟩),.slice ao len cap] W fun e w' => ∃ a c,e = .returned (.tuple #[.slice a 1 c,.bool true])/\Below W.heap.size W w':=fun W hW=>by
  refine (lapex_any (Z0.bel hW) n ao len cap hl (hs.below hW (Nat.le_refl _)) hf hcap hm).mono ?_
  rintro e w' ⟨v,rfl,hO,hB⟩
  rw[if_pos hin] at hO
  obtain⟨a,c,rfl,_⟩:=hO.open
  refine⟨a,c,?_,hB⟩
  rw[hin,List.length_drop,hl.out,show len - (len - 1)=1 by omega]
 have hcl : ∀ W,Below w.heap.size w W->Calls Tryz.prog 56 #[.slice ao len cap] W fun e w' => ∃ a c,e = .returned (.slice a len c)/\TyS w' a n/\len<=c/\Below W.heap.size W w':=fun W hW=>by
  refine (nclone_all W ao len cap n hl.out hlen hf (hs.below hW (Nat.le_refl _))).mono ?_
  rintro e w' ⟨v,rfl,hO,hB⟩
  obtain⟨a,c,rfl,hT,_,hc⟩:=hO.ty
  rw[hl.out] at hc ⊢
  exact⟨a,c,rfl,hT,hc,hB⟩
 have HAP:=hide hap
 have HCL:=hide hcl
 have HZ:=hide Z0
 have HNO:=hide hno
 have HAT:=hide hat
 have HHAS:=hide hhas
 have HST:=hide hst
 have HIN:=hide hin
 have HST2:Hid (∀ c,IsCl L n c->Z.typesAt L (path (starN n c)) ≠ []):=hide fun c hc h=>by have:=hst c hc;rw[h] at this;cases this
 have htb:((t:Int) == 255)=false:=by simp;omega
 clear hap hcl Z0 hno hat hhas hst hin hs hf
 obtain⟨w1,hw1⟩ : ∃ w1,w1=w.alloc (.cells #[.int .i64 0,.slice none 0 0,.slice none 0 0,.slice none 0 0,.slice none 0 0,.slice none 0 0] 70):=⟨_,rfl⟩
 have hb1:Below w.heap.size w w1:=by rw[hw1];exact (Below.refl _ w).alloc (Nat.le_refl _) _
 have hr1:RowAt w1 w.heap.size 70 #[.int .i64 0,.slice none 0 0,.slice none 0 0,.slice none 0 0,.slice none 0 0,.slice none 0 0]:=by rw[hw1];exact RowAt.new w _ _
 have HW1:=hide hw1
 have HB1:=hide hb1
 have HR1:=hide hr1
 clear hw1 hb1 hr1
 have HFD:Hid (∀ W,KA w1 W->RowAt W w.heap.size 70 #[.int .i64 0,.slice none 0 0,.slice none 0 0,.slice none 0 0,.slice none 0 0,.slice none 0 0]):=hide fun W hW=>hW.rows _ _ _ _ HR1.out (by decide) (by decide)
 have HTY:Hid (∀ W a c m,Below w.heap.size w W->IsCl L n m->SlS W a (starN n m)->Calls Tryz.prog 33 #[.pointer (some ⟨Zb,0,none⟩),.slice a (m+1) c] W fun e w' => ∃ a tl c,e = .returned (.slice a tl c)/\Calls Tryz.prog 75 #[.slice a tl c,.int .u16 (t:Int)] w' (fun e w''=>e = .returned (.bool true)/\w''=w')/\Below W.heap.size W w'):=hide fun W a c m hW hcl hS=>by
  refine (ztypes_live (HZ.out.bel hW) hK (starN n m) a (m+1) c (hide (starN_len hcl)) hS (hide (starN_small hm.out (by rw[hl.out];exact hnb) hcl))).mono ?_
  rintro e w' ⟨v,rfl,ts,hts,hO,hb⟩
  obtain⟨a,c,rfl,hS7,_⟩:=hO.open
  have hln:ts.length<=1000000:=by
   have h1:=congrArg List.length hts
   rw[List.length_map] at h1
   have h2:=Z.typesAt_len L (path (starN n m))
   have h3:=HZ.out.num
   omega
  have hc:=hcontains_any ts a ts.length c t w' (hide rfl) hS7 hln
  rw[hts,decide_eq_true (HST.out m hcl)] at hc
  exact⟨a,_,c,rfl,hc,hb⟩
 go_enter Tryz.func39,Tryz.ntmps39
 go_wp2
 go_step3
 rw[<- HW1.out]
 go_wp2_with (first
  | (go_at_call 56;go_loud (refine (HCL.out w2 HB2.out).mono ?_;rintro e w3 ⟨na,nc,rfl,hT3,hc3,hB3⟩;have HB3:=hide (HB2.out.trans (hB3.mono HB2.out.size));have HT3:=hide hT3;have HK3:=hide ((KA.bel hB2k).trans (KA.bel hB3));clear hT3 hB3 hB2k))
  | (go_at_call 70;go_loud (refine (HAP.out _ HB1.out).mono ?_;rintro e w2 ⟨a2,c2,rfl,hB2⟩;have hB2k:=hB2;have HB2:=hide (HB1.out.trans (hB2.mono HB1.out.size));clear hB2))
  | fail)
 go_step3
 go_wp2
 obtain⟨w4,hw4⟩ : ∃ w4,w4=w3.alloc (.cells #[.pointer (some ⟨Zb,0,none⟩),.slice a2 1 c2,.int .u16 (t:Int),.slice none 0 0,.int .i64 0,.slice none 0 0,.slice none 0 0,.slice none 0 0,.slice none 0 0,.slice na len nc] 122):=⟨_,rfl⟩
 rw[<- hw4]
 obtain⟨sb,hsb⟩ : ∃ sb,sb=w3.heap.size:=⟨_,rfl⟩
 rw[<- hsb]
 have hb4:Below w3.heap.size w3 w4:=by rw[hw4];exact (Below.refl _ w3).alloc (Nat.le_refl _) _
 have hsb0:w.heap.size<=sb:=by rw[hsb];exact HB3.out.size
 have HR4:Hid (RowAt w4 sb 122 #[.pointer (some ⟨Zb,0,none⟩),.slice a2 1 c2,.int .u16 (t:Int),.slice none 0 0,.int .i64 0,.slice none 0 0,.slice none 0 0,.slice none 0 0,.slice none 0 0,.slice na len nc]):=hide (by rw[hw4,hsb];exact RowAt.new w3 _ _)
 have HB4:=hide (HB3.out.trans (hb4.mono HB3.out.size))
 have HK4:=hide (HK3.out.trans (KA.bel hb4))
 have HT4:=hide (HT3.out.kb (KB.of_below hb4))
 clear hw4 hsb hb4 HB3 HK3 HT3 HB2
 have hu16:(UInt16.ofNat t).toNat=t:=by rw[UInt16.toNat_ofNat'];omega
 have HAN:Hid (∀ W a c m vw,Below w.heap.size w W->IsCl L n m->SlS W a (starN n m)->RowAt W sb 122 #[.pointer (some ⟨Zb,0,none⟩),.slice a2 1 c2,.int .u16 (t:Int),.slice none 0 0,.int .i64 0,.slice none 0 0,.slice none 0 0,.slice none 0 0,vw,.slice na len nc]->TyS W na n->Calls Tryz.prog 74 #[.pointer (some ⟨sb,0,none⟩),.slice a (m+1) c,.slice (some ⟨W.heap.size,0,none⟩) 1 1] (W.alloc (.cells #[.int .u16 (t:Int)] 36)) fun e w'=>e = .returned (.tuple #[]) /\ ∃ v',RowAt w' sb 122 #[.pointer (some ⟨Zb,0,none⟩),.slice a2 1 c2,.int .u16 (t:Int),.slice none 0 0,.int .i64 0,v',.slice none 0 0,.slice none 0 0,vw,.slice na len nc]/\OwnL 54 4 ES w' w.heap.size v' ((setsP L (starN n m) [t]).map (PSet.as (N.lowN n)))/\KA W w'/\Below w.heap.size W w'):=hide fun W a c m vw hW hcl hS hR hT=>by
  have hb:Below W.heap.size W (W.alloc (.cells #[.int .u16 (t:Int)] 36)):=(Below.refl _ W).alloc (Nat.le_refl _) _
  have hlit:SlH (W.alloc (.cells #[.int .u16 (t:Int)] 36)) (some ⟨W.heap.size,0,none⟩) [UInt16.ofNat t]:=SlH.oneI W t (UInt16.ofNat t) 36 (by rw[hu16])
  have hT2:=hT.kb (KB.of_below hb)
  have h:=answer_first HZ.out hK (hW.trans (hb.mono hW.size)) sb hsb0 (.slice a2 1 c2) (.slice none 0 0) (.slice none 0 0) (.slice none 0 0) vw (t:Int) 0 n na len nc hl (hR.below hb hR.lt) hT2 hm (starN n m) a (m+1) c (hide (starN_len hcl)) (hS.below hb (Nat.le_refl _)) (hide (starN_small hm.out (by rw[hl.out];exact hnb) hcl)) [UInt16.ofNat t] (some ⟨W.heap.size,0,none⟩) 1 1 (hide rfl) hlit (by omega)
  refine h.mono ?_
  rintro e w' ⟨rfl,v',h1,h2,h3,h4⟩
  have e1 : [UInt16.ofNat t].map (·.toNat) = [t]:=by simp[hu16]
  rw[e1] at h2
  exact⟨rfl,v',h1,h2,(KA.bel hb).trans h3,(hb.mono hW.size).trans h4⟩
 clear hu16
 go_loopw [10] (fun _ wr=>wr=w4) (fun _ _=>0)
 case atStart=>rfl
 case round =>
  subst hrel
  have H4:Hid (FSt w w1 sb #[.pointer (some ⟨Zb,0,none⟩),.slice a2 1 c2,.int .u16 (t:Int),.slice none 0 0,.int .i64 0,.slice none 0 0,.slice none 0 0,.slice none 0 0,.slice none 0 0,.slice na len nc] na n wr):=hide ⟨HB4.out,HR4.out,HK4.out,HT4.out⟩
  have hgive:=givenAway_none (HZ.out.bel HB4.out) (by decide:Z.exA.length<=1000000) sb (.slice a2 1 c2) (.slice none 0 0) (.slice none 0 0) (.slice none 0 0) (.slice none 0 0) t 0 none 0 0 n na len nc hl HR4.out HT4.out.1 hm HNO.out
  have HGIVE:=hide hgive
  clear hgive HB4 HR4 HK4 HT4
  go_wp2_with (first
   | (go_at_call 71;go_loud (refine HGIVE.out.mono ?_;rintro e w5 ⟨rfl,hB5⟩;have H5:=hide (H4.out.step hB5);clear hB5))
   | (go_at_call 73;go_loud (refine (owner_wild HZ.out hK H5.out.bel sb hsb0 _ _ _ _ _ _ _ 0 n na len nc hl hc3 hnb H5.out.row H5.out.ty.1 hm HIN.out HAT.out HHAS.out HST2.out [] (OwnL.nil _ _ _ _ _) (by simp)).mono ?_;rintro e w6 ⟨m,a6,c6,vw6,rfl,hcl6,hT6,hc6,hrow6,hO6,hG6,_,hb6⟩;obtain⟨aw,cw,hvw,_,_⟩:=hO6.slice;have hvw:vw6 = .slice aw 1 cw:=hvw;subst hvw;have hk6:=KA.gb H5.out.row (by exact hG6);have HCL6:=hide hcl6;have HT6:=hide hT6;have HO6:=hide hO6;have H6:=hide (FSt.mk (w:=w) (w1:=w1) (H5.out.bel.trans hb6) hrow6 (H5.out.ka.trans hk6) (H5.out.ty.kb hk6.kb));clear hcl6 hT6 hrow6 hO6 hG6 hb6 hk6))
   | (go_at_call 33;go_loud (refine (HTY.out w6 a6 c6 m H6.out.bel HCL6.out HT6.out.1).mono ?_;rintro e w7 ⟨a7,tl,c7,rfl,hC7,hB7⟩;have H7:=hide (H6.out.step hB7);have HC7:=hide hC7;have HT7:=hide (HT6.out.kb (KB.of_below hB7));have HO7:=hide (HO6.out.bel (fun _ _ h=>h.kb (KB.of_below hB7)) hB7);clear hC7 hB7))
   | (go_at_call 75;go_loud (refine HC7.out.mono ?_;rintro e w8 ⟨rfl,hw8⟩;have hw9:=hw8.symm;subst hw9;clear hw8))
   | (go_at_call 74;go_loud (refine (HAN.out w7 a6 c6 m _ H7.out.bel HCL6.out HT7.out.1 H7.out.row H7.out.ty).mono ?_;rintro e w9 ⟨rfl,v9,hrow9,hO9,hK9,hB9⟩;obtain⟨a9,c9,hv9,_,_⟩:=hO9.slice;obtain⟨q9,hq9⟩ : ∃ q9,v9 = .slice a9 q9 c9:=⟨_,hv9⟩;subst hq9;clear hv9;have HROW9:=hide hrow9;have HO9:=hide hO9;have HK9:=hide (H7.out.ka.trans hK9);have HB9:=hide (H7.out.bel.trans hB9);have HT9:=hide (H7.out.ty.kb hK9.kb);have HOW9:=hide (HO7.out.kept (fun _ _ h=>h.kb hK9.kb) (fun g c fr _ hg=>(hK9.rows g c _ fr hg (by decide) (by decide)).trans hg.symm));clear hrow9 hO9 hK9 hB9))
   | (go_at_call 77;go_loud (refine (deny_skip sb _ _ _ _ _ _ _ _ _ 0 (by decide) (by decide) HROW9.out).mono ?_;rintro e w10 ⟨rfl,hw10⟩;have hw11:=hw10.symm;subst hw11;clear hw10;obtain⟨s4,s5,s6,s7,s8,s9⟩:=se_facts HROW9.out;obtain⟨r0,r1,r2,r3,r4,r5,g0,g1,g2,g3,g4,g5⟩:=fd_facts (HFD.out w9 HK9.out)))
   | fail)
  rw[Exit.noGoto_ret]
  have hfd:=fdSet_row (HFD.out w9 HK9.out) (.int .i64 0) (.slice a9 q9 c9) (.slice none 0 0) (.slice none 0 0) (.slice aw 1 cw) (.slice na len nc)
  refine bodyPost_ret (v := .agg _) (results_fd Tryz.results39 _ _ w.heap.size _ rfl rfl hfd.1) rfl ⟨m,_,aw,cw,na,nc,HCL6.out,rfl,?_,?_,?_,hfd.2.2 _ (Nat.le_refl _) _ HB9.out⟩
  ·exact HO9.out.kx hfd.2.1 (fun _ _ h=>h.kx (by decide) (by decide) hfd.2.1) (by decide)
  ·exact HOW9.out.kx hfd.2.1 (fun _ _ h=>h.kb (hfd.2.1.kb (by decide))) (by decide)
  ·exact (HT9.out.kb (hfd.2.1.kb (by decide))).1
end Go.Proofs.YtmbcegljmhcdeaaGreat
namespace Go.Proofs.YtmbcegljmhcdeaaGreat
set_option maxRecDepth 5000
open Go.RowKit
set_option maxRecDepth 20000 in
set_option maxHeartbeats 2000000 in
theorem find_nothing {X:Nat->Prop} {w:World} {Zb:Nat} {L:List Z.R} {K:Nat} (Z0:ZLive X w Zb Z.exA L K) (hK:K<=1000000) (n:List (List UInt8)) (ao:Option Addr) (len cap:Nat) (hl:Hid (n.length=len)) (hs:SlS w ao n) (hcap:len<=cap) (hm:Hid (N.Small n)) (hin:N.within n Z.exA=true) (hnb:len<=100000) (t:Nat) (hno : ∀ d,d<=n.length -> ¬ cutL Z.exA L (path n) d) (hat:Z.typesAt L (path n) = []) (hhas:Z.has L (path n)=false) (hst : ∀ c,IsCl L n c->Z.typesAt L (path (starN n c)) = []) :
 Calls Tryz.prog 39 #[.pointer (some ⟨Zb,0,none⟩),.slice ao len cap,.int .u16 (t:Int)] w fun e w' => ∃ v' na nc,e = .returned (.agg #[.int .i64 4,.slice none 0 0,v',.slice none 0 0,.slice none 0 0,.slice na len nc])/\OwnL 54 4 ES w' w.heap.size v' (setsP L (n.drop (len - 1)) [6])/\SlS w' na n/\Below w.heap.size w w':=by
 have hf:Flat ao:=hs.flat (by have:=(within_chk n hin).1;omega)
 have hlen:len<=1000000:=by rw[<- hl.out];exact hm.out.1
 have h1len:1<=len:=by rw[<- hl.out];exact (within_chk n hin).1
 have hap : ∀ W,Below w.heap.size w W->Calls Tryz.prog 70 #[.pointer (some ⟨Zb,0,none⟩),.slice ao len cap] W fun e w' => ∃ a c,e = .returned (.tuple #[.slice a 1 c,.bool true])/\TyS w' a (n.drop (len - 1))/\Below W.heap.size W w':=fun W hW=>by
  refine (lapex_any (Z0.bel hW) n ao len cap hl (hs.below hW (Nat.le_refl _)) hf hcap hm).mono ?_
  rintro e w' ⟨v,rfl,hO,hB⟩
  rw[if_pos hin] at hO
  obtain⟨a,c,rfl,hT,_⟩:=hO.ty
  refine⟨a,c,?_,hT,hB⟩
  rw[hin,List.length_drop,hl.out,show len - (len - 1)=1 by omega]
 have hcl : ∀ W,Below w.heap.size w W->Calls Tryz.prog 56 #[.slice ao len cap] W fun e w' => ∃ a c,e = .returned (.slice a len c)/\TyS w' a n/\len<=c/\Below W.heap.size W w':=fun W hW=>by
  refine (nclone_all W ao len cap n hl.out hlen hf (hs.below hW (Nat.le_refl _))).mono ?_
  rintro e w' ⟨v,rfl,hO,hB⟩
  obtain⟨a,c,rfl,hT,_,hc⟩:=hO.ty
  rw[hl.out] at hc ⊢
  exact⟨a,c,rfl,hT,hc,hB⟩
 have hapm:N.Small (n.drop (len - 1)):=⟨by rw[List.length_drop];have:=hm.out.1;omega,fun l h=>hm.out.2 l (List.mem_of_mem_drop h)⟩
 have hapl:(n.drop (len - 1)).length=1:=by rw[List.length_drop,hl.out];omega
 have HAP:=hide hap
 have HCL:=hide hcl
 have HZ:=hide Z0
 have HNO:=hide hno
 have HAT:=hide hat
 have HHAS:=hide hhas
 have HST:=hide hst
 have HIN:=hide hin
 have HAPM:=hide hapm
 have HAPL:=hide hapl
 clear hap hcl Z0 hno hat hs hf hhas hst hin hapm hapl
 obtain⟨w1,hw1⟩ : ∃ w1,w1=w.alloc (.cells #[.int .i64 0,.slice none 0 0,.slice none 0 0,.slice none 0 0,.slice none 0 0,.slice none 0 0] 70):=⟨_,rfl⟩
 have hb1:Below w.heap.size w w1:=by rw[hw1];exact (Below.refl _ w).alloc (Nat.le_refl _) _
 have hr1:RowAt w1 w.heap.size 70 #[.int .i64 0,.slice none 0 0,.slice none 0 0,.slice none 0 0,.slice none 0 0,.slice none 0 0]:=by rw[hw1];exact RowAt.new w _ _
 have HW1:=hide hw1
 have HB1:=hide hb1
 have HR1:=hide hr1
 clear hw1 hb1 hr1
 have HFD:Hid (∀ W,KA w1 W->RowAt W w.heap.size 70 #[.int .i64 0,.slice none 0 0,.slice none 0 0,.slice none 0 0,.slice none 0 0,.slice none 0 0]):=hide fun W hW=>hW.rows _ _ _ _ HR1.out (by decide) (by decide)
 go_enter Tryz.func39,Tryz.ntmps39
 go_wp2
 go_step3
 rw[<- HW1.out]
 go_wp2_with (first
  | (go_at_call 56;go_loud (refine (HCL.out w2 HB2.out).mono ?_;rintro e w3 ⟨na,nc,rfl,hT3,hc3,hB3⟩;have hB3q:=hB3;have HB3:=hide (HB2.out.trans (hB3.mono HB2.out.size));have HTA3:=hide (HTA2.out.kb (KB.of_below hB3q));have HT3:=hide hT3;have HK3:=hide ((KA.bel hB2k).trans (KA.bel hB3));clear hT3 hB3 hB2k hB3q))
  | (go_at_call 70;go_loud (refine (HAP.out _ HB1.out).mono ?_;rintro e w2 ⟨a2,c2,rfl,hTA2,hB2⟩;have hB2k:=hB2;have HTA2:=hide hTA2;clear hTA2;have HB2:=hide (HB1.out.trans (hB2.mono HB1.out.size));clear hB2))
  | fail)
 go_step3
 go_wp2
 obtain⟨w4,hw4⟩ : ∃ w4,w4=w3.alloc (.cells #[.pointer (some ⟨Zb,0,none⟩),.slice a2 1 c2,.int .u16 (t:Int),.slice none 0 0,.int .i64 0,.slice none 0 0,.slice none 0 0,.slice none 0 0,.slice none 0 0,.slice na len nc] 122):=⟨_,rfl⟩
 rw[<- hw4]
 obtain⟨sb,hsb⟩ : ∃ sb,sb=w3.heap.size:=⟨_,rfl⟩
 rw[<- hsb]
 have hb4:Below w3.heap.size w3 w4:=by rw[hw4];exact (Below.refl _ w3).alloc (Nat.le_refl _) _
 have hsb0:w.heap.size<=sb:=by rw[hsb];exact HB3.out.size
 have HR4:Hid (RowAt w4 sb 122 #[.pointer (some ⟨Zb,0,none⟩),.slice a2 1 c2,.int .u16 (t:Int),.slice none 0 0,.int .i64 0,.slice none 0 0,.slice none 0 0,.slice none 0 0,.slice none 0 0,.slice na len nc]):=hide (by rw[hw4,hsb];exact RowAt.new w3 _ _)
 have HB4:=hide (HB3.out.trans (hb4.mono HB3.out.size))
 have HK4:=hide (HK3.out.trans (KA.bel hb4))
 have HT4:=hide (HT3.out.kb (KB.of_below hb4))
 have HTA4:=hide (HTA3.out.kb (KB.of_below hb4))
 clear hw4 hsb hb4 HB3 HK3 HT3 HB2
 go_loopw [10] (fun _ wr=>wr=w4) (fun _ _=>0)
 case atStart=>rfl
 case round =>
  subst hrel
  have H4:Hid (FSt w w1 sb #[.pointer (some ⟨Zb,0,none⟩),.slice a2 1 c2,.int .u16 (t:Int),.slice none 0 0,.int .i64 0,.slice none 0 0,.slice none 0 0,.slice none 0 0,.slice none 0 0,.slice na len nc] na n wr):=hide ⟨HB4.out,HR4.out,HK4.out,HT4.out⟩
  have hgive:=givenAway_none (HZ.out.bel HB4.out) (by decide:Z.exA.length<=1000000) sb (.slice a2 1 c2) (.slice none 0 0) (.slice none 0 0) (.slice none 0 0) (.slice none 0 0) t 0 none 0 0 n na len nc hl HR4.out HT4.out.1 hm HNO.out
  have HGIVE:=hide hgive
  clear hgive HB4 HR4 HK4 HT4
  go_wp2_with (first
   | (go_at_call 71;go_loud (refine HGIVE.out.mono ?_;rintro e w5 ⟨rfl,hB5⟩;have H5:=hide (H4.out.step hB5);have HB45:=hide hB5;clear hB5))
   | (go_at_call 73;go_loud (refine (owner_nothing HZ.out hK H5.out.bel sb hsb0 _ _ _ _ _ _ _ 0 n na len nc hl hc3 hnb H5.out.row H5.out.ty.1 hm HIN.out HAT.out HHAS.out HST.out).mono ?_;rintro e w6 ⟨rfl,hrow6,hk6,hb6⟩;have HROW6:=hide hrow6;have HK6:=hide (H5.out.ka.trans hk6);have HB6:=hide (H5.out.bel.trans hb6);have HT6:=hide (H5.out.ty.kb hk6.kb);have HTA6:=hide ((HTA4.out.kb (KB.of_below HB45.out)).kb hk6.kb);clear hrow6 hk6 hb6))
   | (go_at_call 77;go_loud (refine (deny_soa HZ.out hK HB6.out sb hsb0 (n.drop (len - 1)) a2 1 c2 _ _ _ _ _ _ _ 4 (Or.inr rfl) (hide HAPL.out) HROW6.out HTA6.out.1 (hide HAPM.out)).mono ?_;rintro e w9 ⟨rfl,v9,hrow9,hO9,hK9,hB9⟩;obtain⟨a9,c9,hv9,_,_⟩:=hO9.slice;obtain⟨q9,hq9⟩ : ∃ q9,v9 = .slice a9 q9 c9:=⟨_,hv9⟩;subst hq9;clear hv9;have HROW9:=hide hrow9;have HO9:=hide hO9;have HK9:=hide (HK6.out.trans hK9);have HB9:=hide (HB6.out.trans hB9);have HT9:=hide (HT6.out.kb hK9.kb);clear hrow9 hO9 hK9 hB9;obtain⟨s4,s5,s6,s7,s8,s9⟩:=se_facts HROW9.out;obtain⟨r0,r1,r2,r3,r4,r5,g0,g1,g2,g3,g4,g5⟩:=fd_facts (HFD.out w9 HK9.out)))
   | fail)
  rw[Exit.noGoto_ret]
  have hfd:=fdSet_row (HFD.out w9 HK9.out) (.int .i64 4) (.slice none 0 0) (.slice a9 q9 c9) (.slice none 0 0) (.slice none 0 0) (.slice na len nc)
  refine bodyPost_ret (v := .agg _) (results_fd Tryz.results39 _ _ w.heap.size _ rfl rfl hfd.1) rfl ⟨_,na,nc,rfl,?_,?_,hfd.2.2 _ (Nat.le_refl _) _ HB9.out⟩
  ·exact HO9.out.kx hfd.2.1 (fun _ _ h=>h.kx (by decide) (by decide) hfd.2.1) (by decide)
  ·exact (HT9.out.kb (hfd.2.1.kb (by decide))).1
set_option maxRecDepth 20000 in
set_option maxHeartbeats 2000000 in
theorem find_has {X:Nat->Prop} {w:World} {Zb:Nat} {L:List Z.R} {K:Nat} (Z0:ZLive X w Zb Z.exA L K) (hK:K<=1000000) (n:List (List UInt8)) (ao:Option Addr) (len cap:Nat) (hl:Hid (n.length=len)) (hs:SlS w ao n) (hcap:len<=cap) (hm:Hid (N.Small n)) (hin:N.within n Z.exA=true) (t:Nat) (hno : ∀ d,d<=n.length -> ¬ cutL Z.exA L (path n) d) (hat:Z.typesAt L (path n) = []) (hhas:Z.has L (path n)=true) :
 Calls Tryz.prog 39 #[.pointer (some ⟨Zb,0,none⟩),.slice ao len cap,.int .u16 (t:Int)] w fun e w' => ∃ v' na nc,e = .returned (.agg #[.int .i64 3,.slice none 0 0,v',.slice none 0 0,.slice none 0 0,.slice na len nc])/\OwnL 54 4 ES w' w.heap.size v' (setsP L (n.drop (len - 1)) [6])/\SlS w' na n/\Below w.heap.size w w':=by
 have hf:Flat ao:=hs.flat (by have:=(within_chk n hin).1;omega)
 have hlen:len<=1000000:=by rw[<- hl.out];exact hm.out.1
 have h1len:1<=len:=by rw[<- hl.out];exact (within_chk n hin).1
 have hap : ∀ W,Below w.heap.size w W->Calls Tryz.prog 70 #[.pointer (some ⟨Zb,0,none⟩),.slice ao len cap] W fun e w' => ∃ a c,e = .returned (.tuple #[.slice a 1 c,.bool true])/\TyS w' a (n.drop (len - 1))/\Below W.heap.size W w':=fun W hW=>by
  refine (lapex_any (Z0.bel hW) n ao len cap hl (hs.below hW (Nat.le_refl _)) hf hcap hm).mono ?_
  rintro e w' ⟨v,rfl,hO,hB⟩
  rw[if_pos hin] at hO
  obtain⟨a,c,rfl,hT,_⟩:=hO.ty
  refine⟨a,c,?_,hT,hB⟩
  rw[hin,List.length_drop,hl.out,show len - (len - 1)=1 by omega]
 have hcl : ∀ W,Below w.heap.size w W->Calls Tryz.prog 56 #[.slice ao len cap] W fun e w' => ∃ a c,e = .returned (.slice a len c)/\TyS w' a n/\len<=c/\Below W.heap.size W w':=fun W hW=>by
  refine (nclone_all W ao len cap n hl.out hlen hf (hs.below hW (Nat.le_refl _))).mono ?_
  rintro e w' ⟨v,rfl,hO,hB⟩
  obtain⟨a,c,rfl,hT,_,hc⟩:=hO.ty
  rw[hl.out] at hc ⊢
  exact⟨a,c,rfl,hT,hc,hB⟩
 have hapm:N.Small (n.drop (len - 1)):=⟨by rw[List.length_drop];have:=hm.out.1;omega,fun l h=>hm.out.2 l (List.mem_of_mem_drop h)⟩
 have hapl:(n.drop (len - 1)).length=1:=by rw[List.length_drop,hl.out];omega
 have HAP:=hide hap
 have HCL:=hide hcl
 have HZ:=hide Z0
 have HNO:=hide hno
 have HAT:=hide hat
 have HHAS:=hide hhas
 have HIN:=hide hin
 have HAPM:=hide hapm
 have HAPL:=hide hapl
 clear hap hcl Z0 hno hat hs hf hhas hin hapm hapl
 obtain⟨w1,hw1⟩ : ∃ w1,w1=w.alloc (.cells #[.int .i64 0,.slice none 0 0,.slice none 0 0,.slice none 0 0,.slice none 0 0,.slice none 0 0] 70):=⟨_,rfl⟩
 have hb1:Below w.heap.size w w1:=by rw[hw1];exact (Below.refl _ w).alloc (Nat.le_refl _) _
 have hr1:RowAt w1 w.heap.size 70 #[.int .i64 0,.slice none 0 0,.slice none 0 0,.slice none 0 0,.slice none 0 0,.slice none 0 0]:=by rw[hw1];exact RowAt.new w _ _
 have HW1:=hide hw1
 have HB1:=hide hb1
 have HR1:=hide hr1
 clear hw1 hb1 hr1
 have HFD:Hid (∀ W,KA w1 W->RowAt W w.heap.size 70 #[.int .i64 0,.slice none 0 0,.slice none 0 0,.slice none 0 0,.slice none 0 0,.slice none 0 0]):=hide fun W hW=>hW.rows _ _ _ _ HR1.out (by decide) (by decide)
 go_enter Tryz.func39,Tryz.ntmps39
 go_wp2
 go_step3
 rw[<- HW1.out]
 go_wp2_with (first
  | (go_at_call 56;go_loud (refine (HCL.out w2 HB2.out).mono ?_;rintro e w3 ⟨na,nc,rfl,hT3,hc3,hB3⟩;have hB3q:=hB3;have HB3:=hide (HB2.out.trans (hB3.mono HB2.out.size));have HTA3:=hide (HTA2.out.kb (KB.of_below hB3q));have HT3:=hide hT3;have HK3:=hide ((KA.bel hB2k).trans (KA.bel hB3));clear hT3 hB3 hB2k hB3q))
  | (go_at_call 70;go_loud (refine (HAP.out _ HB1.out).mono ?_;rintro e w2 ⟨a2,c2,rfl,hTA2,hB2⟩;have hB2k:=hB2;have HTA2:=hide hTA2;clear hTA2;have HB2:=hide (HB1.out.trans (hB2.mono HB1.out.size));clear hB2))
  | fail)
 go_step3
 go_wp2
 obtain⟨w4,hw4⟩ : ∃ w4,w4=w3.alloc (.cells #[.pointer (some ⟨Zb,0,none⟩),.slice a2 1 c2,.int .u16 (t:Int),.slice none 0 0,.int .i64 0,.slice none 0 0,.slice none 0 0,.slice none 0 0,.slice none 0 0,.slice na len nc] 122):=⟨_,rfl⟩
 rw[<- hw4]
 obtain⟨sb,hsb⟩ : ∃ sb,sb=w3.heap.size:=⟨_,rfl⟩
 rw[<- hsb]
 have hb4:Below w3.heap.size w3 w4:=by rw[hw4];exact (Below.refl _ w3).alloc (Nat.le_refl _) _
 have hsb0:w.heap.size<=sb:=by rw[hsb];exact HB3.out.size
 have HR4:Hid (RowAt w4 sb 122 #[.pointer (some ⟨Zb,0,none⟩),.slice a2 1 c2,.int .u16 (t:Int),.slice none 0 0,.int .i64 0,.slice none 0 0,.slice none 0 0,.slice none 0 0,.slice none 0 0,.slice na len nc]):=hide (by rw[hw4,hsb];exact RowAt.new w3 _ _)
 have HB4:=hide (HB3.out.trans (hb4.mono HB3.out.size))
 have HK4:=hide (HK3.out.trans (KA.bel hb4))
 have HT4:=hide (HT3.out.kb (KB.of_below hb4))
 have HTA4:=hide (HTA3.out.kb (KB.of_below hb4))
 clear hw4 hsb hb4 HB3 HK3 HT3 HB2
 go_loopw [10] (fun _ wr=>wr=w4) (fun _ _=>0)
 case atStart=>rfl
 case round =>
  subst hrel
  have H4:Hid (FSt w w1 sb #[.pointer (some ⟨Zb,0,none⟩),.slice a2 1 c2,.int .u16 (t:Int),.slice none 0 0,.int .i64 0,.slice none 0 0,.slice none 0 0,.slice none 0 0,.slice none 0 0,.slice na len nc] na n wr):=hide ⟨HB4.out,HR4.out,HK4.out,HT4.out⟩
  have hgive:=givenAway_none (HZ.out.bel HB4.out) (by decide:Z.exA.length<=1000000) sb (.slice a2 1 c2) (.slice none 0 0) (.slice none 0 0) (.slice none 0 0) (.slice none 0 0) t 0 none 0 0 n na len nc hl HR4.out HT4.out.1 hm HNO.out
  have HGIVE:=hide hgive
  clear hgive HB4 HR4 HK4 HT4
  go_wp2_with (first
   | (go_at_call 71;go_loud (refine HGIVE.out.mono ?_;rintro e w5 ⟨rfl,hB5⟩;have H5:=hide (H4.out.step hB5);have HB45:=hide hB5;clear hB5))
   | (go_at_call 73;go_loud (refine (owner_none (HZ.out.bel H5.out.bel) hK sb w.heap.size hsb0 H5.out.bel.size _ _ _ _ _ _ _ 0 n na len nc hl H5.out.row H5.out.ty.1 hm HAT.out HHAS.out).mono ?_;rintro e w6 ⟨rfl,hrow6,hk6,hb6⟩;have HROW6:=hide hrow6;have HK6:=hide (H5.out.ka.trans hk6);have HB6:=hide (H5.out.bel.trans hb6);have HT6:=hide (H5.out.ty.kb hk6.kb);have HTA6:=hide ((HTA4.out.kb (KB.of_below HB45.out)).kb hk6.kb);clear hrow6 hk6 hb6))
   | (go_at_call 77;go_loud (refine (deny_soa HZ.out hK HB6.out sb hsb0 (n.drop (len - 1)) a2 1 c2 _ _ _ _ _ _ _ 3 (Or.inl rfl) (hide HAPL.out) HROW6.out HTA6.out.1 (hide HAPM.out)).mono ?_;rintro e w9 ⟨rfl,v9,hrow9,hO9,hK9,hB9⟩;obtain⟨a9,c9,hv9,_,_⟩:=hO9.slice;obtain⟨q9,hq9⟩ : ∃ q9,v9 = .slice a9 q9 c9:=⟨_,hv9⟩;subst hq9;clear hv9;have HROW9:=hide hrow9;have HO9:=hide hO9;have HK9:=hide (HK6.out.trans hK9);have HB9:=hide (HB6.out.trans hB9);have HT9:=hide (HT6.out.kb hK9.kb);clear hrow9 hO9 hK9 hB9;obtain⟨s4,s5,s6,s7,s8,s9⟩:=se_facts HROW9.out;obtain⟨r0,r1,r2,r3,r4,r5,g0,g1,g2,g3,g4,g5⟩:=fd_facts (HFD.out w9 HK9.out)))
   | fail)
  rw[Exit.noGoto_ret]
  have hfd:=fdSet_row (HFD.out w9 HK9.out) (.int .i64 3) (.slice none 0 0) (.slice a9 q9 c9) (.slice none 0 0) (.slice none 0 0) (.slice na len nc)
  refine bodyPost_ret (v := .agg _) (results_fd Tryz.results39 _ _ w.heap.size _ rfl rfl hfd.1) rfl ⟨_,na,nc,rfl,?_,?_,hfd.2.2 _ (Nat.le_refl _) _ HB9.out⟩
  ·exact HO9.out.kx hfd.2.1 (fun _ _ h=>h.kx (by decide) (by decide) hfd.2.1) (by decide)
  ·exact (HT9.out.kb (hfd.2.1.kb (by decide))).1
set_option maxRecDepth 20000 in
set_option maxHeartbeats 2000000 in
theorem find_other {X:Nat->Prop} {w:World} {Zb:Nat} {L:List Z.R} {K:Nat} (Z0:ZLive X w Zb Z.exA L K) (hK:K<=1000000) (n:List (List UInt8)) (ao:Option Addr) (len cap:Nat) (hl:Hid (n.length=len)) (hs:SlS w ao n) (hcap:len<=cap) (hm:Hid (N.Small n)) (hin:N.within n Z.exA=true) (t:Nat) (ht2:t≠255) (hno : ∀ d,d<=n.length -> ¬ cutL Z.exA L (path n) d) (hne:Z.typesAt L (path n) ≠ []) (hat:t ∉ Z.typesAt L (path n)) (hat5:5 ∉ Z.typesAt L (path n)) :
 Calls Tryz.prog 39 #[.pointer (some ⟨Zb,0,none⟩),.slice ao len cap,.int .u16 (t:Int)] w fun e w' => ∃ v' na nc,e = .returned (.agg #[.int .i64 3,.slice none 0 0,v',.slice none 0 0,.slice none 0 0,.slice na len nc])/\OwnL 54 4 ES w' w.heap.size v' (setsP L (n.drop (len - 1)) [6])/\SlS w' na n/\Below w.heap.size w w':=by
 have hf:Flat ao:=hs.flat (by have:=(within_chk n hin).1;omega)
 have hlen:len<=1000000:=by rw[<- hl.out];exact hm.out.1
 have h1len:1<=len:=by rw[<- hl.out];exact (within_chk n hin).1
 have hap : ∀ W,Below w.heap.size w W->Calls Tryz.prog 70 #[.pointer (some ⟨Zb,0,none⟩),.slice ao len cap] W fun e w' => ∃ a c,e = .returned (.tuple #[.slice a 1 c,.bool true])/\TyS w' a (n.drop (len - 1))/\Below W.heap.size W w':=fun W hW=>by
  refine (lapex_any (Z0.bel hW) n ao len cap hl (hs.below hW (Nat.le_refl _)) hf hcap hm).mono ?_
  rintro e w' ⟨v,rfl,hO,hB⟩
  rw[if_pos hin] at hO
  obtain⟨a,c,rfl,hT,_⟩:=hO.ty
  refine⟨a,c,?_,hT,hB⟩
  rw[hin,List.length_drop,hl.out,show len - (len - 1)=1 by omega]
 have hcl : ∀ W,Below w.heap.size w W->Calls Tryz.prog 56 #[.slice ao len cap] W fun e w' => ∃ a c,e = .returned (.slice a len c)/\TyS w' a n/\len<=c/\Below W.heap.size W w':=fun W hW=>by
  refine (nclone_all W ao len cap n hl.out hlen hf (hs.below hW (Nat.le_refl _))).mono ?_
  rintro e w' ⟨v,rfl,hO,hB⟩
  obtain⟨a,c,rfl,hT,_,hc⟩:=hO.ty
  rw[hl.out] at hc ⊢
  exact⟨a,c,rfl,hT,hc,hB⟩
 have hapm:N.Small (n.drop (len - 1)):=⟨by rw[List.length_drop];have:=hm.out.1;omega,fun l h=>hm.out.2 l (List.mem_of_mem_drop h)⟩
 have hapl:(n.drop (len - 1)).length=1:=by rw[List.length_drop,hl.out];omega
 have HAP:=hide hap
 have HCL:=hide hcl
 have HZ:=hide Z0
 have HNO:=hide hno
 have HAT:=hide hat
 have HNE:=hide hne
 have HAT5:=hide hat5
 have htb:((t:Int) == 255)=false:=by simp;omega
 have HIN:=hide hin
 have HAPM:=hide hapm
 have HAPL:=hide hapl
 clear hap hcl Z0 hno hat hs hf hne hat5 hin hapm hapl
 obtain⟨w1,hw1⟩ : ∃ w1,w1=w.alloc (.cells #[.int .i64 0,.slice none 0 0,.slice none 0 0,.slice none 0 0,.slice none 0 0,.slice none 0 0] 70):=⟨_,rfl⟩
 have hb1:Below w.heap.size w w1:=by rw[hw1];exact (Below.refl _ w).alloc (Nat.le_refl _) _
 have hr1:RowAt w1 w.heap.size 70 #[.int .i64 0,.slice none 0 0,.slice none 0 0,.slice none 0 0,.slice none 0 0,.slice none 0 0]:=by rw[hw1];exact RowAt.new w _ _
 have HW1:=hide hw1
 have HB1:=hide hb1
 have HR1:=hide hr1
 clear hw1 hb1 hr1
 have HFD:Hid (∀ W,KA w1 W->RowAt W w.heap.size 70 #[.int .i64 0,.slice none 0 0,.slice none 0 0,.slice none 0 0,.slice none 0 0,.slice none 0 0]):=hide fun W hW=>hW.rows _ _ _ _ HR1.out (by decide) (by decide)
 have HTY:Hid (∀ W na nc,Below w.heap.size w W->SlS W na n->Calls Tryz.prog 33 #[.pointer (some ⟨Zb,0,none⟩),.slice na len nc] W fun e w' => ∃ a tl c,e = .returned (.slice a tl c)/\Calls Tryz.prog 75 #[.slice a tl c,.int .u16 (t:Int)] w' (fun e w''=>e = .returned (.bool false)/\w''=w')/\Calls Tryz.prog 75 #[.slice a tl c,.int .u16 5] w' (fun e w''=>e = .returned (.bool false)/\w''=w')/\Below W.heap.size W w'):=hide fun W na nc hW hS=>by
  refine (ztypes_live (HZ.out.bel hW) hK n na len nc hl hS hm).mono ?_
  rintro e w' ⟨v,rfl,ts,hts,hO,hb⟩
  obtain⟨a,c,rfl,hS7,_⟩:=hO.open
  have hln:ts.length<=1000000:=by
   have h1:=congrArg List.length hts
   rw[List.length_map] at h1
   have h2:=Z.typesAt_len L (path n)
   have h3:=HZ.out.num
   omega
  have hc:=hcontains_any ts a ts.length c t w' (hide rfl) hS7 hln
  rw[hts,decide_eq_false HAT.out] at hc
  have hc5:=hcontains_any ts a ts.length c 5 w' (hide rfl) hS7 hln
  rw[hts,decide_eq_false HAT5.out] at hc5
  exact⟨a,_,c,rfl,hc,hc5,hb⟩
 go_enter Tryz.func39,Tryz.ntmps39
 go_wp2
 go_step3
 rw[<- HW1.out]
 go_wp2_with (first
  | (go_at_call 56;go_loud (refine (HCL.out w2 HB2.out).mono ?_;rintro e w3 ⟨na,nc,rfl,hT3,hc3,hB3⟩;have hB3q:=hB3;have HB3:=hide (HB2.out.trans (hB3.mono HB2.out.size));have HTA3:=hide (HTA2.out.kb (KB.of_below hB3q));have HT3:=hide hT3;have HK3:=hide ((KA.bel hB2k).trans (KA.bel hB3));clear hT3 hB3 hB2k hB3q))
  | (go_at_call 70;go_loud (refine (HAP.out _ HB1.out).mono ?_;rintro e w2 ⟨a2,c2,rfl,hTA2,hB2⟩;have hB2k:=hB2;have HTA2:=hide hTA2;clear hTA2;have HB2:=hide (HB1.out.trans (hB2.mono HB1.out.size));clear hB2))
  | fail)
 go_step3
 go_wp2
 obtain⟨w4,hw4⟩ : ∃ w4,w4=w3.alloc (.cells #[.pointer (some ⟨Zb,0,none⟩),.slice a2 1 c2,.int .u16 (t:Int),.slice none 0 0,.int .i64 0,.slice none 0 0,.slice none 0 0,.slice none 0 0,.slice none 0 0,.slice na len nc] 122):=⟨_,rfl⟩
 rw[<- hw4]
 obtain⟨sb,hsb⟩ : ∃ sb,sb=w3.heap.size:=⟨_,rfl⟩
 rw[<- hsb]
 have hb4:Below w3.heap.size w3 w4:=by rw[hw4];exact (Below.refl _ w3).alloc (Nat.le_refl _) _
 have hsb0:w.heap.size<=sb:=by rw[hsb];exact HB3.out.size
 have HR4:Hid (RowAt w4 sb 122 #[.pointer (some ⟨Zb,0,none⟩),.slice a2 1 c2,.int .u16 (t:Int),.slice none 0 0,.int .i64 0,.slice none 0 0,.slice none 0 0,.slice none 0 0,.slice none 0 0,.slice na len nc]):=hide (by rw[hw4,hsb];exact RowAt.new w3 _ _)
 have HB4:=hide (HB3.out.trans (hb4.mono HB3.out.size))
 have HK4:=hide (HK3.out.trans (KA.bel hb4))
 have HT4:=hide (HT3.out.kb (KB.of_below hb4))
 have HTA4:=hide (HTA3.out.kb (KB.of_below hb4))
 clear hw4 hsb hb4 HB3 HK3 HT3 HB2
 go_loopw [10] (fun _ wr=>wr=w4) (fun _ _=>0)
 case atStart=>rfl
 case round =>
  subst hrel
  have H4:Hid (FSt w w1 sb #[.pointer (some ⟨Zb,0,none⟩),.slice a2 1 c2,.int .u16 (t:Int),.slice none 0 0,.int .i64 0,.slice none 0 0,.slice none 0 0,.slice none 0 0,.slice none 0 0,.slice na len nc] na n wr):=hide ⟨HB4.out,HR4.out,HK4.out,HT4.out⟩
  have hgive:=givenAway_none (HZ.out.bel HB4.out) (by decide:Z.exA.length<=1000000) sb (.slice a2 1 c2) (.slice none 0 0) (.slice none 0 0) (.slice none 0 0) (.slice none 0 0) t 0 none 0 0 n na len nc hl HR4.out HT4.out.1 hm HNO.out
  have HGIVE:=hide hgive
  clear hgive HB4 HR4 HK4 HT4
  go_wp2_with (first
   | (go_at_call 71;go_loud (refine HGIVE.out.mono ?_;rintro e w5 ⟨rfl,hB5⟩;have H5:=hide (H4.out.step hB5);have HB45:=hide hB5;clear hB5))
   | (go_at_call 73;go_loud (refine (owner_at (HZ.out.bel H5.out.bel) hK sb _ _ _ _ _ _ _ _ n na len nc hl H5.out.row H5.out.ty.1 hm HNE.out).mono ?_;rintro e w6 ⟨rfl,hB6⟩;have H6:=hide (H5.out.step hB6);have HB56:=hide hB6;clear hB6))
   | (go_at_call 33;go_loud (refine (HTY.out w6 na nc H6.out.bel H6.out.ty.1).mono ?_;rintro e w7 ⟨a7,tl,c7,rfl,hC7,hC57,hB7⟩;have H7:=hide (H6.out.step hB7);have HC7:=hide hC7;have HC57:=hide hC57;have HTA7:=hide (((HTA4.out.kb (KB.of_below HB45.out)).kb (KB.of_below HB56.out)).kb (KB.of_below hB7));have c4:w7.cell? ⟨sb,4,none⟩=some (.int .i64 0):=H7.out.row.cell 4;have f4:w7.frozen? ⟨sb,4,none⟩=false:=H7.out.row.frozen 4;clear hC7 hC57 hB7))
   | (go_at_call 75;have hq:=HF7.out;clear hq;go_loud (refine HC57.out.mono ?_;rintro e w8 ⟨rfl,hw8⟩;have hw9:=hw8.symm;subst hw9;clear hw8))
   | (go_at_call 75;go_loud (refine HC7.out.mono ?_;rintro e w8 ⟨rfl,hw8⟩;have hw9:=hw8.symm;subst hw9;clear hw8;have HF7:=hide trivial))
   | (go_at_call 77;go_loud (have hset:=KX.set H7.out.row 4 (.int .i64 3);have hrow7:=H7.out.row.set 4 (.int .i64 3);have hb7:=H7.out.bel.setCell (p:=⟨sb,4,none⟩) hsb0 (.int .i64 3);have HK6:=hide (H7.out.ka.trans (KA.kx hset (Or.inr rfl)));have HB6:=hide hb7;have HT6:=hide (H7.out.ty.kb (hset.kb (by decide)));refine (deny_soa HZ.out hK hb7 sb hsb0 (n.drop (len - 1)) a2 1 c2 _ _ _ _ _ _ _ 3 (Or.inl rfl) (hide HAPL.out) hrow7 (HTA7.out.kb (hset.kb (by decide))).1 (hide HAPM.out)).mono ?_;rintro e w9 ⟨rfl,v9,hrow9,hO9,hK9,hB9⟩;obtain⟨a9,c9,hv9,_,_⟩:=hO9.slice;obtain⟨q9,hq9⟩ : ∃ q9,v9 = .slice a9 q9 c9:=⟨_,hv9⟩;subst hq9;clear hv9;have HROW9:=hide hrow9;have HO9:=hide hO9;have HK9:=hide (HK6.out.trans hK9);have HB9:=hide (HB6.out.trans hB9);have HT9:=hide (HT6.out.kb hK9.kb);clear hrow9 hO9 hK9 hB9;obtain⟨s4,s5,s6,s7,s8,s9⟩:=se_facts HROW9.out;obtain⟨r0,r1,r2,r3,r4,r5,g0,g1,g2,g3,g4,g5⟩:=fd_facts (HFD.out w9 HK9.out)))
   | fail)
  rw[Exit.noGoto_ret]
  have hfd:=fdSet_row (HFD.out w9 HK9.out) (.int .i64 3) (.slice none 0 0) (.slice a9 q9 c9) (.slice none 0 0) (.slice none 0 0) (.slice na len nc)
  refine bodyPost_ret (v := .agg _) (results_fd Tryz.results39 _ _ w.heap.size _ rfl rfl hfd.1) rfl ⟨_,na,nc,rfl,?_,?_,hfd.2.2 _ (Nat.le_refl _) _ HB9.out⟩
  ·exact HO9.out.kx hfd.2.1 (fun _ _ h=>h.kx (by decide) (by decide) hfd.2.1) (by decide)
  ·exact (HT9.out.kb (hfd.2.1.kb (by decide))).1
end Go.Proofs.YtmbcegljmhcdeaaGreat
namespace Go.Proofs.YtmbcegljmhcdeaaGreat
set_option maxRecDepth 5000
open Go.RowKit
theorem Z.putR_cases (A:List (List UInt8)) (L:List Z.R) (n:List (List UInt8)) (t cl ttl:Nat) (d:List UInt8):(Z.putR A L n t cl ttl d).2.2=L \/ ∃ c,(Z.putR A L n t cl ttl d).2.2=Z.put L ⟨path n,t,c,ttl,d⟩:=by
 unfold Z.putR
 split
 ·exact Or.inl rfl
 ·split
  ·exact Or.inl rfl
  ·split
   ·exact Or.inl rfl
   ·rename_i c hc
    split
    ·split
     ·exact Or.inl rfl
     ·exact Or.inr ⟨c,rfl⟩
    ·split
     ·exact Or.inl rfl
     ·exact Or.inr ⟨c,rfl⟩
theorem Z.dd1_mem (acc:List Nat) (a x:Nat):x∈Z.dd1 acc a↔x∈acc\/x=a:=by
 unfold Z.dd1
 split
 ·rename_i h
  refine⟨Or.inl,fun h2=>?_⟩
  rcases h2 with h2 | rfl
  ·exact h2
  ·exact List.mem_of_getLast? h
 ·simp
theorem Z.dd1s_mem : ∀ (l acc:List Nat) (x:Nat),x∈l.foldl Z.dd1 acc↔x∈acc\/x∈l
 | [],acc,x=>by simp
 | a::l,acc,x=>by
  rw[List.foldl_cons,Z.dd1s_mem l,Z.dd1_mem,List.mem_cons]
  exact or_assoc
theorem Z.mem_typesAt {L:List Z.R} {p:List (List UInt8)} {t:Nat} : t∈Z.typesAt L p ↔ ∃ x∈L,x.p=p/\x.t=t:=by
 unfold Z.typesAt
 rw[Z.dd1s_mem]
 simp only[List.not_mem_nil,false_or,List.mem_map,List.mem_filter,decide_eq_true_eq]
 exact⟨fun ⟨x,⟨h1,h2⟩,h3⟩=>⟨x,h1,h2,h3⟩,fun ⟨x,h1,h2,h3⟩=>⟨x,⟨h1,h2⟩,h3⟩⟩
theorem exists_cl_aux (L:List Z.R) (n:List (List UInt8)) : ∀ k c,n.length - c=k->1<=c->c<=n.length->(2<=c->Z.has L ((path n).take c)=true) -> ∃ c',IsCl L n c'
 | 0,c,hk,h1,h2,h3=>⟨c,h1,h2,h3,fun h=>absurd h (by omega)⟩
 | k+1,c,hk,h1,h2,h3=>by
  cases h:Z.has L ((path n).take (c+1)) with
  | true=>exact exists_cl_aux L n k (c+1) (by omega) (by omega) (by omega) (fun _=>h)
  | false=>exact⟨c,h1,h2,h3,fun _=>h⟩
theorem exists_cl (L:List Z.R) (n:List (List UInt8)) (h:1<=n.length) : ∃ c,IsCl L n c:=exists_cl_aux L n _ 1 rfl (Nat.le_refl _) h (fun h=>absurd h (by omega))
def exL:List UInt8 := [101,120,97,109,112,108,101]
def star3:List (List UInt8) := [[42], [119],exL]
def txtN (a b:UInt8):List (List UInt8) := [[a], [b], [119],exL]
def WL (L:List Z.R):Prop:=(∀ x∈L,(x.p=path star3/\x.t=1)\/(x.t=16 /\ ∃ a b:UInt8,97<=a/\a<=100/\x.p=path (txtN a b))) /\ ∃ x∈L,x.p=path star3/\x.t=1
theorem WL.put {L:List Z.R} (h:WL L) (a b:UInt8) (h1:97<=a) (h2:a<=100) (cl ttl:Nat) (d:List UInt8):WL (Z.putR Z.exA L (txtN a b) 16 cl ttl d).2.2:=by
 rcases Z.putR_cases Z.exA L (txtN a b) 16 cl ttl d with e | ⟨c,e⟩
 ·rw[e];exact h
 ·rw[e]
  refine⟨fun x hx=>?_,?_⟩
  ·obtain⟨y,hy,rfl⟩:=Z.mem_put.1 hx
   rw[Z.setT_p,Z.setT_t]
   rcases hy with hy | ⟨_,rfl⟩
   ·exact h.1 y hy
   ·exact Or.inr ⟨rfl,a,b,h1,h2,rfl⟩
  ·obtain⟨x,hx,h3,h4⟩:=h.2
   exact⟨_,Z.mem_put.2 ⟨x,Or.inl hx,rfl⟩,by rw[Z.setT_p];exact h3,by rw[Z.setT_t];exact h4⟩
def L0w:List Z.R:=(Z.putR Z.exA [] star3 1 1 5 [1,1,1,1]).2.2
theorem WL.zero:WL L0w:=by
 have h:L0w.map (fun x=>(x.p,x.t)) = [(path star3,1)]:=by decide +kernel
 have hm : ∀ x∈L0w,x.p=path star3/\x.t=1:=fun x hx=>by
  have h1:(x.p,x.t)∈L0w.map (fun x=>(x.p,x.t)):=List.mem_map.2 ⟨x,hx,rfl⟩
  rw[h] at h1
  simpa using h1
 refine⟨fun x hx=>Or.inl (hm x hx),?_⟩
 cases hl:L0w with
 | nil=>rw[hl] at h;cases h
 | cons x r=>exact⟨x,by simp,hm x (by rw[hl];simp)⟩
def okLet (x:UInt8):Prop:=97<=x/\x<=122
def askN (qs:List UInt8):List (List UInt8):=qs.map (fun x => [x]) ++ [[119],exL]
theorem low_let (x:UInt8) (h1:97<=x) (h2:x<=122):N.lowL [x] = [x]:=by
 have h : ∀ k,k<256->97<=k->k<=122->N.lowL [UInt8.ofNat k] = [UInt8.ofNat k]:=by decide +kernel
 have h3:97<=x.toNat:=UInt8.le_iff_toNat_le.1 h1
 have h4:x.toNat<=122:=UInt8.le_iff_toNat_le.1 h2
 have h5:=h x.toNat (by omega) h3 h4
 rwa [UInt8.ofNat_toNat] at h5
theorem low_ask {qs:List UInt8} (h : ∀ x∈qs,okLet x):N.lowN (askN qs)=askN qs:=by
 unfold askN N.lowN
 rw[List.map_append,List.map_map]
 have h1 : [[119],exL].map N.lowL = [[119],exL]:=by decide +kernel
 rw[h1]
 congr 1
 exact List.map_congr_left fun x hx=>low_let x (h x hx).1 (h x hx).2
theorem path_ask {qs:List UInt8} (h : ∀ x∈qs,okLet x):path (askN qs)=(askN qs).reverse:=by
 unfold path;rw[low_ask h]
theorem path_star3:path star3=star3.reverse:=by decide +kernel
theorem path_txt (a b:UInt8) : ∃ b',path (txtN a b) = [exL, [119],b',N.lowL [a]]:=⟨N.lowL [b],by
 have h1:N.lowL exL=exL:=by decide +kernel
 have h2:N.lowL [119] = [119]:=by decide +kernel
 show (N.lowN (txtN a b)).reverse=_
 unfold N.lowN txtN
 simp[h1,h2]⟩
theorem ask_len (qs:List UInt8):(askN qs).length=qs.length+2:=by unfold askN;simp
theorem ask_drop (qs:List UInt8):(askN qs).drop ((askN qs).length - 2) = [[119],exL]:=by
 rw[ask_len,show qs.length+2 - 2=qs.length by omega]
 unfold askN
 have:qs.length=(qs.map (fun x => [x])).length:=by simp
 rw[this,List.drop_left]
theorem star_no_ask {qs:List UInt8} (h : ∀ x∈qs,okLet x):path (askN qs)≠path star3:=fun e=>by
 rw[path_ask h,path_star3] at e
 have e:=List.reverse_inj.1 e
 have hm:([42]:List UInt8)∈askN qs:=by rw[e];unfold star3;simp
 unfold askN at hm
 rcases List.mem_append.1 hm with hm | hm
 ·obtain⟨x,hx,e2⟩:=List.mem_map.1 hm
  have e3:x=42:=by injection e2
  have:=(h x hx).1
  rw[e3] at this
  exact absurd this (by decide)
 ·exact absurd hm (by decide)
theorem WL.no_cut {L:List Z.R} (h:WL L) (p:List (List UInt8)):Z.setAt L p 2 = []:=List.eq_nil_iff_forall_not_mem.2 fun x hx=>by
 obtain⟨h1,_,h3⟩:=Z.mem_setAt.1 hx
 rcases h.1 x h1 with⟨_,h4⟩ | ⟨h4,_⟩ <;> omega
theorem WL.no_a {L:List Z.R} (h:WL L) {qs:List UInt8} (hq : ∀ x∈qs,okLet x):1 ∉ Z.typesAt L (path (askN qs)):=fun hm=>by
 obtain⟨x,h1,h2,h3⟩:=Z.mem_typesAt.1 hm
 rcases h.1 x h1 with⟨h4,_⟩ | ⟨h4,_⟩
 ·exact star_no_ask hq (h2.symm.trans h4)
 ·omega
theorem WL.no_alias {L:List Z.R} (h:WL L) (p:List (List UInt8)):5 ∉ Z.typesAt L p:=fun hm=>by
 obtain⟨x,h1,_,h3⟩:=Z.mem_typesAt.1 hm
 rcases h.1 x h1 with⟨_,h4⟩ | ⟨h4,_⟩ <;> omega
theorem has_of_types {L:List Z.R} {p:List (List UInt8)} (h:Z.typesAt L p ≠ []):Z.has L p=true:=by
 obtain⟨t,ht⟩:=List.exists_mem_of_ne_nil _ h
 obtain⟨x,h1,h2,_⟩:=Z.mem_typesAt.1 ht
 exact Z.has_iff.2 ⟨x,h1,by rw[h2];exact List.prefix_refl _⟩
theorem WL.cl2 {L:List Z.R} (h:WL L) {qs:List UInt8} (hq : ∀ x∈qs,okLet x) {c:Nat} (hc:IsCl L (askN qs) c):2<=c:=by
 rcases Nat.lt_or_ge c 2 with hlt | hge
 ·have h1:=hc.1
  obtain rfl:c=1:=by omega
  have h2:=hc.2.2.2 (by rw[ask_len];omega)
  have h3:Z.has L ((path (askN qs)).take 2)=true:=by
   obtain⟨x,h4,h5,_⟩:=h.2
   refine Z.has_iff.2 ⟨x,h4,?_⟩
   rw[h5,path_star3,path_ask hq]
   have e:(askN qs).reverse.take 2 = [exL, [119]]:=by
    unfold askN
    rw[List.reverse_append]
    rfl
   rw[e]
   exact⟨[[42]],rfl⟩
  rw[h3] at h2;cases h2
 ·exact hge
theorem star_two {qs:List UInt8} : starN (askN qs) 2=star3:=by
 unfold starN
 rw[ask_drop]
 decide +kernel
theorem WL.star_a {L:List Z.R} (h:WL L) (qs:List UInt8):1∈Z.typesAt L (path (starN (askN qs) 2)):=by
 rw[star_two]
 obtain⟨x,h1,h2,h3⟩:=h.2
 exact Z.mem_typesAt.2 ⟨x,h1,h2,h3⟩
theorem WL.star_no {L:List Z.R} (h:WL L) {qs:List UInt8} {c:Nat} (hc:IsCl L (askN qs) c) (h3:3<=c):Z.typesAt L (path (starN (askN qs) c)) = []:=List.eq_nil_iff_forall_not_mem.2 fun t ht=>by
 obtain⟨x,h1,h2,_⟩:=Z.mem_typesAt.1 ht
 have hl:(path (starN (askN qs) c)).length=c+1:=by rw[path_len,starN_len hc]
 rcases h.1 x h1 with⟨h4,_⟩ | ⟨_,a,b,ha1,ha2,h4⟩
 ·rw[<- h2,h4,path_star3] at hl
  have:star3.reverse.length=3:=rfl
  omega
 ·obtain⟨b',hb'⟩:=path_txt a b
  rw[h2,hb'] at h4
  have hlast:(path (starN (askN qs) c)).getLast?=some [42]:=by
   unfold path starN
   show (N.lowN ([42]::N.lowN ((askN qs).drop ((askN qs).length - c)))).reverse.getLast?=_
   rw[List.getLast?_reverse]
   show some (N.lowL [42])=_
   decide +kernel
  rw[h4] at hlast
  have e:some (N.lowL [a])=some [42]:=hlast
  rw[low_let a ha1 (Nat.le_trans ha2 (by decide))] at e
  injection e with e
  injection e with e _
  rw[e] at ha1
  exact absurd ha1 (by decide)
open Go.RowKit
theorem apex_any (w:World):Calls Tryz.prog 13 #[] w fun e w' => ∃ v,e = .returned v/\OwnS w' w.heap.size v Z.exA/\Below w.heap.size w w':=by
 go_enter Tryz.func13,Tryz.ntmps13
 go_wp2
 go_ret
 exact⟨_,rfl,OwnS.lit w Z.exA _ _ (Nat.le_refl _) rfl (by decide) 1 rfl,(Below.refl _ w).alloc (Nat.le_refl _) _⟩
def lay (w:World):List (List (List UInt8))->World
 | []=>w
 | l::r=>lay (w.alloc (.cells (vs l).toArray 9)) r
theorem lay_size : ∀ (r:List (List (List UInt8))) (w:World),(lay w r).heap.size=w.heap.size+r.length
 | [],w=>rfl
 | l::r,w=>by
  show (lay (w.alloc _) r).heap.size=_
  rw[lay_size r,World.size_alloc,List.length_cons];omega
theorem lay_below : ∀ (r:List (List (List UInt8))) (w:World),Below w.heap.size w (lay w r)
 | [],w=>Below.refl _ w
 | l::r,w=>by
  have h:=lay_below r (w.alloc (.cells (vs l).toArray 9))
  exact ((Below.refl _ w).alloc (Nat.le_refl _) _).trans (h.mono (by rw[World.size_alloc];omega))
theorem lay_at : ∀ (r:List (List (List UInt8))) (w:World) (j:Nat),j<r.length->SlS (lay w r) (some ⟨w.heap.size+j,0,none⟩) (r.getD j [])
 | [],w,j,h=>absurd h (Nat.not_lt_zero j)
 | l::r,w,0,h=>by
  have h1:=SlS.litm w l _ 9 (0,0) rfl
  exact h1.below (lay_below r _) (Nat.le_refl _)
 | l::r,w,j+1,h=>by
  have h1:=lay_at r (w.alloc (.cells (vs l).toArray 9)) j (by simpa using h)
  rw[World.size_alloc] at h1
  have e:w.heap.size+1+j=w.heap.size+(j+1):=by omega
  rw[e] at h1
  exact h1
def ownCells (b:Nat):Array Value := #[.slice (some ⟨b,0,none⟩) 0 0,.slice (some ⟨b+1,0,none⟩) 1 1,.slice (some ⟨b+2,0,none⟩) 1 1,.slice (some ⟨b+3,0,none⟩) 2 2,.slice (some ⟨b+4,0,none⟩) 2 2,.slice (some ⟨b+5,0,none⟩) 2 2,.slice (some ⟨b+6,0,none⟩) 3 3,.slice (some ⟨b+7,0,none⟩) 1 1,.slice (some ⟨b+8,0,none⟩) 2 2,.slice (some ⟨b+9,0,none⟩) 1 1,.slice (some ⟨b+10,0,none⟩) 3 3,.slice (some ⟨b+11,0,none⟩) 1 1,.slice (some ⟨b+12,0,none⟩) 1 1]
theorem ownCells_get (b:Nat) : ∀ j,j<13->(ownCells b)[j]?=some (.slice (some ⟨b+j,0,none⟩) (Z.owns.getD j []).length (Z.owns.getD j []).length)
 | 0,_=>rfl | 1,_=>rfl | 2,_=>rfl | 3,_=>rfl | 4,_=>rfl | 5,_=>rfl | 6,_=>rfl | 7,_=>rfl | 8,_=>rfl | 9,_=>rfl | 10,_=>rfl | 11,_=>rfl | 12,_=>rfl
 | j+13,h=>absurd h (by omega)
set_option maxHeartbeats 1000000 in
theorem owner_any (k:Nat) (hk:k<256) (w:World):Calls Tryz.prog 22 #[.int .u8 (k:Int)] w fun e w' => ∃ v,e = .returned v/\OwnS w' w.heap.size v (Z.owner k)/\Below w.heap.size w w':=by
 obtain⟨j,hj⟩ : ∃ j,j=k % 13:=⟨_,rfl⟩
 have hj13:j<13:=by rw[hj];exact Nat.mod_lt _ (by decide)
 have hmod:((k:Int) % 13)=(j:Int):=by omega
 have howner:Z.owner k=Z.owns.getD j []++Z.exA:=by unfold Z.owner;rw[hj]
 obtain⟨n,hn⟩ : ∃ n,n=Z.owns.getD j []:=⟨_,rfl⟩
 have hnl:n.length<=3:=by
  rw[hn]
  have h : ∀ j,j<13->(Z.owns.getD j []).length<=3:=by decide
  exact h j hj13
 obtain⟨nl,hnl2⟩ : ∃ nl,nl=n.length:=⟨_,rfl⟩
 obtain⟨W,hW⟩ : ∃ W,W=(lay w Z.owns).alloc (.cells (ownCells w.heap.size) 28):=⟨_,rfl⟩
 have hL:(lay w Z.owns).heap.size=w.heap.size+13:=lay_size _ _
 have hWs:W.heap.size=w.heap.size+14:=by rw[hW,World.size_alloc,hL]
 have hWb:Below w.heap.size w W:=by rw[hW];exact (lay_below _ _).alloc (by rw[hL];omega) _
 have hcell:W.cell? ⟨w.heap.size+13,j,none⟩=some (.slice (some ⟨w.heap.size+j,0,none⟩) nl nl):=by
  have h1:RowAt W (w.heap.size+13) 28 (ownCells w.heap.size):=by rw[hW, <- hL];exact RowAt.new _ _ _
  rw[h1.cell,ownCells_get _ j hj13, <- hn, <- hnl2]
 have hsl:SlS W (some ⟨w.heap.size+j,0,none⟩) n:=by
  rw[hW,hn];exact (lay_at _ w j (by show j<13;exact hj13)).alloc _
 have hnb:nl<=3:=by omega
 have HW:=hide hW
 have HN:=hide hn
 have HNL:=hide hnl2
 have HWB:=hide hWb
 have HWS:=hide hWs
 have HSL:=hide hsl
 have HO:=hide howner
 clear hW hn hnl2 hWb hWs hsl howner hj hL
 go_enter Tryz.func22,Tryz.ntmps22
 go_upto_region 1 with fail
 go_cut [3] from 4 (fun v wc=>v = .slice (some ⟨w.heap.size+13,0,none⟩) 13 13/\wc=W)
 case first =>
  go_wp2
  go_meet
  refine⟨rfl,?_⟩
  rw[HW.out];rfl
 case rest =>
  obtain⟨rfl,rfl⟩:=hcut
  have hjb:(j:Int)<13:=by omega
  have hz:wc.heap.size=w.heap.size+14:=HWS.out
  go_wp2_with (first
   | (at_builtin;refine wpList_append_S rfl (.const (.slice none 0 0)) (.tmp 27) rfl wc.heap.size (.slice none 0 0) [] rfl (OwnS.nil _ _) ⟨w.heap.size+j,0,none⟩ nl nl n rfl HNL.out.symm HSL.out (by simp;omega) (Nat.le_refl _) ?_;intro v5 w5 hO5 hG5;have HB5:=hide (grown_belowS (OwnS.nil wc wc.heap.size) hG5 (Below.refl _ _) (Nat.le_refl _)))
   | (go_at_call 13;refine (apex_any w5).mono ?_;rintro e w6 ⟨v6,rfl,hO6,hB6⟩;obtain⟨a6,c6,rfl,hS6,hn6,hc6,_⟩:=hO6.open)
   | (at_builtin;go_loud (refine wpList_append_SN rfl (.tmp 28) (.tmp 29) rfl wc.heap.size v5 n rfl (by simpa using hO5.below hB6) a6 _ c6 Z.exA rfl rfl hS6 hn6 (by simp[Z.exA];omega) (by have:=HB5.out.size;have:=hB6.size;omega) ?_);intro v7 w7 hO7 hG7)
   | fail)
  go_ret
  have b7:=grown_belowS (hO5.below hB6) hG7 (HB5.out.trans (hB6.mono HB5.out.size)) (by have:=HB5.out.size;have:=hB6.size;omega)
  refine⟨_,rfl,?_,HWB.out.trans (b7.mono HWB.out.size)⟩
  rw[HO.out, <- HN.out]
  exact hO7.lower (by omega)
theorem under_any (k:Nat) (hk:k<256) (w:World):Calls Tryz.prog 113 #[.int .u8 (k:Int)] w fun e w' => ∃ v,e = .returned v/\OwnS w' w.heap.size v (Z.underK k)/\Below w.heap.size w w':=by
 by_cases h6:k % 7=6
 ·have hm:((k:Int) % 7 == 6)=true:=by simp;omega
  have e:Z.underK k=Z.farN:=by unfold Z.underK;rw[if_pos h6]
  rw[e]
  go_enter Tryz.func113,Tryz.ntmps113
  go_wp2
  go_ret
  exact⟨_,rfl,OwnS.lit w Z.farN _ _ (Nat.le_refl _) rfl (by decide) 2 rfl,(Below.refl _ w).alloc (Nat.le_refl _) _⟩
 ·have hm:((k:Int) % 7 == 6)=false:=by simp;omega
  have e:Z.underK k=Z.owner k:=by unfold Z.underK;rw[if_neg h6]
  rw[e]
  go_enter Tryz.func113,Tryz.ntmps113
  go_wp2_with (go_at_call 22;refine (owner_any k hk w).mono ?_;rintro e w1 ⟨v,rfl,hO,hB⟩)
  go_ret
  exact⟨v,rfl,hO,hB⟩
theorem kinds_get (k:Nat):((#[.int .u16 1,.int .u16 1,.int .u16 28,.int .u16 15,.int .u16 16,.int .u16 2,.int .u16 5,.int .u16 43,.int .u16 6,.int .u16 99]:Array Value))[k % 10]?=some (.int .u16 (Z.typeK k:Int)):=by
 have h : ∀ j,j<10->((#[.int .u16 1,.int .u16 1,.int .u16 28,.int .u16 15,.int .u16 16,.int .u16 2,.int .u16 5,.int .u16 43,.int .u16 6,.int .u16 99]:Array Value))[j]?=some (.int .u16 ((Z.kinds.getD j 0:Nat):Int))
  | 0,_=>rfl | 1,_=>rfl | 2,_=>rfl | 3,_=>rfl | 4,_=>rfl | 5,_=>rfl | 6,_=>rfl | 7,_=>rfl | 8,_=>rfl | 9,_=>rfl
  | j+10,h=>absurd h (by omega)
 exact h _ (Nat.mod_lt _ (by decide))
theorem seatType_any (k:Nat) (hk:k<256) (w:World):Calls Tryz.prog 23 #[.int .u8 (k:Int)] w fun e w'=>e = .returned (.int .u16 (Z.typeK k:Int))/\Below w.heap.size w w':=by
 obtain⟨j,hj⟩ : ∃ j,j=k % 10:=⟨_,rfl⟩
 have hj10:j<10:=by rw[hj];exact Nat.mod_lt _ (by decide)
 have hmod:((k:Int) % 10)=(j:Int):=by omega
 have hjb:(j:Int)<10:=by omega
 have hc:=(RowAt.new w 36 #[.int .u16 1,.int .u16 1,.int .u16 28,.int .u16 15,.int .u16 16,.int .u16 2,.int .u16 5,.int .u16 43,.int .u16 6,.int .u16 99]).cell j
 rw[hj,kinds_get k, <- hj] at hc
 obtain⟨t,ht⟩ : ∃ t,t=Z.typeK k:=⟨_,rfl⟩
 rw[<- ht] at hc ⊢
 clear ht hj
 go_enter Tryz.func23,Tryz.ntmps23
 go_wp2
 go_ret
 exact⟨rfl,(Below.refl _ w).alloc (Nat.le_refl _) _⟩
end Go.Proofs.YtmbcegljmhcdeaaGreat
