/- ZonePlays walked. Made by gzpw.py. -/
import Derived.Test.YtmbcegljmhcdeaaGreatLgs
import Derived.Test.YtmbcegljmhcdeaaGreatRows
import Derived.LaidMore
import Derived.Lay
import Derived.OpenShut
import Derived.ProofKit
import Derived.WalkKit
import Derived.WalkLawsBesides
import Derived.Deep.RegionHeld3
namespace Go.Proofs.YtmbcegljmhcdeaaGreat
set_option maxRecDepth 5000
open Go.RowKit
set_option maxRecDepth 20000 in
set_option maxHeartbeats 1000000 in
theorem owner_none_g {X:Nat->Prop} {w:World} {Zb:Nat} {A:List (List UInt8)} {L:List Z.R} {K:Nat} (Z0:ZLive X w Zb A L K) (hK:K<=1000000) (sb B:Nat) (hB:B<=sb) (hBw:B<=w.heap.size) (va vt v1 v v2 v3 v4:Value) (kd:Int) (nm:List (List UInt8)) (na:Option Addr) (nl nc:Nat) (hnl:Hid (nm.length=nl))
 (hrow:RowAt w sb 122 #[.pointer (some ⟨Zb,0,none⟩),va,vt,v1,.int .i64 kd,v,v2,v3,v4,.slice na nl nc]) (hs:SlS w na nm) (hnm:Hid (N.Small nm)) (hat:Z.typesAt L (path nm) = []) (hhas:Z.has L (path nm)=true) :
 Calls Tryz.prog 73 #[.pointer (some ⟨sb,0,none⟩)] w fun e w'=>e = .returned (.tuple #[.slice none 0 0,.bool false])/\RowAt w' sb 122 #[.pointer (some ⟨Zb,0,none⟩),va,vt,v1,.int .i64 3,v,v2,v3,v4,.slice na nl nc]/\GB sb none w w'/\Below B w w':=by
 have htypes:Calls Tryz.prog 33 #[.pointer (some ⟨Zb,0,none⟩),.slice na nl nc] w fun e w' => ∃ a c,e = .returned (.slice a 0 c)/\Below w.heap.size w w':=by
  refine (ztypes_live Z0 hK nm na nl nc hnl hs hnm).mono ?_
  rintro e w' ⟨v,rfl,ts,hts,hO,hb⟩
  obtain⟨a,c,rfl,_⟩:=hO.open
  rw[hat] at hts
  have:ts.length=0:=by have:=congrArg List.length hts;simpa using this
  exact⟨a,c,by rw[this],hb⟩
 have hhasc:=fun W (hW:Below w.heap.size w W)=>zhas_live (Z0.bel hW) nm na nl nc hnl (hs.below hW (Nat.le_refl _)) hnm
 rw[hhas] at hhasc
 have HROW:=hide hrow
 have HT:=hide htypes
 have HH:=hide hhasc
 have RF:Hid (∀ W,Below w.heap.size w W->W.cell? ⟨sb,0,none⟩=some (.pointer (some ⟨Zb,0,none⟩))/\W.cell? ⟨sb,9,none⟩=some (.slice na nl nc)/\W.frozen? ⟨sb,4,none⟩=false/\W.cell? ⟨sb,4,none⟩=some (.int .i64 kd)):=hide fun W hW=>⟨(HROW.out.below hW HROW.out.lt).cell 0,(HROW.out.below hW HROW.out.lt).cell 9,(HROW.out.below hW HROW.out.lt).frozen 4,(HROW.out.below hW HROW.out.lt).cell 4⟩
 obtain⟨z0,z9,f4,c4⟩:=RF.out w (Below.refl _ w)
 clear htypes hhasc hrow hs hat hhas Z0
 go_enter Tryz.func73,Tryz.ntmps73
 go_wp2_with (first
  | (go_at_call 30;refine (HH.out w2 HB2.out).mono ?_;rintro e w3 ⟨rfl,hB3⟩;have HB3:=hide (HB2.out.trans (hB3.mono HB2.out.size));clear hB3;obtain⟨z0,z9,f4,c4⟩:=RF.out w3 HB3.out)
  | (go_at_call 33;refine HT.out.mono ?_;rintro e w2 ⟨a2,c2,rfl,hB2⟩;have HB2:=hide hB2;clear hB2;obtain⟨z0,z9,f4,c4⟩:=RF.out w2 HB2.out)
  | fail)
 go_ret2
 have hr7:=HROW.out.below HB3.out HROW.out.lt
 refine⟨rfl,hr7.set 4 _,(GB.bel HB3.out).trans (GB.set _),?_⟩
 exact (HB3.out.mono hBw).setCell (p:=⟨sb,4,none⟩) hB _
set_option maxRecDepth 20000 in
set_option maxHeartbeats 1500000 in
theorem owner_nothing_g {X:Nat->Prop} {w0 w:World} {Zb:Nat} {L:List Z.R} {K:Nat} (Z0:ZLive X w0 Zb Z.exA L K) (hK:K<=1000000) (hw:Below w0.heap.size w0 w) (sb:Nat) (hsb0:w0.heap.size<=sb) (va vt v1 v v2 v3 v4:Value) (kd:Int) (nm:List (List UInt8)) (na:Option Addr) (nl nc:Nat) (hnl:Hid (nm.length=nl)) (hnc:nl<=nc) (hnb:nl<=100000)
 (hrow:RowAt w sb 122 #[.pointer (some ⟨Zb,0,none⟩),va,vt,v1,.int .i64 kd,v,v2,v3,v4,.slice na nl nc]) (hs:SlS w na nm) (hnm:Hid (N.Small nm)) (hin:N.within nm Z.exA=true) (hat:Z.typesAt L (path nm) = []) (hhas:Z.has L (path nm)=false) (hst : ∀ c,IsCl L nm c->Z.typesAt L (path (starN nm c)) = []) :
 Calls Tryz.prog 73 #[.pointer (some ⟨sb,0,none⟩)] w fun e w'=>e = .returned (.tuple #[.slice none 0 0,.bool false])/\RowAt w' sb 122 #[.pointer (some ⟨Zb,0,none⟩),va,vt,v1,.int .i64 4,v,v2,v3,v4,.slice na nl nc]/\GB sb none w w'/\Below w0.heap.size w w':=by
 have Zw:=Z0.bel hw
 have h1nl:1<=nl:=by rw[<- hnl.out];exact (within_chk nm hin).1
 have hf:Flat na:=hs.flat (by rw[hnl.out];omega)
 have htypes:Calls Tryz.prog 33 #[.pointer (some ⟨Zb,0,none⟩),.slice na nl nc] w fun e w' => ∃ a c,e = .returned (.slice a 0 c)/\Below w.heap.size w w':=by
  refine (ztypes_live Zw hK nm na nl nc hnl hs hnm).mono ?_
  rintro e w' ⟨v,rfl,ts,hts,hO,hb⟩
  obtain⟨a,c,rfl,_⟩:=hO.open
  rw[hat] at hts
  have:ts.length=0:=by have:=congrArg List.length hts;simpa using this
  exact⟨a,c,by rw[this],hb⟩
 have hhasc:=fun W (hW:Below w.heap.size w W)=>zhas_live (Zw.bel hW) nm na nl nc hnl (hs.below hW (Nat.le_refl _)) hnm
 rw[hhas] at hhasc
 have hclo:=fun W (hW:Below w.heap.size w W)=>lclosest_any (Zw.bel hW) nm na nl nc hnl (hs.below hW (Nat.le_refl _)) hf hnc hnm hin
 have hlow : ∀ W a c m,Below w.heap.size w W->m<=nl->SlS W a (nm.drop (nl - m))->Calls Tryz.prog 48 #[.slice a m c] W fun e w' => ∃ v,e = .returned v/\OwnS w' W.heap.size v (N.lowN (nm.drop (nl - m)))/\Below W.heap.size W w':=fun W a c m hW hm hS=>lower_any (nm.drop (nl - m)) a m c W (hide (by rw[List.length_drop,hnl.out];omega)) hS (hide ⟨by rw[List.length_drop];have:=hnm.out.1;omega,fun l h=>hnm.out.2 l (List.mem_of_mem_drop h)⟩)
 have hstar : ∀ W a c m,Below w.heap.size w W->IsCl L nm m->SlS W a (starN nm m)->Calls Tryz.prog 33 #[.pointer (some ⟨Zb,0,none⟩),.slice a (m+1) c] W fun e w' => ∃ a c,e = .returned (.slice a 0 c)/\Below W.heap.size W w':=fun W a c m hW hm hS=>by
  have hlen:(starN nm m).length=m+1:=by
   unfold starN
   rw[List.length_cons,N.lowN_len,List.length_drop]
   have:=hm.2.1;omega
  have hsm:N.Small (starN nm m):=by
   refine⟨by rw[hlen];have:=hm.2.1;have:=hnl.out;omega,fun l hl=>?_⟩
   unfold starN at hl
   rcases List.mem_cons.1 hl with rfl | hl
   ·simp
   ·unfold N.lowN at hl
    obtain⟨l0,h0,rfl⟩:=List.mem_map.1 hl
    rw[N.lowL_len]
    exact hnm.out.2 l0 (List.mem_of_mem_drop h0)
  refine (ztypes_live (Zw.bel hW) hK (starN nm m) a (m+1) c (hide hlen) hS (hide hsm)).mono ?_
  rintro e w' ⟨v,rfl,ts,hts,hO,hb⟩
  obtain⟨a,c,rfl,_⟩:=hO.open
  rw[hst m hm] at hts
  have:ts.length=0:=by have:=congrArg List.length hts;simpa using this
  exact⟨a,c,by rw[this],hb⟩
 have HROW:=hide hrow
 have HT:=hide htypes
 have HH:=hide hhasc
 have HC:=hide hclo
 have HL:=hide hlow
 have HST:=hide hstar
 have HW:=hide hw
 have RF:Hid (∀ W,Below w.heap.size w W->W.cell? ⟨sb,0,none⟩=some (.pointer (some ⟨Zb,0,none⟩))/\W.cell? ⟨sb,9,none⟩=some (.slice na nl nc)/\W.frozen? ⟨sb,4,none⟩=false/\W.cell? ⟨sb,4,none⟩=some (.int .i64 kd)):=hide fun W hW=>⟨(HROW.out.below hW HROW.out.lt).cell 0,(HROW.out.below hW HROW.out.lt).cell 9,(HROW.out.below hW HROW.out.lt).frozen 4,(HROW.out.below hW HROW.out.lt).cell 4⟩
 obtain⟨z0,z9,f4,c4⟩:=RF.out w (Below.refl _ w)
 have hnlb:nl<=1000000:=by rw[<- hnl.out];exact hnm.out.1
 clear htypes hhasc hclo hlow hstar hrow hs hat hhas hst Z0 Zw hw hin hf
 go_enter Tryz.func73,Tryz.ntmps73
 go_wp2_with (first
  | (go_at_call 33;have hq:=HE4.out;clear hq;refine (HST.out w6 a6 c6 m HB6.out HM.out HS6.out).mono ?_;rintro e w7 ⟨a7,c7,rfl,hB7⟩;have HB7:=hide (HB6.out.trans (hB7.mono HB6.out.size));clear hB7;obtain⟨z0,z9,f4,c4⟩:=RF.out w7 HB7.out)
  | (at_builtin;have hq:=HE3.out;clear hq;(refine wpList_append_SN rfl (.tmp 41) (.tmp 43) rfl w4.heap.size (.slice (some ⟨w4.heap.size,0,none⟩) 1 1) [[42]] rfl HLIT5.out a5 m c5 (N.lowN (nm.drop (nl - m))) rfl HML.out HS5.out HN5.out (by have:=HMB.out;simp;omega) (by have:=HB5z.out;omega) ?_);intro v6 w6 hO6 hG6;have HB6:=hide ((HB4.out.trans ((grown_belowS HLIT5.out hG6 HB45.out HB5z.out).mono HB4.out.size)));have HE4:=hide trivial;obtain⟨a6,c6,hv6,hS6,_,_⟩:=hO6.open;rw[HST1.out] at hv6 hS6;rw[HST2.out] at hv6;subst hv6;have HS6:=hide hS6;clear hO6 hG6 hS6;obtain⟨z0,z9,f4,c4⟩:=RF.out w6 HB6.out)
  | (go_at_call 48;have hq:=HE2.out;clear hq;refine (HL.out _ a4 c4' m HBL.out HMB.out HSL.out).mono ?_;rintro e w5 ⟨v5,rfl,hO5,hB5⟩;obtain⟨a5,c5,hv5,hS5,hn5,_⟩:=hO5.open;rw[HML.out] at hv5;subst hv5;have HS5:=hide hS5;have HN5:=hide hn5;have HLIT5:=hide (HLIT.out.below hB5);have HB45:=hide (HBW.out.trans (hB5.mono (by simp)));have HB5z:=hide (Nat.le_trans (Nat.le_of_lt (by simp)) hB5.size:w4.heap.size<=w5.heap.size);have HE3:=hide trivial;clear hO5 hB5 hS5 hn5)
  | (go_at_call 41;refine (HC.out w3 HB3.out).mono ?_;rintro e w4 ⟨m,v4',v5',rfl,hM,hO4,_,hB4⟩;have HM:=hide hM;have hmb:m<=nl:=by rw[<- hnl.out];exact hM.2.1
     have hlm:(nm.drop (nl - m)).length=m:=by rw[List.length_drop,hnl.out];omega
     obtain⟨a4,c4',hv4,hS4,_⟩:=hO4.open;rw[hlm] at hv4;subst hv4
     have HB4:=hide (HB3.out.trans (hB4.mono HB3.out.size))
     have HBW:Hid (Below w4.heap.size w4 (w4.alloc (.cells #[.string { data := #[42] }] 9))):=hide ((Below.refl _ w4).alloc (Nat.le_refl _) _)
     have HBL:=hide (HB4.out.trans (HBW.out.mono HB4.out.size))
     have HSL:=hide (hS4.below HBW.out (Nat.le_refl _))
     have HLIT:=hide (OwnS.lit w4 [[42]] #[.string { data := #[42] }] w4.heap.size (Nat.le_refl _) rfl (by decide) 1 rfl)
     have HML:Hid ((N.lowN (nm.drop (nl - m))).length=m):=hide (by rw[N.lowN_len];exact hlm)
     have HST1:Hid ([[42]]++N.lowN (nm.drop (nl - m))=starN nm m):=hide (by unfold starN;rw[hnl.out];rfl)
     have HST2:Hid ((starN nm m).length=m+1):=hide (by rw[<- HST1.out,List.length_append,HML.out,List.length_singleton];omega)
     have HMB:=hide hmb
     have HE2:=hide trivial;clear hM hO4 hB4 hS4 hmb hlm)
  | (go_at_call 30;refine (HH.out w2 HB2.out).mono ?_;rintro e w3 ⟨rfl,hB3⟩;have HB3:=hide (HB2.out.trans (hB3.mono HB2.out.size));clear hB3;obtain⟨z0,z9,f4,c4⟩:=RF.out w3 HB3.out)
  | (go_at_call 33;refine HT.out.mono ?_;rintro e w2 ⟨a2,c2,rfl,hB2⟩;have HB2:=hide hB2;clear hB2;obtain⟨z0,z9,f4,c4⟩:=RF.out w2 HB2.out)
  | fail)
 go_ret2
 have hr7:=HROW.out.below HB7.out HROW.out.lt
 refine⟨rfl,hr7.set 4 _,(GB.bel HB7.out).trans (GB.set _),?_⟩
 exact (HB7.out.mono HW.out.size).setCell (p:=⟨sb,4,none⟩) hsb0 _
set_option maxRecDepth 20000 in
set_option maxHeartbeats 1000000 in
theorem deny_soa_g {X:Nat->Prop} {w0 w:World} {Zb:Nat} {A:List (List UInt8)} {L:List Z.R} {K:Nat} (Z0:ZLive X w0 Zb A L K) (hK:K<=1000000) (hw:Below w0.heap.size w0 w) (sb:Nat) (hsb0:w0.heap.size<=sb) (ap:List (List UInt8)) (aa:Option Addr) (al ac:Nat) (vt v1 v v2 v3 v4 v5:Value) (kd:Int) (hkd:kd=3\/kd=4) (hal:Hid (ap.length=al)) (hrow:RowAt w sb 122 #[.pointer (some ⟨Zb,0,none⟩),.slice aa al ac,vt,v1,.int .i64 kd,v,v2,v3,v4,v5]) (hs:SlS w aa ap) (hm:Hid (N.Small ap)) :
 Calls Tryz.prog 77 #[.pointer (some ⟨sb,0,none⟩)] w fun e w'=>e = .returned (.tuple #[]) /\ ∃ v',RowAt w' sb 122 #[.pointer (some ⟨Zb,0,none⟩),.slice aa al ac,vt,v1,.int .i64 kd,v,v',v3,v4,v5]/\OwnL 54 4 ES w' w0.heap.size v' (setsP L ap [6])/\GB sb none w w'/\Below w0.heap.size w w':=by
 have c4:w.cell? ⟨sb,4,none⟩=some (.int .i64 kd):=hrow.cell 4
 obtain⟨wA,hwA⟩ : ∃ wA,wA=w.alloc (.cells #[.int .u16 6] 36):=⟨_,rfl⟩
 have hbA:Below w.heap.size w wA:=by rw[hwA];exact (Below.refl _ w).alloc (Nat.le_refl _) _
 have hrowA:=hrow.below hbA hrow.lt
 have hlit:SlH wA (some ⟨w.heap.size,0,none⟩) [6]:=by rw[hwA];exact SlH.oneI w 6 6 36 rfl
 have hsets:=sets_any (Z0.bel (hw.trans (hbA.mono hw.size))) hK sb hrowA.lt (hrowA.cell 0) ap aa al ac hal (hs.below hbA (Nat.le_refl _)) hm [6] (some ⟨w.heap.size,0,none⟩) 1 1 (hide rfl) hlit (by omega)
 have c1:w.cell? ⟨sb,1,none⟩=some (.slice aa al ac):=hrow.cell 1
 have HSETS:=hide hsets
 have HWA:=hide hwA
 have HBA:=hide hbA
 have HRA:=hide hrowA
 have HW:=hide hw
 clear hsets hwA hbA hrowA hrow hlit hs Z0 hw
 have fin : ∀ w2 a q c,OwnL 54 4 ES w2 wA.heap.size (.slice a q c) (setsP L ap [6])->Below wA.heap.size wA w2->(RowAt (w2.setCell ⟨sb,6,none⟩ (.slice a q c)) sb 122 #[.pointer (some ⟨Zb,0,none⟩),.slice aa al ac,vt,v1,.int .i64 kd,v,.slice a q c,v3,v4,v5]/\OwnL 54 4 ES (w2.setCell ⟨sb,6,none⟩ (.slice a q c)) w0.heap.size (.slice a q c) (setsP L ap [6])/\GB sb none w (w2.setCell ⟨sb,6,none⟩ (.slice a q c))/\Below w0.heap.size w (w2.setCell ⟨sb,6,none⟩ (.slice a q c))):=fun w2 a q c hO hB=>by
  have h1:=HRA.out.below hB HRA.out.lt
  have hkx:=KX.set h1 6 (.slice a q c)
  refine⟨h1.set 6 _,(hO.kx hkx (fun _ _ h=>h.kx (by decide) (by decide) hkx) (by decide)).low (Nat.le_trans HW.out.size HBA.out.size),((GB.bel HBA.out).trans (GB.bel hB)).trans (GB.set _),?_⟩
  exact ((HBA.out.mono HW.out.size).trans (hB.mono (Nat.le_trans HW.out.size HBA.out.size))).setCell (p:=⟨sb,6,none⟩) hsb0 _
 have FIN:=hide fin
 clear fin
 rcases hkd with rfl | rfl
 all_goals
  go_enter Tryz.func77,Tryz.ntmps77
  go_wp2_with (go_at_call 107;rw[<- HWA.out];refine HSETS.out.mono ?_;rintro e w2 ⟨v',rfl,hO,hB⟩;obtain⟨a2,c2,hv,_,_⟩:=hO.slice;obtain⟨q,hq⟩ : ∃ q,v' = .slice a2 q c2:=⟨_,hv⟩;subst hq;clear hv;have h2:=HRA.out.below hB HRA.out.lt;have k6:w2.cell? ⟨sb,6,none⟩=some v2:=h2.cell 6;have f6:w2.frozen? ⟨sb,6,none⟩=false:=h2.frozen 6;have HF:=hide (FIN.out w2 a2 q c2 hO hB);clear h2 hO hB)
  exact bodyPost_end (v := .tuple #[]) (by simp[results,Tryz.results77]) rfl ⟨rfl,.slice a2 q c2,HF.out⟩
structure FE (w:World) (sb fb:Nat) (vz vt:Value) (a:List (List UInt8)) (kd:Int) (M Au:List PSet) (Ws:List (List (List UInt8))) (xa:Option Addr) (xc:Nat) (vas v v2 vw:Value) (na:Option Addr) (nl nc:Nat) (W:World):Prop where
 bel:Below w.heap.size w W
 row:RowAt W sb 122 #[vz,.slice xa 1 xc,vt,vas,.int .i64 kd,v,v2,.slice none 0 0,vw,.slice na nl nc]
 fd:RowAt W fb 70 fdZ
 ty:TyS W na a
 len:a.length=nl
 om:OwnL 54 4 ES W w.heap.size v M
 oa:OwnL 54 4 ES W w.heap.size v2 Au
 ow:OwnL 28 1 EN W w.heap.size vw Ws
set_option maxRecDepth 5000 in
theorem FG.fe {w:World} {sb fb:Nat} {vz vt:Value} {Ap a:List (List UInt8)} {As:List (List (List UInt8))} {M:List PSet} {Ws:List (List (List UInt8))} {xa:Option Addr} {xc:Nat} {vas v vw:Value} {na:Option Addr} {nl nc:Nat} {W W':World} (h:FG w sb fb vz vt Ap a As M Ws xa xc vas v vw na nl nc W) (hg:GB sb none W W') (hb:Below w.heap.size W W') {kd:Int} {v2:Value} {Au:List PSet} (hr:RowAt W' sb 122 #[vz,.slice xa 1 xc,vt,vas,.int .i64 kd,v,v2,.slice none 0 0,vw,.slice na nl nc]) (ho:OwnL 54 4 ES W' w.heap.size v2 Au):FE w sb fb vz vt a kd M Au Ws xa xc vas v v2 vw na nl nc W':=by
 have hk:=KA.gb h.row hg
 have hS:W.heap[sb]?=some (Obj.cells _ 122):=h.row
 refine⟨h.bel.trans hb,hr,hk.rows _ _ _ _ h.fd (by decide) (by decide),h.ty.kb hk.kb,h.len,?_,ho,h.ow.kept (fun _ _ h=>h.kb hk.kb) (fun g c fr _ hg=>(hk.rows g c _ fr hg (by decide) (by decide)).trans hg.symm)⟩
 refine h.om.own (fun _ _ h=>h.ka hk) fun g e=>?_
 obtain⟨_,h1,cur,h2⟩:=h.om.blk g e
 refine hg.block g h1 (by simp) fun e2=>?_
 rw[<- e2,h2] at hS;injection hS with hS;injection hS with _ hS _;exact absurd hS (by decide)
end Go.Proofs.YtmbcegljmhcdeaaGreat
namespace Go.Proofs.YtmbcegljmhcdeaaGreat
set_option maxRecDepth 5000
open Go.RowKit
theorem isCl_uniq {L:List Z.R} {n:List (List UInt8)} {c c':Nat} (h:IsCl L n c) (h':IsCl L n c'):c=c':=by
 have key : ∀ c c',IsCl L n c->IsCl L n c' -> ¬ c<c':=fun c c' h h' hlt=>by
  have h1:=h.2.2.2 (by have:=h'.2.1;omega)
  have h2:=has_take (show c+1<=c' by omega) (h'.2.2.1 (by have:=h.1;omega))
  rw[h1] at h2;cases h2
 have h1:=key c c' h h'
 have h2:=key c' c h' h
 omega
inductive OwnerIs (L:List Z.R) (a:List (List UInt8)) (Ws:List (List (List UInt8))):List (List UInt8)->List (List (List UInt8))->Prop
 | own:Z.typesAt L (path a) ≠ []->OwnerIs L a Ws a Ws
 | wild (m:Nat):Z.typesAt L (path a) = []->Z.has L (path a)=false->IsCl L a m->Z.typesAt L (path (starN a m)) ≠ []->OwnerIs L a Ws (starN a m) (Ws ++ [starN a m])
theorem OwnerIs.small {L:List Z.R} {a o:List (List UInt8)} {Ws Ws':List (List (List UInt8))} (h:OwnerIs L a Ws o Ws') (ha:N.Small a) (hb:a.length<=100000):N.Small o:=by
 cases h with
 | own _=>exact ha
 | wild m _ _ hc _=>exact starN_small ha hb hc
theorem OwnerIs.len {L:List Z.R} {a o:List (List UInt8)} {Ws Ws':List (List (List UInt8))} (h:OwnerIs L a Ws o Ws'):Ws'.length<=Ws.length+1:=by
 cases h with
 | own _=>omega
 | wild m _ _ hc _=>simp
def fol (Ap:List (List UInt8)) (As:List (List (List UInt8))) (a:List (List UInt8)) (k:Nat) (T:List (List UInt8)):Bool:=decide (k<8) && (N.within T Ap && !(As ++ [a]).any fun x=>N.same x T)
theorem setsP_on {L:List Z.R} {o:List (List UInt8)} {t:Nat} (h:t∈Z.typesAt L (path o)):setsP L o [t] = [setP L o t]/\0<(setP L o t).d.length:=by
 obtain⟨x,h1,h2,h3⟩:=Z.mem_typesAt.1 h
 have hx:x∈Z.setAt L (path o) t:=Z.mem_setAt.2 ⟨h1,h2,h3⟩
 have hne:Z.setAt L (path o) t ≠ []:=fun e=>by rw[e] at hx;cases hx
 refine⟨?_,?_⟩
 ·unfold setsP
  simp[hne]
 ·show 0<((Z.setAt L (path o) t).map (·.d)).length
  rw[List.length_map];exact List.length_pos_of_mem hx
section
variable {X:Nat->Prop} {w W:World} {sb fb Zb K:Nat} {L:List Z.R} {tt:Int} {Ap a:List (List UInt8)} {As:List (List (List UInt8))} {M:List PSet} {Ws:List (List (List UInt8))} {xa:Option Addr} {xc:Nat} {vas v vw:Value} {na:Option Addr} {nl nc:Nat}
theorem FG.owner {vt:Value} (h:FG w sb fb (.pointer (some ⟨Zb,0,none⟩)) vt Ap a As M Ws xa xc vas v vw na nl nc W) (Z0:ZLive X w Zb Z.exA L K) (hK:K<=1000000) (hsb0:w.heap.size<=sb) (hm:Hid (N.Small a)) (hin:N.within a Z.exA=true) (hnb:nl<=100000) (hWl:Ws.length<=1000) {o:List (List UInt8)} {Ws':List (List (List UInt8))} (ho:OwnerIs L a Ws o Ws') :
 Calls Tryz.prog 73 #[.pointer (some ⟨sb,0,none⟩)] W fun e w' => ∃ a6 ol c6 vw',e = .returned (.tuple #[.slice a6 ol c6,.bool true])/\o.length=ol/\TyS w' a6 o/\ol<=c6/\FG w sb fb (.pointer (some ⟨Zb,0,none⟩)) vt Ap a As M Ws' xa xc vas v vw' na nl nc w':=by
 cases ho with
 | own hne =>
  refine (owner_at (Z0.bel h.bel) hK sb _ _ _ _ _ _ _ _ a na nl nc (hide h.len) h.row h.ty.1 hm hne).mono ?_
  rintro e w' ⟨rfl,hb⟩
  exact⟨na,nl,nc,vw,rfl,h.len,(h.step hb).ty,h.cap,h.step hb⟩
 | wild m hat hhas hc hne =>
  refine (owner_wild Z0 hK h.bel sb hsb0 _ _ _ _ _ _ vw 0 a na nl nc (hide h.len) h.cap hnb h.row h.ty.1 hm hin hat hhas (fun c h'=>by rw[isCl_uniq h' hc];exact hne) Ws h.ow hWl).mono ?_
  rintro e w' ⟨m',a6,c6,vw',rfl,hc',hT,hcap,hr,hO,hG,hl,hb⟩
  have e:=isCl_uniq hc' hc
  subst e
  exact⟨a6,m'+1,c6,vw',rfl,starN_len hc,hT,hcap,h.wild hr hO hG hl hb⟩
theorem FG.answer1 (h:FG w sb fb (.pointer (some ⟨Zb,0,none⟩)) (.int .u16 tt) Ap a As M Ws xa xc vas v vw na nl nc W) (Z0:ZLive X w Zb Z.exA L K) (hK:K<=1000000) (hsb0:w.heap.size<=sb) (hm:Hid (N.Small a)) (hMl:M.length<=1000) (o:List (List UInt8)) (oa:Option Addr) (ol oc:Nat) (hol:Hid (o.length=ol)) (hot:TyS W oa o) (hom:Hid (N.Small o)) (x:Int) (t':Nat) (hx:x=(t':Int)) (ht':t'<65536) :
 Calls Tryz.prog 74 #[.pointer (some ⟨sb,0,none⟩),.slice oa ol oc,.slice (some ⟨W.heap.size,0,none⟩) 1 1] (W.alloc (.cells #[.int .u16 x] 36)) fun e w'=>e = .returned (.tuple #[]) /\ ∃ v',FG w sb fb (.pointer (some ⟨Zb,0,none⟩)) (.int .u16 tt) Ap a As (M++(setsP L o [t']).map (PSet.as (N.lowN a))) Ws xa xc vas v' vw na nl nc w':=by
 have hu16:(UInt16.ofNat t').toNat=t':=by rw[UInt16.toNat_ofNat'];omega
 have hb:Below W.heap.size W (W.alloc (.cells #[.int .u16 x] 36)):=(Below.refl _ W).alloc (Nat.le_refl _) _
 have hlit:SlH (W.alloc (.cells #[.int .u16 x] 36)) (some ⟨W.heap.size,0,none⟩) [UInt16.ofNat t']:=SlH.oneI W x (UInt16.ofNat t') 36 (by rw[hu16];exact hx)
 have h2:=h.step hb
 have h3:=answer_one Z0 hK h2.bel sb hsb0 _ _ _ _ _ tt 0 a na nl nc (hide h.len) v M h2.om hMl h2.row h2.ty hm o oa ol oc hol (hot.kb (KB.of_below hb)).1 hom [UInt16.ofNat t'] (some ⟨W.heap.size,0,none⟩) 1 1 (hide rfl) hlit (Nat.le_refl _)
 refine h3.mono ?_
 rintro e w' ⟨rfl,v',h4,h5,h6,h7⟩
 have e1 : [UInt16.ofNat t'].map (·.toNat) = [t']:=by simp[hu16]
 rw[e1] at h5
 exact⟨rfl,v',h2.answer h4 h5 h6 h7⟩
theorem FG.answerAny (h:FG w sb fb (.pointer (some ⟨Zb,0,none⟩)) (.int .u16 tt) Ap a As M Ws xa xc vas (.slice none 0 0) vw na nl nc W) (Z0:ZLive X w Zb Z.exA L K) (hK:K<=1000000) (hsb0:w.heap.size<=sb) (hm:Hid (N.Small a)) (o:List (List UInt8)) (oa:Option Addr) (ol oc:Nat) (hol:Hid (o.length=ol)) (hot:TyS W oa o) (hom:Hid (N.Small o)) (ts:List UInt16) (ta:Option Addr) (tl tc:Nat) (htl:Hid (ts.length=tl)) (hts:SlH W ta ts) (hb:tl<=70000) :
 Calls Tryz.prog 74 #[.pointer (some ⟨sb,0,none⟩),.slice oa ol oc,.slice ta tl tc] W fun e w'=>e = .returned (.tuple #[]) /\ ∃ v',FG w sb fb (.pointer (some ⟨Zb,0,none⟩)) (.int .u16 tt) Ap a As ((setsP L o (ts.map (·.toNat))).map (PSet.as (N.lowN a))) Ws xa xc vas v' vw na nl nc w':=by
 refine (answer_first Z0 hK h.bel sb hsb0 _ _ _ _ _ tt 0 a na nl nc (hide h.len) h.row h.ty hm o oa ol oc hol hot.1 hom ts ta tl tc htl hts hb).mono ?_
 rintro e w' ⟨rfl,v',h4,h5,h6,h7⟩
 exact⟨rfl,v',h.answer h4 h5 h6 h7⟩
theorem FG.follow {vz vt:Value} (h:FG w sb fb vz vt Ap a As M Ws xa xc vas v vw na nl nc W) (hsb0:w.heap.size<=sb) (hAp:Hid (Ap.length=1)) (hApm:Hid (N.Small Ap)) (hm:Hid (N.Small a)) (hAl:As.length<=1000) (hAm : ∀ x∈As,N.Small x) (hMl:M.length<=1000) (p:PSet) (k0:Nat) (hk0:M.length=k0+1) (hp:M[k0]?=some p) (d:List UInt8) (hd:p.d[0]?=some d) (hTm:Hid (N.Small (tg5 d))) :
 Calls Tryz.prog 76 #[.pointer (some ⟨sb,0,none⟩)] W fun e w'=>e = .returned (.bool (fol Ap As a M.length (tg5 d))) /\ ∃ a' c' vas',FG w sb fb vz vt Ap (tg5 d) (As ++ [a]) M Ws xa xc vas' v vw a' (tg5 d).length c' w':=by
 refine (follow_any h.bel sb hsb0 _ _ _ _ _ _ _ 0 Ap xa 1 xc hAp h.apx hApm As h.oas hAl hAm M h.om hMl p k0 hk0 hp d hd a na nl nc (hide h.len) h.ty h.cap h.nil hm hTm h.row).mono ?_
 rintro e w' ⟨rfl,a',c',vas',h1,h2,h3,h4,h5,h6,h7,h8⟩
 exact⟨rfl,a',c',vas',h.next h1 h2 rfl h3 h4 h5 h6 h7 h8⟩
end
structure FR where
 kind:Int
 M:List PSet
 au:List PSet
 ws:List (List (List UInt8))
 a:List (List UInt8)
inductive Runs (L:List Z.R) (t:Nat) (Ap:List (List UInt8)):List (List UInt8)->List (List (List UInt8))->List PSet->List (List (List UInt8))->FR->Prop
 | none {a:List (List UInt8)} {As:List (List (List UInt8))} {M:List PSet} {Ws:List (List (List UInt8))} (hno : ∀ d,d<=a.length -> ¬ cutL Z.exA L (path a) d) (h1:Z.typesAt L (path a) = []) (h2:Z.has L (path a)=true):Runs L t Ap a As M Ws ⟨3,M,setsP L Ap [6],Ws,a⟩
 | nothing {a:List (List UInt8)} {As:List (List (List UInt8))} {M:List PSet} {Ws:List (List (List UInt8))} (hno : ∀ d,d<=a.length -> ¬ cutL Z.exA L (path a) d) (h1:Z.typesAt L (path a) = []) (h2:Z.has L (path a)=false) (h3 : ∀ c,IsCl L a c->Z.typesAt L (path (starN a c)) = []):Runs L t Ap a As M Ws ⟨4,M,setsP L Ap [6],Ws,a⟩
 | any {a:List (List UInt8)} {Ws:List (List (List UInt8))} {o:List (List UInt8)} {Ws':List (List (List UInt8))} (hno : ∀ d,d<=a.length -> ¬ cutL Z.exA L (path a) d) (ho:OwnerIs L a Ws o Ws') (ht:t=255) (hb:(Z.typesAt L (path o)).length<=70000):Runs L t Ap a [] [] Ws ⟨0,(setsP L o (Z.typesAt L (path o))).map (PSet.as (N.lowN a)), [],Ws',a⟩
 | ans {a:List (List UInt8)} {As:List (List (List UInt8))} {M:List PSet} {Ws:List (List (List UInt8))} {o:List (List UInt8)} {Ws':List (List (List UInt8))} (hno : ∀ d,d<=a.length -> ¬ cutL Z.exA L (path a) d) (ho:OwnerIs L a Ws o Ws') (ht:t≠255) (h1:t∈Z.typesAt L (path o)):Runs L t Ap a As M Ws ⟨0,M++(setsP L o [t]).map (PSet.as (N.lowN a)), [],Ws',a⟩
 | other {a:List (List UInt8)} {As:List (List (List UInt8))} {M:List PSet} {Ws:List (List (List UInt8))} {o:List (List UInt8)} {Ws':List (List (List UInt8))} (hno : ∀ d,d<=a.length -> ¬ cutL Z.exA L (path a) d) (ho:OwnerIs L a Ws o Ws') (ht:t≠255) (h1:t ∉ Z.typesAt L (path o)) (h5:5 ∉ Z.typesAt L (path o)):Runs L t Ap a As M Ws ⟨3,M,setsP L Ap [6],Ws',a⟩
 | stop {a:List (List UInt8)} {As:List (List (List UInt8))} {M:List PSet} {Ws:List (List (List UInt8))} {o:List (List UInt8)} {Ws':List (List (List UInt8))} {d:List UInt8} (hno : ∀ d,d<=a.length -> ¬ cutL Z.exA L (path a) d) (ho:OwnerIs L a Ws o Ws') (ht:t≠255) (h1:t ∉ Z.typesAt L (path o)) (h5:5∈Z.typesAt L (path o)) (hd:(setP L o 5).d[0]?=some d) (hf:fol Ap As a (M.length+1) (tg5 d)=false):Runs L t Ap a As M Ws ⟨1,M++(setsP L o [5]).map (PSet.as (N.lowN a)), [],Ws',tg5 d⟩
 | go {a:List (List UInt8)} {As:List (List (List UInt8))} {M:List PSet} {Ws:List (List (List UInt8))} {o:List (List UInt8)} {Ws':List (List (List UInt8))} {d:List UInt8} {F:FR} (hno : ∀ d,d<=a.length -> ¬ cutL Z.exA L (path a) d) (ho:OwnerIs L a Ws o Ws') (ht:t≠255) (h1:t ∉ Z.typesAt L (path o)) (h5:5∈Z.typesAt L (path o)) (hd:(setP L o 5).d[0]?=some d) (hf:fol Ap As a (M.length+1) (tg5 d)=true) (hr:Runs L t Ap (tg5 d) (As ++ [a]) (M++(setsP L o [5]).map (PSet.as (N.lowN a))) Ws' F):Runs L t Ap a As M Ws F
open Go.RowKit
theorem tg5_ok (d:List UInt8):N.Small (tg5 d)/\(tg5 d).length<=1000:=by
 have h0:N.Small ([]:List (List UInt8)):=⟨by simp,by simp⟩
 cases h:D.full d (D.tgt 5 d) with
 | none =>
  have e:tg5 d = []:=by unfold tg5;rw[h];rfl
  rw[e];exact⟨h0,by simp⟩
 | some x =>
  have e:tg5 d=x:=by unfold tg5;rw[h];rfl
  rw[e]
  unfold D.full at h
  split at h
  ·cases h
  ·cases h2:D.tgt 5 d with
   | none=>rw[h2] at h;cases h
   | some p =>
    rw[h2] at h
    have h3:(if p.2 = [] then some p.1 else none)=some x:=h
    split at h3
    ·injection h3 with h3
     subst h3
     have h4:D.nm d=some (p.1,p.2):=h2
     have hg:=(D.nm_back h4).2
     refine⟨good_small hg,?_⟩
     have h5:=hg.2.2
     unfold N.size at h5
     have:=len_sum p.1
     omega
    ·cases h3
theorem within_ap {T Ap:List (List UInt8)} (h:N.within T Ap=true) (hl:Ap.length=1) (hs:N.same Ap Z.exA=true):N.within T Z.exA=true:=by
 unfold N.within at h ⊢
 rw[Bool.and_eq_true,decide_eq_true_eq] at h ⊢
 obtain⟨h1,h2⟩:=h
 have e:Z.exA.length=1:=rfl
 rw[hl] at h1 h2
 rw[e]
 refine⟨h1,?_⟩
 unfold N.same at h2 hs ⊢
 rw[decide_eq_true_eq] at h2 hs ⊢
 exact h2.trans hs
def askedN (sb:Nat) (W:World):Nat:=match W.cell? ⟨sb,3,none⟩ with | some (.slice _ n _)=>n | _=>0
section
variable {X:Nat->Prop} {w W:World} {sb fb Zb K:Nat} {L:List Z.R} {tt:Int} {Ap a:List (List UInt8)} {As:List (List (List UInt8))} {M:List PSet} {Ws:List (List (List UInt8))} {xa:Option Addr} {xc:Nat} {vas v vw:Value} {na:Option Addr} {nl nc:Nat}
theorem FG.asked {vz vt:Value} (h:FG w sb fb vz vt Ap a As M Ws xa xc vas v vw na nl nc W):askedN sb W=As.length:=by
 obtain⟨a,c,e,_⟩:=h.oas.slice
 unfold askedN
 rw[h.row.cell 3]
 simp[e]
theorem FG.give {tn:Nat} (h:FG w sb fb (.pointer (some ⟨Zb,0,none⟩)) (.int .u16 (tn:Int)) Ap a As M Ws xa xc vas v vw na nl nc W) (Z0:ZLive X w Zb Z.exA L K) (hm:Hid (N.Small a)) (hno : ∀ d,d<=a.length -> ¬ cutL Z.exA L (path a) d) :
 Calls Tryz.prog 71 #[.pointer (some ⟨sb,0,none⟩)] W fun e w'=>e = .returned (.tuple #[.slice none 0 0,.bool false])/\FG w sb fb (.pointer (some ⟨Zb,0,none⟩)) (.int .u16 (tn:Int)) Ap a As M Ws xa xc vas v vw na nl nc w':=by
 obtain⟨sa,sc,e,_⟩:=h.oas.slice
 subst e
 refine (givenAway_none (Z0.bel h.bel) (by decide) sb _ _ _ _ _ tn 0 sa _ sc a na nl nc (hide h.len) h.row h.ty.1 hm hno).mono ?_
 rintro e w' ⟨rfl,hb⟩
 exact⟨rfl,h.step hb⟩
theorem FG.types {vt:Value} (h:FG w sb fb (.pointer (some ⟨Zb,0,none⟩)) vt Ap a As M Ws xa xc vas v vw na nl nc W) (Z0:ZLive X w Zb Z.exA L K) (hK:K<=1000000) (o:List (List UInt8)) (oa:Option Addr) (ol oc:Nat) (hol:Hid (o.length=ol)) (hot:TyS W oa o) (hom:Hid (N.Small o)) :
 Calls Tryz.prog 33 #[.pointer (some ⟨Zb,0,none⟩),.slice oa ol oc] W fun e w' => ∃ ts ta tl tc,e = .returned (.slice ta tl tc)/\ts.map UInt16.toNat=Z.typesAt L (path o)/\ts.length=tl/\SlH w' ta ts/\TyS w' oa o/\(∀ x (y:Nat),x=(y:Int)->Calls Tryz.prog 75 #[.slice ta tl tc,.int .u16 x] w' fun e w''=>e = .returned (.bool (decide (y∈Z.typesAt L (path o))))/\w''=w')/\FG w sb fb (.pointer (some ⟨Zb,0,none⟩)) vt Ap a As M Ws xa xc vas v vw na nl nc w':=by
 refine (ztypes_live (Z0.bel h.bel) hK o oa ol oc hol hot.1 hom).mono ?_
 rintro e w' ⟨v,rfl,ts,hts,hO,hb⟩
 obtain⟨ta,tc,rfl,hS,_⟩:=hO.open
 have hln:ts.length<=1000000:=by
  have h1:=congrArg List.length hts
  rw[List.length_map] at h1
  have h2:=Z.typesAt_len L (path o)
  have h3:=Z0.num
  omega
 refine⟨ts,ta,_,tc,rfl,hts,rfl,hS,hot.kb (KB.of_below hb),fun x y hxy=>?_,h.step hb⟩
 subst hxy
 rw[<- hts]
 exact hcontains_any ts ta ts.length tc y w' (hide rfl) hS hln
theorem FG.goOn {vz vt:Value} {o q:List (List UInt8)} (h:FG w sb fb vz vt Ap a As (M++(setsP L o [5]).map (PSet.as q)) Ws xa xc vas v vw na nl nc W) (hsb0:w.heap.size<=sb) (hAp:Hid (Ap.length=1)) (hApm:Hid (N.Small Ap)) (hm:Hid (N.Small a)) (hAl:As.length<=900) (hAm : ∀ x∈As,N.Small x) (hMl:M.length<=900) (h5:5∈Z.typesAt L (path o)) {d:List UInt8} (hd:(setP L o 5).d[0]?=some d) {B:Bool} (hB:fol Ap As a (M.length+1) (tg5 d)=B) :
 Calls Tryz.prog 76 #[.pointer (some ⟨sb,0,none⟩)] W fun e w'=>e = .returned (.bool B) /\ ∃ a' c' vas',FG w sb fb vz vt Ap (tg5 d) (As ++ [a]) (M++(setsP L o [5]).map (PSet.as q)) Ws xa xc vas' v vw a' (tg5 d).length c' w':=by
 have e1:=(setsP_on h5).1
 have e2:(M++(setsP L o [5]).map (PSet.as q)).length=M.length+1:=by rw[e1];simp
 have h2:=h.follow hsb0 hAp hApm hm (by omega) hAm (by omega) (PSet.as q (setP L o 5)) M.length e2 (by rw[e1];simp) d hd (hide (tg5_ok d).1)
 rw[e2,hB] at h2
 exact h2
theorem FG.denySkip {vz vt:Value} {W1:World} {kd:Int} (h:FG w sb fb vz vt Ap a As M Ws xa xc vas v vw na nl nc W) (hg:GB sb none W W1) (hb:Below w.heap.size W W1) (h3:kd≠3) (h4:kd≠4) (hr:RowAt W1 sb 122 #[vz,.slice xa 1 xc,vt,vas,.int .i64 kd,v,.slice none 0 0,.slice none 0 0,vw,.slice na nl nc]) :
 Calls Tryz.prog 77 #[.pointer (some ⟨sb,0,none⟩)] W1 fun e w'=>e = .returned (.tuple #[]) /\ ∃ v2,FE w sb fb vz vt a kd M [] Ws xa xc vas v v2 vw na nl nc w':=by
 refine (deny_skip sb _ _ _ _ _ _ _ _ _ kd h3 h4 hr).mono ?_
 rintro e w' ⟨rfl,rfl⟩
 exact⟨rfl,_,h.fe hg hb hr (OwnL.nil _ _ _ _ _)⟩
theorem FG.denySoa {vt:Value} {W1:World} {kd:Int} (h:FG w sb fb (.pointer (some ⟨Zb,0,none⟩)) vt Ap a As M Ws xa xc vas v vw na nl nc W) (hg:GB sb none W W1) (hb:Below w.heap.size W W1) (Z0:ZLive X w Zb Z.exA L K) (hK:K<=1000000) (hsb0:w.heap.size<=sb) (hAp:Hid (Ap.length=1)) (hApm:Hid (N.Small Ap)) (hkd:kd=3\/kd=4) (hr:RowAt W1 sb 122 #[.pointer (some ⟨Zb,0,none⟩),.slice xa 1 xc,vt,vas,.int .i64 kd,v,.slice none 0 0,.slice none 0 0,vw,.slice na nl nc]) :
 Calls Tryz.prog 77 #[.pointer (some ⟨sb,0,none⟩)] W1 fun e w'=>e = .returned (.tuple #[]) /\ ∃ v2,FE w sb fb (.pointer (some ⟨Zb,0,none⟩)) vt a kd M (setsP L Ap [6]) Ws xa xc vas v v2 vw na nl nc w':=by
 refine (deny_soa_g Z0 hK (h.bel.trans hb) sb hsb0 Ap xa 1 xc _ _ _ _ _ _ _ kd hkd hAp hr (h.apx.kb (KA.gb h.row hg).kb).1 hApm).mono ?_
 rintro e w' ⟨rfl,v2,h1,h2,h3,h4⟩
 exact⟨rfl,v2,h.fe (hg.trans h3) (hb.trans h4) h1 h2⟩
theorem FE.fin {vz vt:Value} {kd:Int} {Au:List PSet} {v2:Value} (h:FE w sb fb vz vt a kd M Au Ws xa xc vas v v2 vw na nl nc W) (hfb:w.heap.size<=fb):RowAt (fdSet W fb (.int .i64 kd) v v2 (.slice none 0 0) vw (.slice na nl nc)) fb 70 #[.int .i64 kd,v,v2,.slice none 0 0,vw,.slice na nl nc]/\OwnL 54 4 ES (fdSet W fb (.int .i64 kd) v v2 (.slice none 0 0) vw (.slice na nl nc)) w.heap.size v M/\OwnL 54 4 ES (fdSet W fb (.int .i64 kd) v v2 (.slice none 0 0) vw (.slice na nl nc)) w.heap.size v2 Au/\OwnL 28 1 EN (fdSet W fb (.int .i64 kd) v v2 (.slice none 0 0) vw (.slice na nl nc)) w.heap.size vw Ws/\SlS (fdSet W fb (.int .i64 kd) v v2 (.slice none 0 0) vw (.slice na nl nc)) na a/\Below w.heap.size w (fdSet W fb (.int .i64 kd) v v2 (.slice none 0 0) vw (.slice na nl nc)):=by
 have hfd:=fdSet_row h.fd (.int .i64 kd) v v2 (.slice none 0 0) vw (.slice na nl nc)
 refine⟨hfd.1,?_,?_,?_,?_,hfd.2.2 _ hfb _ h.bel⟩
 ·exact h.om.kx hfd.2.1 (fun _ _ h=>h.kx (by decide) (by decide) hfd.2.1) (by decide)
 ·exact h.oa.kx hfd.2.1 (fun _ _ h=>h.kx (by decide) (by decide) hfd.2.1) (by decide)
 ·exact h.ow.kx hfd.2.1 (fun _ _ h=>h.kb (hfd.2.1.kb (by decide))) (by decide)
 ·exact (h.ty.kb (hfd.2.1.kb (by decide))).1
theorem FE.forms {vz vt:Value} {kd:Int} {Au:List PSet} {v2:Value} (h:FE w sb fb vz vt a kd M Au Ws xa xc vas v v2 vw na nl nc W):(∃ p q c,v = .slice p q c)/\(∃ p q c,v2 = .slice p q c)/\(∃ p q c,vw = .slice p q c):=by
 obtain⟨p1,c1,e1,_⟩:=h.om.slice
 obtain⟨p2,c2,e2,_⟩:=h.oa.slice
 obtain⟨p3,c3,e3,_⟩:=h.ow.slice
 exact⟨⟨_,_,_,e1⟩,⟨_,_,_,e2⟩,⟨_,_,_,e3⟩⟩
end
end Go.Proofs.YtmbcegljmhcdeaaGreat
namespace Go.Proofs.YtmbcegljmhcdeaaGreat
open Go.RowKit
set_option maxRecDepth 5000
def LInv (w:World) (sb fb Zb:Nat) (L:List Z.R) (t:Nat) (Ap:List (List UInt8)) (xa:Option Addr) (xc:Nat) (F:FR) (W:World):Prop :=
 ∃ a As M Ws vas v vw na nl nc,FG w sb fb (.pointer (some ⟨Zb,0,none⟩)) (.int .u16 (t:Int)) Ap a As M Ws xa xc vas v vw na nl nc W/\Runs L t Ap a As M Ws F/\N.Small a/\N.within a Z.exA=true/\a.length<=100000/\(∀ x∈As,N.Small x)/\M.length=As.length/\As.length<=8/\Ws.length<=As.length/\(As = []->v = .slice none 0 0)
set_option maxRecDepth 40000 in
set_option maxHeartbeats 4000000 in
theorem find_runs {X:Nat->Prop} {w:World} {Zb:Nat} {L:List Z.R} {K:Nat} (Z0:ZLive X w Zb Z.exA L K) (hK:K<=1000000) (n:List (List UInt8)) (ao:Option Addr) (len cap:Nat) (hl:Hid (n.length=len)) (hs:SlS w ao n) (hcap:len<=cap) (hm:Hid (N.Small n)) (hin:N.within n Z.exA=true) (hnb:len<=100000) (t:Nat) (ht:t<65536) (F:FR) (hF:Runs L t (n.drop (len - 1)) n [] [] [] F) :
 Calls Tryz.prog 39 #[.pointer (some ⟨Zb,0,none⟩),.slice ao len cap,.int .u16 (t:Int)] w fun e w' => ∃ v v2 vw na nc,e = .returned (.agg #[.int .i64 F.kind,v,v2,.slice none 0 0,vw,.slice na F.a.length nc])/\OwnL 54 4 ES w' w.heap.size v F.M/\OwnL 54 4 ES w' w.heap.size v2 F.au/\OwnL 28 1 EN w' w.heap.size vw F.ws/\SlS w' na F.a/\Below w.heap.size w w':=by
 have hf:Flat ao:=hs.flat (by have:=(within_chk n hin).1;omega)
 have hlen:len<=1000000:=by omega
 have h1len:1<=len:=by rw[<- hl.out];exact (within_chk n hin).1
 obtain⟨Ap,hApe⟩ : ∃ Ap,Ap=n.drop (len - 1):=⟨_,rfl⟩
 rw[<- hApe] at hF
 have hap : ∀ W,Below w.heap.size w W->Calls Tryz.prog 70 #[.pointer (some ⟨Zb,0,none⟩),.slice ao len cap] W fun e w' => ∃ a c,e = .returned (.tuple #[.slice a 1 c,.bool true])/\TyS w' a Ap/\Below W.heap.size W w':=fun W hW=>by
  refine (lapex_any (Z0.bel hW) n ao len cap hl (hs.below hW (Nat.le_refl _)) hf hcap hm).mono ?_
  rintro e w' ⟨v,rfl,hO,hB⟩
  rw[if_pos hin] at hO
  obtain⟨a,c,rfl,hT,_⟩:=hO.ty
  rw[<- hApe] at hT
  refine⟨a,c,?_,hT,hB⟩
  rw[hin,List.length_drop,hl.out,show len - (len - 1)=1 by omega]
 have hcl : ∀ W,Below w.heap.size w W->Calls Tryz.prog 56 #[.slice ao len cap] W fun e w' => ∃ a c,e = .returned (.slice a len c)/\TyS w' a n/\len<=c/\(a=none->c=0)/\Below W.heap.size W w':=fun W hW=>by
  refine (nclone_all W ao len cap n hl.out hlen hf (hs.below hW (Nat.le_refl _))).mono ?_
  rintro e w' ⟨v,rfl,hO,hB⟩
  obtain⟨a,c,rfl,hT,hn,hc⟩:=hO.ty
  rw[hl.out] at hc ⊢
  exact⟨a,c,rfl,hT,hc,hn,hB⟩
 have HAPM:Hid (N.Small Ap):=hide (by rw[hApe];exact⟨by rw[List.length_drop];have:=hm.out.1;omega,fun l h=>hm.out.2 l (List.mem_of_mem_drop h)⟩)
 have HAPL:Hid (Ap.length=1):=hide (by rw[hApe,List.length_drop,hl.out];omega)
 have HAPS:Hid (N.same Ap Z.exA=true):=hide (by
  have h:=hin
  unfold N.within at h
  rw[Bool.and_eq_true] at h
  have e:Z.exA.length=1:=rfl
  rw[e,hl.out, <- hApe] at h
  exact h.2)
 have HAP:=hide hap
 have HCL:=hide hcl
 have HZ:=hide Z0
 have HF:=hide hF
 have HIN:=hide hin
 clear hap hcl Z0 hF hs hf hin hApe
 obtain⟨w1,hw1⟩ : ∃ w1,w1=w.alloc (.cells #[.int .i64 0,.slice none 0 0,.slice none 0 0,.slice none 0 0,.slice none 0 0,.slice none 0 0] 70):=⟨_,rfl⟩
 have hb1:Below w.heap.size w w1:=by rw[hw1];exact (Below.refl _ w).alloc (Nat.le_refl _) _
 have hr1:RowAt w1 w.heap.size 70 #[.int .i64 0,.slice none 0 0,.slice none 0 0,.slice none 0 0,.slice none 0 0,.slice none 0 0]:=by rw[hw1];exact RowAt.new w _ _
 have HW1:=hide hw1
 have HB1:=hide hb1
 have HR1:=hide hr1
 clear hw1 hb1 hr1
 go_enter Tryz.func39,Tryz.ntmps39
 go_wp2
 go_step3
 rw[<- HW1.out]
 go_wp2_with (first
  | (go_at_call 56;go_loud (refine (HCL.out w2 HB2.out).mono ?_;rintro e w3 ⟨na,nc,rfl,hT3,hc3,hn3,hB3⟩;have HB3:=hide (HB2.out.trans (hB3.mono HB2.out.size));have HTA3:=hide (HTA2.out.kb (KB.of_below hB3));have HT3:=hide hT3;have HC3:=hide hc3;have HN3:=hide hn3;have HR3:=hide (HR2.out.below hB3 HR2.out.lt);clear hT3 hB3 hc3 hn3))
  | (go_at_call 70;go_loud (refine (HAP.out _ HB1.out).mono ?_;rintro e w2 ⟨a2,c2,rfl,hTA2,hB2⟩;have HTA2:=hide hTA2;clear hTA2;have HR2:=hide (HR1.out.below hB2 HR1.out.lt);have HB2:=hide (HB1.out.trans (hB2.mono HB1.out.size));clear hB2))
  | fail)
 go_step3
 go_wp2
 obtain⟨w4,hw4⟩ : ∃ w4,w4=w3.alloc (.cells #[.pointer (some ⟨Zb,0,none⟩),.slice a2 1 c2,.int .u16 (t:Int),.slice none 0 0,.int .i64 0,.slice none 0 0,.slice none 0 0,.slice none 0 0,.slice none 0 0,.slice na len nc] 122):=⟨_,rfl⟩
 rw[<- hw4]
 obtain⟨sb,hsb⟩ : ∃ sb,sb=w3.heap.size:=⟨_,rfl⟩
 rw[<- hsb]
 have hb4:Below w3.heap.size w3 w4:=by rw[hw4];exact (Below.refl _ w3).alloc (Nat.le_refl _) _
 have hsb0:w.heap.size<=sb:=by rw[hsb];exact HB3.out.size
 have HR4:Hid (RowAt w4 sb 122 #[.pointer (some ⟨Zb,0,none⟩),.slice a2 1 c2,.int .u16 (t:Int),.slice none 0 0,.int .i64 0,.slice none 0 0,.slice none 0 0,.slice none 0 0,.slice none 0 0,.slice na len nc]):=hide (by rw[hw4,hsb];exact RowAt.new w3 _ _)
 obtain⟨fb,hfb⟩ : ∃ fb,fb=w.heap.size:=⟨_,rfl⟩
 have HFB:Hid (w.heap.size<=fb):=hide (Nat.le_of_eq hfb.symm)
 have hG4:FG w sb fb (.pointer (some ⟨Zb,0,none⟩)) (.int .u16 (t:Int)) Ap n [] [] [] a2 c2 (.slice none 0 0) (.slice none 0 0) (.slice none 0 0) na len nc w4:=⟨HB3.out.trans (hb4.mono HB3.out.size),HR4.out,by rw[hfb];exact HR3.out.below hb4 HR3.out.lt,HTA3.out.kb (KB.of_below hb4),HT3.out.kb (KB.of_below hb4),hl.out,HC3.out,HN3.out,OwnL.nil _ _ _ _ _,OwnL.nil _ _ _ _ _,OwnL.nil _ _ _ _ _,fun g e=>by simp[Value.ownBlock] at e⟩
 have HI:Hid (LInv w sb fb Zb L t Ap a2 c2 F w4):=hide ⟨n, [], [], [],_,_,_,na,len,nc,hG4,HF.out,hm.out,HIN.out,by rw[hl.out];exact hnb,by simp,rfl,by simp,by simp,fun _=>rfl⟩
 rw[<- hfb]
 clear hw4 hsb hb4 HB3 HT3 HTA3 HB2 HTA2 HR4 HR3 HR2 hG4 HF HIN hfb HC3 HN3 HAP HCL HB1 HR1 HW1
 go_loopw [10] (fun _ wr=>LInv w sb fb Zb L t Ap a2 c2 F wr) (fun _ wr=>9 - askedN sb wr)
 case atStart=>exact HI.out
 case round =>
  clear HI
  obtain⟨a,As,M,Ws,vas,v,vw,na,nl,nc,hG,hR,hm,hin,hnb,hAm,hMA,hAl,hWl,hv0⟩:=hrel
  have H4:=hide hG
  have hm:=hide hm
  have HIN:=hide hin
  have HAM:=hide hAm
  have hnl:nl<=100000:=by rw[<- hG.len];exact hnb
  have hWl2:Ws.length<=1000:=by omega
  have hAl2:As.length<=900:=by omega
  have hMl:M.length<=900:=by omega
  have hMl2:M.length<=1000:=by omega
  clear hG hin hAm
  cases hR with
  | none hno h1 h2 =>
   have HNO:=hide hno
   have HT0:=hide h1
   have HH:=hide h2
   clear hno h1 h2
   go_wp2_with (first
    | (go_at_call 71;go_loud (refine (H4.out.give HZ.out hm HNO.out).mono ?_;rintro e w5 ⟨rfl,h5⟩;have H5:=hide h5;clear h5))
    | (go_at_call 73;go_loud (refine (owner_none_g (HZ.out.bel H5.out.bel) hK sb w.heap.size hsb0 H5.out.bel.size _ _ _ _ _ _ _ 0 a na nl nc (hide H5.out.len) H5.out.row H5.out.ty.1 hm HT0.out HH.out).mono ?_;rintro e w6 ⟨rfl,hr6,hg6,hb6⟩;have HR6:=hide hr6;have HG6:=hide hg6;have HB6:=hide hb6;clear hr6 hg6 hb6))
    | (go_at_call 77;go_loud (refine (H5.out.denySoa (kd:=3) (HG6.out) (HB6.out) HZ.out hK hsb0 HAPL HAPM (Or.inl rfl) (HR6.out)).mono ?_;rintro e w12 ⟨rfl,v2,hE⟩;have HE:=hide hE;clear hE;obtain⟨⟨p1,q1,e1,rfl⟩,⟨p2,q2,e2,rfl⟩,⟨p3,q3,e3,rfl⟩⟩:=HE.out.forms;obtain⟨s4,s5,s6,s7,s8,s9⟩:=se_facts HE.out.row;obtain⟨r0,r1,r2,r3,r4,r5,g0,g1,g2,g3,g4,g5⟩:=fd_facts HE.out.fd))
    | fail)
   rw[Exit.noGoto_ret]
   have hend:=HE.out.fin HFB.out
   refine bodyPost_ret (v := .agg _) (results_fd Tryz.results39 _ _ fb _ rfl rfl hend.1) rfl ⟨_,_,_,_,_,by rw[HE.out.len],hend.2.1,hend.2.2.1,hend.2.2.2.1,hend.2.2.2.2.1,hend.2.2.2.2.2⟩
  | nothing hno h1 h2 h3 =>
   have HNO:=hide hno
   have HT0:=hide h1
   have HH:=hide h2
   have HST:=hide h3
   clear hno h1 h2 h3
   go_wp2_with (first
    | (go_at_call 71;go_loud (refine (H4.out.give HZ.out hm HNO.out).mono ?_;rintro e w5 ⟨rfl,h5⟩;have H5:=hide h5;clear h5))
    | (go_at_call 73;go_loud (refine (owner_nothing_g HZ.out hK H5.out.bel sb hsb0 _ _ _ _ _ _ _ 0 a na nl nc (hide H5.out.len) H5.out.cap hnl H5.out.row H5.out.ty.1 hm HIN.out HT0.out HH.out HST.out).mono ?_;rintro e w6 ⟨rfl,hr6,hg6,hb6⟩;have HR6:=hide hr6;have HG6:=hide hg6;have HB6:=hide hb6;clear hr6 hg6 hb6))
    | (go_at_call 77;go_loud (refine (H5.out.denySoa (kd:=4) (HG6.out) (HB6.out) HZ.out hK hsb0 HAPL HAPM (Or.inr rfl) (HR6.out)).mono ?_;rintro e w12 ⟨rfl,v2,hE⟩;have HE:=hide hE;clear hE;obtain⟨⟨p1,q1,e1,rfl⟩,⟨p2,q2,e2,rfl⟩,⟨p3,q3,e3,rfl⟩⟩:=HE.out.forms;obtain⟨s4,s5,s6,s7,s8,s9⟩:=se_facts HE.out.row;obtain⟨r0,r1,r2,r3,r4,r5,g0,g1,g2,g3,g4,g5⟩:=fd_facts HE.out.fd))
    | fail)
   rw[Exit.noGoto_ret]
   have hend:=HE.out.fin HFB.out
   refine bodyPost_ret (v := .agg _) (results_fd Tryz.results39 _ _ fb _ rfl rfl hend.1) rfl ⟨_,_,_,_,_,by rw[HE.out.len],hend.2.1,hend.2.2.1,hend.2.2.2.1,hend.2.2.2.2.1,hend.2.2.2.2.2⟩
  | any hno ho ht2 hb =>
   obtain rfl:=hv0 rfl
   subst ht2
   have HTB:=hide hb
   have HNO:=hide hno
   have HOM:=hide (ho.small hm.out hnb)
   have HO:=hide ho
   clear hno ho hb
   go_wp2_with (first
    | (go_at_call 71;go_loud (refine (H4.out.give HZ.out hm HNO.out).mono ?_;rintro e w5 ⟨rfl,h5⟩;have H5:=hide h5;clear h5))
    | (go_at_call 73;go_loud (refine (H5.out.owner HZ.out hK hsb0 hm HIN.out hnl hWl2 HO.out).mono ?_;rintro e w6 ⟨oa,ol,oc,vw6,rfl,hol,hot,hoc,h6⟩;have HOL:=hide hol;have HOT:=hide hot;have H6:=hide h6;clear hol hot h6))
    | (go_at_call 33;go_loud (refine (H6.out.types HZ.out hK _ oa ol oc HOL HOT.out HOM).mono ?_;rintro e w7 ⟨ts,ta,tl,tc,rfl,hts,htl,hS7,hot7,hcon,h7⟩;have HTS:=hide hts;have HTLL:=hide htl;have HS7:=hide hS7;have HOT7:=hide hot7;have H7:=hide h7;have c4:w7.cell? ⟨sb,4,none⟩=some (.int .i64 0):=h7.row.cell 4;have f4:w7.frozen? ⟨sb,4,none⟩=false:=h7.row.frozen 4;have HTB:Hid (tl<=70000):=hide (by have h1:=congrArg List.length hts;rw[List.length_map] at h1;have:=HTB.out;omega);clear hts htl hS7 hot7 hcon h7))
    | (go_at_call 74;go_loud (refine (H7.out.answerAny HZ.out hK hsb0 hm _ oa ol oc HOL HOT7.out HOM ts ta tl tc HTLL HS7.out HTB.out).mono ?_;rintro e w9 ⟨rfl,v9,h9⟩;rw[HTS.out] at h9;have H9:=hide h9;clear h9))
    | (go_at_call 77;go_loud (refine (H9.out.denySkip (kd:=0) (GB.bel (Below.refl _ _)) (Below.refl _ _) (by decide) (by decide) (H9.out.row)).mono ?_;rintro e w12 ⟨rfl,v2,hE⟩;have HE:=hide hE;clear hE;obtain⟨⟨p1,q1,e1,rfl⟩,⟨p2,q2,e2,rfl⟩,⟨p3,q3,e3,rfl⟩⟩:=HE.out.forms;obtain⟨s4,s5,s6,s7,s8,s9⟩:=se_facts HE.out.row;obtain⟨r0,r1,r2,r3,r4,r5,g0,g1,g2,g3,g4,g5⟩:=fd_facts HE.out.fd))
    | fail)
   rw[Exit.noGoto_ret]
   have hend:=HE.out.fin HFB.out
   refine bodyPost_ret (v := .agg _) (results_fd Tryz.results39 _ _ fb _ rfl rfl hend.1) rfl ⟨_,_,_,_,_,by rw[HE.out.len],hend.2.1,hend.2.2.1,hend.2.2.2.1,hend.2.2.2.2.1,hend.2.2.2.2.2⟩
  | ans hno ho ht2 h1 =>
   have HNO:=hide hno
   have HOM:=hide (ho.small hm.out hnb)
   have HO:=hide ho
   have htb:((t:Int) == 255)=false:=by simp;omega
   have HT1:=hide h1
   clear hno ho h1 ht2
   go_wp2_with (first
    | (go_at_call 71;go_loud (refine (H4.out.give HZ.out hm HNO.out).mono ?_;rintro e w5 ⟨rfl,h5⟩;have H5:=hide h5;clear h5))
    | (go_at_call 73;go_loud (refine (H5.out.owner HZ.out hK hsb0 hm HIN.out hnl hWl2 HO.out).mono ?_;rintro e w6 ⟨oa,ol,oc,vw6,rfl,hol,hot,hoc,h6⟩;have HOL:=hide hol;have HOT:=hide hot;have H6:=hide h6;clear hol hot h6))
    | (go_at_call 33;go_loud (refine (H6.out.types HZ.out hK _ oa ol oc HOL HOT.out HOM).mono ?_;rintro e w7 ⟨ts,ta,tl,tc,rfl,hts,htl,hS7,hot7,hcon,h7⟩;have HTS:=hide hts;have HTLL:=hide htl;have HS7:=hide hS7;have HOT7:=hide hot7;have H7:=hide h7;have c4:w7.cell? ⟨sb,4,none⟩=some (.int .i64 0):=h7.row.cell 4;have f4:w7.frozen? ⟨sb,4,none⟩=false:=h7.row.frozen 4;have hct:=hcon _ t rfl;rw[decide_eq_true HT1.out] at hct;have HCT:=hide hct;clear hct;  clear hts htl hS7 hot7 hcon h7))
    | (go_at_call 75;go_loud (refine HCT.out.mono ?_;rintro e w8 ⟨rfl,hw8⟩;have hw9:=hw8.symm;subst hw9;clear hw8;have HF7:=hide trivial))
    | (go_at_call 74;go_loud (refine (H7.out.answer1 HZ.out hK hsb0 hm hMl2 _ oa ol oc HOL HOT7.out HOM _ t rfl ht).mono ?_;rintro e w9 ⟨rfl,v9,h9⟩;have H9:=hide h9;clear h9))
    | (go_at_call 77;go_loud (refine (H9.out.denySkip (kd:=0) (GB.bel (Below.refl _ _)) (Below.refl _ _) (by decide) (by decide) (H9.out.row)).mono ?_;rintro e w12 ⟨rfl,v2,hE⟩;have HE:=hide hE;clear hE;obtain⟨⟨p1,q1,e1,rfl⟩,⟨p2,q2,e2,rfl⟩,⟨p3,q3,e3,rfl⟩⟩:=HE.out.forms;obtain⟨s4,s5,s6,s7,s8,s9⟩:=se_facts HE.out.row;obtain⟨r0,r1,r2,r3,r4,r5,g0,g1,g2,g3,g4,g5⟩:=fd_facts HE.out.fd))
    | fail)
   rw[Exit.noGoto_ret]
   have hend:=HE.out.fin HFB.out
   refine bodyPost_ret (v := .agg _) (results_fd Tryz.results39 _ _ fb _ rfl rfl hend.1) rfl ⟨_,_,_,_,_,by rw[HE.out.len],hend.2.1,hend.2.2.1,hend.2.2.2.1,hend.2.2.2.2.1,hend.2.2.2.2.2⟩
  | other hno ho ht2 h1 h5 =>
   have HNO:=hide hno
   have HOM:=hide (ho.small hm.out hnb)
   have HO:=hide ho
   have htb:((t:Int) == 255)=false:=by simp;omega
   have HT1:=hide h1
   have HT5:=hide h5
   clear hno ho h1 h5 ht2
   go_wp2_with (first
    | (go_at_call 71;go_loud (refine (H4.out.give HZ.out hm HNO.out).mono ?_;rintro e w5 ⟨rfl,h5⟩;have H5:=hide h5;clear h5))
    | (go_at_call 73;go_loud (refine (H5.out.owner HZ.out hK hsb0 hm HIN.out hnl hWl2 HO.out).mono ?_;rintro e w6 ⟨oa,ol,oc,vw6,rfl,hol,hot,hoc,h6⟩;have HOL:=hide hol;have HOT:=hide hot;have H6:=hide h6;clear hol hot h6))
    | (go_at_call 33;go_loud (refine (H6.out.types HZ.out hK _ oa ol oc HOL HOT.out HOM).mono ?_;rintro e w7 ⟨ts,ta,tl,tc,rfl,hts,htl,hS7,hot7,hcon,h7⟩;have HTS:=hide hts;have HTLL:=hide htl;have HS7:=hide hS7;have HOT7:=hide hot7;have H7:=hide h7;have c4:w7.cell? ⟨sb,4,none⟩=some (.int .i64 0):=h7.row.cell 4;have f4:w7.frozen? ⟨sb,4,none⟩=false:=h7.row.frozen 4;have hct:=hcon _ t rfl;rw[decide_eq_false HT1.out] at hct;have HCT:=hide hct;clear hct;have hc5:=hcon 5 5 rfl;rw[decide_eq_false HT5.out] at hc5;have HC5:=hide hc5;clear hc5;  clear hts htl hS7 hot7 hcon h7))
    | (go_at_call 75;have hq:=HF7.out;clear hq;go_loud (refine HC5.out.mono ?_;rintro e w8 ⟨rfl,hw8⟩;have hw9:=hw8.symm;subst hw9;clear hw8))
    | (go_at_call 75;go_loud (refine HCT.out.mono ?_;rintro e w8 ⟨rfl,hw8⟩;have hw9:=hw8.symm;subst hw9;clear hw8;have HF7:=hide trivial))
    | (go_at_call 77;go_loud (refine (H7.out.denySoa (kd:=3) (GB.set _) ((Below.refl _ _).setCell (p:=⟨sb,4,none⟩) hsb0 _) HZ.out hK hsb0 HAPL HAPM (Or.inl rfl) (H7.out.row.set 4 _)).mono ?_;rintro e w12 ⟨rfl,v2,hE⟩;have HE:=hide hE;clear hE;obtain⟨⟨p1,q1,e1,rfl⟩,⟨p2,q2,e2,rfl⟩,⟨p3,q3,e3,rfl⟩⟩:=HE.out.forms;obtain⟨s4,s5,s6,s7,s8,s9⟩:=se_facts HE.out.row;obtain⟨r0,r1,r2,r3,r4,r5,g0,g1,g2,g3,g4,g5⟩:=fd_facts HE.out.fd))
    | fail)
   rw[Exit.noGoto_ret]
   have hend:=HE.out.fin HFB.out
   refine bodyPost_ret (v := .agg _) (results_fd Tryz.results39 _ _ fb _ rfl rfl hend.1) rfl ⟨_,_,_,_,_,by rw[HE.out.len],hend.2.1,hend.2.2.1,hend.2.2.2.1,hend.2.2.2.2.1,hend.2.2.2.2.2⟩
  | stop hno ho ht2 h1 h5 hd hf =>
   have HNO:=hide hno
   have HOM:=hide (ho.small hm.out hnb)
   have HO:=hide ho
   have htb:((t:Int) == 255)=false:=by simp;omega
   have HT1:=hide h1
   have H5IN:=hide h5
   have HD:=hide hd
   have HFO:=hide hf
   clear hno ho h1 h5 ht2 hd hf
   go_wp2_with (first
    | (go_at_call 71;go_loud (refine (H4.out.give HZ.out hm HNO.out).mono ?_;rintro e w5 ⟨rfl,h5⟩;have H5:=hide h5;clear h5))
    | (go_at_call 73;go_loud (refine (H5.out.owner HZ.out hK hsb0 hm HIN.out hnl hWl2 HO.out).mono ?_;rintro e w6 ⟨oa,ol,oc,vw6,rfl,hol,hot,hoc,h6⟩;have HOL:=hide hol;have HOT:=hide hot;have H6:=hide h6;clear hol hot h6))
    | (go_at_call 33;go_loud (refine (H6.out.types HZ.out hK _ oa ol oc HOL HOT.out HOM).mono ?_;rintro e w7 ⟨ts,ta,tl,tc,rfl,hts,htl,hS7,hot7,hcon,h7⟩;have HTS:=hide hts;have HTLL:=hide htl;have HS7:=hide hS7;have HOT7:=hide hot7;have H7:=hide h7;have c4:w7.cell? ⟨sb,4,none⟩=some (.int .i64 0):=h7.row.cell 4;have f4:w7.frozen? ⟨sb,4,none⟩=false:=h7.row.frozen 4;have hct:=hcon _ t rfl;rw[decide_eq_false HT1.out] at hct;have HCT:=hide hct;clear hct;have hc5:=hcon 5 5 rfl;rw[decide_eq_true H5IN.out] at hc5;have HC5:=hide hc5;clear hc5;  clear hts htl hS7 hot7 hcon h7))
    | (go_at_call 75;have hq:=HF7.out;clear hq;go_loud (refine HC5.out.mono ?_;rintro e w8 ⟨rfl,hw8⟩;have hw9:=hw8.symm;subst hw9;clear hw8))
    | (go_at_call 75;go_loud (refine HCT.out.mono ?_;rintro e w8 ⟨rfl,hw8⟩;have hw9:=hw8.symm;subst hw9;clear hw8;have HF7:=hide trivial))
    | (go_at_call 74;go_loud (refine (H7.out.answer1 HZ.out hK hsb0 hm hMl2 _ oa ol oc HOL HOT7.out HOM 5 5 rfl (by decide)).mono ?_;rintro e w9 ⟨rfl,v9,h9⟩;have H9:=hide h9;clear h9))
    | (go_at_call 76;go_loud (refine (H9.out.goOn hsb0 HAPL HAPM hm hAl2 HAM.out hMl H5IN.out HD.out HFO.out).mono ?_;rintro e w10 ⟨rfl,a10,c10,vas10,h10⟩;have H10:=hide h10;have c4:w10.cell? ⟨sb,4,none⟩=some (.int .i64 0):=h10.row.cell 4;have f4:w10.frozen? ⟨sb,4,none⟩=false:=h10.row.frozen 4;clear h10))
    | (go_at_call 77;go_loud (refine (H10.out.denySkip (kd:=1) (GB.set _) ((Below.refl _ _).setCell (p:=⟨sb,4,none⟩) hsb0 _) (by decide) (by decide) (H10.out.row.set 4 _)).mono ?_;rintro e w12 ⟨rfl,v2,hE⟩;have HE:=hide hE;clear hE;obtain⟨⟨p1,q1,e1,rfl⟩,⟨p2,q2,e2,rfl⟩,⟨p3,q3,e3,rfl⟩⟩:=HE.out.forms;obtain⟨s4,s5,s6,s7,s8,s9⟩:=se_facts HE.out.row;obtain⟨r0,r1,r2,r3,r4,r5,g0,g1,g2,g3,g4,g5⟩:=fd_facts HE.out.fd))
    | fail)
   rw[Exit.noGoto_ret]
   have hend:=HE.out.fin HFB.out
   refine bodyPost_ret (v := .agg _) (results_fd Tryz.results39 _ _ fb _ rfl rfl hend.1) rfl ⟨_,_,_,_,_,by rw[HE.out.len],hend.2.1,hend.2.2.1,hend.2.2.2.1,hend.2.2.2.2.1,hend.2.2.2.2.2⟩
  | go hno ho ht2 h1 h5 hd hf hr =>
   rename_i o Ws' d
   have HNO:=hide hno
   have HOM:=hide (ho.small hm.out hnb)
   have HO:=hide ho
   have htb:((t:Int) == 255)=false:=by simp;omega
   have HT1:=hide h1
   have H5IN:=hide h5
   have HD:=hide hd
   have HFO:=hide hf
   have HRN:=hide hr
   clear hno ho h1 h5 ht2 hd hf hr
   go_wp2_with (first
    | (go_at_call 71;go_loud (refine (H4.out.give HZ.out hm HNO.out).mono ?_;rintro e w5 ⟨rfl,h5⟩;have H5:=hide h5;clear h5))
    | (go_at_call 73;go_loud (refine (H5.out.owner HZ.out hK hsb0 hm HIN.out hnl hWl2 HO.out).mono ?_;rintro e w6 ⟨oa,ol,oc,vw6,rfl,hol,hot,hoc,h6⟩;have HOL:=hide hol;have HOT:=hide hot;have H6:=hide h6;clear hol hot h6))
    | (go_at_call 33;go_loud (refine (H6.out.types HZ.out hK _ oa ol oc HOL HOT.out HOM).mono ?_;rintro e w7 ⟨ts,ta,tl,tc,rfl,hts,htl,hS7,hot7,hcon,h7⟩;have HTS:=hide hts;have HTLL:=hide htl;have HS7:=hide hS7;have HOT7:=hide hot7;have H7:=hide h7;have c4:w7.cell? ⟨sb,4,none⟩=some (.int .i64 0):=h7.row.cell 4;have f4:w7.frozen? ⟨sb,4,none⟩=false:=h7.row.frozen 4;have hct:=hcon _ t rfl;rw[decide_eq_false HT1.out] at hct;have HCT:=hide hct;clear hct;have hc5:=hcon 5 5 rfl;rw[decide_eq_true H5IN.out] at hc5;have HC5:=hide hc5;clear hc5;  clear hts htl hS7 hot7 hcon h7))
    | (go_at_call 75;have hq:=HF7.out;clear hq;go_loud (refine HC5.out.mono ?_;rintro e w8 ⟨rfl,hw8⟩;have hw9:=hw8.symm;subst hw9;clear hw8))
    | (go_at_call 75;go_loud (refine HCT.out.mono ?_;rintro e w8 ⟨rfl,hw8⟩;have hw9:=hw8.symm;subst hw9;clear hw8;have HF7:=hide trivial))
    | (go_at_call 74;go_loud (refine (H7.out.answer1 HZ.out hK hsb0 hm hMl2 _ oa ol oc HOL HOT7.out HOM 5 5 rfl (by decide)).mono ?_;rintro e w9 ⟨rfl,v9,h9⟩;have H9:=hide h9;clear h9))
    | (go_at_call 76;go_loud (refine (H9.out.goOn hsb0 HAPL HAPM hm hAl2 HAM.out hMl H5IN.out HD.out HFO.out).mono ?_;rintro e w10 ⟨rfl,a10,c10,vas10,h10⟩;have H10:=hide h10;have c4:w10.cell? ⟨sb,4,none⟩=some (.int .i64 0):=h10.row.cell 4;have f4:w10.frozen? ⟨sb,4,none⟩=false:=h10.row.frozen 4;clear h10))
    | fail)
   go_roundw
   case rel =>
    have hfo:=HFO.out
    unfold fol at hfo
    rw[Bool.and_eq_true,Bool.and_eq_true,decide_eq_true_eq] at hfo
    refine⟨_,_,_,_,_,_,_,_,_,_,H10.out,HRN.out,(tg5_ok _).1,within_ap hfo.2.1 HAPL.out HAPS.out,by have:=(tg5_ok d).2;omega,fun x hx=>?_,?_,?_,?_,fun h=>by simp at h⟩
    ·rcases List.mem_append.1 hx with h | h
     ·exact HAM.out x h
     ·rw[List.mem_singleton.1 h];exact hm.out
    ·rw[(setsP_on H5IN.out).1];simp[hMA]
    ·rw[List.length_append,List.length_singleton];omega
    ·rw[List.length_append,List.length_singleton];have:=HO.out.len;omega
   case measure =>
    have hfo:=HFO.out
    unfold fol at hfo
    rw[Bool.and_eq_true,Bool.and_eq_true,decide_eq_true_eq] at hfo
    rw[H10.out.asked,H4.out.asked,List.length_append,List.length_singleton]
    omega
end Go.Proofs.YtmbcegljmhcdeaaGreat
namespace Go.Proofs.YtmbcegljmhcdeaaGreat
set_option maxRecDepth 5000
open Go.RowKit
def atN (i:Nat):List (List UInt8) := [[UInt8.ofNat (97+i)],exL]
def farN:List (List UInt8) := [[102,97,114]]
def toN (k:Nat) (out:Bool) (r i:Nat):List (List UInt8):=if i+1=k/\r % 3=0 then atN (r % k) else if i+1=k/\out=true then farN else atN (i+1)
theorem atN_inj : ∀ i,i<13 -> ∀ j,j<13->path (atN i)=path (atN j)->i=j:=by decide +kernel
theorem atN_chk : ∀ i,i<13->N.chk (atN i)=0/\N.within (atN i) Z.exA=true/\(cn 5 (N.wire (atN i))).isSome=true/\tg5 (N.wire (atN i))=atN i:=by decide +kernel
theorem farN_chk:(cn 5 (N.wire farN)).isSome=true/\tg5 (N.wire farN)=farN/\N.within farN [exL]=false:=by decide +kernel
theorem chainN : ∀ i,i<8->N.within (atN (i+1)) [exL]=true/\((List.range i).map atN ++ [atN i]).any (fun x=>N.same x (atN (i+1)))=false:=by decide +kernel
theorem ringN : ∀ i,i<12 -> ∀ j,j<=i->((List.range i).map atN ++ [atN i]).any (fun x=>N.same x (atN j))=true:=by decide +kernel
theorem toN_ok {k:Nat} {out:Bool} {r i:Nat} (hi:i<k) (hk:k<=11):(cn 5 (N.wire (toN k out r i))).isSome=true/\tg5 (N.wire (toN k out r i))=toN k out r i/\N.Small (toN k out r i):=by
 have ha : ∀ j,N.Small (atN j):=fun j=>⟨by show 2<=_;omega,fun l hl=>by
  unfold atN at hl
  rcases List.mem_cons.1 hl with rfl | hl
  ·simp
  ·rw[List.mem_singleton.1 hl];decide⟩
 unfold toN
 split
 ·have h:=atN_chk (r % k) (by have:=Nat.mod_lt r (show 0<k by omega);omega)
  exact⟨h.2.2.1,h.2.2.2,ha _⟩
 ·split
  ·exact⟨farN_chk.1,farN_chk.2.1,by decide,by decide⟩
  ·have h:=atN_chk (i+1) (by omega)
   exact⟨h.2.2.1,h.2.2.2,ha _⟩
structure AL (k:Nat) (out:Bool) (r j:Nat) (L:List Z.R):Prop where
 le:L.length<=j
 mem : ∀ x∈L,∃ i,i<j/\x.p=path (atN i)/\x.t=5/\x.d=N.wire (toN k out r i)
 has : ∀ i,i<j -> ∃ x∈L,x.p=path (atN i)/\x.t=5
theorem AL.zero (k:Nat) (out:Bool) (r:Nat):AL k out r 0 []:=⟨Nat.le_refl _,fun x h=>(by cases h),fun i h=>absurd h (by omega)⟩
theorem putR_new {L:List Z.R} {j t:Nat} {d:List UInt8} (hj:j<13) (hL:L.length<2000) (hc:(cn t d).isSome=true) (hno : ∀ x∈L,x.p≠path (atN j)) : ∃ c,(Z.putR Z.exA L (atN j) t 1 5 d).2.2=Z.put L ⟨path (atN j),t,c,5,d⟩/\Z.there L ⟨path (atN j),t,c,5,d⟩=false:=by
 obtain⟨c,hc⟩:=Option.isSome_iff_exists.1 hc
 have h:=atN_chk j hj
 have ht:Z.there L ⟨path (atN j),t,c,5,d⟩=false:=by
  cases h2:Z.there L ⟨path (atN j),t,c,5,d⟩ with
  | false=>rfl
  | true =>
   obtain⟨x,h3,h4,_⟩:=Z.there_iff.1 h2
   exact absurd h4 (hno x h3)
 refine⟨c,?_,ht⟩
 unfold Z.putR
 rw[if_neg (by rw[h.1,h.2.1];simp),if_neg (by simp),hc]
 simp only[ht]
 rw[if_neg (by simp),if_neg (by omega)]
theorem put_len_le (L:List Z.R) (r:Z.R):(Z.put L r).length<=L.length+1:=by
 rw[Z.put_len]
 split <;> omega
theorem AL.put {k:Nat} {out:Bool} {r j:Nat} {L:List Z.R} (h:AL k out r j L) (hj:j<k) (hk:k<=11):AL k out r (j+1) (Z.putR Z.exA L (atN j) 5 1 5 (N.wire (toN k out r j))).2.2:=by
 obtain⟨c,e,ht⟩:=putR_new (L:=L) (t:=5) (d:=N.wire (toN k out r j)) (show j<13 by omega) (by have:=h.le;omega) (toN_ok hj hk).1 (fun x hx e=>by
  obtain⟨i,h1,h2,_⟩:=h.mem x hx
  have:=atN_inj i (by omega) j (by omega) (h2.symm.trans e)
  omega)
 rw[e]
 refine⟨by have:=put_len_le L ⟨path (atN j),5,c,5,N.wire (toN k out r j)⟩;have:=h.le;omega,fun x hx=>?_,fun i hi=>?_⟩
 ·obtain⟨y,hy,rfl⟩:=Z.mem_put.1 hx
  rw[Z.setT_p,Z.setT_t,Z.setT_d]
  rcases hy with hy | ⟨_,rfl⟩
  ·obtain⟨i,h1,h2⟩:=h.mem y hy
   exact⟨i,by omega,h2⟩
  ·exact⟨j,by omega,rfl,rfl,rfl⟩
 ·rcases Nat.lt_or_ge i j with hlt | hge
  ·obtain⟨x,h1,h2,h3⟩:=h.has i hlt
   exact⟨_,Z.mem_put.2 ⟨x,Or.inl h1,rfl⟩,by rw[Z.setT_p];exact h2,by rw[Z.setT_t];exact h3⟩
  ·obtain rfl:i=j:=by omega
   exact⟨_,Z.mem_put.2 ⟨_,Or.inr ⟨ht,rfl⟩,rfl⟩,by rw[Z.setT_p],by rw[Z.setT_t]⟩
structure AF (k:Nat) (out:Bool) (r:Nat) (L:List Z.R):Prop where
 mem : ∀ x∈L,(∃ i,i<k/\x.p=path (atN i)/\x.t=5/\x.d=N.wire (toN k out r i))\/(x.p=path (atN k)/\x.t=1)
 has : ∀ i,i<k -> ∃ x∈L,x.p=path (atN i)/\x.t=5
 one : ∃ x∈L,x.p=path (atN k)/\x.t=1
theorem AL.done {k:Nat} {out:Bool} {r:Nat} {L:List Z.R} (h:AL k out r k L) (hk:k<=11):AF k out r (Z.putR Z.exA L (atN k) 1 1 5 [1,2,3,4]).2.2:=by
 obtain⟨c,e,ht⟩:=putR_new (L:=L) (t:=1) (d := [1,2,3,4]) (show k<13 by omega) (by have:=h.le;omega) (by decide +kernel) (fun x hx e=>by
  obtain⟨i,h1,h2,_⟩:=h.mem x hx
  have:=atN_inj i (by omega) k (by omega) (h2.symm.trans e)
  omega)
 rw[e]
 refine⟨fun x hx=>?_,fun i hi=>?_,_,Z.mem_put.2 ⟨_,Or.inr ⟨ht,rfl⟩,rfl⟩,by rw[Z.setT_p],by rw[Z.setT_t]⟩
 ·obtain⟨y,hy,rfl⟩:=Z.mem_put.1 hx
  rw[Z.setT_p,Z.setT_t,Z.setT_d]
  rcases hy with hy | ⟨_,rfl⟩
  ·exact Or.inl (h.mem y hy)
  ·exact Or.inr ⟨rfl,rfl⟩
 ·obtain⟨x,h1,h2,h3⟩:=h.has i hi
  exact⟨_,Z.mem_put.2 ⟨x,Or.inl h1,rfl⟩,by rw[Z.setT_p];exact h2,by rw[Z.setT_t];exact h3⟩
section
variable {k:Nat} {out:Bool} {r:Nat} {L:List Z.R}
theorem AF.cut (h:AF k out r L) (p:List (List UInt8)):Z.setAt L p 2 = []:=List.eq_nil_iff_forall_not_mem.2 fun x hx=>by
 obtain⟨h1,_,h3⟩:=Z.mem_setAt.1 hx
 rcases h.mem x h1 with⟨_,_,_,h4,_⟩ | ⟨_,h4⟩ <;> omega
theorem AF.t5 (h:AF k out r L) {i:Nat} (hi:i<k):5∈Z.typesAt L (path (atN i)):=by
 obtain⟨x,h1,h2,h3⟩:=h.has i hi
 exact Z.mem_typesAt.2 ⟨x,h1,h2,h3⟩
theorem AF.no1 (h:AF k out r L) (hk:k<=11) {i:Nat} (hi:i<k):1 ∉ Z.typesAt L (path (atN i)):=fun hm=>by
 obtain⟨x,h1,h2,h3⟩:=Z.mem_typesAt.1 hm
 rcases h.mem x h1 with⟨_,_,_,h4,_⟩ | ⟨h4,_⟩
 ·omega
 ·have:=atN_inj k (by omega) i (by omega) (h4.symm.trans h2)
  omega
theorem AF.t1 (h:AF k out r L):1∈Z.typesAt L (path (atN k)):=by
 obtain⟨x,h1,h2,h3⟩:=h.one
 exact Z.mem_typesAt.2 ⟨x,h1,h2,h3⟩
theorem AF.d (h:AF k out r L) (hk:k<=11) {i:Nat} (hi:i<k):(setP L (atN i) 5).d[0]?=some (N.wire (toN k out r i)):=by
 have h1:=(setsP_on (h.t5 hi)).2
 have h0:0<(Z.setAt L (path (atN i)) 5).length:=by
  have h2:0<((Z.setAt L (path (atN i)) 5).map (·.d)).length:=h1
  rwa [List.length_map] at h2
 show ((Z.setAt L (path (atN i)) 5).map (·.d))[0]?=_
 rw[List.getElem?_map,List.getElem?_eq_getElem h0]
 have hx:=List.getElem_mem h0
 obtain⟨h3,h4,h5⟩:=Z.mem_setAt.1 hx
 rcases h.mem _ h3 with⟨i',h6,h7,_,h8⟩ | ⟨_,h6⟩
 ·have:=atN_inj i' (by omega) i (by omega) (h7.symm.trans h4)
  subst this
  show some (Z.setAt L (path (atN i')) 5)[0].d=_
  rw[h8]
 ·omega
end
def GoodA (k:Nat) (out:Bool) (r:Nat) (F:FR):Prop :=
 if (0<k/\(out=true\/r % 3=0))\/8<=k then F.kind=1/\F.M.length=min k 8 else F.kind=0/\F.M.length=k+1 /\ ∃ p,F.M[k]?=some p/\p.t=1
theorem runs_alias {k:Nat} {out:Bool} {r:Nat} {L:List Z.R} (h:AF k out r L) (hk:k<=11) : ∀ m i (M:List PSet),i+m=k->i<=7->(i=k -> ¬ (0<k/\(out=true\/r % 3=0)))->M.length=i -> ∃ F,Runs L 1 [exL] (atN i) ((List.range i).map atN) M [] F/\GoodA k out r F:=by
 intro m
 induction m with
 | zero =>
  intro i M him hi hb hM
  obtain rfl:i=k:=by omega
  have e:=(setsP_on h.t1).1
  refine⟨_,Runs.ans (fun d _ hc=>hc.2 (h.cut _)) (.own (fun e=>by have:=h.t1;rw[e] at this;cases this)) (by decide) h.t1,?_⟩
  unfold GoodA
  rw[if_neg (fun hc=>by rcases hc with hc | hc;exact hb rfl hc;omega),e]
  refine⟨rfl,by simp[hM],PSet.as (N.lowN (atN i)) (setP L (atN i) 1),?_,rfl⟩
  show (M ++ [PSet.as (N.lowN (atN i)) (setP L (atN i) 1)])[i]?=_
  rw[<- hM];simp
 | succ m ih =>
  intro i M him hi hb hM
  have hik:i<k:=by omega
  have hto:=toN_ok (out:=out) (r:=r) hik hk
  have hown:OwnerIs L (atN i) [] (atN i) [] := .own (fun e=>by have:=h.t5 hik;rw[e] at this;cases this)
  have e:=(setsP_on (h.t5 hik)).1
  have hstop:fol [exL] ((List.range i).map atN) (atN i) (M.length+1) (tg5 (N.wire (toN k out r i)))=false->((0<k/\(out=true\/r % 3=0))\/8<=k)->i+1=min k 8 -> ∃ F,Runs L 1 [exL] (atN i) ((List.range i).map atN) M [] F/\GoodA k out r F:=fun hf hbad hmin=>by
   refine⟨_,Runs.stop (fun d _ hc=>hc.2 (h.cut _)) hown (by decide) (h.no1 hk hik) (h.t5 hik) (h.d hk hik) hf,?_⟩
   unfold GoodA
   rw[if_pos hbad,e]
   exact⟨rfl,by simp[hM,hmin]⟩
  rw[hto.2.1] at hstop
  have hlast:(i+1=k/\(out=true\/r % 3=0))\/toN k out r i=atN (i+1) /\ ¬ (i+1=k/\(out=true\/r % 3=0)):=by
   unfold toN
   by_cases h1:i+1=k/\r % 3=0
   ·exact Or.inl ⟨h1.1,Or.inr h1.2⟩
   ·by_cases h2:i+1=k/\out=true
    ·exact Or.inl ⟨h2.1,Or.inl h2.2⟩
    ·refine Or.inr ⟨by rw[if_neg h1,if_neg h2],fun ⟨h3,h4⟩=>?_⟩
     rcases h4 with h4 | h4
     ·exact h2 ⟨h3,h4⟩
     ·exact h1 ⟨h3,h4⟩
  rcases hlast with⟨hl,hs⟩ | ⟨hl,hs⟩
  ·refine hstop ?_ (Or.inl ⟨by omega,hs⟩) (by omega)
   unfold fol
   unfold toN
   by_cases h3:r % 3=0
   ·rw[if_pos ⟨hl,h3⟩,ringN i (by omega) (r % k) (by have:=Nat.mod_lt r (show 0<k by omega);omega)]
    simp
   ·rw[if_neg (fun hc=>h3 hc.2),if_pos ⟨hl,by rcases hs with h4 | h4;exact h4;exact absurd h4 h3⟩,farN_chk.2.2]
    simp
  ·rw[hl] at hstop
   have hc:=chainN i (by omega)
   rcases Nat.lt_or_ge (i+1) 8 with h8 | h8
   ·have hf:fol [exL] ((List.range i).map atN) (atN i) (M.length+1) (tg5 (N.wire (toN k out r i)))=true:=by
     rw[hto.2.1,hl]
     unfold fol
     rw[hM,hc.1,hc.2]
     simp[h8]
    obtain⟨F,hF,hG⟩:=ih (i+1) (M++(setsP L (atN i) [5]).map (PSet.as (N.lowN (atN i)))) (by omega) (by omega) (fun h1 h2=>hs ⟨h1,h2.2⟩) (by rw[e];simp[hM])
    refine⟨F,Runs.go (fun d _ hc=>hc.2 (h.cut _)) hown (by decide) (h.no1 hk hik) (h.t5 hik) (h.d hk hik) hf ?_,hG⟩
    rw[hto.2.1,hl]
    have er:(List.range i).map atN ++ [atN i]=(List.range (i+1)).map atN:=by rw[List.range_succ,List.map_append];rfl
    rw[er]
    exact hF
   ·refine hstop ?_ (Or.inr (by omega)) (by omega)
    unfold fol
    rw[hM]
    simp[show ¬ i+1<8 by omega]
end Go.Proofs.YtmbcegljmhcdeaaGreat
namespace Go.Proofs.YtmbcegljmhcdeaaGreat
set_option maxRecDepth 5000
open Go.RowKit
set_option maxRecDepth 5000 in
theorem mPut_any (w:World) (base m:Nat) (A:List (List UInt8)) (L:List Z.R) (hR:RZAt w base m A L) (hbase:base<=w.heap.size) (hA:Hid (N.Small A)) (n:List (List UInt8)) (na:Option Addr) (nl nc:Nat) (hl:Hid (n.length=nl)) (hnc:nl<=nc) (hs:SlS w na n) (hm:Hid (N.Small n)) (t cl ttl:Nat) (d:List UInt8) (da:Option Addr) (dl dc:Nat) (hdl:Hid (d.length=dl)) (hsd:SlL w da d) (hnd:da=none->dc=0) (hdc:dl<=dc) (h8:dl<=8192) (ht:t<65536) (httl:ttl<4294967296) :
 Calls Tryz.prog 45 #[.pointer (some ⟨m,0,none⟩),recV na nl nc t cl ttl da dl dc] w fun e w'=>e = .returned (.tuple #[.bool (Z.putR A L n t cl ttl d).1,.int .i64 ((Z.putR A L n t cl ttl d).2.1:Int)])/\RZAt w' base m A (Z.putR A L n t cl ttl d).2.2/\RM base m w w':=by
 by_cases hbad:N.chk n≠0\/N.within n A=false
 ·have e:Z.putR A L n t cl ttl d=(false,110,L):=by unfold Z.putR;rw[if_pos hbad]
  rw[e]
  exact mPut_name w base m A L hR hA n na nl nc hl hnc hs hm t cl ttl d da dl dc hdl hsd hnd hdc h8 hbad
 ·have hgood:N.chk n=0:=Classical.byContradiction fun h=>hbad (Or.inl h)
  have hwin:N.within n A=true:=by
   cases h:N.within n A with
   | true=>rfl
   | false=>exact absurd (Or.inr h) hbad
  by_cases hcl:cl≠1\/cn t d=none
  ·have e:Z.putR A L n t cl ttl d=(false,50,L):=by
    unfold Z.putR;rw[if_neg hbad]
    by_cases h:cl≠1
    ·rw[if_pos h]
    ·rw[if_neg h,hcl.resolve_left h]
   rw[e]
   exact mPut_data w base m A L hR hA n na nl nc hl hnc hs hm t cl ttl d da dl dc hdl hsd hnd hdc h8 hgood hwin hcl
  ·have hc1:cl=1:=Classical.byContradiction fun h=>hcl (Or.inl h)
   cases hcn:cn t d with
   | none=>exact absurd (Or.inr hcn) hcl
   | some c=>exact mPut_good w base m A L hR hA n na nl nc hl hnc hs hm t cl ttl d da dl dc hdl hsd hnd hdc h8 hbase ht httl c hgood hwin hc1 hcn _ (by unfold Z.putR;rw[if_neg hbad,if_neg (by simp[hc1]),hcn])
end Go.Proofs.YtmbcegljmhcdeaaGreat
namespace Go.Proofs.YtmbcegljmhcdeaaGreat
set_option maxRecDepth 5000
open Go.RowKit
open Go.ChangeShapes Go.WideShapes Go.ChangeAt Go.WideMaps Go.WideElems
theorem ownK:ownKnob Tryz.prog.godebug=none:=by kernel_rfl
theorem u8_of {a:Int} (h:(Lit.int .u8 a).wf=true) : ∃ b:Nat,a=(b:Int)/\b<256:=by
 have h1:IntKind.u8.min=0:=by decide
 have h2:IntKind.u8.max=255:=by decide
 simp only[Lit.wf,Bool.and_eq_true,decide_eq_true_eq,h1,h2] at h
 exact⟨a.toNat,by omega,by omega⟩
open Go.RowKit
theorem has_nil (p:List (List UInt8)):Z.has [] p=false:=rfl
end Go.Proofs.YtmbcegljmhcdeaaGreat
namespace Go.Proofs.YtmbcegljmhcdeaaGreat
set_option maxRecDepth 5000
open Go.RowKit
set_option maxRecDepth 5000 in
theorem RZAt.empty (W:World) (base:Nat) (a:Option Addr) (n c:Nat) (hn:n=Z.exA.length) (hs:SlS W a Z.exA) (hc:n<=c):RZAt (W.alloc (.cells #[.slice a n c,.slice none 0 0] 33)) base W.heap.size Z.exA []:=by
 subst hn
 exact⟨⟨a,c,none,0,RowAt.new W _ _,hs.below ((Below.refl _ W).alloc (Nat.le_refl _) _) (Nat.le_refl _),hc,RL.nil _ _ _ _ (fun _=>rfl)⟩,List.Pairwise.nil,fun x hx=>(by cases hx),Nat.zero_le _,fun x hx=>(by cases hx),fun x hx=>(by cases hx),fun x hx=>(by cases hx)⟩
end Go.Proofs.YtmbcegljmhcdeaaGreat
