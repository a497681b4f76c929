/- signethelp.Blobs, Types, Set of the same. Made by ghst.py. -/
import Derived.Test.YtbkegikdmmnkaaaGreatRpp
import Derived.Test.YtbkegikdmmnkaaaGreatRefG
import Derived.Deep.Cut
import Derived.Test.YtbkegikdmmnkaaaGreatNdr
import Derived.Test.YtbkegikdmmnkaaaGreatRefK
import Derived.Test.YtbkegikdmmnkaaaGreatZpw
import Derived.Test.YtbkegikdmmnkaaaGreatZpl
namespace Go.Proofs.YtbkegikdmmnkaaaGreat
set_option maxRecDepth 5000
open Go.RowKit
set_option maxRecDepth 5000 in
theorem KX.set {w:World} {g:Nat} {et:TypeId} {c:Array Value} (h:RowAt w g et c) (j:Nat) (v:Value):KX et w (w.setCell ⟨g,j,none⟩ v):=⟨by simp,fun b cs t fr hb ht=>by
 have hne:b≠g:=fun e=>by
  have h:w.heap[g]?=_:=h
  rw[e,h] at hb;injection hb with hb;injection hb with _ hb _;exact ht hb.symm
 exact (heap_setCell_other _ _ _ _ hne).trans hb⟩
set_option maxRecDepth 100000 in
set_option maxHeartbeats 1500000 in
theorem mSet_any (w:World) (base m:Nat) (A:List (List UInt8)) (L:List Z.R) (hR:RZAt w base m A L) (n:List (List UInt8)) (ao:Option Addr) (len cap:Nat) (hl:Hid (n.length=len)) (hs:SlS w ao n) (hm:Hid (N.Small n)) (t:Nat) :
 Calls Tryz.prog 24 #[.pointer (some ⟨m,0,none⟩),.slice ao len cap,.int .u16 (t:Int)] w fun e w'=>SetR w L n len t e w':=by
 obtain⟨aa,ac,a,c,hrow,_,_,hRL⟩:=hR.row
 obtain⟨k,hk⟩ : ∃ k,k=L.length:=⟨_,rfl⟩
 rw[<- hk] at hrow
 have hkb:k<=2000:=by rw[hk];exact hR.num
 obtain⟨f,hf⟩ : ∃ f:Z.R->Bool,f=fun x=>decide (x.p=path n) && decide (x.t=t):=⟨_,rfl⟩
 have hd:Z.setAt L (path n) t=L.filter f:=by rw[hf];rfl
 unfold SetR
 rw[hd]
 obtain⟨w1,hw1⟩ : ∃ w1,w1=w.alloc (.cells #[.slice none 0 0,.int .u16 0,.int .u32 0,.slice none 0 0] 54):=⟨_,rfl⟩
 have hb1:Below w.heap.size w w1:=by rw[hw1];exact (Below.refl _ w).alloc (Nat.le_refl _) _
 have hr6:RowAt w1 w.heap.size 54 #[.slice none 0 0,.int .u16 0,.int .u32 0,.slice none 0 0]:=by rw[hw1];exact RowAt.new w _ _
 have hlow:=rLower_any n ao len cap w1 hl (hs.below hb1 (Nat.le_refl _)) hm
 have HR:=hide hR
 have HRL:=hide hRL
 have HROW:=hide hrow
 have HK:=hide hk
 have HF:=hide hf
 have HS:=hide hs
 have HW1:=hide hw1
 have HB1:=hide hb1
 have HR6:=hide hr6
 clear hR hRL hrow hk hs hd hf hw1 hb1 hr6
 go_enter Tryz.func24,Tryz.ntmps24
 go_upto_region 2 with (go_at_call 60;rw[<- HW1.out];refine hlow.mono ?_;rintro e w2 ⟨v2,rfl,hO2,hB2⟩;obtain⟨na,nc,hv2,hT2,hn2,hc2⟩:=hO2.ty;rw[N.lowN_len,hl.out] at hv2 hc2;subst hv2)
 have hz12:=hB2.size
 have hlt1:=HR6.out.lt
 have hr8:=RowAt.new w2 54 #[.slice na len nc,.int .u16 (t:Int),.int .u32 0,.slice none 0 0]
 obtain⟨w3,hw3⟩ : ∃ w3,w3=w2.alloc (.cells #[.slice na len nc,.int .u16 (t:Int),.int .u32 0,.slice none 0 0] 54):=⟨_,rfl⟩
 have hb23:Below w2.heap.size w2 w3:=by rw[hw3];exact (Below.refl _ w2).alloc (Nat.le_refl _) _
 have hb13:=hB2.trans (hb23.mono hz12)
 have hb03:=HB1.out.trans (hb13.mono HB1.out.size)
 have hT3:=hT2.kb (KB.of_below hb23)
 have hr63:=HR6.out.below hb13 hlt1
 rw[<- hw3] at hr8 ⊢
 obtain⟨g8,hg8⟩ : ∃ g8,g8=w2.heap.size:=⟨_,rfl⟩
 rw[<- hg8] at hr8 ⊢
 have hg8b:w.heap.size<g8:=by omega
 clear hw3 hb23 hb13 hB2 hO2 hT2 hg8 hz12 hlt1
 go_wp2
 go_loopw [9] (fun i wr => ∃ (j tt:Nat) (v:Value),i = .int .i64 (j:Int)/\j<=k/\Below w.heap.size w wr/\RowAt wr g8 54 #[.slice na len nc,.int .u16 (t:Int),.int .u32 (tt:Int),v]/\RowAt wr w.heap.size 54 #[.slice none 0 0,.int .u16 0,.int .u32 0,.slice none 0 0]/\TyS wr na (N.lowN n)/\OwnL 37 1 EB wr w.heap.size v (((L.take j).filter f).map (·.d))/\((L.take j).filter f ≠ []->tt=Z.ttlAt L (path n) t)) (fun i _=>k - (intOf i).toNat)
 case atStart=>exact⟨0,0,.slice none 0 0,rfl,by omega,hb03,hr8,hr63,hT3,by simpa using OwnL.nil 37 1 EB w3 w.heap.size,fun h=>absurd (by simp) h⟩
 case round =>
  obtain⟨j,tt,v,rfl,hj,hB,h8,h6,hT,hO,htt⟩:=hrel
  have hrr:=HROW.out.below hB HROW.out.lt
  have y1:wr.cell? ⟨m,1,none⟩=some (.slice a k c):=hrr.cell 1
  have HB:=hide hB
  have HO:=hide hO
  have HRR:=hide hrr
  have H8:=hide h8
  have H6:=hide h6
  have HT:=hide hT
  have HTT:=hide htt
  clear hB hO hrr h8 h6 hT htt hb03 hr8 hr63 hT3
  by_cases hlt:j<k
  ·have hjL:j<L.length:=by have:=HK.out;omega
   obtain⟨x,hx⟩ : ∃ x,L[j]?=some x:=⟨_,List.getElem?_eq_getElem hjL⟩
   have hxL:x∈L:=List.mem_of_getElem? hx
   obtain⟨g,xa,xc,da,dc,rfl,q0,q1,q2,q3,q4,hTx,hxc,_,hTd,hdn,hdc⟩:=(HRL.out.bel HB.out).at_ hx
   have hsame:=rSame_any x.p.reverse n xa ao x.p.length len xc cap wr (hide (List.length_reverse)) hl hTx.1 (HS.out.below HB.out (Nat.le_refl _)) (by have:=(HR.out.okk x hxL).2.2.2.2;omega) (Sane.small (HR.out.small hxL)) (Sane.small hm.out)
   rw[same_path (HR.out.lows x hxL)] at hsame
   have hsn:=keep_snoc L j x f hx
   have hfx:f x=(decide (x.p=path n) && decide (x.t=t)):=by rw[HF.out]
   have hgl:=RL.blk (HRL.out.bel HB.out) (by omega)
   obtain⟨pl,hpl⟩ : ∃ pl,pl=x.p.length:=⟨_,rfl⟩
   obtain⟨dl,hdl⟩ : ∃ dl,dl=x.d.length:=⟨_,rfl⟩
   obtain⟨xt,hxt⟩ : ∃ xt,xt=x.t:=⟨_,rfl⟩
   obtain⟨xl,hxl⟩ : ∃ xl,xl=x.ttl:=⟨_,rfl⟩
   rw[<- hpl] at q0 hsame
   rw[<- hdl] at q4 hdc
   rw[<- hxt] at q1
   rw[<- hxl] at q3
   obtain⟨sb,hsb⟩ : ∃ sb,sb=decide (x.p=path n):=⟨_,rfl⟩
   rw[<- hsb] at hsame hfx
   have HSN:=hide hsn
   have HFX:=hide hfx
   have HSB:=hide hsb
   have HXT:=hide hxt
   have HXL:=hide hxl
   have HDL:=hide hdl
   have HX:=hide hx
   have HGL:=hide hgl
   have HTD:=hide hTd
   have HGW:Hid (g<w.heap.size):=hide (RL.blk HRL.out (by omega))
   have HQ4:Hid (w.cell? ⟨g,j*5+4,none⟩=some (.slice da dl dc)):=hide (by rw[<- q4];exact (World.cell?_of_block (HB.out.block _ HGW.out)).symm)
   have HEB:Hid (∀ W,Below w.heap.size w W->EB W x.d [.slice da dl dc]):=hide fun W hW=>by
    obtain⟨g',na',nc',da',dc',e1,_,_,_,_,e4,_,_,_,hTd0,hdn0,hdc0⟩:=HRL.out.at_ hx
    injection e1 with e1;injection e1 with e1 _ _;subst e1
    rw[HQ4.out] at e4
    injection e4 with e4;injection e4 with e5 e6 e7
    subst e5;subst e7
    exact⟨da,dc,by rw[<- hdl],hTd0.kb (KB.of_below hW),hdn0,by rw[<- hdl];exact hdc⟩
   have HLN:Hid (((L.take j).filter f).length<=1000000):=hide (by
    have h1:=List.length_filter_le f (L.take j)
    rw[List.length_take] at h1
    omega)
   clear hx hpl hdl hxt hxl hsb hTx hTd hsn hfx hxc hgl q2
   by_cases ht:xt=t
   ·have htb:((xt:Int) == (t:Int))=true:=by simp[ht]
    cases sb with
    | false =>
     have hff:f x=false:=by rw[HFX.out];rfl
     rw[hff,if_neg (by simp),List.append_nil] at HSN
     clear ht
     go_wp2_with (go_at_call 57;refine hsame.mono ?_;rintro e w2 ⟨rfl,hB2⟩)
     exact⟨⟨j+1,tt,v,by go_num,by omega,HB.out.trans (hB2.mono HB.out.size),H8.out.below hB2 H8.out.lt,H6.out.below hB2 H6.out.lt,HT.out.kb (KB.of_below hB2),by rw[HSN.out];exact HO.out.bel (fun _ _ h=>h.kb (KB.of_below hB2)) hB2,by rw[HSN.out];exact HTT.out⟩,by simp[intOf];omega⟩
    | true =>
     have hft:f x=true:=by rw[HFX.out, <- HXT.out,ht];simp
     rw[hft,if_pos rfl] at HSN
     have hxttl:Z.ttlAt L (path n) t=xl:=by
      have h1:=ttlAt_of HR.out hxL
      have h2:x.p=path n:=by simpa using HSB.out.symm
      rw[h2, <- HXT.out,ht] at h1
      rw[h1,HXL.out]
     have HXTT:=hide hxttl
     clear ht hxttl hft
     have hjk:(j:Int)<(k:Int):=by omega
     go_wp2_with (go_at_call 57;refine hsame.mono ?_;rintro e w2 ⟨rfl,hB2⟩;have h82:=H8.out.below hB2 H8.out.lt;have p3:=cell_bm hB2 q3 HGL.out;have p4:=cell_bm hB2 q4 HGL.out;have z1:w2.cell? ⟨m,1,none⟩=some (.slice (some ⟨g,0,none⟩) k c):=(HRR.out.below hB2 HRR.out.lt).cell 1;have k2:=h82.cell 2;have f2:w2.frozen? ⟨g8,2,none⟩=false:=h82.frozen 2;clear h82)
     clear p3 p4 z1 k2 f2
     have HB7:=hide ((HB.out.trans (hB2.mono HB.out.size)).setCell (p:=⟨g8,2,none⟩) (Nat.le_of_lt hg8b) (.int .u32 (xl:Int)))
     have h87:RowAt (w2.setCell ⟨g8,2,none⟩ (.int .u32 (xl:Int))) g8 54 #[.slice na len nc,.int .u16 (t:Int),.int .u32 (xl:Int),v]:=(H8.out.below hB2 H8.out.lt).set 2 (.int .u32 (xl:Int))
     have h67:=(H6.out.below hB2 H6.out.lt).other ⟨g8,2,none⟩ (.int .u32 (xl:Int)) (Nat.ne_of_lt hg8b)
     have ht7:=(HT.out.kb (KB.of_below hB2)).kb (KB.setCell (H8.out.below hB2 H8.out.lt) (by decide) 2 (.int .u32 (xl:Int)))
     have ho7:=(HO.out.bel (fun _ _ h=>h.kb (KB.of_below hB2)) hB2).kx (KX.set (H8.out.below hB2 H8.out.lt) 2 (.int .u32 (xl:Int))) (fun _ _ h=>h.kb (KB.setCell (H8.out.below hB2 H8.out.lt) (by decide) 2 (.int .u32 (xl:Int)))) (by decide)
     obtain⟨w7,hw7⟩ : ∃ w7,w7=w2.setCell ⟨g8,2,none⟩ (.int .u32 (xl:Int)):=⟨_,rfl⟩
     rw[<- hw7] at HB7 h87 h67 ht7 ho7 ⊢
     clear hw7
     have SAll:Hid (∀ w',Below w.heap.size w w'->w'.cell? ⟨g8,3,none⟩=some v->w'.cell? ⟨m,1,none⟩=some (.slice (some ⟨g,0,none⟩) k c)/\w'.cell? ⟨g,j*5+4,none⟩=some (.slice da dl dc)/\w'.cell? ⟨g8,3,none⟩=some v):=hide fun W hW h3=>⟨(HROW.out.below hW HROW.out.lt).cell 1,(by rw[<- HQ4.out];exact World.cell?_of_block (hW.block _ HGW.out)),h3⟩
     have bd:Below w7.heap.size w7 w7.drew:=(Below.refl _ w7).drew
     have HBd:=hide (HB7.out.trans (bd.mono HB7.out.size))
     have H8d:=hide (h87.below bd h87.lt)
     have H6d:=hide (h67.below bd h67.lt)
     have HTd2:=hide (ht7.kb (KB.of_below bd))
     have HOd:=hide (ho7.bel (fun _ _ h=>h.kb (KB.of_below bd)) bd)
     have SA:=hide (SAll.out _ HBd.out (H8d.out.cell 3))
     refine wp_region_X (S:=fun w'=>w'.cell? ⟨m,1,none⟩=some (.slice (some ⟨g,0,none⟩) k c)/\w'.cell? ⟨g,j*5+4,none⟩=some (.slice da dl dc)/\w'.cell? ⟨g8,3,none⟩=some v) (jS:=13) (by kernel_rfl) ?_
     clear h87 h67 ht7 ho7 bd HB7
     generalize w7.drew=w1d at HBd H8d H6d HTd2 HOd SA ⊢
     refine tk gt0 SA.out ?_
     refine tk gt1 SA.out ?_
     refine tk gt2 SA.out ?_
     refine tk gt3 SA.out ?_
     refine tk gt4 SA.out ?_
     refine tk gt5 SA.out ?_
     refine tk gt6 SA.out ?_
     refine tk gt7 SA.out ?_
     refine tk gt8 SA.out ?_
     refine tk gt9 SA.out ?_
     refine rdy gt10 (fun K hKK=>?_)
     go_simp
     have hone:=RowAt.new w1d 37 #[.slice da dl dc]
     have HB8:Hid (Below w.heap.size w (w1d.alloc (.cells #[.slice da dl dc] 37))):=hide (HBd.out.alloc HBd.out.size _)
     have HO8:=hide (HOd.out.bel (fun _ _ h=>h.kb (KB.alloc _ _)) ((Below.refl _ w1d).alloc (Nat.le_refl _) (.cells #[.slice da dl dc] 37)))
     have H88:=hide (H8d.out.alloc (.cells #[.slice da dl dc] 37))
     have H68:=hide (H6d.out.alloc (.cells #[.slice da dl dc] 37))
     have HT8:=hide (HTd2.out.kb (KB.alloc w1d (.cells #[.slice da dl dc] 37)))
     have SB:=hide (SAll.out _ HB8.out (H88.out.cell 3))
     have HONE:=hide hone
     refine kk hKK (Or.inr SB.out) ?_
     clear hKK SA hone HOd H8d H6d HTd2
     refine rdy gt11 (fun K hKK=>?_)
     refine step_appL rfl (.tmp 55) (.tmp 64) 52 rfl Tryz.underlying52 (.slice none 0 0) 24 (info_parts infoBs) rfl (by decide) (by decide) (by decide) w.heap.size v (((L.take j).filter f).map (·.d)) (by rfl) HO8.out ⟨w1d.heap.size,0,none⟩ 1 x.d [.slice da dl dc] (by rfl) (by exact one_cell _ _ #[.slice da dl dc] 37 HONE.out) rfl (by simp[Value.oneCell']) (HEB.out _ (HB8.out)) (fun _ _ _ k h=>h.kb k) (by rw[List.length_map];exact HLN.out) (by exact HB8.out.size) ?_
     intro v9 w9 hO9 hK9 hB9
     obtain⟨a9,c9,hv9,_,_⟩:=hO9.slice
     obtain⟨q9,hq9⟩ : ∃ q9,v9 = .slice a9 q9 c9:=⟨_,hv9⟩
     subst hq9
     clear hv9
     have HB9:=hide (HB8.out.trans hB9)
     have HO9:=hide hO9
     have h89:=hK9.row H88.out (by decide)
     have H69:=hide (hK9.row H68.out (by decide))
     have HT9:=hide (HT8.out.kb (hK9.kb (by decide)))
     have SC:=hide (SAll.out _ HB9.out (h89.cell 3))
     have p3:w9.cell? ⟨g8,3,none⟩=some v:=h89.cell 3
     have f3:w9.frozen? ⟨g8,3,none⟩=false:=h89.frozen 3
     have H89:=hide h89
     refine kk hKK (Or.inr SC.out) ?_
     clear hKK SB hO9 hK9 hB9 h89 HO8 H88 H68 HT8
     refine tk gt12 SC.out ?_
     refine rdy gt13 (fun K hKK=>?_)
     go_simp
     refine kk hKK (Or.inl rfl) ?_
     clear hKK
     refine wpAnyX_done (by kernel_rfl) ?_ _
     have HBE:=hide (HB9.out.setCell (p:=⟨g8,3,none⟩) (Nat.le_of_lt hg8b) (.slice a9 q9 c9))
     have h8e:RowAt (w9.setCell ⟨g8,3,none⟩ (.slice a9 q9 c9)) g8 54 #[.slice na len nc,.int .u16 (t:Int),.int .u32 (xl:Int),.slice a9 q9 c9]:=H89.out.set 3 (.slice a9 q9 c9)
     have h6e:=H69.out.other ⟨g8,3,none⟩ (.slice a9 q9 c9) (Nat.ne_of_lt hg8b)
     have hte:=HT9.out.kb (KB.setCell H89.out (by decide) 3 (.slice a9 q9 c9))
     have hoe:=HO9.out.kx (KX.set H89.out 3 (.slice a9 q9 c9)) (fun _ _ h=>h.kb (KB.setCell H89.out (by decide) 3 (.slice a9 q9 c9))) (by decide)
     have HE8:=hide h8e
     have HE6:=hide h6e
     have HET:=hide hte
     have HEO:=hide hoe
     clear h8e h6e hte hoe p3 f3
     go_wp2
     go_roundw
     case rel=>exact⟨j+1,xl,.slice a9 q9 c9,by go_num,by omega,HBE.out,HE8.out,HE6.out,HET.out,by rw[HSN.out,List.map_append];exact HEO.out,fun _=>HXTT.out.symm⟩
     case measure=>simp[intOf];omega
   ·have htb:((xt:Int) == (t:Int))=false:=by simp;omega
    have hff:f x=false:=by
     rw[HFX.out, <- HXT.out]
     cases sb <;> simp[ht]
    rw[hff,if_neg (by simp),List.append_nil] at HSN
    clear ht
    go_wp2
    exact⟨⟨j+1,tt,v,by go_num,by omega,HB.out,H8.out,H6.out,HT.out,by rw[HSN.out];exact HO.out,by rw[HSN.out];exact HTT.out⟩,by simp[intOf];omega⟩
  ·obtain rfl:j=k:=by omega
   have e:L.take j=L:=by rw[HK.out];exact List.take_length
   rw[e] at HO HTT
   obtain⟨a2,c2,hv,_,_⟩:=HO.out.slice
   obtain⟨q,hq⟩ : ∃ q,q=((L.filter f).map (·.d)).length:=⟨_,rfl⟩
   rw[<- hq] at hv
   subst hv
   have k3:=H8.out.cell 3
   have HQ:=hide hq
   clear e hq
   by_cases hq0:q=0
   ·have hnil:L.filter f = []:=List.eq_nil_of_length_eq_zero (by have:=HQ.out;rw[List.length_map] at this;omega)
    have hqb:((q:Int) == 0)=true:=by simp[hq0]
    have c0:=H6.out.cell 0
    have c1:=H6.out.cell 1
    have c2':=H6.out.cell 2
    have c3:=H6.out.cell 3
    have f0:=H6.out.frozen 0
    have f1:=H6.out.frozen 1
    have f2:=H6.out.frozen 2
    have f3:=H6.out.frozen 3
    have HNIL:=hide hnil
    clear hnil
    subst hq0
    go_wp2
    have r1:RowAt _ w.heap.size 54 #[.slice none 0 0,.int .u16 0,.int .u32 0,.slice none 0 0]:=H6.out.set 0 (.slice none 0 0)
    have r2:RowAt _ w.heap.size 54 #[.slice none 0 0,.int .u16 0,.int .u32 0,.slice none 0 0]:=r1.set 1 (.int .u16 0)
    have r3:RowAt _ w.heap.size 54 #[.slice none 0 0,.int .u16 0,.int .u32 0,.slice none 0 0]:=r2.set 2 (.int .u32 0)
    have r4:RowAt _ w.heap.size 54 #[.slice none 0 0,.int .u16 0,.int .u32 0,.slice none 0 0]:=r3.set 3 (.slice none 0 0)
    refine bodyPost_ret (v := .tuple #[asetZ,.bool false]) (results_as Tryz.results24 _ _ w.heap.size _ rfl rfl r4) rfl ⟨(((HB.out.setCell (p:=⟨w.heap.size,0,none⟩) (Nat.le_refl _) _).setCell (p:=⟨w.heap.size,1,none⟩) (Nat.le_refl _) _).setCell (p:=⟨w.heap.size,2,none⟩) (Nat.le_refl _) _).setCell (p:=⟨w.heap.size,3,none⟩) (Nat.le_refl _) _,Or.inl ⟨HNIL.out,rfl⟩⟩
   ·have hne:L.filter f ≠ []:=fun h=>hq0 (by rw[HQ.out,h];rfl)
    have htt:=HTT.out hne
    have hqb:((q:Int) == 0)=false:=by simp;omega
    have hqi : ¬ ((q:Int)=0):=by omega
    have d0:=H8.out.cell 0
    have d1:=H8.out.cell 1
    have d2:=H8.out.cell 2
    have c0:=H6.out.cell 0
    have c1:=H6.out.cell 1
    have c2':=H6.out.cell 2
    have c3:=H6.out.cell 3
    have f0:=H6.out.frozen 0
    have f1:=H6.out.frozen 1
    have f2:=H6.out.frozen 2
    have f3:=H6.out.frozen 3
    have HNE:=hide hne
    have HTE:=hide htt
    have hg86 : ¬ (g8=w.heap.size):=by omega
    clear hne htt
    go_wp2
    have r1:RowAt _ w.heap.size 54 #[.slice na len nc,.int .u16 0,.int .u32 0,.slice none 0 0]:=H6.out.set 0 (.slice na len nc)
    have r2:RowAt _ w.heap.size 54 #[.slice na len nc,.int .u16 (t:Int),.int .u32 0,.slice none 0 0]:=r1.set 1 (.int .u16 (t:Int))
    have r3:RowAt _ w.heap.size 54 #[.slice na len nc,.int .u16 (t:Int),.int .u32 (tt:Int),.slice none 0 0]:=r2.set 2 (.int .u32 (tt:Int))
    have r4:RowAt _ w.heap.size 54 #[.slice na len nc,.int .u16 (t:Int),.int .u32 (tt:Int),.slice a2 q c2]:=r3.set 3 (.slice a2 q c2)
    have k1:=KB.setCell H6.out (by decide) 0 (.slice na len nc)
    have k2:=KB.setCell r1 (by decide) 1 (.int .u16 (t:Int))
    have k3':=KB.setCell r2 (by decide) 2 (.int .u32 (tt:Int))
    have k4:=KB.setCell r3 (by decide) 3 (.slice a2 q c2)
    have kk4:=((k1.trans k2).trans k3').trans k4
    have x4:=(((KX.set H6.out 0 (.slice na len nc)).trans (KX.set r1 1 (.int .u16 (t:Int)))).trans (KX.set r2 2 (.int .u32 (tt:Int)))).trans (KX.set r3 3 (.slice a2 q c2))
    rw[<- HTE.out]
    refine bodyPost_ret (v := .tuple #[.agg #[.slice na len nc,.int .u16 (t:Int),.int .u32 (tt:Int),.slice a2 q c2],.bool true]) (results_as Tryz.results24 _ _ w.heap.size _ rfl rfl r4) rfl ⟨(((HB.out.setCell (p:=⟨w.heap.size,0,none⟩) (Nat.le_refl _) _).setCell (p:=⟨w.heap.size,1,none⟩) (Nat.le_refl _) _).setCell (p:=⟨w.heap.size,2,none⟩) (Nat.le_refl _) _).setCell (p:=⟨w.heap.size,3,none⟩) (Nat.le_refl _) _,Or.inr ⟨HNE.out,na,nc,_,rfl,HT.out.kb kk4,hc2,HO.out.kx x4 (fun _ _ h=>h.kb kk4) (by decide)⟩⟩
end Go.Proofs.YtbkegikdmmnkaaaGreat
namespace Go.Proofs.YtbkegikdmmnkaaaGreat
set_option maxRecDepth 5000
open Go.RowKit
def cutL (A:List (List UInt8)) (L:List Z.R) (q:List (List UInt8)) (d:Nat):Prop:=A.length<d/\Z.setAt L (q.take d) 2 ≠ []
def CutL (w:World) (A:List (List UInt8)) (L:List Z.R) (n:List (List UInt8)) (e:Ending) (w':World):Prop :=
 Below w.heap.size w w'/\((e = .returned (.tuple #[.slice none 0 0,.bool false]) /\ ∀ d,d<=n.length -> ¬ cutL A L (path n) d) \/
  ∃ (d:Nat) (na:Option Addr) (c:Nat),d<=n.length/\cutL A L (path n) d/\(∀ j,j<d -> ¬ cutL A L (path n) j)/\e = .returned (.tuple #[.slice na d c,.bool true])/\SlS w' na ((N.lowN n).drop (n.length - d)))
theorem zcut_live {X:Nat->Prop} {w:World} {Zb:Nat} {A:List (List UInt8)} {L:List Z.R} {K:Nat} (Z0:ZLive X w Zb A L K) (hA:A.length<=1000000) (n:List (List UInt8)) (ao:Option Addr) (len cap:Nat) (hl:Hid (n.length=len)) (hs:SlS w ao n) (hm:Hid (N.Small n)) :
 Calls Tryz.prog 26 #[.pointer (some ⟨Zb,0,none⟩),.slice ao len cap] w fun e w'=>CutL w A L n e w':=by
 obtain⟨ρ,G,C,Zx,hX,hth⟩:=Z0
 have hit : ∀ d,cutHit A C (path n) d↔cutL A L (path n) d:=fun d=>by
  unfold cutHit cutL
  have h:=Z.Of.none_iff Zx.of ((path n).take d) 2
  rw[Option.isSome_iff_ne_none]
  exact⟨fun ⟨h1,h2⟩=>⟨h1,fun h3=>h2 (h.2 h3)⟩,fun ⟨h1,h2⟩=>⟨h1,fun h3=>h2 (h.1 h3)⟩⟩
 refine (zcut_any w Zb A L ρ G C K Zx hA n ao len cap hl hs hm).mono ?_
 rintro e w' ⟨hb,⟨rfl,h⟩ | ⟨d,b,o,c,h1,h2,h3,rfl,h4,_⟩⟩
 ·exact⟨hb,Or.inl ⟨rfl,fun d hd hc=>h d hd ((hit d).2 hc)⟩⟩
 ·exact⟨hb,Or.inr ⟨d,some ⟨b,o,none⟩,c,h1,(hit d).1 h2,fun j hj hc=>h3 j hj ((hit j).2 hc),rfl,h4.1⟩⟩
theorem path_drop (n:List (List UInt8)) (k:Nat):path (n.drop k)=(path n).take (n.length - k):=by
 unfold path N.lowN
 rw[List.map_drop,List.reverse_drop,List.length_map]
theorem lowN_drop (n:List (List UInt8)) (k:Nat):N.lowN (n.drop k)=(N.lowN n).drop k:=by
 unfold N.lowN;rw[List.map_drop]
theorem within_path2 (n A:List (List UInt8)):N.within n A=true↔path A <+: path n:=by
 rw[N.within_iff]
 have e1:N.lowN A.reverse=path A:=by unfold path;exact List.map_reverse
 have e2:N.lowN n.reverse=path n:=by unfold path;exact List.map_reverse
 rw[e1,e2]
set_option maxRecDepth 20000 in
set_option maxHeartbeats 1000000 in
theorem mCut_any (w:World) (base m:Nat) (A:List (List UInt8)) (L:List Z.R) (hR:RZAt w base m A L) (hA:Hid (N.Small A)) (hW:Hid (∀ x∈L,path A <+: x.p)) (n:List (List UInt8)) (ao:Option Addr) (len cap:Nat) (hl:Hid (n.length=len)) (hcap:len<=cap) (hs:SlS w ao n) (hm:Hid (N.Small n)) :
 Calls Tryz.prog 27 #[.pointer (some ⟨m,0,none⟩),.slice ao len cap] w fun e w'=>CutL w A L n e w':=by
 obtain⟨aa,ac,a,c,hrow,hsA,hac,hRL⟩:=hR.row
 obtain⟨al,hal⟩ : ∃ al,al=A.length:=⟨_,rfl⟩
 rw[<- hal] at hrow hac
 have hlen:len<=1000000:=by rw[<- hl.out];exact hm.out.1
 have hal1:al<=1000000:=by rw[hal];exact hA.out.1
 have hwin:=rWithin_any n A ao aa len al cap ac w hl (hide hal.symm) hs hsA (by omega) hcap (Sane.small hm.out) (Sane.small hA.out)
 have y0:w.cell? ⟨m,0,none⟩=some (.slice aa al ac):=hrow.cell 0
 have HR:=hide hR
 have HROW:=hide hrow
 have HS:=hide hs
 have HAL:=hide hal
 have hno:N.within n A=false -> ∀ d,d<=n.length -> ¬ cutL A L (path n) d:=fun hf d hd hc=>by
  obtain⟨_,h2⟩:=hc
  obtain⟨x,hx⟩:=List.exists_mem_of_ne_nil _ h2
  obtain⟨hxL,hp,_⟩:=Z.mem_setAt.1 hx
  have h3:=hW.out x hxL
  rw[hp] at h3
  have:=(within_path2 n A).2 (h3.trans (List.take_prefix _ _))
  rw[hf] at this;cases this
 cases hb:N.within n A with
 | false =>
  rw[hb] at hwin
  have HNO:=hide (hno hb)
  clear hR hrow hs hsA hRL hal hno hb
  go_enter Tryz.func27,Tryz.ntmps27
  go_wp2_with (go_at_call 63;refine hwin.mono ?_;rintro e w1 ⟨rfl,hB1⟩)
  go_ret2
  exact⟨hB1,Or.inl ⟨rfl,HNO.out⟩⟩
 | true =>
  have hle:al<=len:=by
   have:=((within_path2 n A).1 hb).length_le
   rw[path_len,path_len,hl.out, <- hal] at this
   exact this
  rw[hb] at hwin
  have hw1:IntKind.i64.wrap ((len:Int) - (al:Int))=(len:Int) - (al:Int):=by rw[IntKind.wrap_i64];omega
  have hw2:IntKind.i64.wrap ((len:Int) - (al:Int) - 1)=(len:Int) - ((al+1:Nat):Int):=by rw[IntKind.wrap_i64];omega
  clear hR hrow hs hsA hRL hal hno hb
  go_enter Tryz.func27,Tryz.ntmps27
  go_wp2_with (go_at_call 63;refine hwin.mono ?_;rintro e w1 ⟨rfl,hB1⟩;have z0:w1.cell? ⟨m,0,none⟩=some (.slice aa al ac):=(HROW.out.below hB1 HROW.out.lt).cell 0)
  have HB1:=hide hB1
  clear hB1 z0 y0 hwin
  go_loopw [6] (fun i wr => ∃ d:Nat,i = .int .i64 ((len:Int) - (d:Int))/\al<d/\d<=len+1/\Below w.heap.size w wr/\Hid (∀ j,j<d -> ¬ cutL A L (path n) j)) (fun i _=>(intOf i+1).toNat)
  case atStart=>exact⟨al+1,by first | rfl | simp,by omega,by omega,HB1.out,hide fun j hj hc=>by have:=hc.1;have:=HAL.out;omega⟩
  case round =>
   obtain⟨d,rfl,hd1,hd2,hB,HNO⟩:=hrel
   have HB:=hide hB
   clear hB HB1
   by_cases hlt:d<=len
   ·obtain⟨k,hk⟩ : ∃ k,k=len - d:=⟨_,rfl⟩
    have hki:(len:Int) - (d:Int)=(k:Int):=by omega
    rw[hki]
    have hk0:(0:Int)<=(k:Int):=by omega
    obtain⟨ao',hsl,hs'⟩:=slice_from (k:=k) (x:=(k:Int)) rfl (HS.out.below HB.out (Nat.le_refl _)) hl.out (by omega) hcap
    have hsm:N.Small (n.drop k):=⟨by rw[List.length_drop];have:=hm.out.1;omega,fun l h=>hm.out.2 l (List.mem_of_mem_drop h)⟩
    have hset:=mSet_any wr base m A L (HR.out.bel HB.out) (n.drop k) ao' d (cap - k) (hide (by rw[List.length_drop,hl.out];omega)) hs' (hide hsm) 2
    unfold SetR at hset
    rw[path_drop,hl.out,show len - k=d by omega] at hset
    have HSM:=hide hsm
    have HS':=hide hs'
    have HK:=hide hk
    have hdk:len - k=d:=by omega
    have hwk:IntKind.i64.wrap ((k:Int) - 1)=(len:Int) - ((d+1:Nat):Int):=by rw[IntKind.wrap_i64];omega
    clear hsm hs' hk
    by_cases h0:Z.setAt L ((path n).take d) 2 = []
    ·have HS0:=hide (hset.mono (R':=fun e w'=>e = .returned (.tuple #[.agg #[.slice none 0 0,.int .u16 0,.int .u32 0,.slice none 0 0],.bool false])/\Below wr.heap.size wr w') fun e w' ⟨hb2,h⟩=>by
      rcases h with⟨_,he⟩ | ⟨h1,_⟩
      ·exact⟨he,hb2⟩
      ·exact absurd h0 h1)
     have HN0:=hide h0
     clear hset h0
     go_wp2_with (go_at_call 24;refine HS0.out.mono ?_;rintro e w2 ⟨rfl,hb2⟩)
     go_roundw
     case rel =>
      refine⟨d+1,rfl,by omega,by omega,HB.out.trans ((hb2.mono HB.out.size).alloc (Nat.le_trans HB.out.size hb2.size) _),hide fun j hj=>?_⟩
      by_cases e:j=d
      ·subst e
       intro hc
       exact hc.2 HN0.out
      ·exact HNO.out j (by omega)
     case measure=>simp[intOf];omega
    ·have HS0:=hide (hset.mono (R':=fun e w' => ∃ (na:Option Addr) (nc:Nat) (tt:Nat) (v:Value) (q:Option Addr) (ql qc:Nat),v = .slice q ql qc/\e = .returned (.tuple #[.agg #[.slice na d nc,.int .u16 2,.int .u32 (tt:Int),v],.bool true])/\Below wr.heap.size wr w') fun e w' ⟨hb2,h⟩=>by
      rcases h with⟨h1,_⟩ | ⟨_,na,nc,v,he,_,_,hO⟩
      ·exact absurd h1 h0
      ·obtain⟨q,qc,hv,_,_⟩:=hO.slice
       exact⟨na,nc,_,v,q,_,qc,hv,he,hb2⟩)
     have HN0:=hide h0
     have hlow:=fun W hW=>rLower_any (n.drop k) ao' d (cap - k) W (hide (by rw[List.length_drop,hl.out];exact hdk)) (HS'.out.below (w':=W) (B:=wr.heap.size) hW (Nat.le_refl _)) HSM
     have HLOW:=hide hlow
     clear hset h0 hlow
     go_wp2_with (first
      | (go_at_call 60;refine (HLOW.out _ (hb2.alloc hb2.size _)).mono ?_;rintro e w3 ⟨v3,rfl,hO3,hB3⟩;obtain⟨na3,nc3,hv3,hT3,_,_⟩:=hO3.ty;rw[N.lowN_len,List.length_drop,hl.out,hdk] at hv3;subst hv3)
      | (go_at_call 24;refine HS0.out.mono ?_;rintro e w2 ⟨na,nc,tt,v,q,ql,qc,rfl,rfl,hb2⟩)
      | fail)
     go_ret2
     have hb3:=HB.out.trans (((hb2.alloc hb2.size _).trans (hB3.mono (Nat.le_trans hb2.size (by simp)))).mono HB.out.size)
     refine⟨hb3,Or.inr ⟨d,na3,nc3,by have:=hl.out;omega,⟨by have:=HAL.out;omega,HN0.out⟩,HNO.out,rfl,?_⟩⟩
     rw[<- lowN_drop,show n.length - d=k by have:=hl.out;have:=HK.out;omega]
     exact hT3.1
   ·obtain rfl:d=len+1:=by omega
    have hneg : ¬ (0:Int)<=(len:Int) - ((len+1:Nat):Int):=by omega
    have hneg2:(len:Int) - ((len+1:Nat):Int)<0:=by omega
    go_wp2
    go_ret2
    exact⟨HB.out,Or.inl ⟨rfl,fun d hd=>HNO.out d (by have:=hl.out;omega)⟩⟩
open Go.RowKit
theorem bel_al2 (w:World) (o:Obj):Below w.heap.size w (w.alloc o):=(Below.refl _ w).alloc (Nat.le_refl _) o
theorem types_snoc (L:List Z.R) (p:List (List UInt8)) (j:Nat) (x:Z.R) (hx:L[j]?=some x):Z.typesAt (L.take (j+1)) p=if x.p=p then Z.dd1 (Z.typesAt (L.take j) p) x.t else Z.typesAt (L.take j) p:=by
 unfold Z.typesAt
 rw[List.take_add_one,hx,List.filter_append]
 by_cases h:x.p=p
 ·rw[if_pos h]
  simp[h]
 ·rw[if_neg h]
  simp[h]
theorem dd1_len (M:List Nat) (t:Nat):(Z.dd1 M t).length<=M.length+1:=by
 unfold Z.dd1;split <;> simp
theorem types_len (L:List Z.R) (p:List (List UInt8)) : ∀ j,(Z.typesAt (L.take j) p).length<=j
 | 0=>by simp[Z.typesAt]
 | j+1=>by
  have ih:=types_len L p j
  cases hx:L[j]? with
  | none =>
   have e:L.take (j+1)=L.take j:=by rw[List.take_add_one,hx];simp
   rw[e];omega
  | some x =>
   rw[types_snoc L p j x hx]
   split
   ·have:=dd1_len (Z.typesAt (L.take j) p) x.t;omega
   ·omega
set_option maxRecDepth 20000 in
set_option maxHeartbeats 1500000 in
theorem mTypes_any (w:World) (base m:Nat) (A:List (List UInt8)) (L:List Z.R) (hR:RZAt w base m A L) (n:List (List UInt8)) (ao:Option Addr) (len cap:Nat) (hl:Hid (n.length=len)) (hs:SlS w ao n) (hm:Hid (N.Small n)) :
 Calls Tryz.prog 33 #[.pointer (some ⟨m,0,none⟩),.slice ao len cap] w fun e w' => ∃ v,e = .returned v /\ ∃ ts:List UInt16,ts.map (·.toNat)=Z.typesAt L (path n)/\OwnH w' w.heap.size v ts/\Below w.heap.size w w':=by
 obtain⟨aa,ac,a,c,hrow,_,_,hRL⟩:=hR.row
 obtain⟨k,hk⟩ : ∃ k,k=L.length:=⟨_,rfl⟩
 rw[<- hk] at hrow
 have hkb:k<=2000:=by rw[hk];exact hR.num
 have HR:=hide hR
 have HRL:=hide hRL
 have HROW:=hide hrow
 have HK:=hide hk
 have HS:=hide hs
 clear hR hRL hrow hk hs
 go_enter Tryz.func33,Tryz.ntmps33
 go_wp2
 go_loopw [5,6] (fun v i wr => ∃ j:Nat,i = .int .i64 (j:Int)/\j<=k/\Below w.heap.size w wr /\ ∃ ts:List UInt16,Hid (ts.map (·.toNat)=Z.typesAt (L.take j) (path n))/\OwnH wr w.heap.size v ts) (fun _ i _=>k - (intOf i).toNat)
 case atStart=>exact⟨0,rfl,by omega,Below.refl _ _, [],hide (by simp[Z.typesAt]),OwnH.nil _ _⟩
 case round =>
  obtain⟨j,rfl,hj,hB,ts,HTS,hO⟩:=hrel
  have hrr:=HROW.out.below hB HROW.out.lt
  have y1:wr.cell? ⟨m,1,none⟩=some (.slice a k c):=hrr.cell 1
  have HB:=hide hB
  have HO:=hide hO
  have HRR:=hide hrr
  clear hB hO hrr
  by_cases hlt:j<k
  ·have hjL:j<L.length:=by have:=HK.out;omega
   obtain⟨x,hx⟩ : ∃ x,L[j]?=some x:=⟨_,List.getElem?_eq_getElem hjL⟩
   have hxL:x∈L:=List.mem_of_getElem? hx
   have hrl0:=HRL.out.bel HB.out
   obtain⟨g,na,nc,da,dc,rfl,q0,q1,_,_,_,hT,hnc,hnn,_,_,_⟩:=hrl0.at_ hx
   have hgl:=RL.blk hrl0 (by omega)
   have hsn:=types_snoc L (path n) j x hx
   have hlen:=types_len L (path n) j
   have hxt16:=(HR.out.okk x hxL).1
   obtain⟨M,hM⟩ : ∃ M,M=Z.typesAt (L.take j) (path n):=⟨_,rfl⟩
   rw[<- hM] at hsn hlen HTS
   have hsame : ∀ W,Below wr.heap.size wr W->Calls Tryz.prog 57 #[.slice na x.p.length nc,.slice ao len cap] W fun e w'=>e = .returned (.bool (N.same x.p.reverse n))/\Below W.heap.size W w':=fun W hW=>rSame_any x.p.reverse n na ao x.p.length len nc cap W (hide (List.length_reverse)) hl (hT.1.below hW (Nat.le_refl _)) ((HS.out.below HB.out (Nat.le_refl _)).below hW (Nat.le_refl _)) (by have:=(HR.out.okk x hxL).2.2.2.2;omega) (Sane.small (HR.out.small hxL)) (Sane.small hm.out)
   rw[same_path (HR.out.lows x hxL)] at hsame
   obtain⟨av,cv,hv,hsv,_,hvc,_⟩:=HO.out.open
   obtain⟨q,hq⟩ : ∃ q,q=ts.length:=⟨_,rfl⟩
   have hqM:q=M.length:=by rw[hq, <- HTS.out,List.length_map]
   rw[<- hq] at hv hvc
   subst hv
   obtain⟨pl,hpl⟩ : ∃ pl,pl=x.p.length:=⟨_,rfl⟩
   obtain⟨xt,hxt⟩ : ∃ xt,xt=x.t:=⟨_,rfl⟩
   obtain⟨sb,hsb⟩ : ∃ sb,sb=decide (x.p=path n):=⟨_,rfl⟩
   rw[<- hpl] at q0 hsame
   rw[<- hxt] at q1 hxt16
   rw[<- hsb] at hsame
   have HSAME:=hide hsame
   obtain⟨hb,hhb⟩ : ∃ hb:Bool,hb=(sb && !decide (M.getLast?=some xt)):=⟨_,rfl⟩
   have hdd:Z.typesAt (L.take (j+1)) (path n)=if hb=true then M ++ [xt] else M:=by
    rw[hsn,hhb,hsb, <- hxt]
    unfold Z.dd1
    by_cases h1:x.p=path n
    ·by_cases h2:M.getLast?=some xt
     ·simp[h1,h2]
     ·simp[h1,h2]
    ·simp[h1]
   have HDD:=hide hdd
   have HQM:=hide hqM
   have HLEN:=hide hlen
   have HSV:=hide hsv
   have hjk:(j:Int)<(k:Int):=by omega
   clear hq hqM hpl hxt hsb hdd hsn hM hxL hrl0 hsame hnc hnn hT hlen hsv
   go_wp2
   go_cut [47] from 60 (fun s47 wc=>s47 = .bool hb/\Below wr.heap.size wr wc)
   case first =>
    cases sb with
    | false =>
     have hbt:hb=false:=by rw[hhb];rfl
     subst hbt
     clear hhb
     refine wp_region_X (S:=fun w'=>w'.cell? ⟨m,1,none⟩=some (.slice (some ⟨g,0,none⟩) k c)/\w'.cell? ⟨g,j*5,none⟩=some (.slice na pl nc)/\w'.cell? ⟨g,j*5+1,none⟩=some (.int .u16 (xt:Int))) (jS:=1000) (by kernel_rfl) ?_
     have BA:Hid (Below wr.heap.size wr wr.drew):=hide ((Below.refl _ wr).drew)
     have SAll:Hid (∀ w',Below wr.heap.size wr w'->w'.cell? ⟨m,1,none⟩=some (.slice (some ⟨g,0,none⟩) k c)/\w'.cell? ⟨g,j*5,none⟩=some (.slice na pl nc)/\w'.cell? ⟨g,j*5+1,none⟩=some (.int .u16 (xt:Int))):=hide fun W hW=>⟨(HRR.out.below hW HRR.out.lt).cell 1,cell_bm hW q0 hgl,cell_bm hW q1 hgl⟩
     have SA:=hide (SAll.out _ BA.out)
     generalize wr.drew=w1d at BA SA ⊢
     refine tk gt0 SA.out ?_
     refine tk gt1 SA.out ?_
     refine tk gt2 SA.out ?_
     refine tk gt3 SA.out ?_
     refine tk gt4 SA.out ?_
     refine tk gt5 SA.out ?_
     refine tk gt6 SA.out ?_
     refine tk gt7 SA.out ?_
     refine tk gt8 SA.out ?_
     refine rdy gt9 (fun K hKK=>?_)
     refine step_fng (by rfl) _ _ (by go_simp) (HSAME.out _ BA.out) (by rintro e w' ⟨rfl,_⟩;exact⟨_,rfl⟩) ?_
     rintro _ w2 ⟨he,hb2⟩
     cases he
     have B2:=hide (BA.out.trans (hb2.mono BA.out.size))
     have SB:=hide (SAll.out _ B2.out)
     refine kk hKK (Or.inr SB.out) ?_
     clear hKK hb2 SA BA
     refine tk gt10 SB.out ?_
     refine tu gt11 SB.out ?_
     refine tu gt12 SB.out ?_
     refine tu gt13 SB.out ?_
     refine tu gt14 SB.out ?_
     refine tu gt15 SB.out ?_
     refine tu gt16 SB.out ?_
     refine tu gt17 SB.out ?_
     refine tu gt18 SB.out ?_
     refine tu gt19 SB.out ?_
     refine tu gt20 SB.out ?_
     refine tu gt21 SB.out ?_
     refine tu gt22 SB.out ?_
     refine tu gt23 SB.out ?_
     refine tu gt24 SB.out ?_
     refine tu gt25 SB.out ?_
     refine tu gt26 SB.out ?_
     refine tu gt27 SB.out ?_
     refine tu gt28 SB.out ?_
     refine tu gt29 SB.out ?_
     refine tu gt30 SB.out ?_
     refine tk gt31 SB.out ?_
     refine wpAnyX_done (by kernel_rfl) ?_ _
     go_wp2_with fail
     go_meet
     exact⟨by first | rfl | (simp;done) | (simp;rw[Bool.eq_iff_iff];simp),B2.out⟩
    | true =>
     by_cases hM0:M = []
     ·have hbt:hb=true:=by rw[hhb,hM0];rfl
      have hq0:q=0:=by rw[HQM.out,hM0];rfl
      subst hbt
      subst hq0
      clear hhb
      refine wp_region_X (S:=fun w'=>w'.cell? ⟨m,1,none⟩=some (.slice (some ⟨g,0,none⟩) k c)/\w'.cell? ⟨g,j*5,none⟩=some (.slice na pl nc)/\w'.cell? ⟨g,j*5+1,none⟩=some (.int .u16 (xt:Int))) (jS:=1000) (by kernel_rfl) ?_
      have BA:Hid (Below wr.heap.size wr wr.drew):=hide ((Below.refl _ wr).drew)
      have SAll:Hid (∀ w',Below wr.heap.size wr w'->w'.cell? ⟨m,1,none⟩=some (.slice (some ⟨g,0,none⟩) k c)/\w'.cell? ⟨g,j*5,none⟩=some (.slice na pl nc)/\w'.cell? ⟨g,j*5+1,none⟩=some (.int .u16 (xt:Int))):=hide fun W hW=>⟨(HRR.out.below hW HRR.out.lt).cell 1,cell_bm hW q0 hgl,cell_bm hW q1 hgl⟩
      have SA:=hide (SAll.out _ BA.out)
      generalize wr.drew=w1d at BA SA ⊢
      refine tk gt0 SA.out ?_
      refine tk gt1 SA.out ?_
      refine tk gt2 SA.out ?_
      refine tk gt3 SA.out ?_
      refine tk gt4 SA.out ?_
      refine tk gt5 SA.out ?_
      refine tk gt6 SA.out ?_
      refine tk gt7 SA.out ?_
      refine tk gt8 SA.out ?_
      refine rdy gt9 (fun K hKK=>?_)
      refine step_fng (by rfl) _ _ (by go_simp) (HSAME.out _ BA.out) (by rintro e w' ⟨rfl,_⟩;exact⟨_,rfl⟩) ?_
      rintro _ w2 ⟨he,hb2⟩
      cases he
      have B2:=hide (BA.out.trans (hb2.mono BA.out.size))
      have SB:=hide (SAll.out _ B2.out)
      refine kk hKK (Or.inr SB.out) ?_
      clear hKK hb2 SA BA
      refine tk gt10 SB.out ?_
      refine tk gt11 SB.out ?_
      refine tk gt12 SB.out ?_
      refine tk gt13 SB.out ?_
      refine tk gt14 SB.out ?_
      refine tu gt15 SB.out ?_
      refine tu gt16 SB.out ?_
      refine tu gt17 SB.out ?_
      refine tu gt18 SB.out ?_
      refine tu gt19 SB.out ?_
      refine tu gt20 SB.out ?_
      refine tu gt21 SB.out ?_
      refine tu gt22 SB.out ?_
      refine tu gt23 SB.out ?_
      refine tu gt24 SB.out ?_
      refine tu gt25 SB.out ?_
      refine tu gt26 SB.out ?_
      refine tu gt27 SB.out ?_
      refine tu gt28 SB.out ?_
      refine tu gt29 SB.out ?_
      refine tk gt30 SB.out ?_
      refine tk gt31 SB.out ?_
      refine wpAnyX_done (by kernel_rfl) ?_ _
      go_wp2_with fail
      go_meet
      exact⟨by first | rfl | (simp;done) | (simp;rw[Bool.eq_iff_iff];simp),B2.out⟩
     ·obtain⟨q1',hq1⟩ : ∃ q1',q=q1'+1:=⟨q - 1,by have:=List.length_pos_iff.2 hM0;have:=HQM.out;omega⟩
      have hwq:IntKind.i64.wrap ((q:Int) - 1)=(q1':Int):=by have:=HQM.out;have:=HLEN.out;rw[IntKind.wrap_i64];omega
      have hq1m:q1'<ts.length:=by have h1:=HQM.out;have h2:=congrArg List.length HTS.out;rw[List.length_map] at h2;omega
      obtain⟨gl,o2,rfl,hgl2,hgc⟩:=HSV.out (by omega)
      obtain⟨g2,e3,hlc⟩:=HO.out.at_ (by have h1:=HQM.out;have h2:=congrArg List.length HTS.out;rw[List.length_map] at h2;omega) q1' hq1m
      injection e3 with e3;injection e3 with e3 e4 _
      subst e3;subst e4
      obtain⟨lt,hlt2⟩ : ∃ lt:Nat,lt=(ts.getD q1' 0).toNat:=⟨_,rfl⟩
      have hlast:M.getLast?=some lt:=by
       have h1:=HQM.out
       have h2:=HTS.out
       rw[List.getLast?_eq_getElem?,show M.length - 1=q1' by omega, <- h2,List.getElem?_map,List.getElem?_eq_getElem hq1m,hlt2,List.getD_eq_getElem?_getD,List.getElem?_eq_getElem hq1m]
       rfl
      have hlc:wr.cell? ⟨gl,q1',none⟩=some (.int .u16 (lt:Int)):=by rw[hlt2];exact hlc
      have hbe:hb = !decide (lt=xt):=by rw[hhb,hlast];simp
      subst hbe
      have hq1i:(q1':Int)<(q:Int):=by omega
      have hq0 : ¬ ((q:Int)=0):=by omega
      have hqb:((q:Int) == 0)=false:=by simp;omega
      have hqn : ¬ (q=0):=by omega
      have hdx:((lt:Int) != (xt:Int)) = !decide (lt=xt):=by rw[Bool.eq_iff_iff];simp;omega
      clear hhb hM0 hq1 hlt2 hgc hlast hq1m
      refine wp_region_X (S:=fun w'=>w'.cell? ⟨m,1,none⟩=some (.slice (some ⟨g,0,none⟩) k c)/\w'.cell? ⟨g,j*5,none⟩=some (.slice na pl nc)/\w'.cell? ⟨g,j*5+1,none⟩=some (.int .u16 (xt:Int))/\w'.cell? ⟨gl,q1',none⟩=some (.int .u16 (lt:Int))) (jS:=1000) (by kernel_rfl) ?_
      have BA:Hid (Below wr.heap.size wr wr.drew):=hide ((Below.refl _ wr).drew)
      have SAll:Hid (∀ w',Below wr.heap.size wr w'->w'.cell? ⟨m,1,none⟩=some (.slice (some ⟨g,0,none⟩) k c)/\w'.cell? ⟨g,j*5,none⟩=some (.slice na pl nc)/\w'.cell? ⟨g,j*5+1,none⟩=some (.int .u16 (xt:Int))/\w'.cell? ⟨gl,q1',none⟩=some (.int .u16 (lt:Int))):=hide fun W hW=>⟨(HRR.out.below hW HRR.out.lt).cell 1,cell_bm hW q0 hgl,cell_bm hW q1 hgl,cell_bm hW hlc hgl2⟩
      have SA:=hide (SAll.out _ BA.out)
      generalize wr.drew=w1d at BA SA ⊢
      refine tk gt0 SA.out ?_
      refine tk gt1 SA.out ?_
      refine tk gt2 SA.out ?_
      refine tk gt3 SA.out ?_
      refine tk gt4 SA.out ?_
      refine tk gt5 SA.out ?_
      refine tk gt6 SA.out ?_
      refine tk gt7 SA.out ?_
      refine tk gt8 SA.out ?_
      refine rdy gt9 (fun K hKK=>?_)
      refine step_fng (by rfl) _ _ (by go_simp) (HSAME.out _ BA.out) (by rintro e w' ⟨rfl,_⟩;exact⟨_,rfl⟩) ?_
      rintro _ w2 ⟨he,hb2⟩
      cases he
      have B2:=hide (BA.out.trans (hb2.mono BA.out.size))
      have SB:=hide (SAll.out _ B2.out)
      refine kk hKK (Or.inr SB.out) ?_
      clear hKK hb2 SA BA
      refine tk gt10 SB.out ?_
      refine tk gt11 SB.out ?_
      refine tk gt12 SB.out ?_
      refine tk gt13 SB.out ?_
      refine tk gt14 SB.out ?_
      refine tk gt15 SB.out ?_
      refine tk gt16 SB.out ?_
      refine tk gt17 SB.out ?_
      refine tk gt18 SB.out ?_
      refine tk gt19 SB.out ?_
      refine tk gt20 SB.out ?_
      refine tk gt21 SB.out ?_
      refine tk gt22 SB.out ?_
      refine tk gt23 SB.out ?_
      refine tk gt24 SB.out ?_
      refine tk gt25 SB.out ?_
      refine tk gt26 SB.out ?_
      refine tk gt27 SB.out ?_
      refine tk gt28 SB.out ?_
      refine tk gt29 SB.out ?_
      refine tk gt30 SB.out ?_
      refine tk gt31 SB.out ?_
      refine wpAnyX_done (by kernel_rfl) ?_ _
      go_wp2_with fail
      go_meet
      exact⟨by first | rfl | (simp;done) | (simp;rw[Bool.eq_iff_iff];simp),B2.out⟩
   case rest =>
    obtain⟨rfl,hbc⟩:=hcut
    have hBc:=HB.out.trans (hbc.mono HB.out.size)
    have hOc:=HO.out.below hbc
    have hrc:=HRR.out.below hbc HRR.out.lt
    have z1:wc.cell? ⟨m,1,none⟩=some (.slice (some ⟨g,0,none⟩) k c):=hrc.cell 1
    have z0:=cell_bm hbc q1 hgl
    have HBc:=hide hBc
    have HOc:=hide hOc
    clear hbc hBc hOc hhb q0 q1 hgl
    cases hb with
    | false =>
     have e:Z.typesAt (L.take (j+1)) (path n)=M:=by rw[HDD.out];rfl
     have HE:=hide e
     clear e
     go_wp2
     go_roundw
     case rel=>exact⟨j+1,by go_num,by omega,HBc.out,ts,hide (by rw[HE.out];exact HTS.out),HOc.out⟩
     case measure=>simp[intOf];omega
    | true =>
     have e:Z.typesAt (L.take (j+1)) (path n)=M ++ [xt]:=by rw[HDD.out];rfl
     have HE:=hide e
     have hxn:(UInt16.ofNat xt).toNat=xt:=by rw[UInt16.toNat_ofNat'];omega
     have hxe:(xt:Int)=((UInt16.ofNat xt).toNat:Int):=by rw[hxn]
     have HXN:=hide hxn
     have HXE:=hide hxe
     clear e hxe hxn
     go_wp2_with (at_builtin;(refine wpList_append_H rfl (.tmp 48) (.tmp 57) rfl w.heap.size _ ts rfl (by exact HOc.out.below (bel_al2 wc _)) _ _ _ [UInt16.ofNat xt] rfl rfl (SlH.oneI _ _ _ _ HXE.out) (by simp) (by have:=HLEN.out;have:=HQM.out;have h2:=congrArg List.length HTS.out;rw[List.length_map] at h2;simp;omega) (by have:=HBc.out.size;simp;omega) ?_);intro v5 w5 hO5 hG5;have hB5:=grown_belowH (HOc.out.below (bel_al2 wc _)) hG5 (HBc.out.alloc HBc.out.size _) (by have:=HBc.out.size;simp;omega))
     go_roundw
     case rel=>exact⟨j+1,by go_num,by omega,hB5,ts ++ [UInt16.ofNat xt],hide (by rw[HE.out,List.map_append,HTS.out];simp only[List.map_cons,List.map_nil];rw[HXN.out]),hO5⟩
     case measure=>simp[intOf];omega
  ·obtain rfl:j=k:=by omega
   have e:L.take j=L:=List.take_of_length_le (by have:=HK.out;omega)
   rw[e] at HTS
   go_wp2
   go_ret
   exact⟨_,rfl,ts,HTS.out,HO.out,HB.out⟩
end Go.Proofs.YtbkegikdmmnkaaaGreat
namespace Go.Proofs.YtbkegikdmmnkaaaGreat
set_option maxRecDepth 5000
open Go.RowKit
set_option maxRecDepth 20000 in
set_option maxHeartbeats 1000000 in
theorem hblobs_same (L:List (List UInt8)) (a b:Option Addr) (k c1 c2 base1 base2:Nat) (w:World) (hk:Hid (k=L.length)) (h1:OwnL 37 1 EB w base1 (.slice a k c1) L) (h2:OwnL 37 1 EB w base2 (.slice b k c2) L) (hkb:k<=100000) :
 Calls Tryz.prog 61 #[.slice a k c1,.slice b k c2] w fun e w'=>e = .returned (.bool true)/\Below w.heap.size w w':=by
 have H1:=hide h1
 have H2:=hide h2
 clear h1 h2
 go_enter Tryz.func61,Tryz.ntmps61
 go_wp2
 go_loopw [5] (fun i wr => ∃ j:Nat,i = .int .i64 (j:Int)/\j<=k/\Below w.heap.size w wr) (fun i _=>k - (intOf i).toNat)
 case atStart=>exact⟨0,rfl,by omega,Below.refl _ _⟩
 case round =>
  obtain⟨j,rfl,hj,hB⟩:=hrel
  have HB:=hide hB
  clear hB
  by_cases hlt:j<k
  ·have hjL:j<L.length:=by have:=hk.out;omega
   obtain⟨d,hd⟩ : ∃ d,L[j]?=some d:=⟨_,List.getElem?_eq_getElem hjL⟩
   have o1:=H1.out.bel (fun _ _ h=>h.kb (KB.of_below HB.out)) HB.out
   have o2:=H2.out.bel (fun _ _ h=>h.kb (KB.of_below HB.out)) HB.out
   obtain⟨g,rfl,_,hg1,_,hc1⟩:=o1.get (by omega)
   obtain⟨gb,rfl,_,hg2,_,hc2⟩:=o2.get (by omega)
   obtain⟨us,_,⟨da,dc,rfl,hTd,_,_⟩,hu⟩:=hc1 j d hd
   obtain⟨vs,_,⟨db,dd,rfl,hUd,_,_⟩,hv⟩:=hc2 j d hd
   have q0:wr.cell? ⟨g,j,none⟩=some (.slice da d.length dc):=by
    have:=hu 0 (by omega)
    rw[Nat.mul_one,Nat.add_zero] at this
    exact this
   have p0:wr.cell? ⟨gb,j,none⟩=some (.slice db d.length dd):=by
    have:=hv 0 (by omega)
    rw[Nat.mul_one,Nat.add_zero] at this
    exact this
   have hby : ∀ W,Below wr.heap.size wr W->Calls Tryz.prog 95 #[.slice da d.length dc,.slice db d.length dd] W fun e w'=>e = .returned (.bool true)/\w'=W:=fun W hW=>bytes_same d da db d.length d.length dc dd W (hTd.1.below hW (Nat.le_refl _)) (hUd.1.below hW (Nat.le_refl _)) (hide rfl) (hide rfl)
   obtain⟨dl,hdl⟩ : ∃ dl,dl=d.length:=⟨_,rfl⟩
   rw[<- hdl] at q0 p0 hby
   have HBY:=hide hby
   have SAll:Hid (∀ w',Below wr.heap.size wr w'->w'.cell? ⟨g,j,none⟩=some (.slice da dl dc)/\w'.cell? ⟨gb,j,none⟩=some (.slice db dl dd)):=hide fun W hW=>⟨cell_bm hW q0 hg1,cell_bm hW p0 hg2⟩
   have hjk:(j:Int)<(k:Int):=by omega
   clear hd o1 o2 hc1 hc2 hTd hUd hu hv q0 p0 hby hdl hg1 hg2
   go_wp2
   refine wp_region_X (S:=fun w'=>w'.cell? ⟨g,j,none⟩=some (.slice da dl dc)/\w'.cell? ⟨gb,j,none⟩=some (.slice db dl dd)) (jS:=1000) (by kernel_rfl) ?_
   have BA:Hid (Below wr.heap.size wr wr.drew):=hide ((Below.refl _ wr).drew)
   have SA:=hide (SAll.out _ BA.out)
   generalize wr.drew=w1d at BA SA ⊢
   refine tk gt0 SA.out ?_
   refine tk gt1 SA.out ?_
   refine tk gt2 SA.out ?_
   refine tk gt3 SA.out ?_
   refine tk gt4 SA.out ?_
   refine tk gt5 SA.out ?_
   refine tk gt6 SA.out ?_
   refine tk gt7 SA.out ?_
   refine rdy gt8 (fun K hKK=>?_)
   refine step_fng (by rfl) _ _ (by go_simp) (HBY.out _ BA.out) (by rintro e w' ⟨rfl,_⟩;exact⟨_,rfl⟩) ?_
   rintro _ w2 ⟨he,hw2⟩
   cases he
   subst hw2
   refine kk hKK (Or.inr SA.out) ?_
   clear hKK
   refine tk gt9 SA.out ?_
   refine wpAnyX_done (by kernel_rfl) ?_ _
   go_wp2
   go_roundw
   case rel=>exact⟨j+1,by go_num,by omega,HB.out.trans (BA.out.mono HB.out.size)⟩
   case measure=>simp[intOf];omega
  ·obtain rfl:j=k:=by omega
   go_wp2
   go_ret
   exact⟨rfl,HB.out⟩
set_option maxRecDepth 20000 in
set_option maxHeartbeats 1000000 in
theorem htypes_same (L:List UInt16) (a b:Option Addr) (k c1 c2 base1 base2:Nat) (w:World) (hk:Hid (k=L.length)) (h1:OwnH w base1 (.slice a k c1) L) (h2:OwnH w base2 (.slice b k c2) L) (hkb:k<=100000) :
 Calls Tryz.prog 31 #[.slice a k c1,.slice b k c2] w fun e w'=>e = .returned (.bool true)/\Below w.heap.size w w':=by
 have H1:=hide h1
 have H2:=hide h2
 clear h1 h2
 go_enter Tryz.func31,Tryz.ntmps31
 go_wp2
 go_loopw [5] (fun i wr => ∃ j:Nat,i = .int .i64 (j:Int)/\j<=k/\Below w.heap.size w wr) (fun i _=>k - (intOf i).toNat)
 case atStart=>exact⟨0,rfl,by omega,Below.refl _ _⟩
 case round =>
  obtain⟨j,rfl,hj,hB⟩:=hrel
  have HB:=hide hB
  clear hB
  by_cases hlt:j<k
  ·have hjL:j<L.length:=by have:=hk.out;omega
   obtain⟨g,rfl,q0⟩:=(H1.out.below HB.out).at_ hk.out j hjL
   obtain⟨gb,rfl,p0⟩:=(H2.out.below HB.out).at_ hk.out j hjL
   have hg1:g<wr.heap.size:=block_lt_of_cell q0
   have hg2:gb<wr.heap.size:=block_lt_of_cell p0
   obtain⟨x,hx⟩ : ∃ x:Nat,x=(L.getD j 0).toNat:=⟨_,rfl⟩
   rw[<- hx] at q0 p0
   have SAll:Hid (∀ w',Below wr.heap.size wr w'->w'.cell? ⟨g,j,none⟩=some (.int .u16 (x:Int))/\w'.cell? ⟨gb,j,none⟩=some (.int .u16 (x:Int))):=hide fun W hW=>⟨cell_bm hW q0 hg1,cell_bm hW p0 hg2⟩
   have hjk:(j:Int)<(k:Int):=by omega
   clear q0 p0 hx hg1 hg2
   go_wp2
   refine wp_region_X (S:=fun w'=>w'.cell? ⟨g,j,none⟩=some (.int .u16 (x:Int))/\w'.cell? ⟨gb,j,none⟩=some (.int .u16 (x:Int))) (jS:=1000) (by kernel_rfl) ?_
   have BA:Hid (Below wr.heap.size wr wr.drew):=hide ((Below.refl _ wr).drew)
   have SA:=hide (SAll.out _ BA.out)
   generalize wr.drew=w1d at BA SA ⊢
   refine tk gt0 SA.out ?_
   refine tk gt1 SA.out ?_
   refine tk gt2 SA.out ?_
   refine tk gt3 SA.out ?_
   refine tk gt4 SA.out ?_
   refine tk gt5 SA.out ?_
   refine tk gt6 SA.out ?_
   refine tk gt7 SA.out ?_
   refine tk gt8 SA.out ?_
   refine wpAnyX_done (by kernel_rfl) ?_ _
   go_wp2
   go_roundw
   case rel=>exact⟨j+1,by go_num,by omega,HB.out.trans (BA.out.mono HB.out.size)⟩
   case measure=>simp[intOf];omega
  ·obtain rfl:j=k:=by omega
   go_wp2
   go_ret
   exact⟨rfl,HB.out⟩
set_option maxRecDepth 20000 in
set_option maxHeartbeats 1000000 in
theorem hset_same (n:List (List UInt8)) (L:List (List UInt8)) (a1 a2 b1 b2:Option Addr) (l c1 c2 q e1 e2 t s base1 base2:Nat) (w:World) (hl:Hid (n.length=l)) (hs1:SlS w a1 n) (hs2:SlS w a2 n) (hm:l<=9223372036854775807) (hq:Hid (q=L.length)) (hb1:OwnL 37 1 EB w base1 (.slice b1 q e1) L) (hb2:OwnL 37 1 EB w base2 (.slice b2 q e2) L) (hqb:q<=100000) :
 Calls Tryz.prog 25 #[.agg #[.slice a1 l c1,.int .u16 (t:Int),.int .u32 (s:Int),.slice b1 q e1],.agg #[.slice a2 l c2,.int .u16 (t:Int),.int .u32 (s:Int),.slice b2 q e2]] w fun e w'=>e = .returned (.bool true)/\Below w.heap.size w w':=by
 obtain⟨wB,hwB⟩ : ∃ wB,wB=(w.alloc (.cells #[.slice a1 l c1,.int .u16 (t:Int),.int .u32 (s:Int),.slice b1 q e1] 54)).alloc (.cells #[.slice a2 l c2,.int .u16 (t:Int),.int .u32 (s:Int),.slice b2 q e2] 54):=⟨_,rfl⟩
 have hr1:RowAt wB w.heap.size 54 #[.slice a1 l c1,.int .u16 (t:Int),.int .u32 (s:Int),.slice b1 q e1]:=by rw[hwB];exact (RowAt.new w _ _).alloc _
 have hr2:RowAt wB (w.heap.size+1) 54 #[.slice a2 l c2,.int .u16 (t:Int),.int .u32 (s:Int),.slice b2 q e2]:=by
  rw[hwB]
  have:=RowAt.new (w.alloc (.cells #[.slice a1 l c1,.int .u16 (t:Int),.int .u32 (s:Int),.slice b1 q e1] 54)) 54 #[.slice a2 l c2,.int .u16 (t:Int),.int .u32 (s:Int),.slice b2 q e2]
  rw[World.size_alloc] at this
  exact this
 have hb:Below w.heap.size w wB:=by rw[hwB];exact ((Below.refl _ w).alloc (Nat.le_refl _) _).alloc (by simp) _
 have hnm:=hname_any n n a1 a2 l l c1 c2 wB hl hl (hs1.below hb (Nat.le_refl _)) (hs2.below hb (Nat.le_refl _)) hm hm
 rw[decide_eq_true (rfl:n=n)] at hnm
 have HR1:=hide hr1
 have HR2:=hide hr2
 have HB:=hide hb
 have HW:=hide hwB
 have HB1:=hide (hb1.bel (fun _ _ h=>h.kb (KB.of_below hb)) hb)
 have HB2:=hide (hb2.bel (fun _ _ h=>h.kb (KB.of_below hb)) hb)
 clear hr1 hr2 hb hwB hb1 hb2 hs1 hs2
 have z1:wB.cell? ⟨w.heap.size,0,none⟩=some (.slice a1 l c1):=HR1.out.cell 0
 have z2:wB.cell? ⟨w.heap.size+1,0,none⟩=some (.slice a2 l c2):=HR2.out.cell 0
 go_enter Tryz.func25,Tryz.ntmps25
 go_wp2_with (first
  | (go_at_call 28;rw[<- HW.out];refine hnm.mono ?_;rintro e w1 ⟨rfl,hk⟩;have HBW:Hid (Below w.heap.size w w1):=(by obtain⟨q,rfl⟩:=hk;exact hide (below_drewN HB.out q));have hbq:Below wB.heap.size wB w1:=(by obtain⟨q,rfl⟩:=hk;exact below_drewN (Below.refl _ wB) q);have x1:w1.cell? ⟨w.heap.size,1,none⟩=some (.int .u16 (t:Int)):=(HR1.out.below hbq HR1.out.lt).cell 1;have x2:w1.cell? ⟨w.heap.size,2,none⟩=some (.int .u32 (s:Int)):=(HR1.out.below hbq HR1.out.lt).cell 2;have x3:w1.cell? ⟨w.heap.size,3,none⟩=some (.slice b1 q e1):=(HR1.out.below hbq HR1.out.lt).cell 3;have y1:w1.cell? ⟨w.heap.size+1,1,none⟩=some (.int .u16 (t:Int)):=(HR2.out.below hbq HR2.out.lt).cell 1;have y2:w1.cell? ⟨w.heap.size+1,2,none⟩=some (.int .u32 (s:Int)):=(HR2.out.below hbq HR2.out.lt).cell 2;have y3:w1.cell? ⟨w.heap.size+1,3,none⟩=some (.slice b2 q e2):=(HR2.out.below hbq HR2.out.lt).cell 3;have HBL:=hide (hblobs_same L b1 b2 q e1 e2 base1 base2 w1 hq (HB1.out.bel (fun _ _ h=>h.kb (KB.of_below hbq)) hbq) (HB2.out.bel (fun _ _ h=>h.kb (KB.of_below hbq)) hbq) hqb);clear hk hbq)
  | (go_at_call 61;refine HBL.out.mono ?_;rintro e w2 ⟨rfl,hb2⟩)
  | fail)
 go_ret
 exact⟨rfl,HBW.out.trans (hb2.mono HBW.out.size)⟩
end Go.Proofs.YtbkegikdmmnkaaaGreat
