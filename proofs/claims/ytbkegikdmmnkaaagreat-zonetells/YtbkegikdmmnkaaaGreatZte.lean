/- ZoneTells walked. -/
import Derived.Test.YtbkegikdmmnkaaaGreatZpw
import Derived.Test.YtbkegikdmmnkaaaGreatHst
namespace Go.Proofs.YtbkegikdmmnkaaaGreat
set_option maxRecDepth 5000
open Go.RowKit
theorem AcT.act_in {A:List (List UInt8)} {L:List Z.R} (h : ∀ x∈L,path A <+: x.p) (x:AcT) : ∀ y∈AcT.act A L x,path A <+: y.p:=by
 intro y hy
 unfold AcT.act at hy
 split at hy
 ·unfold Z.putR at hy
  have hput:N.within x.rn A=true -> ∀ c,y∈Z.put L ⟨path x.rn,x.rt,c,x.rttl,x.rd⟩->path A <+: y.p:=fun hw c hy=>by
   obtain⟨z,hz,rfl⟩:=Z.mem_put.1 hy
   rw[Z.setT_p]
   rcases hz with hz | ⟨_,rfl⟩
   ·exact h z hz
   ·exact (within_path2 _ _).1 hw
  split at hy
  ·exact h y hy
  ·rename_i hg
   have hw:N.within x.rn A=true:=by
    cases hq:N.within x.rn A with
    | true=>rfl
    | false=>exact absurd (Or.inr hq) hg
   split at hy
   ·exact h y hy
   ·split at hy
    ·exact h y hy
    ·split at hy
     ·split at hy
      ·exact h y hy
      ·exact hput hw _ hy
     ·split at hy
      ·exact h y hy
      ·exact hput hw _ hy
 ·split at hy
  ·unfold Z.dropR at hy
   split at hy
   ·exact h y hy
   ·split at hy
    ·exact h y (Z.mem_drop.1 hy).1
    ·exact h y hy
  ·exact h y (Z.mem_dropSet.1 hy).1
theorem AcT.foldl_in {A:List (List UInt8)} : ∀ (l:List AcT) {L:List Z.R},(∀ x∈L,path A <+: x.p) -> ∀ y∈l.foldl (AcT.act A) L,path A <+: y.p
 | [],_,h=>h
 | x::l,_,h=>AcT.foldl_in l (AcT.act_in h x)
theorem AcT.run_in (A:List (List UInt8)) (l:List AcT) : ∀ y∈AcT.run A l,path A <+: y.p:=AcT.foldl_in l (fun x hx=>by cases hx)
def Nm4 (w:World) (nb:Nat) (M:List (List (List UInt8))):Prop:=nb<w.heap.size /\ ∀ j n,M[j]?=some n -> ∃ a c,w.cell? ⟨nb,j,none⟩=some (.slice a n.length c)/\SlS w a n/\n.length<=c
theorem SetR.same (L:List Z.R) (n:List (List UInt8)) (nl t:Nat) (hnl:n.length=nl) (hm:nl<=1000000) (hL:L.length<=2000) : ∃ (nm LL:List (List UInt8)) (l tt ss qn:Nat) (fl:Bool),nm.length=l/\qn=LL.length/\qn<=100000/\l<=1000000 /\
 ∀ w e w',SetR w L n nl t e w' -> ∃ a c b e1,e = .returned (.tuple #[.agg #[.slice a l c,.int .u16 (tt:Int),.int .u32 (ss:Int),.slice b qn e1],.bool fl])/\SlS w' a nm/\OwnL 37 1 EB w' w.heap.size (.slice b qn e1) LL/\Below w.heap.size w w':=by
 by_cases hE:Z.setAt L (path n) t = []
 ·refine⟨[], [],0,0,0,0,false,rfl,rfl,by decide,by decide,fun w e w' ⟨hb,h⟩=>?_⟩
  rcases h with⟨_,rfl⟩ | ⟨h1,_⟩
  ·exact⟨none,0,none,0,rfl,SlS.nil _ _,OwnL.nil _ _ _ _ _,hb⟩
  ·exact absurd hE h1
 ·refine⟨N.lowN n,(Z.setAt L (path n) t).map (·.d),nl,t,Z.ttlAt L (path n) t,((Z.setAt L (path n) t).map (·.d)).length,true,by rw[<- hnl];exact List.length_map _,rfl,?_,hm,fun w e w' ⟨hb,h⟩=>?_⟩
  ·rw[List.length_map]
   have:(Z.setAt L (path n) t).length<=L.length:=List.length_filter_le _ _
   omega
  ·rcases h with⟨h1,_⟩ | ⟨_,na,nc,v,rfl,hT,_,hO⟩
   ·exact absurd h1 hE
   ·obtain⟨b,e1,rfl,_,_⟩:=hO.slice
    exact⟨na,nc,b,e1,rfl,hT.1,hO,hb⟩
theorem set_facts {w:World} {g:Nat} {v0 v1 v2 v3:Value} (h:RowAt w g 54 #[v0,v1,v2,v3]):w.cell? ⟨g,0,none⟩=some v0/\w.cell? ⟨g,1,none⟩=some v1/\w.cell? ⟨g,2,none⟩=some v2/\w.cell? ⟨g,3,none⟩=some v3:=⟨h.cell 0,h.cell 1,h.cell 2,h.cell 3⟩
theorem CutL.same (A:List (List UInt8)) (L:List Z.R) (n:List (List UInt8)) : ∃ (nm:List (List UInt8)) (d:Nat) (fl:Bool),nm.length=d/\d<=n.length /\
 ∀ w e w',CutL w A L n e w' -> ∃ na c,e = .returned (.tuple #[.slice na d c,.bool fl])/\SlS w' na nm/\Below w.heap.size w w':=by
 by_cases h : ∃ d,d<=n.length/\cutL A L (path n) d /\ ∀ j,j<d -> ¬ cutL A L (path n) j
 ·obtain⟨d,h1,h2,h3⟩:=h
  refine⟨(N.lowN n).drop (n.length - d),d,true,by rw[List.length_drop,N.lowN_len];omega,h1,fun w e w' ⟨hb,h⟩=>?_⟩
  rcases h with⟨_,h4⟩ | ⟨d',na,c,h4,h5,h6,rfl,hS⟩
  ·exact absurd h2 (h4 d h1)
  ·obtain rfl:d'=d:=by
    rcases Nat.lt_trichotomy d' d with hh | hh | hh
    ·exact absurd h5 (h3 _ hh)
    ·exact hh
    ·exact absurd h2 (h6 _ hh)
   exact⟨na,c,rfl,hS,hb⟩
 ·refine⟨[],0,false,rfl,Nat.zero_le _,fun w e w' ⟨hb,h'⟩=>?_⟩
  rcases h' with⟨rfl,_⟩ | ⟨d',na,c,h4,h5,h6,_,_⟩
  ·exact⟨none,0,rfl,SlS.nil _ _,hb⟩
  ·exact absurd ⟨d',h4,h5,h6⟩ h
set_option maxRecDepth 20000 in
set_option maxHeartbeats 1500000 in
theorem zoneTells_walk (l:List AcT) (ao:Option Addr) (len cap:Nat) (n:List (List UInt8)) (no:Option Addr) (ln cn:Nat) (k t:Nat) (hk:k<256) (ht:t<65536) (w:World) (hl:Hid (l.length=len)) (hs:SlA w ao l) (hok:Hid (∀ x∈l,x.Ok)) (hm:len<=9223372036854775807)
 (hln:Hid (n.length=ln)) (hsn:SlS w no n) (hlc:ln<=cn) (hmn:ln<=9223372036854775807) :
 Calls Tryz.prog 4 #[.slice ao len cap,.slice no ln cn,.int .u8 (k:Int),.int .u16 (t:Int)] w fun e w'=>e = .returned (.bool true)/\Below w.heap.size w w':=by
 have HS:=hide hs
 have HSN:=hide hsn
 obtain⟨B,hB⟩ : ∃ B,B=w.heap.size:=⟨_,rfl⟩
 have HBe:=hide hB
 have hT0:True:=trivial
 clear hs hsn hB
 go_enter Tryz.func4,Tryz.ntmps4
 go_wp2_with (first
  | (go_at_call 12;have hq:=HZ1.out;clear hq;refine (apex_any w1).mono ?_;rintro e wb ⟨vb,rfl,hOb,hBb⟩;obtain⟨ab,cb,rfl,hSb,_,hcb,_⟩:=hOb.open)
  | (go_at_call 11;refine (znew_live (fun i=>i<B) wa (fun i hi=>by have:=hB0a.size;have:=HBe.out;omega) Z.exA aa _ ca (hide rfl) hSa (hide exA_small)).mono ?_;rintro e w1 ⟨V,rfl,_,hZ1,hB1⟩;rw[exA_low] at hZ1;have hb1:=hB0a.trans (hB1.mono hB0a.size);have HZ1:=hide hZ1;have HB1:=hide hb1;clear hZ1 hB1 hb1)
  | (go_at_call 12;have hq:=HLN.out;clear hq;refine (apex_any w0).mono ?_;rintro e wa ⟨va,rfl,hOa,hBa⟩;obtain⟨aa,ca,rfl,hSa,_,hca,_⟩:=hOa.open;have hB0a:=HB0.out.trans (hBa.mono HB0.out.size))
  | (go_at_call 20;have hq:=HLI.out;clear hq;refine (light_any n no ln cn w0 hln (HSN.out.below HB0.out (Nat.le_refl _)) hmn).mono ?_;rintro e wq ⟨t',rfl,ht',hwq⟩;have hwq2:=hwq.symm;subst hwq2;have HLN:=hide ht';clear ht' hwq;cases t')
  | (go_at_call 10;have hq:=HB0.out;clear hq;refine (zlight_any l ao len cap w0 hl (HS.out.below HB0.out (Nat.le_refl _)) hm).mono ?_;rintro e wq ⟨t',rfl,ht',hwq⟩;have hwq2:=hwq.symm;subst hwq2;have HLI:=hide ht';clear ht' hwq;cases t')
  | (go_at_call 9;have hT0q:=hT0;clear hT0q hT0;refine (known_any w).mono ?_;rintro e w0 ⟨rfl,hB0⟩;have HB0:=hide hB0;clear hB0)
  | fail)
 ·go_ret
  exact⟨rfl,HB0.out⟩
 ·go_ret
  exact⟨rfl,HB0.out⟩
 ·obtain⟨h40,hli⟩:=HLI.out trivial
  have hlight:=HLN.out trivial
  have HL:=hide hli
  have hw3:=RZAt.empty wb wb.heap.size ab _ cb rfl hSb hcb
  have hb3:Below wb.heap.size wb (wb.alloc (.cells #[.slice ab Z.exA.length cb,.slice none 0 0] 33)):=(Below.refl _ wb).alloc (Nat.le_refl _) _
  have hsz:B<=w1.heap.size:=by have:=HB1.out.size;have:=HBe.out;omega
  have hD:Duo B (wb.alloc (.cells #[.slice ab Z.exA.length cb,.slice none 0 0] 33)) V wb.heap.size wb.heap.size Z.exA [] 0:=⟨(HZ1.out.bel hBb).bel hb3,hw3,Nat.le_trans hsz hBb.size,Nat.le_trans hsz hBb.size,hb3.size⟩
  have hBw:Below B w (wb.alloc (.cells #[.slice ab Z.exA.length cb,.slice none 0 0] 33)):=by
   rw[HBe.out]
   exact HB1.out.trans ((hBb.trans (hb3.mono hBb.size)).mono HB1.out.size)
  obtain⟨m,hmm⟩ : ∃ m,m=wb.heap.size:=⟨_,rfl⟩
  rw[<- hmm] at hD ⊢
  obtain⟨base,hbs⟩ : ∃ base,base=m:=⟨_,rfl⟩
  have hD:Duo B (wb.alloc (.cells #[.slice ab Z.exA.length cb,.slice none 0 0] 33)) V base m Z.exA [] 0:=by rw[hbs];exact hD
  have HD0:=hide hD
  have HBW:=hide hBw
  have HLT:=hide hlight
  clear hw3 hb3 hsz hD hBw hmm hbs hli hBb hOb hSb hcb hB0a hBa hOa hSa hca HZ1 HB1 HB0 HLI HLN hlight
  go_loopw [11] (fun i wr => ∃ j:Nat,i = .int .i64 (j:Int)/\j<=len/\Duo B wr V base m Z.exA (AcT.run Z.exA (l.take j)) (j*300)/\Below B w wr) (fun i _=>len - (intOf i).toNat)
  case atStart=>exact⟨0,rfl,by omega,HD0.out,HBW.out⟩
  case round =>
   obtain⟨j,rfl,hj,hD,hB⟩:=hrel
   have HD:=hide hD
   have HB:=hide hB
   clear hD hB HD0 HBW
   by_cases hlt:j<len
   ·have hjl:j<l.length:=by have:=hl.out;omega
    obtain⟨x,hx⟩ : ∃ x,l[j]?=some x:=⟨_,List.getElem?_eq_getElem hjl⟩
    have hxl:x∈l:=List.mem_of_getElem? hx
    obtain⟨b,o,rfl,_,_⟩:=HS.out (by omega)
    obtain⟨na,nc,da,dc,hblt,hac,hcc⟩:=HS.out.cells hx
    obtain⟨nl,hnl⟩ : ∃ nl,nl=x.n.length:=⟨_,rfl⟩
    obtain⟨dl,hdl⟩ : ∃ dl,dl=x.d.length:=⟨_,rfl⟩
    obtain⟨wh,hwh⟩ : ∃ wh,wh=x.what:=⟨_,rfl⟩
    unfold acRow at hcc
    rw[<- hnl, <- hdl, <- hwh] at hcc
    have hk9 : ∀ i,i<9->wr.cell? ⟨b,o+j*9+i,none⟩=w.cell? ⟨b,o+j*9+i,none⟩:=fun i _=>World.cell?_of_block (HB.out.block b (by rw[HBe.out];exact hblt))
    have q0:=(hk9 0 (by omega)).trans (hcc 0 (by omega))
    have q1:=(hk9 1 (by omega)).trans (hcc 1 (by omega))
    have q2:=(hk9 2 (by omega)).trans (hcc 2 (by omega))
    have q3:=(hk9 3 (by omega)).trans (hcc 3 (by omega))
    have q4:=(hk9 4 (by omega)).trans (hcc 4 (by omega))
    have q5:=(hk9 5 (by omega)).trans (hcc 5 (by omega))
    have q6:=(hk9 6 (by omega)).trans (hcc 6 (by omega))
    have q7:=(hk9 7 (by omega)).trans (hcc 7 (by omega))
    have q8:=(hk9 8 (by omega)).trans (hcc 8 (by omega))
    simp only[List.getElem?_cons_zero,List.getElem?_cons_succ,Nat.add_zero] at q0 q1 q2 q3 q4 q5 q6 q7 q8
    obtain⟨L,hL⟩ : ∃ L,L=AcT.run Z.exA (l.take j):=⟨_,rfl⟩
    rw[<- hL] at HD
    have hdo:=does_any B wr V base m Z.exA L (j*300) HD.out (hide exA_small) x (hok.out x hxl) (HL.out x hxl) wh (hide hwh.symm) na nl nc da dl dc (hide hnl) (hide hdl) (hac.below HB.out (by rw[HBe.out];exact Nat.le_refl _)) (by omega)
    obtain⟨L',hL'⟩ : ∃ L',L'=AcT.act Z.exA L x:=⟨_,rfl⟩
    rw[<- hL'] at hdo
    have hrun:AcT.run Z.exA (l.take (j+1))=L':=by rw[AcT.run_snoc Z.exA l j x hx, <- hL, <- hL']
    have HRUN:=hide hrun
    have HDO:=hide hdo
    have hjk:(j:Int)<(len:Int):=by omega
    clear hx hxl hblt hac hcc hnl hdl hwh hL hL' hdo hrun hk9
    go_wp2_with (go_at_call 13;refine HDO.out.mono ?_;rintro e w6 ⟨rfl,hD6,hB6⟩)
    go_roundw
    case rel =>
     refine⟨j+1,by go_num,by omega,?_,HB.out.trans hB6⟩
     rw[HRUN.out]
     exact hD6.mono (by omega)
    case measure=>simp[intOf];omega
   ·obtain rfl:j=len:=by omega
    have hT:l.take j=l:=List.take_of_length_le (by have:=hl.out;omega)
    rw[hT] at HD
    obtain⟨L,hL⟩ : ∃ L,L=AcT.run Z.exA l:=⟨_,rfl⟩
    have HW:Hid (∀ x∈L,path Z.exA <+: x.p):=by rw[hL];exact hide (AcT.run_in _ _)
    rw[<- hL] at HD
    have hK:j*300<=1000000:=by omega
    obtain⟨K,hKe⟩ : ∃ K,K=j*300:=⟨_,rfl⟩
    rw[<- hKe] at HD hK
    obtain⟨lo,hlo⟩ : ∃ lo,lo=(Z.owner k).length:=⟨_,rfl⟩
    have hlo1:1<=lo:=by
     rw[hlo]
     obtain⟨q,_,e⟩:=Z.owner_at k
     rw[e,List.length_append]
     have:Z.exA.length=1:=rfl
     omega
    have HLO:=hide hlo
    clear hT hL hKe hlo
    go_wp2_with (first
     | (go_at_call 21;have hq:=HS2.out;clear hq;refine (owner_any k hk w2).mono ?_;rintro e w3 ⟨v3,rfl,hO3,hB3⟩;obtain⟨a3,c3,rfl,hS3,_,hc3,_⟩:=hO3.open;rw[<- HLO.out] at hc3 ⊢; obtain⟨a4,hsl,hS4⟩:=slice_from (k:=1) (x:=1) rfl hS3 HLO.out.symm hlo1 hc3)
     | (go_at_call 12;have hq:=HS1.out;clear hq;refine (apex_any w1).mono ?_;rintro e w2 ⟨v2,rfl,hO2,hB2⟩;obtain⟨a2,c2,rfl,hS2,_,hc2,_⟩:=hO2.open;have HS2:=hide hS2;clear hS2 hO2)
     | (go_at_call 21;have hq:=HB.out;clear hq;refine (owner_any k hk wr).mono ?_;rintro e w1 ⟨v1,rfl,hO1,hB1⟩;obtain⟨a1,c1,rfl,hS1,_,hc1,_⟩:=hO1.open;rw[<- HLO.out] at hc1 ⊢; have HS1:=hide hS1;clear hS1 hO1)
     | fail)
    obtain⟨nb,hnb⟩ : ∃ nb,nb=w3.heap.size:=⟨_,rfl⟩
    rw[<- hnb]
    obtain⟨w4,hw4⟩ : ∃ w4,w4=w3.alloc (.cells #[.slice no ln cn,.slice a1 lo c1,.slice a2 Z.exA.length c2,.slice a4 (lo - 1) (c3 - 1)] 28):=⟨_,rfl⟩
    rw[<- hw4]
    have hb12:=hB1.trans ((hB2.trans (hB3.mono hB2.size)).mono hB1.size)
    have hb34:Below w3.heap.size w3 w4:=by rw[hw4];exact (Below.refl _ w3).alloc (Nat.le_refl _) _
    have hb4:Below wr.heap.size wr w4:=hb12.trans (hb34.mono hb12.size)
    have HD4:=hide (HD.out.bel hb4)
    have HB4:=hide (HB.out.trans (hb4.mono HD.out.le))
    obtain⟨M,hM⟩ : ∃ M,M = [n,Z.owner k,Z.exA,(Z.owner k).drop 1]:=⟨_,rfl⟩
    have hb14:Below w1.heap.size w1 w4:=(hB2.trans (hB3.mono hB2.size)).trans (hb34.mono (Nat.le_trans hB2.size hB3.size))
    have hb24:Below w2.heap.size w2 w4:=hB3.trans (hb34.mono hB3.size)
    have HN:Hid (Nm4 w4 nb M):=by
     have hr:RowAt w4 nb 28 #[.slice no ln cn,.slice a1 lo c1,.slice a2 Z.exA.length c2,.slice a4 (lo - 1) (c3 - 1)]:=by rw[hw4,hnb];exact RowAt.new w3 _ _
     refine hide ⟨hr.lt,fun j q hq=>?_⟩
     rw[hM] at hq
     rcases j with _ | _ | _ | _ | j
     ·injection hq with hq;subst hq
      exact⟨no,cn,by rw[hln.out];exact hr.cell 0,HSN.out.below HB4.out (by rw[HBe.out];exact Nat.le_refl _),by rw[hln.out];exact hlc⟩
     ·injection hq with hq;subst hq
      exact⟨a1,c1,by rw[<- HLO.out];exact hr.cell 1,HS1.out.below hb14 (Nat.le_refl _),by rw[<- HLO.out];exact hc1⟩
     ·injection hq with hq;subst hq
      exact⟨a2,c2,hr.cell 2,HS2.out.below hb24 (Nat.le_refl _),hc2⟩
     ·injection hq with hq;subst hq
      exact⟨a4,c3 - 1,by rw[List.length_drop, <- HLO.out];exact hr.cell 3,hS4.below hb34 (Nat.le_refl _),by rw[List.length_drop, <- HLO.out];omega⟩
     ·simp at hq
    have HSM:Hid (∀ q∈M,N.Small q):=by
     refine hide fun q hq=>?_
     rw[hM] at hq
     simp only[List.mem_cons,List.not_mem_nil,or_false] at hq
     rcases hq with rfl | rfl | rfl | rfl
     ·exact HLT.out.small
     ·exact Z.owner_small k
     ·exact exA_small
     ·have h:=Z.owner_small k
      exact⟨by rw[List.length_drop];have:=h.1;omega,fun l hl=>h.2 l (List.mem_of_mem_drop hl)⟩
    have HM4:M.length=4:=by rw[hM];rfl
    have hnb4:B<=w4.heap.size:=HD4.out.le
    clear hM hw4 hnb hb12 hb34 hb4 hb14 hb24 HS1 HS2 hS4 hS3 hO3 hB1 hB2 hB3 hsl hc1 hc2 hc3 HLO hlo1 HD HB
    go_loopw [13] (fun i wr => ∃ j:Nat,i = .int .i64 (j:Int)/\j<=4/\Below w4.heap.size w4 wr) (fun i _=>4 - (intOf i).toNat)
    case atStart=>exact⟨0,rfl,by omega,Below.refl _ w4⟩
    case round =>
     obtain⟨i4,rfl,hi4,hB⟩:=hrel
     have HB:=hide hB
     have HD:=hide (HD4.out.bel hB)
     clear hB
     by_cases hlt4:i4<4
     ·obtain⟨q,hq⟩ : ∃ q,M[i4]?=some q:=⟨_,List.getElem?_eq_getElem (by rw[HM4];exact hlt4)⟩
      have hqs:=HSM.out q (List.mem_of_getElem? hq)
      obtain⟨qa,qc,hc0,hS0,hqc⟩:=HN.out.2 i4 q hq
      have hcq : ∀ W,Below w4.heap.size w4 W->W.cell? ⟨nb,i4,none⟩=some (.slice qa q.length qc):=fun W hW=>(World.cell?_of_block (hW.block nb HN.out.1)).trans hc0
      have hSq : ∀ W,Below w4.heap.size w4 W->SlS W qa q:=fun W hW=>hS0.below hW (Nat.le_refl _)
      obtain⟨ql,hql⟩ : ∃ ql,ql=q.length:=⟨_,rfl⟩
      rw[<- hql] at hcq hqc
      have HQL:=hide hql.symm
      have HCQ:=hide hcq
      have HSQ:=hide hSq
      have HQS:=hide hqs
      have hql6:ql<=1000000:=by rw[hql];exact hqs.1
      obtain⟨tyk,htk⟩ : ∃ tyk,tyk=Z.typeK k:=⟨_,rfl⟩
      have htk6:tyk<65536:=by rw[htk];exact Z.typeK_lt _
      have HTK:=hide htk
      have hi4k:(i4:Int)<4:=by omega
      clear hc0 hS0 hcq hSq hql hqs hq htk
      go_wp2_with (go_at_call 22;refine (seatType_any k hk wr).mono ?_;rintro e w5 ⟨rfl,hB5⟩;rw[<- HTK.out])
      obtain⟨tb,htb⟩ : ∃ tb,tb=w5.heap.size:=⟨_,rfl⟩
      rw[<- htb]
      obtain⟨w6,hw6⟩ : ∃ w6,w6=w5.alloc (.cells #[.int .u16 (t:Int),.int .u16 (tyk:Int),.int .u16 2] 36):=⟨_,rfl⟩
      rw[<- hw6]
      have hB56:Below w5.heap.size w5 w6:=by rw[hw6];exact (Below.refl _ w5).alloc (Nat.le_refl _) _
      have HB6:=hide (HB.out.trans ((hB5.trans (hB56.mono hB5.size)).mono HB.out.size))
      have HTB:Hid (∀ s,s<3 -> ∃ ty,ty<65536 /\ ∀ W,Below w6.heap.size w6 W->W.cell? ⟨tb,s,none⟩=some (.int .u16 ((ty:Nat):Int))):=by
       have hr:RowAt w6 tb 36 #[.int .u16 (t:Int),.int .u16 (tyk:Int),.int .u16 2]:=by rw[hw6,htb];exact RowAt.new w5 _ _
       refine hide fun s hs=>?_
       rcases s with _ | _ | _ | s
       ·exact⟨t,ht,fun W hW=>(World.cell?_of_block (hW.block tb hr.lt)).trans (hr.cell 0)⟩
       ·exact⟨tyk,htk6,fun W hW=>(World.cell?_of_block (hW.block tb hr.lt)).trans (hr.cell 1)⟩
       ·exact⟨2,by decide,fun W hW=>(World.cell?_of_block (hW.block tb hr.lt)).trans (hr.cell 2)⟩
       ·omega
      have HD6:=hide (HD4.out.bel HB6.out)
      clear hw6 htb hB56 hB5 HTK
      go_loopw [69] (fun i wr => ∃ s:Nat,i = .int .i64 (s:Int)/\s<=3/\Below w6.heap.size w6 wr) (fun i _=>3 - (intOf i).toNat)
      case atStart=>exact⟨0,rfl,by omega,Below.refl _ w6⟩
      case round =>
       obtain⟨s,rfl,hs3,hB⟩:=hrel
       have HB:=hide hB
       clear hB
       by_cases hlt3:s<3
       ·obtain⟨ty,hty,hcl⟩:=HTB.out s hlt3
        have hcl0:=hcl wr HB.out
        have hB64:=HB6.out.trans (HB.out.mono HB6.out.size)
        have hcq0:=HCQ.out wr hB64
        have D:=HD6.out.bel HB.out
        have hZ:=zset_live D.z hK q qa ql qc HQL (HSQ.out wr hB64) HQS ty hty
        have hM : ∀ W,Below wr.heap.size wr W->Calls Tryz.prog 24 #[.pointer (some ⟨m,0,none⟩),.slice qa ql qc,.int .u16 (ty:Int)] W fun e w'=>SetR W L q ql ty e w':=fun W hW=>mSet_any W base m Z.exA L (D.bel hW).r q qa ql qc HQL (HSQ.out W (hB64.trans (hW.mono hB64.size))) HQS ty
        have hcq1 : ∀ W,Below wr.heap.size wr W->W.cell? ⟨nb,i4,none⟩=some (.slice qa ql qc):=fun W hW=>HCQ.out W (hB64.trans (hW.mono hB64.size))
        have HCQ1:=hide hcq1
        have hs3k:(s:Int)<3:=by omega
        obtain⟨nm,LL,l5,tt,ss,qn,fl,hnm,hqn,hqn5,hl5,hsame⟩:=SetR.same L q ql ty HQL.out hql6 D.r.num
        have HZ0:=hide (hZ.mono fun e w'=>hsame wr e w')
        have HM0:=hide (fun W hW=>(hM W hW).mono fun e w'=>hsame W e w')
        have HNM:=hide hnm
        have HQN:=hide hqn
        clear hZ hM hcl hcq1 D hB64 hsame hnm hqn
        cases fl
        all_goals
         go_wp2_with (first
          | (go_at_call 25;refine (hset_same nm LL a7 a8 b7 b8 l5 c7 c8 qn e7 e8 tt ss _ _ _ HNM (HS79.out) (hS8.alloc _) (by omega) HQN HO79.out (hO8.bel (fun _ _ h=>h.kb (KB.of_below hB99)) hB99) hqn5).mono ?_;rintro e w9 ⟨rfl,hB9⟩)
          | (go_at_call 24;have hq:=HB77.out;clear hq;refine (HM0.out _ HB77.out).mono ?_;rintro e w8 ⟨a8,c8,b8,e8,rfl,hS8,hO8,hB8⟩;have hB99:=(Below.refl w8.heap.size w8).alloc (Nat.le_refl _) (.cells #[.slice a8 l5 c8,.int .u16 (tt:Int),.int .u32 (ss:Int),.slice b8 qn e8] 54);have hB89:=hB8.trans (hB99.mono hB8.size);have r7:=HR7.out.below hB89 HR7.out.lt;have r8:=RowAt.new w8 54 #[.slice a8 l5 c8,.int .u16 (tt:Int),.int .u32 (ss:Int),.slice b8 qn e8];have HS79:=hide (HS77.out.below hB89 (Nat.le_refl _));have HO79:=hide (HO77.out.bel (fun _ _ h=>h.kb (KB.of_below hB89)) hB89);have HB79:=hide (HB77.out.trans (hB89.mono HB77.out.size));obtain⟨x0,x1,x2,x3⟩:=set_facts r7;obtain⟨y0,y1,y2,y3⟩:=set_facts r8)
          | (go_at_call 23;refine HZ0.out.mono ?_;rintro e w7 ⟨a7,c7,b7,e7,rfl,hS7,hO7,hB7⟩;have hB77:=hB7.trans (((Below.refl w7.heap.size w7).alloc (Nat.le_refl _) (.cells #[.slice a7 l5 c7,.int .u16 (tt:Int),.int .u32 (ss:Int),.slice b7 qn e7] 54)).mono hB7.size);have hcq7:=HCQ1.out _ hB77;have HB77:=hide hB77;have HR7:=hide (RowAt.new w7 54 #[.slice a7 l5 c7,.int .u16 (tt:Int),.int .u32 (ss:Int),.slice b7 qn e7]);have HS77:=hide (hS7.alloc (.cells #[.slice a7 l5 c7,.int .u16 (tt:Int),.int .u32 (ss:Int),.slice b7 qn e7] 54));have hB78:=(Below.refl w7.heap.size w7).alloc (Nat.le_refl _) (.cells #[.slice a7 l5 c7,.int .u16 (tt:Int),.int .u32 (ss:Int),.slice b7 qn e7] 54);have HO77:=hide (hO7.bel (fun _ _ h=>h.kb (KB.of_below hB78)) hB78);clear hB77 hS7 hO7 hB78 hB7)
          | fail)
         refine⟨⟨s+1,by go_num,by omega,HB.out.trans ((HB79.out.trans (hB9.mono HB79.out.size)).mono HB.out.size)⟩,by simp[intOf];omega⟩
       ·obtain rfl:s=3:=by omega
        have hB64:=HB6.out.trans (HB.out.mono HB6.out.size)
        have D:=HD6.out.bel HB.out
        have hcq0:=HCQ.out wr hB64
        have hcq1 : ∀ W,Below wr.heap.size wr W->W.cell? ⟨nb,i4,none⟩=some (.slice qa ql qc):=fun W hW=>HCQ.out W (hB64.trans (hW.mono hB64.size))
        have HCQ1:=hide hcq1
        have hSq1 : ∀ W,Below wr.heap.size wr W->SlS W qa q:=fun W hW=>HSQ.out W (hB64.trans (hW.mono hB64.size))
        have HSQ1:=hide hSq1
        have HD9:=hide D
        have HB64:=hide hB64
        have hZ:=zcut_live D.z exA_small.1 q qa ql qc HQL (HSQ.out wr hB64) HQS
        have hM : ∀ W,Below wr.heap.size wr W->Calls Tryz.prog 27 #[.pointer (some ⟨m,0,none⟩),.slice qa ql qc] W fun e w'=>CutL W Z.exA L q e w':=fun W hW=>mCut_any W base m Z.exA L (D.bel hW).r (hide exA_small) HW q qa ql qc HQL hqc (hSq1 W hW) HQS
        obtain⟨nm,dn,fl,hnm,hdn,hsame⟩:=CutL.same Z.exA L q
        rw[HQL.out] at hdn
        have HZ0:=hide (hZ.mono fun e w'=>hsame wr e w')
        have HM0:=hide (fun W hW=>(hM W hW).mono fun e w'=>hsame W e w')
        have HNM:=hide hnm
        obtain⟨hh,hhe⟩ : ∃ hh,hh=Z.has L (path q):=⟨_,rfl⟩
        have HH:=hide hhe
        clear hZ hM hcq1 hSq1 D hB64 hsame hnm hhe HCQ HSQ HTB
        go_wp2_with (first
         | (go_at_call 27;have hq:=HB7.out;clear hq;refine (HM0.out _ HB7.out).mono ?_;rintro e w8 ⟨ma,mc,rfl,hSM,hB8⟩;have HSZ8:=hide (HSZ.out.below hB8 (Nat.le_refl _));have HSM:=hide hSM;have HB8:=hide (HB7.out.trans (hB8.mono HB7.out.size));clear hSM hB8)
         | (go_at_call 26;refine HZ0.out.mono ?_;rintro e w7 ⟨za,zc,rfl,hSZ,hB7⟩;have hcq7:=HCQ1.out _ hB7;have HB7:=hide hB7;have HSZ:=hide hSZ;clear hB7 hSZ)
         | fail)
        have hcq8:=HCQ1.out _ HB8.out
        have HD8:=hide (HD9.out.bel HB8.out)
        have HSQ8:Hid (∀ W,Below w8.heap.size w8 W->SlS W qa q):=hide fun W hW=>HSQ1.out W (HB8.out.trans (hW.mono HB8.out.size))
        have SAll:Hid (∀ W,Below w8.heap.size w8 W->W.cell? ⟨nb,i4,none⟩=some (.slice qa ql qc)):=hide fun W hW=>HCQ1.out W (HB8.out.trans (hW.mono HB8.out.size))
        have HBZ:=hide (HB64.out.trans (HB8.out.mono HB64.out.size))
        refine wp_region_X (S:=fun w'=>w'.cell? ⟨nb,i4,none⟩=some (.slice qa ql qc)) (jS:=1000) (by kernel_rfl) ?_
        have BA:Hid (Below w8.heap.size w8 w8.drew):=hide ((Below.refl _ w8).drew)
        have SA:=hide (SAll.out _ BA.out)
        generalize w8.drew=w1d at BA SA ⊢
        refine tk gt0 SA.out ?_
        refine tk gt1 SA.out ?_
        refine tk gt2 SA.out ?_
        refine tk gt3 SA.out ?_
        refine tk gt4 SA.out ?_
        refine tk gt5 SA.out ?_
        refine rdy gt6 (fun K hKK=>?_)
        have hhn:=hname_any nm nm za ma dn dn zc mc w1d HNM HNM (HSZ8.out.below BA.out (Nat.le_refl _)) (HSM.out.below BA.out (Nat.le_refl _)) (by omega) (by omega)
        rw[decide_eq_true (rfl:nm=nm)] at hhn
        refine step_fng (by rfl) _ _ (by go_simp) hhn (by rintro e w' ⟨rfl,_⟩;exact⟨_,rfl⟩) ?_
        rintro _ w2 ⟨he,hk6⟩
        cases he
        have B1:Hid (Below w8.heap.size w8 w2):=by obtain⟨q,rfl⟩:=hk6;exact hide (below_drewN BA.out q)
        clear hk6 hhn
        have SA1:=hide (SAll.out _ B1.out)
        refine kk hKK (Or.inr SA1.out) ?_
        clear hKK
        refine tk gt7 SA1.out ?_
        refine tk gt8 SA1.out ?_
        refine tk gt9 SA1.out ?_
        refine tk gt10 SA1.out ?_
        refine tk gt11 SA1.out ?_
        refine tk gt12 SA1.out ?_
        refine tk gt13 SA1.out ?_
        refine tk gt14 SA1.out ?_
        refine tk gt16 SA1.out ?_
        refine tk gt17 SA1.out ?_
        refine tk gt18 SA1.out ?_
        refine tk gt19 SA1.out ?_
        refine tk gt20 SA1.out ?_
        refine rdy gt15 (fun K hKK=>?_)
        have hz:=zhas_live (HD8.out.bel B1.out).z q qa ql qc HQL (HSQ8.out _ B1.out) HQS
        rw[<- HH.out] at hz
        refine step_fng (by rfl) _ _ (by go_simp) (hz) (by rintro e w' ⟨rfl,_⟩;exact⟨_,rfl⟩) ?_
        rintro _ w3 ⟨he,hb⟩
        cases he
        have B2:=hide (B1.out.trans (hb.mono B1.out.size))
        clear hb
        clear hz
        have SA2:=hide (SAll.out _ B2.out)
        refine kk hKK (Or.inr SA2.out) ?_
        clear hKK
        refine rdy gt21 (fun K hKK=>?_)
        have hz:=mHas_any _ base m Z.exA L (HD8.out.bel B2.out).r q qa ql qc HQL (HSQ8.out _ B2.out) HQS
        rw[<- HH.out] at hz
        refine step_fng (by rfl) _ _ (by go_simp) (hz) (by rintro e w' ⟨rfl,_⟩;exact⟨_,rfl⟩) ?_
        rintro _ w4m ⟨he,hb⟩
        cases he
        have B3:=hide (B2.out.trans (hb.mono B2.out.size))
        clear hb
        clear hz
        have SA3:=hide (SAll.out _ B3.out)
        refine kk hKK (Or.inr SA3.out) ?_
        clear hKK
        refine tk gt22 SA3.out ?_
        refine tk gt23 SA3.out ?_
        refine tk gt24 SA3.out ?_
        refine tk gt25 SA3.out ?_
        refine tk gt26 SA3.out ?_
        refine tk gt27 SA3.out ?_
        refine tk gt28 SA3.out ?_
        refine tk gt29 SA3.out ?_
        refine tk gt31 SA3.out ?_
        refine tk gt32 SA3.out ?_
        refine tk gt33 SA3.out ?_
        refine tk gt34 SA3.out ?_
        refine tk gt35 SA3.out ?_
        refine rdy gt30 (fun K hKK=>?_)
        refine step_fng (by rfl) _ _ (by go_simp) (ztypes_live (HD8.out.bel B3.out).z hK q qa ql qc HQL (HSQ8.out _ B3.out) HQS) (by rintro e w' ⟨v,rfl,_⟩;exact⟨_,rfl⟩) ?_
        rintro _ w5m ⟨v,he,ts1,ht1,hO1,hb⟩
        cases he
        have B4:=hide (B3.out.trans (hb.mono B3.out.size))
        clear hb
        obtain⟨t1a,t1c,rfl,_,_,_,_⟩:=hO1.open
        have HT1:=hide ht1
        obtain⟨tn,htn⟩ : ∃ tn,tn=ts1.length:=⟨_,rfl⟩
        rw[<- htn] at hO1 ⊢
        have HTN:=hide htn
        have htn5:tn<=100000:=by rw[htn, <- List.length_map,ht1];have h1:=types_len L (path q) L.length;rw[List.take_length] at h1;have h2:=HD8.out.r.num;omega
        have HO1:=hide hO1
        clear hO1 ht1 htn
        have SA4:=hide (SAll.out _ B4.out)
        refine kk hKK (Or.inr SA4.out) ?_
        clear hKK
        refine rdy gt36 (fun K hKK=>?_)
        refine step_fng (by rfl) _ _ (by go_simp) (mTypes_any _ base m Z.exA L (HD8.out.bel B4.out).r q qa ql qc HQL (HSQ8.out _ B4.out) HQS) (by rintro e w' ⟨v,rfl,_⟩;exact⟨_,rfl⟩) ?_
        rintro _ w6m ⟨v,he,ts2,ht2,hO2,hb⟩
        cases he
        have B5:=hide (B4.out.trans (hb.mono B4.out.size))
        have hb9:=hb
        obtain⟨t2a,t2c,rfl,_,_,_,_⟩:=hO2.open
        obtain rfl:ts2=ts1:=(List.map_inj_right (fun a b h=>UInt16.toNat_inj.1 h)).1 (ht2.trans HT1.out.symm)
        rw[<- HTN.out] at hO2 ⊢
        have HO2:=hide hO2
        have HO3:=hide (HO1.out.below hb9)
        clear hb
        clear hO2 ht2 hb9 HO1
        have SA5:=hide (SAll.out _ B5.out)
        refine kk hKK (Or.inr SA5.out) ?_
        clear hKK
        refine rdy gt37 (fun K hKK=>?_)
        refine step_fng (by rfl) _ _ (by go_simp) (htypes_same ts2 t1a t2a tn t1c t2c _ _ w6m HTN HO3.out HO2.out htn5) (by rintro e w' ⟨rfl,_⟩;exact⟨_,rfl⟩) ?_
        rintro _ w7m ⟨he,hb⟩
        cases he
        have B6:=hide (B5.out.trans (hb.mono B5.out.size))
        clear hb
        have SA6:=hide (SAll.out _ B6.out)
        refine kk hKK (Or.inr SA6.out) ?_
        clear hKK
        refine tk gt38 SA6.out ?_
        refine tk gt39 SA6.out ?_
        refine wpAnyX_done (by kernel_rfl) ?_ _
        go_wp2
        go_roundw
        case rel=>exact⟨i4+1,by go_num,by omega,HBZ.out.trans (B6.out.mono HBZ.out.size)⟩
        case measure=>simp[intOf];omega
     ·obtain rfl:i4=4:=by omega
      go_wp2
      go_ret
      exact⟨rfl,by rw[<- HBe.out];exact HB4.out.trans (HB.out.mono hnb4)⟩
end Go.Proofs.YtbkegikdmmnkaaaGreat
